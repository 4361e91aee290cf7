import Derived.Test.YtogbkfakihnbdaaGreatDoorRSnG
import Derived.Test.YtogbkfakihnbdaaGreatDoorSnI
import Derived.Test.YtogbkfakihnbdaaGreatDoorRSnD
/- The walk of SnapTakes (layer 13). -/
namespace Go.Proofs.YtogbkfakihnbdaaGreatDoor
open Go.RowKit
set_option linter.unusedSimpArgs false

theorem bool_exT (P : Prop) : ∃ B : Bool, B = true ↔ P := ⟨@decide P (Classical.propDecidable P), by simp⟩

theorem boolF_exT (P : Nat → Prop) : ∃ G : Nat → Bool, ∀ k, G k = true ↔ P k := ⟨fun k => @decide (P k) (Classical.propDecidable (P k)), fun k => by simp⟩

/-- What both take of bytes that are a tree's. -/
theorem takes_yes (M : OpT → Bool) (hM : ∀ o, M o = true ↔ MayO o) (s : ByteArray) (hs : s.size ≤ 2048) (w : World) (l : List NodeT) (ops : List OpT) (b1 b2 : Int) (hx : readSC s = (l, ops, (b1, b2))) (D E : Bool) (hD : D = true ↔ FixT (l, ops, (b1, b2))) (hE : E = true ↔ RiseO ops) (P : ByteArray) (Er : Int) (hP : putSP M D E (l, ops, (b1, b2)) = (P, Er)) :
    ((Er = 0 ∧ P = s) ∧ (∀ W, Below w.heap.size w W → Calls Tryz.prog 6 #[.string s] W fun e w' => Below W.heap.size W w' ∧ DTake w' l ops b1 b2 true e)) ∨
    (¬ (Er = 0 ∧ P = s) ∧ ∃ l' ops' c1 c2, (∀ W, Below w.heap.size w W → Calls Tryz.prog 6 #[.string s] W fun e w' => Below W.heap.size W w' ∧ DTake w' l' ops' c1 c2 false e)) := by
  obtain ⟨Dd, hDd⟩ := bool_exT (FixT (readSD s))
  obtain ⟨Ed, hEd⟩ := bool_exT (RiseO (readSD s).2.1)
  obtain ⟨G, hGk⟩ := boolF_exT (NodeOk (readSD s).1 (readSD s).2.2)
  obtain ⟨h1, h2⟩ := takes_same M hM s hs D E Dd Ed (by rw [hx]; exact hD) (by rw [hx]; exact hE) hDd hEd
  rw [hx, hP] at h1 h2
  have hcode := of_code M (t := readSD s) (G := G) (fun k _ => hGk k) Dd hDd
  obtain ⟨⟨Tn, R⟩, hTR⟩ : ∃ x, codeP M Dd (readSD s) = x := ⟨_, rfl⟩
  rw [hTR] at hcode h1
  have hiff : (Er = 0 ∧ P = s) ↔ (OkSD s ∧ (decide (R = 0) && Ed) = true) := by
    have k : ((P, Er) = (s, 0)) ↔ (Er = 0 ∧ P = s) := ⟨fun e => ⟨congrArg Prod.snd e, congrArg Prod.fst e⟩, fun e => by rw [e.1, e.2]⟩
    rw [← k, h1, Bool.and_eq_true, decide_eq_true_eq]
  by_cases hyes : Er = 0 ∧ P = s
  · refine .inl ⟨hyes, fun W _ => ?_⟩
    have he := h2 (by rw [hyes.1, hyes.2])
    have h := rtake_any M hM s W (by omega) G Tn R Ed true (fun k _ => hGk k) hcode.symm hEd ⟨fun _ => hiff.1 hyes, fun _ => rfl⟩
    rw [he] at h
    exact h
  · refine .inr ⟨hyes, (readSD s).1, (readSD s).2.1, (readSD s).2.2.1, (readSD s).2.2.2, fun W _ => ?_⟩
    exact rtake_any M hM s W (by omega) G Tn R Ed false (fun k _ => hGk k) hcode.symm hEd ⟨fun h => (by cases h), fun h => absurd (hiff.2 h) hyes⟩

set_option maxRecDepth 100000 in
set_option maxHeartbeats 8000000 in
theorem snapTakes_walk (s : ByteArray) (w : World) (hG : Glob8 w) : Calls Tryz.prog 3 #[.string s] w fun e w' => e = .returned (.bool true) ∧ Below w.heap.size w w' := by
  have CW : Hid (∀ W, Below w.heap.size w W → Calls Tryz.prog 4 #[] W fun e w' => e = .returned (.bool true) ∧ Below W.heap.size W w') := fun W hW => awake13 W (hG.below hW)
  by_cases hs : 2048 < s.size
  · have b0 : (2048 : Int) < (s.size : Int) := by omega
    have HB : Hid (Below w.heap.size w w) := Below.refl _ _
    go_enter Tryz.func3, Tryz.ntmps3
    go_wp2_with fail
    refine (CW.out _ HB.out).mono ?_
    rintro e w99 ⟨rfl, hb99⟩
    have hB99 := below_step HB.out (Nat.le_refl _) hb99
    clear CW hb99 HB
    go_wp2_with fail
    go_ret
    exact ⟨rfl, hB99⟩
  · have b0 : ¬ ((2048 : Int) < (s.size : Int)) := by omega
    obtain ⟨M, hM⟩ := mayM_ex
    obtain ⟨⟨l, ops, b1, b2⟩, hx⟩ : ∃ t, readSC s = t := ⟨_, rfl⟩
    obtain ⟨D, hD⟩ := bool_exT (FixT (l, ops, (b1, b2)))
    obtain ⟨E, hE⟩ := bool_exT (RiseO ops)
    obtain ⟨⟨P, Er⟩, hP⟩ : ∃ p, putSP M D E (l, ops, (b1, b2)) = p := ⟨_, rfl⟩
    have hfew := readSC_few s (by omega)
    have hszs := readSC_sizes s
    rw [hx] at hfew hszs
    simp only at hfew hszs
    have CT' : ∀ W, Below w.heap.size w W → _ := fun W hW => take_any M hM s W (by omega) (hG.below hW) l ops b1 b2 hx D E hD hE P Er hP
    have CP' : ∀ W a1 a2 c1 c2, Below w.heap.size w W → NodesAt W a1 l.length l → OpsAt W a2 ops.length ops → Calls Tryz.prog 8 #[.agg #[.slice a1 l.length c1, .slice a2 ops.length c2, .int .i64 b1, .int .i64 b2]] W fun e w' => e = .returned (.tuple #[.string P, .int .i64 Er]) ∧ Below W.heap.size W w' := fun W a1 a2 c1 c2 hW h1 h2 => by
      have h := put_any M hM l ops b1 b2 a1 a2 c1 c2 W D E (by omega) (by omega) hD hE hszs.1 hszs.2 h1 h2 (hG.below hW)
      rw [hP] at h
      exact h
    have hboth := takes_yes M hM s (by omega) w l ops b1 b2 hx D E hD hE P Er hP
    clear hM hD hE hP hx hszs
    rcases hboth with ⟨⟨rfl, rfl⟩, CR'⟩ | ⟨hno, l', ops', c1', c2', CR'⟩
    · have CS' : ∀ W a1 a2 d1 d2 c1 c2 e1 e2, NodesAt W a1 l.length l → OpsAt W a2 ops.length ops → NodesAt W d1 l.length l → OpsAt W d2 ops.length ops → _ := fun W a1 a2 d1 d2 c1 c2 e1 e2 h1 h2 h3 h4 => rsameS_any l ops b1 b2 a1 a2 d1 d2 c1 c2 e1 e2 W (by omega) (by omega) h1 h2 h3 h4
      obtain ⟨n1, hn1⟩ : ∃ n1, l.length = n1 := ⟨_, rfl⟩
      obtain ⟨n2, hn2⟩ : ∃ n2, ops.length = n2 := ⟨_, rfl⟩
      unfold TakeOut at CT'
      unfold DTake at CR'
      simp only [hn1, hn2, ne_eq, not_true_eq_false, or_self, if_false, if_true, ↓reduceIte] at CT' CR' CP' CS'
      have CT : Hid (∀ W, Below w.heap.size w W → _) := CT'
      have CR : Hid (∀ W, Below w.heap.size w W → _) := CR'
      have CP : Hid (∀ W a1 a2 c1 c2, Below w.heap.size w W → _) := CP'
      have CS : Hid (∀ W a1 a2 d1 d2 c1 c2 e1 e2, _) := CS'
      have HB0 : Hid (Below w.heap.size w w) := Below.refl _ _
      clear CT' CR' CP' CS' hn1 hn2 hfew hG
      go_enter Tryz.func3, Tryz.ntmps3
      go_wp2_with fail
      refine (CT.out _ HB0.out).mono ?_
      rintro e w1 ⟨hb1, hY⟩
      obtain ⟨a1, c1, a2, c2, r1, r2, rfl⟩ := hY
      have HB1 : Hid (Below w.heap.size w w1) := below_step HB0.out (Nat.le_refl _) hb1
      clear CT hb1 HB0
      have hb2 : Below w1.heap.size w1 ((w1.alloc (.cells #[.slice none 0 0, .slice none 0 0, .int .i64 0, .int .i64 0] 28)).setRow w1.heap.size #[.slice a1 n1 c1, .slice a2 n2 c2, .int .i64 b1, .int .i64 b2]) := below_setRow (below_new _ _) (Nat.le_refl _) _
      have X1 : Blk (w1.alloc (.cells #[.slice none 0 0, .slice none 0 0, .int .i64 0, .int .i64 0] 28)) 28 w1.heap.size #[.slice none 0 0, .slice none 0 0, .int .i64 0, .int .i64 0] := Blk.new _ _ _
      have HB2 : Hid (Below w.heap.size w ((w1.alloc (.cells #[.slice none 0 0, .slice none 0 0, .int .i64 0, .int .i64 0] 28)).setRow w1.heap.size #[.slice a1 n1 c1, .slice a2 n2 c2, .int .i64 b1, .int .i64 b2])) := below_step HB1.out (Nat.le_refl _) hb2
      have HK2 : Hid (Blk ((w1.alloc (.cells #[.slice none 0 0, .slice none 0 0, .int .i64 0, .int .i64 0] 28)).setRow w1.heap.size #[.slice a1 n1 c1, .slice a2 n2 c2, .int .i64 b1, .int .i64 b2]) 28 w1.heap.size #[.slice a1 n1 c1, .slice a2 n2 c2, .int .i64 b1, .int .i64 b2]) := X1.setRow _
      have HN2 : Hid (NodesAt ((w1.alloc (.cells #[.slice none 0 0, .slice none 0 0, .int .i64 0, .int .i64 0] 28)).setRow w1.heap.size #[.slice a1 n1 c1, .slice a2 n2 c2, .int .i64 b1, .int .i64 b2]) a1 n1 l ∧ OpsAt ((w1.alloc (.cells #[.slice none 0 0, .slice none 0 0, .int .i64 0, .int .i64 0] 28)).setRow w1.heap.size #[.slice a1 n1 c1, .slice a2 n2 c2, .int .i64 b1, .int .i64 b2]) a2 n2 ops) := ⟨r1.below hb2, r2.below hb2⟩
      obtain ⟨w2, hw2⟩ : ∃ w2, ((w1.alloc (.cells #[.slice none 0 0, .slice none 0 0, .int .i64 0, .int .i64 0] 28)).setRow w1.heap.size #[.slice a1 n1 c1, .slice a2 n2 c2, .int .i64 b1, .int .i64 b2]) = w2 := ⟨_, rfl⟩
      rw [hw2] at HB2 HK2
      try rw [hw2] at HN2
      go_wp2_with (with_reducible refine wpList_storeBlk rfl 28 _ _ rfl w1.heap.size #[.slice none 0 0, .slice none 0 0, .int .i64 0, .int .i64 0] #[.slice a1 n1 c1, .slice a2 n2 c2, .int .i64 b1, .int .i64 b2] (by with_unfolding_all rfl) (by with_unfolding_all rfl) X1 rfl (by kernel_rfl) (by kernel_rfl) ?_)
      obtain ⟨g3, hg3⟩ : ∃ g3, w1.heap.size = g3 := ⟨_, rfl⟩
      rw [hg3] at HK2
      try rw [hw2]
      try rw [hg3]
      clear hw2 hg3 X1 hb2 HB1 r1 r2
      refine (CR.out w2 HB2.out).mono ?_
      rintro e w3 ⟨hb3, hY⟩
      obtain ⟨d1, f1, d2, f2, t1, t2, rfl⟩ := hY
      have HB3 : Hid (Below w.heap.size w w3) := below_step HB2.out (Nat.le_refl _) hb3
      have HK3 : Hid (Blk w3 28 g3 #[.slice a1 n1 c1, .slice a2 n2 c2, .int .i64 b1, .int .i64 b2]) := HK2.out.on hb3
      have HN3 : Hid (NodesAt w3 a1 n1 l ∧ OpsAt w3 a2 n2 ops) := ⟨HN2.out.1.below hb3, HN2.out.2.below hb3⟩
      skip
      have hb4 : Below w3.heap.size w3 ((w3.alloc (.cells #[.slice none 0 0, .slice none 0 0, .int .i64 0, .int .i64 0] 28)).setRow w3.heap.size #[.slice d1 n1 f1, .slice d2 n2 f2, .int .i64 b1, .int .i64 b2]) := below_setRow (below_new _ _) (Nat.le_refl _) _
      have X3 : Blk (w3.alloc (.cells #[.slice none 0 0, .slice none 0 0, .int .i64 0, .int .i64 0] 28)) 28 w3.heap.size #[.slice none 0 0, .slice none 0 0, .int .i64 0, .int .i64 0] := Blk.new _ _ _
      have HB4 : Hid (Below w.heap.size w ((w3.alloc (.cells #[.slice none 0 0, .slice none 0 0, .int .i64 0, .int .i64 0] 28)).setRow w3.heap.size #[.slice d1 n1 f1, .slice d2 n2 f2, .int .i64 b1, .int .i64 b2])) := below_step HB3.out (Nat.le_refl _) hb4
      have HK4 : Hid (Blk ((w3.alloc (.cells #[.slice none 0 0, .slice none 0 0, .int .i64 0, .int .i64 0] 28)).setRow w3.heap.size #[.slice d1 n1 f1, .slice d2 n2 f2, .int .i64 b1, .int .i64 b2]) 28 g3 #[.slice a1 n1 c1, .slice a2 n2 c2, .int .i64 b1, .int .i64 b2]) := HK3.out.on hb4
      have HJ4 : Hid (Blk ((w3.alloc (.cells #[.slice none 0 0, .slice none 0 0, .int .i64 0, .int .i64 0] 28)).setRow w3.heap.size #[.slice d1 n1 f1, .slice d2 n2 f2, .int .i64 b1, .int .i64 b2]) 28 w3.heap.size #[.slice d1 n1 f1, .slice d2 n2 f2, .int .i64 b1, .int .i64 b2]) := X3.setRow _
      have HN4 : Hid ((NodesAt ((w3.alloc (.cells #[.slice none 0 0, .slice none 0 0, .int .i64 0, .int .i64 0] 28)).setRow w3.heap.size #[.slice d1 n1 f1, .slice d2 n2 f2, .int .i64 b1, .int .i64 b2]) a1 n1 l ∧ OpsAt ((w3.alloc (.cells #[.slice none 0 0, .slice none 0 0, .int .i64 0, .int .i64 0] 28)).setRow w3.heap.size #[.slice d1 n1 f1, .slice d2 n2 f2, .int .i64 b1, .int .i64 b2]) a2 n2 ops) ∧ (NodesAt ((w3.alloc (.cells #[.slice none 0 0, .slice none 0 0, .int .i64 0, .int .i64 0] 28)).setRow w3.heap.size #[.slice d1 n1 f1, .slice d2 n2 f2, .int .i64 b1, .int .i64 b2]) d1 n1 l ∧ OpsAt ((w3.alloc (.cells #[.slice none 0 0, .slice none 0 0, .int .i64 0, .int .i64 0] 28)).setRow w3.heap.size #[.slice d1 n1 f1, .slice d2 n2 f2, .int .i64 b1, .int .i64 b2]) d2 n2 ops)) := ⟨⟨HN3.out.1.below hb4, HN3.out.2.below hb4⟩, t1.below hb4, t2.below hb4⟩
      obtain ⟨w4, hw4⟩ : ∃ w4, ((w3.alloc (.cells #[.slice none 0 0, .slice none 0 0, .int .i64 0, .int .i64 0] 28)).setRow w3.heap.size #[.slice d1 n1 f1, .slice d2 n2 f2, .int .i64 b1, .int .i64 b2]) = w4 := ⟨_, rfl⟩
      rw [hw4] at HB4 HK4 HJ4
      try rw [hw4] at HN4
      have y0 : w4.cell? ⟨g3, 0, none⟩ = some _ := HK4.out.cell 0
      have y1 : w4.cell? ⟨g3, 1, none⟩ = some _ := HK4.out.cell 1
      have y2 : w4.cell? ⟨g3, 2, none⟩ = some _ := HK4.out.cell 2
      have y3 : w4.cell? ⟨g3, 3, none⟩ = some _ := HK4.out.cell 3
      have z0 : w4.cell? ⟨w3.heap.size, 0, none⟩ = some _ := HJ4.out.cell 0
      have z1 : w4.cell? ⟨w3.heap.size, 1, none⟩ = some _ := HJ4.out.cell 1
      have z2 : w4.cell? ⟨w3.heap.size, 2, none⟩ = some _ := HJ4.out.cell 2
      have z3 : w4.cell? ⟨w3.heap.size, 3, none⟩ = some _ := HJ4.out.cell 3
      clear hb3 hb4 HB2 HK2 HN2 HB3 HK3 HN3 t1 t2 CR
      go_wp2_with (with_reducible refine wpList_storeBlk rfl 28 _ _ rfl w3.heap.size #[.slice none 0 0, .slice none 0 0, .int .i64 0, .int .i64 0] #[.slice d1 n1 f1, .slice d2 n2 f2, .int .i64 b1, .int .i64 b2] (by with_unfolding_all rfl) (by with_unfolding_all rfl) X3 rfl (by kernel_rfl) (by kernel_rfl) ?_)
      try rw [hw4]
      refine (CS.out w4 a1 a2 d1 d2 c1 c2 f1 f2 HN4.out.1.1 HN4.out.1.2 HN4.out.2.1 HN4.out.2.2).mono ?_
      rintro e w5 ⟨rfl, hb5⟩
      have HB5 : Hid (Below w.heap.size w w5) := below_step HB4.out (Nat.le_refl _) hb5
      have HK5 : Hid (Blk w5 28 g3 #[.slice a1 n1 c1, .slice a2 n2 c2, .int .i64 b1, .int .i64 b2]) := HK4.out.on hb5
      have HN5 : Hid (NodesAt w5 a1 n1 l ∧ OpsAt w5 a2 n2 ops) := ⟨HN4.out.1.1.below hb5, HN4.out.1.2.below hb5⟩
      clear CS hb5 HB4 HK4 HJ4 HN4 X3 hw4 y0 y1 y2 y3 z0 z1 z2 z3
      have y0 : w5.cell? ⟨g3, 0, none⟩ = some _ := HK5.out.cell 0
      have y1 : w5.cell? ⟨g3, 1, none⟩ = some _ := HK5.out.cell 1
      have y2 : w5.cell? ⟨g3, 2, none⟩ = some _ := HK5.out.cell 2
      have y3 : w5.cell? ⟨g3, 3, none⟩ = some _ := HK5.out.cell 3
      go_wp2_with fail
      refine (CP.out w5 a1 a2 c1 c2 HB5.out HN5.out.1 HN5.out.2).mono ?_
      rintro e w6 ⟨rfl, hb6⟩
      have HB : Hid (Below w.heap.size w w6) := below_step HB5.out (Nat.le_refl _) hb6
      clear CP hb6 HB5 HK5 HN5 y0 y1 y2 y3
      go_wp2_with fail
      refine (CW.out _ HB.out).mono ?_
      rintro e w99 ⟨rfl, hb99⟩
      have hB99 := below_step HB.out (Nat.le_refl _) hb99
      clear CW hb99 HB
      go_wp2_with fail
      go_ret
      exact ⟨rfl, hB99⟩
    · have hor : Er ≠ 0 ∨ P ≠ s := by
        by_cases h : Er = 0
        · exact .inr (fun k => hno ⟨h, k⟩)
        · exact .inl h
      have CS : Hid (∀ W, _) := fun W => rsameS_any [] [] 0 0 none none none none 0 0 0 0 W (by decide) (by decide) ⟨rfl, .inl rfl⟩ ⟨rfl, .inl rfl⟩ ⟨rfl, .inl rfl⟩ ⟨rfl, .inl rfl⟩
      have CT : Hid (∀ W, Below w.heap.size w W → Calls Tryz.prog 5 #[.string s] W fun e w' => Below W.heap.size W w' ∧ e = .returned (.tuple #[.agg #[.slice none 0 0, .slice none 0 0, .int .i64 0, .int .i64 0], .int .i64 91])) := fun W hW => (CT' W hW).mono (fun e w' h => by
        obtain ⟨hb, a1, c1, a2, c2, _, _, rfl⟩ := h
        refine ⟨hb, ?_⟩
        rw [if_pos hor, if_pos hor])
      have CR : Hid (∀ W, Below w.heap.size w W → Calls Tryz.prog 6 #[.string s] W fun e w' => Below W.heap.size W w' ∧ ∃ d1 f1 d2 f2, True ∧ True ∧ e = .returned (.tuple #[.agg #[.slice none 0 0, .slice none 0 0, .int .i64 0, .int .i64 0], .int .i64 91])) := fun W hW => (CR' W hW).mono (fun e w' h => by
        obtain ⟨hb, a1, c1, a2, c2, _, _, rfl⟩ := h
        exact ⟨hb, a1, c1, a2, c2, trivial, trivial, rfl⟩)
      have HB0 : Hid (Below w.heap.size w w) := Below.refl _ _
      clear CT' CR' CP' hfew hG hno hor
      go_enter Tryz.func3, Tryz.ntmps3
      go_wp2_with fail
      refine (CT.out _ HB0.out).mono ?_
      rintro e w1 ⟨hb1, rfl⟩
      have HB1 : Hid (Below w.heap.size w w1) := below_step HB0.out (Nat.le_refl _) hb1
      clear CT hb1 HB0
      have hb2 : Below w1.heap.size w1 ((w1.alloc (.cells #[.slice none 0 0, .slice none 0 0, .int .i64 0, .int .i64 0] 28)).setRow w1.heap.size #[.slice none 0 0, .slice none 0 0, .int .i64 0, .int .i64 0]) := below_setRow (below_new _ _) (Nat.le_refl _) _
      have X1 : Blk (w1.alloc (.cells #[.slice none 0 0, .slice none 0 0, .int .i64 0, .int .i64 0] 28)) 28 w1.heap.size #[.slice none 0 0, .slice none 0 0, .int .i64 0, .int .i64 0] := Blk.new _ _ _
      have HB2 : Hid (Below w.heap.size w ((w1.alloc (.cells #[.slice none 0 0, .slice none 0 0, .int .i64 0, .int .i64 0] 28)).setRow w1.heap.size #[.slice none 0 0, .slice none 0 0, .int .i64 0, .int .i64 0])) := below_step HB1.out (Nat.le_refl _) hb2
      have HK2 : Hid (Blk ((w1.alloc (.cells #[.slice none 0 0, .slice none 0 0, .int .i64 0, .int .i64 0] 28)).setRow w1.heap.size #[.slice none 0 0, .slice none 0 0, .int .i64 0, .int .i64 0]) 28 w1.heap.size #[.slice none 0 0, .slice none 0 0, .int .i64 0, .int .i64 0]) := X1.setRow _
      have HN2 : Hid (True) := trivial
      obtain ⟨w2, hw2⟩ : ∃ w2, ((w1.alloc (.cells #[.slice none 0 0, .slice none 0 0, .int .i64 0, .int .i64 0] 28)).setRow w1.heap.size #[.slice none 0 0, .slice none 0 0, .int .i64 0, .int .i64 0]) = w2 := ⟨_, rfl⟩
      rw [hw2] at HB2 HK2
      try rw [hw2] at HN2
      go_wp2_with (with_reducible refine wpList_storeBlk rfl 28 _ _ rfl w1.heap.size #[.slice none 0 0, .slice none 0 0, .int .i64 0, .int .i64 0] #[.slice none 0 0, .slice none 0 0, .int .i64 0, .int .i64 0] (by with_unfolding_all rfl) (by with_unfolding_all rfl) X1 rfl (by kernel_rfl) (by kernel_rfl) ?_)
      obtain ⟨g3, hg3⟩ : ∃ g3, w1.heap.size = g3 := ⟨_, rfl⟩
      rw [hg3] at HK2
      try rw [hw2]
      try rw [hg3]
      clear hw2 hg3 X1 hb2 HB1 
      refine (CR.out w2 HB2.out).mono ?_
      rintro e w3 ⟨hb3, hY⟩
      obtain ⟨d1, f1, d2, f2, t1, t2, rfl⟩ := hY
      have HB3 : Hid (Below w.heap.size w w3) := below_step HB2.out (Nat.le_refl _) hb3
      have HK3 : Hid (Blk w3 28 g3 #[.slice none 0 0, .slice none 0 0, .int .i64 0, .int .i64 0]) := HK2.out.on hb3
      have HN3 : Hid (True) := trivial
      skip
      have hb4 : Below w3.heap.size w3 ((w3.alloc (.cells #[.slice none 0 0, .slice none 0 0, .int .i64 0, .int .i64 0] 28)).setRow w3.heap.size #[.slice none 0 0, .slice none 0 0, .int .i64 0, .int .i64 0]) := below_setRow (below_new _ _) (Nat.le_refl _) _
      have X3 : Blk (w3.alloc (.cells #[.slice none 0 0, .slice none 0 0, .int .i64 0, .int .i64 0] 28)) 28 w3.heap.size #[.slice none 0 0, .slice none 0 0, .int .i64 0, .int .i64 0] := Blk.new _ _ _
      have HB4 : Hid (Below w.heap.size w ((w3.alloc (.cells #[.slice none 0 0, .slice none 0 0, .int .i64 0, .int .i64 0] 28)).setRow w3.heap.size #[.slice none 0 0, .slice none 0 0, .int .i64 0, .int .i64 0])) := below_step HB3.out (Nat.le_refl _) hb4
      have HK4 : Hid (Blk ((w3.alloc (.cells #[.slice none 0 0, .slice none 0 0, .int .i64 0, .int .i64 0] 28)).setRow w3.heap.size #[.slice none 0 0, .slice none 0 0, .int .i64 0, .int .i64 0]) 28 g3 #[.slice none 0 0, .slice none 0 0, .int .i64 0, .int .i64 0]) := HK3.out.on hb4
      have HJ4 : Hid (Blk ((w3.alloc (.cells #[.slice none 0 0, .slice none 0 0, .int .i64 0, .int .i64 0] 28)).setRow w3.heap.size #[.slice none 0 0, .slice none 0 0, .int .i64 0, .int .i64 0]) 28 w3.heap.size #[.slice none 0 0, .slice none 0 0, .int .i64 0, .int .i64 0]) := X3.setRow _
      have HN4 : Hid ((True) ∧ (True)) := ⟨trivial, trivial⟩
      obtain ⟨w4, hw4⟩ : ∃ w4, ((w3.alloc (.cells #[.slice none 0 0, .slice none 0 0, .int .i64 0, .int .i64 0] 28)).setRow w3.heap.size #[.slice none 0 0, .slice none 0 0, .int .i64 0, .int .i64 0]) = w4 := ⟨_, rfl⟩
      rw [hw4] at HB4 HK4 HJ4
      try rw [hw4] at HN4
      have y0 : w4.cell? ⟨g3, 0, none⟩ = some _ := HK4.out.cell 0
      have y1 : w4.cell? ⟨g3, 1, none⟩ = some _ := HK4.out.cell 1
      have y2 : w4.cell? ⟨g3, 2, none⟩ = some _ := HK4.out.cell 2
      have y3 : w4.cell? ⟨g3, 3, none⟩ = some _ := HK4.out.cell 3
      have z0 : w4.cell? ⟨w3.heap.size, 0, none⟩ = some _ := HJ4.out.cell 0
      have z1 : w4.cell? ⟨w3.heap.size, 1, none⟩ = some _ := HJ4.out.cell 1
      have z2 : w4.cell? ⟨w3.heap.size, 2, none⟩ = some _ := HJ4.out.cell 2
      have z3 : w4.cell? ⟨w3.heap.size, 3, none⟩ = some _ := HJ4.out.cell 3
      clear hb3 hb4 HB2 HK2 HN2 HB3 HK3 HN3 t1 t2 CR
      go_wp2_with (with_reducible refine wpList_storeBlk rfl 28 _ _ rfl w3.heap.size #[.slice none 0 0, .slice none 0 0, .int .i64 0, .int .i64 0] #[.slice none 0 0, .slice none 0 0, .int .i64 0, .int .i64 0] (by with_unfolding_all rfl) (by with_unfolding_all rfl) X3 rfl (by kernel_rfl) (by kernel_rfl) ?_)
      try rw [hw4]
      refine (CS.out w4).mono ?_
      rintro e w5 ⟨rfl, hb5⟩
      have HB : Hid (Below w.heap.size w w5) := below_step HB4.out (Nat.le_refl _) hb5
      clear CS hb5 HB4 HK4 HJ4 HN4 X3 hw4 y0 y1 y2 y3 z0 z1 z2 z3
      go_wp2_with fail
      refine (CW.out _ HB.out).mono ?_
      rintro e w99 ⟨rfl, hb99⟩
      have hB99 := below_step HB.out (Nat.le_refl _) hb99
      clear CW hb99 HB
      go_wp2_with fail
      go_ret
      exact ⟨rfl, hB99⟩
end Go.Proofs.YtogbkfakihnbdaaGreatDoor
