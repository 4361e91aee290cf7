/- Layer 20, the document's: Take. -/
import Derived.Test.YtabhkebkbidfhaaDoorRGpD
import Derived.Test.YtabhkebkbidfhaaDoorRGpB
import Derived.Test.YtabhkebkbidfhaaDoorGpQ
import Derived.Test.YtabhkebkbidfhaaDoorGpC
import Derived.Test.YtabhkebkbidfhaaDoorGpT
namespace Go.Proofs.YtabhkebkbidfhaaDoor
open Go.RowKit
set_option maxRecDepth 100000
set_option linter.unusedSimpArgs false
set_option linter.unusedVariables false
set_option maxRecDepth 100000

theorem memsOf_snoc (l : List (Int × Int)) (x : Int × Int) : memsOf (l ++ [x]) = memsOf l ++ [((l.length : Int) + 1, x.1, decide (x.2 = 1))] := by
  unfold memsOf
  rw [List.length_append, List.length_singleton, List.range_succ, List.map_append]
  congr 1
  · apply List.map_congr_left
    intro i hi
    rw [List.mem_range] at hi
    simp only [List.getD_eq_getElem?_getD, List.getElem?_append_left hi]
  · simp

/-- What Take holds: the result's cell, the group's, the place, the members. -/
structure TdS (w : World) (h gi : Nat) (E O : Int) (v : Value) (l : List MemT) (i : ByteArray × Int) (W : World) : Prop where
  z : Blk W 24 w.heap.size #[.int .i64 0, .slice none 0 0, .int .i64 0]
  gg : Blk W 24 h #[.int .i64 E, v, .int .i64 O]
  i : Blk W 88 gi #[.string i.1, .int .i64 i.2]
  m : OwnM W (gi + 1) v l
  bel : Below w.heap.size w W
  n : w.heap.size < h ∧ h < gi ∧ gi < W.heap.size
theorem TdS.on {w W W' : World} {h gi : Nat} {E O : Int} {v : Value} {l : List MemT} {i : ByteArray × Int} (k : TdS w h gi E O v l i W) (hb : Below W.heap.size W W') : TdS w h gi E O v l i W' :=
  ⟨k.z.on hb, k.gg.on hb, k.i.on hb, owns_on k.m hb, below_step k.bel (Nat.le_refl _) hb, k.n.1, k.n.2.1, Nat.lt_of_lt_of_le k.n.2.2 hb.size⟩
theorem TdS.setI {w W : World} {h gi : Nat} {E O : Int} {v : Value} {l : List MemT} {i : ByteArray × Int} (k : TdS w h gi E O v l i W) (i' : ByteArray × Int) : TdS w h gi E O v l i' (W.setRow gi #[.string i'.1, .int .i64 i'.2]) := by
  obtain ⟨n1, n2, n3⟩ := k.n
  exact ⟨k.z.setRowOther _ (by omega) _, k.gg.setRowOther _ (by omega) _, k.i.setRow _, owns_same k.m (fun j hj => setRow_other W gi j _ (by have := (World.ownsRow.lt k.m j hj).1; omega)), below_setRow k.bel (by omega) _, n1, n2, by rw [size_setRow]; exact n3⟩
theorem TdS.setC {w W : World} {h gi : Nat} {E O : Int} {v : Value} {l : List MemT} {i : ByteArray × Int} (k : TdS w h gi E O v l i W) (E' O' : Int) (p : Nat) (u : Value) (hp : (#[Value.int .i64 E, v, .int .i64 O]).setIfInBounds p u = #[.int .i64 E', v, .int .i64 O']) : TdS w h gi E' O' v l i (W.setCell ⟨h, p, none⟩ u) := by
  obtain ⟨n1, n2, n3⟩ := k.n
  have q := k.gg.setAt p u
  rw [hp] at q
  exact ⟨k.z.other ⟨h, p, none⟩ (by show w.heap.size ≠ h; omega) _, q, k.i.other ⟨h, p, none⟩ (by show gi ≠ h; omega) _, owns_set k.m ⟨h, p, none⟩ (by show h < gi + 1; omega) _, k.bel.setCell (p := ⟨h, p, none⟩) (by show w.heap.size ≤ h; omega) _, n1, n2, by simpa [World.setCell] using n3⟩

/-- The numbers read so far. -/
structure LsD (s : ByteArray) (k : Nat) (i : ByteArray × Int) (pk : List (Int × Int)) : Prop where
  n : pk.length = k
  rd : readGL s = ((readLW readPr (6 - k) i).1, pk ++ (readLW readPr (6 - k) i).2)
  one : ∀ x ∈ pk, x.2 ≤ 1
  sz : i.1.size ≤ 1048576
theorem LsD.next {s : ByteArray} {k : Nat} {i : ByteArray × Int} {pk : List (Int × Int)} (h : LsD s k i pk) (hk : k < 6) (h1 : (readPr i).2.2 ≤ 1) : LsD s (k + 1) (readPr i).1 (pk ++ [(readPr i).2]) := by
  obtain ⟨m, hm⟩ : ∃ m, 6 - k = m + 1 := ⟨5 - k, by omega⟩
  refine ⟨by rw [List.length_append, h.n]; rfl, ?_, fun x hx => ?_, ?_⟩
  · rw [h.rd, hm, show 6 - (k + 1) = m by omega]
    show ((readLW readPr m (readPr i).1).1, pk ++ ((readPr i).2 :: (readLW readPr m (readPr i).1).2)) = _
    rw [List.append_assoc]; rfl
  · rcases List.mem_append.1 hx with e | e
    · exact h.one x e
    · rw [List.mem_singleton.1 e]; exact h1
  · exact Nat.le_trans (numberP_size _ _) (Nat.le_trans (inNumP_size _) h.sz)
theorem LsD.no {s : ByteArray} {k : Nat} {i : ByteArray × Int} {pk : List (Int × Int)} (h : LsD s k i pk) (hk : k < 6) (h1 : ¬ (readPr i).2.2 ≤ 1) : takeGP s = (grp0, 91) := by
  obtain ⟨m, hm⟩ : ∃ m, 6 - k = m + 1 := ⟨5 - k, by omega⟩
  unfold takeGP
  refine if_pos (.inl ?_)
  rw [h.rd, hm, ← Bool.not_eq_true, List.all_eq_true]
  intro hall
  have := hall (readPr i).2 (List.mem_append.2 (.inr (List.mem_cons_self ..)))
  rw [decide_eq_true_eq] at this
  exact h1 this
theorem LsD.last {s : ByteArray} {i : ByteArray × Int} {pk : List (Int × Int)} (h : LsD s 6 i pk) : takeGP s = if inDoneP i ≠ 0 ∨ mayGb (readGE s, memsOf pk, readGO s) = false then (grp0, 91) else ((readGE s, memsOf pk, readGO s), 0) := by
  have e : readGL s = (i, pk) := by rw [h.rd]; show (i, pk ++ []) = _; rw [List.append_nil]
  have ha : pk.all (fun x => decide (x.2 ≤ 1)) = true := by rw [List.all_eq_true]; intro x hx; rw [decide_eq_true_eq]; exact h.one x hx
  unfold takeGP readG
  rw [e]
  simp only
  rw [ha]
  by_cases hc : inDoneP i ≠ 0 ∨ mayGb (readGE s, memsOf pk, readGO s) = false
  · rw [if_pos hc, if_pos (.inr hc)]
  · rw [if_neg hc, if_neg (fun k => by rcases k with k | k; exact absurd k (by decide); exact hc k)]


set_option maxHeartbeats 8000000 in
theorem rtake20_any (s : ByteArray) (w : World) (hs : s.size ≤ 1048576) :
    Calls Tryd.prog 23 #[.string s] w (TakenG w (takeGP s)) := by
  obtain ⟨i0, hi, hz0, hz1, hz2⟩ := info_parts Tryd.infoM20
  obtain ⟨X, hX⟩ : ∃ X, takeGP s = X := ⟨_, rfl⟩
  rw [hX]
  have HX : Hid (takeGP s = X) := hX
  clear hX
  obtain ⟨⟨⟨S1, r1⟩, n1⟩, h1⟩ : ∃ q, inNumP (s, 0) = q := ⟨_, rfl⟩
  obtain ⟨⟨⟨S2, r2⟩, n2⟩, h2⟩ : ∃ q, inNumP (S1, r1) = q := ⟨_, rfl⟩
  have z1 : S1.size ≤ 1048576 := by have := inNumP_size (s, 0); rw [h1] at this; exact Nat.le_trans this hs
  have z2 : S2.size ≤ 1048576 := by have := inNumP_size (S1, r1); rw [h2] at this; exact Nat.le_trans this z1
  have C1 : Hid (∀ W, Calls Tryd.prog 51 #[.agg #[.string s, .int .i64 0]] W fun e w' => e = .returned (.tuple #[.agg #[.string S1, .int .i64 r1], .int .i64 (n1 : Int)]) ∧ Below W.heap.size W w') := fun W => by
    have q := rinNum_any (s, 0) W hs
    rw [h1] at q
    exact q
  have C2 : Hid (∀ W, Calls Tryd.prog 51 #[.agg #[.string S1, .int .i64 r1]] W fun e w' => e = .returned (.tuple #[.agg #[.string S2, .int .i64 r2], .int .i64 (n2 : Int)]) ∧ Below W.heap.size W w') := fun W => by
    have q := rinNum_any (S1, r1) W z1
    rw [h2] at q
    exact q
  have HEO : Hid (readGE s = (n1 : Int) ∧ readGO s = (n2 : Int)) := ⟨by show ((inNumP (s, 0)).2 : Int) = _; rw [h1], by show ((inNumP (inNumP (s, 0)).1).2 : Int) = _; rw [h1, h2]⟩
  have HL0 : Hid (LsD s 0 (S2, r2) []) := ⟨rfl, by
    show readGL s = ((readLW readPr 6 (S2, r2)).1, [] ++ (readLW readPr 6 (S2, r2)).2)
    unfold readGL readGI
    rw [h1, h2]; rfl, fun x hx => (by cases hx), z2⟩
  clear h1 h2 z1 z2 hs
  have n0 := below_new w (.cells #[.int .i64 0, .slice none 0 0, .int .i64 0] 24)
  have nn1 := below_new (w.alloc (.cells #[.int .i64 0, .slice none 0 0, .int .i64 0] 24)) (.cells #[.int .i64 0, .slice none 0 0, .int .i64 0] 24)
  obtain ⟨w1, hw1⟩ : ∃ w1, (w.alloc (.cells #[.int .i64 0, .slice none 0 0, .int .i64 0] 24)).alloc (.cells #[.int .i64 0, .slice none 0 0, .int .i64 0] 24) = w1 := ⟨_, rfl⟩
  have HZ1 : Hid (Blk w1 24 w.heap.size #[.int .i64 0, .slice none 0 0, .int .i64 0] ∧ Blk w1 24 (w.heap.size + 1) #[.int .i64 0, .slice none 0 0, .int .i64 0] ∧ Below w.heap.size w w1) := by
    rw [← hw1]
    exact ⟨(Blk.new w _ _).on nn1, Blk.new' _ _ _ _ (by simp), below_step n0 (Nat.le_refl _) nn1⟩
  have HW1 : Hid (_ = w1) := hw1
  clear n0 nn1 hw1
  go_enter Tryd.func23, Tryd.ntmps23
  go_wp2_with fail
  rw [HW1.out]
  clear HW1
  refine (C1.out w1).mono ?_
  rintro e w2 ⟨rfl, hb⟩
  have HT2 : Hid (TdS w (w.heap.size + 1) w2.heap.size (n1 : Int) 0 (.slice none 0 0) [] (S1, r1) ((w2.alloc (.cells #[.string S1, .int .i64 r1] 88)).setCell ⟨w.heap.size + 1, 0, none⟩ (.int .i64 (n1 : Int)))) := by
    obtain ⟨q1, q2, q3⟩ := HZ1.out
    have n2 := below_new w2 (.cells #[.string S1, .int .i64 r1] 88)
    have hs := hb.size
    have hl := q2.lt
    have k : TdS w (w.heap.size + 1) w2.heap.size 0 0 (.slice none 0 0) [] (S1, r1) (w2.alloc (.cells #[.string S1, .int .i64 r1] 88)) := ⟨(q1.on hb).on n2, (q2.on hb).on n2, Blk.new _ _ _, World.ownsRow_nil _ _ _ _, below_step (below_step q3 (Nat.le_refl _) hb) (Nat.le_refl _) n2, Nat.lt_succ_self _, by omega, by simp⟩
    exact k.setC _ _ 0 _ rfl
  have d0 : (w2.alloc (.cells #[.string S1, .int .i64 r1] 88)).cell? ⟨w.heap.size + 1, 0, none⟩ = some (.int .i64 0) := by
    have q := (HZ1.out.2.1.on hb).on (below_new w2 (.cells #[.string S1, .int .i64 r1] 88))
    exact q.cell 0
  have d1 : (w2.alloc (.cells #[.string S1, .int .i64 r1] 88)).frozen? ⟨w.heap.size + 1, 0, none⟩ = false := by
    have q := (HZ1.out.2.1.on hb).on (below_new w2 (.cells #[.string S1, .int .i64 r1] 88))
    exact q.free 0
  obtain ⟨w3, hw3⟩ : ∃ w3, (w2.alloc (.cells #[.string S1, .int .i64 r1] 88)).setCell ⟨w.heap.size + 1, 0, none⟩ (.int .i64 (n1 : Int)) = w3 := ⟨_, rfl⟩
  rw [hw3] at HT2
  have e0 : w3.cell? ⟨w2.heap.size, 0, none⟩ = some (.string S1) := HT2.out.i.cell 0
  have e1 : w3.cell? ⟨w2.heap.size, 1, none⟩ = some (.int .i64 r1) := HT2.out.i.cell 1
  have HW3 : Hid (_ = w3) := hw3
  rw [← hw3] at e0 e1
  clear hw3 hb HZ1 C1
  go_wp2_with fail
  rw [HW3.out]
  clear d0 d1 e0 e1 HW3
  obtain ⟨gi, hgi⟩ : ∃ gi, w2.heap.size = gi := ⟨_, rfl⟩
  obtain ⟨h, hh⟩ : ∃ h, w.heap.size + 1 = h := ⟨_, rfl⟩
  rw [hgi, hh] at HT2
  try rw [hgi]
  try rw [hh]
  clear hgi hh
  refine (C2.out w3).mono ?_
  rintro e w4 ⟨rfl, hb⟩
  have HT4 : Hid (TdS w h gi (n1 : Int) 0 (.slice none 0 0) [] (S1, r1) w4) := HT2.out.on hb
  have HT5 : Hid (TdS w h gi (n1 : Int) 0 (.slice none 0 0) [] (S2, r2) (w4.setRow gi #[.string S2, .int .i64 r2])) := HT4.out.setI (S2, r2)
  have X4 := HT4.out.i
  clear hb HT2 C2
  have d0 : (w4.setRow gi #[.string S2, .int .i64 r2]).cell? ⟨h, 2, none⟩ = some (.int .i64 0) := HT5.out.gg.cell 2
  have d1 : (w4.setRow gi #[.string S2, .int .i64 r2]).frozen? ⟨h, 2, none⟩ = false := HT5.out.gg.free 2
  have HT6 : Hid (TdS w h gi (n1 : Int) (n2 : Int) (.slice none 0 0) [] (S2, r2) ((w4.setRow gi #[.string S2, .int .i64 r2]).setCell ⟨h, 2, none⟩ (.int .i64 (n2 : Int)))) := HT5.out.setC _ _ 2 _ rfl
  go_wp2_with (with_reducible refine wpList_storeBlk rfl 88 _ _ rfl gi #[.string S1, .int .i64 r1] #[.string S2, .int .i64 r2] (by with_unfolding_all rfl) (by with_unfolding_all rfl) X4 rfl (by kernel_rfl) (by kernel_rfl) ?_)
  obtain ⟨w6, hw6⟩ : ∃ w6, (w4.setRow gi #[.string S2, .int .i64 r2]).setCell ⟨h, 2, none⟩ (.int .i64 (n2 : Int)) = w6 := ⟨_, rfl⟩
  rw [hw6] at HT6
  try rw [hw6]
  clear hw6 X4 HT4 HT5 d0 d1
  as_aux_lemma =>
  go_loopw [7] (fun v wr => ∃ k : Nat, k ≤ 6 ∧ v = .int .i64 ((k : Int) + 1) ∧ Hid (∃ i pk v, LsD s k i pk ∧ TdS w h gi (n1 : Int) (n2 : Int) v (memsOf pk) i wr)) (fun v _ => 8 - (intOf v).toNat)
  case atStart => exact ⟨0, Nat.zero_le _, rfl, (S2, r2), [], _, HL0.out, HT6.out⟩
  case round =>
    clear HL0 HT6
    obtain ⟨k, hk, rfl, HQ⟩ := hrel
    obtain ⟨i, pk, v, hL, hT⟩ := HQ.out
    have HLK : Hid (LsD s k i pk) := hL
    have HT : Hid (TdS w h gi (n1 : Int) (n2 : Int) v (memsOf pk) i wr) := hT
    clear HQ hL hT
    obtain ⟨S3, r3⟩ := i
    have d0 : wr.cell? ⟨gi, 0, none⟩ = some (.string S3) := HT.out.i.cell 0
    have d1 : wr.cell? ⟨gi, 1, none⟩ = some (.int .i64 r3) := HT.out.i.cell 1
    by_cases hlt : k < 6
    · have b0 : (k : Int) + 1 ≤ 6 := by omega
      have HK6 : Hid (k < 6) := hlt
      have hsz := HLK.out.sz
      obtain ⟨⟨⟨S4, r4⟩, n4⟩, h4⟩ : ∃ q, inNumP (S3, r3) = q := ⟨_, rfl⟩
      obtain ⟨⟨⟨S5, r5⟩, n5⟩, h5⟩ : ∃ q, numberP (S4, r4) 1 = q := ⟨_, rfl⟩
      have hpr : readPr (S3, r3) = ((S5, r5), ((n4 : Int), (n5 : Int))) := by unfold readPr; rw [h4]; simp only; rw [h5]
      have z4 : S4.size ≤ 1048576 := by have := inNumP_size (S3, r3); rw [h4] at this; exact Nat.le_trans this hsz
      have C4 : Hid (∀ W, Calls Tryd.prog 51 #[.agg #[.string S3, .int .i64 r3]] W fun e w' => e = .returned (.tuple #[.agg #[.string S4, .int .i64 r4], .int .i64 (n4 : Int)]) ∧ Below W.heap.size W w') := fun W => by
        have q := rinNum_any (S3, r3) W hsz
        rw [h4] at q
        exact q
      have C5 : Hid (∀ W, Calls Tryd.prog 52 #[.agg #[.string S4, .int .i64 r4]] W fun e w' => e = .returned (.tuple #[.agg #[.string S5, .int .i64 r5], .int .i64 (n5 : Int)]) ∧ Below W.heap.size W w') := fun W => by
        have q := rinByte_any (S4, r4) W z4
        rw [h5] at q
        exact q
      have HPR : Hid (readPr (S3, r3) = ((S5, r5), ((n4 : Int), (n5 : Int)))) := hpr
      clear h4 h5 hpr z4 hsz
      go_wp2_with fail
      clear d0 d1
      refine (C4.out wr).mono ?_
      rintro e v1 ⟨rfl, hb⟩
      have HT1 : Hid (TdS w h gi (n1 : Int) (n2 : Int) v (memsOf pk) (S3, r3) v1) := HT.out.on hb
      have HT2 : Hid (TdS w h gi (n1 : Int) (n2 : Int) v (memsOf pk) (S4, r4) (v1.setRow gi #[.string S4, .int .i64 r4])) := HT1.out.setI (S4, r4)
      have X1 := HT1.out.i
      have d0 : (v1.setRow gi #[.string S4, .int .i64 r4]).cell? ⟨gi, 0, none⟩ = some (.string S4) := HT2.out.i.cell 0
      have d1 : (v1.setRow gi #[.string S4, .int .i64 r4]).cell? ⟨gi, 1, none⟩ = some (.int .i64 r4) := HT2.out.i.cell 1
      clear hb HT C4
      go_wp2_with (with_reducible refine wpList_storeBlk rfl 88 _ _ rfl gi #[.string S3, .int .i64 r3] #[.string S4, .int .i64 r4] (by with_unfolding_all rfl) (by with_unfolding_all rfl) X1 rfl (by kernel_rfl) (by kernel_rfl) ?_)
      obtain ⟨v2, hv2⟩ : ∃ v2, v1.setRow gi #[.string S4, .int .i64 r4] = v2 := ⟨_, rfl⟩
      rw [hv2] at HT2
      try rw [hv2]
      clear hv2 X1 HT1 d0 d1
      refine (C5.out v2).mono ?_
      rintro e v3 ⟨rfl, hb⟩
      have HT3 : Hid (TdS w h gi (n1 : Int) (n2 : Int) v (memsOf pk) (S4, r4) v3) := HT2.out.on hb
      have HT4 : Hid (TdS w h gi (n1 : Int) (n2 : Int) v (memsOf pk) (S5, r5) (v3.setRow gi #[.string S5, .int .i64 r5])) := HT3.out.setI (S5, r5)
      have X3 := HT3.out.i
      clear hb HT2 C5
      by_cases hone : (n5 : Int) ≤ 1
      · have t1 : ¬ ((1 : Int) < (n5 : Int)) := by omega
        obtain ⟨z, hz⟩ : ∃ z, decide ((n5 : Int) = 1) = z := ⟨_, rfl⟩
        have t2 : ((n5 : Int) == 1) = z := by rw [← hz]; by_cases e : (n5 : Int) = 1 <;> simp [e]
        have HLN : Hid (LsD s (k + 1) (S5, r5) (pk ++ [((n4 : Int), (n5 : Int))])) := by
          have q := HLK.out.next HK6.out (by rw [HPR.out]; exact hone)
          rw [HPR.out] at q
          exact q
        have HMS : Hid (memsOf (pk ++ [((n4 : Int), (n5 : Int))]) = memsOf pk ++ [((k : Int) + 1, (n4 : Int), z)]) := by show _ = _; rw [memsOf_snoc, HLK.out.n, hz]
        have HPL : Hid ((memsOf pk).length = k) := by show _ = _; rw [memsOf_len]; exact HLK.out.n
        clear hz hone
        go_wp2_with (with_reducible refine wpList_storeBlkH rfl 88 _ _ rfl gi #[.string S4, .int .i64 r4] #[.string S5, .int .i64 r5] (by with_unfolding_all rfl) (by with_unfolding_all rfl) X3 rfl (by kernel_rfl) (by kernel_rfl) ?_)
        obtain ⟨v4, hv4⟩ : ∃ v4, v3.setRow gi #[.string S5, .int .i64 r5] = v4 := ⟨_, rfl⟩
        rw [hv4] at HT4 ⊢
        clear hv4 X3 HLK HT3
        unfold Hid
        try dsimp only [Act.put]
        have q1 : v4.cell? ⟨h, 1, none⟩ = some v := HT4.out.gg.cell 1
        have hown : v4.ownsRow (gi + 1) 46 3 v k (cellsM (memsOf pk)) := by rw [← HPL.out]; exact HT4.out.m
        have hlt6 := HT4.out.n.2.2
        go_wp2_with (at_builtin; refine wpList_appR2 rfl (.tmp 43) (.tmp 49) 22 rfl (gi + 1) 46 i0 _ 3 24 Tryd.underlying22 hi hz0 hz1 hz2 rfl (by decide) v4 v _ _ rfl hown #[.int .i64 ((k : Int) + 1), .int .i64 (n4 : Int), .bool z] rfl (memA_one ((k : Int) + 1, (n4 : Int), z)) rfl (by omega) (by unfold maxLen; omega) hlt6 ?_)
        intro v5 w5 hown5 hg5
        have HO5 : Hid (OwnM w5 (gi + 1) v5 (memsOf (pk ++ [((n4 : Int), (n5 : Int))]))) := by
          show World.ownsRow _ _ _ _ _ _ _
          rw [HMS.out, List.length_append, HPL.out, cellsM_snoc]
          exact hown5
        have hgr : ∀ j, v.ownBlock = some j → gi < j := fun j hj => by have := (World.ownsRow.lt hown j hj).1; omega
        have nv := below_new v4 (.cells #[.int .i64 ((k : Int) + 1), .int .i64 (n4 : Int), .bool z] 46)
        have n1' := HT4.out.n
        have HG5 : Hid (Blk w5 24 h #[.int .i64 (n1 : Int), v, .int .i64 (n2 : Int)]) := (HT4.out.gg.on nv).grown hg5 (fun e => by have := hgr _ e.symm; omega)
        have HZ5 : Hid (Blk w5 24 w.heap.size #[.int .i64 0, .slice none 0 0, .int .i64 0]) := (HT4.out.z.on nv).grown hg5 (fun e => by have := hgr _ e.symm; omega)
        have HI5 : Hid (Blk w5 88 gi #[.string S5, .int .i64 r5]) := (HT4.out.i.on nv).grown hg5 (fun e => by have := hgr _ e.symm; omega)
        have HB5 : Hid (Below w.heap.size w w5) := below_grown20 (below_step HT4.out.bel (Nat.le_refl _) nv) hg5 (fun j hj => by have := hgr j hj; omega)
        have HS5 : Hid (gi < w5.heap.size) := by have a := hg5.size; have b := nv.size; show _ < _; omega
        have c0 : w5.cell? ⟨h, 1, none⟩ = some v := HG5.out.cell 1
        have c2 : w5.frozen? ⟨h, 1, none⟩ = false := HG5.out.free 1
        have HT6 : Hid (TdS w h gi (n1 : Int) (n2 : Int) v5 (memsOf (pk ++ [((n4 : Int), (n5 : Int))])) (S5, r5) (w5.setCell ⟨h, 1, none⟩ v5)) := by
          obtain ⟨m1, m2, m3⟩ := n1'
          exact ⟨HZ5.out.other ⟨h, 1, none⟩ (by show w.heap.size ≠ h; omega) _, HG5.out.setAt 1 v5, HI5.out.other ⟨h, 1, none⟩ (by show gi ≠ h; omega) _, owns_set HO5.out ⟨h, 1, none⟩ (by show h < gi + 1; omega) _, HB5.out.setCell (p := ⟨h, 1, none⟩) (by show w.heap.size ≤ h; omega) _, m1, m2, by simpa [World.setCell] using HS5.out⟩
        obtain ⟨a4, m4, c4, hv4⟩ : ∃ a n q, v5 = .slice a n q := by
          obtain ⟨a, cap, e, _⟩ := HO5.out.rows
          exact ⟨_, _, _, e⟩
        subst hv4
        obtain ⟨w6, hw6⟩ : ∃ w6, w5.setCell ⟨h, 1, none⟩ (.slice a4 m4 c4) = w6 := ⟨_, rfl⟩
        rw [hw6] at HT6
        clear hown5 hg5 hown HO5 hgr nv n1' HG5 HZ5 HI5 HB5 HS5 HT4 q1 hlt6 HMS HPL
        go_wp2_with fail
        try rw [hw6]
        clear hw6 c0 c2
        refine ⟨?_, ?_⟩
        · first
          | exact ⟨k + 1, by omega, by go_num, ⟨_, _, _, HLN.out, HT6.out⟩⟩
          | ((repeat apply Exists.intro); refine ⟨?_, rfl⟩; exact ⟨k + 1, by omega, by go_num, ⟨_, _, _, HLN.out, HT6.out⟩⟩)
        · simp [intOf] <;> omega
      · have hX2 : X = (grp0, 91) := by rw [← HX.out]; exact HLK.out.no HK6.out (by rw [HPR.out]; exact hone)
        obtain rfl : (grp0, 91) = X := hX2.symm
        have t1 : (1 : Int) < (n5 : Int) := by omega
        obtain ⟨w9, hw9⟩ : ∃ w9, v3.setRow gi #[.string S5, .int .i64 r5] = w9 := ⟨_, rfl⟩
        rw [hw9] at HT4
        have HT9 : Hid (TdS w h gi (n1 : Int) (n2 : Int) v (memsOf pk) (S5, r5) w9) := HT4.out
        have HW9 : Hid (_ = w9) := hw9
        have Y1 := HT9.out.z
        have HB9 : Hid (Below w.heap.size w (w9.setRow w.heap.size #[.int .i64 0, .slice none 0 0, .int .i64 0])) := below_setRow HT9.out.bel (Nat.le_refl _) _
        rw [← hw9] at Y1 HB9
        clear HLK hone hw9 hX2 HT4 HT3 HX
        go_wp2_with (first | (with_reducible refine wpList_storeBlk rfl 88 _ _ rfl gi #[.string S4, .int .i64 r4] #[.string S5, .int .i64 r5] (by with_unfolding_all rfl) (by with_unfolding_all rfl) X3 rfl (by kernel_rfl) (by kernel_rfl) ?_) | (with_reducible refine wpList_storeBlk rfl 24 _ _ rfl w.heap.size #[.int .i64 0, .slice none 0 0, .int .i64 0] #[.int .i64 0, .slice none 0 0, .int .i64 0] (by with_unfolding_all rfl) (by with_unfolding_all rfl) Y1 rfl (by kernel_rfl) (by kernel_rfl) ?_))
        exact bodyPost_rowTmp rfl w.heap.size #[.int .i64 0, .slice none 0 0, .int .i64 0] (.int .i64 91) rfl rfl rfl (Y1.setRow _) _ Tryd.underlying24 rfl (by kernel_rfl) ⟨none, 0, rfl, Nat.zero_le _, by decide, MmsAt.nil _, HB9.out⟩
    · obtain rfl : k = 6 := by omega
      have b0 : ¬ ((6 : Int) + 1 ≤ 6) := by omega
      have hX2 := HLK.out.last
      rw [HX.out, HEO.out.1, HEO.out.2] at hX2
      obtain ⟨dn, hdn⟩ : ∃ dn, inDoneP (S3, r3) = dn := ⟨_, rfl⟩
      obtain ⟨D, hD⟩ : ∃ D, mayGb ((n1 : Int), memsOf pk, (n2 : Int)) = D := ⟨_, rfl⟩
      rw [hdn, hD] at hX2
      have CD : Hid (∀ W, Calls Tryd.prog 53 #[.agg #[.string S3, .int .i64 r3]] W fun e w' => e = .returned (.int .i64 dn) ∧ Below W.heap.size W w') := fun W => by
        have q := rinDone_any (S3, r3) W
        rw [hdn] at q
        exact q
      obtain ⟨am, cm, hvm, hlc, hcm, hitm⟩ := HT.out.m.rows
      have hl6 : (memsOf pk).length = 6 := by rw [memsOf_len]; exact HLK.out.n
      rw [hl6] at hvm hlc hitm
      subst hvm
      have CM : Hid (∀ W, Below wr.heap.size wr W → Calls Tryd.prog 32 #[.agg #[.int .i64 (n1 : Int), .slice am 6 cm, .int .i64 (n2 : Int)]] W fun e w' => e = .returned (.bool D) ∧ Below W.heap.size W w') := fun W hW => by
        have q := rmay20_any ((n1 : Int), memsOf pk, (n2 : Int)) am cm W D (by rw [← hD]; exact mayGb_iff _) (by show (memsOf pk).length ≤ _; rw [hl6]; decide) (by show MmsAt W _ (memsOf pk).length (memsOf pk); rw [hl6]; exact hitm.below hW) (fun i hi => by
          show _ ≤ (mmL (memsOf pk) i).1 ∧ (mmL (memsOf pk) i).1 ≤ _
          rw [mmL_get _ i (by rw [hl6]; exact hi)]
          simp only [memsOf, List.getElem_map, List.getElem_range]
          omega)
        unfold grpA at q
        simp only [hl6] at q
        exact q
      have HXX : Hid (X = if dn ≠ 0 ∨ D = false then (grp0, 91) else (((n1 : Int), memsOf pk, (n2 : Int)), 0)) := hX2
      have HL6 : Hid ((memsOf pk).length = 6 ∧ 6 ≤ cm ∧ cm ≤ 9223372036854775807) := ⟨hl6, hlc, hcm⟩
      have HIT : Hid (MmsAt wr am 6 (memsOf pk)) := hitm
      clear hX2 hdn hD hl6 hlc hcm hitm HLK HX HEO
      go_wp2_with fail
      clear d0 d1
      refine (CD.out wr).mono ?_
      rintro e w8 ⟨rfl, hb⟩
      have HT8 : Hid (TdS w h gi (n1 : Int) (n2 : Int) (.slice am 6 cm) (memsOf pk) (S3, r3) w8) := HT.out.on hb
      have HB8 : Hid (Below wr.heap.size wr w8) := hb
      clear hb CD HT
      by_cases hd : dn = 0
      · subst hd
        have d0 : w8.cell? ⟨h, 0, none⟩ = some (.int .i64 (n1 : Int)) := HT8.out.gg.cell 0
        have d1 : w8.cell? ⟨h, 1, none⟩ = some (.slice am 6 cm) := HT8.out.gg.cell 1
        have d2 : w8.cell? ⟨h, 2, none⟩ = some (.int .i64 (n2 : Int)) := HT8.out.gg.cell 2
        go_wp2_with fail
        clear d0 d1 d2
        refine (CM.out w8 HB8.out).mono ?_
        rintro e w9 ⟨rfl, hb⟩
        have HT9 : Hid (TdS w h gi (n1 : Int) (n2 : Int) (.slice am 6 cm) (memsOf pk) (S3, r3) w9) := HT8.out.on hb
        have HI9 : Hid (MmsAt w9 am 6 (memsOf pk)) := HIT.out.below (below_step HB8.out (Nat.le_refl _) hb)
        clear hb HT8 HB8 HIT CM
        cases D with
        | false =>
          obtain rfl : X = (grp0, 91) := by have h := HXX.out; rwa [if_pos (.inr rfl)] at h
          have X1 := HT9.out.z
          have HB9 : Hid (Below w.heap.size w (w9.setRow w.heap.size #[.int .i64 0, .slice none 0 0, .int .i64 0])) := below_setRow HT9.out.bel (Nat.le_refl _) _
          go_wp2_with (with_reducible refine wpList_storeBlk rfl 24 _ _ rfl w.heap.size #[.int .i64 0, .slice none 0 0, .int .i64 0] #[.int .i64 0, .slice none 0 0, .int .i64 0] (by with_unfolding_all rfl) (by with_unfolding_all rfl) X1 rfl (by kernel_rfl) (by kernel_rfl) ?_)
          exact bodyPost_rowTmp rfl w.heap.size #[.int .i64 0, .slice none 0 0, .int .i64 0] (.int .i64 91) rfl rfl rfl (X1.setRow _) _ Tryd.underlying24 rfl (by kernel_rfl) ⟨none, 0, rfl, Nat.zero_le _, by decide, MmsAt.nil _, HB9.out⟩
        | true =>
          obtain rfl : X = (((n1 : Int), memsOf pk, (n2 : Int)), 0) := by have h := HXX.out; rwa [if_neg (by simp)] at h
          have d0 : w9.cell? ⟨h, 0, none⟩ = some (.int .i64 (n1 : Int)) := HT9.out.gg.cell 0
          have d1 : w9.cell? ⟨h, 1, none⟩ = some (.slice am 6 cm) := HT9.out.gg.cell 1
          have d2 : w9.cell? ⟨h, 2, none⟩ = some (.int .i64 (n2 : Int)) := HT9.out.gg.cell 2
          have X1 := HT9.out.z
          have HB9 : Hid (Below w.heap.size w (w9.setRow w.heap.size #[.int .i64 (n1 : Int), .slice am 6 cm, .int .i64 (n2 : Int)])) := below_setRow HT9.out.bel (Nat.le_refl _) _
          have HM9 : Hid (MmsAt (w9.setRow w.heap.size #[.int .i64 (n1 : Int), .slice am 6 cm, .int .i64 (n2 : Int)]) am 6 (memsOf pk)) := by
            have q : OwnM (w9.setRow w.heap.size #[.int .i64 (n1 : Int), .slice am 6 cm, .int .i64 (n2 : Int)]) (gi + 1) (.slice am 6 cm) (memsOf pk) := owns_same HT9.out.m (fun j hj => setRow_other w9 w.heap.size j _ (by have := (World.ownsRow.lt HT9.out.m j hj).1; have := HT9.out.n; omega))
            obtain ⟨a2, c2, e2, _, _, m2⟩ := q.rows
            rw [HL6.out.1] at e2 m2
            cases e2
            exact m2
          go_wp2_with (with_reducible refine wpList_storeBlk rfl 24 _ _ rfl w.heap.size #[.int .i64 0, .slice none 0 0, .int .i64 0] #[.int .i64 (n1 : Int), .slice am 6 cm, .int .i64 (n2 : Int)] (by with_unfolding_all rfl) (by with_unfolding_all rfl) X1 rfl (by kernel_rfl) (by kernel_rfl) ?_)
          exact bodyPost_rowTmp rfl w.heap.size #[.int .i64 (n1 : Int), .slice am 6 cm, .int .i64 (n2 : Int)] (.int .i64 0) rfl rfl rfl (X1.setRow _) _ Tryd.underlying24 rfl (by kernel_rfl) ⟨am, cm, by show _ = Ending.returned (.tuple #[.agg #[.int .i64 (n1 : Int), .slice am (memsOf pk).length cm, .int .i64 (n2 : Int)], .int .i64 0]); rw [HL6.out.1], by show (memsOf pk).length ≤ cm; rw [HL6.out.1]; exact HL6.out.2.1, HL6.out.2.2, by show MmsAt _ _ (memsOf pk).length (memsOf pk); rw [HL6.out.1]; exact HM9.out, HB9.out⟩
      · obtain rfl : X = (grp0, 91) := by have h := HXX.out; rwa [if_pos (.inl hd)] at h
        have hd' : (dn != 0) = true := by simp [hd]
        obtain ⟨w9, hw9⟩ : ∃ w9, w8 = w9 := ⟨_, rfl⟩
        have HT9 : Hid (TdS w h gi (n1 : Int) (n2 : Int) (.slice am 6 cm) (memsOf pk) (S3, r3) w9) := by rw [← hw9]; exact HT8.out
        rw [hw9]
        clear hw9 HT8 HB8 HIT CM
        have X1 := HT9.out.z
        have HB9 : Hid (Below w.heap.size w (w9.setRow w.heap.size #[.int .i64 0, .slice none 0 0, .int .i64 0])) := below_setRow HT9.out.bel (Nat.le_refl _) _
        go_wp2_with (with_reducible refine wpList_storeBlk rfl 24 _ _ rfl w.heap.size #[.int .i64 0, .slice none 0 0, .int .i64 0] #[.int .i64 0, .slice none 0 0, .int .i64 0] (by with_unfolding_all rfl) (by with_unfolding_all rfl) X1 rfl (by kernel_rfl) (by kernel_rfl) ?_)
        exact bodyPost_rowTmp rfl w.heap.size #[.int .i64 0, .slice none 0 0, .int .i64 0] (.int .i64 91) rfl rfl rfl (X1.setRow _) _ Tryd.underlying24 rfl (by kernel_rfl) ⟨none, 0, rfl, Nat.zero_le _, by decide, MmsAt.nil _, HB9.out⟩

end Go.Proofs.YtabhkebkbidfhaaDoor
