/- Layer 20, the code's: New, asByte, Put. -/
import Derived.Test.YtkmdajenbidaaaaDoorGpQ
import Derived.Test.YtkmdajenbidaaaaDoorC9
import Derived.Test.YtkmdajenbidaaaaDoorWiS
namespace Go.Proofs.YtkmdajenbidaaaaDoor
open Go.RowKit
set_option maxRecDepth 100000
set_option linter.unusedSimpArgs false
set_option linter.unusedVariables false
set_option maxRecDepth 100000

def newC (n : Nat) : List MemT := (List.range n).map (fun (i : Nat) => (((i : Int) + 1, 0, false) : MemT))
theorem newC_len (n : Nat) : (newC n).length = n := by unfold newC; simp
theorem newC_snoc (n : Nat) : newC (n + 1) = newC n ++ [((n : Int) + 1, 0, false)] := by
  unfold newC; rw [List.range_succ, List.map_append]; rfl
theorem newC_who (i : Nat) (hi : i < 6) : (mmL (newC 6) i).1 = (i : Int) + 1 := by
  rcases (by omega : i = 0 ∨ i = 1 ∨ i = 2 ∨ i = 3 ∨ i = 4 ∨ i = 5) with rfl | rfl | rfl | rfl | rfl | rfl <;> rfl
theorem newC_M : (newC 6).set 0 ((mmL (newC 6) 0).1, (mmL (newC 6) 0).2.1, true) = newM 6 := by decide

/-- The result's cell, the group's, its members. -/
def FiC (w W : World) (h B : Nat) (v : Value) (l : List MemT) : Prop := Below w.heap.size w W ∧ Blk W 26 h #[.int .i64 1, v, .int .i64 0] ∧ OwnM W B v l ∧ h < B ∧ w.heap.size < h ∧ B ≤ W.heap.size ∧ Blk W 26 w.heap.size #[.int .i64 0, .slice none 0 0, .int .i64 0]

set_option maxHeartbeats 4000000 in
theorem new20_any (w : World) : Calls Tryd.prog 4 #[] w fun e w' => ∃ b c, e = .returned (.agg #[.int .i64 1, .slice (some ⟨b, 0, none⟩) 6 c, .int .i64 0]) ∧ w.heap.size ≤ b ∧ RowM w' b c (newM 6) ∧ Below w.heap.size w w' := by
  obtain ⟨i0, hi, hz0, hz1, hz2⟩ := info_parts Tryd.infoM20
  obtain ⟨W1, hW1⟩ : ∃ W1, (w.alloc (.cells #[.int .i64 0, .slice none 0 0, .int .i64 0] 26)).alloc (.cells #[.int .i64 1, .slice none 0 0, .int .i64 0] 26) = W1 := ⟨_, rfl⟩
  have HI1 : Hid (FiC w W1 (w.heap.size + 1) (w.heap.size + 1 + 1) (.slice none 0 0) (newC 0)) := by
    have n0 := below_new w (.cells #[.int .i64 0, .slice none 0 0, .int .i64 0] 26)
    have n1 := below_new (w.alloc (.cells #[.int .i64 0, .slice none 0 0, .int .i64 0] 26)) (.cells #[.int .i64 1, .slice none 0 0, .int .i64 0] 26)
    rw [← hW1]
    refine ⟨below_step n0 (Nat.le_refl _) n1, ?_, World.ownsRow_nil _ _ _ _, Nat.lt_succ_self _, Nat.lt_succ_self _, by simp, (Blk.new w _ _).on n1⟩
    exact Blk.new' _ _ _ _ (by simp)
  have HW1 : Hid (_ = W1) := hW1
  clear hW1
  go_enter Tryd.func4, Tryd.ntmps4
  go_wp2_with fail
  rw [HW1.out]
  obtain ⟨h, hh⟩ : ∃ h, w.heap.size + 1 = h := ⟨_, rfl⟩
  rw [hh] at HI1 ⊢
  clear hh HW1
  go_loopw [4] (fun i wr => ∃ k : Nat, k ≤ 6 ∧ i = .int .i64 (k : Int) ∧ Hid (∃ v, FiC w wr h (h + 1) v (newC k))) (fun i _ => 6 - (intOf i).toNat)
  case atStart => exact ⟨0, Nat.zero_le _, rfl, ⟨_, HI1.out⟩⟩
  case round =>
    clear HI1
    obtain ⟨k, hk, rfl, HX⟩ := hrel
    obtain ⟨v, hI⟩ := HX.out
    obtain ⟨t1, t2, t3, t4, t5, t6, t7⟩ := hI
    have HIk : Hid (FiC w wr h (h + 1) v (newC k)) := ⟨t1, t2, t3, t4, t5, t6, t7⟩
    clear t1 t3 t4 t5 t6 HX
    by_cases hlt : k < 6
    · have b0 : (k : Int) < 6 := by omega
      have b2 : IntKind.i64.wrap ((k : Int) + 1) = (k : Int) + 1 := by rw [IntKind.wrap_i64]; omega
      have c1 : wr.cell? ⟨h, 1, none⟩ = some v := t2.cell 1
      have hown := HIk.out.2.2.1
      have hsz := HIk.out.2.2.2.2.2.1
      unfold OwnM at hown
      rw [newC_len] at hown
      clear t2 t7
      go_wp2_with (at_builtin; refine wpList_appR2 rfl (.tmp 8) (.tmp 12) 24 rfl (h + 1) 42 i0 _ 3 24 Tryd.underlying24 hi hz0 hz1 hz2 rfl (by decide) wr v _ _ rfl hown #[.int .i64 ((k : Int) + 1), .int .i64 0, .bool false] rfl (memA_one ((k : Int) + 1, 0, false)) rfl (by omega) (by unfold maxLen; omega) hsz ?_)
      intro v4 w4 hown4 hg4
      have HO4 : Hid (OwnM w4 (h + 1) v4 (newC (k + 1))) := by
        show OwnM _ _ _ _
        unfold OwnM
        rw [newC_len, newC_snoc, cellsM_snoc]; exact hown4
      have HK4 : Hid (Blk w4 26 h #[.int .i64 1, v, .int .i64 0]) := (HIk.out.2.1.on (below_new _ _)).grown hg4 (fun e => by have := (World.ownsRow.lt hown h e.symm).1; omega)
      have HZ4 : Hid (Blk w4 26 w.heap.size #[.int .i64 0, .slice none 0 0, .int .i64 0]) := (HIk.out.2.2.2.2.2.2.on (below_new _ _)).grown hg4 (fun e => by have := (World.ownsRow.lt hown _ e.symm).1; have := HIk.out.2.2.2.2.1; omega)
      have HB4 : Hid (Below w.heap.size w w4) := by
        have q1 := HIk.out.1
        have q2 := HIk.out.2.2.2.2.1
        exact below_grown20 (q1.alloc q1.size _) hg4 (fun j hj => by have := (World.ownsRow.lt hown j hj).1; omega)
      have HS4 : Hid (h + 1 ≤ w4.heap.size) := by have := hg4.size; rw [World.size_alloc] at this; show _ ≤ _; omega
      have c0 : w4.cell? ⟨h, 1, none⟩ = some v := HK4.out.cell 1
      have c2 : w4.frozen? ⟨h, 1, none⟩ = false := HK4.out.free 1
      have HW5 : Hid (FiC w (w4.setCell ⟨h, 1, none⟩ v4) h (h + 1) v4 (newC (k + 1))) := by
        have q2 := HIk.out.2.2.2.2.1
        refine ⟨HB4.out.setCell (p := ⟨h, 1, none⟩) (by show w.heap.size ≤ h; omega) _, HK4.out.setAt 1 v4, owns_same HO4.out (fun j hj => Below.heap_setCell w4 ⟨h, 1, none⟩ _ j (by have := (World.ownsRow.lt HO4.out j hj).1; show j ≠ h; omega)), Nat.lt_succ_self _, q2, by show _ ≤ _; have := HS4.out; simpa [World.setCell] using this, HZ4.out.other ⟨h, 1, none⟩ (by show w.heap.size ≠ h; omega) _⟩
      obtain ⟨a4, n4, q4, hv4⟩ : ∃ a n q, v4 = .slice a n q := by
        obtain ⟨a, cap, e, _⟩ := HO4.out.rows
        exact ⟨_, _, _, e⟩
      subst hv4
      obtain ⟨W5, hW5⟩ : ∃ W5, w4.setCell ⟨h, 1, none⟩ (.slice a4 n4 q4) = W5 := ⟨_, rfl⟩
      rw [hW5] at HW5
      clear hown4 hg4 hown HO4 HK4 HB4 HS4 HIk HZ4 c1 hsz
      go_wp2_with fail
      try rw [hW5]
      clear hW5 c0 c2
      refine ⟨?_, ?_⟩
      · first
        | exact ⟨k + 1, by omega, by go_num, ⟨_, HW5.out⟩⟩
        | ((repeat apply Exists.intro); refine ⟨?_, rfl⟩; exact ⟨k + 1, by omega, by go_num, ⟨_, HW5.out⟩⟩)
      · simp [intOf] <;> omega
    · obtain rfl : k = 6 := by omega
      obtain ⟨b, c, hv, hb, hrow⟩ := HIk.out.2.2.1.rowM (newC_len 6)
      subst hv
      have HRW : Hid (RowM wr b c (newC 6)) := hrow
      have d1 : wr.cell? ⟨h, 1, none⟩ = some (.slice (some ⟨b, 0, none⟩) 6 c) := t2.cell 1
      have b0 : ¬ ((6 : Int) < 6) := by omega
      have HBH : Hid (h < b ∧ w.heap.size < h) := ⟨by omega, HIk.out.2.2.2.2.1⟩
      have CB : Hid (Calls Tryd.prog 9 #[.slice (some ⟨b, 0, none⟩) 6 c, .int .i64 1] wr fun e w' => e = .returned (.pointer (some ⟨b, 0, none⟩)) ∧ Below wr.heap.size wr w') := by
        have := byWhoR_any (newC 6) b c 0 1 wr hrow (by decide) newC_who rfl
        rw [Nat.zero_mul] at this
        exact this
      have HT2 : Hid (Blk wr 26 h #[.int .i64 1, .slice (some ⟨b, 0, none⟩) 6 c, .int .i64 0]) := t2
      have HT7 : Hid (Blk wr 26 w.heap.size #[.int .i64 0, .slice none 0 0, .int .i64 0]) := t7
      have HB0 : Hid (Below w.heap.size w wr) := HIk.out.1
      clear HIk t2 t7 hrow hb
      go_wp2_with fail
      refine Calls.mono CB.out ?_
      rintro e w1 ⟨rfl, hb⟩
      have HR1 : Hid (RowM w1 b c (newC 6)) := HRW.out.on hb
      have HG1 : Hid (Blk w1 26 h #[.int .i64 1, .slice (some ⟨b, 0, none⟩) 6 c, .int .i64 0]) := HT2.out.on hb
      have HZ1 : Hid (Blk w1 26 w.heap.size #[.int .i64 0, .slice none 0 0, .int .i64 0]) := HT7.out.on hb
      have HB1 : Hid (Below w.heap.size w w1) := below_step HB0.out (Nat.le_refl _) hb
      clear hb HRW HT2 HT7 HB0 CB d1
      have y1 : w1.cell? ⟨b, 2, none⟩ = some (.bool false) := by
        obtain ⟨_, _, _, cur, hb, _, hc⟩ := HR1.out
        have := (hc 0 (by decide)).2.2
        rw [hb.cell]; exact this
      have y2 : w1.frozen? ⟨b, 2, none⟩ = false := HR1.out.free _
      obtain ⟨w2, hw2⟩ : ∃ w2, w1.setCell ⟨b, 2, none⟩ (.bool true) = w2 := ⟨_, rfl⟩
      have HR2 : Hid (RowM w2 b c (newM 6)) := by
        show RowM _ _ _ _
        rw [← hw2, ← newC_M]
        exact HR1.out.setI 0 (by decide) true
      have HG2 : Hid (Blk w2 26 h #[.int .i64 1, .slice (some ⟨b, 0, none⟩) 6 c, .int .i64 0]) := by show Blk _ _ _ _; rw [← hw2]; exact HG1.out.other ⟨b, 2, none⟩ (by have := HBH.out.1; show h ≠ b; omega) _
      have HZ2 : Hid (Blk w2 26 w.heap.size #[.int .i64 0, .slice none 0 0, .int .i64 0]) := by show Blk _ _ _ _; rw [← hw2]; exact HZ1.out.other ⟨b, 2, none⟩ (by have := HBH.out; show w.heap.size ≠ b; omega) _
      have HB2 : Hid (Below w.heap.size w w2) := by show Below _ _ _; rw [← hw2]; exact HB1.out.setCell (p := ⟨b, 2, none⟩) (by have := HBH.out; show w.heap.size ≤ b; omega) _
      have d0 : w2.cell? ⟨h, 0, none⟩ = some (.int .i64 1) := HG2.out.cell 0
      have d1 : w2.cell? ⟨h, 1, none⟩ = some (.slice (some ⟨b, 0, none⟩) 6 c) := HG2.out.cell 1
      have d2 : w2.cell? ⟨h, 2, none⟩ = some (.int .i64 0) := HG2.out.cell 2
      rw [← hw2] at d0 d1 d2
      have X1 := HZ2.out
      have HBX : Hid (Below w.heap.size w (w2.setRow w.heap.size #[.int .i64 1, .slice (some ⟨b, 0, none⟩) 6 c, .int .i64 0])) := below_setRow HB2.out (Nat.le_refl _) _
      have HMX : Hid (RowM (w2.setRow w.heap.size #[.int .i64 1, .slice (some ⟨b, 0, none⟩) 6 c, .int .i64 0]) b c (newM 6)) := HR2.out.same (setRow_other w2 w.heap.size b _ (by have := HBH.out; omega))
      rw [← hw2] at X1 HBX HMX
      clear hw2 HR1 HG1 HZ1 HB1 HR2 HG2 HZ2 HB2
      go_wp2_with (with_reducible refine wpList_storeBlk rfl 26 _ _ rfl w.heap.size #[.int .i64 0, .slice none 0 0, .int .i64 0] #[.int .i64 1, .slice (some ⟨b, 0, none⟩) 6 c, .int .i64 0] (by with_unfolding_all rfl) (by with_unfolding_all rfl) X1 rfl (by kernel_rfl) (by kernel_rfl) ?_)
      exact bodyPost_row rfl w.heap.size #[.int .i64 1, .slice (some ⟨b, 0, none⟩) 6 c, .int .i64 0] rfl rfl (X1.setRow _) _ Tryd.underlying26 rfl (by kernel_rfl) ⟨b, c, rfl, by have := HBH.out; omega, HMX.out, HBX.out⟩

theorem asByte20_any (b : Bool) (w : World) : Calls Tryd.prog 27 #[.bool b] w fun e w' => e = .returned (.int .i64 (inN b)) ∧ w' = w := by
  cases b <;> (go_enter Tryd.func27, Tryd.ntmps27; go_wp2_with fail; go_ret; exact ⟨rfl, rfl⟩)

/-- What Put writes to. -/
structure PgS (w : World) (G : Array Value) (g : Nat) (v : Value) (st : ByteArray × Bool) (W : World) : Prop where
  out : OutAt W g v st
  box : Blk W 26 w.heap.size G
  bel : Below w.heap.size w W
  lg : w.heap.size < g
  lv : ∀ k, v.ownBlock = some k → w.heap.size < k
theorem PgS.on {w W W' : World} {G : Array Value} {g : Nat} {v : Value} {st : ByteArray × Bool} (h : PgS w G g v st W) (hb : Below W.heap.size W W') : PgS w G g v st W' :=
  ⟨h.out.on hb, h.box.on hb, below_step h.bel (Nat.le_refl _) hb, h.lg, h.lv⟩
theorem PgS.step {w W W' : World} {G : Array Value} {g : Nat} {v : Value} {st st' : ByteArray × Bool} (h : PgS w G g v st W) (h2 : OutTo W g v st' W') : ∃ v', PgS w G g v' st' W' := by
  obtain ⟨v', k1, k2, k3⟩ := h2
  have hlt := h.box.lt
  have hlg := h.lg
  refine ⟨v', k1, h.box.kept k2 (by omega) (fun e => by have := h.lv _ e.symm; omega), h.bel.trans (k2.below _ h.bel.size (by omega) (fun j hj => Nat.le_of_lt (h.lv j hj))), h.lg, fun k hk => ?_⟩
  rcases k3 k hk with e | e
  · exact h.lv k e
  · omega

theorem stK_next (l : List MemT) (k : Nat) (hk : k < l.length) (st : ByteArray × Bool) : writeA st (((l.take (k + 1)).map memPr).flatMap prPs) = numP (numP (writeA st (((l.take k).map memPr).flatMap prPs)) (mmL l k).2.1 6 1099511627775) (inN (mmL l k).2.2) 1 255 := by
  have e : l.take (k + 1) = l.take k ++ [mmL l k] := by
    rw [List.take_add_one, List.getElem?_eq_getElem hk, mmL_get l k hk]; rfl
  rw [e, List.map_append, List.flatMap_append, writeA_app19]
  simp [writeA, prPs, memPr, writeP, kd, pn, pm, ps]

set_option maxHeartbeats 8000000 in
theorem put20_any (G : GrpT) (a : Option Addr) (c : Nat) (w : World) (hn : G.2.1.length ≤ 1048576) (hI : MmsAt w a G.2.1.length G.2.1) :
    Calls Tryd.prog 12 #[.agg (grpA G a c)] w fun e w' => e = .returned (.tuple #[.string (putGC G).1, .int .i64 (putGC G).2]) ∧ Below w.heap.size w w' := by
  obtain ⟨p, hp⟩ : ∃ p, putGC G = p := ⟨_, rfl⟩
  rw [hp]
  have CHG : ∀ W, Below w.heap.size w W → _ := fun W hW => check20_any G a c W (mayGb G) (mayGb_iff G) hn (hI.below hW)
  unfold putGC putB at hp
  have hMG := mayGb_iff G
  obtain ⟨D, hD⟩ : ∃ D : Bool, mayGb G = D := ⟨_, rfl⟩
  rw [hD] at CHG hp hMG
  obtain ⟨Ep, l, Op⟩ := G
  simp only [grpA] at CHG hI hn ⊢
  have HP : Hid (_ = p) := hp
  have HMG : Hid (D = true ↔ MayG (Ep, l, Op)) := hMG
  obtain ⟨n, hnn⟩ : ∃ n, l.length = n := ⟨_, rfl⟩
  simp only [hnn] at CHG hI hn ⊢
  have HHG : Hid (∀ W, Below w.heap.size w W → _) := CHG
  have HI : Hid (MmsAt w a n l) := hI
  have HL : Hid (l.length = n) := hnn
  clear CHG hp hMG hD hI hnn
  have HB0 : Hid (Below w.heap.size w (w.alloc (.cells #[.int .i64 Ep, .slice a n c, .int .i64 Op] 26))) := below_new _ _
  have HK0 : Hid (Blk (w.alloc (.cells #[.int .i64 Ep, .slice a n c, .int .i64 Op] 26)) 26 w.heap.size #[.int .i64 Ep, .slice a n c, .int .i64 Op]) := Blk.new _ _ _
  go_enter Tryd.func12, Tryd.ntmps12
  go_wp2_with fail
  refine (HHG.out _ HB0.out).mono ?_
  rintro e w1 ⟨rfl, hb⟩
  have HB1 : Hid (Below w.heap.size w w1) := below_step HB0.out (Nat.le_refl _) hb
  have HK1 : Hid (Blk w1 26 w.heap.size #[.int .i64 Ep, .slice a n c, .int .i64 Op]) := HK0.out.on hb
  clear hb HB0 HK0 HHG
  cases D with
  | false =>
    obtain rfl : (⟨#[]⟩, 1) = p := by have h := HP.out; rwa [if_neg (by simp)] at h
    rw [if_neg (by simp)]
    go_wp2_with fail
    go_ret2
    exact ⟨rfl, HB1.out⟩
  | true =>
  rw [if_pos rfl]
  have hpp := HP.out
  rw [if_pos rfl] at hpp
  have HPP : Hid (_ = p) := hpp
  have HMY : Hid (MayG (Ep, l, Op)) := HMG.out.1 rfl
  clear HP HMG hpp
  obtain rfl : n = 6 := by rw [← HI.out.1]; exact HMY.out.2.2.1
  obtain ⟨b, off, rfl, hcl⟩ : ∃ lb off, a = some ⟨lb, off, none⟩ ∧ ∀ i, i < 6 → w.cell? ⟨lb, off + i * 3, none⟩ = some (.int .i64 (mmL l i).1) ∧ w.cell? ⟨lb, off + i * 3 + 1, none⟩ = some (.int .i64 (mmL l i).2.1) ∧ w.cell? ⟨lb, off + i * 3 + 2, none⟩ = some (.bool (mmL l i).2.2) := by
    rcases HI.out.2 with h | h
    · omega
    · exact h
  have HCL : Hid (∀ i, i < 6 → w.cell? ⟨b, off + i * 3, none⟩ = some (.int .i64 (mmL l i).1) ∧ w.cell? ⟨b, off + i * 3 + 1, none⟩ = some (.int .i64 (mmL l i).2.1) ∧ w.cell? ⟨b, off + i * 3 + 2, none⟩ = some (.bool (mmL l i).2.2)) := hcl
  clear hcl HI
  go_wp2_with fail
  refine (newOut_any w1).mono ?_
  rintro e w3 ⟨rfl, hO, hb3⟩
  have HS3 : Hid (PgS w #[.int .i64 Ep, .slice (some ⟨b, off, none⟩) 6 c, .int .i64 Op] w1.heap.size (.slice none 0 0) (⟨#[]⟩, false) w3) := ⟨OutAt.ok.2 hO, HK1.out.on hb3, below_step HB1.out (Nat.le_refl _) hb3, HK1.out.lt, fun k hk => by cases hk⟩
  obtain ⟨g, hg⟩ : ∃ g, w1.heap.size = g := ⟨_, rfl⟩
  rw [hg] at HS3 ⊢
  clear hO hb3 HB1 HK1 hg
  have q0 : w3.cell? ⟨w.heap.size, 0, none⟩ = some (.int .i64 Ep) := HS3.out.box.cell 0
  go_wp2_with fail
  refine (onum_any g _ _ Ep w3 HS3.out.out).mono ?_
  rintro e w4 ⟨rfl, h4⟩
  obtain ⟨v4, h4⟩ := HS3.out.step h4
  have HS4 : Hid (PgS w _ g v4 _ w4) := h4
  have q1 : w4.cell? ⟨w.heap.size, 2, none⟩ = some (.int .i64 Op) := h4.box.cell 2
  clear h4 q0 HS3
  go_wp2_with fail
  refine (onum_any g _ _ Op w4 HS4.out.out).mono ?_
  rintro e w5 ⟨rfl, h5⟩
  obtain ⟨v5, h5⟩ := HS4.out.step h5
  have HS5 : Hid (PgS w #[.int .i64 Ep, .slice (some ⟨b, off, none⟩) 6 c, .int .i64 Op] g v5 (numP (numP (⟨#[]⟩, false) Ep 6 1099511627775) Op 6 1099511627775) w5) := h5
  have q2 : w5.cell? ⟨w.heap.size, 1, none⟩ = some (.slice (some ⟨b, off, none⟩) 6 c) := h5.box.cell 1
  clear h5 q1 HS4
  obtain ⟨st, hst⟩ : ∃ st, numP (numP (⟨#[]⟩, false) Ep 6 1099511627775) Op 6 1099511627775 = st := ⟨_, rfl⟩
  rw [hst] at HS5
  have HPS : Hid (doneQ (writeA st ((l.map memPr).flatMap prPs)) = p) := by
    show doneQ _ = p
    rw [← HPP.out, ← hst]
    unfold gpPs
    rw [writeA_app19]
    rfl
  clear hst HPP
  go_wp2_with fail
  clear q2
  go_loopw [22] (fun i wr => ∃ k : Nat, k ≤ 6 ∧ i = .int .i64 (k : Int) ∧ Hid (∃ v, PgS w #[.int .i64 Ep, .slice (some ⟨b, off, none⟩) 6 c, .int .i64 Op] g v (writeA st (((l.take k).map memPr).flatMap prPs)) wr)) (fun i _ => 6 - (intOf i).toNat)
  case atStart => exact ⟨0, Nat.zero_le _, rfl, ⟨_, HS5.out⟩⟩
  case round =>
    clear HS5
    obtain ⟨k, hk, rfl, HX⟩ := hrel
    obtain ⟨v, hI⟩ := HX.out
    have HSk : Hid (PgS w #[.int .i64 Ep, .slice (some ⟨b, off, none⟩) 6 c, .int .i64 Op] g v (writeA st (((l.take k).map memPr).flatMap prPs)) wr) := hI
    clear HX hI
    obtain ⟨sk, hsk⟩ : ∃ sk, writeA st (((l.take k).map memPr).flatMap prPs) = sk := ⟨_, rfl⟩
    rw [hsk] at HSk
    by_cases hlt : k < 6
    · have b0 : (k : Int) < 6 := by omega
      have b1 : (0 : Int) ≤ (k : Int) := by omega
      have hnx := stK_next l k (by rw [HL.out]; exact hlt) st
      rw [hsk] at hnx
      obtain ⟨c0, c1, c2⟩ := HCL.out k hlt
      have cell : ∀ {p : Addr} {v : Value}, w.cell? p = some v → wr.cell? p = some v := fun h => by rw [HSk.out.bel.cell (World.block_lt_of_cell? w _ h)]; exact h
      replace c0 := cell c0
      replace c1 := cell c1
      replace c2 := cell c2
      obtain ⟨x, hx⟩ : ∃ x, (mmL l k).1 = x := ⟨_, rfl⟩
      obtain ⟨y, hy⟩ : ∃ y, (mmL l k).2.1 = y := ⟨_, rfl⟩
      obtain ⟨z, hz⟩ : ∃ z, (mmL l k).2.2 = z := ⟨_, rfl⟩
      rw [hx] at c0
      rw [hy] at c1 hnx
      rw [hz] at c2 hnx
      have HNX : Hid (_ = numP (numP sk y 6 1099511627775) (inN z) 1 255) := hnx
      clear hx hy hz cell hnx hsk
      have HM : Hid (Blk (wr.alloc (.cells #[.int .i64 x, .int .i64 y, .bool z] 42)) 42 wr.heap.size #[.int .i64 x, .int .i64 y, .bool z]) := Blk.new _ _ _
      have HSa : Hid (PgS w #[.int .i64 Ep, .slice (some ⟨b, off, none⟩) 6 c, .int .i64 Op] g v sk (wr.alloc (.cells #[.int .i64 x, .int .i64 y, .bool z] 42))) := HSk.out.on (below_new _ _)
      have HG : Hid (g < wr.heap.size ∧ ∀ j, v.ownBlock = some j → j < wr.heap.size) := HSk.out.out.lt
      clear HSk
      go_wp2_with fail
      clear c0 c1 c2
      obtain ⟨w6, hw6⟩ : ∃ w6, wr.alloc (.cells #[.int .i64 x, .int .i64 y, .bool z] 42) = w6 := ⟨_, rfl⟩
      obtain ⟨h, hh⟩ : ∃ h, wr.heap.size = h := ⟨_, rfl⟩
      rw [hw6] at HM HSa
      rw [hh] at HM HG
      try rw [hw6]
      try rw [hh]
      clear hw6 hh
      refine (onum_any g _ _ y w6 HSa.out.out).mono ?_
      rintro e w7 ⟨rfl, h7⟩
      obtain ⟨v7, k1, k2, k3⟩ := h7
      have HM7 : Hid (Blk w7 42 h #[.int .i64 x, .int .i64 y, .bool z]) := HM.out.kept k2 (by have := HG.out.1; omega) (fun e => by have := HG.out.2 _ e.symm; omega)
      obtain ⟨v7', h7⟩ := HSa.out.step ⟨v7, k1, k2, k3⟩
      have HS7 : Hid (PgS w #[.int .i64 Ep, .slice (some ⟨b, off, none⟩) 6 c, .int .i64 Op] g v7' _ w7) := h7
      have d2 : w7.cell? ⟨h, 2, none⟩ = some (.bool z) := HM7.out.cell 2
      have CA := asByte20_any z
      clear h7 k1 k2 k3 HM HSa HM7 HG
      go_wp2_with fail
      refine (CA _).mono ?_
      rintro e w8 ⟨rfl, hw8⟩
      subst hw8
      clear CA d2
      go_wp2_with fail
      refine (obyte_any g _ _ (inN z) _ HS7.out.out).mono ?_
      rintro e w9 ⟨rfl, h9⟩
      obtain ⟨v9, h9⟩ := HS7.out.step h9
      have HS9 : Hid (∃ v, PgS w #[.int .i64 Ep, .slice (some ⟨b, off, none⟩) 6 c, .int .i64 Op] g v (writeA st (((l.take (k + 1)).map memPr).flatMap prPs)) w9) := ⟨v9, by rw [HNX.out]; exact h9⟩
      clear h9 HS7 HNX
      go_wp2_with fail
      refine ⟨⟨k + 1, by omega, by go_num, HS9⟩, ?_⟩
      simp [intOf]; omega
    · obtain rfl : k = 6 := by omega
      have b0 : ¬ ((6 : Int) < 6) := by omega
      rw [List.take_of_length_le (by rw [HL.out]; decide)] at hsk
      have HSK : Hid (writeA st ((l.map memPr).flatMap prPs) = sk) := hsk
      clear hsk
      go_wp2_with fail
      refine (odone_any g v _ wr HSk.out.out).mono ?_
      rintro e w13 ⟨rfl, hw13⟩
      subst hw13
      rw [doneP_Q, ← HSK.out, HPS.out]
      go_wp2_with fail
      go_ret2
      exact ⟨rfl, HSk.out.bel⟩

end Go.Proofs.YtkmdajenbidaaaaDoor
