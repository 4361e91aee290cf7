/- Layer 20, the document's: with. -/
import Derived.Test.YtabhkebkbidfhaaDoorRGpD
namespace Go.Proofs.YtabhkebkbidfhaaDoor
open Go.RowKit
set_option maxRecDepth 100000
set_option linter.unusedSimpArgs false
set_option linter.unusedVariables false
set_option maxRecDepth 100000

theorem cellsM_len (l : List MemT) : (cellsM l).length = l.length * 3 := by
  induction l with
  | nil => rfl
  | cons x l ih =>
    show ((memA x).toList ++ cellsM l).length = _
    rw [List.length_append, ih, List.length_cons]
    show 3 + _ = _
    omega
theorem cellsM_one (l : List MemT) : ∀ u ∈ cellsM l, u.oneCell' = true := by
  intro u hu
  unfold cellsM at hu
  obtain ⟨x, _, hx⟩ := List.mem_flatMap.1 hu
  exact memA_one x u hx
theorem cellsM_app (l m : List MemT) : cellsM (l ++ m) = cellsM l ++ cellsM m := by unfold cellsM; rw [List.flatMap_append]

/-- The members from the k'th on, so many of them, put behind others. -/
theorem mmsM_src {w : World} {b off n k m c : Nat} {l : List MemT} (h : MmsAt w (some ⟨b, off, none⟩) n l) (hk : k + m ≤ n) : SrcAt w (.slice (some ⟨b, off + k * 3, none⟩) m c) m (cellsM ((l.drop k).take m)) := by
  refine .inr ⟨_, c, rfl, fun j u hj => ?_⟩
  have hln := h.1
  have hjl := (List.getElem?_eq_some_iff.1 hj).1
  rw [cellsM_len, List.length_take, List.length_drop] at hjl
  have hi : j / 3 < ((l.drop k).take m).length := by rw [List.length_take, List.length_drop]; omega
  obtain ⟨u', h1, h2⟩ := cellsM_at ((l.drop k).take m) (j / 3) hi (j % 3) (by omega)
  rw [show j / 3 * 3 + j % 3 = j by omega, hj] at h2
  cases h2
  obtain ⟨b', off', ha, hc⟩ := h.2.resolve_left (by omega)
  cases ha
  have e : mmL ((l.drop k).take m) (j / 3) = mmL l (k + j / 3) := by
    unfold mmL
    rw [List.getD_eq_getElem?_getD, List.getD_eq_getElem?_getD, List.getElem?_take_of_lt (by omega), List.getElem?_drop]
  rw [e] at h1
  obtain ⟨q0, q1, q2⟩ := hc (k + j / 3) (by omega)
  rw [Go.WideShapes.add_plain]
  rcases (by omega : j % 3 = 0 ∨ j % 3 = 1 ∨ j % 3 = 2) with r | r | r
  · rw [r] at h1
    have h1' : (memA (mmL l (k + j / 3)))[0]? = some (.int .i64 (mmL l (k + j / 3)).1) := rfl
    rw [h1'] at h1
    cases h1
    rw [← q0]; congr 2; omega
  · rw [r] at h1
    have h1' : (memA (mmL l (k + j / 3)))[1]? = some (.int .i64 (mmL l (k + j / 3)).2.1) := rfl
    rw [h1'] at h1
    cases h1
    rw [← q1]; congr 2; omega
  · rw [r] at h1
    have h1' : (memA (mmL l (k + j / 3)))[2]? = some (.bool (mmL l (k + j / 3)).2.2) := rfl
    rw [h1'] at h1
    cases h1
    rw [← q2]; congr 2; omega

def withM (l : List MemT) (k : Nat) (x : MemT) : List MemT := l.take k ++ [x] ++ l.drop (k + 1)


set_option maxHeartbeats 4000000 in
theorem rwith20_any (Ep Op : Int) (l : List MemT) (b off c k : Nat) (x : MemT) (w : World) (hl : l.length = 6) (hk : k < 6) (hc : 6 ≤ c) (hcm : c ≤ 9223372036854775807) (hI : MmsAt w (some ⟨b, off, none⟩) 6 l) :
    Calls Tryd.prog 35 #[.agg #[.int .i64 Ep, .slice (some ⟨b, off, none⟩) 6 c, .int .i64 Op], .int .i64 (k : Int), .agg (memA x)] w fun e w' => ∃ b' off' c', e = .returned (.agg #[.int .i64 Ep, .slice (some ⟨b', off', none⟩) 6 c', .int .i64 Op]) ∧ 6 ≤ c' ∧ c' ≤ 9223372036854775807 ∧ OwnM w' (w.heap.size + 1 + 1 + 1) (.slice (some ⟨b', off', none⟩) 6 c') (withM l k x) ∧ Below w.heap.size w w' := by
  obtain ⟨i0, hi, hz0, hz1, hz2⟩ := info_parts Tryd.infoM20
  obtain ⟨p1, p2, p3⟩ := x
  simp only [memA]
  obtain ⟨W0, hW0⟩ : ∃ W0, ((w.alloc (.cells #[.int .i64 Ep, .slice (some ⟨b, off, none⟩) 6 c, .int .i64 Op] 24)).alloc (.cells #[.int .i64 p1, .int .i64 p2, .bool p3] 46)).alloc (.cells #[.int .i64 0, .slice none 0 0, .int .i64 0] 24) = W0 := ⟨_, rfl⟩
  have n0 := below_new w (.cells #[.int .i64 Ep, .slice (some ⟨b, off, none⟩) 6 c, .int .i64 Op] 24)
  have n1 := below_new (w.alloc (.cells #[.int .i64 Ep, .slice (some ⟨b, off, none⟩) 6 c, .int .i64 Op] 24)) (.cells #[.int .i64 p1, .int .i64 p2, .bool p3] 46)
  have n2 := below_new ((w.alloc (.cells #[.int .i64 Ep, .slice (some ⟨b, off, none⟩) 6 c, .int .i64 Op] 24)).alloc (.cells #[.int .i64 p1, .int .i64 p2, .bool p3] 46)) (.cells #[.int .i64 0, .slice none 0 0, .int .i64 0] 24)
  have TG : Hid (Blk W0 24 w.heap.size #[.int .i64 Ep, .slice (some ⟨b, off, none⟩) 6 c, .int .i64 Op]) := by rw [← hW0]; exact ((Blk.new w _ _).on n1).on n2
  have TM : Hid (Blk W0 46 (w.heap.size + 1) #[.int .i64 p1, .int .i64 p2, .bool p3]) := by rw [← hW0]; exact (Blk.new' _ _ _ _ (by simp)).on n2
  have TR : Hid (Blk W0 24 (w.heap.size + 1 + 1) #[.int .i64 0, .slice none 0 0, .int .i64 0]) := by rw [← hW0]; exact Blk.new' _ _ _ _ (by simp)
  have BB : Hid (Below w.heap.size w W0) := by rw [← hW0]; exact below_step (below_step n0 (Nat.le_refl _) n1) (Nat.le_refl _) n2
  have HI : Hid (MmsAt W0 (some ⟨b, off, none⟩) 6 l) := hI.below BB.out
  have LS : Hid (w.heap.size + 1 + 1 < W0.heap.size) := TR.out.lt
  have HSZ : Hid (W0.heap.size = w.heap.size + 1 + 1 + 1) := by show _ = _; rw [← hW0]; simp [World.size_alloc]
  have HW0 : Hid (_ = W0) := hW0
  clear n0 n1 n2 hW0 hI
  have c0 : W0.cell? ⟨w.heap.size, 0, none⟩ = some (.int .i64 Ep) := TG.out.cell 0
  have c1 : W0.cell? ⟨w.heap.size, 1, none⟩ = some (.slice (some ⟨b, off, none⟩) 6 c) := TG.out.cell 1
  have c2 : W0.cell? ⟨w.heap.size, 2, none⟩ = some (.int .i64 Op) := TG.out.cell 2
  have b0 : (0 : Int) ≤ (k : Int) := by omega
  have b1 : (k : Int) ≤ 6 := by omega
  have b2 : (k : Int) ≤ (c : Int) := by omega
  have b3 : ¬ ((k : Int) < 0) := by omega
  have b4 : ¬ ((c : Int) < (k : Int)) := by omega
  rw [← HW0.out] at c0 c1 c2
  have S1 : SrcAt W0 (.slice (some ⟨b, off, none⟩) k c) k (cellsM ((l.drop 0).take k)) := by have := mmsM_src (k := 0) (m := k) (c := c) HI.out (by omega); rwa [Nat.zero_mul, Nat.add_zero] at this
  rw [← HW0.out] at S1
  have HS1 : Hid (SrcAt _ (.slice (some ⟨b, off, none⟩) k c) k (cellsM ((l.drop 0).take k))) := S1
  clear S1
  go_enter Tryd.func35, Tryd.ntmps35
  go_wp2_with (at_builtin; refine wpList_appW (by rfl) (.tmp 8) (.tmp 12) 22 rfl W0.heap.size 46 i0 _ 3 24 Tryd.underlying22 hi hz0 hz1 hz2 rfl (by decide) (.slice none 0 0) 0 [] rfl (World.ownsRow_nil _ _ _ _) (.slice (some ⟨b, off, none⟩) k c) k (cellsM ((l.drop 0).take k)) rfl HS1.out (by rw [cellsM_len, List.length_take, List.drop_zero, hl, Nat.min_eq_left (by omega)]) (cellsM_one _) (by unfold maxLen; omega) (by omega) (by rw [HW0.out]; exact Nat.le_refl _) ?_)
  intro v5 w5 hown5 hgr5
  rw [HW0.out] at hgr5
  have W5 : Hid (OwnM w5 W0.heap.size v5 (l.take k)) := by
    show World.ownsRow _ _ _ _ _ _ _
    rw [List.length_take, hl, Nat.min_eq_left (by omega)]
    simpa using hown5
  have T5 : Hid (Blk w5 24 w.heap.size #[.int .i64 Ep, .slice (some ⟨b, off, none⟩) 6 c, .int .i64 Op]) := TG.out.grown hgr5 (by simp [Value.ownBlock])
  have P5 : Hid (Blk w5 46 (w.heap.size + 1) #[.int .i64 p1, .int .i64 p2, .bool p3]) := TM.out.grown hgr5 (by simp [Value.ownBlock])
  have R5 : Hid (Blk w5 24 (w.heap.size + 1 + 1) #[.int .i64 0, .slice none 0 0, .int .i64 0]) := TR.out.grown hgr5 (by simp [Value.ownBlock])
  have B5 : Hid (Below w.heap.size w w5) := BB.out.grown hgr5 BB.out.size (fun k hk => by cases hk)
  have L5 : Hid (W0.heap.size ≤ w5.heap.size) := hgr5.size
  have B05 : Hid (Below W0.heap.size W0 w5) := (Below.refl W0.heap.size W0).grown hgr5 (Nat.le_refl _) (fun k hk => by cases hk)
  clear hown5 hgr5 c0 c1 c2 TG TM TR HS1 BB
  have q0 : w5.cell? ⟨w.heap.size + 1, 0, none⟩ = some (.int .i64 p1) := P5.out.cell 0
  have q1 : w5.cell? ⟨w.heap.size + 1, 1, none⟩ = some (.int .i64 p2) := P5.out.cell 1
  have q2 : w5.cell? ⟨w.heap.size + 1, 2, none⟩ = some (.bool p3) := P5.out.cell 2
  go_wp2_with (at_builtin; refine wpList_appW (by rfl) (.tmp 14) (.tmp 16) 22 rfl W0.heap.size 46 i0 _ 3 24 Tryd.underlying22 hi hz0 hz1 hz2 rfl (by decide) v5 (l.take k).length (cellsM (l.take k)) rfl (show World.ownsRow _ _ _ _ _ _ _ from owns_on W5.out (below_new _ _)) (.slice (some ⟨w5.heap.size, 0, none⟩) 1 1) 1 (memA (p1, p2, p3)).toList rfl (new_src (Blk.new w5 46 (memA (p1, p2, p3))) 1) rfl (memA_one _) (by rw [List.length_take]; unfold maxLen; omega) (by rw [List.length_take]; omega) (by have := L5.out; simp; omega) ?_)
  intro v6 w6 hown6 hgr6
  have hl6 : (l.take k ++ [(p1, p2, p3)]).length = k + 1 := by rw [List.length_append, List.length_take, hl, Nat.min_eq_left (by omega)]; rfl
  have W6 : Hid (World.ownsRow w6 W0.heap.size 46 3 v6 (k + 1) (cellsM (l.take k ++ [(p1, p2, p3)]))) := by
    show World.ownsRow _ _ _ _ _ _ _
    rw [cellsM_app, ← hl6, List.length_append]
    simpa [cellsM, hl] using hown6
  have B5a : Below w5.heap.size w5 (w5.alloc (.cells (memA (p1, p2, p3)) 46)) := below_new _ _
  have ne5 : ∀ k, k < W0.heap.size → some k ≠ v5.ownBlock := fun k hk e => by have a := (World.ownsRow.lt W5.out k e.symm).1; omega
  have ls := LS.out
  have T6 : Hid (Blk w6 24 w.heap.size #[.int .i64 Ep, .slice (some ⟨b, off, none⟩) 6 c, .int .i64 Op]) := (T5.out.on B5a).grown hgr6 (ne5 _ (by omega))
  have R6 : Hid (Blk w6 24 (w.heap.size + 1 + 1) #[.int .i64 0, .slice none 0 0, .int .i64 0]) := (R5.out.on B5a).grown hgr6 (ne5 _ (by omega))
  have B6 : Hid (Below w.heap.size w w6) := by
    have h := below_step B5.out (Nat.le_refl _) B5a
    exact h.grown hgr6 h.size (fun j hj => by have a := (World.ownsRow.lt W5.out j hj).1; omega)
  have L6 : Hid (W0.heap.size ≤ w6.heap.size) := Nat.le_trans (Nat.le_trans L5.out (below_new w5 _).size) hgr6.size
  have HI6 : Hid (MmsAt w6 (some ⟨b, off, none⟩) 6 l) := by
    have b05 := B05.out
    have b06 := below_step b05 (Nat.le_refl _) B5a
    exact HI.out.below (b06.grown hgr6 b06.size (fun j hj => (World.ownsRow.lt W5.out j hj).1))
  clear hown6 hgr6 B5a T5 R5 P5 B5 W5 L5 ne5 q0 q1 q2 hl6 B05 HI ls
  have t0 : w6.cell? ⟨w.heap.size, 0, none⟩ = some (.int .i64 Ep) := T6.out.cell 0
  have t1 : w6.cell? ⟨w.heap.size, 1, none⟩ = some (.slice (some ⟨b, off, none⟩) 6 c) := T6.out.cell 1
  have t2 : w6.cell? ⟨w.heap.size, 2, none⟩ = some (.int .i64 Op) := T6.out.cell 2
  have d0 : (0 : Int) ≤ (k : Int) + 1 := by omega
  have d1 : (k : Int) + 1 ≤ 6 := by omega
  have d2 : (k : Int) + 1 ≤ (c : Int) := by omega
  have d3 : IntKind.i64.wrap ((k : Int) + 1) = (k : Int) + 1 := by rw [IntKind.wrap_i64]; omega
  have d4 : ((k : Int) + 1).toNat = k + 1 := by omega
  obtain ⟨r, hr⟩ : ∃ r, 6 - (k + 1) = r := ⟨_, rfl⟩
  have hlw : (withM l k (p1, p2, p3)).length = 6 := by unfold withM; simp [hl]; omega
  have hcw : cellsM (l.take k ++ [(p1, p2, p3)]) ++ cellsM ((l.drop (k + 1)).take r) = cellsM (withM l k (p1, p2, p3)) := by
    rw [← cellsM_app, List.take_of_length_le (l := l.drop (k + 1)) (by rw [List.length_drop, hl]; omega)]; rfl
  have HCW : Hid (cellsM (l.take k ++ [(p1, p2, p3)]) ++ cellsM ((l.drop (k + 1)).take r) = cellsM (withM l k (p1, p2, p3))) := hcw
  have HLW : Hid ((withM l k (p1, p2, p3)).length = 6) := hlw
  clear hcw hlw
  by_cases hck : c = k + 1
  · have S3 : Hid (SrcAt w6 (.slice (some ⟨b, off, none⟩) r (c - (k + 1))) r (cellsM ((l.drop (k + 1)).take r))) := by
      obtain rfl : r = 0 := by omega
      exact .inr ⟨_, _, rfl, fun j u hj => by simp [cellsM] at hj⟩
    go_wp2_with (at_builtin; refine wpList_appW (by rfl) (.tmp 18) (.tmp 23) 22 rfl W0.heap.size 46 i0 _ 3 24 Tryd.underlying22 hi hz0 hz1 hz2 rfl (by decide) v6 (k + 1) (cellsM (l.take k ++ [(p1, p2, p3)])) rfl W6.out (.slice (some ⟨b, off, none⟩) r (c - (k + 1))) r (cellsM ((l.drop (k + 1)).take r)) (by first | rfl | (simp [Act.eval, ← hr, hck]; done)) S3.out (by rw [cellsM_len, List.length_take, List.length_drop, hl]; omega) (cellsM_one _) (by unfold maxLen; omega) (by omega) L6.out ?_)
    intro v7 w7 hown7 hgr7
    rw [HCW.out, show k + 1 + r = 6 by omega] at hown7
    have ls := LS.out
    have ne6 : ∀ j, j < W0.heap.size → some j ≠ v6.ownBlock := fun j hj e => by have a := (World.ownsRow.lt W6.out j e.symm).1; omega
    have T7 : Hid (Blk w7 24 w.heap.size #[.int .i64 Ep, .slice (some ⟨b, off, none⟩) 6 c, .int .i64 Op]) := T6.out.grown hgr7 (ne6 _ (by omega))
    have R7 : Hid (Blk w7 24 (w.heap.size + 1 + 1) #[.int .i64 0, .slice none 0 0, .int .i64 0]) := R6.out.grown hgr7 (ne6 _ (by omega))
    have B7 : Hid (Below w.heap.size w w7) := B6.out.grown hgr7 B6.out.size (fun j hj => by have a := (World.ownsRow.lt W6.out j hj).1; omega)
    have W7 : OwnM w7 W0.heap.size v7 (withM l k (p1, p2, p3)) := by
      show World.ownsRow _ _ _ _ _ _ _
      rw [HLW.out]; exact hown7
    obtain ⟨a7, c7, hv7, hc7, hcm7, hi7⟩ := W7.rows
    rw [HLW.out] at hv7 hc7 hi7
    obtain ⟨b7, o7, rfl, _⟩ := hi7.2.resolve_left (by decide)
    subst hv7
    have e0 : w7.cell? ⟨w.heap.size, 1, none⟩ = some (.slice (some ⟨b, off, none⟩) 6 c) := T7.out.cell 1
    have e1 : w7.frozen? ⟨w.heap.size, 1, none⟩ = false := T7.out.free 1
    have T8 : Blk (w7.setCell ⟨w.heap.size, 1, none⟩ (.slice (some ⟨b7, o7, none⟩) 6 c7)) 24 w.heap.size #[.int .i64 Ep, .slice (some ⟨b7, o7, none⟩) 6 c7, .int .i64 Op] := T7.out.setAt 1 _
    have R8 : Blk (w7.setCell ⟨w.heap.size, 1, none⟩ (.slice (some ⟨b7, o7, none⟩) 6 c7)) 24 (w.heap.size + 1 + 1) #[.int .i64 0, .slice none 0 0, .int .i64 0] := R7.out.other ⟨w.heap.size, 1, none⟩ (by show w.heap.size + 1 + 1 ≠ w.heap.size; omega) _
    have B8 : Hid (Below w.heap.size w (w7.setCell ⟨w.heap.size, 1, none⟩ (.slice (some ⟨b7, o7, none⟩) 6 c7))) := B7.out.setCell (p := ⟨w.heap.size, 1, none⟩) (Nat.le_refl _) _
    have W8 : OwnM (w7.setCell ⟨w.heap.size, 1, none⟩ (.slice (some ⟨b7, o7, none⟩) 6 c7)) W0.heap.size (.slice (some ⟨b7, o7, none⟩) 6 c7) (withM l k (p1, p2, p3)) := owns_set W7 ⟨w.heap.size, 1, none⟩ (by show w.heap.size < W0.heap.size; omega) _
    obtain ⟨w8, hw8⟩ : ∃ w8, w7.setCell ⟨w.heap.size, 1, none⟩ (.slice (some ⟨b7, o7, none⟩) 6 c7) = w8 := ⟨_, rfl⟩
    rw [hw8] at T8 R8 B8 W8
    have W9 : OwnM (w8.setRow (w.heap.size + 1 + 1) #[.int .i64 Ep, .slice (some ⟨b7, o7, none⟩) 6 c7, .int .i64 Op]) W0.heap.size (.slice (some ⟨b7, o7, none⟩) 6 c7) (withM l k (p1, p2, p3)) := owns_same W8 (fun j hj => setRow_other w8 (w.heap.size + 1 + 1) j _ (by have q1 := (World.ownsRow.lt W8 j hj).1; omega))
    have HM9 : Hid (OwnM (w8.setRow (w.heap.size + 1 + 1) #[.int .i64 Ep, .slice (some ⟨b7, o7, none⟩) 6 c7, .int .i64 Op]) (w.heap.size + 1 + 1 + 1) (.slice (some ⟨b7, o7, none⟩) 6 c7) (withM l k (p1, p2, p3))) := by rw [← HSZ.out]; exact W9
    have B9 : Hid (Below w.heap.size w (w8.setRow (w.heap.size + 1 + 1) #[.int .i64 Ep, .slice (some ⟨b7, o7, none⟩) 6 c7, .int .i64 Op])) := below_setRow B8.out (by omega) _
    have HC7 : Hid (6 ≤ c7 ∧ c7 ≤ 9223372036854775807) := ⟨hc7, hcm7⟩
    have d8 : w8.cell? ⟨w.heap.size, 0, none⟩ = some (.int .i64 Ep) := T8.cell 0
    have d9 : w8.cell? ⟨w.heap.size, 1, none⟩ = some (.slice (some ⟨b7, o7, none⟩) 6 c7) := T8.cell 1
    have d10 : w8.cell? ⟨w.heap.size, 2, none⟩ = some (.int .i64 Op) := T8.cell 2
    clear hown7 hgr7 ne6 T7 R7 B7 W7 hc7 hcm7 hi7 T8 B8 W8 W9 t0 t1 t2 d0 d1 d2 d3 d4 T6 R6 B6 L6 HI6 W6 S3 hck HCW HLW HW0 hr
    go_wp2_with (with_reducible refine wpList_storeBlk rfl 24 _ _ rfl (w.heap.size + 1 + 1) #[.int .i64 0, .slice none 0 0, .int .i64 0] #[.int .i64 Ep, .slice (some ⟨b7, o7, none⟩) 6 c7, .int .i64 Op] (by with_unfolding_all rfl) (by with_unfolding_all rfl) R8 rfl (by kernel_rfl) (by kernel_rfl) ?_)
    exact bodyPost_row rfl (w.heap.size + 1 + 1) #[.int .i64 Ep, .slice (some ⟨b7, o7, none⟩) 6 c7, .int .i64 Op] rfl rfl (R8.setRow _) _ Tryd.underlying24 rfl (by kernel_rfl) ⟨b7, o7, c7, rfl, HC7.out.1, HC7.out.2, HM9.out, B9.out⟩
  · have S3 : Hid (SrcAt w6 (.slice (some ⟨b, off + (k + 1) * 3, none⟩) r (c - (k + 1))) r (cellsM ((l.drop (k + 1)).take r))) := mmsM_src (k := k + 1) (m := r) (c := c - (k + 1)) HI6.out (by omega)
    go_wp2_with (at_builtin; refine wpList_appW (by rfl) (.tmp 18) (.tmp 23) 22 rfl W0.heap.size 46 i0 _ 3 24 Tryd.underlying22 hi hz0 hz1 hz2 rfl (by decide) v6 (k + 1) (cellsM (l.take k ++ [(p1, p2, p3)])) rfl W6.out (.slice (some ⟨b, off + (k + 1) * 3, none⟩) r (c - (k + 1))) r (cellsM ((l.drop (k + 1)).take r)) (by first | rfl | (simp [Act.eval, ← hr]; exact hck)) S3.out (by rw [cellsM_len, List.length_take, List.length_drop, hl]; omega) (cellsM_one _) (by unfold maxLen; omega) (by omega) L6.out ?_)
    intro v7 w7 hown7 hgr7
    rw [HCW.out, show k + 1 + r = 6 by omega] at hown7
    have ls := LS.out
    have ne6 : ∀ j, j < W0.heap.size → some j ≠ v6.ownBlock := fun j hj e => by have a := (World.ownsRow.lt W6.out j e.symm).1; omega
    have T7 : Hid (Blk w7 24 w.heap.size #[.int .i64 Ep, .slice (some ⟨b, off, none⟩) 6 c, .int .i64 Op]) := T6.out.grown hgr7 (ne6 _ (by omega))
    have R7 : Hid (Blk w7 24 (w.heap.size + 1 + 1) #[.int .i64 0, .slice none 0 0, .int .i64 0]) := R6.out.grown hgr7 (ne6 _ (by omega))
    have B7 : Hid (Below w.heap.size w w7) := B6.out.grown hgr7 B6.out.size (fun j hj => by have a := (World.ownsRow.lt W6.out j hj).1; omega)
    have W7 : OwnM w7 W0.heap.size v7 (withM l k (p1, p2, p3)) := by
      show World.ownsRow _ _ _ _ _ _ _
      rw [HLW.out]; exact hown7
    obtain ⟨a7, c7, hv7, hc7, hcm7, hi7⟩ := W7.rows
    rw [HLW.out] at hv7 hc7 hi7
    obtain ⟨b7, o7, rfl, _⟩ := hi7.2.resolve_left (by decide)
    subst hv7
    have e0 : w7.cell? ⟨w.heap.size, 1, none⟩ = some (.slice (some ⟨b, off, none⟩) 6 c) := T7.out.cell 1
    have e1 : w7.frozen? ⟨w.heap.size, 1, none⟩ = false := T7.out.free 1
    have T8 : Blk (w7.setCell ⟨w.heap.size, 1, none⟩ (.slice (some ⟨b7, o7, none⟩) 6 c7)) 24 w.heap.size #[.int .i64 Ep, .slice (some ⟨b7, o7, none⟩) 6 c7, .int .i64 Op] := T7.out.setAt 1 _
    have R8 : Blk (w7.setCell ⟨w.heap.size, 1, none⟩ (.slice (some ⟨b7, o7, none⟩) 6 c7)) 24 (w.heap.size + 1 + 1) #[.int .i64 0, .slice none 0 0, .int .i64 0] := R7.out.other ⟨w.heap.size, 1, none⟩ (by show w.heap.size + 1 + 1 ≠ w.heap.size; omega) _
    have B8 : Hid (Below w.heap.size w (w7.setCell ⟨w.heap.size, 1, none⟩ (.slice (some ⟨b7, o7, none⟩) 6 c7))) := B7.out.setCell (p := ⟨w.heap.size, 1, none⟩) (Nat.le_refl _) _
    have W8 : OwnM (w7.setCell ⟨w.heap.size, 1, none⟩ (.slice (some ⟨b7, o7, none⟩) 6 c7)) W0.heap.size (.slice (some ⟨b7, o7, none⟩) 6 c7) (withM l k (p1, p2, p3)) := owns_set W7 ⟨w.heap.size, 1, none⟩ (by show w.heap.size < W0.heap.size; omega) _
    obtain ⟨w8, hw8⟩ : ∃ w8, w7.setCell ⟨w.heap.size, 1, none⟩ (.slice (some ⟨b7, o7, none⟩) 6 c7) = w8 := ⟨_, rfl⟩
    rw [hw8] at T8 R8 B8 W8
    have W9 : OwnM (w8.setRow (w.heap.size + 1 + 1) #[.int .i64 Ep, .slice (some ⟨b7, o7, none⟩) 6 c7, .int .i64 Op]) W0.heap.size (.slice (some ⟨b7, o7, none⟩) 6 c7) (withM l k (p1, p2, p3)) := owns_same W8 (fun j hj => setRow_other w8 (w.heap.size + 1 + 1) j _ (by have q1 := (World.ownsRow.lt W8 j hj).1; omega))
    have HM9 : Hid (OwnM (w8.setRow (w.heap.size + 1 + 1) #[.int .i64 Ep, .slice (some ⟨b7, o7, none⟩) 6 c7, .int .i64 Op]) (w.heap.size + 1 + 1 + 1) (.slice (some ⟨b7, o7, none⟩) 6 c7) (withM l k (p1, p2, p3))) := by rw [← HSZ.out]; exact W9
    have B9 : Hid (Below w.heap.size w (w8.setRow (w.heap.size + 1 + 1) #[.int .i64 Ep, .slice (some ⟨b7, o7, none⟩) 6 c7, .int .i64 Op])) := below_setRow B8.out (by omega) _
    have HC7 : Hid (6 ≤ c7 ∧ c7 ≤ 9223372036854775807) := ⟨hc7, hcm7⟩
    have d8 : w8.cell? ⟨w.heap.size, 0, none⟩ = some (.int .i64 Ep) := T8.cell 0
    have d9 : w8.cell? ⟨w.heap.size, 1, none⟩ = some (.slice (some ⟨b7, o7, none⟩) 6 c7) := T8.cell 1
    have d10 : w8.cell? ⟨w.heap.size, 2, none⟩ = some (.int .i64 Op) := T8.cell 2
    clear hown7 hgr7 ne6 T7 R7 B7 W7 hc7 hcm7 hi7 T8 B8 W8 W9 t0 t1 t2 d0 d1 d2 d3 d4 T6 R6 B6 L6 HI6 W6 S3 hck HCW HLW HW0 hr
    go_wp2_with (with_reducible refine wpList_storeBlk rfl 24 _ _ rfl (w.heap.size + 1 + 1) #[.int .i64 0, .slice none 0 0, .int .i64 0] #[.int .i64 Ep, .slice (some ⟨b7, o7, none⟩) 6 c7, .int .i64 Op] (by with_unfolding_all rfl) (by with_unfolding_all rfl) R8 rfl (by kernel_rfl) (by kernel_rfl) ?_)
    exact bodyPost_row rfl (w.heap.size + 1 + 1) #[.int .i64 Ep, .slice (some ⟨b7, o7, none⟩) 6 c7, .int .i64 Op] rfl rfl (R8.setRow _) _ Tryd.underlying24 rfl (by kernel_rfl) ⟨b7, o7, c7, rfl, HC7.out.1, HC7.out.2, HM9.out, B9.out⟩

end Go.Proofs.YtabhkebkbidfhaaDoor
