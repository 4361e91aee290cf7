/- The library's slices.Insert, slices.Clone at operations (layer 11). -/
import Derived.Test.YtaomhhooipfjbaaDoorTmR
import Derived.Laws.Externs
import Derived.Lib.SliceRun
namespace Go.Proofs.YtaomhhooipfjbaaDoor
open Go.RowKit
set_option linter.unusedSimpArgs false

theorem splice_up {α : Type} (L v d : List α) (p q : Nat) (hq : q = p + v.length) (hL : q + d.length ≤ L.length) : (splice (splice L p v) q d).take (q + d.length) = L.take p ++ (v ++ d) := by
  subst hq
  have h1 : (splice L p v).take (p + v.length) = L.take p ++ v := by
    unfold splice
    rw [← List.append_assoc, List.take_append_of_le_length (by rw [List.length_append, List.length_take]; omega), List.take_of_length_le (by rw [List.length_append, List.length_take]; omega)]
  rw [show splice (splice L p v) (p + v.length) d = (splice L p v).take (p + v.length) ++ (d ++ (splice L p v).drop (p + v.length + d.length)) from rfl, h1, ← List.append_assoc, List.take_append_of_le_length (by rw [List.length_append, List.length_append, List.length_take]; omega), List.take_of_length_le (by rw [List.length_append, List.length_append, List.length_take]; omega), List.append_assoc]

theorem splice_down {α : Type} (L v d : List α) (p q : Nat) (hq : q = p + v.length) (hL : q + d.length ≤ L.length) : (splice (splice L q d) p v).take (q + d.length) = L.take p ++ (v ++ d) := by
  subst hq
  have h1 : (splice L (p + v.length) d).take p = L.take p := splice_take L _ d p (by omega) (by omega)
  have h2 : (splice L (p + v.length) d).drop (p + v.length) = d ++ L.drop (p + v.length + d.length) := by
    unfold splice
    rw [List.drop_append_of_le_length (by rw [List.length_take]; omega), List.drop_of_length_le (by rw [List.length_take]; omega), List.nil_append]
  rw [show splice (splice L (p + v.length) d) p v = (splice L (p + v.length) d).take p ++ (v ++ (splice L (p + v.length) d).drop (p + v.length)) from rfl, h1, h2, ← List.append_assoc, ← List.append_assoc, List.take_append_of_le_length (by rw [List.length_append, List.length_append, List.length_take]; omega), List.take_of_length_le (by rw [List.length_append, List.length_append, List.length_take]; omega), List.append_assoc]

theorem cellsO_put (ops : List OpT) (o : OpT) (i : Nat) : cellsO (ops.take i ++ o :: ops.drop i) = cellsO (ops.take i) ++ ((opA o).toList ++ cellsO (ops.drop i)) := by
  rw [cellsO_app]; rfl


set_option maxRecDepth 100000 in
set_option maxHeartbeats 4000000 in
/-- At the end. -/
theorem insert_end (ops : List OpT) (o : OpT) (sl : Value) (vb : Nat) (w : World) (hO : OwnO w 0 sl ops) (hn : ops.length ≤ 60000) (hv : Blk w 30 vb (opA o)) :
    Calls Tryd.prog 28 #[sl, .int .i64 (ops.length : Int), .slice (some ⟨vb, 0, none⟩) 1 1] w fun e w' => ∃ sl', e = .returned sl' ∧ OwnO w' 0 sl' (ops ++ [o]) ∧ w.grownBy w' sl.ownBlock ∧ Nx w sl.ownBlock sl'.ownBlock := by
  obtain ⟨i0, hi, hz0, hz1, hz2⟩ := info_parts Tryd.infoOp
  obtain ⟨v', w', hr, h2, h3, h4⟩ := append_nx (P := Tryd.prog) (ty := 0) Tryd.underlying22 hi hz0 hz1 hz2 rfl (by decide) hO ⟨vb, 0, none⟩ 1 1 (opA o).toList rfl (fun j u hj => by
    rw [Go.WideShapes.add_plain, Nat.zero_add, hv.cell j]
    simpa using hj) (opA_one o) (by omega) (by unfold maxLen; omega)
  have hA : ∀ ty, (Builtin.append_ #[22, 22] ty #[sl, .slice (some ⟨vb, 0, none⟩) 1 1]).run Tryd.prog w = .ok v' w' := fun _ => hr
  have HF : Hid (OwnO w' 0 v' (ops ++ [o])) := by
    show Go.World.ownsRow _ _ _ _ _ _ _
    rw [List.length_append, cellsO_app]
    have e : cellsO [o] = (opA o).toList := List.append_nil _
    rw [e]; exact h2
  have H3 : Hid (w.grownBy w' sl.ownBlock) := h3
  have H4 : Hid (Nx w sl.ownBlock v'.ownBlock) := h4
  rcases hO.blk with ⟨rfl, rfl⟩ | ⟨g, cap, cur, rfl, _, hb, k1, k2, k3, k4⟩
  · clear h2 h3 h4 hr hO hv hi hz0 hz1 hz2
    go_enter Tryd.func28, Tryd.ntmps28
    go_wp2_with (at_builtin; refine Lib.wpList_append_run _ rfl _ _ 22 22 rfl _ _ rfl rfl _ _ (hA _) ?_)
    go_ret
    exact ⟨_, rfl, HF.out, H3.out, H4.out⟩
  · obtain ⟨n, hnn⟩ : ∃ n, ops.length = n := ⟨_, rfl⟩
    rw [hnn] at hA k1 hn H3 H4 ⊢
    have hm63 : cap ≤ 9223372036854775807 := k2
    clear h2 h3 h4 hr hO hv hi hz0 hz1 hz2 hnn hb k3 k4
    by_cases hcn : cap = n
    · subst hcn
      go_enter Tryd.func28, Tryd.ntmps28
      go_wp2_with (at_builtin; refine Lib.wpList_append_run _ rfl _ _ 22 22 rfl _ _ rfl rfl _ _ (hA _) ?_)
      go_ret
      exact ⟨_, rfl, HF.out, H3.out, H4.out⟩
    · have hcn2 : ¬ (cap - n = 0) := by omega
      go_enter Tryd.func28, Tryd.ntmps28
      go_wp2_with (at_builtin; refine Lib.wpList_append_run _ rfl _ _ 22 22 rfl _ _ rfl rfl _ _ (hA _) ?_)
      go_ret
      exact ⟨_, rfl, HF.out, H3.out, H4.out⟩

theorem blk_shape {w : World} {t : TypeId} {g : Nat} {cur : Array Value} (h : Blk w t g cur) : w.shape? g = some (t, cur.size) := by
  unfold Blk at h
  simp [World.shape?, h]

/-- The new one does not lie among the others. -/
theorem overlaps_no {w : World} {g vb : Nat} {cur cs : Array Value} (hg : Blk w 30 g cur) (hv : Blk w 30 vb cs) (hne : vb ≠ g) (h0 : cur.size ≠ 0) (off lb cb : Nat) :
    (callFunc 40 #[.slice (some ⟨vb, 0, none⟩) 1 1, .slice (some ⟨g, off, none⟩) lb cb]).run Tryd.prog w = .ok (.value (.bool false)) w := by
  rw [run_callFunc_extern Tryd.func40 (by kernel_rfl) (by kernel_rfl) (by kernel_rfl) (e := Extern.SlicesOverlaps.overlaps #[22, 22] #[4]) (by kernel_rfl),
    Lib.run_overlaps_apart w 22 4 30 Tryd.underlying22 9 Tryd.sizeOf30 ⟨vb, 0, none⟩ ⟨g, off, none⟩ 1 1 lb cb hne _ _ _ _ (blk_shape hv) (blk_shape hg) h0 (hv.free 0) (hv.free _)]
  rfl

set_option maxRecDepth 100000 in
set_option maxHeartbeats 1000000 in
/-- In their midst, with room. -/
theorem insert_room (ops : List OpT) (o : OpT) (i : Nat) (g cap vb : Nat) (cur : Array Value) (w : World) (hi : i < ops.length) (hn : ops.length ≤ 60000) (hb : Blk w 30 g cur) (h1 : ops.length + 1 ≤ cap) (h2 : cap ≤ maxLen) (h3 : cur.size = cap * 9) (h4 : cur.toList.take (ops.length * 9) = cellsO ops) (hv : Blk w 30 vb (opA o)) (hne : vb ≠ g) :
    Calls Tryd.prog 28 #[.slice (some ⟨g, 0, none⟩) ops.length cap, .int .i64 (i : Int), .slice (some ⟨vb, 0, none⟩) 1 1] w fun e w' => e = .returned (.slice (some ⟨g, 0, none⟩) (ops.length + 1) cap) ∧ OwnO w' 0 (.slice (some ⟨g, 0, none⟩) (ops.length + 1) cap) (ops.take i ++ o :: ops.drop i) ∧ w.grownBy w' (some g) := by
  obtain ⟨n, hnn⟩ : ∃ n, ops.length = n := ⟨_, rfl⟩
  have hdl : (cellsO (ops.drop i)).length = (n - i) * 9 := by rw [cellsO_len, List.length_drop, hnn]
  rw [hnn] at hi hn h1 h4 ⊢
  have hov := fun lb cb => overlaps_no hb hv hne (by rw [h3]; omega) ((i + 1) * 9) lb cb
  have hc1 : ∀ ty dc sc, (Builtin.copy_ #[22, 22] ty #[.slice (some ⟨g, (i + 1) * 9, none⟩) (n - i) dc, .slice (some ⟨g, i * 9, none⟩) (n + 1 - i) sc]).run Tryd.prog w.drew = .ok (.int .i64 ((n - i : Nat) : Int)) (w.drew.setRow g (splice cur.toList ((i + 1) * 9) (cellsO (ops.drop i))).toArray) := fun ty dc sc =>
    run_copyO (hb.on (Below.refl _ _).drew) ((i + 1) * 9) _ _ ⟨g, i * 9, none⟩ _ _ (n - i) _ (by simp only [Nat.min_def]; split <;> omega) hdl (fun j u hj => by
      have hjl := (List.getElem?_eq_some_iff.1 hj).1
      rw [hdl] at hjl
      rw [Go.WideShapes.add_plain]
      show w.cell? _ = _
      rw [hb.cell]
      rw [← cellsO_drop, List.getElem?_drop, ← h4, List.getElem?_take_of_lt (by omega)] at hj
      rw [← Array.getElem?_toList]; exact hj) (cellsO_one _) (by rw [hdl, h3]; omega) ty
  obtain ⟨S1, hS1⟩ : ∃ S1, splice cur.toList ((i + 1) * 9) (cellsO (ops.drop i)) = S1 := ⟨_, rfl⟩
  have hL1 : S1.length = cap * 9 := by rw [← hS1, splice_len _ _ _ (by rw [hdl, Array.length_toList, h3]; omega), Array.length_toList, h3]
  rw [hS1] at hc1
  obtain ⟨W1, hW1⟩ : ∃ W1, w.drew.setRow g S1.toArray = W1 := ⟨_, rfl⟩
  rw [hW1] at hc1
  have hB1 : Blk W1 30 g S1.toArray := by rw [← hW1]; exact (hb.on (Below.refl _ _).drew).setRow _
  have hV1 : Blk W1 30 vb (opA o) := by rw [← hW1]; exact (hv.on (Below.refl _ _).drew).setRowOther g hne _
  have hG1 : w.grownBy W1 (some g) := by rw [← hW1]; exact (grown_drew w _).andThen (grown_setRow _ _ _) (fun j hj => .inr hj)
  have hc2 : ∀ ty dc, (Builtin.copy_ #[22, 22] ty #[.slice (some ⟨g, i * 9, none⟩) (n + 1 - i) dc, .slice (some ⟨vb, 0, none⟩) 1 1]).run Tryd.prog W1 = .ok (.int .i64 ((1 : Nat) : Int)) (W1.setRow g (splice S1.toArray.toList (i * 9) (opA o).toList).toArray) := fun ty dc =>
    run_copyO hB1 (i * 9) _ _ ⟨vb, 0, none⟩ _ _ 1 _ (by simp only [Nat.min_def]; split <;> omega) rfl (fun j u hj => by
      rw [Go.WideShapes.add_plain, Nat.zero_add, hV1.cell j]
      simpa using hj) (opA_one o) (by rw [List.size_toArray, hL1]; show i * 9 + 9 ≤ _; omega) ty
  have HF : Hid (OwnO (W1.setRow g (splice S1.toArray.toList (i * 9) (opA o).toList).toArray) 0 (.slice (some ⟨g, 0, none⟩) (n + 1) cap) (ops.take i ++ o :: ops.drop i)) := by
    have hlen : (ops.take i ++ o :: ops.drop i).length = n + 1 := by rw [List.length_append, List.length_cons, List.length_take, List.length_drop, hnn]; omega
    refine OwnO.of hlen (Nat.zero_le _) (hB1.setRow _) (by rw [hlen]; omega) h2 (by rw [List.size_toArray, splice_len _ _ _ (by rw [List.toList_toArray, hL1]; show i * 9 + 9 ≤ _; omega), List.toList_toArray, hL1]) ?_
    have hq := splice_down cur.toList (opA o).toList (cellsO (ops.drop i)) (i * 9) ((i + 1) * 9) (by show _ = i * 9 + 9; omega) (by rw [hdl, Array.length_toList, h3]; omega)
    rw [hlen, List.toList_toArray, List.toList_toArray, ← hS1, show (n + 1) * 9 = (i + 1) * 9 + (cellsO (ops.drop i)).length by rw [hdl]; omega, hq, cellsO_put]
    congr 1
    rw [← cellsO_take, ← h4, List.take_take]
    congr 1
    omega
  have HG : Hid (w.grownBy (W1.setRow g (splice S1.toArray.toList (i * 9) (opA o).toList).toArray) (some g)) := hG1.andThen (grown_setRow _ _ _) (fun j hj => .inr hj)
  generalize splice S1.toArray.toList (i * 9) (opA o).toList = S2 at hc2 HF HG
  have g1 : ((i : Int) == (n : Int)) = false := by rw [beq_eq_false_iff_ne]; omega
  have g2 : ¬ ((i : Int) = (n : Int)) := by omega
  have g3 : ¬ ((cap : Int) < (n : Int) + 1) := by omega
  have g4 : (n : Int) + 1 ≤ (cap : Int) := by omega
  have g5 : (i : Int) ≤ (n : Int) := by omega
  have g6 : (i : Int) + 1 ≤ (n : Int) + 1 := by omega
  have g7 : ¬ (cap = i) := by omega
  have g8 : ¬ (cap = i + 1) := by omega
  have g9 : ¬ (cap - i = 0) := by omega
  have g10 : ¬ (cap - (i + 1) = 0) := by omega
  have g11 : (i : Int) ≤ (n : Int) + 1 := by omega
  have hm63 : cap ≤ 9223372036854775807 := h2
  have HW1 : Hid (w.drew.setRow g S1.toArray = W1) := hW1
  clear hb h3 h4 hv hB1 hV1 hG1 hdl hL1 hS1 hnn hW1
  go_enter Tryd.func28, Tryd.ntmps28
  go_wp2_with (simp only [hov])
  have hw1 : IntKind.i64.wrap ((i : Int) + 1) = (i : Int) + 1 := by rw [IntKind.wrap_i64]; omega
  have hw2 : (0 : Int) ≤ (i : Int) + 1 := by omega
  have hw3 : ((i : Int) + 1).toNat = i + 1 := by omega
  refine wp_region_noPanic ?_
  refine wp_region_held_drew (S := fun _ => True) (by kernel_rfl) (by first | exact trivial | assumption | exact ⟨by assumption, by assumption⟩) (fun hHeld => ?_)
  refine take_at (i := 0) (v := ?_) rfl rfl (by kernel_rfl) (by kernel_rfl) (by kernel_rfl) (fun _ _ _ h => h) (Or.inl ⟨by rfl, ?_⟩) (by assumption) ?_
  rotate_left
  · intro w hSw; (try dsimp only at hSw); go_simp; try with_reducible rfl
  try simp only [Act.put, List.setIfInBounds_toArray, List.set_cons_zero, List.set_cons_succ]
  refine take_at (i := 1) (v := ?_) rfl rfl (by kernel_rfl) (by kernel_rfl) (by kernel_rfl) (fun _ _ _ h => h) (Or.inl ⟨by rfl, ?_⟩) (by assumption) ?_
  rotate_left
  · intro w hSw; (try dsimp only at hSw); go_simp; try with_reducible rfl
  try simp only [Act.put, List.setIfInBounds_toArray, List.set_cons_zero, List.set_cons_succ]
  refine take_at (i := 2) (v := ?_) rfl rfl (by kernel_rfl) (by kernel_rfl) (by kernel_rfl) (fun _ _ _ h => h) (Or.inl ⟨by rfl, ?_⟩) (by assumption) ?_
  rotate_left
  · intro w hSw; (try dsimp only at hSw); go_simp; try with_reducible rfl
  try simp only [Act.put, List.setIfInBounds_toArray, List.set_cons_zero, List.set_cons_succ]
  refine take_at (i := 3) (v := ?_) rfl rfl (by kernel_rfl) (by kernel_rfl) (by kernel_rfl) (fun _ _ _ h => h) (Or.inl ⟨by rfl, ?_⟩) (by assumption) ?_
  rotate_left
  · intro w hSw; (try dsimp only at hSw); go_simp; try with_reducible rfl
  try simp only [Act.put, List.setIfInBounds_toArray, List.set_cons_zero, List.set_cons_succ]
  refine take_at (i := 4) (v := ?_) rfl rfl (by kernel_rfl) (by kernel_rfl) (by kernel_rfl) (fun _ _ _ h => h) (Or.inl ⟨by rfl, ?_⟩) (by assumption) ?_
  rotate_left
  · intro w hSw; (try dsimp only at hSw); go_simp; try with_reducible rfl
  try simp only [Act.put, List.setIfInBounds_toArray, List.set_cons_zero, List.set_cons_succ]
  refine take_at (i := 5) (v := ?_) rfl rfl (by kernel_rfl) (by kernel_rfl) (by kernel_rfl) (fun _ _ _ h => h) (Or.inl ⟨by rfl, ?_⟩) (by assumption) ?_
  rotate_left
  · intro w hSw; (try dsimp only at hSw); go_simp; try with_reducible rfl
  try simp only [Act.put, List.setIfInBounds_toArray, List.set_cons_zero, List.set_cons_succ]
  refine take_at (i := 6) (v := ?_) rfl rfl (by kernel_rfl) (by kernel_rfl) (by kernel_rfl) (fun _ _ _ h => h) (Or.inl ⟨by rfl, ?_⟩) (by assumption) ?_
  rotate_left
  · intro w hSw; (try dsimp only at hSw); go_simp; try with_reducible rfl
  try simp only [Act.put, List.setIfInBounds_toArray, List.set_cons_zero, List.set_cons_succ]
  refine take_at (i := 7) (v := ?_) rfl rfl (by kernel_rfl) (by kernel_rfl) (by kernel_rfl) (fun _ _ _ h => h) (Or.inl ⟨by rfl, ?_⟩) (by assumption) ?_
  rotate_left
  · intro w hSw; (try dsimp only at hSw); go_simp; try with_reducible rfl
  try simp only [Act.put, List.setIfInBounds_toArray, List.set_cons_zero, List.set_cons_succ]
  refine wpAnyH_ready (rs := [8]) (by kernel_rfl) (by simp) ?_
  refine AllReadyH.cons rfl (fun K hK => ?_) AllReadyH.nil
  refine wp_copyR _ _ _ 22 22 rfl _ _ rfl rfl (hc1 _ _ _) ?_
  refine hK.out _ _ trivial (fun hHeld => ?_)
  clear hK K
  refine wpAnyH_done (by kernel_rfl) (NoPanic.normal ?_) _
  clear hc1 hov HW1
  go_wp2_with (at_builtin; refine wpList_copyR _ rfl _ _ 22 22 rfl _ _ rfl rfl (hc2 _ _) ?_)
  go_ret
  exact ⟨rfl, HF.out, HG.out⟩

set_option maxRecDepth 100000 in
set_option maxHeartbeats 1000000 in
/-- In their midst, without room. -/
theorem insert_grow (ops : List OpT) (o : OpT) (i : Nat) (g cap vb : Nat) (cur : Array Value) (w : World) (hi : i < ops.length) (hn : ops.length ≤ 60000) (hb : Blk w 30 g cur) (h1 : cap = ops.length) (h3 : cur.size = cap * 9) (h4 : cur.toList.take (ops.length * 9) = cellsO ops) (hv : Blk w 30 vb (opA o)) :
    Calls Tryd.prog 28 #[.slice (some ⟨g, 0, none⟩) ops.length cap, .int .i64 (i : Int), .slice (some ⟨vb, 0, none⟩) 1 1] w fun e w' => ∃ G, e = .returned (.slice (some ⟨w.heap.size, 0, none⟩) (ops.length + 1) G) ∧ OwnO w' 0 (.slice (some ⟨w.heap.size, 0, none⟩) (ops.length + 1) G) (ops.take i ++ o :: ops.drop i) ∧ w.grownBy w' none := by
  obtain ⟨i0, hi0, hz0, hz1, hz2⟩ := info_parts Tryd.infoOp
  obtain ⟨n, hnn⟩ : ∃ n, ops.length = n := ⟨_, rfl⟩
  have hdl : (cellsO (ops.drop i)).length = (n - i) * 9 := by rw [cellsO_len, List.length_drop, hnn]
  have htl : (cellsO (ops.take i)).length = i * 9 := by rw [cellsO_len, List.length_take, hnn]; omega
  rw [hnn] at hi hn h1 h4 ⊢
  subst h1
  have hgw := hb.lt
  have hvw := hv.lt
  have hold : (Builtin.firstCells i0.size i (.slice (some ⟨g, 0, none⟩) i cap)).run Tryd.prog w.drew = .ok (cellsO (ops.take i)).toArray w.drew := by
    rw [hz1]
    exact run_firstCells_some w.drew 9 i ⟨g, 0, none⟩ i cap (cellsO (ops.take i)) htl (fun j u hj => by
      have hjl := (List.getElem?_eq_some_iff.1 hj).1
      rw [htl] at hjl
      rw [Go.WideShapes.add_plain, Nat.zero_add]
      show w.cell? _ = _
      rw [hb.cell]
      rw [← cellsO_take, List.getElem?_take_of_lt hjl, ← h4, List.getElem?_take_of_lt (by omega)] at hj
      rw [← Array.getElem?_toList]; exact hj)
  obtain ⟨G, hG⟩ : ∃ G, G = grownCap w (cap + 1) cap 30 := ⟨_, rfl⟩
  have hGn : cap + 1 ≤ G := by rw [hG]; exact grownCap_ge w _ _ _
  have hG63 : G ≤ maxLen := by rw [hG]; exact grownCap_le_maxLen w (cap + 1) cap _ (by unfold maxLen; omega)
  obtain ⟨ROW, hROW⟩ : ∃ ROW : Array Value, ROW = (cellsO (ops.take i)).toArray ++ Builtin.zeroCells (Value.agg #[.int .i64 0, .int .i64 0, .int .i64 0, .int .i64 0, .int .i64 0, .int .i64 0, .int .i64 0, .string ⟨#[]⟩, .string ⟨#[]⟩]).cells (cap + 1 - i) ++ Builtin.zeroCells (Value.agg #[.int .i64 0, .int .i64 0, .int .i64 0, .int .i64 0, .int .i64 0, .int .i64 0, .int .i64 0, .string ⟨#[]⟩, .string ⟨#[]⟩]).cells (G - (cap + 1)) := ⟨_, rfl⟩
  have hRl : ROW.size = G * 9 := by
    rw [hROW]
    simp [Builtin.zeroCells, Value.cells, htl]
    omega
  have hRt : ROW.toList.take (i * 9) = cellsO (ops.take i) := by
    rw [hROW, Array.toList_append, Array.toList_append, List.append_assoc, List.toList_toArray, List.take_append_of_le_length (by rw [htl]; omega), List.take_of_length_le (by rw [htl]; omega)]
  have hZ : ∀ ty, (Builtin.append_ #[22, 3] ty #[.slice (some ⟨g, 0, none⟩) i cap, .int .i64 ((cap : Int) + 1 - (i : Int))]).run Tryd.prog w = .ok (.slice (some ⟨w.heap.size, 0, none⟩) (cap + 1) G) (w.drew.alloc (.cells ROW 30)) := fun ty => by
    have h := Lib.run_append_grow_zeros (P := Tryd.prog) w 22 3 ty 30 i0 _ .i64 .i64 Tryd.underlying22 Tryd.underlying3 hi0 hz0 (some ⟨g, 0, none⟩) i cap (cellsO (ops.take i)) hold (cap + 1 - i) (by omega) (by rw [hz1]; decide) (by omega) (by omega) (by rw [hz2]; omega) (by rw [hz2, show i + (cap + 1 - i) = cap + 1 by omega]; exact growslice_fits (by omega) (by omega))
    rw [show i + (cap + 1 - i) = cap + 1 by omega, ← hG, ← hROW] at h
    rw [show (cap : Int) + 1 - (i : Int) = ((cap + 1 - i : Nat) : Int) by omega]
    exact h
  obtain ⟨W1, hW1⟩ : ∃ W1, w.drew.alloc (.cells ROW 30) = W1 := ⟨_, rfl⟩
  rw [hW1] at hZ
  have hbw : Below w.heap.size w W1 := by rw [← hW1]; exact (Below.refl _ w).drew.alloc (Nat.le_refl _) _
  have hB1 : Blk W1 30 w.heap.size ROW := by rw [← hW1]; exact Blk.new w.drew _ _
  have hV1 : Blk W1 30 vb (opA o) := hv.on hbw
  have hO1 : Blk W1 30 g cur := hb.on hbw
  have hc2 : ∀ ty dc, (Builtin.copy_ #[22, 22] ty #[.slice (some ⟨w.heap.size, i * 9, none⟩) (cap + 1 - i) dc, .slice (some ⟨vb, 0, none⟩) 1 1]).run Tryd.prog W1 = .ok (.int .i64 ((1 : Nat) : Int)) (W1.setRow w.heap.size (splice ROW.toList (i * 9) (opA o).toList).toArray) := fun ty dc =>
    run_copyO hB1 (i * 9) _ _ ⟨vb, 0, none⟩ _ _ 1 _ (by simp only [Nat.min_def]; split <;> omega) rfl (fun j u hj => by
      rw [Go.WideShapes.add_plain, Nat.zero_add, hV1.cell j]
      simpa using hj) (opA_one o) (by rw [hRl]; show i * 9 + 9 ≤ _; omega) ty
  obtain ⟨S1, hS1⟩ : ∃ S1, splice ROW.toList (i * 9) (opA o).toList = S1 := ⟨_, rfl⟩
  have hL1 : S1.length = G * 9 := by rw [← hS1, splice_len _ _ _ (by show i * 9 + 9 ≤ _; rw [Array.length_toList, hRl]; omega), Array.length_toList, hRl]
  rw [hS1] at hc2
  obtain ⟨W2, hW2⟩ : ∃ W2, W1.setRow w.heap.size S1.toArray = W2 := ⟨_, rfl⟩
  rw [hW2] at hc2
  have hB2 : Blk W2 30 w.heap.size S1.toArray := by rw [← hW2]; exact hB1.setRow _
  have hO2 : Blk W2 30 g cur := by rw [← hW2]; exact hO1.setRowOther _ (by omega) _
  have hbw2 : Below w.heap.size w W2 := by rw [← hW2]; exact below_setRow hbw (Nat.le_refl _) _
  have hc1 : ∀ ty dc sc, (Builtin.copy_ #[22, 22] ty #[.slice (some ⟨w.heap.size, (i + 1) * 9, none⟩) (cap - i) dc, .slice (some ⟨g, i * 9, none⟩) (cap - i) sc]).run Tryd.prog W2.drew = .ok (.int .i64 ((cap - i : Nat) : Int)) (W2.drew.setRow w.heap.size (splice S1.toArray.toList ((i + 1) * 9) (cellsO (ops.drop i))).toArray) := fun ty dc sc =>
    run_copyO (hB2.on (Below.refl _ _).drew) ((i + 1) * 9) _ _ ⟨g, i * 9, none⟩ _ _ (cap - i) _ (by simp only [Nat.min_def]; split <;> omega) hdl (fun j u hj => by
      have hjl := (List.getElem?_eq_some_iff.1 hj).1
      rw [hdl] at hjl
      rw [Go.WideShapes.add_plain]
      show W2.cell? _ = _
      rw [hO2.cell]
      rw [← cellsO_drop, List.getElem?_drop, ← h4, List.getElem?_take_of_lt (by omega)] at hj
      rw [← Array.getElem?_toList]; exact hj) (cellsO_one _) (by rw [hdl, List.size_toArray, hL1]; omega) ty
  have HF : Hid (OwnO (W2.drew.setRow w.heap.size (splice S1.toArray.toList ((i + 1) * 9) (cellsO (ops.drop i))).toArray) 0 (.slice (some ⟨w.heap.size, 0, none⟩) (cap + 1) G) (ops.take i ++ o :: ops.drop i)) := by
    have hlen : (ops.take i ++ o :: ops.drop i).length = cap + 1 := by rw [List.length_append, List.length_cons, List.length_take, List.length_drop, hnn]; omega
    refine OwnO.of hlen (Nat.zero_le _) ((hB2.on (Below.refl _ _).drew).setRow _) (by rw [hlen]; omega) hG63 (by rw [List.size_toArray, splice_len _ _ _ (by rw [List.toList_toArray, hL1, hdl]; omega), List.toList_toArray, hL1]) ?_
    have hq := splice_up ROW.toList (opA o).toList (cellsO (ops.drop i)) (i * 9) ((i + 1) * 9) (by show _ = i * 9 + 9; omega) (by rw [hdl, Array.length_toList, hRl]; omega)
    rw [hlen, List.toList_toArray, List.toList_toArray, ← hS1, show (cap + 1) * 9 = (i + 1) * 9 + (cellsO (ops.drop i)).length by rw [hdl]; omega, hq, cellsO_put, hRt]
  have HG : Hid (w.grownBy (W2.drew.setRow w.heap.size (splice S1.toArray.toList ((i + 1) * 9) (cellsO (ops.drop i))).toArray) none) := by
    have hb3 : Below w.heap.size w (W2.drew.setRow w.heap.size (splice S1.toArray.toList ((i + 1) * 9) (cellsO (ops.drop i))).toArray) := below_setRow hbw2.drew (Nat.le_refl _) _
    exact ⟨hb3.os, hb3.tape, hb3.output, hb3.size, fun k hk _ => hb3.block k hk⟩
  generalize splice S1.toArray.toList ((i + 1) * 9) (cellsO (ops.drop i)) = S2 at hc1 HF HG
  have g1 : ((i : Int) == (cap : Int)) = false := by rw [beq_eq_false_iff_ne]; omega
  have g2 : ¬ ((i : Int) = (cap : Int)) := by omega
  have g3 : (cap : Int) < (cap : Int) + 1 := by omega
  have g5 : (i : Int) ≤ (cap : Int) := by omega
  have g6 : (i : Int) + 1 ≤ (cap : Int) + 1 := by omega
  have g7 : ¬ (cap = i) := by omega
  have g8 : ¬ (G = i + 1) := by omega
  have g9 : ¬ (cap - i = 0) := by omega
  have g10 : ¬ (G - (i + 1) = 0) := by omega
  have g11 : (i : Int) ≤ (cap : Int) + 1 := by omega
  have g12 : ¬ (G = i) := by omega
  have g13 : ¬ (G - i = 0) := by omega
  have hm63 : G ≤ 9223372036854775807 := hG63
  clear hb h3 h4 hv hB1 hV1 hO1 hB2 hO2 hdl htl hL1 hS1 hnn hW1 hW2 hbw hbw2 hold hG hGn hG63 hROW hRl hRt hi0 hz0 hz1 hz2
  go_enter Tryd.func28, Tryd.ntmps28
  go_wp2_with (first
    | (at_builtin; refine Lib.wpList_append_run _ rfl _ _ 22 3 rfl _ _ rfl rfl _ _ (hZ _) ?_)
    | (at_builtin; refine wpList_copyR _ rfl _ _ 22 22 rfl _ _ rfl rfl (hc2 _ _) ?_))
  have hw1 : IntKind.i64.wrap ((i : Int) + 1) = (i : Int) + 1 := by rw [IntKind.wrap_i64]; omega
  have hw2 : (0 : Int) ≤ (i : Int) + 1 := by omega
  have hw3 : ((i : Int) + 1).toNat = i + 1 := by omega
  refine wp_region_noPanic ?_
  refine wp_region_held_drew (S := fun _ => True) (by kernel_rfl) (by first | exact trivial | assumption | exact ⟨by assumption, by assumption⟩) (fun hHeld => ?_)
  refine take_at (i := 0) (v := ?_) rfl rfl (by kernel_rfl) (by kernel_rfl) (by kernel_rfl) (fun _ _ _ h => h) (Or.inl ⟨by rfl, ?_⟩) (by assumption) ?_
  rotate_left
  · intro w hSw; (try dsimp only at hSw); go_simp; try with_reducible rfl
  try simp only [Act.put, List.setIfInBounds_toArray, List.set_cons_zero, List.set_cons_succ]
  refine take_at (i := 1) (v := ?_) rfl rfl (by kernel_rfl) (by kernel_rfl) (by kernel_rfl) (fun _ _ _ h => h) (Or.inl ⟨by rfl, ?_⟩) (by assumption) ?_
  rotate_left
  · intro w hSw; (try dsimp only at hSw); go_simp; try with_reducible rfl
  try simp only [Act.put, List.setIfInBounds_toArray, List.set_cons_zero, List.set_cons_succ]
  refine take_at (i := 2) (v := ?_) rfl rfl (by kernel_rfl) (by kernel_rfl) (by kernel_rfl) (fun _ _ _ h => h) (Or.inl ⟨by rfl, ?_⟩) (by assumption) ?_
  rotate_left
  · intro w hSw; (try dsimp only at hSw); go_simp; try with_reducible rfl
  try simp only [Act.put, List.setIfInBounds_toArray, List.set_cons_zero, List.set_cons_succ]
  refine take_at (i := 3) (v := ?_) rfl rfl (by kernel_rfl) (by kernel_rfl) (by kernel_rfl) (fun _ _ _ h => h) (Or.inl ⟨by rfl, ?_⟩) (by assumption) ?_
  rotate_left
  · intro w hSw; (try dsimp only at hSw); go_simp; try with_reducible rfl
  try simp only [Act.put, List.setIfInBounds_toArray, List.set_cons_zero, List.set_cons_succ]
  refine take_at (i := 4) (v := ?_) rfl rfl (by kernel_rfl) (by kernel_rfl) (by kernel_rfl) (fun _ _ _ h => h) (Or.inl ⟨by rfl, ?_⟩) (by assumption) ?_
  rotate_left
  · intro w hSw; (try dsimp only at hSw); go_simp; try with_reducible rfl
  try simp only [Act.put, List.setIfInBounds_toArray, List.set_cons_zero, List.set_cons_succ]
  refine take_at (i := 5) (v := ?_) rfl rfl (by kernel_rfl) (by kernel_rfl) (by kernel_rfl) (fun _ _ _ h => h) (Or.inl ⟨by rfl, ?_⟩) (by assumption) ?_
  rotate_left
  · intro w hSw; (try dsimp only at hSw); go_simp; try with_reducible rfl
  try simp only [Act.put, List.setIfInBounds_toArray, List.set_cons_zero, List.set_cons_succ]
  refine take_at (i := 6) (v := ?_) rfl rfl (by kernel_rfl) (by kernel_rfl) (by kernel_rfl) (fun _ _ _ h => h) (Or.inl ⟨by rfl, ?_⟩) (by assumption) ?_
  rotate_left
  · intro w hSw; (try dsimp only at hSw); go_simp; try with_reducible rfl
  try simp only [Act.put, List.setIfInBounds_toArray, List.set_cons_zero, List.set_cons_succ]
  refine take_at (i := 7) (v := ?_) rfl rfl (by kernel_rfl) (by kernel_rfl) (by kernel_rfl) (fun _ _ _ h => h) (Or.inl ⟨by rfl, ?_⟩) (by assumption) ?_
  rotate_left
  · intro w hSw; (try dsimp only at hSw); go_simp; try with_reducible rfl
  try simp only [Act.put, List.setIfInBounds_toArray, List.set_cons_zero, List.set_cons_succ]
  refine wpAnyH_ready (rs := [8]) (by kernel_rfl) (by simp) ?_
  refine AllReadyH.cons rfl (fun K hK => ?_) AllReadyH.nil
  refine wp_copyR _ _ _ 22 22 rfl _ _ rfl rfl (hc1 _ _ _) ?_
  refine hK.out _ _ trivial (fun hHeld => ?_)
  clear hK K
  refine wpAnyH_done (by kernel_rfl) (NoPanic.normal ?_) _
  clear hc1 hc2 hZ
  go_wp2_with fail
  go_ret
  exact ⟨G, rfl, HF.out, HG.out⟩

theorem insert_any (ops : List OpT) (o : OpT) (i : Nat) (hi : i ≤ ops.length) (sl : Value) (vb : Nat) (w : World) (hO : OwnO w 0 sl ops) (hn : ops.length ≤ 60000) (hv : Blk w 30 vb (opA o)) (hne : sl.ownBlock ≠ some vb) :
    Calls Tryd.prog 28 #[sl, .int .i64 (i : Int), .slice (some ⟨vb, 0, none⟩) 1 1] w fun e w' => ∃ sl', e = .returned sl' ∧ OwnO w' 0 sl' (ops.take i ++ o :: ops.drop i) ∧ w.grownBy w' sl.ownBlock ∧ Nx w sl.ownBlock sl'.ownBlock := by
  by_cases hin : i = ops.length
  · subst hin
    rw [List.take_length, List.drop_length]
    exact insert_end ops o sl vb w hO hn hv
  · rcases hO.blk with ⟨rfl, rfl⟩ | ⟨g, cap, cur, rfl, _, hb, h1, h2, h3, h4⟩
    · exact absurd (Nat.le_zero.1 hi) hin
    · by_cases hc : ops.length + 1 ≤ cap
      · refine (insert_room ops o i g cap vb cur w (by omega) hn hb hc h2 h3 h4 hv (fun e => hne (by rw [e]; rfl))).mono ?_
        rintro e w' ⟨rfl, k1, k2⟩
        exact ⟨_, rfl, k1, k2, Nx.refl _ _⟩
      · refine (insert_grow ops o i g cap vb cur w (by omega) hn hb (by omega) h3 h4 hv).mono ?_
        rintro e w' ⟨G, rfl, k1, k2⟩
        exact ⟨_, rfl, k1, k2.but _, fun k hk => .inr (by cases hk; exact Nat.le_refl _)⟩

set_option maxRecDepth 100000 in
set_option maxHeartbeats 1000000 in
/-- A copy of operations. -/
theorem clone_any (ops : List OpT) (sl : Value) (w : World) (hO : OwnO w 0 sl ops) (hn : ops.length ≤ 60000) :
    Calls Tryd.prog 31 #[sl] w fun e w' => ∃ v, e = .returned v ∧ OwnO w' w.heap.size v ops ∧ Below w.heap.size w w' := by
  obtain ⟨i0, hi, hz0, hz1, hz2⟩ := info_parts Tryd.infoOp
  have heq := fun (w : World) a n c => Lib.run_eql_slice_nil (P := Tryd.prog) w 22 30 a n c 0 0 Tryd.underlying22
  rcases hO.blk with ⟨rfl, rfl⟩ | ⟨g, cap, cur, rfl, _, hb, k1, k2, k3, k4⟩
  · clear hO hi hz0 hz1 hz2
    go_enter Tryd.func31, Tryd.ntmps31
    go_wp2_with fail
    go_ret
    exact ⟨_, rfl, OwnO.nil _ _, Below.refl _ _⟩
  · have hB0 : Below w.heap.size w (w.alloc (.cells #[] 30)) := below_new w _
    have hown : (w.alloc (.cells #[] 30)).ownsRow w.heap.size 30 9 (.slice (some ⟨w.heap.size, 0, none⟩) 0 0) 0 [] := ⟨rfl, .inr ⟨w.heap.size, 0, #[], rfl, Nat.le_refl _, Blk.new w _ _, Nat.le_refl _, Nat.zero_le _, rfl, rfl⟩⟩
    obtain ⟨v', w', hr, h2, h3, _⟩ := run_append_own (P := Tryd.prog) (w.alloc (.cells #[] 30)) w.heap.size 22 0 30 i0 _ 9 88 Tryd.underlying22 hi hz0 hz1 hz2 rfl (by decide) _ 0 [] hown ⟨g, 0, none⟩ ops.length cap (cellsO ops) (cellsO_len ops) (fun j u hj => by
      have hjl := (List.getElem?_eq_some_iff.1 hj).1
      rw [cellsO_len] at hjl
      rw [Go.WideShapes.add_plain, Nat.zero_add, (hb.alloc _).cell]
      rw [← k4, List.getElem?_take_of_lt hjl] at hj
      rw [← Array.getElem?_toList]; exact hj) (cellsO_one ops) (by unfold maxLen; omega) (by omega) (by simp)
    rw [Nat.zero_add, List.nil_append] at h2
    have hA : ∀ ty, (Builtin.append_ #[22, 22] ty #[.slice (some ⟨w.heap.size, 0, none⟩) 0 0, .slice (some ⟨g, 0, none⟩) ops.length cap]).run Tryd.prog (w.alloc (.cells #[] 30)) = .ok v' w' := fun _ => hr
    have HF : Hid (OwnO w' w.heap.size v' ops) := h2
    have HG : Hid (Below w.heap.size w w') := hB0.grown h3 hB0.size (fun k e => by cases e; exact Nat.le_refl _)
    clear h2 h3 hr hown hB0 hO hb k3 k4 hi hz0 hz1 hz2
    go_enter Tryd.func31, Tryd.ntmps31
    go_wp2_with (at_builtin; refine Lib.wpList_append_run _ rfl _ _ 22 22 rfl _ _ rfl rfl _ _ (hA _) ?_)
    go_ret
    exact ⟨_, rfl, HF.out, HG.out⟩
end Go.Proofs.YtaomhhooipfjbaaDoor
