/- The code's layer 14: Sizes. -/
import Derived.Test.YtjijkhahmgikoaaDoorPdB
namespace Go.Proofs.YtjijkhahmgikoaaDoor
open Go.RowKit
set_option linter.unusedSimpArgs false

theorem owns_sameG {w w' : World} {B n c : Nat} {e : TypeId} {v : Value} {xs : List Value} (h : w.ownsRow B e c v n xs) (hb : ∀ k, v.ownBlock = some k → w'.heap[k]? = w.heap[k]?) : w'.ownsRow B e c v n xs := by
  obtain ⟨hl, h | ⟨g, cap, cur, rfl, hB, hc, r⟩⟩ := h
  · exact ⟨hl, .inl h⟩
  · exact ⟨hl, .inr ⟨g, cap, cur, rfl, hB, by rw [hb g rfl]; exact hc, r⟩⟩

theorem owns_onG {w w' : World} {B n c : Nat} {e : TypeId} {v : Value} {xs : List Value} (h : w.ownsRow B e c v n xs) (hb : Below w.heap.size w w') : w'.ownsRow B e c v n xs :=
  owns_sameG h (fun k hk => hb.block k (World.ownsRow.lt h k hk).2)

set_option maxRecDepth 100000 in
set_option maxHeartbeats 4000000 in
theorem appendSeq_in (n : Nat) (hn : 3 ≤ n) (w : World) :
    CallsIn Fence.wide n Tryd.prog 25 #[.slice none 0 0, .func (.func 24) #[] #[]] w fun e w' => ∃ v, e = .returned v ∧ OwnV w' w.heap.size 3 .i64 v 9 sizesL ∧ Below w.heap.size w w' := by
  obtain ⟨i0, hi, hz0, hz1, hz2⟩ := info_parts Tryd.infoInt14
  have h1 : 1 ≤ n := by omega
  refine callsIn_of_wp_marks Tryd.func25 rfl trivial ?_ rfl
  simp only [Tryd.ntmps25, List.size_toArray, List.length_cons, List.length_nil, Nat.reduceAdd, Nat.reduceSub, Array.replicate_succ, Array.replicate_zero, List.push_toArray, List.append_toArray, List.nil_append, List.cons_append]
  gi_wp2
  have bS := Boxed.new w 26 (.slice none 0 0)
  have hB0 : Below w.heap.size w (w.alloc (.cells #[.slice none 0 0] 26)) := below_new w _
  have hsz : (w.alloc (.cells #[.slice none 0 0] 26)).heap.size = w.heap.size + 1 := by simp
  obtain ⟨W0, hW0⟩ : ∃ W0, w.alloc (.cells #[.slice none 0 0] 26) = W0 := ⟨_, rfl⟩
  rw [hW0] at bS hB0 hsz ⊢
  clear hW0
  refine wpIn_rangeFunc_ownF rfl h1 (gf := 24) (lb := #[]) rfl trivial (enters_of Tryd.func24 (by kernel_rfl) rfl) (rising_gives (n - 1) (by omega) W0) walksK_t (fun W l o o' hl ho hc hw => KeepsWalks.putObj _ ho hw) (Below.refl _ _) (fun _ => rfl)
    (fun pre W => (∃ v, Boxed W w.heap.size 26 v ∧ W.ownsRow w.heap.size 3 1 v pre.length (pre.map (Value.int .i64)) ∧ True) ∧ Below w.heap.size w W)
    (fun _ _ _ => False)
    (OwnFrom.and (Own.from (holdsRow_own w.heap.size w.heap.size 26 3 1 (fun pre : List Int => pre.length) (fun pre : List Int => pre.map (Value.int .i64)) (fun _ _ => True)) _) (ownFrom_below (Nat.le_refl _) (by omega)))
    (fun _ _ _ _ _ hs _ _ => hs)
    ⟨⟨_, bS, World.ownsRow_nil _ _ _ _, trivial⟩, hB0⟩
    (fun x => { tmps := #[.slice none 0 0, .func (.func 24) #[] #[], .pointer (some ⟨w.heap.size, 0, none⟩), undef, .slice none 0 0, .int .i64 x, .func (.func 24) #[] #[], .int .i64 x, undef, undef, undef, undef, undef], defers := [] })
    ?assign ?body ?done ?stop
  case assign =>
    intro l x W K hK
    gi_wp2_with (rw [Oper.semAt_eq _ _ _ (fun c h => by cases h)]; go_simp)
    exact hK
  case body =>
    rintro l pre x W ⟨⟨v, bS1, hrow, _⟩, hB1⟩ hlt
    have cS := bS1.cell
    have hsW := hB1.size
    have hcell : ∀ j u, [Value.int .i64 x][j]? = some u → (W.alloc (.cells #[.int .i64 x] 3)).cell? ((⟨W.heap.size, 0, none⟩ : Addr).add j) = some u := fun j u hj => by
      rw [Go.WideShapes.add_plain, Nat.zero_add, cell_of_row _ _ _ _ 3 (0, 0) (heap_alloc_last W _)]
      simpa using hj
    have HC : Hid (∀ j u, _) := hcell
    have HB1 : Hid (Below w.heap.size w W) := hB1
    have HR : Hid (W.ownsRow w.heap.size 3 1 v pre.length (pre.map (Value.int .i64))) := hrow
    have HS : Hid (Boxed W w.heap.size 26 v) := bS1
    have HI : Hid (Tryd.prog.info? 3 = some i0 ∧ i0.zero = some (.int .i64 0) ∧ i0.size = 1 ∧ i0.bytes = 8) := ⟨hi, hz0, hz1, hz2⟩
    clear hcell hB1 hrow bS1 hi hz0 hz1 hz2
    gi_wp2_with (first
      | (gi_at_builtin
         refine wpListIn_append_own _ rfl _ _ 26 rfl w.heap.size 3 i0 _ 1 8 Tryd.underlying26 HI.out.1 HI.out.2.1 HI.out.2.2.1 HI.out.2.2.2 rfl (by decide) _ _ _ rfl (HR.out.alloc _) ⟨W.heap.size, 0, none⟩ 1 1 [Value.int .i64 x] rfl rfl HC.out (by simp [Value.oneCell']) (by unfold maxLen; omega) (by omega) (by simp; omega) ?_
         intro v' w1 hown' hgrow _
         obtain ⟨g', cap', rfl⟩ := ownsRow_succ hown'
         obtain ⟨hv1, hv2, hr2, hk2, hb2⟩ := HS.out.appended (by decide) HR.out hsW (Nat.le_refl _) hown' hgrow
         have hc1 := hv1.cell
         have hf1 := hv1.frozen)
      | (rw [Oper.semAt_eq _ _ _ (fun c h => by cases h)]; go_simp))
    refine ⟨hk2, ⟨hk2.size, fun k o h hw => hk2.same k o h (by cases o <;> first | rfl | cases hw)⟩, ⟨_, hv2, ?_, trivial⟩, HB1.out.trans hb2⟩
    rw [List.length_append, List.map_append]
    exact hr2
  case done =>
    rintro D xs W hD hS ⟨⟨v, bS1, hrow, _⟩, hB1⟩ hK
    subst hS
    have cS := bS1.cell
    have HR : Hid (W.ownsRow w.heap.size 3 1 v sizesL.length (sizesL.map (Value.int .i64))) := hrow
    have HB1 : Hid (Below w.heap.size w W) := hB1
    clear hrow hB1 bS1
    gi_wp2
    refine ⟨by simp, .inl ⟨_, _, rfl, run_takeDeferred hK, ?_⟩⟩
    refine ⟨_, results_tmp rfl _ _ _, v, rfl, owns_sameG HR.out (fun k hk => World.putObj_heap_other (fun e => ?_)), HB1.out.grown (grownBy_putObj' W D _) HB1.out.size (fun k e => by cases e; omega)⟩
    subst e
    rcases HR.out.2 with ⟨rfl, _⟩ | ⟨g, cap, cur, rfl, _, hgb, _⟩
    · cases hk
    · cases hk
      rw [hK] at hgb; cases hgb
  case stop =>
    rintro D c pre W _ _ h _
    exact h.elim

set_option maxRecDepth 100000 in
set_option maxHeartbeats 2000000 in
theorem collect_any (w : World) :
    Calls Tryd.prog 20 #[.func (.func 24) #[] #[]] w fun e w' => ∃ v, e = .returned v ∧ OwnV w' w.heap.size 3 .i64 v 9 sizesL ∧ Below w.heap.size w w' := by
  have cA := callsIn_wide.1 (appendSeq_in 6 (by omega) w)
  go_enter Tryd.func20, Tryd.ntmps20
  go_wp2_with (go_at_call 25; refine cA.mono ?_; rintro e w' ⟨v, rfl, q2, q3⟩)
  go_ret
  exact ⟨v, rfl, q2, q3⟩

/-- Sizes: all sizes. -/
theorem sizes_any (w : World) : Calls Tryd.prog 12 #[] w fun e w' => ∃ v, e = .returned v ∧ OwnV w' w.heap.size 3 .i64 v 9 sizesL ∧ Below w.heap.size w w' := by
  have cR := rising_any w
  have cC := collect_any w
  go_enter Tryd.func12, Tryd.ntmps12
  go_wp2_with fail
  refine cR.mono ?_
  rintro e w1 ⟨rfl, rfl⟩
  clear cR
  go_wp2_with fail
  refine cC.mono ?_
  rintro e w2 ⟨v, rfl, q2, q3⟩
  clear cC
  go_wp2_with fail
  go_ret
  exact ⟨v, rfl, q2, q3⟩
end Go.Proofs.YtjijkhahmgikoaaDoor
