/- The document's layer 14: Sizes. -/
import Derived.Test.YtjijkhahmgikoaaDoorRPdC
import Derived.Test.YtjijkhahmgikoaaDoorRowG
namespace Go.Proofs.YtjijkhahmgikoaaDoor
open Go.RowKit
set_option linter.unusedSimpArgs false

/-- All sizes. -/
def sizesL : List Int := [64, 128, 256, 512, 1024, 2048, 4096, 8192, 16384]

theorem Tryd.infoInt14 : (Tryd.prog.info? 3).map (fun i => (i.zero, i.size, i.bytes)) = some (some (.int .i64 0), 1, 8) := by kernel_rfl

theorem sizes_next (k : Nat) (h : k < 9) : sizesL.take (k + 1) = sizesL.take k ++ [((64 * 2 ^ k : Nat) : Int)] := by
  have : k = 0 ∨ k = 1 ∨ k = 2 ∨ k = 3 ∨ k = 4 ∨ k = 5 ∨ k = 6 ∨ k = 7 ∨ k = 8 := by omega
  rcases this with rfl | rfl | rfl | rfl | rfl | rfl | rfl | rfl | rfl <;> rfl

set_option maxRecDepth 100000 in
set_option maxHeartbeats 2000000 in
theorem rsizes_any (w : World) : Calls Tryd.prog 13 #[] w fun e w' => ∃ v, e = .returned v ∧ OwnV w' w.heap.size 3 .i64 v 9 sizesL ∧ Below w.heap.size w w' := by
  obtain ⟨i0, hi, hz0, hz1, hz2⟩ := info_parts Tryd.infoInt14
  go_enter Tryd.func13, Tryd.ntmps13
  go_wp2_with fail
  go_loopw [1, 2] (fun v s wr => ∃ k p : Nat, k ≤ 9 ∧ Hid (p = 64 * 2 ^ k) ∧ s = .int .i64 p ∧ Hid (OwnV wr w.heap.size 3 .i64 v k (sizesL.take k)) ∧ Hid (Below w.heap.size w wr)) (fun _ s _ => 70000 - (intOf s).toNat)
  case atStart => exact ⟨0, 64, by omega, rfl, rfl, World.ownsRow_nil _ _ _ _, Below.refl _ _⟩
  case round =>
    obtain ⟨k, p, hk, HP, rfl, HO, HB⟩ := hrel
    have hp9 : k = 9 → p = 32768 := fun e => by have := HP.out; rw [e] at this; simpa using this
    have hp8 : k ≤ 8 → p ≤ 16384 := fun e => by
      have h2 : 2 ^ k ≤ 2 ^ 8 := Nat.pow_le_pow_right (by decide) e
      have := HP.out
      omega
    have hp1 : 1 ≤ p := by have h2 : 1 ≤ 2 ^ k := Nat.one_le_two_pow; have := HP.out; omega
    by_cases hle : k ≤ 8
    · have hp := hp8 hle
      have b0 : (p : Int) ≤ 16384 := by omega
      have HP' : Hid (2 * p = 64 * 2 ^ (k + 1)) := by show _ = _; rw [HP.out, Nat.pow_succ]; omega
      have hw : IntKind.i64.wrap (2 * (p : Int)) = ((2 * p : Nat) : Int) := by rw [IntKind.wrap_i64]; omega
      have hsn := sizes_next k (by omega)
      rw [← HP.out] at hsn
      have HN : Hid (sizesL.take (k + 1) = sizesL.take k ++ [(p : Int)]) := hsn
      have hown := HO.out
      have hsz := HB.out.size
      clear HP hp9 hp8 HO hsn
      unfold OwnV at hown
      go_wp2_with (at_builtin; refine wpList_appG rfl (.tmp 7) (.tmp 9) 26 rfl w.heap.size 3 i0 _ 1 8 Tryd.underlying26 hi hz0 hz1 hz2 rfl (by decide) wr u1 _ _ rfl hown #[.int .i64 (p : Int)] rfl (by simp [Value.oneCell']) rfl (by omega) (by unfold maxLen; omega) hsz ?_)
      intro v4 w4 hown4 hb4
      have HO4 : Hid (OwnV w4 w.heap.size 3 .i64 v4 (k + 1) (sizesL.take (k + 1))) := by
        show OwnV _ _ _ _ _ _ _
        unfold OwnV
        rw [HN.out, List.map_append]
        first | exact hown4 | (rw [List.map_take]; exact hown4)
      have HB4 : Hid (Below w.heap.size w w4) := HB.out.trans hb4
      clear hown4 hb4 hown HB HN
      go_wp2_with fail
      refine ⟨?_, ?_⟩
      · refine ⟨k + 1, 2 * p, by omega, HP', ?_, HO4, HB4⟩
        rw [Int.natCast_mul]; rfl
      · simp [intOf] <;> omega
    · obtain rfl : k = 9 := by omega
      have hp := hp9 rfl
      have b0 : ¬ ((p : Int) ≤ 16384) := by omega
      clear hp8 hp9 HP
      go_wp2_with fail
      go_ret
      exact ⟨_, rfl, HO.out, HB.out⟩
end Go.Proofs.YtjijkhahmgikoaaDoor
