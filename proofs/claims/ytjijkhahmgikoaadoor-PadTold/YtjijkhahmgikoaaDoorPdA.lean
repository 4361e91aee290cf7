/- The code's layer 14: rising, Size, Sizes. -/
import Derived.Test.YtjijkhahmgikoaaDoorRPdD
import Derived.Test.YtjijkhahmgikoaaDoorPdP
import Derived.RangeFuncNested
import Derived.RangeFuncLeaves
import Derived.RangeFuncBox
import Derived.Maps.AppendAt
import Derived.Shelf.AbstractIn
import Derived.OwnWalkIn
import Derived.TacticsInMore
import Derived.RegionIn
import Derived.LoopNIn
import Derived.LoopIn
namespace Go.Proofs.YtjijkhahmgikoaaDoor
open Go.RowKit
set_option linter.unusedSimpArgs false

set_option maxRecDepth 100000 in
set_option maxHeartbeats 2000000 in
/-- The sizes come, the least one first. -/
theorem rising1_in (n : Nat) (hn : 1 ≤ n) (l : Nat) (J Jx : List Int → World → Prop)
    (hY : ∀ pre x W, J pre W → pre.length < 9 → YieldAt Fence.wide (n - 1) Tryd.prog l #[.int .i64 x] W fun e W' => (e = .returned (.bool true) ∧ J (pre ++ [x]) W' ∧ KeepsWalks W W') ∨ (e = .returned (.bool false) ∧ Jx (pre ++ [x]) W'))
    (W : World) (h0 : J [] W) :
    CallsIn Fence.wide n Tryd.prog 24 #[.func (.yield l) #[] #[]] W fun e W' => (∃ v, e = .returned v) ∧ ((∃ xs : List Int, xs = sizesL ∧ J xs W') ∨ (∃ pre : List Int, (∃ k, k < 9 ∧ pre = sizesL.take (k + 1)) ∧ Jx pre W')) := by
  have HY : Hid (∀ pre x W, _) := hY
  have HJ0 : Hid (J [] W) := h0
  clear hY h0
  refine callsIn_of_wp Tryd.func24 rfl trivial ?_ rfl
  simp only [Tryd.ntmps24, List.size_toArray, List.length_cons, List.length_nil, Nat.reduceAdd, Nat.reduceSub, Array.replicate_succ, Array.replicate_zero, List.push_toArray, List.append_toArray, List.nil_append, List.cons_append]
  gi_wp2
  gi_loopw [2] (fun s wr => ∃ k p : Nat, k ≤ 9 ∧ Hid (p = 64 * 2 ^ k) ∧ s = .int .i64 p ∧ Hid (J (sizesL.take k) wr)) (fun s _ => 70000 - (intOf s).toNat)
  case atStart => exact ⟨0, 64, by omega, rfl, rfl, HJ0⟩
  case round =>
    obtain ⟨k, p, hk, HP, rfl, HJ⟩ := hrel
    have hp9 : k = 9 → p = 32768 := fun e => by have := HP.out; rw [e] at this; simpa using this
    have hp8 : k ≤ 8 → p ≤ 16384 := fun e => by
      have h2 : 2 ^ k ≤ 2 ^ 8 := Nat.pow_le_pow_right (by decide) e
      have := HP.out
      omega
    have hp1 : 1 ≤ p := by have h2 : 1 ≤ 2 ^ k := Nat.one_le_two_pow; have := HP.out; omega
    by_cases hle : k ≤ 8
    · have hp := hp8 hle
      have b0 : (p : Int) ≤ 16384 := by omega
      have HP' : Hid (2 * p = 64 * 2 ^ (k + 1)) := by show _ = _; rw [HP.out, Nat.pow_succ]; omega
      have hw : IntKind.i64.wrap ((p : Int) * 2) = ((2 * p : Nat) : Int) := by rw [IntKind.wrap_i64]; omega
      have hsn := sizes_next k (by omega)
      rw [← HP.out] at hsn
      obtain ⟨fn, tmps, assign, body, hy, hR⟩ := HY.out (sizesL.take k) (p : Int) wr HJ.out (by rw [List.length_take]; omega)
      rw [← hsn] at hR
      have HRd : Hid (RoundIn _ _ _ _ _ _ _ _ _ _) := hR
      clear HP hp9 hp8 HJ hsn hR
      gi_wp2
      refine HRd.out.mono ?_
      rintro e w4 (⟨rfl, hJ4, hk4⟩ | ⟨rfl, hJ4⟩)
      · have HJ4 : Hid (J (sizesL.take (k + 1)) w4) := hJ4
        clear hJ4 hk4 HRd hy
        gi_wp2
        go_roundw
        case rel => exact ⟨k + 1, 2 * p, by omega, HP', rfl, HJ4⟩
        case measure => simp [intOf] <;> omega
      · have HJ4 : Hid (Jx (sizesL.take (k + 1)) w4) := hJ4
        clear hJ4 HRd hy
        gi_wp2
        refine bodyPost_ret (results_none rfl _ _ _) rfl ?_
        exact ⟨⟨_, rfl⟩, .inr ⟨_, ⟨k, by omega, rfl⟩, HJ4.out⟩⟩
    · obtain rfl : k = 9 := by omega
      have hp := hp9 rfl
      have b0 : ¬ ((p : Int) ≤ 16384) := by omega
      clear hp8 hp9 HP
      gi_wp2
      go_end0
      have HJ9 : J sizesL wr := HJ.out
      first | exact ⟨⟨_, rfl⟩, .inl HJ9⟩ | exact ⟨⟨_, rfl⟩, .inl ⟨_, rfl, HJ9⟩⟩

/-- What rising hands back goes over the sizes. -/
theorem rising_gives (n : Nat) (hn : 1 ≤ n) (w : World) :
    SeqStopsK Fence.wide n Tryd.prog 24 #[] (fun x => #[.int .i64 x]) KeepsWalks (fun xs => xs = sizesL) (fun pre => ∃ k, k < 9 ∧ pre = sizesL.take (k + 1)) 9 w := fun l J Jx W _ _ _ hY h0 =>
  rising1_in n hn l J Jx hY W h0

theorem rising_any (w : World) : Calls Tryd.prog 19 #[] w fun e w' => e = .returned (.func (.func 24) #[] #[]) ∧ w' = w := by
  go_enter Tryd.func19, Tryd.ntmps19
  go_wp2
  go_ret
  exact ⟨rfl, rfl⟩

/-- The first size that is above. -/
theorem first_above (N : Nat) (k : Nat) (hk : k < 9) (h1 : ∀ y ∈ sizesL.take k, y ≤ (N : Int)) (h2 : (N : Int) < ((64 * 2 ^ k : Nat) : Int)) : sizeE (N : Int) = (((64 * 2 ^ k : Nat) : Int), 0) := by
  have hk' : k = 0 ∨ k = 1 ∨ k = 2 ∨ k = 3 ∨ k = 4 ∨ k = 5 ∨ k = 6 ∨ k = 7 ∨ k = 8 := by omega
  have hlt : N < 16384 := by
    have h3 : 2 ^ k ≤ 2 ^ 8 := Nat.pow_le_pow_right (by decide) (by omega)
    omega
  rw [sizeE_of N hlt]
  have hs : sizeN N = 64 * 2 ^ k := by
    have h5 := sizeN_one N hlt
    have h6 := sizeN_is N hlt
    generalize sizeN N = Z at *
    rcases hk' with rfl | rfl | rfl | rfl | rfl | rfl | rfl | rfl | rfl <;> simp [sizesL] at h1 h2 ⊢ <;> omega
  rw [hs]

theorem none_above (N : Nat) (h1 : ∀ y ∈ sizesL, y ≤ (N : Int)) : sizeE (N : Int) = (0, 2) := by
  have := h1 16384 (by simp [sizesL])
  unfold sizeE
  rw [if_neg (by omega)]

theorem results_cells2 {fn : Func} {p u : Tmp} {ty tz : TypeId} (h : fn.results = #[.cell p ty, .cell u tz]) (tmps : Array Value) (P : Program) (w : World) :
    (results fn tmps).run P w =
      ((asAddr (tmps.getD p undef)).run P w).andThen fun a w₁ => ((loadVar ty a).run P w₁).andThen fun v w₂ => ((asAddr (tmps.getD u undef)).run P w₂).andThen fun b w₃ => ((loadVar tz b).run P w₃).andThen fun x w₄ => .ok (.tuple #[v, x]) w₄ := by
  simp only [results, h]
  simp [Sem.run_bind, Result.andThen]

end Go.Proofs.YtjijkhahmgikoaaDoor
