/- The document's layer 14: Size, Pad, Unpad. -/
import Derived.Test.YtjijkhahmgikoaaDoorZer
import Derived.Test.YtjijkhahmgikoaaDoorL1
namespace Go.Proofs.YtjijkhahmgikoaaDoor
open Go.RowKit
set_option linter.unusedSimpArgs false

/-- Twice as much, till it is above. -/
def upS : Nat → Nat → Nat → Nat
  | 0, s, _ => s
  | f + 1, s, n => if s ≤ n then upS f (2 * s) n else s

/-- The size of a text of n bytes. -/
def sizeN (n : Nat) : Nat := upS 9 64 n

theorem sizeN_is (n : Nat) (h : n < 16384) : n < sizeN n ∧ sizeN n ≤ 16384 ∧ 64 ≤ sizeN n ∧ (sizeN n = 64 ∨ sizeN n ≤ 2 * n) := by
  unfold sizeN
  simp only [upS]
  repeat' split
  all_goals omega

def sizeE (n : Int) : Int × Int := if 0 ≤ n ∧ n < 16384 then ((sizeN n.toNat : Int), 0) else (0, 2)

set_option maxRecDepth 100000 in
set_option maxHeartbeats 2000000 in
theorem rsize_any (n : Int) (w : World) : Calls Tryd.prog 10 #[.int .i64 n] w fun e w' => e = .returned (.tuple #[.int .i64 (sizeE n).1, .int .i64 (sizeE n).2]) ∧ w' = w := by
  unfold sizeE
  by_cases h0 : n < 0
  · rw [if_neg (by omega)]
    go_enter Tryd.func10, Tryd.ntmps10
    go_wp2
    go_ret2
    exact ⟨rfl, rfl⟩
  · by_cases h1 : 16384 ≤ n
    · rw [if_neg (by omega)]
      go_enter Tryd.func10, Tryd.ntmps10
      go_wp2
      go_ret2
      exact ⟨rfl, rfl⟩
    · rw [if_pos (by omega)]
      obtain ⟨N, rfl⟩ : ∃ N : Nat, n = (N : Int) := ⟨n.toNat, by omega⟩
      rw [Int.toNat_natCast]
      have hN : N < 16384 := by omega
      obtain ⟨Z, hZ⟩ : ∃ Z, sizeN N = Z := ⟨_, rfl⟩
      have HZ : Hid (upS 9 64 N = Z) := hZ
      rw [hZ]
      clear hZ
      go_enter Tryd.func10, Tryd.ntmps10
      go_wp2_with fail
      go_loopw [4] (fun s wr => ∃ k p : Nat, k ≤ 8 ∧ Hid (p = 64 * 2 ^ k) ∧ s = .int .i64 p ∧ Hid (upS (9 - k) p N = Z) ∧ wr = w) (fun s _ => 40000 - (intOf s).toNat)
      case atStart => exact ⟨0, 64, by omega, rfl, rfl, HZ, rfl⟩
      case round =>
        obtain ⟨k, p, hk, HP, rfl, HU, rfl⟩ := hrel
        have hp8 : k = 8 → p = 16384 := fun e => by have := HP.out; rw [e] at this; simpa using this
        have hp1 : 1 ≤ p := by have h2 : 1 ≤ 2 ^ k := Nat.one_le_two_pow; have := HP.out; omega
        by_cases hle : p ≤ N
        · have b0 : (p : Int) ≤ (N : Int) := by omega
          have hk7 : k < 8 := by
            rcases Nat.lt_or_ge k 8 with h | h
            · exact h
            · have := hp8 (by omega); omega
          have HP' : Hid (2 * p = 64 * 2 ^ (k + 1)) := by show _ = _; rw [HP.out, Nat.pow_succ]; omega
          have HU' : Hid (upS (9 - (k + 1)) (2 * p) N = Z) := by
            show _ = _
            have h := HU.out
            rw [show 9 - k = (9 - (k + 1)) + 1 by omega] at h
            unfold upS at h
            rwa [if_pos hle] at h
          have hw : IntKind.i64.wrap (2 * (p : Int)) = ((2 * p : Nat) : Int) := by rw [IntKind.wrap_i64]; omega
          clear HP HU hp8
          go_wp2_with fail
          refine ⟨?_, ?_⟩
          · refine ⟨k + 1, 2 * p, by omega, HP', ?_, HU', ?_⟩
            · rw [Int.natCast_mul]; rfl
            · first | rfl | trivial
          · simp [intOf] <;> omega
        · have b0 : ¬ ((p : Int) ≤ (N : Int)) := by omega
          obtain rfl : p = Z := by
            have h := HU.out
            rw [show 9 - k = (8 - k) + 1 by omega] at h
            unfold upS at h
            rwa [if_neg hle] at h
          go_wp2_with fail
          go_ret2
          exact ⟨rfl, rfl⟩
end Go.Proofs.YtjijkhahmgikoaaDoor
