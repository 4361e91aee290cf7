/- The document's layer 14: Pad. -/
import Derived.Test.YtjijkhahmgikoaaDoorRPdA
namespace Go.Proofs.YtjijkhahmgikoaaDoor
open Go.RowKit
set_option linter.unusedSimpArgs false

/-- A text, padded. -/
def padP (s : ByteArray) : ByteArray × Int := if s.size < 16384 then ((s ++ ⟨#[128]⟩) ++ zeroB (sizeN s.size - 1 - s.size), 0) else (⟨#[]⟩, 2)

set_option maxRecDepth 100000 in
set_option maxHeartbeats 2000000 in
theorem rpad_any (s : ByteArray) (w : World) (hs : s.size ≤ 9223372036854775807) : Calls Tryd.prog 16 #[.string s] w fun e w' => e = .returned (.tuple #[.string (padP s).1, .int .i64 (padP s).2]) ∧ Below w.heap.size w w' := by
  have C' : ∀ W, _ := fun W => rsize_any (s.size : Int) W
  by_cases h : s.size < 16384
  · have hz : sizeE (s.size : Int) = ((sizeN s.size : Int), 0) := by unfold sizeE; rw [if_pos (by omega), Int.toNat_natCast]
    simp only [hz] at C'
    have C : Hid (∀ W, _) := C'
    obtain ⟨h1, h2, _, _⟩ := sizeN_is s.size h
    have hp : padP s = ((s ++ ⟨#[128]⟩) ++ zeroB (sizeN s.size - 1 - s.size), 0) := by unfold padP; rw [if_pos h]
    rw [hp]
    obtain ⟨Z, hZ⟩ : ∃ Z, sizeN s.size = Z := ⟨_, rfl⟩
    rw [hZ] at C h1 h2 ⊢
    obtain ⟨m, hm⟩ : ∃ m, Z - 1 - s.size = m := ⟨_, rfl⟩
    have hm' : (Z : Int) - 1 - (s.size : Int) = (m : Int) := by omega
    have w1 : IntKind.i64.wrap ((Z : Int) - 1) = (Z : Int) - 1 := by rw [IntKind.wrap_i64]; omega
    have w2 : IntKind.i64.wrap ((Z : Int) - 1 - (s.size : Int)) = (m : Int) := by rw [IntKind.wrap_i64]; omega
    have m1 := fun W => make_zeros m (m : Int) rfl (by omega) W
    have v1 : ∀ W : World, (convert 34 9 (.slice (some ⟨W.heap.size, 0, none⟩) m m)).run Tryd.prog (W.alloc (.cells (zcells m) 5)) = .ok (.string (zeroB m)) (W.alloc (.cells (zcells m) 5)) := fun W => conv_zeros (row_zeros m W)
    obtain ⟨A, hA⟩ : ∃ A, s ++ (⟨#[128]⟩ : ByteArray) = A := ⟨_, rfl⟩
    have hAs : A.size = s.size + 1 := by rw [← hA, ByteArray.size_append]; rfl
    obtain ⟨B, hB⟩ : ∃ B, zeroB m = B := ⟨_, rfl⟩
    have hBs : B.size = m := by rw [← hB, zeroB_size]
    simp only [hB] at v1
    rw [hm, hA, hB]
    clear C' hz hp hZ hm hB
    go_enter Tryd.func16, Tryd.ntmps16
    go_wp2_with fail
    refine (C.out _).mono ?_
    rintro e w3 ⟨rfl, rfl⟩
    clear C
    go_wp2_with fail
    go_ret2
    exact ⟨rfl, below_new _ _⟩
  · have hz : sizeE (s.size : Int) = (0, 2) := by unfold sizeE; rw [if_neg (by omega)]
    simp only [hz] at C'
    have C : Hid (∀ W, _) := C'
    have hp : padP s = (⟨#[]⟩, 2) := by unfold padP; rw [if_neg h]
    rw [hp]
    clear C' hz hp
    go_enter Tryd.func16, Tryd.ntmps16
    go_wp2_with fail
    refine (C.out _).mono ?_
    rintro e w3 ⟨rfl, rfl⟩
    clear C
    go_wp2
    go_ret2
    exact ⟨rfl, Below.refl _ _⟩
end Go.Proofs.YtjijkhahmgikoaaDoor
