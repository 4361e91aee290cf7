import Derived.Test.YtabhkebkbidfhaaGreatDoorKyB
import Derived.Test.YtabhkebkbidfhaaGreatDoorL4
import Derived.Test.YtabhkebkbidfhaaGreatDoorL7
import Derived.Test.YtabhkebkbidfhaaGreatDoorTabs
/- Layer 15, the code: Send, Keep, Fresh, wrapping, Wrap, Unwrap. -/
namespace Go.Proofs.YtabhkebkbidfhaaGreatDoor
open Go.RowKit
set_option maxRecDepth 100000
set_option linter.unusedSimpArgs false

def wrapT : ByteArray := ⟨#[119, 114, 97, 112]⟩
/-- The key by which a member's keys are wrapped. -/
def underB (own : ByteArray) : ByteArray := expandB own wrapT 32
theorem underB_size (own : ByteArray) : (underB own).size = 32 := expandB_size _ _ _
def MayWk (own : ByteArray) (who epoch : Int) : Prop := own.size = 32 ∧ (1 ≤ who ∧ who ≤ 6) ∧ 1 ≤ epoch ∧ epoch ≤ 1099511627775

set_option maxHeartbeats 2000000 in
theorem wrapping_any (own : ByteArray) (who epoch : Int) (w : World) (hT : Tabs w) (h : MayWk own who epoch) :
    Calls Tryz.prog 21 #[.string own, .int .i64 who, .int .i64 epoch] w fun e w' => e = .returned (.tuple #[.string (underB own), .string (nonceB who epoch)]) ∧ Below w.heap.size w w' := by
  obtain ⟨U, hU⟩ : ∃ U, U = underB own := ⟨_, rfl⟩
  obtain ⟨N, hN⟩ : ∃ N, N = nonceB who epoch := ⟨_, rfl⟩
  have CE' := fun w (h' : Tabs w) => expand_ok own wrapT 32 w (by have := h.1; omega) (by decide) (by decide) h'.1.1 h'.1.2
  have CN' := fun w => knonce_yes who epoch w (by have := h.2; omega) (by have := h.2; omega)
  rw [← hN] at CN' ⊢
  rw [show expandB own wrapT 32 = U from hU.symm] at CE'
  rw [← hU]
  have CT : Hid (∀ w : World, Calls Tryz.prog 50 #[.slice (some ⟨w.heap.size, 0, none⟩) 1 1] (w.alloc (.cells #[.string ⟨#[119, 114, 97, 112]⟩] 9)) fun e w' => e = .returned (.string ⟨#[119, 114, 97, 112]⟩) ∧ Below w.heap.size w w') := fun w => tog1 wrapT w (by decide)
  have CE : Hid (∀ w, Tabs w → Calls Tryz.prog 49 #[.string own, .string ⟨#[119, 114, 97, 112]⟩, .int .i64 32] w fun e w' => e = .returned (.tuple #[.string U, .int .i64 0]) ∧ Below w.heap.size w w') := CE'
  have CN : Hid (∀ w, _) := CN'
  have HT : Hid (Tabs w) := hT
  clear CE' CN' hU hN hT h
  go_enter Tryz.func21, Tryz.ntmps21
  go_wp2_with fail
  refine (CT.out w).mono ?_
  rintro e w2 ⟨rfl, hb2⟩
  go_wp2_with fail
  refine (CE.out w2 (HT.out.below hb2)).mono ?_
  rintro e w3 ⟨rfl, hb3⟩
  have hB3 := below_step hb2 (Nat.le_refl _) hb3
  clear hb2 hb3
  go_wp2_with fail
  refine (CN.out w3).mono ?_
  rintro e w4 ⟨rfl, hb4⟩
  have hB4 := below_step hB3 (Nat.le_refl _) hb4
  clear hB3 hb4
  go_wp2_with fail
  go_ret2
  exact ⟨rfl, hB4⟩
end Go.Proofs.YtabhkebkbidfhaaGreatDoor
