/- What awake asks of layer 7, computed by the kernel. -/
import Derived.Test.YtfajkkjppelgcaaR7
import Derived.Test.YtfajkkjppelgcaaL5
namespace Go.Proofs.Ytfajkkjppelgcaa
open Go.RowKit
set_option maxRecDepth 100000

theorem nought1_first : firstN (zeroB 32) (zeroB 12) 1 = [0x61707865, 0x3320646e, 0x79622d32, 0x6b206574, 0, 0, 0, 0, 0, 0, 0, 0, 1, 0, 0, 0] := by decide +kernel
theorem nought1_rounds : roundsN [0x61707865, 0x3320646e, 0x79622d32, 0x6b206574, 0, 0, 0, 0, 0, 0, 0, 0, 1, 0, 0, 0] 10 = [0x5d768f3a, 0x4717ece7, 0x3358d66, 0xa1e7c7ff, 0xa0290fcb, 0x6965e348, 0x3e53c612, 0xed7aee32, 0x7621b729, 0x434ee69c, 0xb03371d5, 0xd539d874, 0x281fed30, 0x45fb0a51, 0x1f0ae1ac, 0x6f4d794b] := by decide +kernel
theorem nought1_block : blockB (zeroB 32) (zeroB 12) 1 = ⟨#[159, 7, 231, 190, 85, 81, 56, 122, 152, 186, 151, 124, 115, 45, 8, 13, 203, 15, 41, 160, 72, 227, 101, 105, 18, 198, 83, 62, 50, 238, 122, 237, 41, 183, 33, 118, 156, 230, 78, 67, 213, 113, 51, 176, 116, 216, 57, 213, 49, 237, 31, 40, 81, 10, 251, 69, 172, 225, 10, 31, 75, 121, 77, 111]⟩ := by
  unfold blockB sumsN
  rw [nought1_first, nought1_rounds]
  decide +kernel
def textT : ByteArray := ⟨#[116, 101, 120, 116]⟩
def textC : ByteArray := ⟨#[235, 98, 159, 202]⟩
def keyZ : ByteArray := ⟨#[118, 184, 224, 173, 160, 241, 61, 144, 64, 93, 106, 229, 83, 134, 189, 40, 189, 210, 25, 184, 160, 141, 237, 26, 168, 54, 239, 204, 139, 119, 13, 199]⟩
theorem keyA_z : keyA (zeroB 32) (zeroB 12) = keyZ := by
  unfold keyA
  rw [nought_block]
  decide +kernel
theorem stream_z : streamB (zeroB 32) (zeroB 12) 1 textT = textC := by
  have h := streamB_size (zeroB 32) (zeroB 12) 1 textT
  refine bt_ext _ _ (by rw [h]; rfl) (fun i hi => ?_)
  rw [h] at hi
  have hi4 : i < 4 := hi
  rw [bt_stream _ _ _ _ _ hi4, show 1 + i / 64 = 1 by omega, nought1_block]
  have : ∀ i : Fin 4, bt textT i.1 ^^^ bt ⟨#[159, 7, 231, 190, 85, 81, 56, 122, 152, 186, 151, 124, 115, 45, 8, 13, 203, 15, 41, 160, 72, 227, 101, 105, 18, 198, 83, 62, 50, 238, 122, 237, 41, 183, 33, 118, 156, 230, 78, 67, 213, 113, 51, 176, 116, 216, 57, 213, 49, 237, 31, 40, 81, 10, 251, 69, 172, 225, 10, 31, 75, 121, 77, 111]⟩ (i.1 % 64) = bt textC i.1 := by decide +kernel
  exact this ⟨i, hi4⟩
theorem tag_b : tagA (zeroB 32) (zeroB 12) ⟨#[98]⟩ textC = ⟨#[126, 149, 243, 59, 170, 43, 16, 117, 176, 228, 58, 202, 28, 0, 52, 127]⟩ := by
  unfold tagA
  rw [keyA_z]
  decide +kernel
theorem tag_c : tagA (zeroB 32) (zeroB 12) ⟨#[99]⟩ textC = ⟨#[75, 186, 29, 224, 142, 113, 85, 230, 215, 1, 140, 171, 185, 59, 63, 130]⟩ := by
  unfold tagA
  rw [keyA_z]
  decide +kernel
/-- What is sealed, bound to "b"; bound to "c" it does not open. -/
def sealZ : ByteArray := ⟨#[235, 98, 159, 202, 126, 149, 243, 59, 170, 43, 16, 117, 176, 228, 58, 202, 28, 0, 52, 127]⟩
theorem seal_z : sealB (zeroB 32) (zeroB 12) ⟨#[98]⟩ textT = sealZ := by
  unfold sealB
  rw [stream_z, tag_b]
  decide +kernel
theorem opens_not : ¬ OpensA (zeroB 32) (zeroB 12) ⟨#[99]⟩ sealZ := by
  rintro ⟨_, h⟩
  have e : sealZ.extract 0 (cutA sealZ) = textC := by decide +kernel
  rw [e, tag_c] at h
  revert h
  decide +kernel
end Go.Proofs.Ytfajkkjppelgcaa
