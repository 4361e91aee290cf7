/- What awake asks of layer 15, computed by the kernel. -/
import Derived.Test.YthfhhfpgmecjcaaDoorKyD
import Derived.Test.YthfhhfpgmecjcaaDoorL3
namespace Go.Proofs.YthfhhfpgmecjcaaDoor
open Go.RowKit
set_option maxRecDepth 100000

def kyU : ByteArray := ⟨#[75, 91, 163, 229, 67, 78, 242, 5, 168, 137, 68, 87, 254, 212, 140, 39, 65, 160, 215, 138, 231, 225, 156, 208, 130, 159, 46, 252, 29, 110, 109, 80]⟩
def kyN : ByteArray := ⟨#[2, 0, 0, 0, 0, 0, 0, 0, 0, 0, 0, 7]⟩
def kyM : ByteArray := ⟨#[2, 0, 0, 0, 0, 0, 0, 0, 0, 0, 0, 8]⟩
def kyT : ByteArray := ⟨#[48, 49, 50, 51, 52, 53, 54, 55, 56, 57, 97, 98, 99, 100, 101, 102, 48, 49, 50, 51, 52, 53, 54, 55, 56, 57, 97, 98, 99, 100, 101, 102]⟩
def kyC : ByteArray := ⟨#[108, 235, 34, 211, 5, 28, 131, 189, 104, 213, 164, 10, 59, 68, 104, 17, 25, 22, 52, 66, 75, 11, 88, 15, 46, 37, 149, 49, 226, 208, 214, 222]⟩
def kyS : ByteArray := ⟨#[108, 235, 34, 211, 5, 28, 131, 189, 104, 213, 164, 10, 59, 68, 104, 17, 25, 22, 52, 66, 75, 11, 88, 15, 46, 37, 149, 49, 226, 208, 214, 222, 184, 146, 26, 172, 194, 93, 244, 85, 192, 89, 16, 233, 166, 245, 186, 44]⟩
theorem ky_under_in : sumN ⟨(bytesOf 64 (fun i => bt ⟨#[0, 0, 0, 0, 0, 0, 0, 0, 0, 0, 0, 0, 0, 0, 0, 0, 0, 0, 0, 0, 0, 0, 0, 0, 0, 0, 0, 0, 0, 0, 0, 0]⟩ i ^^^ 54) ++ [119, 114, 97, 112, 1]).toArray⟩ = [0x63877e5e, 0x3d581486, 0xa03c2f61, 0xaed8ecdf, 0x796a5a02, 0x7cf4e665, 0x42b6e476, 0x4e1a46d7] := by decide +kernel
theorem ky_under_out : sumN ⟨(bytesOf 64 (fun i => bt ⟨#[0, 0, 0, 0, 0, 0, 0, 0, 0, 0, 0, 0, 0, 0, 0, 0, 0, 0, 0, 0, 0, 0, 0, 0, 0, 0, 0, 0, 0, 0, 0, 0]⟩ i ^^^ 92) ++ [99, 135, 126, 94, 61, 88, 20, 134, 160, 60, 47, 97, 174, 216, 236, 223, 121, 106, 90, 2, 124, 244, 230, 101, 66, 182, 228, 118, 78, 26, 70, 215]).toArray⟩ = [0x4b5ba3e5, 0x434ef205, 0xa8894457, 0xfed48c27, 0x41a0d78a, 0xe7e19cd0, 0x829f2efc, 0x1d6e6d50] := by decide +kernel
theorem ky_under_bytes : ofN [0x63877e5e, 0x3d581486, 0xa03c2f61, 0xaed8ecdf, 0x796a5a02, 0x7cf4e665, 0x42b6e476, 0x4e1a46d7] = ⟨#[99, 135, 126, 94, 61, 88, 20, 134, 160, 60, 47, 97, 174, 216, 236, 223, 121, 106, 90, 2, 124, 244, 230, 101, 66, 182, 228, 118, 78, 26, 70, 215]⟩ := by decide +kernel
theorem ky_under_ends : ofN [0x4b5ba3e5, 0x434ef205, 0xa8894457, 0xfed48c27, 0x41a0d78a, 0xe7e19cd0, 0x829f2efc, 0x1d6e6d50] = ⟨#[75, 91, 163, 229, 67, 78, 242, 5, 168, 137, 68, 87, 254, 212, 140, 39, 65, 160, 215, 138, 231, 225, 156, 208, 130, 159, 46, 252, 29, 110, 109, 80]⟩ := by decide +kernel
theorem ky_under_mac : macB ⟨#[0, 0, 0, 0, 0, 0, 0, 0, 0, 0, 0, 0, 0, 0, 0, 0, 0, 0, 0, 0, 0, 0, 0, 0, 0, 0, 0, 0, 0, 0, 0, 0]⟩ ⟨#[119, 114, 97, 112, 1]⟩ = ⟨#[75, 91, 163, 229, 67, 78, 242, 5, 168, 137, 68, 87, 254, 212, 140, 39, 65, 160, 215, 138, 231, 225, 156, 208, 130, 159, 46, 252, 29, 110, 109, 80]⟩ := by
  unfold macB
  rw [keyOf_short _ (by decide)]
  unfold turnB
  have e1 := append_lists (bytesOf 64 (fun i => bt ⟨#[0, 0, 0, 0, 0, 0, 0, 0, 0, 0, 0, 0, 0, 0, 0, 0, 0, 0, 0, 0, 0, 0, 0, 0, 0, 0, 0, 0, 0, 0, 0, 0]⟩ i ^^^ 54)) [119, 114, 97, 112, 1]
  have e2 := append_lists (bytesOf 64 (fun i => bt ⟨#[0, 0, 0, 0, 0, 0, 0, 0, 0, 0, 0, 0, 0, 0, 0, 0, 0, 0, 0, 0, 0, 0, 0, 0, 0, 0, 0, 0, 0, 0, 0, 0]⟩ i ^^^ 92)) [99, 135, 126, 94, 61, 88, 20, 134, 160, 60, 47, 97, 174, 216, 236, 223, 121, 106, 90, 2, 124, 244, 230, 101, 66, 182, 228, 118, 78, 26, 70, 215]
  rw [e1, ky_under_in, ky_under_bytes, e2, ky_under_out, ky_under_ends]

theorem ky_zero : zeroB 32 = ⟨#[0, 0, 0, 0, 0, 0, 0, 0, 0, 0, 0, 0, 0, 0, 0, 0, 0, 0, 0, 0, 0, 0, 0, 0, 0, 0, 0, 0, 0, 0, 0, 0]⟩ := by decide +kernel
theorem ky_under : underB (zeroB 32) = kyU := by
  rw [ky_zero]
  unfold underB expandB
  rw [show (32 + 31) / 32 = 1 from rfl]
  unfold partsB
  unfold partsB
  unfold partB
  unfold partB
  rw [show (⟨#[]⟩ : ByteArray) ++ wrapT ++ oneByte (0 + 1) = ⟨#[119, 114, 97, 112, 1]⟩ by decide +kernel, ky_under_mac]
  decide +kernel
theorem ky_seven : nonceB 2 7 = kyN := by decide +kernel
theorem ky_eight : nonceB 2 8 = kyM := by decide +kernel
theorem ky_told : nonceB 2 258 = ⟨#[2, 0, 0, 0, 0, 0, 0, 0, 0, 0, 1, 2]⟩ := by decide +kernel
theorem ky_one_first : firstN kyU kyN 1 = [0x61707865, 0x3320646e, 0x79622d32, 0x6b206574, 0xe5a35b4b, 0x5f24e43, 0x574489a8, 0x278cd4fe, 0x8ad7a041, 0xd09ce1e7, 0xfc2e9f82, 0x506d6e1d, 0x1, 0x2, 0x0, 0x7000000] := by decide +kernel
theorem ky_one_rounds : roundsN [0x61707865, 0x3320646e, 0x79622d32, 0x6b206574, 0xe5a35b4b, 0x5f24e43, 0x574489a8, 0x278cd4fe, 0x8ad7a041, 0xd09ce1e7, 0xfc2e9f82, 0x506d6e1d, 0x1, 0x2, 0x0, 0x7000000] 10 = [0x7ea061f7, 0x5794c4c3, 0xef63bf1e, 0xbecbae4, 0x8b62cbde, 0x327bf03c, 0xfcaf926e, 0x9126df83, 0xbf342f29, 0x88acbf0, 0x375d6dc5, 0x18d47074, 0x70551ba8, 0x43ca222e, 0xa64755ca, 0x28980a97] := by decide +kernel
theorem ky_one_block : blockB kyU kyN 1 = ⟨#[92, 218, 16, 224, 49, 41, 181, 138, 80, 236, 197, 104, 88, 32, 13, 119, 41, 39, 6, 113, 127, 62, 110, 56, 22, 28, 244, 83, 129, 180, 179, 184, 106, 207, 11, 74, 215, 173, 39, 217, 71, 13, 140, 51, 145, 222, 65, 105, 169, 27, 85, 112, 48, 34, 202, 67, 202, 85, 71, 166, 151, 10, 152, 47]⟩ := by
  unfold blockB sumsN
  rw [ky_one_first, ky_one_rounds]
  decide +kernel
theorem ky_nil_first : firstN kyU kyN 0 = [0x61707865, 0x3320646e, 0x79622d32, 0x6b206574, 0xe5a35b4b, 0x5f24e43, 0x574489a8, 0x278cd4fe, 0x8ad7a041, 0xd09ce1e7, 0xfc2e9f82, 0x506d6e1d, 0x0, 0x2, 0x0, 0x7000000] := by decide +kernel
theorem ky_nil_rounds : roundsN [0x61707865, 0x3320646e, 0x79622d32, 0x6b206574, 0xe5a35b4b, 0x5f24e43, 0x574489a8, 0x278cd4fe, 0x8ad7a041, 0xd09ce1e7, 0xfc2e9f82, 0x506d6e1d, 0x0, 0x2, 0x0, 0x7000000] 10 = [0xe8680d07, 0xc9910b02, 0xe5c24ed1, 0x8cae4b02, 0xcef17181, 0xfa52d605, 0xf9431479, 0x74e8920a, 0x3f9f5bbb, 0xefe17cfd, 0xefb5f35d, 0xefcd07b3, 0x828603e2, 0x85a17b34, 0x4d06b393, 0xa2cd09e6] := by decide +kernel
theorem ky_nil_block : blockB kyU kyN 0 = ⟨#[108, 133, 216, 73, 112, 111, 177, 252, 3, 124, 36, 95, 118, 176, 206, 247, 204, 204, 148, 180, 72, 36, 69, 0, 33, 158, 135, 80, 8, 103, 117, 156, 252, 251, 118, 202, 228, 94, 126, 192, 223, 146, 228, 235, 208, 117, 58, 64, 226, 3, 134, 130, 54, 123, 161, 133, 147, 179, 6, 77, 230, 9, 205, 169]⟩ := by
  unfold blockB sumsN
  rw [ky_nil_first, ky_nil_rounds]
  decide +kernel
theorem ky_eight_first : firstN kyU kyM 0 = [0x61707865, 0x3320646e, 0x79622d32, 0x6b206574, 0xe5a35b4b, 0x5f24e43, 0x574489a8, 0x278cd4fe, 0x8ad7a041, 0xd09ce1e7, 0xfc2e9f82, 0x506d6e1d, 0x0, 0x2, 0x0, 0x8000000] := by decide +kernel
theorem ky_eight_rounds : roundsN [0x61707865, 0x3320646e, 0x79622d32, 0x6b206574, 0xe5a35b4b, 0x5f24e43, 0x574489a8, 0x278cd4fe, 0x8ad7a041, 0xd09ce1e7, 0xfc2e9f82, 0x506d6e1d, 0x0, 0x2, 0x0, 0x8000000] 10 = [0x289ee731, 0x357f25f6, 0xc80645d0, 0xd61ad736, 0x38626d5b, 0xf25d94a2, 0x11fec547, 0xc02382a0, 0x3023d816, 0x2cc478ba, 0xd7129bd8, 0xaf255702, 0xbad85e3, 0x1c05e4be, 0x5d7960f6, 0xf5ed00ed] := by decide +kernel
theorem ky_eight_block : blockB kyU kyM 0 = ⟨#[150, 95, 15, 138, 100, 138, 159, 104, 2, 115, 104, 65, 170, 60, 59, 65, 166, 200, 5, 30, 229, 226, 79, 248, 239, 78, 67, 105, 158, 87, 176, 231, 87, 120, 251, 186, 161, 90, 97, 253, 90, 59, 65, 211, 31, 197, 146, 255, 227, 133, 173, 11, 192, 228, 5, 28, 246, 96, 121, 93, 237, 0, 237, 253]⟩ := by
  unfold blockB sumsN
  rw [ky_eight_first, ky_eight_rounds]
  decide +kernel

theorem ky_stream : streamB kyU kyN 1 kyT = kyC := by
  have h := streamB_size kyU kyN 1 kyT
  refine bt_ext _ _ (by rw [h]; rfl) (fun i hi => ?_)
  rw [h] at hi
  have hi4 : i < 32 := hi
  rw [bt_stream _ _ _ _ _ hi4, show 1 + i / 64 = 1 by omega, ky_one_block]
  have : ∀ i : Fin 32, bt kyT i.1 ^^^ bt ⟨#[92, 218, 16, 224, 49, 41, 181, 138, 80, 236, 197, 104, 88, 32, 13, 119, 41, 39, 6, 113, 127, 62, 110, 56, 22, 28, 244, 83, 129, 180, 179, 184, 106, 207, 11, 74, 215, 173, 39, 217, 71, 13, 140, 51, 145, 222, 65, 105, 169, 27, 85, 112, 48, 34, 202, 67, 202, 85, 71, 166, 151, 10, 152, 47]⟩ (i.1 % 64) = bt kyC i.1 := by decide +kernel
  exact this ⟨i, hi4⟩
theorem ky_key7 : keyA kyU kyN = ⟨#[108, 133, 216, 73, 112, 111, 177, 252, 3, 124, 36, 95, 118, 176, 206, 247, 204, 204, 148, 180, 72, 36, 69, 0, 33, 158, 135, 80, 8, 103, 117, 156]⟩ := by
  unfold keyA
  rw [ky_nil_block]
  decide +kernel
theorem ky_key8 : keyA kyU kyM = ⟨#[150, 95, 15, 138, 100, 138, 159, 104, 2, 115, 104, 65, 170, 60, 59, 65, 166, 200, 5, 30, 229, 226, 79, 248, 239, 78, 67, 105, 158, 87, 176, 231]⟩ := by
  unfold keyA
  rw [ky_eight_block]
  decide +kernel
theorem ky_tag7 : tagA kyU kyN wrapT kyC = ⟨#[184, 146, 26, 172, 194, 93, 244, 85, 192, 89, 16, 233, 166, 245, 186, 44]⟩ := by
  unfold tagA
  rw [ky_key7]
  decide +kernel
theorem ky_tag8 : tagA kyU kyM wrapT kyC = ⟨#[51, 25, 47, 211, 14, 35, 222, 254, 144, 229, 14, 187, 188, 133, 240, 166]⟩ := by
  unfold tagA
  rw [ky_key8]
  decide +kernel
theorem ky_wrap : wrapB (zeroB 32) 2 7 kyT = kyS := by
  unfold wrapB sealB
  rw [ky_under, ky_seven, ky_stream, ky_tag7]
  decide +kernel
theorem ky_not : ¬ opensW (zeroB 32) 2 8 kyS := by
  unfold opensW
  rw [ky_under, ky_eight]
  rintro ⟨_, h⟩
  have e : kyS.extract 0 (cutA kyS) = kyC := by decide +kernel
  rw [e, ky_tag8] at h
  revert h
  decide +kernel
theorem ky_opens : opensW (zeroB 32) 2 7 kyS ∧ textW (zeroB 32) 2 7 kyS = kyT := by
  have h := unwrap_back (zeroB 32) kyT 2 7
  rw [ky_wrap] at h
  exact h
theorem kyS_cut : cutA kyS ≤ 32764 := by decide
end Go.Proofs.YthfhhfpgmecjcaaDoor
