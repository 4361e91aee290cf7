/- Layer 16, plain: what an ideal sealer draws. -/
import Derived.Test.YtfajkkjppelgcaaL4
import Derived.Test.YtfajkkjppelgcaaL1
namespace Go.Proofs.Ytfajkkjppelgcaa
open Go.RowKit
set_option maxRecDepth 100000
set_option linter.unusedSectionVars false
variable [Inhabited TabZ]

def vaultT : ByteArray := ⟨#[118, 97, 117, 108, 116]⟩
/-- For which purpose part N is drawn; the part; k parts from N on; n bytes. -/
def purpV (N : Nat) : ByteArray := ⟨(putL [0, (N : Int)] bsh).toArray⟩
theorem purpV_size (N : Nat) : (purpV N).size = 8 := by
  unfold purpV
  show (putL [0, (N : Int)] bsh).toArray.size = 8
  rw [List.size_toArray, putL_length]; rfl
def partV (S : ByteArray) (N : Nat) : ByteArray := expandB (macB vaultT S) (purpV N) 32
theorem partV_size (S : ByteArray) (N : Nat) : (partV S N).size = 32 := expandB_size _ _ _
def partsV (S : ByteArray) (N : Nat) : Nat → ByteArray
  | 0 => ByteArray.empty
  | k + 1 => partsV S N k ++ partV S (N + k)
theorem partsV_succ (S : ByteArray) (N k : Nat) : partsV S N (k + 1) = partsV S N k ++ partV S (N + k) := rfl
theorem partsV_size (S : ByteArray) (N k : Nat) : (partsV S N k).size = 32 * k := by
  induction k with
  | zero => rfl
  | succ k ih => rw [partsV_succ, ByteArray.size_append, ih, partV_size]; omega
theorem partsV_more (S : ByteArray) (N a b : Nat) : partsV S N (a + b) = partsV S N a ++ partsV S (N + a) b := by
  induction b with
  | zero => show partsV S N a = _ ++ ByteArray.empty; rw [ByteArray.append_empty]
  | succ b ih => rw [← Nat.add_assoc, partsV_succ, ih, partsV_succ, ByteArray.append_assoc, Nat.add_assoc]
/-- How many parts n bytes want. -/
def upV (n : Nat) : Nat := (n + 31) / 32
def drawV (S : ByteArray) (N n : Nat) : ByteArray := (partsV S N (upV n)).extract 0 n
theorem drawV_size (S : ByteArray) (N n : Nat) : (drawV S N n).size = n := by
  unfold drawV upV
  rw [ByteArray.size_extract, partsV_size]; omega
theorem extract_all_v (t : ByteArray) : t.extract 0 t.size = t := by
  apply bytes_ext; simp
theorem upV_whole (n m : Nat) : upV (32 * n + m) = n + upV m := by unfold upV; omega
theorem drawV_one (S : ByteArray) (N : Nat) : drawV S N 32 = partV S N := by
  unfold drawV
  show (partsV S N (0 + 1)).extract 0 32 = _
  rw [partsV_succ]
  show (ByteArray.empty ++ partV S N).extract 0 32 = _
  rw [ByteArray.empty_append]
  have h := partV_size S N
  exact (congrArg (fun n => (partV S N).extract 0 n) h.symm).trans (extract_all_v _)
/-- What is drawn in parts is what is drawn at once. -/
theorem drawV_parts (S : ByteArray) (N n m : Nat) : drawV S N (32 * n + m) = partsV S N n ++ drawV S (N + n) m := by
  unfold drawV
  rw [upV_whole, partsV_more]
  apply bytes_ext
  rw [ByteArray.data_extract]
  have h1 := partsV_size S N n
  have h2 := partsV_size S (N + n) (upV m)
  have h3 : m ≤ 32 * upV m := by unfold upV; omega
  generalize partsV S N n = A at *
  generalize partsV S (N + n) (upV m) = B at *
  have hA : A.data.size = 32 * n := h1
  simp only [ByteArray.data_append, ByteArray.data_extract, Array.toList_extract, Array.toList_append]
  simp [List.extract_eq_take_drop, List.take_append, hA]
  exact List.take_of_length_le (by rw [Array.length_toList]; omega)
theorem drawV_none (S : ByteArray) (N : Nat) : drawV S N 0 = ⟨#[]⟩ := by
  have h : (drawV S N 0).size = 0 := drawV_size S N 0
  apply bytes_ext
  have : (drawV S N 0).data.size = 0 := h
  rw [Array.size_eq_zero_iff.1 this]
end Go.Proofs.Ytfajkkjppelgcaa
