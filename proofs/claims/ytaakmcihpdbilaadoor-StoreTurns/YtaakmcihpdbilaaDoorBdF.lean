/- Layer 17: a block of one byte (the law's own filled). -/
import Derived.Test.YtaakmcihpdbilaaDoorZer
namespace Go.Proofs.YtaakmcihpdbilaaDoor
open Go.RowKit
set_option maxRecDepth 100000
set_option linter.unusedSimpArgs false
set_option maxRecDepth 100000

def filledB (c : Nat) : ByteArray := ⟨(bytesOf 64 (fun _ => c)).toArray⟩
theorem filledB_size (c : Nat) : (filledB c).size = 64 := by
  unfold filledB
  show (bytesOf 64 (fun _ => c)).toArray.size = 64
  rw [List.size_toArray, bytesOf_length]
theorem filledB_zero : filledB 0 = zeroB 64 := by
  unfold filledB zeroB
  congr 2
theorem filledB_inj {c d : Nat} (hc : c < 256) (hd : d < 256) (h : filledB c = filledB d) : c = d := by
  have h1 : (bytesOf 64 (fun _ => c)).toArray.toList = (bytesOf 64 (fun _ => d)).toArray.toList := congrArg (fun b => b.data.toList) h
  rw [List.toList_toArray, List.toList_toArray] at h1
  have h2 := congrArg (fun l => l[0]?) h1
  unfold bytesOf at h2
  simp at h2
  have h3 := congrArg UInt8.toNat h2
  simp at h3
  omega
def fillF (c k i : Nat) : Nat := if i < k then c else 0
theorem fillF_set (c k : Nat) : (fun i => if i = k then c else fillF c k i) = fillF c (k + 1) := by
  funext i
  unfold fillF
  by_cases h : i = k
  · rw [if_pos h, if_pos (by omega)]
  · rw [if_neg h]
    by_cases h2 : i < k
    · rw [if_pos h2, if_pos (by omega)]
    · rw [if_neg h2, if_neg (by omega)]

end Go.Proofs.YtaakmcihpdbilaaDoor
