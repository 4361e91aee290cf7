import Derived.Test.YtkmdajenbidaaaaS13
import Derived.Test.YtkmdajenbidaaaaTk
/- The document's op, PutOp (layer 13). -/
namespace Go.Proofs.Ytkmdajenbidaaaa
open Go.RowKit
set_option maxRecDepth 100000
set_option linter.unusedSimpArgs false

theorem textP_size (o : ByteArray × Bool) (s : ByteArray) (h : o.1.size ≤ 65536) : (textP o s).1.size ≤ 65536 := by
  unfold textP
  split <;> exact layP_size _ _ _ h

end Go.Proofs.Ytkmdajenbidaaaa

/- The document's takeOp, TakeOp (layer 13). -/
namespace Go.Proofs.Ytkmdajenbidaaaa
open Go.RowKit
set_option maxRecDepth 100000
set_option linter.unusedSimpArgs false

theorem inStampP_size (i : ByteArray × Int) : (inStampP i).1.1.size ≤ i.1.size := by
  have h := Nat.le_trans (numberP_size (inNumP i).1 1) (inNumP_size i)
  unfold inStampP
  split <;> exact h

theorem inTextP_size (i : ByteArray × Int) (most : Int) : (inTextP i most).1.1.size ≤ i.1.size := by
  have h := numberP_size i 2
  unfold inTextP
  split
  · exact h
  · split
    · exact Nat.zero_le _
    · split
      · exact Nat.zero_le _
      · simp only [ByteArray.size_extract]; omega

end Go.Proofs.Ytkmdajenbidaaaa

/- The document's TakeOp (layer 13). -/
namespace Go.Proofs.Ytkmdajenbidaaaa
open Go.RowKit
set_option maxRecDepth 100000
set_option linter.unusedSimpArgs false

theorem inTextP_res (i : ByteArray × Int) (most : Int) : (inTextP i most).2.size ≤ 1048576 := by
  have h := number2_lt i
  unfold inTextP
  split
  · exact Nat.zero_le _
  · split
    · exact Nat.zero_le _
    · split
      · exact Nat.zero_le _
      · simp only [ByteArray.size_extract]; omega

theorem readOpP_sizes (i : ByteArray × Int) : (readOpP i).2.2.2.2.2.1.size ≤ 1048576 ∧ (readOpP i).2.2.2.2.2.2.size ≤ 9223372036854775807 := by
  unfold readOpP
  simp only
  exact ⟨inTextP_res _ _, Nat.le_trans (inTextP_res _ _) (by decide)⟩

end Go.Proofs.Ytkmdajenbidaaaa
