/- Layer 18, the document's: head, room. -/
import Derived.Test.YtaakmcihpdbilaaDoorRStA
import Derived.Test.YtaakmcihpdbilaaDoorBeh
namespace Go.Proofs.YtaakmcihpdbilaaDoor
open Go.RowKit
set_option maxRecDepth 100000
set_option linter.unusedSimpArgs false
set_option maxRecDepth 100000

theorem numP_ok (A : ByteArray) (n : Int) (hA : A.size + 6 ≤ 65536) (h0 : 0 ≤ n) (h1 : n ≤ 1099511627775) : numP (A, false) n 6 1099511627775 = (A ++ bigB n 6, false) := by
  unfold numP oneOk layP
  rw [if_pos]
  refine ⟨by simp [h0, h1], rfl, ?_⟩
  show A.size + (bigB n 6).size ≤ 65536
  rw [bigB_size]; exact hA

theorem empty_app (A : ByteArray) : ByteArray.empty ++ A = A := by
  apply ByteArray.ext
  simp

theorem sum32 (s : ByteArray) : (ofN (sumN s)).size = 32 := ofN_size _ (foldN_length _ _ rfl _)

theorem hdB_size (turn : Int) (s : ByteArray) : (hdB turn s).size = 64 := by
  unfold hdB
  rw [filB_size, ByteArray.size_append, ByteArray.size_append, bigB_size, bigB_size, ByteArray.size_extract, sum32]
  decide

end Go.Proofs.YtaakmcihpdbilaaDoor
