/- Rows of texts: plain facts. -/
import Derived.Test.YtaomhhooipfjbaaDoorG
namespace Go.Proofs.YtaomhhooipfjbaaDoor
open Go.RowKit
set_option linter.unusedSimpArgs false

theorem beq_texts (a b : ByteArray) : (a.toList == b.toList) = decide (a = b) := by
  by_cases h : a = b
  · subst h; simp
  · have : ¬ a.toList = b.toList := fun e => h (bytes_ext (by rw [toList_data, toList_data] at e; exact e))
    simp [h, this]
end Go.Proofs.YtaomhhooipfjbaaDoor
