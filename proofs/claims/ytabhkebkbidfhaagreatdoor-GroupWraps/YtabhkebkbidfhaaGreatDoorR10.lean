import Derived.Test.YtabhkebkbidfhaaGreatDoorG
import Derived.Test.YtabhkebkbidfhaaGreatDoorBA
import Derived.Test.YtabhkebkbidfhaaGreatDoorL1
/- The document's May, Check, Less, See, Next (layer 10). -/
namespace Go.Proofs.YtabhkebkbidfhaaGreatDoor
open Go.RowKit
set_option maxRecDepth 100000
set_option linter.unusedSimpArgs false

/-- May a stamp be one of an operation? -/
abbrev MayS (s : Int × Int) : Prop := 1 ≤ s.1 ∧ s.1 ≤ 1099511627775 ∧ 1 ≤ s.2 ∧ s.2 ≤ 6

def stampV (s : Int × Int) : Value := .agg #[.int .i64 s.1, .int .i64 s.2]

end Go.Proofs.YtabhkebkbidfhaaGreatDoor

/- The document's See, Next (layer 10). -/
namespace Go.Proofs.YtabhkebkbidfhaaGreatDoor
open Go.RowKit
set_option maxRecDepth 100000
set_option linter.unusedSimpArgs false

end Go.Proofs.YtabhkebkbidfhaaGreatDoor

/- The document's Next (layer 10). -/
namespace Go.Proofs.YtabhkebkbidfhaaGreatDoor
open Go.RowKit
set_option maxRecDepth 100000
set_option linter.unusedSimpArgs false

end Go.Proofs.YtabhkebkbidfhaaGreatDoor

/- The document's Stable (layer 10). -/
namespace Go.Proofs.YtabhkebkbidfhaaGreatDoor
open Go.RowKit
set_option maxRecDepth 100000
set_option linter.unusedSimpArgs false

theorem IntsAt.some {w : World} {K : IntKind} {a : Option Addr} {n : Nat} {l : List Int} (h : IntsAt w K a n l) (hn : 0 < n) : ∃ b off, a = .some ⟨b, off, none⟩ ∧ ∀ i, i < n → w.cell? ⟨b, off + i, none⟩ = .some (.int K (l.getD i 0)) := by
  rcases h.2 with h0 | h
  · omega
  · exact h

end Go.Proofs.YtabhkebkbidfhaaGreatDoor

/- Layer 10 on plain data: orders, and stable times. Nothing of the program. -/
namespace Go.Proofs.YtabhkebkbidfhaaGreatDoor
open Go.RowKit
set_option maxRecDepth 100000
set_option linter.unusedSimpArgs false

end Go.Proofs.YtabhkebkbidfhaaGreatDoor
