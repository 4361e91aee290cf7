/- The document's find, under (layer 11). -/
import Derived.Test.YtaomhhooipfjbaaDoorRTrA
namespace Go.Proofs.YtaomhhooipfjbaaDoor
open Go.RowKit
set_option linter.unusedSimpArgs false

theorem stampEq_is (a b : Int × Int) (D : Bool) (h : decide (a = b) = D) (w : World) : (Op.equalIn 10000 28 (.agg #[.int .i64 a.1, .int .i64 a.2]) (.agg #[.int .i64 b.1, .int .i64 b.2])).run Tryd.prog w = .ok D w := by
  rw [stampEq, ← h]

end Go.Proofs.YtaomhhooipfjbaaDoor
