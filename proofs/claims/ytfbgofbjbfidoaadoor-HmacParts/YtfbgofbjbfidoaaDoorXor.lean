import Derived.Test.YtfbgofbjbfidoaaDoorRows
import Derived.WalkKit
import Derived.WalkSpells
import Derived.WalkLawsBesides
import Derived.Deep.QuietTactic
import Derived.BigQuiet
import Derived.Deep.RegionHeld3
import Derived.Deep.AppendLies
import Derived.Test.YtfbgofbjbfidoaaDoorBuf
namespace Go.Proofs.YtfbgofbjbfidoaaDoor
open Go.RowKit

theorem Tryd.info5 : (Tryd.prog.info? 5).map (fun i => (i.zero, i.size, i.bytes)) = some (some (.int .u8 0), 1, 1) := by kernel_rfl

/-- Two texts, turned into one another. -/
def xorL (a b : ByteArray) : List UInt8 := List.zipWith (· ^^^ ·) a.data.toList b.data.toList
theorem xorL_length (a b : ByteArray) (h : b.size = a.size) : (xorL a b).length = a.size := by simp [xorL, h]
theorem xorL_get (a b : ByteArray) (k : Nat) (ha : k < a.size) (hb : k < b.size) (h : k < (xorL a b).length) : (xorL a b)[k] = a[k] ^^^ b[k] := by
  simp [xorL]; rfl

end Go.Proofs.YtfbgofbjbfidoaaDoor
