/- Layer 11 on plain data: what it is to do an operation. Definitions alone. -/
import Derived.Test.YtaomhhooipfjbaaDoorRTrE
namespace Go.Proofs.YtaomhhooipfjbaaDoor
open Go.RowKit
set_option linter.unusedSimpArgs false

abbrev NodeT := (Int × Int) × (Int × Int) × ByteArray × ByteArray

abbrev OpT := Int × (Int × Int) × (Int × Int) × (Int × Int) × ByteArray × ByteArray

/-- The parent that an operation names. -/
def parO (o : OpT) : Int × Int := if o.1 = 5 then (0, 1) else o.2.2.2.1

/-- Is a parent there? -/
def thereP (l : List NodeT) (p : Int × Int) : Bool := if p.1 = 0 then true else decide (0 ≤ findI l p)

/-- Nodes behind an operation. -/
def doP (l : List NodeT) (o : OpT) : List NodeT :=
  if o.1 = 1 then (if 0 ≤ findI l o.2.2.1 then l else if thereP l (parO o) = true then withP l (o.2.2.1, parO o, o.2.2.2.2.1, ⟨#[]⟩) else l)
  else if findI l o.2.2.1 < 0 then l
  else if o.1 = 3 then withP l ((nL l (findI l o.2.2.1).toNat).1, (nL l (findI l o.2.2.1).toNat).2.1, o.2.2.2.2.1, (nL l (findI l o.2.2.1).toNat).2.2.2)
  else if o.1 = 4 then withP l ((nL l (findI l o.2.2.1).toNat).1, (nL l (findI l o.2.2.1).toNat).2.1, (nL l (findI l o.2.2.1).toNat).2.2.1, o.2.2.2.2.2)
  else if thereP l (parO o) = true then (if underF l o.2.2.1 (l.length + 1) (parO o) = true then l else withP l ((nL l (findI l o.2.2.1).toNat).1, parO o, (nL l (findI l o.2.2.1).toNat).2.2.1, (nL l (findI l o.2.2.1).toNat).2.2.2))
  else l

end Go.Proofs.YtaomhhooipfjbaaDoor
