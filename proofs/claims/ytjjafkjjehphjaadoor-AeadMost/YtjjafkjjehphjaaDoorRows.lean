/-
  NARROWER THAN 'FOR EVERY INPUT', by the rows' own cells (each row's printed sentence says how): AeadSeals: laid · AeadOpens: laid · AeadBack: laid · AeadTag: laid · AeadMost: laid.
  DERIVED. THE GIVEN ROWS OF THIS SEAT. 5 by the template 'for every input the law returns true; each argument reads behind the call as it read before'; 0 by the template 'total and deterministic' (their statements: YtjjafkjjehphjaaDoorTotals.lean).
  GIVEN WITH THE SEED: the statements are not yours to turn. If you find one false, say at which input.
  Laid BY PROGRAM, IN A SANDBOX (cutbox-rows.mjs): the forced cells as the released guide's own fill.sh prints them over the translation 2378e05bf07052a7… (all of the seat's roots in one cut). By AI agents, Wed Nov 11 2026. No macro, syntax, notation, axiom, sorry.
-/
import Derived.Test.YtjjafkjjehphjaaDoorChecked
import GoSem.Claim
import GoSem.ClaimJoined
import GoSem.ClaimMapViews
import Derived.JoinedTies
import Derived.KernelRfl
namespace Go.Proofs.YtjjafkjjehphjaaDoor
/- THE CELL 'sum', in the pinned program and in every row, IS THE sha256 OF THE DUMP (.gsa) THAT YtjjafkjjehphjaaDoorProg.lean LOADS. Nothing in Lean hashes anything: it is a label: what it is worth is what the hold of that sum in a sandbox is worth. -/
noncomputable def Tryd.pinned : Pinned := { name := "ytjjafkjjehphjaadoor", sum := "2378e05bf07052a70672ffb93958368eaf40eecbb4857af9d47860e6cbc6158a", checked := Tryd.checked }
namespace Rows
def none {H : Type} : Left H := { results := [], args := [] }

/- WHAT THE LISTED PACKAGE-LEVEL VARIABLES READ AS WHEN THE CALL BEGINS. Each datum BY PROGRAM (the guide's laid-datum.mjs) off the statement by which the dump's own 'gosem.cut.vars' lays the variable. In a bare row this is a premise. The card (YtjjafkjjehphjaaDoorCards.lean) ties it to the program's text. -/
def laid_samphire_chacha_places {H : Type} : DataW H := .agg [.agg [.lit (.int .i64 0), .lit (.int .i64 4), .lit (.int .i64 8), .lit (.int .i64 12)], .agg [.lit (.int .i64 1), .lit (.int .i64 5), .lit (.int .i64 9), .lit (.int .i64 13)], .agg [.lit (.int .i64 2), .lit (.int .i64 6), .lit (.int .i64 10), .lit (.int .i64 14)], .agg [.lit (.int .i64 3), .lit (.int .i64 7), .lit (.int .i64 11), .lit (.int .i64 15)], .agg [.lit (.int .i64 0), .lit (.int .i64 5), .lit (.int .i64 10), .lit (.int .i64 15)], .agg [.lit (.int .i64 1), .lit (.int .i64 6), .lit (.int .i64 11), .lit (.int .i64 12)], .agg [.lit (.int .i64 2), .lit (.int .i64 7), .lit (.int .i64 8), .lit (.int .i64 13)], .agg [.lit (.int .i64 3), .lit (.int .i64 4), .lit (.int .i64 9), .lit (.int .i64 14)]]
def laid_samphire_poly_kept {H : Type} : DataW H := .agg [.lit (.int .u8 255), .lit (.int .u8 255), .lit (.int .u8 255), .lit (.int .u8 15), .lit (.int .u8 252), .lit (.int .u8 255), .lit (.int .u8 255), .lit (.int .u8 15), .lit (.int .u8 252), .lit (.int .u8 255), .lit (.int .u8 255), .lit (.int .u8 15), .lit (.int .u8 252), .lit (.int .u8 255), .lit (.int .u8 255), .lit (.int .u8 15)]

/-- 'samphirelaw07.AeadSeals': WHATEVER THE INPUT: true; the input reads as it did. -/
def aeadSealsSpec : ChangeSpec := { name := "aeadSeals", fn := fun _ => fun
  | [d1, d2, d3] => { results := [.lit (.bool true)], args := [d1, d2, d3] }
  | _ => none }
def aeadSealsRow : OpenClaim := { program := "ytjjafkjjehphjaadoor", sum := "2378e05bf07052a70672ffb93958368eaf40eecbb4857af9d47860e6cbc6158a", func := "samphire/samphirelaw07.AeadSeals", spec := "aeadSeals", inPlace := ["internal/abi.NoEscape"], unfollowed := true, recurses := true, named := ["samphire/chacha.places", "samphire/poly.kept"], apart := false, laid := [("samphire/chacha.places", laid_samphire_chacha_places), ("samphire/poly.kept", laid_samphire_poly_kept)] }
def AeadSealsSaid : Prop := aeadSealsRow.holds Tryd.pinned (OpenSpec.ofChange aeadSealsSpec)

/-- ITS FALSE NEIGHBOUR: 'it returns false'. Refute it at one input. -/
def aeadSealsWrong : ChangeSpec := { name := "aeadSeals", fn := fun _ => fun
  | [d1, d2, d3] => { results := [.lit (.bool false)], args := [d1, d2, d3] }
  | _ => none }
def AeadSealsWrongFalsely : Prop := aeadSealsRow.holds Tryd.pinned (OpenSpec.ofChange aeadSealsWrong)

/-- 'samphirelaw07.AeadOpens': WHATEVER THE INPUT: true; the input reads as it did. -/
def aeadOpensSpec : ChangeSpec := { name := "aeadOpens", fn := fun _ => fun
  | [d1, d2, d3] => { results := [.lit (.bool true)], args := [d1, d2, d3] }
  | _ => none }
def aeadOpensRow : OpenClaim := { program := "ytjjafkjjehphjaadoor", sum := "2378e05bf07052a70672ffb93958368eaf40eecbb4857af9d47860e6cbc6158a", func := "samphire/samphirelaw07.AeadOpens", spec := "aeadOpens", inPlace := ["internal/abi.NoEscape"], unfollowed := true, recurses := true, named := ["samphire/chacha.places", "samphire/poly.kept"], apart := false, laid := [("samphire/chacha.places", laid_samphire_chacha_places), ("samphire/poly.kept", laid_samphire_poly_kept)] }
def AeadOpensSaid : Prop := aeadOpensRow.holds Tryd.pinned (OpenSpec.ofChange aeadOpensSpec)

/-- ITS FALSE NEIGHBOUR: 'it returns false'. Refute it at one input. -/
def aeadOpensWrong : ChangeSpec := { name := "aeadOpens", fn := fun _ => fun
  | [d1, d2, d3] => { results := [.lit (.bool false)], args := [d1, d2, d3] }
  | _ => none }
def AeadOpensWrongFalsely : Prop := aeadOpensRow.holds Tryd.pinned (OpenSpec.ofChange aeadOpensWrong)

/-- 'samphirelaw07.AeadBack': WHATEVER THE INPUT: true; the input reads as it did. -/
def aeadBackSpec : ChangeSpec := { name := "aeadBack", fn := fun _ => fun
  | [d1, d2, d3] => { results := [.lit (.bool true)], args := [d1, d2, d3] }
  | _ => none }
def aeadBackRow : OpenClaim := { program := "ytjjafkjjehphjaadoor", sum := "2378e05bf07052a70672ffb93958368eaf40eecbb4857af9d47860e6cbc6158a", func := "samphire/samphirelaw07.AeadBack", spec := "aeadBack", inPlace := ["internal/abi.NoEscape"], unfollowed := true, recurses := true, named := ["samphire/chacha.places", "samphire/poly.kept"], apart := false, laid := [("samphire/chacha.places", laid_samphire_chacha_places), ("samphire/poly.kept", laid_samphire_poly_kept)] }
def AeadBackSaid : Prop := aeadBackRow.holds Tryd.pinned (OpenSpec.ofChange aeadBackSpec)

/-- ITS FALSE NEIGHBOUR: 'it returns false'. Refute it at one input. -/
def aeadBackWrong : ChangeSpec := { name := "aeadBack", fn := fun _ => fun
  | [d1, d2, d3] => { results := [.lit (.bool false)], args := [d1, d2, d3] }
  | _ => none }
def AeadBackWrongFalsely : Prop := aeadBackRow.holds Tryd.pinned (OpenSpec.ofChange aeadBackWrong)

/-- 'samphirelaw07.AeadTag': WHATEVER THE INPUT: true; the input reads as it did. -/
def aeadTagSpec : ChangeSpec := { name := "aeadTag", fn := fun _ => fun
  | [d1, d2, d3] => { results := [.lit (.bool true)], args := [d1, d2, d3] }
  | _ => none }
def aeadTagRow : OpenClaim := { program := "ytjjafkjjehphjaadoor", sum := "2378e05bf07052a70672ffb93958368eaf40eecbb4857af9d47860e6cbc6158a", func := "samphire/samphirelaw07.AeadTag", spec := "aeadTag", inPlace := ["internal/abi.NoEscape"], unfollowed := true, recurses := true, named := ["samphire/chacha.places", "samphire/poly.kept"], apart := false, laid := [("samphire/chacha.places", laid_samphire_chacha_places), ("samphire/poly.kept", laid_samphire_poly_kept)] }
def AeadTagSaid : Prop := aeadTagRow.holds Tryd.pinned (OpenSpec.ofChange aeadTagSpec)

/-- ITS FALSE NEIGHBOUR: 'it returns false'. Refute it at one input. -/
def aeadTagWrong : ChangeSpec := { name := "aeadTag", fn := fun _ => fun
  | [d1, d2, d3] => { results := [.lit (.bool false)], args := [d1, d2, d3] }
  | _ => none }
def AeadTagWrongFalsely : Prop := aeadTagRow.holds Tryd.pinned (OpenSpec.ofChange aeadTagWrong)

/-- 'samphirelaw07.AeadMost': WHATEVER THE INPUT: true; the input reads as it did. -/
def aeadMostSpec : ChangeSpec := { name := "aeadMost", fn := fun _ => fun
  | [d1, d2, d3] => { results := [.lit (.bool true)], args := [d1, d2, d3] }
  | _ => none }
def aeadMostRow : OpenClaim := { program := "ytjjafkjjehphjaadoor", sum := "2378e05bf07052a70672ffb93958368eaf40eecbb4857af9d47860e6cbc6158a", func := "samphire/samphirelaw07.AeadMost", spec := "aeadMost", inPlace := ["internal/abi.NoEscape"], unfollowed := true, recurses := true, named := ["samphire/chacha.places", "samphire/poly.kept"], apart := false, laid := [("samphire/chacha.places", laid_samphire_chacha_places), ("samphire/poly.kept", laid_samphire_poly_kept)] }
def AeadMostSaid : Prop := aeadMostRow.holds Tryd.pinned (OpenSpec.ofChange aeadMostSpec)

/-- ITS FALSE NEIGHBOUR: 'it returns false'. Refute it at one input. -/
def aeadMostWrong : ChangeSpec := { name := "aeadMost", fn := fun _ => fun
  | [d1, d2, d3] => { results := [.lit (.bool false)], args := [d1, d2, d3] }
  | _ => none }
def AeadMostWrongFalsely : Prop := aeadMostRow.holds Tryd.pinned (OpenSpec.ofChange aeadMostWrong)

/- THE SECOND FORM. 'bulk': how many values and letters a reading holds, each counted each time it is reached (what is shared counts as often as it is met; a slice's spare places count too). A statement '..UptoSaid' is the law's where the arguments, and the package variables that the reading takes, are together of bulk at most 1048576: NARROWER than '..Said'. Prove '..Said' where nothing that the law and all that it calls make is longer than what came in: it says more and counts as full. Else prove '..UptoSaid'. A law counts once. -/
mutual
def uptoBulk {H : Type} : DataW H → Nat
  | .lit (.string bytes) => bytes.length + 1
  | .lit _ => 1
  | .nil => 1
  | .ptr d => uptoBulk d + 1
  | .slice elems spare => uptoBulkAll elems + uptoBulkAll spare + 1
  | .agg parts => uptoBulkAll parts + 1
  | .iface _ d => uptoBulk d + 1
  | .map entries => uptoBulkEntries entries + 1
  | .held _ => 1
def uptoBulkAll {H : Type} : List (DataW H) → Nat
  | [] => 0
  | d :: r => uptoBulk d + uptoBulkAll r
def uptoBulkEntries {H : Type} : List (Lit × DataW H) → Nat
  | [] => 0
  | x :: r => uptoBulkEntry x + uptoBulkEntries r
def uptoBulkEntry {H : Type} : Lit × DataW H → Nat
  | (.string bytes, d) => bytes.length + uptoBulk d + 1
  | (_, d) => uptoBulk d + 1
 end
def uptoSmall : (H : Type) → List (DataW H) → Bool := fun _ ds => decide (uptoBulkAll ds ≤ 1048576)
def OpenSpec.upto (s : _root_.Go.ChangeSpec) : _root_.Go.OpenSpec := { _root_.Go.OpenSpec.ofChange s with cond := some uptoSmall }

/-- 'samphirelaw07.AeadSeals', WHERE WHAT IT READS IS OF BULK AT MOST 1048576: true; the input reads as it did. -/
def aeadSealsUptoRow : OpenClaim := { program := "ytjjafkjjehphjaadoor", sum := "2378e05bf07052a70672ffb93958368eaf40eecbb4857af9d47860e6cbc6158a", func := "samphire/samphirelaw07.AeadSeals", spec := "aeadSeals", inPlace := ["internal/abi.NoEscape"], unfollowed := true, recurses := true, named := ["samphire/chacha.places", "samphire/poly.kept"], apart := false, laid := [("samphire/chacha.places", laid_samphire_chacha_places), ("samphire/poly.kept", laid_samphire_poly_kept)], narrowed := true }
def AeadSealsUptoSaid : Prop := aeadSealsUptoRow.holds Tryd.pinned (OpenSpec.upto aeadSealsSpec)

/-- 'samphirelaw07.AeadOpens', WHERE WHAT IT READS IS OF BULK AT MOST 1048576: true; the input reads as it did. -/
def aeadOpensUptoRow : OpenClaim := { program := "ytjjafkjjehphjaadoor", sum := "2378e05bf07052a70672ffb93958368eaf40eecbb4857af9d47860e6cbc6158a", func := "samphire/samphirelaw07.AeadOpens", spec := "aeadOpens", inPlace := ["internal/abi.NoEscape"], unfollowed := true, recurses := true, named := ["samphire/chacha.places", "samphire/poly.kept"], apart := false, laid := [("samphire/chacha.places", laid_samphire_chacha_places), ("samphire/poly.kept", laid_samphire_poly_kept)], narrowed := true }
def AeadOpensUptoSaid : Prop := aeadOpensUptoRow.holds Tryd.pinned (OpenSpec.upto aeadOpensSpec)

/-- 'samphirelaw07.AeadBack', WHERE WHAT IT READS IS OF BULK AT MOST 1048576: true; the input reads as it did. -/
def aeadBackUptoRow : OpenClaim := { program := "ytjjafkjjehphjaadoor", sum := "2378e05bf07052a70672ffb93958368eaf40eecbb4857af9d47860e6cbc6158a", func := "samphire/samphirelaw07.AeadBack", spec := "aeadBack", inPlace := ["internal/abi.NoEscape"], unfollowed := true, recurses := true, named := ["samphire/chacha.places", "samphire/poly.kept"], apart := false, laid := [("samphire/chacha.places", laid_samphire_chacha_places), ("samphire/poly.kept", laid_samphire_poly_kept)], narrowed := true }
def AeadBackUptoSaid : Prop := aeadBackUptoRow.holds Tryd.pinned (OpenSpec.upto aeadBackSpec)

/-- 'samphirelaw07.AeadTag', WHERE WHAT IT READS IS OF BULK AT MOST 1048576: true; the input reads as it did. -/
def aeadTagUptoRow : OpenClaim := { program := "ytjjafkjjehphjaadoor", sum := "2378e05bf07052a70672ffb93958368eaf40eecbb4857af9d47860e6cbc6158a", func := "samphire/samphirelaw07.AeadTag", spec := "aeadTag", inPlace := ["internal/abi.NoEscape"], unfollowed := true, recurses := true, named := ["samphire/chacha.places", "samphire/poly.kept"], apart := false, laid := [("samphire/chacha.places", laid_samphire_chacha_places), ("samphire/poly.kept", laid_samphire_poly_kept)], narrowed := true }
def AeadTagUptoSaid : Prop := aeadTagUptoRow.holds Tryd.pinned (OpenSpec.upto aeadTagSpec)

/-- 'samphirelaw07.AeadMost', WHERE WHAT IT READS IS OF BULK AT MOST 1048576: true; the input reads as it did. -/
def aeadMostUptoRow : OpenClaim := { program := "ytjjafkjjehphjaadoor", sum := "2378e05bf07052a70672ffb93958368eaf40eecbb4857af9d47860e6cbc6158a", func := "samphire/samphirelaw07.AeadMost", spec := "aeadMost", inPlace := ["internal/abi.NoEscape"], unfollowed := true, recurses := true, named := ["samphire/chacha.places", "samphire/poly.kept"], apart := false, laid := [("samphire/chacha.places", laid_samphire_chacha_places), ("samphire/poly.kept", laid_samphire_poly_kept)], narrowed := true }
def AeadMostUptoSaid : Prop := aeadMostUptoRow.holds Tryd.pinned (OpenSpec.upto aeadMostSpec)

end Rows
end Go.Proofs.YtjjafkjjehphjaaDoor
