/-
  NARROWER THAN 'FOR EVERY INPUT', by the rows' own cells (each row's printed sentence says how): ChachaBlocks: laid · ChachaStreams: laid · ChachaBack: laid · ChachaParts: laid · ChachaLast: laid.
  DERIVED. THE GIVEN ROWS OF THIS SEAT. 5 by the template 'for every input the law returns true; each argument reads behind the call as it read before'; 0 by the template 'total and deterministic' (their statements: YthnaohobedpejaaDoorTotals.lean).
  GIVEN WITH THE SEED: the statements are not yours to turn. If you find one false, say at which input.
  Laid BY PROGRAM, IN A SANDBOX (cutbox-rows.mjs): the forced cells as the released guide's own fill.sh prints them over the translation 8ad0d1038982dc0d… (all of the seat's roots in one cut). By AI agents, Wed Nov 11 2026. No macro, syntax, notation, axiom, sorry.
-/
import Derived.Test.YthnaohobedpejaaDoorChecked
import GoSem.Claim
import GoSem.ClaimJoined
import GoSem.ClaimMapViews
import Derived.JoinedTies
import Derived.KernelRfl
namespace Go.Proofs.YthnaohobedpejaaDoor
/- THE CELL 'sum', in the pinned program and in every row, IS THE sha256 OF THE DUMP (.gsa) THAT YthnaohobedpejaaDoorProg.lean LOADS. Nothing in Lean hashes anything: it is a label: what it is worth is what the hold of that sum in a sandbox is worth. -/
noncomputable def Tryd.pinned : Pinned := { name := "ythnaohobedpejaadoor", sum := "8ad0d1038982dc0d1d21e61d2d607a5fb9007d486ef0a8211d484b4e1441b286", checked := Tryd.checked }
namespace Rows
def none {H : Type} : Left H := { results := [], args := [] }

/- WHAT THE LISTED PACKAGE-LEVEL VARIABLES READ AS WHEN THE CALL BEGINS. Each datum BY PROGRAM (the guide's laid-datum.mjs) off the statement by which the dump's own 'gosem.cut.vars' lays the variable. In a bare row this is a premise. The card (YthnaohobedpejaaDoorCards.lean) ties it to the program's text. -/
def laid_samphire_chacha_places {H : Type} : DataW H := .agg [.agg [.lit (.int .i64 0), .lit (.int .i64 4), .lit (.int .i64 8), .lit (.int .i64 12)], .agg [.lit (.int .i64 1), .lit (.int .i64 5), .lit (.int .i64 9), .lit (.int .i64 13)], .agg [.lit (.int .i64 2), .lit (.int .i64 6), .lit (.int .i64 10), .lit (.int .i64 14)], .agg [.lit (.int .i64 3), .lit (.int .i64 7), .lit (.int .i64 11), .lit (.int .i64 15)], .agg [.lit (.int .i64 0), .lit (.int .i64 5), .lit (.int .i64 10), .lit (.int .i64 15)], .agg [.lit (.int .i64 1), .lit (.int .i64 6), .lit (.int .i64 11), .lit (.int .i64 12)], .agg [.lit (.int .i64 2), .lit (.int .i64 7), .lit (.int .i64 8), .lit (.int .i64 13)], .agg [.lit (.int .i64 3), .lit (.int .i64 4), .lit (.int .i64 9), .lit (.int .i64 14)]]

/-- 'samphirelaw05.ChachaBlocks': WHATEVER THE INPUT: true; the input reads as it did. -/
def chachaBlocksSpec : ChangeSpec := { name := "chachaBlocks", fn := fun _ => fun
  | [d1, d2, d3] => { results := [.lit (.bool true)], args := [d1, d2, d3] }
  | _ => none }
def chachaBlocksRow : OpenClaim := { program := "ythnaohobedpejaadoor", sum := "8ad0d1038982dc0d1d21e61d2d607a5fb9007d486ef0a8211d484b4e1441b286", func := "samphire/samphirelaw05.ChachaBlocks", spec := "chachaBlocks", unfollowed := true, recurses := true, named := ["samphire/chacha.places"], apart := false, laid := [("samphire/chacha.places", laid_samphire_chacha_places)] }
def ChachaBlocksSaid : Prop := chachaBlocksRow.holds Tryd.pinned (OpenSpec.ofChange chachaBlocksSpec)

/-- ITS FALSE NEIGHBOUR: 'it returns false'. Refute it at one input. -/
def chachaBlocksWrong : ChangeSpec := { name := "chachaBlocks", fn := fun _ => fun
  | [d1, d2, d3] => { results := [.lit (.bool false)], args := [d1, d2, d3] }
  | _ => none }
def ChachaBlocksWrongFalsely : Prop := chachaBlocksRow.holds Tryd.pinned (OpenSpec.ofChange chachaBlocksWrong)

/-- 'samphirelaw05.ChachaStreams': WHATEVER THE INPUT: true; the input reads as it did. -/
def chachaStreamsSpec : ChangeSpec := { name := "chachaStreams", fn := fun _ => fun
  | [d1, d2, d3] => { results := [.lit (.bool true)], args := [d1, d2, d3] }
  | _ => none }
def chachaStreamsRow : OpenClaim := { program := "ythnaohobedpejaadoor", sum := "8ad0d1038982dc0d1d21e61d2d607a5fb9007d486ef0a8211d484b4e1441b286", func := "samphire/samphirelaw05.ChachaStreams", spec := "chachaStreams", unfollowed := true, recurses := true, named := ["samphire/chacha.places"], apart := false, laid := [("samphire/chacha.places", laid_samphire_chacha_places)] }
def ChachaStreamsSaid : Prop := chachaStreamsRow.holds Tryd.pinned (OpenSpec.ofChange chachaStreamsSpec)

/-- ITS FALSE NEIGHBOUR: 'it returns false'. Refute it at one input. -/
def chachaStreamsWrong : ChangeSpec := { name := "chachaStreams", fn := fun _ => fun
  | [d1, d2, d3] => { results := [.lit (.bool false)], args := [d1, d2, d3] }
  | _ => none }
def ChachaStreamsWrongFalsely : Prop := chachaStreamsRow.holds Tryd.pinned (OpenSpec.ofChange chachaStreamsWrong)

/-- 'samphirelaw05.ChachaBack': WHATEVER THE INPUT: true; the input reads as it did. -/
def chachaBackSpec : ChangeSpec := { name := "chachaBack", fn := fun _ => fun
  | [d1, d2, d3] => { results := [.lit (.bool true)], args := [d1, d2, d3] }
  | _ => none }
def chachaBackRow : OpenClaim := { program := "ythnaohobedpejaadoor", sum := "8ad0d1038982dc0d1d21e61d2d607a5fb9007d486ef0a8211d484b4e1441b286", func := "samphire/samphirelaw05.ChachaBack", spec := "chachaBack", unfollowed := true, recurses := true, named := ["samphire/chacha.places"], apart := false, laid := [("samphire/chacha.places", laid_samphire_chacha_places)] }
def ChachaBackSaid : Prop := chachaBackRow.holds Tryd.pinned (OpenSpec.ofChange chachaBackSpec)

/-- ITS FALSE NEIGHBOUR: 'it returns false'. Refute it at one input. -/
def chachaBackWrong : ChangeSpec := { name := "chachaBack", fn := fun _ => fun
  | [d1, d2, d3] => { results := [.lit (.bool false)], args := [d1, d2, d3] }
  | _ => none }
def ChachaBackWrongFalsely : Prop := chachaBackRow.holds Tryd.pinned (OpenSpec.ofChange chachaBackWrong)

/-- 'samphirelaw05.ChachaParts': WHATEVER THE INPUT: true; the input reads as it did. -/
def chachaPartsSpec : ChangeSpec := { name := "chachaParts", fn := fun _ => fun
  | [d1, d2, d3] => { results := [.lit (.bool true)], args := [d1, d2, d3] }
  | _ => none }
def chachaPartsRow : OpenClaim := { program := "ythnaohobedpejaadoor", sum := "8ad0d1038982dc0d1d21e61d2d607a5fb9007d486ef0a8211d484b4e1441b286", func := "samphire/samphirelaw05.ChachaParts", spec := "chachaParts", unfollowed := true, recurses := true, named := ["samphire/chacha.places"], apart := false, laid := [("samphire/chacha.places", laid_samphire_chacha_places)] }
def ChachaPartsSaid : Prop := chachaPartsRow.holds Tryd.pinned (OpenSpec.ofChange chachaPartsSpec)

/-- ITS FALSE NEIGHBOUR: 'it returns false'. Refute it at one input. -/
def chachaPartsWrong : ChangeSpec := { name := "chachaParts", fn := fun _ => fun
  | [d1, d2, d3] => { results := [.lit (.bool false)], args := [d1, d2, d3] }
  | _ => none }
def ChachaPartsWrongFalsely : Prop := chachaPartsRow.holds Tryd.pinned (OpenSpec.ofChange chachaPartsWrong)

/-- 'samphirelaw05.ChachaLast': WHATEVER THE INPUT: true; the input reads as it did. -/
def chachaLastSpec : ChangeSpec := { name := "chachaLast", fn := fun _ => fun
  | [d1, d2, d3] => { results := [.lit (.bool true)], args := [d1, d2, d3] }
  | _ => none }
def chachaLastRow : OpenClaim := { program := "ythnaohobedpejaadoor", sum := "8ad0d1038982dc0d1d21e61d2d607a5fb9007d486ef0a8211d484b4e1441b286", func := "samphire/samphirelaw05.ChachaLast", spec := "chachaLast", unfollowed := true, recurses := true, named := ["samphire/chacha.places"], apart := false, laid := [("samphire/chacha.places", laid_samphire_chacha_places)] }
def ChachaLastSaid : Prop := chachaLastRow.holds Tryd.pinned (OpenSpec.ofChange chachaLastSpec)

/-- ITS FALSE NEIGHBOUR: 'it returns false'. Refute it at one input. -/
def chachaLastWrong : ChangeSpec := { name := "chachaLast", fn := fun _ => fun
  | [d1, d2, d3] => { results := [.lit (.bool false)], args := [d1, d2, d3] }
  | _ => none }
def ChachaLastWrongFalsely : Prop := chachaLastRow.holds Tryd.pinned (OpenSpec.ofChange chachaLastWrong)

/- THE SECOND FORM. 'bulk': how many values and letters a reading holds, each counted each time it is reached (what is shared counts as often as it is met; a slice's spare places count too). A statement '..UptoSaid' is the law's where the arguments, and the package variables that the reading takes, are together of bulk at most 1048576: NARROWER than '..Said'. Prove '..Said' where nothing that the law and all that it calls make is longer than what came in: it says more and counts as full. Else prove '..UptoSaid'. A law counts once. -/
mutual
def uptoBulk {H : Type} : DataW H → Nat
  | .lit (.string bytes) => bytes.length + 1
  | .lit _ => 1
  | .nil => 1
  | .ptr d => uptoBulk d + 1
  | .slice elems spare => uptoBulkAll elems + uptoBulkAll spare + 1
  | .agg parts => uptoBulkAll parts + 1
  | .iface _ d => uptoBulk d + 1
  | .map entries => uptoBulkEntries entries + 1
  | .held _ => 1
def uptoBulkAll {H : Type} : List (DataW H) → Nat
  | [] => 0
  | d :: r => uptoBulk d + uptoBulkAll r
def uptoBulkEntries {H : Type} : List (Lit × DataW H) → Nat
  | [] => 0
  | x :: r => uptoBulkEntry x + uptoBulkEntries r
def uptoBulkEntry {H : Type} : Lit × DataW H → Nat
  | (.string bytes, d) => bytes.length + uptoBulk d + 1
  | (_, d) => uptoBulk d + 1
 end
def uptoSmall : (H : Type) → List (DataW H) → Bool := fun _ ds => decide (uptoBulkAll ds ≤ 1048576)
def OpenSpec.upto (s : _root_.Go.ChangeSpec) : _root_.Go.OpenSpec := { _root_.Go.OpenSpec.ofChange s with cond := some uptoSmall }

/-- 'samphirelaw05.ChachaBlocks', WHERE WHAT IT READS IS OF BULK AT MOST 1048576: true; the input reads as it did. -/
def chachaBlocksUptoRow : OpenClaim := { program := "ythnaohobedpejaadoor", sum := "8ad0d1038982dc0d1d21e61d2d607a5fb9007d486ef0a8211d484b4e1441b286", func := "samphire/samphirelaw05.ChachaBlocks", spec := "chachaBlocks", unfollowed := true, recurses := true, named := ["samphire/chacha.places"], apart := false, laid := [("samphire/chacha.places", laid_samphire_chacha_places)], narrowed := true }
def ChachaBlocksUptoSaid : Prop := chachaBlocksUptoRow.holds Tryd.pinned (OpenSpec.upto chachaBlocksSpec)

/-- 'samphirelaw05.ChachaStreams', WHERE WHAT IT READS IS OF BULK AT MOST 1048576: true; the input reads as it did. -/
def chachaStreamsUptoRow : OpenClaim := { program := "ythnaohobedpejaadoor", sum := "8ad0d1038982dc0d1d21e61d2d607a5fb9007d486ef0a8211d484b4e1441b286", func := "samphire/samphirelaw05.ChachaStreams", spec := "chachaStreams", unfollowed := true, recurses := true, named := ["samphire/chacha.places"], apart := false, laid := [("samphire/chacha.places", laid_samphire_chacha_places)], narrowed := true }
def ChachaStreamsUptoSaid : Prop := chachaStreamsUptoRow.holds Tryd.pinned (OpenSpec.upto chachaStreamsSpec)

/-- 'samphirelaw05.ChachaBack', WHERE WHAT IT READS IS OF BULK AT MOST 1048576: true; the input reads as it did. -/
def chachaBackUptoRow : OpenClaim := { program := "ythnaohobedpejaadoor", sum := "8ad0d1038982dc0d1d21e61d2d607a5fb9007d486ef0a8211d484b4e1441b286", func := "samphire/samphirelaw05.ChachaBack", spec := "chachaBack", unfollowed := true, recurses := true, named := ["samphire/chacha.places"], apart := false, laid := [("samphire/chacha.places", laid_samphire_chacha_places)], narrowed := true }
def ChachaBackUptoSaid : Prop := chachaBackUptoRow.holds Tryd.pinned (OpenSpec.upto chachaBackSpec)

/-- 'samphirelaw05.ChachaParts', WHERE WHAT IT READS IS OF BULK AT MOST 1048576: true; the input reads as it did. -/
def chachaPartsUptoRow : OpenClaim := { program := "ythnaohobedpejaadoor", sum := "8ad0d1038982dc0d1d21e61d2d607a5fb9007d486ef0a8211d484b4e1441b286", func := "samphire/samphirelaw05.ChachaParts", spec := "chachaParts", unfollowed := true, recurses := true, named := ["samphire/chacha.places"], apart := false, laid := [("samphire/chacha.places", laid_samphire_chacha_places)], narrowed := true }
def ChachaPartsUptoSaid : Prop := chachaPartsUptoRow.holds Tryd.pinned (OpenSpec.upto chachaPartsSpec)

/-- 'samphirelaw05.ChachaLast', WHERE WHAT IT READS IS OF BULK AT MOST 1048576: true; the input reads as it did. -/
def chachaLastUptoRow : OpenClaim := { program := "ythnaohobedpejaadoor", sum := "8ad0d1038982dc0d1d21e61d2d607a5fb9007d486ef0a8211d484b4e1441b286", func := "samphire/samphirelaw05.ChachaLast", spec := "chachaLast", unfollowed := true, recurses := true, named := ["samphire/chacha.places"], apart := false, laid := [("samphire/chacha.places", laid_samphire_chacha_places)], narrowed := true }
def ChachaLastUptoSaid : Prop := chachaLastUptoRow.holds Tryd.pinned (OpenSpec.upto chachaLastSpec)

end Rows
end Go.Proofs.YthnaohobedpejaaDoor
