/-
  No cell of these rows narrows 'for every input' (looked for: loops, veiled, ifaces, maps, wideKeys, modest, calm, conditions, laid).
  DERIVED. THE GIVEN ROWS OF THIS SEAT. 5 by the template 'for every input the law returns true; each argument reads behind the call as it read before'; 0 by the template 'total and deterministic' (their statements: YtmlpbbancoedgaaTotals.lean).
  GIVEN WITH THE SEED: the statements are not yours to turn. If you find one false, say at which input.
  Laid BY PROGRAM, IN A SANDBOX (cutbox-rows.mjs): the forced cells as the released guide's own fill.sh prints them over the translation 13937afd620aa678… (all of the seat's roots in one cut). By AI agents, Wed Nov 11 2026. No macro, syntax, notation, axiom, sorry.
-/
import Derived.Test.YtmlpbbancoedgaaChecked
import GoSem.Claim
import GoSem.ClaimJoined
import GoSem.ClaimMapViews
import Derived.JoinedTies
import Derived.KernelRfl
namespace Go.Proofs.Ytmlpbbancoedgaa
/- THE CELL 'sum', in the pinned program and in every row, IS THE sha256 OF THE DUMP (.gsa) THAT YtmlpbbancoedgaaProg.lean LOADS. Nothing in Lean hashes anything: it is a label: what it is worth is what the hold of that sum in a sandbox is worth. -/
noncomputable def Try.pinned : Pinned := { name := "ytmlpbbancoedgaa", sum := "13937afd620aa678b2de4a9fc2752d255c23028554c9f4056c14c13f6bbcd4b5", checked := Try.checked }
namespace Rows
def none {H : Type} : Left H := { results := [], args := [] }

/-- 'samphirelaw21.RelayPlays': WHATEVER THE INPUT: true; the input reads as it did. -/
def relayPlaysSpec : ChangeSpec := { name := "relayPlays", fn := fun _ => fun
  | [d1, d2, d3] => { results := [.lit (.bool true)], args := [d1, d2, d3] }
  | _ => none }
def relayPlaysRow : OpenClaim := { program := "ytmlpbbancoedgaa", sum := "13937afd620aa678b2de4a9fc2752d255c23028554c9f4056c14c13f6bbcd4b5", func := "samphire/samphirelaw21.RelayPlays", spec := "relayPlays", unfollowed := true, recurses := true, apart := false }
def RelayPlaysSaid : Prop := relayPlaysRow.holds Try.pinned (OpenSpec.ofChange relayPlaysSpec)

/-- ITS FALSE NEIGHBOUR: 'it returns false'. Refute it at one input. -/
def relayPlaysWrong : ChangeSpec := { name := "relayPlays", fn := fun _ => fun
  | [d1, d2, d3] => { results := [.lit (.bool false)], args := [d1, d2, d3] }
  | _ => none }
def RelayPlaysWrongFalsely : Prop := relayPlaysRow.holds Try.pinned (OpenSpec.ofChange relayPlaysWrong)

/-- 'samphirelaw21.RelayKeeps': WHATEVER THE INPUT: true; the input reads as it did. -/
def relayKeepsSpec : ChangeSpec := { name := "relayKeeps", fn := fun _ => fun
  | [d1, d2, d3] => { results := [.lit (.bool true)], args := [d1, d2, d3] }
  | _ => none }
def relayKeepsRow : OpenClaim := { program := "ytmlpbbancoedgaa", sum := "13937afd620aa678b2de4a9fc2752d255c23028554c9f4056c14c13f6bbcd4b5", func := "samphire/samphirelaw21.RelayKeeps", spec := "relayKeeps", unfollowed := true, recurses := true, apart := false }
def RelayKeepsSaid : Prop := relayKeepsRow.holds Try.pinned (OpenSpec.ofChange relayKeepsSpec)

/-- ITS FALSE NEIGHBOUR: 'it returns false'. Refute it at one input. -/
def relayKeepsWrong : ChangeSpec := { name := "relayKeeps", fn := fun _ => fun
  | [d1, d2, d3] => { results := [.lit (.bool false)], args := [d1, d2, d3] }
  | _ => none }
def RelayKeepsWrongFalsely : Prop := relayKeepsRow.holds Try.pinned (OpenSpec.ofChange relayKeepsWrong)

/-- 'samphirelaw21.RelayFetches': WHATEVER THE INPUT: true; the input reads as it did. -/
def relayFetchesSpec : ChangeSpec := { name := "relayFetches", fn := fun _ => fun
  | [d1, d2] => { results := [.lit (.bool true)], args := [d1, d2] }
  | _ => none }
def relayFetchesRow : OpenClaim := { program := "ytmlpbbancoedgaa", sum := "13937afd620aa678b2de4a9fc2752d255c23028554c9f4056c14c13f6bbcd4b5", func := "samphire/samphirelaw21.RelayFetches", spec := "relayFetches", unfollowed := true, recurses := true, apart := false }
def RelayFetchesSaid : Prop := relayFetchesRow.holds Try.pinned (OpenSpec.ofChange relayFetchesSpec)

/-- ITS FALSE NEIGHBOUR: 'it returns false'. Refute it at one input. -/
def relayFetchesWrong : ChangeSpec := { name := "relayFetches", fn := fun _ => fun
  | [d1, d2] => { results := [.lit (.bool false)], args := [d1, d2] }
  | _ => none }
def RelayFetchesWrongFalsely : Prop := relayFetchesRow.holds Try.pinned (OpenSpec.ofChange relayFetchesWrong)

/-- 'samphirelaw21.RelayQuota': WHATEVER THE INPUT: true; the input reads as it did. -/
def relayQuotaSpec : ChangeSpec := { name := "relayQuota", fn := fun _ => fun
  | [d1, d2] => { results := [.lit (.bool true)], args := [d1, d2] }
  | _ => none }
def relayQuotaRow : OpenClaim := { program := "ytmlpbbancoedgaa", sum := "13937afd620aa678b2de4a9fc2752d255c23028554c9f4056c14c13f6bbcd4b5", func := "samphire/samphirelaw21.RelayQuota", spec := "relayQuota", unfollowed := true, recurses := true, apart := false }
def RelayQuotaSaid : Prop := relayQuotaRow.holds Try.pinned (OpenSpec.ofChange relayQuotaSpec)

/-- ITS FALSE NEIGHBOUR: 'it returns false'. Refute it at one input. -/
def relayQuotaWrong : ChangeSpec := { name := "relayQuota", fn := fun _ => fun
  | [d1, d2] => { results := [.lit (.bool false)], args := [d1, d2] }
  | _ => none }
def RelayQuotaWrongFalsely : Prop := relayQuotaRow.holds Try.pinned (OpenSpec.ofChange relayQuotaWrong)

/-- 'samphirelaw21.RelayNobody': WHATEVER THE INPUT: true; the input reads as it did. -/
def relayNobodySpec : ChangeSpec := { name := "relayNobody", fn := fun _ => fun
  | [d] => { results := [.lit (.bool true)], args := [d] }
  | _ => none }
def relayNobodyRow : OpenClaim := { program := "ytmlpbbancoedgaa", sum := "13937afd620aa678b2de4a9fc2752d255c23028554c9f4056c14c13f6bbcd4b5", func := "samphire/samphirelaw21.RelayNobody", spec := "relayNobody", unfollowed := true, recurses := true, apart := false }
def RelayNobodySaid : Prop := relayNobodyRow.holds Try.pinned (OpenSpec.ofChange relayNobodySpec)

/-- ITS FALSE NEIGHBOUR: 'it returns false'. Refute it at one input. -/
def relayNobodyWrong : ChangeSpec := { name := "relayNobody", fn := fun _ => fun
  | [d] => { results := [.lit (.bool false)], args := [d] }
  | _ => none }
def RelayNobodyWrongFalsely : Prop := relayNobodyRow.holds Try.pinned (OpenSpec.ofChange relayNobodyWrong)

/- THE SECOND FORM. 'bulk': how many values and letters a reading holds, each counted each time it is reached (what is shared counts as often as it is met; a slice's spare places count too). A statement '..UptoSaid' is the law's where the arguments, and the package variables that the reading takes, are together of bulk at most 1048576: NARROWER than '..Said'. Prove '..Said' where nothing that the law and all that it calls make is longer than what came in: it says more and counts as full. Else prove '..UptoSaid'. A law counts once. -/
mutual
def uptoBulk {H : Type} : DataW H → Nat
  | .lit (.string bytes) => bytes.length + 1
  | .lit _ => 1
  | .nil => 1
  | .ptr d => uptoBulk d + 1
  | .slice elems spare => uptoBulkAll elems + uptoBulkAll spare + 1
  | .agg parts => uptoBulkAll parts + 1
  | .iface _ d => uptoBulk d + 1
  | .map entries => uptoBulkEntries entries + 1
  | .held _ => 1
def uptoBulkAll {H : Type} : List (DataW H) → Nat
  | [] => 0
  | d :: r => uptoBulk d + uptoBulkAll r
def uptoBulkEntries {H : Type} : List (Lit × DataW H) → Nat
  | [] => 0
  | x :: r => uptoBulkEntry x + uptoBulkEntries r
def uptoBulkEntry {H : Type} : Lit × DataW H → Nat
  | (.string bytes, d) => bytes.length + uptoBulk d + 1
  | (_, d) => uptoBulk d + 1
 end
def uptoSmall : (H : Type) → List (DataW H) → Bool := fun _ ds => decide (uptoBulkAll ds ≤ 1048576)
def OpenSpec.upto (s : _root_.Go.ChangeSpec) : _root_.Go.OpenSpec := { _root_.Go.OpenSpec.ofChange s with cond := some uptoSmall }

/-- 'samphirelaw21.RelayPlays', WHERE WHAT IT READS IS OF BULK AT MOST 1048576: true; the input reads as it did. -/
def relayPlaysUptoRow : OpenClaim := { program := "ytmlpbbancoedgaa", sum := "13937afd620aa678b2de4a9fc2752d255c23028554c9f4056c14c13f6bbcd4b5", func := "samphire/samphirelaw21.RelayPlays", spec := "relayPlays", unfollowed := true, recurses := true, apart := false, narrowed := true }
def RelayPlaysUptoSaid : Prop := relayPlaysUptoRow.holds Try.pinned (OpenSpec.upto relayPlaysSpec)

/-- 'samphirelaw21.RelayKeeps', WHERE WHAT IT READS IS OF BULK AT MOST 1048576: true; the input reads as it did. -/
def relayKeepsUptoRow : OpenClaim := { program := "ytmlpbbancoedgaa", sum := "13937afd620aa678b2de4a9fc2752d255c23028554c9f4056c14c13f6bbcd4b5", func := "samphire/samphirelaw21.RelayKeeps", spec := "relayKeeps", unfollowed := true, recurses := true, apart := false, narrowed := true }
def RelayKeepsUptoSaid : Prop := relayKeepsUptoRow.holds Try.pinned (OpenSpec.upto relayKeepsSpec)

/-- 'samphirelaw21.RelayFetches', WHERE WHAT IT READS IS OF BULK AT MOST 1048576: true; the input reads as it did. -/
def relayFetchesUptoRow : OpenClaim := { program := "ytmlpbbancoedgaa", sum := "13937afd620aa678b2de4a9fc2752d255c23028554c9f4056c14c13f6bbcd4b5", func := "samphire/samphirelaw21.RelayFetches", spec := "relayFetches", unfollowed := true, recurses := true, apart := false, narrowed := true }
def RelayFetchesUptoSaid : Prop := relayFetchesUptoRow.holds Try.pinned (OpenSpec.upto relayFetchesSpec)

/-- 'samphirelaw21.RelayQuota', WHERE WHAT IT READS IS OF BULK AT MOST 1048576: true; the input reads as it did. -/
def relayQuotaUptoRow : OpenClaim := { program := "ytmlpbbancoedgaa", sum := "13937afd620aa678b2de4a9fc2752d255c23028554c9f4056c14c13f6bbcd4b5", func := "samphire/samphirelaw21.RelayQuota", spec := "relayQuota", unfollowed := true, recurses := true, apart := false, narrowed := true }
def RelayQuotaUptoSaid : Prop := relayQuotaUptoRow.holds Try.pinned (OpenSpec.upto relayQuotaSpec)

/-- 'samphirelaw21.RelayNobody', WHERE WHAT IT READS IS OF BULK AT MOST 1048576: true; the input reads as it did. -/
def relayNobodyUptoRow : OpenClaim := { program := "ytmlpbbancoedgaa", sum := "13937afd620aa678b2de4a9fc2752d255c23028554c9f4056c14c13f6bbcd4b5", func := "samphire/samphirelaw21.RelayNobody", spec := "relayNobody", unfollowed := true, recurses := true, apart := false, narrowed := true }
def RelayNobodyUptoSaid : Prop := relayNobodyUptoRow.holds Try.pinned (OpenSpec.upto relayNobodySpec)

end Rows
end Go.Proofs.Ytmlpbbancoedgaa
