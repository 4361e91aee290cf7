/- Layer 20 on plain data: what is judged, and what comes of it. -/
import Derived.Test.YtkmdajenbidaaaaDoorGpE
import Derived.Test.YtkmdajenbidaaaaDoorWiT
namespace Go.Proofs.YtkmdajenbidaaaaDoor
open Go.RowKit
set_option maxRecDepth 100000
set_option linter.unusedSimpArgs false
set_option linter.unusedVariables false
set_option maxRecDepth 100000

/-- May a group be? -/
def oneGb (l : List MemT) (i : Nat) : Bool := decide ((mmL l i).1 = (i : Int) + 1) && (decide (0 ≤ (mmL l i).2.1) && (decide ((mmL l i).2.1 ≤ 1099511627775) && (decide (¬ i = 0) || (mmL l i).2.2)))
def mayGb (G : GrpT) : Bool := decide (1 ≤ G.1 ∧ G.1 ≤ 1099511627775) && (decide (0 ≤ G.2.2 ∧ G.2.2 ≤ 500) && (decide (G.2.1.length = 6) && (List.range 6).all (oneGb G.2.1)))
theorem oneGb_iff (l : List MemT) (i : Nat) : oneGb l i = true ↔ ((mmL l i).1 = (i : Int) + 1 ∧ 0 ≤ (mmL l i).2.1 ∧ (mmL l i).2.1 ≤ 1099511627775 ∧ (i = 0 → (mmL l i).2.2 = true)) := by
  unfold oneGb
  simp only [Bool.and_eq_true, Bool.or_eq_true, decide_eq_true_eq]
  refine ⟨fun h => ⟨h.1, h.2.1, h.2.2.1, fun e => h.2.2.2.resolve_left (fun k => k e)⟩, fun h => ⟨h.1, h.2.1, h.2.2.1, ?_⟩⟩
  by_cases e : i = 0
  · exact .inr (h.2.2.2 e)
  · exact .inl e
theorem mayGb_iff (G : GrpT) : mayGb G = true ↔ MayG G := by
  unfold mayGb MayG
  simp only [Bool.and_eq_true, decide_eq_true_eq, List.all_eq_true, List.mem_range]
  exact ⟨fun h => ⟨h.1, h.2.1, h.2.2.1, fun i hi => (oneGb_iff _ _).1 (h.2.2.2 i hi)⟩, fun h => ⟨h.1, h.2.1, h.2.2.1, fun i hi => (oneGb_iff _ _).2 (h.2.2.2 i hi)⟩⟩

/-- Why a record is not judged: 0, if it is. -/
def judgeE (M : OpT → Bool) (G : GrpT) (epoch : Int) (R : RecT) : Int :=
  if (mayGb G && (mayRb M R && decide (R.2.2.1 = (mmL G.2.1 (R.2.1 - 1).toNat).2.1 + 1))) = false then 1
  else if epoch < 1 ∨ epoch < G.1 - 1 ∨ G.1 < epoch then 201 else 0
/-- The members with one more of its sender's. -/
def nextM (l : List MemT) (k : Nat) : List MemT := l.set k ((mmL l k).1, (mmL l k).2.1 + 1, (mmL l k).2.2)
/-- The group behind a record that is judged, and whether it counts. -/
def judgeG (G : GrpT) (epoch : Int) (R : RecT) : GrpT × Bool :=
  if (doesP G epoch R.1 R.2.1 R.2.2.2.2.2.2.1).2 = true then (gdoP (G.1, nextM G.2.1 (R.2.1 - 1).toNat, G.2.2) R.1 R.2.2.2.2.2.2.1, true)
  else ((G.1, nextM G.2.1 (R.2.1 - 1).toNat, G.2.2), false)

/-- What Judge answers. -/
def JgPost (w : World) (E : Int) (G : GrpT × Bool) (e : Ending) (w' : World) : Prop :=
  ((E ≠ 0 ∧ e = .returned (.tuple #[.agg #[.int .i64 0, .slice none 0 0, .int .i64 0], .bool false, .int .i64 E])) ∨
   (E = 0 ∧ ∃ b' c', w.heap.size ≤ b' ∧ e = .returned (.tuple #[.agg #[.int .i64 G.1.1, .slice (some ⟨b', 0, none⟩) 6 c', .int .i64 G.1.2.2], .bool G.2, .int .i64 0]) ∧ RowM w' b' c' G.1.2.1)) ∧ Below w.heap.size w w'

/-- A record that came in. -/
structure RcIn (w : World) (R : RecT) (a : Option Addr) : Prop where
  n : R.2.2.2.2.2.1.2.2.2.2.1.size ≤ 1048576
  v : R.2.2.2.2.2.1.2.2.2.2.2.size ≤ 9223372036854775807
  l : WrAt w a R.2.2.2.2.2.2.2.length R.2.2.2.2.2.2.2
  z : ∀ i, (wrL R.2.2.2.2.2.2.2 i).2.size ≤ 9223372036854775807
  k : R.2.2.2.2.2.2.2.length ≤ 9223372036854775807
  h : R.2.2.2.2.1.size ≤ 9223372036854775807
theorem RcIn.below {w w' : World} {R : RecT} {a : Option Addr} (h : RcIn w R a) (hb : Below w.heap.size w w') : RcIn w' R a := ⟨h.n, h.v, h.l.below hb, h.z, h.k, h.h⟩

theorem results_cell_tmp2g {fn : Func} {p u v : Tmp} {ty : TypeId} (h : fn.results = #[.cell p ty, .tmp u, .tmp v]) (tmps : Array Value) (P : Program) (w : World) :
    (results fn tmps).run P w =
      ((asAddr (tmps.getD p undef)).run P w).andThen fun a w₁ => ((loadVar ty a).run P w₁).andThen fun x w₂ => .ok (.tuple #[x, tmps.getD u undef, tmps.getD v undef]) w₂ := by
  simp only [results, h]
  simp [Sem.run_bind, Result.andThen]

/-- A struct out of a cell, and two other things. -/
theorem bodyPost_rowTmp2g {P : Program} {a : Act} {w : World} {fn : Func} {p u u2 : Tmp} {ty : TypeId} {R : Ending → World → Prop} (hf : fn.results = #[.cell p ty, .tmp u, .tmp u2]) (g : Nat) (cs : Array Value) (v v2 : Value) (hp : a.tmps.getD p undef = .pointer (some ⟨g, 0, none⟩)) (hv : a.tmps.getD u undef = v) (hv2 : a.tmps.getD u2 undef = v2) (hd : a.defers = []) (h : Blk w ty g cs)
    (d : TypeDesc) (hu : P.underlying ty = some d) (hdd : (match d with | .struct _ | .array _ _ => true | _ => false) = true) (hi : (P.info? ty).map (·.size) = some cs.size) (hR : R (.returned (.tuple #[.agg cs, v, v2])) w) : bodyPost P fn R .ret a w := by
  refine bodyPost_ret (v := .tuple #[.agg cs, v, v2]) ?_ hd hR
  rw [results_cell_tmp2g hf, hp, hv, hv2]
  simp [asAddr, Result.andThen, run_loadVar_row w g ty ty cs (0, 0) d h hu hdd hi]

end Go.Proofs.YtkmdajenbidaaaaDoor
