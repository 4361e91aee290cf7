/- The code's Clock (layer 10): New, given, Now; one that nobody made. -/
import Derived.Test.YtegbjglkglmgiaaCkA
import Derived.Test.YtegbjglkglmgiaaKept
import Derived.LaidEqlPtr
namespace Go.Proofs.Ytegbjglkglmgiaa
open Go.RowKit
set_option linter.unusedSimpArgs false

/-- A clock at block g: who, and its time. One that nobody made. -/
def ClockAt (w : World) (g : Nat) (c : Int × Int) : Prop :=
  Blk w 48 g #[.pointer (some ⟨g, 0, none⟩), .int .i64 c.1, .int .i64 c.2] ∧ 0 ≤ c.2 ∧ c.2 ≤ 1099511627775
def ClockBad (w : World) (g : Nat) : Prop := Blk w 48 g #[.pointer none, .int .i64 0, .int .i64 0]
theorem ClockAt.on {w w' : World} {g : Nat} {c : Int × Int} (h : ClockAt w g c) (hb : Below w.heap.size w w') : ClockAt w' g c := ⟨h.1.on hb, h.2⟩
theorem ClockAt.kept {w w' : World} {g g' : Nat} {r : Option Nat} {c : Int × Int} (h : ClockAt w g c) (k : Kept2 g' r w w') (hg : g ≠ g') (hr : some g ≠ r) : ClockAt w' g c := ⟨h.1.kept k hg hr, h.2⟩
theorem ClockBad.on {w w' : World} {g : Nat} (h : ClockBad w g) (hb : Below w.heap.size w w') : ClockBad w' g := Blk.on h hb
/-- The clock at g is c' in w'; nothing else has turned. -/
def ClockTo (w : World) (g : Nat) (c' : Int × Int) (w' : World) : Prop := ClockAt w' g c' ∧ Kept2 g none w w'
theorem ClockTo.same {w : World} {g : Nat} {c : Int × Int} (h : ClockAt w g c) : ClockTo w g c w := ⟨h, Kept2.refl _ _ _⟩
theorem ClockTo.behind {w w1 w2 : World} {g : Nat} {c' : Int × Int} (hb : Below w.heap.size w w1) (h2 : ClockTo w1 g c' w2) : ClockTo w g c' w2 := ⟨h2.1, Kept2.behind hb h2.2⟩
theorem ClockTo.on {w w1 w2 : World} {g : Nat} {c' : Int × Int} (h : ClockTo w g c' w1) (hb : Below w1.heap.size w1 w2) : ClockTo w g c' w2 := ⟨h.1.on hb, h.2.on hb⟩
theorem ClockTo.below {w w' : World} {g : Nat} {c' : Int × Int} (h : ClockTo w g c' w') (B : Nat) (hB : B ≤ w.heap.size) (hg : B ≤ g) : Below B w w' := h.2.below B hB hg (fun k hk => by cases hk)
theorem Try.clockInfo : (Try.prog.info? 48).map (·.size) = some 3 := by kernel_rfl
/-- A clock that nobody made: nil, or an empty one. -/
def NoClock (w : World) (p : Value) : Prop := p = .pointer none ∨ ∃ g, p = .pointer (some ⟨g, 0, none⟩) ∧ ClockBad w g
theorem NoClock.on {w w' : World} {p : Value} (h : NoClock w p) (hb : Below w.heap.size w w') : NoClock w' p := h.imp id (fun ⟨g, e, h⟩ => ⟨g, e, h.on hb⟩)
theorem eql_nil_ptr {P : Program} {tp te : TypeId} (w : World) (a : Addr) (hp : P.underlying tp = some (.pointer te)) : (binOp .eql tp (.pointer none) (.pointer (some a))).run P w = .ok (.bool false) w := by
  have h : ∀ d : Nat, (Op.equalIn (d + 1) tp (.pointer none) (.pointer (some a))).run P w = .ok false w := fun d => by
    simp [Op.equalIn, run_underlying hp]
  simp only [binOp]
  simp [Op.equal, Op.maxDepth, h 9999]

set_option maxHeartbeats 1000000 in
set_option maxRecDepth 100000 in
theorem cnew_yes (u : Int) (w : World) (h : 1 ≤ u ∧ u ≤ 6) : Calls Try.prog 14 #[.int .i64 u] w fun e w' => e = .returned (.tuple #[.pointer (some ⟨w.heap.size, 0, none⟩), .int .i64 0]) ∧ ClockAt w' w.heap.size (u, 0) ∧ Below w.heap.size w w' := by
  have C' := isClient_any u w
  rw [decide_eq_true h] at C'
  have C : Hid (Calls Try.prog 22 #[.int .i64 u] w fun e w' => e = .returned (.bool true) ∧ w' = w) := C'
  clear C' h
  go_enter Try.func14, Try.ntmps14
  go_wp2_with fail
  refine Calls.mono C.out ?_
  rintro e w1 ⟨rfl, hw1⟩
  subst hw1
  go_wp2
  go_ret2
  exact ⟨rfl, ⟨Blk.new _ _ _, Int.le_refl _, show (0 : Int) ≤ 1099511627775 by decide⟩, below_new _ _⟩
set_option maxHeartbeats 1000000 in
set_option maxRecDepth 100000 in
theorem cnew_no (u : Int) (w : World) (h : ¬ (1 ≤ u ∧ u ≤ 6)) : Calls Try.prog 14 #[.int .i64 u] w fun e w' => e = .returned (.tuple #[.pointer none, .int .i64 1]) ∧ w' = w := by
  have C' := isClient_any u w
  rw [decide_eq_false h] at C'
  have C : Hid (Calls Try.prog 22 #[.int .i64 u] w fun e w' => e = .returned (.bool false) ∧ w' = w) := C'
  clear C' h
  go_enter Try.func14, Try.ntmps14
  go_wp2_with fail
  refine Calls.mono C.out ?_
  rintro e w1 ⟨rfl, hw1⟩
  subst hw1
  go_wp2
  go_ret2
  exact ⟨rfl, rfl⟩

set_option maxHeartbeats 1000000 in
set_option maxRecDepth 100000 in
theorem cgiven_any (g : Nat) (c : Int × Int) (w : World) (h : ClockAt w g c) :
    Calls Try.prog 24 #[.pointer (some ⟨g, 0, none⟩)] w fun e w' => e = .returned (.bool true) ∧ w' = w := by
  obtain ⟨j, hj, _⟩ := Option.map_eq_some_iff.1 Try.clockInfo
  have c0 : w.cell? ⟨g, 0, none⟩ = some (.pointer (some ⟨g, 0, none⟩)) := h.1.cell 0
  have hq := run_eql_ptr_same (P := Try.prog) w ⟨g, 0, none⟩ Try.underlying30 hj
  clear h
  go_enter Try.func24, Try.ntmps24
  go_wp2
  go_ret
  exact ⟨rfl, rfl⟩
set_option maxHeartbeats 1000000 in
set_option maxRecDepth 100000 in
theorem cgiven_bad (g : Nat) (w : World) (h : ClockBad w g) :
    Calls Try.prog 24 #[.pointer (some ⟨g, 0, none⟩)] w fun e w' => e = .returned (.bool false) ∧ w' = w := by
  have c0 : w.cell? ⟨g, 0, none⟩ = some (.pointer none) := Blk.cell h 0
  have hq := eql_nil_ptr (P := Try.prog) w ⟨g, 0, none⟩ Try.underlying30
  go_enter Try.func24, Try.ntmps24
  go_wp2
  go_ret
  exact ⟨rfl, rfl⟩
set_option maxHeartbeats 1000000 in
set_option maxRecDepth 100000 in
theorem cgiven_nil (w : World) :
    Calls Try.prog 24 #[.pointer none] w fun e w' => e = .returned (.bool false) ∧ w' = w := by
  go_enter Try.func24, Try.ntmps24
  go_wp2
  go_ret
  exact ⟨rfl, rfl⟩
theorem cgiven_no (p : Value) (w : World) (h : NoClock w p) : Calls Try.prog 24 #[p] w fun e w' => e = .returned (.bool false) ∧ w' = w := by
  rcases h with rfl | ⟨g, rfl, h⟩
  · exact cgiven_nil w
  · exact cgiven_bad g w h

set_option maxHeartbeats 1000000 in
set_option maxRecDepth 100000 in
theorem cnow_any (g : Nat) (c : Int × Int) (w : World) (h : ClockAt w g c) :
    Calls Try.prog 19 #[.pointer (some ⟨g, 0, none⟩)] w fun e w' => e = .returned (.int .i64 c.2) ∧ w' = w := by
  have HC : Hid (∀ w', w' = w → Calls Try.prog 24 #[.pointer (some ⟨g, 0, none⟩)] w' fun e w'' => e = .returned (.bool true) ∧ w'' = w') := fun w' e => by subst e; exact cgiven_any g _ _ h
  have c2 : w.cell? ⟨g, 2, none⟩ = some (.int .i64 c.2) := h.1.cell 2
  clear h
  go_enter Try.func19, Try.ntmps19
  go_wp2_with fail
  refine (HC.out _ rfl).mono ?_
  rintro e w1 ⟨rfl, rfl⟩
  go_wp2
  go_ret
  exact ⟨rfl, rfl⟩
set_option maxHeartbeats 1000000 in
set_option maxRecDepth 100000 in
theorem cnow_no (p : Value) (w : World) (h : NoClock w p) :
    Calls Try.prog 19 #[p] w fun e w' => e = .returned (.int .i64 0) ∧ w' = w := by
  have HC : Hid (∀ w', w' = w → Calls Try.prog 24 #[p] w' fun e w'' => e = .returned (.bool false) ∧ w'' = w') := fun w' e => by subst e; exact cgiven_no p _ h
  clear h
  go_enter Try.func19, Try.ntmps19
  go_wp2_with fail
  refine (HC.out _ rfl).mono ?_
  rintro e w1 ⟨rfl, rfl⟩
  go_wp2
  go_ret
  exact ⟨rfl, rfl⟩
end Go.Proofs.Ytegbjglkglmgiaa
