/- '==' of structs. Plain facts. -/
import Derived.Test.YtaomhhooipfjbaaDoorG
import Derived.Test.YtaomhhooipfjbaaDoorStrs
namespace Go.Proofs.YtaomhhooipfjbaaDoor
open Go.RowKit
set_option linter.unusedSimpArgs false

theorem stampEq (a b c d : Int) (w : World) : (Op.equalIn 10000 28 (.agg #[.int .i64 a, .int .i64 b]) (.agg #[.int .i64 c, .int .i64 d])).run Tryd.prog w = .ok (decide ((a, b) = (c, d))) w := by
  have u3 := Tryd.underlying3
  have a3 := Tryd.isAgg3
  have z3 := Tryd.sizeOf3
  rw [show (10000 : Nat) = 9999 + 1 from rfl, Op.equalIn]
  simp only [Sem.run_bind, run_underlying Tryd.underlying28, Result.andThen_ok]
  go_simp
  by_cases h1 : a = c <;> by_cases h2 : b = d <;> simp [h1, h2]

theorem txt_iff (s t : ByteArray) : (s.toList = t.toList) = (s = t) := propext ⟨fun e => bytes_ext (by rw [toList_data, toList_data] at e; exact e), fun e => by rw [e]⟩

theorem ite_ok {p : Prop} [Decidable p] {q : Bool} {w : World} : (if p then Result.ok q w else Result.ok false w) = Result.ok (decide p && q) w := by
  by_cases h : p <;> simp [h]

/-- A node on plain data: its number, its parent, its name, its value. -/
def nodeA (n : (Int × Int) × (Int × Int) × ByteArray × ByteArray) : Array Value := #[.int .i64 n.1.1, .int .i64 n.1.2, .int .i64 n.2.1.1, .int .i64 n.2.1.2, .string n.2.2.1, .string n.2.2.2]

set_option maxRecDepth 100000 in
set_option maxHeartbeats 1000000 in
theorem nodeEq (x y : (Int × Int) × (Int × Int) × ByteArray × ByteArray) (w : World) : (Op.equalIn 10000 40 (.agg (nodeA x)) (.agg (nodeA y))).run Tryd.prog w = .ok (decide (x = y)) w := by
  obtain ⟨⟨a, b⟩, ⟨c, d⟩, s, t⟩ := x
  obtain ⟨⟨a', b'⟩, ⟨c', d'⟩, s', t'⟩ := y
  have u3 := Tryd.underlying3
  have a3 := Tryd.isAgg3
  have z3 := Tryd.sizeOf3
  have u9 := Tryd.underlying9
  have a9 := Tryd.isAgg9
  have z9 := Tryd.sizeOf9
  unfold nodeA
  rw [show (10000 : Nat) = 9999 + 1 from rfl, Op.equalIn]
  simp only [Sem.run_bind, run_underlying Tryd.underlying40, Result.andThen_ok]
  go_simp
  simp only [txt_iff, ite_ok, Bool.and_true, Bool.and_assoc]

/-- An operation on plain data: its kind, its stamp, its node, its parent, its name, its value. -/
def opA (o : Int × (Int × Int) × (Int × Int) × (Int × Int) × ByteArray × ByteArray) : Array Value := #[.int .i64 o.1, .int .i64 o.2.1.1, .int .i64 o.2.1.2, .int .i64 o.2.2.1.1, .int .i64 o.2.2.1.2, .int .i64 o.2.2.2.1.1, .int .i64 o.2.2.2.1.2, .string o.2.2.2.2.1, .string o.2.2.2.2.2]

set_option maxRecDepth 100000 in
set_option maxHeartbeats 1000000 in
theorem opEq (x y : Int × (Int × Int) × (Int × Int) × (Int × Int) × ByteArray × ByteArray) (w : World) : (Op.equalIn 10000 30 (.agg (opA x)) (.agg (opA y))).run Tryd.prog w = .ok (decide (x = y)) w := by
  obtain ⟨k, ⟨a, b⟩, ⟨c, d⟩, ⟨e, f⟩, s, t⟩ := x
  obtain ⟨k', ⟨a', b'⟩, ⟨c', d'⟩, ⟨e', f'⟩, s', t'⟩ := y
  have u3 := Tryd.underlying3
  have a3 := Tryd.isAgg3
  have z3 := Tryd.sizeOf3
  have u9 := Tryd.underlying9
  have a9 := Tryd.isAgg9
  have z9 := Tryd.sizeOf9
  unfold opA
  rw [show (10000 : Nat) = 9999 + 1 from rfl, Op.equalIn]
  simp only [Sem.run_bind, run_underlying Tryd.underlying30, Result.andThen_ok]
  go_simp
  simp only [txt_iff, ite_ok, Bool.and_true, Bool.and_assoc]

end Go.Proofs.YtaomhhooipfjbaaDoor
