/- Layer 19, the document's: Same of frames. -/
import Derived.Test.YtkmdajenbidaaaaRWiB
import Derived.Test.YtkmdajenbidaaaaBA
import Derived.BigQuiet
namespace Go.Proofs.Ytkmdajenbidaaaa
open Go.RowKit
set_option maxRecDepth 100000
set_option linter.unusedSimpArgs false
set_option linter.unusedVariables false
set_option maxRecDepth 100000

def itemA (x : Int × Int × ByteArray) : Array Value := #[.int .i64 x.1, .int .i64 x.2.1, .string x.2.2]
set_option maxHeartbeats 1000000 in
theorem itemEq (x y : Int × Int × ByteArray) (w : World) : (Op.equalIn 10000 31 (.agg (itemA x)) (.agg (itemA y))).run Try.prog w = .ok (decide (x = y)) w := by
  obtain ⟨a, b, s⟩ := x
  obtain ⟨a', b', s'⟩ := y
  have u3 := Try.underlying3
  have a3 := Try.isAgg3
  have z3 := Try.sizeOf3
  have u9 := Try.underlying9
  have a9 := Try.isAgg9
  have z9 := Try.sizeOf9
  unfold itemA
  rw [show (10000 : Nat) = 9999 + 1 from rfl, Op.equalIn]
  simp only [Sem.run_bind, run_underlying Try.underlying31, Result.andThen_ok]
  go_simp
  simp only [txt_iff, ite_ok, Bool.and_true, Bool.and_assoc]
theorem itemEq_is (x y : Int × Int × ByteArray) (D : Bool) (h : decide (x = y) = D) (w : World) : (Op.equalIn 10000 31 (.agg (itemA x)) (.agg (itemA y))).run Try.prog w = .ok D w := by
  rw [itemEq, ← h]
theorem same_list19 {α : Type} (d : α) (l m : List α) (h : l.length = m.length) (k : ∀ i, i < l.length → l.getD i d = m.getD i d) : l = m := by
  apply List.ext_getElem h
  intro i h1 h2
  have := k i h1
  rw [List.getD_eq_getElem?_getD, List.getD_eq_getElem?_getD, List.getElem?_eq_getElem h1, List.getElem?_eq_getElem h2] at this
  exact this
theorem beq_texts19 (a b : ByteArray) : (a.toList == b.toList) = decide (a = b) := beq_texts a b

/-- Both frames as the call has them. -/
structure SmS (w W : World) (A B : Array Value) : Prop where
  a : Blk W 39 w.heap.size A
  b : Blk W 39 (w.heap.size + 1) B
  w : Below w.heap.size w W
theorem SmS.on {w W W' : World} {A B : Array Value} (h : SmS w W A B) (hb : Below W.heap.size W W') : SmS w W' A B := ⟨h.a.on hb, h.b.on hb, below_step h.w (Nat.le_refl _) hb⟩
theorem SmS.new (w : World) (A B : Array Value) : SmS w ((w.alloc (.cells A 39)).alloc (.cells B 39)) A B := ⟨(Blk.new w _ _).alloc _, Blk.new' _ _ _ _ (by simp), (below_new w _).alloc (by simp) _⟩

end Go.Proofs.Ytkmdajenbidaaaa
