import Derived.Test.YtogbkfakihnbdaaGreatDoorRTrS
import Derived.Test.YtogbkfakihnbdaaGreatDoorRTrN
/- The document's node (layer 11), whole; Of on plain data. -/
namespace Go.Proofs.YtogbkfakihnbdaaGreatDoor
open Go.RowKit
set_option linter.unusedSimpArgs false

/-- May the k'th node be one of a snapshot's? -/
def NodeOk (l : List NodeT) (s : Int × Int) (k : Nat) : Prop := NodeH l s k ∧ NodeQ l (nL l k)

theorem rnode_any (l : List NodeT) (s : Int × Int) (a : Option Addr) (n c k : Nat) (so : Value) (w : World) (D : Bool) (hD : D = true ↔ NodeOk l s k) (hn : n ≤ 60000) (hk : k < n) (hs : (nL l k).2.2.1.size ≤ 1048576) (h6 : (nL l k).2.2.2.size ≤ maxLen) (H1 : NodesAt w a n l) :
    Calls Tryz.prog 66 #[.agg #[.slice a n c, so, .int .i64 s.1, .int .i64 s.2], .int .i64 (k : Int)] w fun e w' => e = .returned (.bool D) ∧ Below w.heap.size w w' := by
  obtain ⟨b, off, rfl, _⟩ := H1.2.some (by omega)
  unfold NodeOk NodeH at hD
  cases k with
  | zero =>
    obtain ⟨⟨⟨m1, m2⟩, ⟨m3, m4⟩, m5, m6⟩, hY⟩ : ∃ Y, nL l 0 = Y := ⟨_, rfl⟩
    rw [hY] at hD hs h6
    refine rnode_first l s.1 s.2 m1 m2 m3 m4 m5 m6 b off n c so w D hn hk hs h6 H1 hY ?_
    rw [hD]
    constructor
    · rintro ⟨⟨h1, h2, h3, h4, _⟩, h5⟩
      exact ⟨⟨h1, h2, h3, h4⟩, h5⟩
    · rintro ⟨⟨h1, h2, h3, h4⟩, h5⟩
      exact ⟨⟨h1, h2, h3, h4, fun h => absurd h (Nat.lt_irrefl _)⟩, h5⟩
  | succ k =>
    obtain ⟨⟨⟨m1, m2⟩, ⟨m3, m4⟩, m5, m6⟩, hY⟩ : ∃ Y, nL l (k + 1) = Y := ⟨_, rfl⟩
    obtain ⟨⟨p1, p2⟩, hP⟩ : ∃ P, (nL l k).1 = P := ⟨_, rfl⟩
    rw [hY] at hD hs h6
    rw [show ((k + 1 : Nat) : Int) = (k : Int) + 1 by omega]
    refine rnode_next l s.1 s.2 m1 m2 m3 m4 p1 p2 m5 m6 b off n c k so w D hn hk hs h6 H1 hY hP ?_
    rw [hD]
    rw [show k + 1 - 1 = k from rfl, hP]
    constructor
    · rintro ⟨⟨h1, h2, h3, h4, h7⟩, h5⟩
      exact ⟨⟨h1, h2, h3, h4, h7 (Nat.succ_pos _)⟩, h5⟩
    · rintro ⟨⟨h1, h2, h3, h4, h7⟩, h5⟩
      exact ⟨⟨h1, h2, h3, h4, fun _ => h7⟩, h5⟩

def emptyT : TreeT := ([], [], (0, 0))

/-- Operations put among others, one behind the other: each must be new. -/
def ofF (M : OpT → Bool) : List OpT → TreeT → TreeT × Int
  | [], t => (t, 0)
  | o :: l, t => if (applyP M t o).2 ≠ 0 then (emptyT, (applyP M t o).2) else if (applyP M t o).1.2.1.length = t.2.1.length then (emptyT, 1) else ofF M l (applyP M t o).1

/-- The tree of a snapshot. (G: which nodes may be.) -/
def ofP (M : OpT → Bool) (G : Nat → Bool) (t : TreeT) : TreeT × Int :=
  if 512 < t.1.length ∨ (t.2.2 ≠ (0, 0) ∧ ¬ MayS t.2.2) then (emptyT, 1)
  else if (List.range t.1.length).all G = false then (emptyT, 1)
  else ofF M t.2.1 (t.1, [], t.2.2)

theorem putO_lenT (o : OpT) (ops : List OpT) : (putO o ops).length = ops.length + 1 := by
  unfold putO
  have := posO_le o.2.1 ops
  rw [List.length_append, List.length_cons, List.length_take, List.length_drop]
  omega

theorem applyP_len (M : OpT → Bool) (t : TreeT) (o : OpT) : (applyP M t o).1.1 = t.1 ∧ (applyP M t o).1.2.1.length ≤ t.2.1.length + 1 := by
  unfold applyP
  (repeat' split) <;> first | exact ⟨rfl, Nat.le_succ _⟩ | exact ⟨rfl, Nat.le_of_eq (putO_lenT _ _)⟩

theorem ofF_step (M : OpT → Bool) (ops : List OpT) (k : Nat) (h : k < ops.length) (t : TreeT) : ofF M (ops.drop k) t = if (applyP M t (oL ops k)).2 ≠ 0 then (emptyT, (applyP M t (oL ops k)).2) else if (applyP M t (oL ops k)).1.2.1.length = t.2.1.length then (emptyT, 1) else ofF M (ops.drop (k + 1)) (applyP M t (oL ops k)).1 := by
  rw [drop_oL ops k h]; rfl

end Go.Proofs.YtogbkfakihnbdaaGreatDoor
