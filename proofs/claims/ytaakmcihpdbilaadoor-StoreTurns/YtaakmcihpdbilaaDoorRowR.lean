/- Rows of structs: read; of the call's own, with more behind. Plain facts. -/
import Derived.Test.YtaakmcihpdbilaaDoorG
import Derived.Test.YtaakmcihpdbilaaDoorKept
import Derived.Test.YtaakmcihpdbilaaDoorOpenP
namespace Go.Proofs.YtaakmcihpdbilaaDoor
open Go.RowKit
set_option maxRecDepth 100000
set_option linter.unusedSimpArgs false

/-- A slice of n structs of c cells each, that can be read. -/
def RowsAt (w : World) (a : Option Addr) (n c : Nat) (f : Nat → Array Value) : Prop :=
  n = 0 ∨ ∃ b off, a = some ⟨b, off, none⟩ ∧ ∀ i, i < n → ∀ j, j < c → ∃ v, (f i)[j]? = some v ∧ w.cell? ⟨b, off + i * c + j, none⟩ = some v

theorem RowsAt.below {w w' : World} {a : Option Addr} {n c B : Nat} {f : Nat → Array Value} (h : RowsAt w a n c f) (hB : w.heap.size ≤ B) (hb : Below B w w') : RowsAt w' a n c f := by
  rcases h with h0 | ⟨b, off, ha, hc⟩
  · exact .inl h0
  · refine .inr ⟨b, off, ha, fun i hi j hj => ?_⟩
    obtain ⟨v, h1, h2⟩ := hc i hi j hj
    exact ⟨v, h1, by rw [hb.cell (Nat.lt_of_lt_of_le (World.block_lt_of_cell? w _ h2) hB)]; exact h2⟩

theorem RowsAt.some {w : World} {a : Option Addr} {n c : Nat} {f : Nat → Array Value} (h : RowsAt w a n c f) (hn : 0 < n) : ∃ b off, a = .some ⟨b, off, none⟩ ∧ ∀ i, i < n → ∀ j, j < c → ∃ v, (f i)[j]? = .some v ∧ w.cell? ⟨b, off + i * c + j, none⟩ = .some v := by
  rcases h with h0 | h
  · omega
  · exact h

/-- One struct appended to a row of the call's own, in a plain region. -/
theorem wpList_appR {P : Program} {ops : Array Oper} {rest : List Oper} {o : Oper} {a : Act} {Q : Exit → Act → World → Prop} (hgd : o.guard = none) (s x : Operand) (t : TypeId)
    (ho : o.op = .call { callee := .builtin .append, args := #[s, x], argTypes := #[t, t] })
    (B : Nat) (e : TypeId) (i : TypeInfo) (z : Value) (c bytes : Nat) (ht : P.underlying t = some (.slice e)) (hi : P.info? e = some i) (hz : i.zero = some z) (hsize : i.size = c) (hby : i.bytes = bytes) (hzs : z.cells.size = c) (hc : 0 < c)
    (W : World) (v : Value) (n : Nat) (xs : List Value) (hs : a.eval s = v) (hown : W.ownsRow B e c v n xs) (cs : Array Value) (hcs : cs.size = c) (h1 : ∀ u ∈ cs.toList, u.oneCell' = true) (hx : a.eval x = .slice (some ⟨W.heap.size, 0, none⟩) 1 1)
    (hn : (n + 1) * bytes ≤ 140737488355328) (hn' : n + 1 ≤ maxLen) (hB : B ≤ W.heap.size)
    (h : ∀ v' w', w'.ownsRow B e c v' (n + 1) (xs ++ cs.toList) → Below B W w' → wpList P ops Q rest (a.put o.dst v') w') :
    wpList P ops Q (o :: rest) a (W.alloc (.cells cs e)) := by
  refine wpList_append_own _ hgd s x t ho B e i z c bytes ht hi hz hsize hby hzs hc v n _ hs (World.ownsRow.alloc hown _) ⟨W.heap.size, 0, none⟩ 1 1 cs.toList hx (by simp [hcs]) ?_ h1 hn' hn (by simp; omega) ?_
  · intro j u hj
    rw [Go.WideShapes.add_plain, Nat.zero_add, cell_of_row _ _ _ cs e (0, 0) (heap_alloc_last W _)]
    simpa using hj
  · intro v' w' h1 h2 _
    exact h v' w' h1 (((Below.refl B W).alloc hB _).grown h2 (by simp; omega) (fun k hk => (World.ownsRow.lt hown k hk).1))

/-- The same, with all that was there but the row. -/
theorem wpList_appR2 {P : Program} {ops : Array Oper} {rest : List Oper} {o : Oper} {a : Act} {Q : Exit → Act → World → Prop} (hgd : o.guard = none) (s x : Operand) (t : TypeId)
    (ho : o.op = .call { callee := .builtin .append, args := #[s, x], argTypes := #[t, t] })
    (B : Nat) (e : TypeId) (i : TypeInfo) (z : Value) (c bytes : Nat) (ht : P.underlying t = some (.slice e)) (hi : P.info? e = some i) (hz : i.zero = some z) (hsize : i.size = c) (hby : i.bytes = bytes) (hzs : z.cells.size = c) (hc : 0 < c)
    (W : World) (v : Value) (n : Nat) (xs : List Value) (hs : a.eval s = v) (hown : W.ownsRow B e c v n xs) (cs : Array Value) (hcs : cs.size = c) (h1 : ∀ u ∈ cs.toList, u.oneCell' = true) (hx : a.eval x = .slice (some ⟨W.heap.size, 0, none⟩) 1 1)
    (hn : (n + 1) * bytes ≤ 140737488355328) (hn' : n + 1 ≤ maxLen) (hB : B ≤ W.heap.size)
    (h : ∀ v' w', w'.ownsRow B e c v' (n + 1) (xs ++ cs.toList) → (W.alloc (.cells cs e)).grownBy w' v.ownBlock → wpList P ops Q rest (a.put o.dst v') w') :
    wpList P ops Q (o :: rest) a (W.alloc (.cells cs e)) := by
  refine wpList_append_own _ hgd s x t ho B e i z c bytes ht hi hz hsize hby hzs hc v n _ hs (World.ownsRow.alloc hown _) ⟨W.heap.size, 0, none⟩ 1 1 cs.toList hx (by simp [hcs]) ?_ h1 hn' hn (by simp; omega) ?_
  · intro j u hj
    rw [Go.WideShapes.add_plain, Nat.zero_add, cell_of_row _ _ _ cs e (0, 0) (heap_alloc_last W _)]
    simpa using hj
  · intro v' w' h1 h2 _
    exact h v' w' h1 h2

theorem Blk.grown {w w' : World} {t : TypeId} {g : Nat} {r : Option Nat} {cs : Array Value} (h : Blk w t g cs) (k : w.grownBy w' r) (hr : some g ≠ r) : Blk w' t g cs := by
  unfold Blk; rw [k.block g h.lt hr]; exact h

theorem rows_of_owns {w : World} {B n c : Nat} {e : TypeId} {v : Value} {xs : List Value} {f : Nat → Array Value} (h : w.ownsRow B e c v n xs) (hf : ∀ i, i < n → ∀ j, j < c → ∃ u, (f i)[j]? = some u ∧ xs[i * c + j]? = some u) : ∃ a cap, v = .slice a n cap ∧ RowsAt w a n c f := by
  rcases h.2 with ⟨rfl, rfl⟩ | ⟨g, cap, cur, rfl, r⟩
  · exact ⟨none, 0, rfl, .inl rfl⟩
  · refine ⟨some ⟨g, 0, none⟩, cap, rfl, .inr ⟨g, 0, rfl, fun i hi j hj => ?_⟩⟩
    obtain ⟨u, h1, h2⟩ := hf i hi j hj
    refine ⟨u, h1, ?_⟩
    have hlt : i * c + j < n * c := by
      have : (i + 1) * c ≤ n * c := Nat.mul_le_mul_right _ (by omega)
      rw [Nat.add_mul, Nat.one_mul] at this; omega
    rw [Nat.zero_add, World.ownsRow.cellAt (⟨h.1, .inr ⟨g, cap, cur, rfl, r⟩⟩ : w.ownsRow B e c (.slice (some ⟨g, 0, none⟩) n cap) n xs) (i * c + j) hlt]
    exact h2

/-- A row of the call's own is the same in every world that has its block as it was. -/
theorem owns_same {w w' : World} {B n c : Nat} {e : TypeId} {v : Value} {xs : List Value} (h : w.ownsRow B e c v n xs) (hb : ∀ k, v.ownBlock = some k → w'.heap[k]? = w.heap[k]?) : w'.ownsRow B e c v n xs := by
  obtain ⟨hl, h | ⟨g, cap, cur, rfl, hB, hc, r⟩⟩ := h
  · exact ⟨hl, .inl h⟩
  · exact ⟨hl, .inr ⟨g, cap, cur, rfl, hB, by rw [hb g rfl]; exact hc, r⟩⟩

theorem owns_on {w w' : World} {B n c : Nat} {e : TypeId} {v : Value} {xs : List Value} (h : w.ownsRow B e c v n xs) (hb : Below w.heap.size w w') : w'.ownsRow B e c v n xs :=
  owns_same h (fun k hk => hb.block k (World.ownsRow.lt h k hk).2)

theorem owns_kept {w w' : World} {B n c g : Nat} {r : Option Nat} {e : TypeId} {v : Value} {xs : List Value} (h : w.ownsRow B e c v n xs) (k : Kept2 g r w w') (hg : g < B) (hr : ∀ j, r = some j → j < B) : w'.ownsRow B e c v n xs :=
  owns_same h (fun j hj => k.block j (World.ownsRow.lt h j hj).2 (by have := (World.ownsRow.lt h j hj).1; omega) (fun e => by have := (World.ownsRow.lt h j hj).1; have := hr j e.symm; omega))

theorem owns_set {w : World} {B n c : Nat} {e : TypeId} {v : Value} {xs : List Value} (h : w.ownsRow B e c v n xs) (p : Addr) (hp : p.block < B) (u : Value) : (w.setCell p u).ownsRow B e c v n xs :=
  owns_same h (fun j hj => Below.heap_setCell w p u j (by have := (World.ownsRow.lt h j hj).1; omega))

theorem owns_less {w : World} {B B' n c : Nat} {e : TypeId} {v : Value} {xs : List Value} (h : w.ownsRow B e c v n xs) (hb : B' ≤ B) : w.ownsRow B' e c v n xs := by
  obtain ⟨hl, h | ⟨g, cap, cur, hv, hB, r⟩⟩ := h
  · exact ⟨hl, .inl h⟩
  · exact ⟨hl, .inr ⟨g, cap, cur, hv, Nat.le_trans hb hB, r⟩⟩

/-- Stamps of the call's own. -/
def stampA (s : Int × Int) : Array Value := #[.int .i64 s.1, .int .i64 s.2]

def cellsS (l : List (Int × Int)) : List Value := l.flatMap (fun x => (stampA x).toList)

theorem cellsS_at (l : List (Int × Int)) : ∀ i, i < l.length → ∀ j, j < 2 → ∃ u, (stampA (stL l i))[j]? = some u ∧ (cellsS l)[i * 2 + j]? = some u := by
  induction l with
  | nil => intro i hi; exact absurd hi (Nat.not_lt_zero _)
  | cons x l ih =>
    intro i hi j hj
    have hs : (stampA x).toList.length = 2 := rfl
    cases i with
    | zero =>
      refine ⟨(stampA x)[j]'(by show j < 2; exact hj), ?_, ?_⟩
      · show (stampA x)[j]? = _
        exact Array.getElem?_eq_getElem _
      · show ((stampA x).toList ++ cellsS l)[0 * 2 + j]? = _
        rw [Nat.zero_mul, Nat.zero_add, List.getElem?_append_left (by rw [hs]; exact hj), Array.getElem?_toList]
        exact Array.getElem?_eq_getElem _
    | succ i =>
      obtain ⟨u, h1, h2⟩ := ih i (by simp at hi; omega) j hj
      refine ⟨u, ?_, ?_⟩
      · have : stL (x :: l) (i + 1) = stL l i := rfl
        rw [this]; exact h1
      · show ((stampA x).toList ++ cellsS l)[(i + 1) * 2 + j]? = _
        rw [List.getElem?_append_right (by rw [hs]; omega), hs, show (i + 1) * 2 + j - 2 = i * 2 + j by omega]
        exact h2

theorem cellsS_snoc (l : List (Int × Int)) (x : Int × Int) : cellsS (l ++ [x]) = cellsS l ++ (stampA x).toList := by
  unfold cellsS
  rw [List.flatMap_append]
  simp

theorem stampA_one (x : Int × Int) : ∀ u ∈ (stampA x).toList, u.oneCell' = true := by
  intro u hu
  simp [stampA] at hu
  rcases hu with rfl | rfl <;> rfl

end Go.Proofs.YtaakmcihpdbilaaDoor
