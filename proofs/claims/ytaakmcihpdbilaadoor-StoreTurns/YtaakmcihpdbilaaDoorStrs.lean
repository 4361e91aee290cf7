/- Rows of texts: plain facts. -/
import Derived.Test.YtaakmcihpdbilaaDoorG
namespace Go.Proofs.YtaakmcihpdbilaaDoor
open Go.RowKit
set_option maxRecDepth 100000
set_option linter.unusedSimpArgs false

theorem Tryd.infoS : (Tryd.prog.info? 9).map (fun i => (i.zero, i.size, i.bytes)) = some (some (.string ⟨#[]⟩), 1, 16) := by kernel_rfl
def strL (l : List ByteArray) (i : Nat) : ByteArray := l.getD i ⟨#[]⟩
/-- A slice of n texts that can be read. -/
def StrsAt (w : World) (a : Option Addr) (n : Nat) (l : List ByteArray) : Prop :=
  l.length = n ∧ (n = 0 ∨ ∃ b off, a = some ⟨b, off, none⟩ ∧ ∀ i, i < n → w.cell? ⟨b, off + i, none⟩ = some (.string (strL l i)))
theorem StrsAt.below {w w' : World} {a : Option Addr} {n : Nat} {l : List ByteArray} (h : StrsAt w a n l) (hb : Below w.heap.size w w') : StrsAt w' a n l := by
  refine ⟨h.1, ?_⟩
  rcases h.2 with h0 | ⟨b, off, ha, hc⟩
  · exact .inl h0
  · refine .inr ⟨b, off, ha, fun i hi => ?_⟩
    have h1 := hc i hi
    have hlt := World.block_lt_of_cell? w _ h1
    rw [hb.cell (p := ⟨b, off + i, none⟩) hlt]; exact h1
theorem StrsAt.some {w : World} {a : Option Addr} {n : Nat} {l : List ByteArray} (h : StrsAt w a n l) (hn : 0 < n) : ∃ b off, a = .some ⟨b, off, none⟩ ∧ ∀ i, i < n → w.cell? ⟨b, off + i, none⟩ = .some (.string (strL l i)) := by
  rcases h.2 with h0 | h
  · omega
  · exact h
/-- A row of n texts of the call's own, wherever it lies; nil where there are none. -/
def OwnTx (w : World) (B : Nat) (v : Value) (n : Nat) (l : List ByteArray) : Prop := w.ownsRow B 9 1 v n (l.map Value.string)
theorem OwnTx.nil (w : World) (B : Nat) : OwnTx w B (.slice none 0 0) 0 [] := World.ownsRow_nil _ _ _ _
theorem OwnTx.len {w : World} {B n : Nat} {v : Value} {l : List ByteArray} (h : OwnTx w B v n l) : l.length = n := by
  have := h.1; simpa using this
theorem OwnTx.strs {w : World} {B n : Nat} {v : Value} {l : List ByteArray} (h : OwnTx w B v n l) : ∃ a c, v = .slice a n c ∧ StrsAt w a n l := by
  have hl := h.len
  rcases h.2 with ⟨rfl, rfl⟩ | ⟨g, cap, cur, rfl, r⟩
  · exact ⟨none, 0, rfl, hl, .inl rfl⟩
  · refine ⟨some ⟨g, 0, none⟩, cap, rfl, hl, .inr ⟨g, 0, rfl, fun i hi => ?_⟩⟩
    rw [Nat.zero_add, World.ownsRow.cellAt (⟨h.1, .inr ⟨g, cap, cur, rfl, r⟩⟩ : w.ownsRow B 9 1 (.slice (some ⟨g, 0, none⟩) n cap) n _) i (by omega)]
    simp [strL, List.getD, List.getElem?_eq_getElem (show i < l.length by omega)]
theorem OwnTx.below {w w' : World} {B n : Nat} {v : Value} {l : List ByteArray} (h : OwnTx w B v n l) (hb : Below w.heap.size w w') : OwnTx w' B v n l := by
  obtain ⟨hl, h | ⟨g, cap, cur, hv, hB, hc, r⟩⟩ := h
  · exact ⟨hl, .inl h⟩
  · exact ⟨hl, .inr ⟨g, cap, cur, hv, hB, by rw [hb.block g (Array.getElem?_eq_some_iff.1 hc).1]; exact hc, r⟩⟩
/-- One text appended to a row of the call's own, in a plain region. -/
theorem wpList_appS {ops : Array Oper} {rest : List Oper} {o : Oper} {a : Act} {Q : Exit → Act → World → Prop} (hgd : o.guard = none) (s x : Operand)
    (ho : o.op = .call { callee := .builtin .append, args := #[s, x], argTypes := #[22, 22] })
    (B : Nat) (W : World) (v : Value) (n : Nat) (l : List ByteArray) (hs : a.eval s = v) (hown : OwnTx W B v n l) (y : ByteArray) (hx : a.eval x = .slice (some ⟨W.heap.size, 0, none⟩) 1 1)
    (hn : n ≤ 1048576) (hB : B ≤ W.heap.size)
    (h : ∀ v' w', OwnTx w' B v' (n + 1) (l ++ [y]) → Below B W w' → wpList Tryd.prog ops Q rest (a.put o.dst v') w') :
    wpList Tryd.prog ops Q (o :: rest) a (W.alloc (.cells #[.string y] 9)) := by
  obtain ⟨i, hi, hz, hsize, hby⟩ := info_parts Tryd.infoS
  refine wpList_append_own _ hgd s x 22 ho B 9 i (.string ⟨#[]⟩) 1 16 Tryd.underlying22 hi hz hsize hby rfl (by decide) v n _ hs (World.ownsRow.alloc hown _) ⟨W.heap.size, 0, none⟩ 1 1 [.string y] hx rfl (cell_one_new _ _ _) ?_ (by unfold maxLen; omega) (by omega) (by simp; omega) ?_
  · intro u hu; simp at hu; subst hu; rfl
  · intro v' w' h1 h2 _
    refine h v' w' (by unfold OwnTx; rw [List.map_append]; exact h1) ?_
    exact ((Below.refl B W).alloc hB _).grown h2 (by simp; omega) (fun k hk => (World.ownsRow.lt hown k hk).1)

theorem beq_texts (a b : ByteArray) : (a.toList == b.toList) = decide (a = b) := by
  by_cases h : a = b
  · subst h; simp
  · have : ¬ a.toList = b.toList := fun e => h (bytes_ext (by rw [toList_data, toList_data] at e; exact e))
    simp [h, this]
end Go.Proofs.YtaakmcihpdbilaaDoor
