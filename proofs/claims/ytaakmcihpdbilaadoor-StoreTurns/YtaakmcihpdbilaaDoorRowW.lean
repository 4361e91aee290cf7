/- Rows of the call's own, with the elements of another row behind; guarded too. Plain facts. -/
import Derived.Test.YtaakmcihpdbilaaDoorRowR
import Derived.Laws.AppendOwnNone
namespace Go.Proofs.YtaakmcihpdbilaaDoor
open Go.ChangeShapes Go.WideShapes Go.RowKit
set_option linter.unusedSimpArgs false

theorem wpList_want {P : Program} {ops : Array Oper} {rest : List Oper} {o : Oper} {a : Act} {w : World} {Q : Exit → Act → World → Prop} (hw : Region.wanted o (yielded ops a.tmps) = true)
    (h : ∀ K : Act → World → Prop, (∀ a w, wpList P ops Q rest a w → K a w) → o.wp P a w K Q) : wpList P ops Q (o :: rest) a w :=
  wpList_step fun K hK => by rw [if_pos hw]; exact h K hK

/-- A row that is put behind another: nil, or its cells. -/
def SrcAt (w : World) (src : Value) (m : Nat) (news : List Value) : Prop := (src = .slice none 0 0 ∧ m = 0 ∧ news = []) ∨ ∃ ad c, src = .slice (some ad) m c ∧ ∀ j u, news[j]? = some u → w.cell? (ad.add j) = some u

theorem wpList_appW {P : Program} {ops : Array Oper} {rest : List Oper} {o : Oper} {a : Act} {w : World} {Q : Exit → Act → World → Prop} (hw : Region.wanted o (yielded ops a.tmps) = true) (s x : Operand) (t : TypeId)
    (ho : o.op = .call { callee := .builtin .append, args := #[s, x], argTypes := #[t, t] })
    (base : Nat) (e : TypeId) (i : TypeInfo) (z : Value) (size bytes : Nat) (ht : P.underlying t = some (.slice e)) (hi : P.info? e = some i) (hz : i.zero = some z)
    (hsize : i.size = size) (hby : i.bytes = bytes) (hzs : z.cells.size = size) (hsz : 0 < size)
    (v : Value) (n : Nat) (xs : List Value) (hs : a.eval s = v) (hown : w.ownsRow base e size v n xs)
    (src : Value) (m : Nat) (news : List Value) (hx : a.eval x = src) (hsrc : SrcAt w src m news) (hl : news.length = m * size) (h1 : ∀ u ∈ news, u.oneCell' = true)
    (h63 : n + m ≤ maxLen) (hbytes : (n + m) * bytes ≤ 140737488355328) (hbase : base ≤ w.heap.size)
    (h : ∀ v' w', w'.ownsRow base e size v' (n + m) (xs ++ news) → w.grownBy w' v.ownBlock → wpList P ops Q rest (a.put o.dst v') w') : wpList P ops Q (o :: rest) a w := by
  rcases hsrc with ⟨rfl, rfl, rfl⟩ | ⟨ad, c, rfl, hnews⟩
  · refine wpList_want hw fun K hK => ?_
    have hrun := run_append_owned_none (P := P) (w := w) base t o.type e i size ht hi v n xs hown
    unfold Oper.wp
    simp [execOp, ho, resolve, invoke, builtin, hs, hx, hrun, Result.andThen]
    exact hK _ _ (h v w (by rw [List.append_nil]; exact hown) ⟨rfl, rfl, rfl, Nat.le_refl _, fun _ _ _ => rfl⟩)
  · exact wpList_want hw fun _ hK => wp_append_own w s x t ho base e i z size bytes ht hi hz hsize hby hzs hsz v n xs hs hown ad m c news hx hl hnews h1 h63 hbytes hbase fun v' w' h2 h3 _ => hK _ _ (h v' w' h2 h3)

/-- A slice that came in: nil, or an address, and no more than its capacity. -/
def SliceOk (a : Option Addr) (len cap : Nat) : Prop := (a = none ∧ len = 0 ∧ cap = 0) ∨ ∃ x, a = some x ∧ len ≤ cap

theorem SliceOk.cap {a : Option Addr} {len cap : Nat} (h : SliceOk a len cap) : len ≤ cap := by
  rcases h with ⟨_, rfl, rfl⟩ | ⟨_, _, h⟩
  · exact Nat.le_refl _
  · exact h

theorem slice_of {H : Type} {enc : TypeId × Value → H} {P : Program} {w : World} {base : Nat} {held : Bool} {t e : TypeId} {a : Option Addr} {len cap : Nat} {d : DataW H} {p : List MemPlace} (ht : P.underlying t = some (.slice e))
    (h : DataW.Trod enc P w base (fun _ => true) held t (.slice a len cap) d p) : SliceOk a len cap := by
  obtain ⟨fuel, hf⟩ := h
  rcases Go.Deep.open_slice ht hf with ⟨hcs, _⟩ | ⟨x, n, cp, m, k, D, Pl, hcs, hb, hl, hm, hmm, _, hx⟩
  · simp [Value.cells] at hcs
    exact .inl hcs
  · simp [Value.cells] at hcs
    obtain ⟨rfl, rfl, rfl⟩ := hcs
    exact .inr ⟨_, rfl, hl⟩

theorem cellsS_len (l : List (Int × Int)) : (cellsS l).length = l.length * 2 := by
  induction l with
  | nil => rfl
  | cons x l ih =>
    show ((stampA x).toList ++ cellsS l).length = _
    rw [List.length_append, ih, List.length_cons]
    show 2 + _ = _
    omega

theorem cellsS_one (l : List (Int × Int)) : ∀ u ∈ cellsS l, u.oneCell' = true := by
  intro u hu
  unfold cellsS at hu
  obtain ⟨x, _, hx⟩ := List.mem_flatMap.1 hu
  exact stampA_one x u hx

theorem stamps_src {w : World} {a : Option Addr} {n c : Nat} {l : List (Int × Int)} (hk : SliceOk a n c) (h : StampsAt w a n l) : SrcAt w (.slice a n c) n (cellsS l) := by
  rcases hk with ⟨rfl, rfl, rfl⟩ | ⟨x, rfl, hc⟩
  · refine .inl ⟨rfl, rfl, ?_⟩
    have := h.1
    rw [List.length_eq_zero_iff.1 this]; rfl
  · refine .inr ⟨x, c, rfl, fun j u hj => ?_⟩
    have hjl := (List.getElem?_eq_some_iff.1 hj).1
    rw [cellsS_len] at hjl
    have hln := h.1
    obtain ⟨b, off, hx, hcl⟩ : ∃ b off, some x = some ⟨b, off, none⟩ ∧ ∀ i, i < n → w.cell? ⟨b, off + i * 2, none⟩ = some (.int .i64 (stL l i).1) ∧ w.cell? ⟨b, off + i * 2 + 1, none⟩ = some (.int .i64 (stL l i).2) := by
      rcases h.2 with h0 | h2
      · omega
      · exact h2
    cases hx
    have hi : j / 2 < l.length := by omega
    obtain ⟨u', h1, h2⟩ := cellsS_at l (j / 2) hi (j % 2) (by omega)
    rw [show j / 2 * 2 + j % 2 = j by omega, hj] at h2
    cases h2
    obtain ⟨c0, c1⟩ := hcl (j / 2) (by omega)
    rw [add_plain]
    rcases (show j % 2 = 0 ∨ j % 2 = 1 by omega) with e | e
    · rw [show off + j = off + j / 2 * 2 by omega, c0, ← h1, e]; rfl
    · rw [show off + j = off + j / 2 * 2 + 1 by omega, c1, ← h1, e]; rfl

theorem ints_src {w : World} {a : Option Addr} {n c : Nat} {l : List Int} (hk : SliceOk a n c) (h : IntsAt w .i64 a n l) : SrcAt w (.slice a n c) n (l.map (Value.int .i64)) := by
  rcases hk with ⟨rfl, rfl, rfl⟩ | ⟨x, rfl, hc⟩
  · refine .inl ⟨rfl, rfl, ?_⟩
    have := h.1
    rw [List.length_eq_zero_iff.1 this]; rfl
  · refine .inr ⟨x, c, rfl, fun j u hj => ?_⟩
    rw [List.getElem?_map] at hj
    obtain ⟨z, hz, rfl⟩ := Option.map_eq_some_iff.1 hj
    have hjl := (List.getElem?_eq_some_iff.1 hz).1
    have hln := h.1
    rcases h.2 with h0 | ⟨b, off, hx, hcl⟩
    · omega
    · cases hx
      rw [add_plain, hcl j (by omega), List.getD_eq_getElem?_getD, hz]; rfl

/-- One more of it, new. -/
theorem new_src {w : World} {t : TypeId} {g c : Nat} {cs : Array Value} (h : Blk w t g cs) (n : Nat) : SrcAt w (.slice (some ⟨g, 0, none⟩) n c) n cs.toList := by
  refine .inr ⟨_, _, rfl, fun j u hj => ?_⟩
  rw [add_plain, Nat.zero_add, h.cell j]
  simpa using hj

theorem ints_own {w : World} {B : Nat} {e : TypeId} {v : Value} {n : Nat} {l : List Int} (h : OwnV w B e .i64 v n l) : ∃ a cap, v = .slice a n cap ∧ IntsAt w .i64 a n l ∧ n ≤ cap := by
  have hlen := h.len
  rcases h.2 with ⟨rfl, h0⟩ | ⟨g, cap, cur, rfl, h2⟩
  · exact ⟨none, 0, by rw [h0], ⟨hlen, .inl h0⟩, by omega⟩
  · refine ⟨some ⟨g, 0, none⟩, cap, rfl, ⟨hlen, ?_⟩, ?_⟩
    · by_cases h0 : n = 0
      · exact .inl h0
      · refine .inr ⟨g, 0, rfl, fun i hi => ?_⟩
        rw [Nat.zero_add, World.ownsRow.cellAt h i (by omega), List.getElem?_map, List.getD_eq_getElem?_getD, List.getElem?_eq_getElem (by omega)]
        rfl
    · obtain ⟨_, _, hnc, _⟩ := h2
      exact hnc

theorem Tryd.infoInt : (Tryd.prog.info? 3).map (fun i => (i.zero, i.size, i.bytes)) = some (some (.int .i64 0), 1, 8) := by kernel_rfl

end Go.Proofs.YtaakmcihpdbilaaDoor
