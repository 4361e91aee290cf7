/- An object of the call's own at block g, a row r of its own besides: what a method leaves as it was. Append to such a row. Plain facts. -/
import Derived.Test.YtaakmcihpdbilaaDoorG
namespace Go.Proofs.YtaakmcihpdbilaaDoor
open Go.RowKit
set_option maxRecDepth 100000
set_option linter.unusedSimpArgs false

/-- Of what was there only block g and the row r may have turned. -/
structure Kept2 (g : Nat) (r : Option Nat) (w w' : World) : Prop where
  os : w'.os = w.os
  tape : w'.tape = w.tape
  output : w'.output = w.output
  size : w.heap.size ≤ w'.heap.size
  block : ∀ k, k < w.heap.size → k ≠ g → some k ≠ r → w'.heap[k]? = w.heap[k]?
/-- A row that follows another: the same one, or a new one. -/
def Nx (w : World) (r r' : Option Nat) : Prop := ∀ k, r' = some k → r = some k ∨ w.heap.size ≤ k
theorem Nx.refl (w : World) (r : Option Nat) : Nx w r r := fun _ h => Or.inl h
theorem Nx.none (w : World) (r : Option Nat) : Nx w r Option.none := fun _ h => by cases h
theorem Nx.trans {a b : World} {r r1 r2 : Option Nat} (h1 : Nx a r r1) (hs : a.heap.size ≤ b.heap.size) (h2 : Nx b r1 r2) : Nx a r r2 := fun k hk => by
  rcases h2 k hk with h | h
  · exact h1 k h
  · exact Or.inr (by omega)
theorem Nx.ne {w : World} {r r' : Option Nat} (h : Nx w r r') {c : Nat} (hc : c < w.heap.size) (hr : some c ≠ r) : some c ≠ r' := fun e => by
  rcases h c e.symm with h' | h'
  · exact hr h'.symm
  · omega
theorem Kept2.refl (g : Nat) (r : Option Nat) (w : World) : Kept2 g r w w := ⟨rfl, rfl, rfl, Nat.le_refl _, fun _ _ _ _ => rfl⟩
theorem Kept2.trans {g : Nat} {r r' : Option Nat} {a b c : World} (h1 : Kept2 g r a b) (h2 : Kept2 g r' b c) (hn : Nx a r r') : Kept2 g r a c :=
  ⟨h2.os.trans h1.os, h2.tape.trans h1.tape, h2.output.trans h1.output, Nat.le_trans h1.size h2.size, fun k hk hg hr =>
    (h2.block k (Nat.lt_of_lt_of_le hk h1.size) hg (hn.ne hk hr)).trans (h1.block k hk hg hr)⟩
theorem Kept2.ofBelow {w w' : World} (g : Nat) (r : Option Nat) (h : Below w.heap.size w w') : Kept2 g r w w' := ⟨h.os, h.tape, h.output, h.size, fun k hk _ _ => h.block k hk⟩
theorem Kept2.ofGrown {w w' : World} (g : Nat) {r : Option Nat} (h : w.grownBy w' r) : Kept2 g r w w' := ⟨h.os, h.tape, h.output, h.size, fun k hk _ hr => h.block k hk hr⟩
theorem Kept2.ofOne {w w' : World} {g : Nat} (r : Option Nat) (h : w.grownBy w' (some g)) : Kept2 g r w w' := ⟨h.os, h.tape, h.output, h.size, fun k hk hg _ => h.block k hk (fun e => hg (by cases e; rfl))⟩
theorem Kept2.setCell {g : Nat} {r : Option Nat} {a w : World} (h : Kept2 g r a w) (p : Addr) (hp : p.block = g) (u : Value) : Kept2 g r a (w.setCell p u) :=
  ⟨h.os, h.tape, h.output, by have := h.size; simpa [World.setCell] using this, fun k hk hg hr => by rw [Below.heap_setCell w p u k (by omega)]; exact h.block k hk hg hr⟩
theorem Kept2.setRow {g : Nat} {r : Option Nat} {a w : World} (h : Kept2 g r a w) (cs : Array Value) : Kept2 g r a (w.setRow g cs) :=
  ⟨h.os, h.tape, h.output, by have := h.size; simpa [World.setRow] using this, fun k hk hg hr => by rw [setRow_other w g k cs hg]; exact h.block k hk hg hr⟩
theorem Kept2.below {g : Nat} {r : Option Nat} {w w' : World} (h : Kept2 g r w w') (B : Nat) (hB : B ≤ w.heap.size) (hg : B ≤ g) (hr : ∀ k, r = some k → B ≤ k) : Below B w w' :=
  ⟨h.os, h.tape, h.output, h.size, fun k hk => h.block k (by omega) (by omega) (fun e => by have := hr k e.symm; omega)⟩
theorem Kept2.on {g : Nat} {r : Option Nat} {a b c : World} (h1 : Kept2 g r a b) (h2 : Below b.heap.size b c) : Kept2 g r a c := h1.trans (Kept2.ofBelow g r h2) (Nx.refl _ _)
theorem Kept2.behind {g : Nat} {r : Option Nat} {a b c : World} (h1 : Below a.heap.size a b) (h2 : Kept2 g r b c) : Kept2 g r a c := (Kept2.ofBelow g r h1).trans h2 (Nx.refl _ _)
theorem Blk.kept {w w' : World} {t : TypeId} {c g : Nat} {r : Option Nat} {cs : Array Value} (h : Blk w t c cs) (k : Kept2 g r w w') (h1 : c ≠ g) (h2 : some c ≠ r) : Blk w' t c cs := by
  unfold Blk; rw [k.block c h.lt h1 h2]; exact h
theorem Row8.kept {w w' : World} {c n g : Nat} {r : Option Nat} {f : Nat → Nat} (h : Row8 w c n f) (k : Kept2 g r w w') (h1 : c ≠ g) (h2 : some c ≠ r) : Row8 w' c n f := by
  have hl := h.lt
  obtain ⟨cs, t, fr, e, h3⟩ := h
  exact ⟨cs, t, fr, by rw [k.block c hl h1 h2]; exact e, h3⟩

theorem Blk.setAt {w : World} {t : TypeId} {g : Nat} {cs : Array Value} (h : Blk w t g cs) (j : Nat) (u : Value) : Blk (w.setCell ⟨g, j, none⟩ u) t g (cs.setIfInBounds j u) := by
  rw [setCell_eq_setRow w g j cs t (0, 0) u h]
  exact h.setRow _
theorem Kept2.setNew {g : Nat} {r : Option Nat} {a w : World} (h : Kept2 g r a w) (p : Addr) (hp : a.heap.size ≤ p.block) (u : Value) : Kept2 g r a (w.setCell p u) :=
  ⟨h.os, h.tape, h.output, by have := h.size; simpa [World.setCell] using this, fun k hk hg hr => by rw [Below.heap_setCell w p u k (by omega)]; exact h.block k hk hg hr⟩
theorem Kept2.drew {g : Nat} {r : Option Nat} {a b : World} (h : Kept2 g r a b) : Kept2 g r a b.drew := h.on (Below.refl _ _).drew

/-- A row of bytes of the call's own, that is a text. -/
def RowB (w : World) (e : TypeId) (v : Value) (S : ByteArray) : Prop := OwnV w 0 e .u8 v S.size (nums S.data.toList)
theorem RowB.nil (w : World) (e : TypeId) : RowB w e (.slice none 0 0) ByteArray.empty := OwnV.nil _ _ _ _
theorem RowB.lt {w : World} {e : TypeId} {v : Value} {S : ByteArray} (h : RowB w e v S) (k : Nat) (hk : v.ownBlock = some k) : k < w.heap.size := (World.ownsRow.lt h k hk).2
theorem RowB.slice {w : World} {e : TypeId} {v : Value} {S : ByteArray} (h : RowB w e v S) : ∃ ao cap, v = .slice ao S.size cap := by
  rcases h.2 with ⟨rfl, h0⟩ | ⟨g, cap, cur, rfl, _⟩
  · rw [h0]; exact ⟨_, _, rfl⟩
  · exact ⟨_, _, rfl⟩
theorem RowB.kept {w w' : World} {e : TypeId} {v : Value} {S : ByteArray} {g : Nat} {r : Option Nat} (h : RowB w e v S) (k : Kept2 g r w w') (h1 : v.ownBlock ≠ some g) (h2 : v.ownBlock = none ∨ v.ownBlock ≠ r) : RowB w' e v S := by
  refine ⟨h.1, ?_⟩
  rcases h.2 with hn | ⟨b, cap, cur, rfl, hb, hg, rest⟩
  · exact .inl hn
  · refine .inr ⟨b, cap, cur, rfl, hb, ?_, rest⟩
    rw [k.block b (Array.getElem?_eq_some_iff.1 hg).1 (fun e => h1 (by rw [e]; rfl)) (fun e => by
      rcases h2 with h2 | h2
      · cases h2
      · exact h2 e)]
    exact hg
theorem RowB.on {w w' : World} {e : TypeId} {v : Value} {S : ByteArray} (h : RowB w e v S) (hb : Below w.heap.size w w') : RowB w' e v S := by
  refine ⟨h.1, ?_⟩
  rcases h.2 with hn | ⟨b, cap, cur, rfl, h0, hg, rest⟩
  · exact .inl hn
  · exact .inr ⟨b, cap, cur, rfl, h0, by rw [hb.block b (Array.getElem?_eq_some_iff.1 hg).1]; exact hg, rest⟩
theorem RowB.other {w : World} {e : TypeId} {v : Value} {S : ByteArray} (h : RowB w e v S) (p : Addr) (hp : v.ownBlock ≠ some p.block) (u : Value) : RowB (w.setCell p u) e v S := by
  refine ⟨h.1, ?_⟩
  rcases h.2 with hn | ⟨b, cap, cur, rfl, h0, hg, rest⟩
  · exact .inl hn
  · exact .inr ⟨b, cap, cur, rfl, h0, by rw [Below.heap_setCell w p u b (fun e => hp (by rw [← e]; rfl))]; exact hg, rest⟩
theorem RowB.conv {P : Program} {w : World} {e : TypeId} {v : Value} {S : ByteArray} (h : RowB w e v S) (src dst : TypeId)
    (hs : P.underlying src = some (.slice e)) (he : P.underlying e = some (.int .u8)) (hd : P.underlying dst = some .string) : (convert src dst v).run P w = .ok (.string S) w :=
  own_conv (P := P) src dst h hs he hd
theorem nums_append (S T : ByteArray) : nums (S ++ T).data.toList = nums S.data.toList ++ nums T.data.toList := by
  rw [ByteArray.data_append, Array.toList_append]
  simp [nums]

/-- Bytes put behind such a row: the row behind it is the same one, or a new one. -/
theorem append_next {P : Program} {w : World} {e t ty : TypeId} {i : TypeInfo} (ht : P.underlying t = some (.slice e)) (hi : P.info? e = some i) (hz : i.zero = some (.int .u8 0)) (hsize : i.size = 1) (hby : i.bytes = 1)
    {v : Value} {S T : ByteArray} (hown : RowB w e v S) (b c : Nat) (hb : Row8 w b T.size (bt T)) (hn : S.size + T.size ≤ 65536) :
    ∃ v' w', (Builtin.append_ #[t, t] ty #[v, .slice (some ⟨b, 0, none⟩) T.size c]).run P w = .ok v' w' ∧ RowB w' e v' (S ++ T) ∧ w.grownBy w' v.ownBlock ∧ Nx w v.ownBlock v'.ownBlock := by
  have hl : ((nums T.data.toList).map (Value.int .u8)).length = T.size * 1 := by
    rw [List.length_map, Nat.mul_one]
    show (T.data.toList.map _).length = _
    rw [List.length_map]; rfl
  have hnews : ∀ j u, ((nums T.data.toList).map (Value.int .u8))[j]? = some u → w.cell? ((⟨b, 0, none⟩ : Addr).add j) = some u := by
    intro j u hu
    have hj : j < T.size := by
      have := (List.getElem?_eq_some_iff.1 hu).1
      rw [hl] at this; omega
    have hadd : (⟨b, 0, none⟩ : Addr).add j = ⟨b, j, none⟩ := by unfold Addr.add; split <;> simp_all
    rw [hadd, hb.cell j hj, ← hu]
    have hj2 : j < T.data.size := hj
    simp [nums, bt, List.getD_eq_getElem?_getD, Array.getElem?_eq_getElem hj2]
  have h1 : ∀ u ∈ (nums T.data.toList).map (Value.int .u8), u.oneCell' = true := by
    intro u hu
    obtain ⟨x, _, rfl⟩ := List.mem_map.1 hu
    rfl
  have h63 : S.size + T.size ≤ maxLen := by unfold maxLen; omega
  obtain ⟨v', w', hr, h2, h3, h4⟩ := run_append_own (P := P) w 0 t ty e i (.int .u8 0) 1 1 ht hi hz hsize hby rfl (by decide) v S.size _ hown ⟨b, 0, none⟩ T.size c _ hl hnews h1 h63 (by omega) (Nat.zero_le _)
  refine ⟨v', w', hr, ?_, h3, ?_⟩
  · unfold RowB OwnV
    rw [nums_append, List.map_append, ByteArray.size_append]
    exact h2
  · rcases hown.2 with ⟨rfl, h0⟩ | ⟨g, cap, cur, rfl, _, hg, hnc, hcm, hcs, htake⟩
    · have hb2 : w.ownsRow w.heap.size e 1 (.slice none 0 0) S.size ((nums S.data.toList).map (Value.int .u8)) := ⟨hown.1, .inl ⟨rfl, h0⟩⟩
      obtain ⟨v2, w2, hr2, k2, _⟩ := run_append_own (P := P) w w.heap.size t ty e i (.int .u8 0) 1 1 ht hi hz hsize hby rfl (by decide) _ S.size _ hb2 ⟨b, 0, none⟩ T.size c _ hl hnews h1 h63 (by omega) (Nat.le_refl _)
      rw [hr] at hr2
      injection hr2 with e1 e2
      subst e1
      exact fun k hk => Or.inr (k2.lt k hk).1
    · by_cases hroom : S.size + T.size ≤ cap
      · have hr2 := run_append_room (P := P) w t ty e i ht hi g S.size cap cur hg ⟨b, 0, none⟩ T.size c _ (by rw [hsize]; exact hl) hnews h1 hroom (by rw [hsize, hl, hcs, ← Nat.add_mul]; omega)
        rw [hr] at hr2
        injection hr2 with e1 e2
        subst e1
        exact fun k hk => Or.inl hk
      · have hr2 := run_append_grow (P := P) w t ty e i (.int .u8 0) ht hi hz ⟨g, 0, none⟩ S.size cap _ (by rw [hsize]; exact hown.1) (World.ownsRow.cells hown (g := g) rfl) ⟨b, 0, none⟩ T.size c _ (by rw [hsize]; exact hl) hnews (by omega) (by omega) (growslice_fits (by omega) (by rw [hby]; omega))
        rw [hr] at hr2
        injection hr2 with e1 e2
        subst e1
        exact fun k hk => Or.inr (by cases hk; exact Nat.le_refl _)

theorem wpList_append_next {P : Program} {w : World} {ops : Array Oper} {rest : List Oper} {o : Oper} {a : Act} {Q : Exit → Act → World → Prop} (hgd : o.guard = none) (s x : Operand) (t e : TypeId)
    (ho : o.op = .call { callee := .builtin .append, args := #[s, x], argTypes := #[t, t] }) {i : TypeInfo} (ht : P.underlying t = some (.slice e)) (hi : P.info? e = some i) (hz : i.zero = some (.int .u8 0)) (hsize : i.size = 1) (hby : i.bytes = 1)
    {v : Value} {S T : ByteArray} (hs : a.eval s = v) (hown : RowB w e v S) (b c : Nat) (hx : a.eval x = .slice (some ⟨b, 0, none⟩) T.size c) (hb : Row8 w b T.size (bt T)) (hn : S.size + T.size ≤ 65536)
    (h : ∀ v' w', RowB w' e v' (S ++ T) → w.grownBy w' v.ownBlock → Nx w v.ownBlock v'.ownBlock → wpList P ops Q rest (a.put o.dst v') w') : wpList P ops Q (o :: rest) a w :=
  wpList_plain hgd fun _ hK => by
    obtain ⟨v', w', hr, h2, h3, h4⟩ := append_next (P := P) (ty := o.type) ht hi hz hsize hby hown b c hb hn
    unfold Oper.wp execOp
    simp only [ho, resolve, invoke, builtin, Sem.run_bind, Sem.run_pure, Result.andThen_ok, List.map_toArray, List.map_cons, List.map_nil, hs, hx, hr]
    exact hK _ _ (h v' w' h2 h3 h4)
end Go.Proofs.YtaakmcihpdbilaaDoor
