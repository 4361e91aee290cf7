import Derived.Test.YtkmdajenbidaaaaDoorG
import Derived.Deep.Slices
import Derived.Lib.SmallJoins
import Derived.OpenShut
import Derived.ProofKit
import Derived.Test.YtkmdajenbidaaaaDoorL1
import Derived.Laws.AppendOwnNone
/- Rows of texts: plain facts. -/
namespace Go.Proofs.YtkmdajenbidaaaaDoor
open Go.RowKit
set_option maxRecDepth 100000
set_option linter.unusedSimpArgs false

theorem beq_texts (a b : ByteArray) : (a.toList == b.toList) = decide (a = b) := by
  by_cases h : a = b
  · subst h; simp
  · have : ¬ a.toList = b.toList := fun e => h (bytes_ext (by rw [toList_data, toList_data] at e; exact e))
    simp [h, this]
end Go.Proofs.YtkmdajenbidaaaaDoor

/- An object of the call's own at block g, a row r of its own besides: what a method leaves as it was. Append to such a row. Plain facts. -/
namespace Go.Proofs.YtkmdajenbidaaaaDoor
open Go.RowKit
set_option maxRecDepth 100000
set_option linter.unusedSimpArgs false

/-- Of what was there only block g and the row r may have turned. -/
structure Kept2 (g : Nat) (r : Option Nat) (w w' : World) : Prop where
  os : w'.os = w.os
  tape : w'.tape = w.tape
  output : w'.output = w.output
  size : w.heap.size ≤ w'.heap.size
  block : ∀ k, k < w.heap.size → k ≠ g → some k ≠ r → w'.heap[k]? = w.heap[k]?
/-- A row that follows another: the same one, or a new one. -/
def Nx (w : World) (r r' : Option Nat) : Prop := ∀ k, r' = some k → r = some k ∨ w.heap.size ≤ k
theorem Nx.refl (w : World) (r : Option Nat) : Nx w r r := fun _ h => Or.inl h
theorem Nx.none (w : World) (r : Option Nat) : Nx w r Option.none := fun _ h => by cases h
theorem Nx.trans {a b : World} {r r1 r2 : Option Nat} (h1 : Nx a r r1) (hs : a.heap.size ≤ b.heap.size) (h2 : Nx b r1 r2) : Nx a r r2 := fun k hk => by
  rcases h2 k hk with h | h
  · exact h1 k h
  · exact Or.inr (by omega)
theorem Nx.ne {w : World} {r r' : Option Nat} (h : Nx w r r') {c : Nat} (hc : c < w.heap.size) (hr : some c ≠ r) : some c ≠ r' := fun e => by
  rcases h c e.symm with h' | h'
  · exact hr h'.symm
  · omega
theorem Kept2.refl (g : Nat) (r : Option Nat) (w : World) : Kept2 g r w w := ⟨rfl, rfl, rfl, Nat.le_refl _, fun _ _ _ _ => rfl⟩
theorem Kept2.trans {g : Nat} {r r' : Option Nat} {a b c : World} (h1 : Kept2 g r a b) (h2 : Kept2 g r' b c) (hn : Nx a r r') : Kept2 g r a c :=
  ⟨h2.os.trans h1.os, h2.tape.trans h1.tape, h2.output.trans h1.output, Nat.le_trans h1.size h2.size, fun k hk hg hr =>
    (h2.block k (Nat.lt_of_lt_of_le hk h1.size) hg (hn.ne hk hr)).trans (h1.block k hk hg hr)⟩
theorem Kept2.ofBelow {w w' : World} (g : Nat) (r : Option Nat) (h : Below w.heap.size w w') : Kept2 g r w w' := ⟨h.os, h.tape, h.output, h.size, fun k hk _ _ => h.block k hk⟩
theorem Kept2.ofGrown {w w' : World} (g : Nat) {r : Option Nat} (h : w.grownBy w' r) : Kept2 g r w w' := ⟨h.os, h.tape, h.output, h.size, fun k hk _ hr => h.block k hk hr⟩
theorem Kept2.ofOne {w w' : World} {g : Nat} (r : Option Nat) (h : w.grownBy w' (some g)) : Kept2 g r w w' := ⟨h.os, h.tape, h.output, h.size, fun k hk hg _ => h.block k hk (fun e => hg (by cases e; rfl))⟩
theorem Kept2.setCell {g : Nat} {r : Option Nat} {a w : World} (h : Kept2 g r a w) (p : Addr) (hp : p.block = g) (u : Value) : Kept2 g r a (w.setCell p u) :=
  ⟨h.os, h.tape, h.output, by have := h.size; simpa [World.setCell] using this, fun k hk hg hr => by rw [Below.heap_setCell w p u k (by omega)]; exact h.block k hk hg hr⟩
theorem Kept2.setRow {g : Nat} {r : Option Nat} {a w : World} (h : Kept2 g r a w) (cs : Array Value) : Kept2 g r a (w.setRow g cs) :=
  ⟨h.os, h.tape, h.output, by have := h.size; simpa [World.setRow] using this, fun k hk hg hr => by rw [setRow_other w g k cs hg]; exact h.block k hk hg hr⟩
theorem Kept2.below {g : Nat} {r : Option Nat} {w w' : World} (h : Kept2 g r w w') (B : Nat) (hB : B ≤ w.heap.size) (hg : B ≤ g) (hr : ∀ k, r = some k → B ≤ k) : Below B w w' :=
  ⟨h.os, h.tape, h.output, h.size, fun k hk => h.block k (by omega) (by omega) (fun e => by have := hr k e.symm; omega)⟩
theorem Kept2.on {g : Nat} {r : Option Nat} {a b c : World} (h1 : Kept2 g r a b) (h2 : Below b.heap.size b c) : Kept2 g r a c := h1.trans (Kept2.ofBelow g r h2) (Nx.refl _ _)
theorem Kept2.behind {g : Nat} {r : Option Nat} {a b c : World} (h1 : Below a.heap.size a b) (h2 : Kept2 g r b c) : Kept2 g r a c := (Kept2.ofBelow g r h1).trans h2 (Nx.refl _ _)
theorem Blk.kept {w w' : World} {t : TypeId} {c g : Nat} {r : Option Nat} {cs : Array Value} (h : Blk w t c cs) (k : Kept2 g r w w') (h1 : c ≠ g) (h2 : some c ≠ r) : Blk w' t c cs := by
  unfold Blk; rw [k.block c h.lt h1 h2]; exact h
theorem Row8.kept {w w' : World} {c n g : Nat} {r : Option Nat} {f : Nat → Nat} (h : Row8 w c n f) (k : Kept2 g r w w') (h1 : c ≠ g) (h2 : some c ≠ r) : Row8 w' c n f := by
  have hl := h.lt
  obtain ⟨cs, t, fr, e, h3⟩ := h
  exact ⟨cs, t, fr, by rw [k.block c hl h1 h2]; exact e, h3⟩

theorem Blk.setAt {w : World} {t : TypeId} {g : Nat} {cs : Array Value} (h : Blk w t g cs) (j : Nat) (u : Value) : Blk (w.setCell ⟨g, j, none⟩ u) t g (cs.setIfInBounds j u) := by
  rw [setCell_eq_setRow w g j cs t (0, 0) u h]
  exact h.setRow _
theorem Kept2.setNew {g : Nat} {r : Option Nat} {a w : World} (h : Kept2 g r a w) (p : Addr) (hp : a.heap.size ≤ p.block) (u : Value) : Kept2 g r a (w.setCell p u) :=
  ⟨h.os, h.tape, h.output, by have := h.size; simpa [World.setCell] using this, fun k hk hg hr => by rw [Below.heap_setCell w p u k (by omega)]; exact h.block k hk hg hr⟩
theorem Kept2.drew {g : Nat} {r : Option Nat} {a b : World} (h : Kept2 g r a b) : Kept2 g r a b.drew := h.on (Below.refl _ _).drew

/-- A row of bytes of the call's own, that is a text. -/
def RowB (w : World) (e : TypeId) (v : Value) (S : ByteArray) : Prop := OwnV w 0 e .u8 v S.size (nums S.data.toList)
theorem RowB.nil (w : World) (e : TypeId) : RowB w e (.slice none 0 0) ByteArray.empty := OwnV.nil _ _ _ _
theorem RowB.lt {w : World} {e : TypeId} {v : Value} {S : ByteArray} (h : RowB w e v S) (k : Nat) (hk : v.ownBlock = some k) : k < w.heap.size := (World.ownsRow.lt h k hk).2
theorem RowB.slice {w : World} {e : TypeId} {v : Value} {S : ByteArray} (h : RowB w e v S) : ∃ ao cap, v = .slice ao S.size cap := by
  rcases h.2 with ⟨rfl, h0⟩ | ⟨g, cap, cur, rfl, _⟩
  · rw [h0]; exact ⟨_, _, rfl⟩
  · exact ⟨_, _, rfl⟩
theorem RowB.kept {w w' : World} {e : TypeId} {v : Value} {S : ByteArray} {g : Nat} {r : Option Nat} (h : RowB w e v S) (k : Kept2 g r w w') (h1 : v.ownBlock ≠ some g) (h2 : v.ownBlock = none ∨ v.ownBlock ≠ r) : RowB w' e v S := by
  refine ⟨h.1, ?_⟩
  rcases h.2 with hn | ⟨b, cap, cur, rfl, hb, hg, rest⟩
  · exact .inl hn
  · refine .inr ⟨b, cap, cur, rfl, hb, ?_, rest⟩
    rw [k.block b (Array.getElem?_eq_some_iff.1 hg).1 (fun e => h1 (by rw [e]; rfl)) (fun e => by
      rcases h2 with h2 | h2
      · cases h2
      · exact h2 e)]
    exact hg
theorem RowB.on {w w' : World} {e : TypeId} {v : Value} {S : ByteArray} (h : RowB w e v S) (hb : Below w.heap.size w w') : RowB w' e v S := by
  refine ⟨h.1, ?_⟩
  rcases h.2 with hn | ⟨b, cap, cur, rfl, h0, hg, rest⟩
  · exact .inl hn
  · exact .inr ⟨b, cap, cur, rfl, h0, by rw [hb.block b (Array.getElem?_eq_some_iff.1 hg).1]; exact hg, rest⟩
theorem RowB.other {w : World} {e : TypeId} {v : Value} {S : ByteArray} (h : RowB w e v S) (p : Addr) (hp : v.ownBlock ≠ some p.block) (u : Value) : RowB (w.setCell p u) e v S := by
  refine ⟨h.1, ?_⟩
  rcases h.2 with hn | ⟨b, cap, cur, rfl, h0, hg, rest⟩
  · exact .inl hn
  · exact .inr ⟨b, cap, cur, rfl, h0, by rw [Below.heap_setCell w p u b (fun e => hp (by rw [← e]; rfl))]; exact hg, rest⟩
theorem RowB.conv {P : Program} {w : World} {e : TypeId} {v : Value} {S : ByteArray} (h : RowB w e v S) (src dst : TypeId)
    (hs : P.underlying src = some (.slice e)) (he : P.underlying e = some (.int .u8)) (hd : P.underlying dst = some .string) : (convert src dst v).run P w = .ok (.string S) w :=
  own_conv (P := P) src dst h hs he hd
theorem nums_append (S T : ByteArray) : nums (S ++ T).data.toList = nums S.data.toList ++ nums T.data.toList := by
  rw [ByteArray.data_append, Array.toList_append]
  simp [nums]

/-- Bytes put behind such a row: the row behind it is the same one, or a new one. -/
theorem append_next {P : Program} {w : World} {e t ty : TypeId} {i : TypeInfo} (ht : P.underlying t = some (.slice e)) (hi : P.info? e = some i) (hz : i.zero = some (.int .u8 0)) (hsize : i.size = 1) (hby : i.bytes = 1)
    {v : Value} {S T : ByteArray} (hown : RowB w e v S) (b c : Nat) (hb : Row8 w b T.size (bt T)) (hn : S.size + T.size ≤ 65536) :
    ∃ v' w', (Builtin.append_ #[t, t] ty #[v, .slice (some ⟨b, 0, none⟩) T.size c]).run P w = .ok v' w' ∧ RowB w' e v' (S ++ T) ∧ w.grownBy w' v.ownBlock ∧ Nx w v.ownBlock v'.ownBlock := by
  have hl : ((nums T.data.toList).map (Value.int .u8)).length = T.size * 1 := by
    rw [List.length_map, Nat.mul_one]
    show (T.data.toList.map _).length = _
    rw [List.length_map]; rfl
  have hnews : ∀ j u, ((nums T.data.toList).map (Value.int .u8))[j]? = some u → w.cell? ((⟨b, 0, none⟩ : Addr).add j) = some u := by
    intro j u hu
    have hj : j < T.size := by
      have := (List.getElem?_eq_some_iff.1 hu).1
      rw [hl] at this; omega
    have hadd : (⟨b, 0, none⟩ : Addr).add j = ⟨b, j, none⟩ := by unfold Addr.add; split <;> simp_all
    rw [hadd, hb.cell j hj, ← hu]
    have hj2 : j < T.data.size := hj
    simp [nums, bt, List.getD_eq_getElem?_getD, Array.getElem?_eq_getElem hj2]
  have h1 : ∀ u ∈ (nums T.data.toList).map (Value.int .u8), u.oneCell' = true := by
    intro u hu
    obtain ⟨x, _, rfl⟩ := List.mem_map.1 hu
    rfl
  have h63 : S.size + T.size ≤ maxLen := by unfold maxLen; omega
  obtain ⟨v', w', hr, h2, h3, h4⟩ := run_append_own (P := P) w 0 t ty e i (.int .u8 0) 1 1 ht hi hz hsize hby rfl (by decide) v S.size _ hown ⟨b, 0, none⟩ T.size c _ hl hnews h1 h63 (by omega) (Nat.zero_le _)
  refine ⟨v', w', hr, ?_, h3, ?_⟩
  · unfold RowB OwnV
    rw [nums_append, List.map_append, ByteArray.size_append]
    exact h2
  · rcases hown.2 with ⟨rfl, h0⟩ | ⟨g, cap, cur, rfl, _, hg, hnc, hcm, hcs, htake⟩
    · have hb2 : w.ownsRow w.heap.size e 1 (.slice none 0 0) S.size ((nums S.data.toList).map (Value.int .u8)) := ⟨hown.1, .inl ⟨rfl, h0⟩⟩
      obtain ⟨v2, w2, hr2, k2, _⟩ := run_append_own (P := P) w w.heap.size t ty e i (.int .u8 0) 1 1 ht hi hz hsize hby rfl (by decide) _ S.size _ hb2 ⟨b, 0, none⟩ T.size c _ hl hnews h1 h63 (by omega) (Nat.le_refl _)
      rw [hr] at hr2
      injection hr2 with e1 e2
      subst e1
      exact fun k hk => Or.inr (k2.lt k hk).1
    · by_cases hroom : S.size + T.size ≤ cap
      · have hr2 := run_append_room (P := P) w t ty e i ht hi g S.size cap cur hg ⟨b, 0, none⟩ T.size c _ (by rw [hsize]; exact hl) hnews h1 hroom (by rw [hsize, hl, hcs, ← Nat.add_mul]; omega)
        rw [hr] at hr2
        injection hr2 with e1 e2
        subst e1
        exact fun k hk => Or.inl hk
      · have hr2 := run_append_grow (P := P) w t ty e i (.int .u8 0) ht hi hz ⟨g, 0, none⟩ S.size cap _ (by rw [hsize]; exact hown.1) (World.ownsRow.cells hown (g := g) rfl) ⟨b, 0, none⟩ T.size c _ (by rw [hsize]; exact hl) hnews (by omega) (by omega) (growslice_fits (by omega) (by rw [hby]; omega))
        rw [hr] at hr2
        injection hr2 with e1 e2
        subst e1
        exact fun k hk => Or.inr (by cases hk; exact Nat.le_refl _)

theorem wpList_append_next {P : Program} {w : World} {ops : Array Oper} {rest : List Oper} {o : Oper} {a : Act} {Q : Exit → Act → World → Prop} (hgd : o.guard = none) (s x : Operand) (t e : TypeId)
    (ho : o.op = .call { callee := .builtin .append, args := #[s, x], argTypes := #[t, t] }) {i : TypeInfo} (ht : P.underlying t = some (.slice e)) (hi : P.info? e = some i) (hz : i.zero = some (.int .u8 0)) (hsize : i.size = 1) (hby : i.bytes = 1)
    {v : Value} {S T : ByteArray} (hs : a.eval s = v) (hown : RowB w e v S) (b c : Nat) (hx : a.eval x = .slice (some ⟨b, 0, none⟩) T.size c) (hb : Row8 w b T.size (bt T)) (hn : S.size + T.size ≤ 65536)
    (h : ∀ v' w', RowB w' e v' (S ++ T) → w.grownBy w' v.ownBlock → Nx w v.ownBlock v'.ownBlock → wpList P ops Q rest (a.put o.dst v') w') : wpList P ops Q (o :: rest) a w :=
  wpList_plain hgd fun _ hK => by
    obtain ⟨v', w', hr, h2, h3, h4⟩ := append_next (P := P) (ty := o.type) ht hi hz hsize hby hown b c hb hn
    unfold Oper.wp execOp
    simp only [ho, resolve, invoke, builtin, Sem.run_bind, Sem.run_pure, Result.andThen_ok, List.map_toArray, List.map_cons, List.map_nil, hs, hx, hr]
    exact hK _ _ (h v' w' h2 h3 h4)
end Go.Proofs.YtkmdajenbidaaaaDoor

/- Slices of structs, and structs by value, among a law's parameters: their reading, opened. Plain facts of no type. -/
namespace Go.Proofs.YtkmdajenbidaaaaDoor
open Go.ChangeShapes Go.WideShapes Go.RowKit
section
variable {H : Type} {enc : TypeId × Value → H} {P : Program} {w : World} {base : Nat} {spare : Nat → Bool} {held : Bool}
/-- The cells of each element of a slice that came in. -/
theorem rows_of {t e : TypeId} {a : Option Addr} {len cap c : Nat} {d : DataW H} {p : List MemPlace} (ht : P.underlying t = some (.slice e)) (hc : P.cellsOf e = c) (hc0 : 0 < c)
    (h : DataW.Trod enc P w base (fun _ => true) held t (.slice a len cap) d p) :
    len ≤ maxLen ∧ (len = 0 ∨ ∃ b off, a = some ⟨b, off, none⟩ ∧ ∀ i, i < len → ∃ n x cs, cs.length = c ∧ (∀ j, j < c → w.cell? ⟨b, off + (i * c + j), none⟩ = cs[j]?) ∧ DataW.trod enc P w base (fun _ => true) held n e cs = some x) := by
  obtain ⟨fuel, hf⟩ := h
  rcases Go.Deep.open_slice ht hf with ⟨hcs, _⟩ | ⟨x, n, cp, m, k, D, Pl, hcs, hb, hl, hm, hmm, _, hx⟩
  · simp [Value.cells] at hcs
    obtain ⟨rfl, rfl, rfl⟩ := hcs
    exact ⟨Nat.zero_le _, .inl rfl⟩
  · simp [Value.cells] at hcs
    obtain ⟨rfl, rfl, rfl⟩ := hcs
    have hm' : m = cap := by simpa using hmm
    refine ⟨Nat.le_trans hl hm, ?_⟩
    by_cases h0 : len = 0
    · exact .inl h0
    · right
      obtain ⟨b, off, spot⟩ := x
      have hsp : spot = none := by
        obtain ⟨cs', h1, _⟩ := hx 0 (by omega)
        obtain ⟨_, hlen, hcell⟩ := World.cells?_some h1
        have h2 := hcell 0 (by omega)
        obtain ⟨v, hv⟩ : ∃ v, cs'[0]? = some v := ⟨_, List.getElem?_eq_getElem (by omega)⟩
        rw [hv] at h2
        simpa [Addr.add] using World.cell?_spot h2
      subst hsp
      refine ⟨b, off, rfl, fun i hi => ?_⟩
      obtain ⟨cs', h1, h2⟩ := hx i (by omega)
      obtain ⟨_, hlen, hcell⟩ := World.cells?_some h1
      refine ⟨k, _, cs', by omega, fun j hj => ?_, h2⟩
      have h3 := hcell j (by omega)
      rw [hc, add_plain, add_plain] at h3
      rw [← Nat.add_assoc]
      exact h3
/-- A struct by value. -/
theorem agg_of {r : Reach} {b0 : Nat} {t : TypeId} {fs : Array Field} {v : Value} {d : DataW H} {p : List MemPlace} (ht : P.underlying t = some (.struct fs)) (hv : Value.okWide P w r b0 t v) (h : DataW.Trod enc P w base spare held t v d p) :
    ∃ cs : Array Value, v = .agg cs ∧ ∃ n x, DataW.trod enc P w base spare held n t cs.toList = some x := by
  obtain ⟨cs, rfl, _⟩ := okWide_struct ht hv
  obtain ⟨fuel, hf⟩ := h
  exact ⟨cs, rfl, fuel, _, by simpa [Value.cells] using hf⟩
/-- A field's cells, read. -/
theorem field_of {t : TypeId} {fs : Array Field} {fuel : Nat} {cs : List Value} {x : DataW H × List MemPlace} (ht : P.underlying t = some (.struct fs)) (h : DataW.trod enc P w base spare held fuel t cs = some x) (j : Nat) (e : TypeId) (o c : Nat) (hj : (fs[j]?).map (fun f => (f.type, f.offset)) = some (e, o)) (hc : P.cellsOf e = c) :
    ∃ n y, DataW.trod enc P w base spare held n e ((cs.drop o).take c) = some y := by
  obtain ⟨f, hf1, hf2⟩ := Option.map_eq_some_iff.1 hj
  simp only [Prod.mk.injEq] at hf2
  obtain ⟨rfl, rfl⟩ := hf2
  obtain ⟨xs, n, _, _, _, hlen, hf⟩ := DataW.trod_struct ht h
  have h1 := hf j f hf1
  have hjs : j < fs.size := (Array.getElem?_eq_some_iff.1 hf1).1
  rw [hc] at h1
  exact ⟨n, _, h1.trans (List.getElem?_eq_getElem (by omega))⟩
theorem struct_len {t : TypeId} {fs : Array Field} {fuel : Nat} {cs : List Value} {x : DataW H × List MemPlace} (ht : P.underlying t = some (.struct fs)) (h : DataW.trod enc P w base spare held fuel t cs = some x) : cs.length = P.cellsOf t := by
  obtain ⟨xs, n, _, _, hl, _, _⟩ := DataW.trod_struct ht h
  exact hl
theorem cell_int {e : TypeId} {k : IntKind} {n i : Nat} {cs : List Value} {y : DataW H × List MemPlace} (he : P.underlying e = some (.int k)) (h : DataW.trod enc P w base spare held n e ((cs.drop i).take 1) = some y) : ∃ z, cs[i]? = some (.int k z) ∧ (Lit.int k z).wf = true := by
  obtain ⟨z, hz, _, hw⟩ := DataW.trod_int he h
  refine ⟨z, ?_, hw⟩
  have : ((cs.drop i).take 1)[0]? = some (.int k z) := by rw [hz]; rfl
  simpa using this
theorem cell_str {e : TypeId} {n i : Nat} {cs : List Value} {y : DataW H × List MemPlace} (he : P.underlying e = some .string) (h : DataW.trod enc P w base spare held n e ((cs.drop i).take 1) = some y) : ∃ z : ByteArray, cs[i]? = some (.string z) ∧ z.size ≤ maxLen := by
  obtain ⟨z, hz, _, hw⟩ := DataW.trod_string he h
  refine ⟨z, ?_, hw⟩
  have : ((cs.drop i).take 1)[0]? = some (.string z) := by rw [hz]; rfl
  simpa using this
theorem cell_bool {e : TypeId} {n i : Nat} {cs : List Value} {y : DataW H × List MemPlace} (he : P.underlying e = some .bool) (h : DataW.trod enc P w base spare held n e ((cs.drop i).take 1) = some y) : ∃ z, cs[i]? = some (.bool z) := by
  obtain ⟨z, hz, _⟩ := DataW.trod_bool he h
  refine ⟨z, ?_⟩
  have : ((cs.drop i).take 1)[0]? = some (.bool z) := by rw [hz]; rfl
  simpa using this
end
end Go.Proofs.YtkmdajenbidaaaaDoor

/- Rows of stamps and of layer 9's parts, and stamps by value, among a law's parameters. -/
namespace Go.Proofs.YtkmdajenbidaaaaDoor
open Go.ChangeShapes Go.WideShapes Go.RowKit

theorem Tryd.cInt : Tryd.prog.cellsOf 3 = 1 := by kernel_rfl

theorem Tryd.cStr : Tryd.prog.cellsOf 9 = 1 := by kernel_rfl

theorem choose_list {α : Type} {n : Nat} {R : Nat → α → Prop} (h : ∀ i, i < n → ∃ x, R i x) : ∃ l : List α, l.length = n ∧ ∀ i (hi : i < l.length), R i l[i] := by
  induction n with
  | zero => exact ⟨[], rfl, fun i hi => absurd hi (Nat.not_lt_zero _)⟩
  | succ n ih =>
    obtain ⟨l, hl, hR⟩ := ih (fun i hi => h i (by omega))
    obtain ⟨x, hx⟩ := h n (by omega)
    refine ⟨l ++ [x], by simp [hl], fun i hi => ?_⟩
    by_cases e : i < l.length
    · rw [List.getElem_append_left e]; exact hR i e
    · have : i = n := by simp at hi; omega
      subst this
      rw [List.getElem_append_right (by omega)]
      simpa [hl] using hx

/-- Stamps: the time, and who. -/
def stL (l : List (Int × Int)) (i : Nat) : Int × Int := l.getD i (0, 0)

def StampsAt (w : World) (a : Option Addr) (n : Nat) (l : List (Int × Int)) : Prop :=
  l.length = n ∧ (n = 0 ∨ ∃ b off, a = some ⟨b, off, none⟩ ∧ ∀ i, i < n → w.cell? ⟨b, off + i * 2, none⟩ = some (.int .i64 (stL l i).1) ∧ w.cell? ⟨b, off + i * 2 + 1, none⟩ = some (.int .i64 (stL l i).2))

set_option maxRecDepth 100000 in
theorem stamp_cells {H : Type} {enc : TypeId × Value → H} {w : World} {base : Nat} {spare : Nat → Bool} {held : Bool} {fuel : Nat} {cs : List Value} {x : DataW H × List MemPlace} (h : DataW.trod enc Tryd.prog w base spare held fuel 30 cs = some x) :
    ∃ t u : Int, cs = [.int .i64 t, .int .i64 u] ∧ (Lit.int .i64 t).wf = true ∧ (Lit.int .i64 u).wf = true := by
  have hl := struct_len Tryd.underlying30 h
  obtain ⟨n0, y0, h0⟩ := field_of Tryd.underlying30 h 0 3 0 1 rfl Tryd.cInt
  obtain ⟨n1, y1, h1⟩ := field_of Tryd.underlying30 h 1 3 1 1 rfl Tryd.cInt
  obtain ⟨t, ht, wt⟩ := cell_int Tryd.underlying3 h0
  obtain ⟨u, hu, wu⟩ := cell_int Tryd.underlying3 h1
  rw [show Tryd.prog.cellsOf 30 = 2 by kernel_rfl] at hl
  match cs, hl with
  | [c0, c1], _ =>
    have e0 : c0 = .int .i64 t := by simpa using ht
    have e1 : c1 = .int .i64 u := by simpa using hu
    exact ⟨t, u, by rw [e0, e1], wt, wu⟩

set_option maxRecDepth 100000 in
theorem stamp_of {H : Type} {enc : TypeId × Value → H} {w : World} {base : Nat} {spare : Nat → Bool} {held : Bool} {r : Reach} {b0 : Nat} {v : Value} {d : DataW H} {p : List MemPlace} (hv : Value.okWide Tryd.prog w r b0 30 v) (h : DataW.Trod enc Tryd.prog w base spare held 30 v d p) :
    ∃ t u : Int, v = .agg #[.int .i64 t, .int .i64 u] ∧ (Lit.int .i64 t).wf = true ∧ (Lit.int .i64 u).wf = true := by
  obtain ⟨cs, rfl, n, x, hx⟩ := agg_of Tryd.underlying30 hv h
  obtain ⟨t, u, hc, wt, wu⟩ := stamp_cells hx
  refine ⟨t, u, ?_, wt, wu⟩
  congr 1
  exact Array.toList_inj.1 hc

theorem ints_of {H : Type} {enc : TypeId × Value → H} {w : World} {base : Nat} {held : Bool} {a : Option Addr} {len cap : Nat} {d : DataW H} {p : List MemPlace} (h : DataW.Trod enc Tryd.prog w base (fun _ => true) held 23 (.slice a len cap) d p) :
    ∃ l, IntsAt w .i64 a len l ∧ len ≤ maxLen ∧ ∀ q ∈ l, (Lit.int .i64 q).wf = true := by
  obtain ⟨fuel, hf⟩ := h
  rcases open_ints Tryd.underlying23 Tryd.underlying3 (by kernel_rfl) hf with ⟨hcs, _⟩ | ⟨x, l, c, zs, hcs, _, hl, hm, hz, _, hcell, hwz⟩
  · simp [Value.cells] at hcs
    obtain ⟨rfl, rfl, rfl⟩ := hcs
    exact ⟨[], ⟨rfl, .inl rfl⟩, Nat.zero_le _, fun q hq => by cases hq⟩
  · simp [Value.cells] at hcs
    obtain ⟨rfl, rfl, rfl⟩ := hcs
    have hr := ints_row (w := w) (K := .i64) (len := len) (cap := cap) (zs := zs) (.inr ⟨_, rfl, hl, hm, by simpa using hz, hcell, hwz⟩)
    exact ⟨zs.take len, hr.2, hr.1, fun q hq => hwz q (List.mem_of_mem_take hq)⟩

/-- Parts: the kind, two numbers, a text. -/
def ptL (l : List (Int × Int × Int × ByteArray)) (i : Nat) : Int × Int × Int × ByteArray := l.getD i (0, 0, 0, ByteArray.empty)

def PartsAt (w : World) (a : Option Addr) (n : Nat) (l : List (Int × Int × Int × ByteArray)) : Prop :=
  l.length = n ∧ (n = 0 ∨ ∃ b off, a = some ⟨b, off, none⟩ ∧ ∀ i, i < n → w.cell? ⟨b, off + i * 4, none⟩ = some (.int .i64 (ptL l i).1) ∧ w.cell? ⟨b, off + i * 4 + 1, none⟩ = some (.int .i64 (ptL l i).2.1) ∧ w.cell? ⟨b, off + i * 4 + 2, none⟩ = some (.int .i64 (ptL l i).2.2.1) ∧ w.cell? ⟨b, off + i * 4 + 3, none⟩ = some (.string (ptL l i).2.2.2))

def PartOk (q : Int × Int × Int × ByteArray) : Prop := (Lit.int .i64 q.1).wf = true ∧ (Lit.int .i64 q.2.1).wf = true ∧ (Lit.int .i64 q.2.2.1).wf = true ∧ q.2.2.2.size ≤ maxLen

end Go.Proofs.YtkmdajenbidaaaaDoor

/- '==' of structs. Plain facts. -/
namespace Go.Proofs.YtkmdajenbidaaaaDoor
open Go.RowKit
set_option maxRecDepth 100000
set_option linter.unusedSimpArgs false

theorem stampEq (a b c d : Int) (w : World) : (Op.equalIn 10000 30 (.agg #[.int .i64 a, .int .i64 b]) (.agg #[.int .i64 c, .int .i64 d])).run Tryd.prog w = .ok (decide ((a, b) = (c, d))) w := by
  have u3 := Tryd.underlying3
  have a3 := Tryd.isAgg3
  have z3 := Tryd.sizeOf3
  rw [show (10000 : Nat) = 9999 + 1 from rfl, Op.equalIn]
  simp only [Sem.run_bind, run_underlying Tryd.underlying30, Result.andThen_ok]
  go_simp
  by_cases h1 : a = c <;> by_cases h2 : b = d <;> simp [h1, h2]

theorem txt_iff (s t : ByteArray) : (s.toList = t.toList) = (s = t) := propext ⟨fun e => bytes_ext (by rw [toList_data, toList_data] at e; exact e), fun e => by rw [e]⟩

theorem ite_ok {p : Prop} [Decidable p] {q : Bool} {w : World} : (if p then Result.ok q w else Result.ok false w) = Result.ok (decide p && q) w := by
  by_cases h : p <;> simp [h]

/-- A node on plain data: its number, its parent, its name, its value. -/
def nodeA (n : (Int × Int) × (Int × Int) × ByteArray × ByteArray) : Array Value := #[.int .i64 n.1.1, .int .i64 n.1.2, .int .i64 n.2.1.1, .int .i64 n.2.1.2, .string n.2.2.1, .string n.2.2.2]

/-- An operation on plain data: its kind, its stamp, its node, its parent, its name, its value. -/
def opA (o : Int × (Int × Int) × (Int × Int) × (Int × Int) × ByteArray × ByteArray) : Array Value := #[.int .i64 o.1, .int .i64 o.2.1.1, .int .i64 o.2.1.2, .int .i64 o.2.2.1.1, .int .i64 o.2.2.1.2, .int .i64 o.2.2.2.1.1, .int .i64 o.2.2.2.1.2, .string o.2.2.2.2.1, .string o.2.2.2.2.2]

set_option maxRecDepth 100000 in
set_option maxHeartbeats 1000000 in
theorem opEq (x y : Int × (Int × Int) × (Int × Int) × (Int × Int) × ByteArray × ByteArray) (w : World) : (Op.equalIn 10000 32 (.agg (opA x)) (.agg (opA y))).run Tryd.prog w = .ok (decide (x = y)) w := by
  obtain ⟨k, ⟨a, b⟩, ⟨c, d⟩, ⟨e, f⟩, s, t⟩ := x
  obtain ⟨k', ⟨a', b'⟩, ⟨c', d'⟩, ⟨e', f'⟩, s', t'⟩ := y
  have u3 := Tryd.underlying3
  have a3 := Tryd.isAgg3
  have z3 := Tryd.sizeOf3
  have u9 := Tryd.underlying9
  have a9 := Tryd.isAgg9
  have z9 := Tryd.sizeOf9
  unfold opA
  rw [show (10000 : Nat) = 9999 + 1 from rfl, Op.equalIn]
  simp only [Sem.run_bind, run_underlying Tryd.underlying32, Result.andThen_ok]
  go_simp
  simp only [txt_iff, ite_ok, Bool.and_true, Bool.and_assoc]

end Go.Proofs.YtkmdajenbidaaaaDoor

/- Rows of structs: read; of the call's own, with more behind. Plain facts. -/
namespace Go.Proofs.YtkmdajenbidaaaaDoor
open Go.RowKit
set_option maxRecDepth 100000
set_option linter.unusedSimpArgs false

/-- A slice of n structs of c cells each, that can be read. -/
def RowsAt (w : World) (a : Option Addr) (n c : Nat) (f : Nat → Array Value) : Prop :=
  n = 0 ∨ ∃ b off, a = some ⟨b, off, none⟩ ∧ ∀ i, i < n → ∀ j, j < c → ∃ v, (f i)[j]? = some v ∧ w.cell? ⟨b, off + i * c + j, none⟩ = some v

theorem RowsAt.below {w w' : World} {a : Option Addr} {n c B : Nat} {f : Nat → Array Value} (h : RowsAt w a n c f) (hB : w.heap.size ≤ B) (hb : Below B w w') : RowsAt w' a n c f := by
  rcases h with h0 | ⟨b, off, ha, hc⟩
  · exact .inl h0
  · refine .inr ⟨b, off, ha, fun i hi j hj => ?_⟩
    obtain ⟨v, h1, h2⟩ := hc i hi j hj
    exact ⟨v, h1, by rw [hb.cell (Nat.lt_of_lt_of_le (World.block_lt_of_cell? w _ h2) hB)]; exact h2⟩

theorem RowsAt.some {w : World} {a : Option Addr} {n c : Nat} {f : Nat → Array Value} (h : RowsAt w a n c f) (hn : 0 < n) : ∃ b off, a = .some ⟨b, off, none⟩ ∧ ∀ i, i < n → ∀ j, j < c → ∃ v, (f i)[j]? = .some v ∧ w.cell? ⟨b, off + i * c + j, none⟩ = .some v := by
  rcases h with h0 | h
  · omega
  · exact h

/-- One struct appended to a row of the call's own, in a plain region. -/
theorem wpList_appR {P : Program} {ops : Array Oper} {rest : List Oper} {o : Oper} {a : Act} {Q : Exit → Act → World → Prop} (hgd : o.guard = none) (s x : Operand) (t : TypeId)
    (ho : o.op = .call { callee := .builtin .append, args := #[s, x], argTypes := #[t, t] })
    (B : Nat) (e : TypeId) (i : TypeInfo) (z : Value) (c bytes : Nat) (ht : P.underlying t = some (.slice e)) (hi : P.info? e = some i) (hz : i.zero = some z) (hsize : i.size = c) (hby : i.bytes = bytes) (hzs : z.cells.size = c) (hc : 0 < c)
    (W : World) (v : Value) (n : Nat) (xs : List Value) (hs : a.eval s = v) (hown : W.ownsRow B e c v n xs) (cs : Array Value) (hcs : cs.size = c) (h1 : ∀ u ∈ cs.toList, u.oneCell' = true) (hx : a.eval x = .slice (some ⟨W.heap.size, 0, none⟩) 1 1)
    (hn : (n + 1) * bytes ≤ 140737488355328) (hn' : n + 1 ≤ maxLen) (hB : B ≤ W.heap.size)
    (h : ∀ v' w', w'.ownsRow B e c v' (n + 1) (xs ++ cs.toList) → Below B W w' → wpList P ops Q rest (a.put o.dst v') w') :
    wpList P ops Q (o :: rest) a (W.alloc (.cells cs e)) := by
  refine wpList_append_own _ hgd s x t ho B e i z c bytes ht hi hz hsize hby hzs hc v n _ hs (World.ownsRow.alloc hown _) ⟨W.heap.size, 0, none⟩ 1 1 cs.toList hx (by simp [hcs]) ?_ h1 hn' hn (by simp; omega) ?_
  · intro j u hj
    rw [Go.WideShapes.add_plain, Nat.zero_add, cell_of_row _ _ _ cs e (0, 0) (heap_alloc_last W _)]
    simpa using hj
  · intro v' w' h1 h2 _
    exact h v' w' h1 (((Below.refl B W).alloc hB _).grown h2 (by simp; omega) (fun k hk => (World.ownsRow.lt hown k hk).1))

/-- The same, with all that was there but the row. -/
theorem wpList_appR2 {P : Program} {ops : Array Oper} {rest : List Oper} {o : Oper} {a : Act} {Q : Exit → Act → World → Prop} (hgd : o.guard = none) (s x : Operand) (t : TypeId)
    (ho : o.op = .call { callee := .builtin .append, args := #[s, x], argTypes := #[t, t] })
    (B : Nat) (e : TypeId) (i : TypeInfo) (z : Value) (c bytes : Nat) (ht : P.underlying t = some (.slice e)) (hi : P.info? e = some i) (hz : i.zero = some z) (hsize : i.size = c) (hby : i.bytes = bytes) (hzs : z.cells.size = c) (hc : 0 < c)
    (W : World) (v : Value) (n : Nat) (xs : List Value) (hs : a.eval s = v) (hown : W.ownsRow B e c v n xs) (cs : Array Value) (hcs : cs.size = c) (h1 : ∀ u ∈ cs.toList, u.oneCell' = true) (hx : a.eval x = .slice (some ⟨W.heap.size, 0, none⟩) 1 1)
    (hn : (n + 1) * bytes ≤ 140737488355328) (hn' : n + 1 ≤ maxLen) (hB : B ≤ W.heap.size)
    (h : ∀ v' w', w'.ownsRow B e c v' (n + 1) (xs ++ cs.toList) → (W.alloc (.cells cs e)).grownBy w' v.ownBlock → wpList P ops Q rest (a.put o.dst v') w') :
    wpList P ops Q (o :: rest) a (W.alloc (.cells cs e)) := by
  refine wpList_append_own _ hgd s x t ho B e i z c bytes ht hi hz hsize hby hzs hc v n _ hs (World.ownsRow.alloc hown _) ⟨W.heap.size, 0, none⟩ 1 1 cs.toList hx (by simp [hcs]) ?_ h1 hn' hn (by simp; omega) ?_
  · intro j u hj
    rw [Go.WideShapes.add_plain, Nat.zero_add, cell_of_row _ _ _ cs e (0, 0) (heap_alloc_last W _)]
    simpa using hj
  · intro v' w' h1 h2 _
    exact h v' w' h1 h2

theorem Blk.grown {w w' : World} {t : TypeId} {g : Nat} {r : Option Nat} {cs : Array Value} (h : Blk w t g cs) (k : w.grownBy w' r) (hr : some g ≠ r) : Blk w' t g cs := by
  unfold Blk; rw [k.block g h.lt hr]; exact h

theorem rows_of_owns {w : World} {B n c : Nat} {e : TypeId} {v : Value} {xs : List Value} {f : Nat → Array Value} (h : w.ownsRow B e c v n xs) (hf : ∀ i, i < n → ∀ j, j < c → ∃ u, (f i)[j]? = some u ∧ xs[i * c + j]? = some u) : ∃ a cap, v = .slice a n cap ∧ RowsAt w a n c f := by
  rcases h.2 with ⟨rfl, rfl⟩ | ⟨g, cap, cur, rfl, r⟩
  · exact ⟨none, 0, rfl, .inl rfl⟩
  · refine ⟨some ⟨g, 0, none⟩, cap, rfl, .inr ⟨g, 0, rfl, fun i hi j hj => ?_⟩⟩
    obtain ⟨u, h1, h2⟩ := hf i hi j hj
    refine ⟨u, h1, ?_⟩
    have hlt : i * c + j < n * c := by
      have : (i + 1) * c ≤ n * c := Nat.mul_le_mul_right _ (by omega)
      rw [Nat.add_mul, Nat.one_mul] at this; omega
    rw [Nat.zero_add, World.ownsRow.cellAt (⟨h.1, .inr ⟨g, cap, cur, rfl, r⟩⟩ : w.ownsRow B e c (.slice (some ⟨g, 0, none⟩) n cap) n xs) (i * c + j) hlt]
    exact h2

/-- A row of the call's own is the same in every world that has its block as it was. -/
theorem owns_same {w w' : World} {B n c : Nat} {e : TypeId} {v : Value} {xs : List Value} (h : w.ownsRow B e c v n xs) (hb : ∀ k, v.ownBlock = some k → w'.heap[k]? = w.heap[k]?) : w'.ownsRow B e c v n xs := by
  obtain ⟨hl, h | ⟨g, cap, cur, rfl, hB, hc, r⟩⟩ := h
  · exact ⟨hl, .inl h⟩
  · exact ⟨hl, .inr ⟨g, cap, cur, rfl, hB, by rw [hb g rfl]; exact hc, r⟩⟩

theorem owns_on {w w' : World} {B n c : Nat} {e : TypeId} {v : Value} {xs : List Value} (h : w.ownsRow B e c v n xs) (hb : Below w.heap.size w w') : w'.ownsRow B e c v n xs :=
  owns_same h (fun k hk => hb.block k (World.ownsRow.lt h k hk).2)

theorem owns_kept {w w' : World} {B n c g : Nat} {r : Option Nat} {e : TypeId} {v : Value} {xs : List Value} (h : w.ownsRow B e c v n xs) (k : Kept2 g r w w') (hg : g < B) (hr : ∀ j, r = some j → j < B) : w'.ownsRow B e c v n xs :=
  owns_same h (fun j hj => k.block j (World.ownsRow.lt h j hj).2 (by have := (World.ownsRow.lt h j hj).1; omega) (fun e => by have := (World.ownsRow.lt h j hj).1; have := hr j e.symm; omega))

theorem owns_set {w : World} {B n c : Nat} {e : TypeId} {v : Value} {xs : List Value} (h : w.ownsRow B e c v n xs) (p : Addr) (hp : p.block < B) (u : Value) : (w.setCell p u).ownsRow B e c v n xs :=
  owns_same h (fun j hj => Below.heap_setCell w p u j (by have := (World.ownsRow.lt h j hj).1; omega))

theorem owns_less {w : World} {B B' n c : Nat} {e : TypeId} {v : Value} {xs : List Value} (h : w.ownsRow B e c v n xs) (hb : B' ≤ B) : w.ownsRow B' e c v n xs := by
  obtain ⟨hl, h | ⟨g, cap, cur, hv, hB, r⟩⟩ := h
  · exact ⟨hl, .inl h⟩
  · exact ⟨hl, .inr ⟨g, cap, cur, hv, Nat.le_trans hb hB, r⟩⟩

/-- Stamps of the call's own. -/
def stampA (s : Int × Int) : Array Value := #[.int .i64 s.1, .int .i64 s.2]

def cellsS (l : List (Int × Int)) : List Value := l.flatMap (fun x => (stampA x).toList)

theorem cellsS_at (l : List (Int × Int)) : ∀ i, i < l.length → ∀ j, j < 2 → ∃ u, (stampA (stL l i))[j]? = some u ∧ (cellsS l)[i * 2 + j]? = some u := by
  induction l with
  | nil => intro i hi; exact absurd hi (Nat.not_lt_zero _)
  | cons x l ih =>
    intro i hi j hj
    have hs : (stampA x).toList.length = 2 := rfl
    cases i with
    | zero =>
      refine ⟨(stampA x)[j]'(by show j < 2; exact hj), ?_, ?_⟩
      · show (stampA x)[j]? = _
        exact Array.getElem?_eq_getElem _
      · show ((stampA x).toList ++ cellsS l)[0 * 2 + j]? = _
        rw [Nat.zero_mul, Nat.zero_add, List.getElem?_append_left (by rw [hs]; exact hj), Array.getElem?_toList]
        exact Array.getElem?_eq_getElem _
    | succ i =>
      obtain ⟨u, h1, h2⟩ := ih i (by simp at hi; omega) j hj
      refine ⟨u, ?_, ?_⟩
      · have : stL (x :: l) (i + 1) = stL l i := rfl
        rw [this]; exact h1
      · show ((stampA x).toList ++ cellsS l)[(i + 1) * 2 + j]? = _
        rw [List.getElem?_append_right (by rw [hs]; omega), hs, show (i + 1) * 2 + j - 2 = i * 2 + j by omega]
        exact h2

theorem cellsS_snoc (l : List (Int × Int)) (x : Int × Int) : cellsS (l ++ [x]) = cellsS l ++ (stampA x).toList := by
  unfold cellsS
  rw [List.flatMap_append]
  simp

def OwnS (w : World) (B : Nat) (v : Value) (l : List (Int × Int)) : Prop := w.ownsRow B 30 2 v l.length (cellsS l)
theorem OwnS.nil (w : World) (B : Nat) : OwnS w B (.slice none 0 0) [] := World.ownsRow_nil _ _ _ _
theorem OwnS.stamps {w : World} {B : Nat} {v : Value} {l : List (Int × Int)} (h : OwnS w B v l) : ∃ a cap, v = .slice a l.length cap ∧ StampsAt w a l.length l := by
  obtain ⟨a, cap, hv, hr⟩ := rows_of_owns h (cellsS_at l)
  refine ⟨a, cap, hv, rfl, ?_⟩
  rcases hr with h0 | ⟨b, off, ha, hc⟩
  · exact .inl h0
  · refine .inr ⟨b, off, ha, fun i hi => ?_⟩
    obtain ⟨u, h1, h2⟩ := hc i hi 0 (by decide)
    obtain ⟨u', h3, h4⟩ := hc i hi 1 (by decide)
    exact ⟨by rw [show off + i * 2 = off + i * 2 + 0 from rfl, h2, ← h1]; rfl, by rw [h4, ← h3]; rfl⟩

theorem Tryd.infoStamp : (Tryd.prog.info? 30).map (fun i => (i.zero, i.size, i.bytes)) = some (some (.agg #[.int .i64 0, .int .i64 0]), 2, 16) := by kernel_rfl

theorem stampA_one (x : Int × Int) : ∀ u ∈ (stampA x).toList, u.oneCell' = true := by
  intro u hu
  simp [stampA] at hu
  rcases hu with rfl | rfl <;> rfl

theorem grown_set (w : World) (g j : Nat) (v : Value) : w.grownBy (w.setCell ⟨g, j, none⟩ v) (some g) :=
  ⟨rfl, rfl, rfl, by simp [World.setCell], fun k _ hk => Below.heap_setCell w ⟨g, j, none⟩ v k (fun e => hk (by rw [e]))⟩

theorem grown_setRow (w : World) (g : Nat) (cs : Array Value) : w.grownBy (w.setRow g cs) (some g) :=
  ⟨rfl, rfl, rfl, by simp [World.setRow], fun k _ hk => setRow_other w g k cs (fun e => hk (by rw [e]))⟩

theorem grown_drew (w : World) (row : Option Nat) : w.grownBy w.drew row := ⟨rfl, rfl, rfl, Nat.le_refl _, fun _ _ _ => rfl⟩

end Go.Proofs.YtkmdajenbidaaaaDoor

/- Rows of the call's own, with the elements of another row behind; guarded too. Plain facts. -/
namespace Go.Proofs.YtkmdajenbidaaaaDoor
open Go.ChangeShapes Go.WideShapes Go.RowKit
set_option linter.unusedSimpArgs false

theorem wpList_want {P : Program} {ops : Array Oper} {rest : List Oper} {o : Oper} {a : Act} {w : World} {Q : Exit → Act → World → Prop} (hw : Region.wanted o (yielded ops a.tmps) = true)
    (h : ∀ K : Act → World → Prop, (∀ a w, wpList P ops Q rest a w → K a w) → o.wp P a w K Q) : wpList P ops Q (o :: rest) a w :=
  wpList_step fun K hK => by rw [if_pos hw]; exact h K hK

/-- A row that is put behind another: nil, or its cells. -/
def SrcAt (w : World) (src : Value) (m : Nat) (news : List Value) : Prop := (src = .slice none 0 0 ∧ m = 0 ∧ news = []) ∨ ∃ ad c, src = .slice (some ad) m c ∧ ∀ j u, news[j]? = some u → w.cell? (ad.add j) = some u

theorem wpList_appW {P : Program} {ops : Array Oper} {rest : List Oper} {o : Oper} {a : Act} {w : World} {Q : Exit → Act → World → Prop} (hw : Region.wanted o (yielded ops a.tmps) = true) (s x : Operand) (t : TypeId)
    (ho : o.op = .call { callee := .builtin .append, args := #[s, x], argTypes := #[t, t] })
    (base : Nat) (e : TypeId) (i : TypeInfo) (z : Value) (size bytes : Nat) (ht : P.underlying t = some (.slice e)) (hi : P.info? e = some i) (hz : i.zero = some z)
    (hsize : i.size = size) (hby : i.bytes = bytes) (hzs : z.cells.size = size) (hsz : 0 < size)
    (v : Value) (n : Nat) (xs : List Value) (hs : a.eval s = v) (hown : w.ownsRow base e size v n xs)
    (src : Value) (m : Nat) (news : List Value) (hx : a.eval x = src) (hsrc : SrcAt w src m news) (hl : news.length = m * size) (h1 : ∀ u ∈ news, u.oneCell' = true)
    (h63 : n + m ≤ maxLen) (hbytes : (n + m) * bytes ≤ 140737488355328) (hbase : base ≤ w.heap.size)
    (h : ∀ v' w', w'.ownsRow base e size v' (n + m) (xs ++ news) → w.grownBy w' v.ownBlock → wpList P ops Q rest (a.put o.dst v') w') : wpList P ops Q (o :: rest) a w := by
  rcases hsrc with ⟨rfl, rfl, rfl⟩ | ⟨ad, c, rfl, hnews⟩
  · refine wpList_want hw fun K hK => ?_
    have hrun := run_append_owned_none (P := P) (w := w) base t o.type e i size ht hi v n xs hown
    unfold Oper.wp
    simp [execOp, ho, resolve, invoke, builtin, hs, hx, hrun, Result.andThen]
    exact hK _ _ (h v w (by rw [List.append_nil]; exact hown) ⟨rfl, rfl, rfl, Nat.le_refl _, fun _ _ _ => rfl⟩)
  · exact wpList_want hw fun _ hK => wp_append_own w s x t ho base e i z size bytes ht hi hz hsize hby hzs hsz v n xs hs hown ad m c news hx hl hnews h1 h63 hbytes hbase fun v' w' h2 h3 _ => hK _ _ (h v' w' h2 h3)

/-- A slice that came in: nil, or an address, and no more than its capacity. -/
def SliceOk (a : Option Addr) (len cap : Nat) : Prop := (a = none ∧ len = 0 ∧ cap = 0) ∨ ∃ x, a = some x ∧ len ≤ cap

theorem SliceOk.cap {a : Option Addr} {len cap : Nat} (h : SliceOk a len cap) : len ≤ cap := by
  rcases h with ⟨_, rfl, rfl⟩ | ⟨_, _, h⟩
  · exact Nat.le_refl _
  · exact h

theorem slice_of {H : Type} {enc : TypeId × Value → H} {P : Program} {w : World} {base : Nat} {held : Bool} {t e : TypeId} {a : Option Addr} {len cap : Nat} {d : DataW H} {p : List MemPlace} (ht : P.underlying t = some (.slice e))
    (h : DataW.Trod enc P w base (fun _ => true) held t (.slice a len cap) d p) : SliceOk a len cap := by
  obtain ⟨fuel, hf⟩ := h
  rcases Go.Deep.open_slice ht hf with ⟨hcs, _⟩ | ⟨x, n, cp, m, k, D, Pl, hcs, hb, hl, hm, hmm, _, hx⟩
  · simp [Value.cells] at hcs
    exact .inl hcs
  · simp [Value.cells] at hcs
    obtain ⟨rfl, rfl, rfl⟩ := hcs
    exact .inr ⟨_, rfl, hl⟩

theorem cellsS_len (l : List (Int × Int)) : (cellsS l).length = l.length * 2 := by
  induction l with
  | nil => rfl
  | cons x l ih =>
    show ((stampA x).toList ++ cellsS l).length = _
    rw [List.length_append, ih, List.length_cons]
    show 2 + _ = _
    omega

theorem cellsS_one (l : List (Int × Int)) : ∀ u ∈ cellsS l, u.oneCell' = true := by
  intro u hu
  unfold cellsS at hu
  obtain ⟨x, _, hx⟩ := List.mem_flatMap.1 hu
  exact stampA_one x u hx

theorem stamps_src {w : World} {a : Option Addr} {n c : Nat} {l : List (Int × Int)} (hk : SliceOk a n c) (h : StampsAt w a n l) : SrcAt w (.slice a n c) n (cellsS l) := by
  rcases hk with ⟨rfl, rfl, rfl⟩ | ⟨x, rfl, hc⟩
  · refine .inl ⟨rfl, rfl, ?_⟩
    have := h.1
    rw [List.length_eq_zero_iff.1 this]; rfl
  · refine .inr ⟨x, c, rfl, fun j u hj => ?_⟩
    have hjl := (List.getElem?_eq_some_iff.1 hj).1
    rw [cellsS_len] at hjl
    have hln := h.1
    obtain ⟨b, off, hx, hcl⟩ : ∃ b off, some x = some ⟨b, off, none⟩ ∧ ∀ i, i < n → w.cell? ⟨b, off + i * 2, none⟩ = some (.int .i64 (stL l i).1) ∧ w.cell? ⟨b, off + i * 2 + 1, none⟩ = some (.int .i64 (stL l i).2) := by
      rcases h.2 with h0 | h2
      · omega
      · exact h2
    cases hx
    have hi : j / 2 < l.length := by omega
    obtain ⟨u', h1, h2⟩ := cellsS_at l (j / 2) hi (j % 2) (by omega)
    rw [show j / 2 * 2 + j % 2 = j by omega, hj] at h2
    cases h2
    obtain ⟨c0, c1⟩ := hcl (j / 2) (by omega)
    rw [add_plain]
    rcases (show j % 2 = 0 ∨ j % 2 = 1 by omega) with e | e
    · rw [show off + j = off + j / 2 * 2 by omega, c0, ← h1, e]; rfl
    · rw [show off + j = off + j / 2 * 2 + 1 by omega, c1, ← h1, e]; rfl

theorem ints_src {w : World} {a : Option Addr} {n c : Nat} {l : List Int} (hk : SliceOk a n c) (h : IntsAt w .i64 a n l) : SrcAt w (.slice a n c) n (l.map (Value.int .i64)) := by
  rcases hk with ⟨rfl, rfl, rfl⟩ | ⟨x, rfl, hc⟩
  · refine .inl ⟨rfl, rfl, ?_⟩
    have := h.1
    rw [List.length_eq_zero_iff.1 this]; rfl
  · refine .inr ⟨x, c, rfl, fun j u hj => ?_⟩
    rw [List.getElem?_map] at hj
    obtain ⟨z, hz, rfl⟩ := Option.map_eq_some_iff.1 hj
    have hjl := (List.getElem?_eq_some_iff.1 hz).1
    have hln := h.1
    rcases h.2 with h0 | ⟨b, off, hx, hcl⟩
    · omega
    · cases hx
      rw [add_plain, hcl j (by omega), List.getD_eq_getElem?_getD, hz]; rfl

/-- One more of it, new. -/
theorem new_src {w : World} {t : TypeId} {g c : Nat} {cs : Array Value} (h : Blk w t g cs) (n : Nat) : SrcAt w (.slice (some ⟨g, 0, none⟩) n c) n cs.toList := by
  refine .inr ⟨_, _, rfl, fun j u hj => ?_⟩
  rw [add_plain, Nat.zero_add, h.cell j]
  simpa using hj

theorem ints_own {w : World} {B : Nat} {e : TypeId} {v : Value} {n : Nat} {l : List Int} (h : OwnV w B e .i64 v n l) : ∃ a cap, v = .slice a n cap ∧ IntsAt w .i64 a n l ∧ n ≤ cap := by
  have hlen := h.len
  rcases h.2 with ⟨rfl, h0⟩ | ⟨g, cap, cur, rfl, h2⟩
  · exact ⟨none, 0, by rw [h0], ⟨hlen, .inl h0⟩, by omega⟩
  · refine ⟨some ⟨g, 0, none⟩, cap, rfl, ⟨hlen, ?_⟩, ?_⟩
    · by_cases h0 : n = 0
      · exact .inl h0
      · refine .inr ⟨g, 0, rfl, fun i hi => ?_⟩
        rw [Nat.zero_add, World.ownsRow.cellAt h i (by omega), List.getElem?_map, List.getD_eq_getElem?_getD, List.getElem?_eq_getElem (by omega)]
        rfl
    · obtain ⟨_, _, hnc, _⟩ := h2
      exact hnc

theorem Tryd.infoInt : (Tryd.prog.info? 3).map (fun i => (i.zero, i.size, i.bytes)) = some (some (.int .i64 0), 1, 8) := by kernel_rfl

end Go.Proofs.YtkmdajenbidaaaaDoor
