import Derived.Test.YtabhkebkbidfhaaGreatDoorG
import Derived.Deep.Slices
import Derived.Lib.SmallJoins
import Derived.OpenShut
import Derived.ProofKit
import Derived.Test.YtabhkebkbidfhaaGreatDoorL1
import Derived.Laws.AppendOwnNone
/- Rows of texts: plain facts. -/
namespace Go.Proofs.YtabhkebkbidfhaaGreatDoor
open Go.RowKit
set_option maxRecDepth 100000
set_option linter.unusedSimpArgs false

def strL (l : List ByteArray) (i : Nat) : ByteArray := l.getD i ⟨#[]⟩
/-- A slice of n texts that can be read. -/
def StrsAt (w : World) (a : Option Addr) (n : Nat) (l : List ByteArray) : Prop :=
  l.length = n ∧ (n = 0 ∨ ∃ b off, a = some ⟨b, off, none⟩ ∧ ∀ i, i < n → w.cell? ⟨b, off + i, none⟩ = some (.string (strL l i)))
theorem StrsAt.below {w w' : World} {a : Option Addr} {n : Nat} {l : List ByteArray} (h : StrsAt w a n l) (hb : Below w.heap.size w w') : StrsAt w' a n l := by
  refine ⟨h.1, ?_⟩
  rcases h.2 with h0 | ⟨b, off, ha, hc⟩
  · exact .inl h0
  · refine .inr ⟨b, off, ha, fun i hi => ?_⟩
    have h1 := hc i hi
    have hlt := World.block_lt_of_cell? w _ h1
    rw [hb.cell (p := ⟨b, off + i, none⟩) hlt]; exact h1
theorem StrsAt.some {w : World} {a : Option Addr} {n : Nat} {l : List ByteArray} (h : StrsAt w a n l) (hn : 0 < n) : ∃ b off, a = .some ⟨b, off, none⟩ ∧ ∀ i, i < n → w.cell? ⟨b, off + i, none⟩ = .some (.string (strL l i)) := by
  rcases h.2 with h0 | h
  · omega
  · exact h
theorem beq_texts (a b : ByteArray) : (a.toList == b.toList) = decide (a = b) := by
  by_cases h : a = b
  · subst h; simp
  · have : ¬ a.toList = b.toList := fun e => h (bytes_ext (by rw [toList_data, toList_data] at e; exact e))
    simp [h, this]
end Go.Proofs.YtabhkebkbidfhaaGreatDoor

/- An object of the call's own at block g, a row r of its own besides: what a method leaves as it was. Append to such a row. Plain facts. -/
namespace Go.Proofs.YtabhkebkbidfhaaGreatDoor
open Go.RowKit
set_option maxRecDepth 100000
set_option linter.unusedSimpArgs false

/-- Of what was there only block g and the row r may have turned. -/
structure Kept2 (g : Nat) (r : Option Nat) (w w' : World) : Prop where
  os : w'.os = w.os
  tape : w'.tape = w.tape
  output : w'.output = w.output
  size : w.heap.size ≤ w'.heap.size
  block : ∀ k, k < w.heap.size → k ≠ g → some k ≠ r → w'.heap[k]? = w.heap[k]?
/-- A row that follows another: the same one, or a new one. -/
def Nx (w : World) (r r' : Option Nat) : Prop := ∀ k, r' = some k → r = some k ∨ w.heap.size ≤ k
theorem Nx.refl (w : World) (r : Option Nat) : Nx w r r := fun _ h => Or.inl h
theorem Nx.none (w : World) (r : Option Nat) : Nx w r Option.none := fun _ h => by cases h
theorem Nx.trans {a b : World} {r r1 r2 : Option Nat} (h1 : Nx a r r1) (hs : a.heap.size ≤ b.heap.size) (h2 : Nx b r1 r2) : Nx a r r2 := fun k hk => by
  rcases h2 k hk with h | h
  · exact h1 k h
  · exact Or.inr (by omega)
theorem Nx.ne {w : World} {r r' : Option Nat} (h : Nx w r r') {c : Nat} (hc : c < w.heap.size) (hr : some c ≠ r) : some c ≠ r' := fun e => by
  rcases h c e.symm with h' | h'
  · exact hr h'.symm
  · omega
theorem Kept2.refl (g : Nat) (r : Option Nat) (w : World) : Kept2 g r w w := ⟨rfl, rfl, rfl, Nat.le_refl _, fun _ _ _ _ => rfl⟩
theorem Kept2.trans {g : Nat} {r r' : Option Nat} {a b c : World} (h1 : Kept2 g r a b) (h2 : Kept2 g r' b c) (hn : Nx a r r') : Kept2 g r a c :=
  ⟨h2.os.trans h1.os, h2.tape.trans h1.tape, h2.output.trans h1.output, Nat.le_trans h1.size h2.size, fun k hk hg hr =>
    (h2.block k (Nat.lt_of_lt_of_le hk h1.size) hg (hn.ne hk hr)).trans (h1.block k hk hg hr)⟩
theorem Kept2.ofBelow {w w' : World} (g : Nat) (r : Option Nat) (h : Below w.heap.size w w') : Kept2 g r w w' := ⟨h.os, h.tape, h.output, h.size, fun k hk _ _ => h.block k hk⟩
theorem Kept2.ofGrown {w w' : World} (g : Nat) {r : Option Nat} (h : w.grownBy w' r) : Kept2 g r w w' := ⟨h.os, h.tape, h.output, h.size, fun k hk _ hr => h.block k hk hr⟩
theorem Kept2.setCell {g : Nat} {r : Option Nat} {a w : World} (h : Kept2 g r a w) (p : Addr) (hp : p.block = g) (u : Value) : Kept2 g r a (w.setCell p u) :=
  ⟨h.os, h.tape, h.output, by have := h.size; simpa [World.setCell] using this, fun k hk hg hr => by rw [Below.heap_setCell w p u k (by omega)]; exact h.block k hk hg hr⟩
theorem Kept2.setRow {g : Nat} {r : Option Nat} {a w : World} (h : Kept2 g r a w) (cs : Array Value) : Kept2 g r a (w.setRow g cs) :=
  ⟨h.os, h.tape, h.output, by have := h.size; simpa [World.setRow] using this, fun k hk hg hr => by rw [setRow_other w g k cs hg]; exact h.block k hk hg hr⟩
theorem Kept2.below {g : Nat} {r : Option Nat} {w w' : World} (h : Kept2 g r w w') (B : Nat) (hB : B ≤ w.heap.size) (hg : B ≤ g) (hr : ∀ k, r = some k → B ≤ k) : Below B w w' :=
  ⟨h.os, h.tape, h.output, h.size, fun k hk => h.block k (by omega) (by omega) (fun e => by have := hr k e.symm; omega)⟩
theorem Kept2.on {g : Nat} {r : Option Nat} {a b c : World} (h1 : Kept2 g r a b) (h2 : Below b.heap.size b c) : Kept2 g r a c := h1.trans (Kept2.ofBelow g r h2) (Nx.refl _ _)
theorem Kept2.behind {g : Nat} {r : Option Nat} {a b c : World} (h1 : Below a.heap.size a b) (h2 : Kept2 g r b c) : Kept2 g r a c := (Kept2.ofBelow g r h1).trans h2 (Nx.refl _ _)
theorem Blk.kept {w w' : World} {t : TypeId} {c g : Nat} {r : Option Nat} {cs : Array Value} (h : Blk w t c cs) (k : Kept2 g r w w') (h1 : c ≠ g) (h2 : some c ≠ r) : Blk w' t c cs := by
  unfold Blk; rw [k.block c h.lt h1 h2]; exact h
theorem Row8.kept {w w' : World} {c n g : Nat} {r : Option Nat} {f : Nat → Nat} (h : Row8 w c n f) (k : Kept2 g r w w') (h1 : c ≠ g) (h2 : some c ≠ r) : Row8 w' c n f := by
  have hl := h.lt
  obtain ⟨cs, t, fr, e, h3⟩ := h
  exact ⟨cs, t, fr, by rw [k.block c hl h1 h2]; exact e, h3⟩

theorem Blk.setAt {w : World} {t : TypeId} {g : Nat} {cs : Array Value} (h : Blk w t g cs) (j : Nat) (u : Value) : Blk (w.setCell ⟨g, j, none⟩ u) t g (cs.setIfInBounds j u) := by
  rw [setCell_eq_setRow w g j cs t (0, 0) u h]
  exact h.setRow _
theorem Kept2.setNew {g : Nat} {r : Option Nat} {a w : World} (h : Kept2 g r a w) (p : Addr) (hp : a.heap.size ≤ p.block) (u : Value) : Kept2 g r a (w.setCell p u) :=
  ⟨h.os, h.tape, h.output, by have := h.size; simpa [World.setCell] using this, fun k hk hg hr => by rw [Below.heap_setCell w p u k (by omega)]; exact h.block k hk hg hr⟩
theorem Kept2.drew {g : Nat} {r : Option Nat} {a b : World} (h : Kept2 g r a b) : Kept2 g r a b.drew := h.on (Below.refl _ _).drew

/-- A row of bytes of the call's own, that is a text. -/
def RowB (w : World) (e : TypeId) (v : Value) (S : ByteArray) : Prop := OwnV w 0 e .u8 v S.size (nums S.data.toList)
theorem RowB.nil (w : World) (e : TypeId) : RowB w e (.slice none 0 0) ByteArray.empty := OwnV.nil _ _ _ _
theorem RowB.lt {w : World} {e : TypeId} {v : Value} {S : ByteArray} (h : RowB w e v S) (k : Nat) (hk : v.ownBlock = some k) : k < w.heap.size := (World.ownsRow.lt h k hk).2
theorem RowB.slice {w : World} {e : TypeId} {v : Value} {S : ByteArray} (h : RowB w e v S) : ∃ ao cap, v = .slice ao S.size cap := by
  rcases h.2 with ⟨rfl, h0⟩ | ⟨g, cap, cur, rfl, _⟩
  · rw [h0]; exact ⟨_, _, rfl⟩
  · exact ⟨_, _, rfl⟩
theorem RowB.kept {w w' : World} {e : TypeId} {v : Value} {S : ByteArray} {g : Nat} {r : Option Nat} (h : RowB w e v S) (k : Kept2 g r w w') (h1 : v.ownBlock ≠ some g) (h2 : v.ownBlock = none ∨ v.ownBlock ≠ r) : RowB w' e v S := by
  refine ⟨h.1, ?_⟩
  rcases h.2 with hn | ⟨b, cap, cur, rfl, hb, hg, rest⟩
  · exact .inl hn
  · refine .inr ⟨b, cap, cur, rfl, hb, ?_, rest⟩
    rw [k.block b (Array.getElem?_eq_some_iff.1 hg).1 (fun e => h1 (by rw [e]; rfl)) (fun e => by
      rcases h2 with h2 | h2
      · cases h2
      · exact h2 e)]
    exact hg
theorem RowB.on {w w' : World} {e : TypeId} {v : Value} {S : ByteArray} (h : RowB w e v S) (hb : Below w.heap.size w w') : RowB w' e v S := by
  refine ⟨h.1, ?_⟩
  rcases h.2 with hn | ⟨b, cap, cur, rfl, h0, hg, rest⟩
  · exact .inl hn
  · exact .inr ⟨b, cap, cur, rfl, h0, by rw [hb.block b (Array.getElem?_eq_some_iff.1 hg).1]; exact hg, rest⟩
theorem RowB.other {w : World} {e : TypeId} {v : Value} {S : ByteArray} (h : RowB w e v S) (p : Addr) (hp : v.ownBlock ≠ some p.block) (u : Value) : RowB (w.setCell p u) e v S := by
  refine ⟨h.1, ?_⟩
  rcases h.2 with hn | ⟨b, cap, cur, rfl, h0, hg, rest⟩
  · exact .inl hn
  · exact .inr ⟨b, cap, cur, rfl, h0, by rw [Below.heap_setCell w p u b (fun e => hp (by rw [← e]; rfl))]; exact hg, rest⟩
theorem RowB.conv {P : Program} {w : World} {e : TypeId} {v : Value} {S : ByteArray} (h : RowB w e v S) (src dst : TypeId)
    (hs : P.underlying src = some (.slice e)) (he : P.underlying e = some (.int .u8)) (hd : P.underlying dst = some .string) : (convert src dst v).run P w = .ok (.string S) w :=
  own_conv (P := P) src dst h hs he hd
theorem nums_append (S T : ByteArray) : nums (S ++ T).data.toList = nums S.data.toList ++ nums T.data.toList := by
  rw [ByteArray.data_append, Array.toList_append]
  simp [nums]

/-- Bytes put behind such a row: the row behind it is the same one, or a new one. -/
theorem append_next {P : Program} {w : World} {e t ty : TypeId} {i : TypeInfo} (ht : P.underlying t = some (.slice e)) (hi : P.info? e = some i) (hz : i.zero = some (.int .u8 0)) (hsize : i.size = 1) (hby : i.bytes = 1)
    {v : Value} {S T : ByteArray} (hown : RowB w e v S) (b c : Nat) (hb : Row8 w b T.size (bt T)) (hn : S.size + T.size ≤ 65536) :
    ∃ v' w', (Builtin.append_ #[t, t] ty #[v, .slice (some ⟨b, 0, none⟩) T.size c]).run P w = .ok v' w' ∧ RowB w' e v' (S ++ T) ∧ w.grownBy w' v.ownBlock ∧ Nx w v.ownBlock v'.ownBlock := by
  have hl : ((nums T.data.toList).map (Value.int .u8)).length = T.size * 1 := by
    rw [List.length_map, Nat.mul_one]
    show (T.data.toList.map _).length = _
    rw [List.length_map]; rfl
  have hnews : ∀ j u, ((nums T.data.toList).map (Value.int .u8))[j]? = some u → w.cell? ((⟨b, 0, none⟩ : Addr).add j) = some u := by
    intro j u hu
    have hj : j < T.size := by
      have := (List.getElem?_eq_some_iff.1 hu).1
      rw [hl] at this; omega
    have hadd : (⟨b, 0, none⟩ : Addr).add j = ⟨b, j, none⟩ := by unfold Addr.add; split <;> simp_all
    rw [hadd, hb.cell j hj, ← hu]
    have hj2 : j < T.data.size := hj
    simp [nums, bt, List.getD_eq_getElem?_getD, Array.getElem?_eq_getElem hj2]
  have h1 : ∀ u ∈ (nums T.data.toList).map (Value.int .u8), u.oneCell' = true := by
    intro u hu
    obtain ⟨x, _, rfl⟩ := List.mem_map.1 hu
    rfl
  have h63 : S.size + T.size ≤ maxLen := by unfold maxLen; omega
  obtain ⟨v', w', hr, h2, h3, h4⟩ := run_append_own (P := P) w 0 t ty e i (.int .u8 0) 1 1 ht hi hz hsize hby rfl (by decide) v S.size _ hown ⟨b, 0, none⟩ T.size c _ hl hnews h1 h63 (by omega) (Nat.zero_le _)
  refine ⟨v', w', hr, ?_, h3, ?_⟩
  · unfold RowB OwnV
    rw [nums_append, List.map_append, ByteArray.size_append]
    exact h2
  · rcases hown.2 with ⟨rfl, h0⟩ | ⟨g, cap, cur, rfl, _, hg, hnc, hcm, hcs, htake⟩
    · have hb2 : w.ownsRow w.heap.size e 1 (.slice none 0 0) S.size ((nums S.data.toList).map (Value.int .u8)) := ⟨hown.1, .inl ⟨rfl, h0⟩⟩
      obtain ⟨v2, w2, hr2, k2, _⟩ := run_append_own (P := P) w w.heap.size t ty e i (.int .u8 0) 1 1 ht hi hz hsize hby rfl (by decide) _ S.size _ hb2 ⟨b, 0, none⟩ T.size c _ hl hnews h1 h63 (by omega) (Nat.le_refl _)
      rw [hr] at hr2
      injection hr2 with e1 e2
      subst e1
      exact fun k hk => Or.inr (k2.lt k hk).1
    · by_cases hroom : S.size + T.size ≤ cap
      · have hr2 := run_append_room (P := P) w t ty e i ht hi g S.size cap cur hg ⟨b, 0, none⟩ T.size c _ (by rw [hsize]; exact hl) hnews h1 hroom (by rw [hsize, hl, hcs, ← Nat.add_mul]; omega)
        rw [hr] at hr2
        injection hr2 with e1 e2
        subst e1
        exact fun k hk => Or.inl hk
      · have hr2 := run_append_grow (P := P) w t ty e i (.int .u8 0) ht hi hz ⟨g, 0, none⟩ S.size cap _ (by rw [hsize]; exact hown.1) (World.ownsRow.cells hown (g := g) rfl) ⟨b, 0, none⟩ T.size c _ (by rw [hsize]; exact hl) hnews (by omega) (by omega) (growslice_fits (by omega) (by rw [hby]; omega))
        rw [hr] at hr2
        injection hr2 with e1 e2
        subst e1
        exact fun k hk => Or.inr (by cases hk; exact Nat.le_refl _)

theorem wpList_append_next {P : Program} {w : World} {ops : Array Oper} {rest : List Oper} {o : Oper} {a : Act} {Q : Exit → Act → World → Prop} (hgd : o.guard = none) (s x : Operand) (t e : TypeId)
    (ho : o.op = .call { callee := .builtin .append, args := #[s, x], argTypes := #[t, t] }) {i : TypeInfo} (ht : P.underlying t = some (.slice e)) (hi : P.info? e = some i) (hz : i.zero = some (.int .u8 0)) (hsize : i.size = 1) (hby : i.bytes = 1)
    {v : Value} {S T : ByteArray} (hs : a.eval s = v) (hown : RowB w e v S) (b c : Nat) (hx : a.eval x = .slice (some ⟨b, 0, none⟩) T.size c) (hb : Row8 w b T.size (bt T)) (hn : S.size + T.size ≤ 65536)
    (h : ∀ v' w', RowB w' e v' (S ++ T) → w.grownBy w' v.ownBlock → Nx w v.ownBlock v'.ownBlock → wpList P ops Q rest (a.put o.dst v') w') : wpList P ops Q (o :: rest) a w :=
  wpList_plain hgd fun _ hK => by
    obtain ⟨v', w', hr, h2, h3, h4⟩ := append_next (P := P) (ty := o.type) ht hi hz hsize hby hown b c hb hn
    unfold Oper.wp execOp
    simp only [ho, resolve, invoke, builtin, Sem.run_bind, Sem.run_pure, Result.andThen_ok, List.map_toArray, List.map_cons, List.map_nil, hs, hx, hr]
    exact hK _ _ (h v' w' h2 h3 h4)
end Go.Proofs.YtabhkebkbidfhaaGreatDoor

/- Slices of structs, and structs by value, among a law's parameters: their reading, opened. Plain facts of no type. -/
namespace Go.Proofs.YtabhkebkbidfhaaGreatDoor
open Go.ChangeShapes Go.WideShapes Go.RowKit
section
variable {H : Type} {enc : TypeId × Value → H} {P : Program} {w : World} {base : Nat} {spare : Nat → Bool} {held : Bool}
/-- The cells of each element of a slice that came in. -/
theorem rows_of {t e : TypeId} {a : Option Addr} {len cap c : Nat} {d : DataW H} {p : List MemPlace} (ht : P.underlying t = some (.slice e)) (hc : P.cellsOf e = c) (hc0 : 0 < c)
    (h : DataW.Trod enc P w base (fun _ => true) held t (.slice a len cap) d p) :
    len ≤ maxLen ∧ (len = 0 ∨ ∃ b off, a = some ⟨b, off, none⟩ ∧ ∀ i, i < len → ∃ n x cs, cs.length = c ∧ (∀ j, j < c → w.cell? ⟨b, off + (i * c + j), none⟩ = cs[j]?) ∧ DataW.trod enc P w base (fun _ => true) held n e cs = some x) := by
  obtain ⟨fuel, hf⟩ := h
  rcases Go.Deep.open_slice ht hf with ⟨hcs, _⟩ | ⟨x, n, cp, m, k, D, Pl, hcs, hb, hl, hm, hmm, _, hx⟩
  · simp [Value.cells] at hcs
    obtain ⟨rfl, rfl, rfl⟩ := hcs
    exact ⟨Nat.zero_le _, .inl rfl⟩
  · simp [Value.cells] at hcs
    obtain ⟨rfl, rfl, rfl⟩ := hcs
    have hm' : m = cap := by simpa using hmm
    refine ⟨Nat.le_trans hl hm, ?_⟩
    by_cases h0 : len = 0
    · exact .inl h0
    · right
      obtain ⟨b, off, spot⟩ := x
      have hsp : spot = none := by
        obtain ⟨cs', h1, _⟩ := hx 0 (by omega)
        obtain ⟨_, hlen, hcell⟩ := World.cells?_some h1
        have h2 := hcell 0 (by omega)
        obtain ⟨v, hv⟩ : ∃ v, cs'[0]? = some v := ⟨_, List.getElem?_eq_getElem (by omega)⟩
        rw [hv] at h2
        simpa [Addr.add] using World.cell?_spot h2
      subst hsp
      refine ⟨b, off, rfl, fun i hi => ?_⟩
      obtain ⟨cs', h1, h2⟩ := hx i (by omega)
      obtain ⟨_, hlen, hcell⟩ := World.cells?_some h1
      refine ⟨k, _, cs', by omega, fun j hj => ?_, h2⟩
      have h3 := hcell j (by omega)
      rw [hc, add_plain, add_plain] at h3
      rw [← Nat.add_assoc]
      exact h3
/-- A struct by value. -/
theorem agg_of {r : Reach} {b0 : Nat} {t : TypeId} {fs : Array Field} {v : Value} {d : DataW H} {p : List MemPlace} (ht : P.underlying t = some (.struct fs)) (hv : Value.okWide P w r b0 t v) (h : DataW.Trod enc P w base spare held t v d p) :
    ∃ cs : Array Value, v = .agg cs ∧ ∃ n x, DataW.trod enc P w base spare held n t cs.toList = some x := by
  obtain ⟨cs, rfl, _⟩ := okWide_struct ht hv
  obtain ⟨fuel, hf⟩ := h
  exact ⟨cs, rfl, fuel, _, by simpa [Value.cells] using hf⟩
/-- A field's cells, read. -/
theorem field_of {t : TypeId} {fs : Array Field} {fuel : Nat} {cs : List Value} {x : DataW H × List MemPlace} (ht : P.underlying t = some (.struct fs)) (h : DataW.trod enc P w base spare held fuel t cs = some x) (j : Nat) (e : TypeId) (o c : Nat) (hj : (fs[j]?).map (fun f => (f.type, f.offset)) = some (e, o)) (hc : P.cellsOf e = c) :
    ∃ n y, DataW.trod enc P w base spare held n e ((cs.drop o).take c) = some y := by
  obtain ⟨f, hf1, hf2⟩ := Option.map_eq_some_iff.1 hj
  simp only [Prod.mk.injEq] at hf2
  obtain ⟨rfl, rfl⟩ := hf2
  obtain ⟨xs, n, _, _, _, hlen, hf⟩ := DataW.trod_struct ht h
  have h1 := hf j f hf1
  have hjs : j < fs.size := (Array.getElem?_eq_some_iff.1 hf1).1
  rw [hc] at h1
  exact ⟨n, _, h1.trans (List.getElem?_eq_getElem (by omega))⟩
theorem struct_len {t : TypeId} {fs : Array Field} {fuel : Nat} {cs : List Value} {x : DataW H × List MemPlace} (ht : P.underlying t = some (.struct fs)) (h : DataW.trod enc P w base spare held fuel t cs = some x) : cs.length = P.cellsOf t := by
  obtain ⟨xs, n, _, _, hl, _, _⟩ := DataW.trod_struct ht h
  exact hl
theorem cell_int {e : TypeId} {k : IntKind} {n i : Nat} {cs : List Value} {y : DataW H × List MemPlace} (he : P.underlying e = some (.int k)) (h : DataW.trod enc P w base spare held n e ((cs.drop i).take 1) = some y) : ∃ z, cs[i]? = some (.int k z) ∧ (Lit.int k z).wf = true := by
  obtain ⟨z, hz, _, hw⟩ := DataW.trod_int he h
  refine ⟨z, ?_, hw⟩
  have : ((cs.drop i).take 1)[0]? = some (.int k z) := by rw [hz]; rfl
  simpa using this
theorem cell_bool {e : TypeId} {n i : Nat} {cs : List Value} {y : DataW H × List MemPlace} (he : P.underlying e = some .bool) (h : DataW.trod enc P w base spare held n e ((cs.drop i).take 1) = some y) : ∃ z, cs[i]? = some (.bool z) := by
  obtain ⟨z, hz, _⟩ := DataW.trod_bool he h
  refine ⟨z, ?_⟩
  have : ((cs.drop i).take 1)[0]? = some (.bool z) := by rw [hz]; rfl
  simpa using this
end
end Go.Proofs.YtabhkebkbidfhaaGreatDoor

/- Rows of stamps and of layer 9's parts, and stamps by value, among a law's parameters. -/
namespace Go.Proofs.YtabhkebkbidfhaaGreatDoor
open Go.ChangeShapes Go.WideShapes Go.RowKit

theorem Tryz.cInt : Tryz.prog.cellsOf 3 = 1 := by kernel_rfl

theorem choose_list {α : Type} {n : Nat} {R : Nat → α → Prop} (h : ∀ i, i < n → ∃ x, R i x) : ∃ l : List α, l.length = n ∧ ∀ i (hi : i < l.length), R i l[i] := by
  induction n with
  | zero => exact ⟨[], rfl, fun i hi => absurd hi (Nat.not_lt_zero _)⟩
  | succ n ih =>
    obtain ⟨l, hl, hR⟩ := ih (fun i hi => h i (by omega))
    obtain ⟨x, hx⟩ := h n (by omega)
    refine ⟨l ++ [x], by simp [hl], fun i hi => ?_⟩
    by_cases e : i < l.length
    · rw [List.getElem_append_left e]; exact hR i e
    · have : i = n := by simp at hi; omega
      subst this
      rw [List.getElem_append_right (by omega)]
      simpa [hl] using hx

end Go.Proofs.YtabhkebkbidfhaaGreatDoor

/- '==' of structs. Plain facts. -/
namespace Go.Proofs.YtabhkebkbidfhaaGreatDoor
open Go.RowKit
set_option maxRecDepth 100000
set_option linter.unusedSimpArgs false

theorem stampEq (a b c d : Int) (w : World) : (Op.equalIn 10000 41 (.agg #[.int .i64 a, .int .i64 b]) (.agg #[.int .i64 c, .int .i64 d])).run Tryz.prog w = .ok (decide ((a, b) = (c, d))) w := by
  have u3 := Tryz.underlying3
  have a3 := Tryz.isAgg3
  have z3 := Tryz.sizeOf3
  rw [show (10000 : Nat) = 9999 + 1 from rfl, Op.equalIn]
  simp only [Sem.run_bind, run_underlying Tryz.underlying41, Result.andThen_ok]
  go_simp
  by_cases h1 : a = c <;> by_cases h2 : b = d <;> simp [h1, h2]

theorem txt_iff (s t : ByteArray) : (s.toList = t.toList) = (s = t) := propext ⟨fun e => bytes_ext (by rw [toList_data, toList_data] at e; exact e), fun e => by rw [e]⟩

theorem ite_ok {p : Prop} [Decidable p] {q : Bool} {w : World} : (if p then Result.ok q w else Result.ok false w) = Result.ok (decide p && q) w := by
  by_cases h : p <;> simp [h]

/-- An operation on plain data: its kind, its stamp, its node, its parent, its name, its value. -/
def opA (o : Int × (Int × Int) × (Int × Int) × (Int × Int) × ByteArray × ByteArray) : Array Value := #[.int .i64 o.1, .int .i64 o.2.1.1, .int .i64 o.2.1.2, .int .i64 o.2.2.1.1, .int .i64 o.2.2.1.2, .int .i64 o.2.2.2.1.1, .int .i64 o.2.2.2.1.2, .string o.2.2.2.2.1, .string o.2.2.2.2.2]

set_option maxRecDepth 100000 in
set_option maxHeartbeats 1000000 in
theorem opEq (x y : Int × (Int × Int) × (Int × Int) × (Int × Int) × ByteArray × ByteArray) (w : World) : (Op.equalIn 10000 43 (.agg (opA x)) (.agg (opA y))).run Tryz.prog w = .ok (decide (x = y)) w := by
  obtain ⟨k, ⟨a, b⟩, ⟨c, d⟩, ⟨e, f⟩, s, t⟩ := x
  obtain ⟨k', ⟨a', b'⟩, ⟨c', d'⟩, ⟨e', f'⟩, s', t'⟩ := y
  have u3 := Tryz.underlying3
  have a3 := Tryz.isAgg3
  have z3 := Tryz.sizeOf3
  have u9 := Tryz.underlying9
  have a9 := Tryz.isAgg9
  have z9 := Tryz.sizeOf9
  unfold opA
  rw [show (10000 : Nat) = 9999 + 1 from rfl, Op.equalIn]
  simp only [Sem.run_bind, run_underlying Tryz.underlying43, Result.andThen_ok]
  go_simp
  simp only [txt_iff, ite_ok, Bool.and_true, Bool.and_assoc]

end Go.Proofs.YtabhkebkbidfhaaGreatDoor

/- Rows of structs: read; of the call's own, with more behind. Plain facts. -/
namespace Go.Proofs.YtabhkebkbidfhaaGreatDoor
open Go.RowKit
set_option maxRecDepth 100000
set_option linter.unusedSimpArgs false

/-- A slice of n structs of c cells each, that can be read. -/
def RowsAt (w : World) (a : Option Addr) (n c : Nat) (f : Nat → Array Value) : Prop :=
  n = 0 ∨ ∃ b off, a = some ⟨b, off, none⟩ ∧ ∀ i, i < n → ∀ j, j < c → ∃ v, (f i)[j]? = some v ∧ w.cell? ⟨b, off + i * c + j, none⟩ = some v

theorem RowsAt.below {w w' : World} {a : Option Addr} {n c B : Nat} {f : Nat → Array Value} (h : RowsAt w a n c f) (hB : w.heap.size ≤ B) (hb : Below B w w') : RowsAt w' a n c f := by
  rcases h with h0 | ⟨b, off, ha, hc⟩
  · exact .inl h0
  · refine .inr ⟨b, off, ha, fun i hi j hj => ?_⟩
    obtain ⟨v, h1, h2⟩ := hc i hi j hj
    exact ⟨v, h1, by rw [hb.cell (Nat.lt_of_lt_of_le (World.block_lt_of_cell? w _ h2) hB)]; exact h2⟩

theorem RowsAt.some {w : World} {a : Option Addr} {n c : Nat} {f : Nat → Array Value} (h : RowsAt w a n c f) (hn : 0 < n) : ∃ b off, a = .some ⟨b, off, none⟩ ∧ ∀ i, i < n → ∀ j, j < c → ∃ v, (f i)[j]? = .some v ∧ w.cell? ⟨b, off + i * c + j, none⟩ = .some v := by
  rcases h with h0 | h
  · omega
  · exact h

/-- The same, with all that was there but the row. -/
theorem wpList_appR2 {P : Program} {ops : Array Oper} {rest : List Oper} {o : Oper} {a : Act} {Q : Exit → Act → World → Prop} (hgd : o.guard = none) (s x : Operand) (t : TypeId)
    (ho : o.op = .call { callee := .builtin .append, args := #[s, x], argTypes := #[t, t] })
    (B : Nat) (e : TypeId) (i : TypeInfo) (z : Value) (c bytes : Nat) (ht : P.underlying t = some (.slice e)) (hi : P.info? e = some i) (hz : i.zero = some z) (hsize : i.size = c) (hby : i.bytes = bytes) (hzs : z.cells.size = c) (hc : 0 < c)
    (W : World) (v : Value) (n : Nat) (xs : List Value) (hs : a.eval s = v) (hown : W.ownsRow B e c v n xs) (cs : Array Value) (hcs : cs.size = c) (h1 : ∀ u ∈ cs.toList, u.oneCell' = true) (hx : a.eval x = .slice (some ⟨W.heap.size, 0, none⟩) 1 1)
    (hn : (n + 1) * bytes ≤ 140737488355328) (hn' : n + 1 ≤ maxLen) (hB : B ≤ W.heap.size)
    (h : ∀ v' w', w'.ownsRow B e c v' (n + 1) (xs ++ cs.toList) → (W.alloc (.cells cs e)).grownBy w' v.ownBlock → wpList P ops Q rest (a.put o.dst v') w') :
    wpList P ops Q (o :: rest) a (W.alloc (.cells cs e)) := by
  refine wpList_append_own _ hgd s x t ho B e i z c bytes ht hi hz hsize hby hzs hc v n _ hs (World.ownsRow.alloc hown _) ⟨W.heap.size, 0, none⟩ 1 1 cs.toList hx (by simp [hcs]) ?_ h1 hn' hn (by simp; omega) ?_
  · intro j u hj
    rw [Go.WideShapes.add_plain, Nat.zero_add, cell_of_row _ _ _ cs e (0, 0) (heap_alloc_last W _)]
    simpa using hj
  · intro v' w' h1 h2 _
    exact h v' w' h1 h2

theorem Blk.grown {w w' : World} {t : TypeId} {g : Nat} {r : Option Nat} {cs : Array Value} (h : Blk w t g cs) (k : w.grownBy w' r) (hr : some g ≠ r) : Blk w' t g cs := by
  unfold Blk; rw [k.block g h.lt hr]; exact h

theorem rows_of_owns {w : World} {B n c : Nat} {e : TypeId} {v : Value} {xs : List Value} {f : Nat → Array Value} (h : w.ownsRow B e c v n xs) (hf : ∀ i, i < n → ∀ j, j < c → ∃ u, (f i)[j]? = some u ∧ xs[i * c + j]? = some u) : ∃ a cap, v = .slice a n cap ∧ RowsAt w a n c f := by
  rcases h.2 with ⟨rfl, rfl⟩ | ⟨g, cap, cur, rfl, r⟩
  · exact ⟨none, 0, rfl, .inl rfl⟩
  · refine ⟨some ⟨g, 0, none⟩, cap, rfl, .inr ⟨g, 0, rfl, fun i hi j hj => ?_⟩⟩
    obtain ⟨u, h1, h2⟩ := hf i hi j hj
    refine ⟨u, h1, ?_⟩
    have hlt : i * c + j < n * c := by
      have : (i + 1) * c ≤ n * c := Nat.mul_le_mul_right _ (by omega)
      rw [Nat.add_mul, Nat.one_mul] at this; omega
    rw [Nat.zero_add, World.ownsRow.cellAt (⟨h.1, .inr ⟨g, cap, cur, rfl, r⟩⟩ : w.ownsRow B e c (.slice (some ⟨g, 0, none⟩) n cap) n xs) (i * c + j) hlt]
    exact h2

/-- A row of the call's own is the same in every world that has its block as it was. -/
theorem owns_same {w w' : World} {B n c : Nat} {e : TypeId} {v : Value} {xs : List Value} (h : w.ownsRow B e c v n xs) (hb : ∀ k, v.ownBlock = some k → w'.heap[k]? = w.heap[k]?) : w'.ownsRow B e c v n xs := by
  obtain ⟨hl, h | ⟨g, cap, cur, rfl, hB, hc, r⟩⟩ := h
  · exact ⟨hl, .inl h⟩
  · exact ⟨hl, .inr ⟨g, cap, cur, rfl, hB, by rw [hb g rfl]; exact hc, r⟩⟩

theorem owns_on {w w' : World} {B n c : Nat} {e : TypeId} {v : Value} {xs : List Value} (h : w.ownsRow B e c v n xs) (hb : Below w.heap.size w w') : w'.ownsRow B e c v n xs :=
  owns_same h (fun k hk => hb.block k (World.ownsRow.lt h k hk).2)

theorem owns_less {w : World} {B B' n c : Nat} {e : TypeId} {v : Value} {xs : List Value} (h : w.ownsRow B e c v n xs) (hb : B' ≤ B) : w.ownsRow B' e c v n xs := by
  obtain ⟨hl, h | ⟨g, cap, cur, hv, hB, r⟩⟩ := h
  · exact ⟨hl, .inl h⟩
  · exact ⟨hl, .inr ⟨g, cap, cur, hv, Nat.le_trans hb hB, r⟩⟩

end Go.Proofs.YtabhkebkbidfhaaGreatDoor

/- Rows of the call's own, with the elements of another row behind; guarded too. Plain facts. -/
namespace Go.Proofs.YtabhkebkbidfhaaGreatDoor
open Go.ChangeShapes Go.WideShapes Go.RowKit
set_option linter.unusedSimpArgs false

/-- A row that is put behind another: nil, or its cells. -/
def SrcAt (w : World) (src : Value) (m : Nat) (news : List Value) : Prop := (src = .slice none 0 0 ∧ m = 0 ∧ news = []) ∨ ∃ ad c, src = .slice (some ad) m c ∧ ∀ j u, news[j]? = some u → w.cell? (ad.add j) = some u

end Go.Proofs.YtabhkebkbidfhaaGreatDoor
