import Derived.Test.YtogbkfakihnbdaaGreatDoorG
import Derived.Deep.Slices
import Derived.Lib.SmallJoins
import Derived.OpenShut
import Derived.ProofKit
import Derived.Test.YtogbkfakihnbdaaGreatDoorL1
import Derived.Laws.AppendOwnNone
/- Rows of texts: plain facts. -/
namespace Go.Proofs.YtogbkfakihnbdaaGreatDoor
open Go.RowKit
set_option linter.unusedSimpArgs false

theorem beq_texts (a b : ByteArray) : (a.toList == b.toList) = decide (a = b) := by
  by_cases h : a = b
  · subst h; simp
  · have : ¬ a.toList = b.toList := fun e => h (bytes_ext (by rw [toList_data, toList_data] at e; exact e))
    simp [h, this]
end Go.Proofs.YtogbkfakihnbdaaGreatDoor

/- An object of the call's own at block g, a row r of its own besides: what a method leaves as it was. Append to such a row. Plain facts. -/
namespace Go.Proofs.YtogbkfakihnbdaaGreatDoor
open Go.RowKit
set_option linter.unusedSimpArgs false

/-- Of what was there only block g and the row r may have turned. -/
structure Kept2 (g : Nat) (r : Option Nat) (w w' : World) : Prop where
  os : w'.os = w.os
  tape : w'.tape = w.tape
  output : w'.output = w.output
  size : w.heap.size ≤ w'.heap.size
  block : ∀ k, k < w.heap.size → k ≠ g → some k ≠ r → w'.heap[k]? = w.heap[k]?
/-- A row that follows another: the same one, or a new one. -/
def Nx (w : World) (r r' : Option Nat) : Prop := ∀ k, r' = some k → r = some k ∨ w.heap.size ≤ k
theorem Nx.refl (w : World) (r : Option Nat) : Nx w r r := fun _ h => Or.inl h
theorem Nx.none (w : World) (r : Option Nat) : Nx w r Option.none := fun _ h => by cases h
theorem Nx.trans {a b : World} {r r1 r2 : Option Nat} (h1 : Nx a r r1) (hs : a.heap.size ≤ b.heap.size) (h2 : Nx b r1 r2) : Nx a r r2 := fun k hk => by
  rcases h2 k hk with h | h
  · exact h1 k h
  · exact Or.inr (by omega)
theorem Nx.ne {w : World} {r r' : Option Nat} (h : Nx w r r') {c : Nat} (hc : c < w.heap.size) (hr : some c ≠ r) : some c ≠ r' := fun e => by
  rcases h c e.symm with h' | h'
  · exact hr h'.symm
  · omega
theorem Kept2.refl (g : Nat) (r : Option Nat) (w : World) : Kept2 g r w w := ⟨rfl, rfl, rfl, Nat.le_refl _, fun _ _ _ _ => rfl⟩
theorem Kept2.trans {g : Nat} {r r' : Option Nat} {a b c : World} (h1 : Kept2 g r a b) (h2 : Kept2 g r' b c) (hn : Nx a r r') : Kept2 g r a c :=
  ⟨h2.os.trans h1.os, h2.tape.trans h1.tape, h2.output.trans h1.output, Nat.le_trans h1.size h2.size, fun k hk hg hr =>
    (h2.block k (Nat.lt_of_lt_of_le hk h1.size) hg (hn.ne hk hr)).trans (h1.block k hk hg hr)⟩
theorem Kept2.ofBelow {w w' : World} (g : Nat) (r : Option Nat) (h : Below w.heap.size w w') : Kept2 g r w w' := ⟨h.os, h.tape, h.output, h.size, fun k hk _ _ => h.block k hk⟩
theorem Kept2.ofGrown {w w' : World} (g : Nat) {r : Option Nat} (h : w.grownBy w' r) : Kept2 g r w w' := ⟨h.os, h.tape, h.output, h.size, fun k hk _ hr => h.block k hk hr⟩
theorem Kept2.setCell {g : Nat} {r : Option Nat} {a w : World} (h : Kept2 g r a w) (p : Addr) (hp : p.block = g) (u : Value) : Kept2 g r a (w.setCell p u) :=
  ⟨h.os, h.tape, h.output, by have := h.size; simpa [World.setCell] using this, fun k hk hg hr => by rw [Below.heap_setCell w p u k (by omega)]; exact h.block k hk hg hr⟩
theorem Kept2.setRow {g : Nat} {r : Option Nat} {a w : World} (h : Kept2 g r a w) (cs : Array Value) : Kept2 g r a (w.setRow g cs) :=
  ⟨h.os, h.tape, h.output, by have := h.size; simpa [World.setRow] using this, fun k hk hg hr => by rw [setRow_other w g k cs hg]; exact h.block k hk hg hr⟩
theorem Kept2.below {g : Nat} {r : Option Nat} {w w' : World} (h : Kept2 g r w w') (B : Nat) (hB : B ≤ w.heap.size) (hg : B ≤ g) (hr : ∀ k, r = some k → B ≤ k) : Below B w w' :=
  ⟨h.os, h.tape, h.output, h.size, fun k hk => h.block k (by omega) (by omega) (fun e => by have := hr k e.symm; omega)⟩
theorem Kept2.on {g : Nat} {r : Option Nat} {a b c : World} (h1 : Kept2 g r a b) (h2 : Below b.heap.size b c) : Kept2 g r a c := h1.trans (Kept2.ofBelow g r h2) (Nx.refl _ _)
theorem Kept2.behind {g : Nat} {r : Option Nat} {a b c : World} (h1 : Below a.heap.size a b) (h2 : Kept2 g r b c) : Kept2 g r a c := (Kept2.ofBelow g r h1).trans h2 (Nx.refl _ _)
theorem Blk.kept {w w' : World} {t : TypeId} {c g : Nat} {r : Option Nat} {cs : Array Value} (h : Blk w t c cs) (k : Kept2 g r w w') (h1 : c ≠ g) (h2 : some c ≠ r) : Blk w' t c cs := by
  unfold Blk; rw [k.block c h.lt h1 h2]; exact h
theorem Row8.kept {w w' : World} {c n g : Nat} {r : Option Nat} {f : Nat → Nat} (h : Row8 w c n f) (k : Kept2 g r w w') (h1 : c ≠ g) (h2 : some c ≠ r) : Row8 w' c n f := by
  have hl := h.lt
  obtain ⟨cs, t, fr, e, h3⟩ := h
  exact ⟨cs, t, fr, by rw [k.block c hl h1 h2]; exact e, h3⟩

theorem Blk.setAt {w : World} {t : TypeId} {g : Nat} {cs : Array Value} (h : Blk w t g cs) (j : Nat) (u : Value) : Blk (w.setCell ⟨g, j, none⟩ u) t g (cs.setIfInBounds j u) := by
  rw [setCell_eq_setRow w g j cs t (0, 0) u h]
  exact h.setRow _
theorem Kept2.setNew {g : Nat} {r : Option Nat} {a w : World} (h : Kept2 g r a w) (p : Addr) (hp : a.heap.size ≤ p.block) (u : Value) : Kept2 g r a (w.setCell p u) :=
  ⟨h.os, h.tape, h.output, by have := h.size; simpa [World.setCell] using this, fun k hk hg hr => by rw [Below.heap_setCell w p u k (by omega)]; exact h.block k hk hg hr⟩
theorem Kept2.drew {g : Nat} {r : Option Nat} {a b : World} (h : Kept2 g r a b) : Kept2 g r a b.drew := h.on (Below.refl _ _).drew

/-- A row of bytes of the call's own, that is a text. -/
def RowB (w : World) (e : TypeId) (v : Value) (S : ByteArray) : Prop := OwnV w 0 e .u8 v S.size (nums S.data.toList)
theorem RowB.nil (w : World) (e : TypeId) : RowB w e (.slice none 0 0) ByteArray.empty := OwnV.nil _ _ _ _
theorem RowB.lt {w : World} {e : TypeId} {v : Value} {S : ByteArray} (h : RowB w e v S) (k : Nat) (hk : v.ownBlock = some k) : k < w.heap.size := (World.ownsRow.lt h k hk).2
theorem RowB.slice {w : World} {e : TypeId} {v : Value} {S : ByteArray} (h : RowB w e v S) : ∃ ao cap, v = .slice ao S.size cap := by
  rcases h.2 with ⟨rfl, h0⟩ | ⟨g, cap, cur, rfl, _⟩
  · rw [h0]; exact ⟨_, _, rfl⟩
  · exact ⟨_, _, rfl⟩
theorem RowB.kept {w w' : World} {e : TypeId} {v : Value} {S : ByteArray} {g : Nat} {r : Option Nat} (h : RowB w e v S) (k : Kept2 g r w w') (h1 : v.ownBlock ≠ some g) (h2 : v.ownBlock = none ∨ v.ownBlock ≠ r) : RowB w' e v S := by
  refine ⟨h.1, ?_⟩
  rcases h.2 with hn | ⟨b, cap, cur, rfl, hb, hg, rest⟩
  · exact .inl hn
  · refine .inr ⟨b, cap, cur, rfl, hb, ?_, rest⟩
    rw [k.block b (Array.getElem?_eq_some_iff.1 hg).1 (fun e => h1 (by rw [e]; rfl)) (fun e => by
      rcases h2 with h2 | h2
      · cases h2
      · exact h2 e)]
    exact hg
theorem RowB.on {w w' : World} {e : TypeId} {v : Value} {S : ByteArray} (h : RowB w e v S) (hb : Below w.heap.size w w') : RowB w' e v S := by
  refine ⟨h.1, ?_⟩
  rcases h.2 with hn | ⟨b, cap, cur, rfl, h0, hg, rest⟩
  · exact .inl hn
  · exact .inr ⟨b, cap, cur, rfl, h0, by rw [hb.block b (Array.getElem?_eq_some_iff.1 hg).1]; exact hg, rest⟩
theorem RowB.other {w : World} {e : TypeId} {v : Value} {S : ByteArray} (h : RowB w e v S) (p : Addr) (hp : v.ownBlock ≠ some p.block) (u : Value) : RowB (w.setCell p u) e v S := by
  refine ⟨h.1, ?_⟩
  rcases h.2 with hn | ⟨b, cap, cur, rfl, h0, hg, rest⟩
  · exact .inl hn
  · exact .inr ⟨b, cap, cur, rfl, h0, by rw [Below.heap_setCell w p u b (fun e => hp (by rw [← e]; rfl))]; exact hg, rest⟩
theorem RowB.conv {P : Program} {w : World} {e : TypeId} {v : Value} {S : ByteArray} (h : RowB w e v S) (src dst : TypeId)
    (hs : P.underlying src = some (.slice e)) (he : P.underlying e = some (.int .u8)) (hd : P.underlying dst = some .string) : (convert src dst v).run P w = .ok (.string S) w :=
  own_conv (P := P) src dst h hs he hd
theorem nums_append (S T : ByteArray) : nums (S ++ T).data.toList = nums S.data.toList ++ nums T.data.toList := by
  rw [ByteArray.data_append, Array.toList_append]
  simp [nums]

/-- Bytes put behind such a row: the row behind it is the same one, or a new one. -/
theorem append_next {P : Program} {w : World} {e t ty : TypeId} {i : TypeInfo} (ht : P.underlying t = some (.slice e)) (hi : P.info? e = some i) (hz : i.zero = some (.int .u8 0)) (hsize : i.size = 1) (hby : i.bytes = 1)
    {v : Value} {S T : ByteArray} (hown : RowB w e v S) (b c : Nat) (hb : Row8 w b T.size (bt T)) (hn : S.size + T.size ≤ 65536) :
    ∃ v' w', (Builtin.append_ #[t, t] ty #[v, .slice (some ⟨b, 0, none⟩) T.size c]).run P w = .ok v' w' ∧ RowB w' e v' (S ++ T) ∧ w.grownBy w' v.ownBlock ∧ Nx w v.ownBlock v'.ownBlock := by
  have hl : ((nums T.data.toList).map (Value.int .u8)).length = T.size * 1 := by
    rw [List.length_map, Nat.mul_one]
    show (T.data.toList.map _).length = _
    rw [List.length_map]; rfl
  have hnews : ∀ j u, ((nums T.data.toList).map (Value.int .u8))[j]? = some u → w.cell? ((⟨b, 0, none⟩ : Addr).add j) = some u := by
    intro j u hu
    have hj : j < T.size := by
      have := (List.getElem?_eq_some_iff.1 hu).1
      rw [hl] at this; omega
    have hadd : (⟨b, 0, none⟩ : Addr).add j = ⟨b, j, none⟩ := by unfold Addr.add; split <;> simp_all
    rw [hadd, hb.cell j hj, ← hu]
    have hj2 : j < T.data.size := hj
    simp [nums, bt, List.getD_eq_getElem?_getD, Array.getElem?_eq_getElem hj2]
  have h1 : ∀ u ∈ (nums T.data.toList).map (Value.int .u8), u.oneCell' = true := by
    intro u hu
    obtain ⟨x, _, rfl⟩ := List.mem_map.1 hu
    rfl
  have h63 : S.size + T.size ≤ maxLen := by unfold maxLen; omega
  obtain ⟨v', w', hr, h2, h3, h4⟩ := run_append_own (P := P) w 0 t ty e i (.int .u8 0) 1 1 ht hi hz hsize hby rfl (by decide) v S.size _ hown ⟨b, 0, none⟩ T.size c _ hl hnews h1 h63 (by omega) (Nat.zero_le _)
  refine ⟨v', w', hr, ?_, h3, ?_⟩
  · unfold RowB OwnV
    rw [nums_append, List.map_append, ByteArray.size_append]
    exact h2
  · rcases hown.2 with ⟨rfl, h0⟩ | ⟨g, cap, cur, rfl, _, hg, hnc, hcm, hcs, htake⟩
    · have hb2 : w.ownsRow w.heap.size e 1 (.slice none 0 0) S.size ((nums S.data.toList).map (Value.int .u8)) := ⟨hown.1, .inl ⟨rfl, h0⟩⟩
      obtain ⟨v2, w2, hr2, k2, _⟩ := run_append_own (P := P) w w.heap.size t ty e i (.int .u8 0) 1 1 ht hi hz hsize hby rfl (by decide) _ S.size _ hb2 ⟨b, 0, none⟩ T.size c _ hl hnews h1 h63 (by omega) (Nat.le_refl _)
      rw [hr] at hr2
      injection hr2 with e1 e2
      subst e1
      exact fun k hk => Or.inr (k2.lt k hk).1
    · by_cases hroom : S.size + T.size ≤ cap
      · have hr2 := run_append_room (P := P) w t ty e i ht hi g S.size cap cur hg ⟨b, 0, none⟩ T.size c _ (by rw [hsize]; exact hl) hnews h1 hroom (by rw [hsize, hl, hcs, ← Nat.add_mul]; omega)
        rw [hr] at hr2
        injection hr2 with e1 e2
        subst e1
        exact fun k hk => Or.inl hk
      · have hr2 := run_append_grow (P := P) w t ty e i (.int .u8 0) ht hi hz ⟨g, 0, none⟩ S.size cap _ (by rw [hsize]; exact hown.1) (World.ownsRow.cells hown (g := g) rfl) ⟨b, 0, none⟩ T.size c _ (by rw [hsize]; exact hl) hnews (by omega) (by omega) (growslice_fits (by omega) (by rw [hby]; omega))
        rw [hr] at hr2
        injection hr2 with e1 e2
        subst e1
        exact fun k hk => Or.inr (by cases hk; exact Nat.le_refl _)

theorem wpList_append_next {P : Program} {w : World} {ops : Array Oper} {rest : List Oper} {o : Oper} {a : Act} {Q : Exit → Act → World → Prop} (hgd : o.guard = none) (s x : Operand) (t e : TypeId)
    (ho : o.op = .call { callee := .builtin .append, args := #[s, x], argTypes := #[t, t] }) {i : TypeInfo} (ht : P.underlying t = some (.slice e)) (hi : P.info? e = some i) (hz : i.zero = some (.int .u8 0)) (hsize : i.size = 1) (hby : i.bytes = 1)
    {v : Value} {S T : ByteArray} (hs : a.eval s = v) (hown : RowB w e v S) (b c : Nat) (hx : a.eval x = .slice (some ⟨b, 0, none⟩) T.size c) (hb : Row8 w b T.size (bt T)) (hn : S.size + T.size ≤ 65536)
    (h : ∀ v' w', RowB w' e v' (S ++ T) → w.grownBy w' v.ownBlock → Nx w v.ownBlock v'.ownBlock → wpList P ops Q rest (a.put o.dst v') w') : wpList P ops Q (o :: rest) a w :=
  wpList_plain hgd fun _ hK => by
    obtain ⟨v', w', hr, h2, h3, h4⟩ := append_next (P := P) (ty := o.type) ht hi hz hsize hby hown b c hb hn
    unfold Oper.wp execOp
    simp only [ho, resolve, invoke, builtin, Sem.run_bind, Sem.run_pure, Result.andThen_ok, List.map_toArray, List.map_cons, List.map_nil, hs, hx, hr]
    exact hK _ _ (h v' w' h2 h3 h4)
end Go.Proofs.YtogbkfakihnbdaaGreatDoor

/- Slices of structs, and structs by value, among a law's parameters: their reading, opened. Plain facts of no type. -/
namespace Go.Proofs.YtogbkfakihnbdaaGreatDoor
open Go.ChangeShapes Go.WideShapes Go.RowKit
section
variable {H : Type} {enc : TypeId × Value → H} {P : Program} {w : World} {base : Nat} {spare : Nat → Bool} {held : Bool}
end
end Go.Proofs.YtogbkfakihnbdaaGreatDoor

/- Rows of stamps and of layer 9's parts, and stamps by value, among a law's parameters. -/
namespace Go.Proofs.YtogbkfakihnbdaaGreatDoor
open Go.ChangeShapes Go.WideShapes Go.RowKit

end Go.Proofs.YtogbkfakihnbdaaGreatDoor

/- '==' of structs. Plain facts. -/
namespace Go.Proofs.YtogbkfakihnbdaaGreatDoor
open Go.RowKit
set_option linter.unusedSimpArgs false

theorem stampEq (a b c d : Int) (w : World) : (Op.equalIn 10000 26 (.agg #[.int .i64 a, .int .i64 b]) (.agg #[.int .i64 c, .int .i64 d])).run Tryz.prog w = .ok (decide ((a, b) = (c, d))) w := by
  have u3 := Tryz.underlying3
  have a3 := Tryz.isAgg3
  have z3 := Tryz.sizeOf3
  rw [show (10000 : Nat) = 9999 + 1 from rfl, Op.equalIn]
  simp only [Sem.run_bind, run_underlying Tryz.underlying26, Result.andThen_ok]
  go_simp
  by_cases h1 : a = c <;> by_cases h2 : b = d <;> simp [h1, h2]

theorem txt_iff (s t : ByteArray) : (s.toList = t.toList) = (s = t) := propext ⟨fun e => bytes_ext (by rw [toList_data, toList_data] at e; exact e), fun e => by rw [e]⟩

theorem ite_ok {p : Prop} [Decidable p] {q : Bool} {w : World} : (if p then Result.ok q w else Result.ok false w) = Result.ok (decide p && q) w := by
  by_cases h : p <;> simp [h]

/-- A node on plain data: its number, its parent, its name, its value. -/
def nodeA (n : (Int × Int) × (Int × Int) × ByteArray × ByteArray) : Array Value := #[.int .i64 n.1.1, .int .i64 n.1.2, .int .i64 n.2.1.1, .int .i64 n.2.1.2, .string n.2.2.1, .string n.2.2.2]

set_option maxRecDepth 100000 in
set_option maxHeartbeats 1000000 in
theorem nodeEq (x y : (Int × Int) × (Int × Int) × ByteArray × ByteArray) (w : World) : (Op.equalIn 10000 47 (.agg (nodeA x)) (.agg (nodeA y))).run Tryz.prog w = .ok (decide (x = y)) w := by
  obtain ⟨⟨a, b⟩, ⟨c, d⟩, s, t⟩ := x
  obtain ⟨⟨a', b'⟩, ⟨c', d'⟩, s', t'⟩ := y
  have u3 := Tryz.underlying3
  have a3 := Tryz.isAgg3
  have z3 := Tryz.sizeOf3
  have u9 := Tryz.underlying9
  have a9 := Tryz.isAgg9
  have z9 := Tryz.sizeOf9
  unfold nodeA
  rw [show (10000 : Nat) = 9999 + 1 from rfl, Op.equalIn]
  simp only [Sem.run_bind, run_underlying Tryz.underlying47, Result.andThen_ok]
  go_simp
  simp only [txt_iff, ite_ok, Bool.and_true, Bool.and_assoc]

/-- An operation on plain data: its kind, its stamp, its node, its parent, its name, its value. -/
def opA (o : Int × (Int × Int) × (Int × Int) × (Int × Int) × ByteArray × ByteArray) : Array Value := #[.int .i64 o.1, .int .i64 o.2.1.1, .int .i64 o.2.1.2, .int .i64 o.2.2.1.1, .int .i64 o.2.2.1.2, .int .i64 o.2.2.2.1.1, .int .i64 o.2.2.2.1.2, .string o.2.2.2.2.1, .string o.2.2.2.2.2]

set_option maxRecDepth 100000 in
set_option maxHeartbeats 1000000 in
theorem opEq (x y : Int × (Int × Int) × (Int × Int) × (Int × Int) × ByteArray × ByteArray) (w : World) : (Op.equalIn 10000 37 (.agg (opA x)) (.agg (opA y))).run Tryz.prog w = .ok (decide (x = y)) w := by
  obtain ⟨k, ⟨a, b⟩, ⟨c, d⟩, ⟨e, f⟩, s, t⟩ := x
  obtain ⟨k', ⟨a', b'⟩, ⟨c', d'⟩, ⟨e', f'⟩, s', t'⟩ := y
  have u3 := Tryz.underlying3
  have a3 := Tryz.isAgg3
  have z3 := Tryz.sizeOf3
  have u9 := Tryz.underlying9
  have a9 := Tryz.isAgg9
  have z9 := Tryz.sizeOf9
  unfold opA
  rw [show (10000 : Nat) = 9999 + 1 from rfl, Op.equalIn]
  simp only [Sem.run_bind, run_underlying Tryz.underlying37, Result.andThen_ok]
  go_simp
  simp only [txt_iff, ite_ok, Bool.and_true, Bool.and_assoc]

end Go.Proofs.YtogbkfakihnbdaaGreatDoor

/- Rows of structs: read; of the call's own, with more behind. Plain facts. -/
namespace Go.Proofs.YtogbkfakihnbdaaGreatDoor
open Go.RowKit
set_option linter.unusedSimpArgs false

/-- A slice of n structs of c cells each, that can be read. -/
def RowsAt (w : World) (a : Option Addr) (n c : Nat) (f : Nat → Array Value) : Prop :=
  n = 0 ∨ ∃ b off, a = some ⟨b, off, none⟩ ∧ ∀ i, i < n → ∀ j, j < c → ∃ v, (f i)[j]? = some v ∧ w.cell? ⟨b, off + i * c + j, none⟩ = some v

theorem RowsAt.below {w w' : World} {a : Option Addr} {n c B : Nat} {f : Nat → Array Value} (h : RowsAt w a n c f) (hB : w.heap.size ≤ B) (hb : Below B w w') : RowsAt w' a n c f := by
  rcases h with h0 | ⟨b, off, ha, hc⟩
  · exact .inl h0
  · refine .inr ⟨b, off, ha, fun i hi j hj => ?_⟩
    obtain ⟨v, h1, h2⟩ := hc i hi j hj
    exact ⟨v, h1, by rw [hb.cell (Nat.lt_of_lt_of_le (World.block_lt_of_cell? w _ h2) hB)]; exact h2⟩

theorem RowsAt.some {w : World} {a : Option Addr} {n c : Nat} {f : Nat → Array Value} (h : RowsAt w a n c f) (hn : 0 < n) : ∃ b off, a = .some ⟨b, off, none⟩ ∧ ∀ i, i < n → ∀ j, j < c → ∃ v, (f i)[j]? = .some v ∧ w.cell? ⟨b, off + i * c + j, none⟩ = .some v := by
  rcases h with h0 | h
  · omega
  · exact h

/-- One struct appended to a row of the call's own, in a plain region. -/
theorem wpList_appR {P : Program} {ops : Array Oper} {rest : List Oper} {o : Oper} {a : Act} {Q : Exit → Act → World → Prop} (hgd : o.guard = none) (s x : Operand) (t : TypeId)
    (ho : o.op = .call { callee := .builtin .append, args := #[s, x], argTypes := #[t, t] })
    (B : Nat) (e : TypeId) (i : TypeInfo) (z : Value) (c bytes : Nat) (ht : P.underlying t = some (.slice e)) (hi : P.info? e = some i) (hz : i.zero = some z) (hsize : i.size = c) (hby : i.bytes = bytes) (hzs : z.cells.size = c) (hc : 0 < c)
    (W : World) (v : Value) (n : Nat) (xs : List Value) (hs : a.eval s = v) (hown : W.ownsRow B e c v n xs) (cs : Array Value) (hcs : cs.size = c) (h1 : ∀ u ∈ cs.toList, u.oneCell' = true) (hx : a.eval x = .slice (some ⟨W.heap.size, 0, none⟩) 1 1)
    (hn : (n + 1) * bytes ≤ 140737488355328) (hn' : n + 1 ≤ maxLen) (hB : B ≤ W.heap.size)
    (h : ∀ v' w', w'.ownsRow B e c v' (n + 1) (xs ++ cs.toList) → Below B W w' → wpList P ops Q rest (a.put o.dst v') w') :
    wpList P ops Q (o :: rest) a (W.alloc (.cells cs e)) := by
  refine wpList_append_own _ hgd s x t ho B e i z c bytes ht hi hz hsize hby hzs hc v n _ hs (World.ownsRow.alloc hown _) ⟨W.heap.size, 0, none⟩ 1 1 cs.toList hx (by simp [hcs]) ?_ h1 hn' hn (by simp; omega) ?_
  · intro j u hj
    rw [Go.WideShapes.add_plain, Nat.zero_add, cell_of_row _ _ _ cs e (0, 0) (heap_alloc_last W _)]
    simpa using hj
  · intro v' w' h1 h2 _
    exact h v' w' h1 (((Below.refl B W).alloc hB _).grown h2 (by simp; omega) (fun k hk => (World.ownsRow.lt hown k hk).1))

/-- The same, with all that was there but the row. -/
theorem wpList_appR2 {P : Program} {ops : Array Oper} {rest : List Oper} {o : Oper} {a : Act} {Q : Exit → Act → World → Prop} (hgd : o.guard = none) (s x : Operand) (t : TypeId)
    (ho : o.op = .call { callee := .builtin .append, args := #[s, x], argTypes := #[t, t] })
    (B : Nat) (e : TypeId) (i : TypeInfo) (z : Value) (c bytes : Nat) (ht : P.underlying t = some (.slice e)) (hi : P.info? e = some i) (hz : i.zero = some z) (hsize : i.size = c) (hby : i.bytes = bytes) (hzs : z.cells.size = c) (hc : 0 < c)
    (W : World) (v : Value) (n : Nat) (xs : List Value) (hs : a.eval s = v) (hown : W.ownsRow B e c v n xs) (cs : Array Value) (hcs : cs.size = c) (h1 : ∀ u ∈ cs.toList, u.oneCell' = true) (hx : a.eval x = .slice (some ⟨W.heap.size, 0, none⟩) 1 1)
    (hn : (n + 1) * bytes ≤ 140737488355328) (hn' : n + 1 ≤ maxLen) (hB : B ≤ W.heap.size)
    (h : ∀ v' w', w'.ownsRow B e c v' (n + 1) (xs ++ cs.toList) → (W.alloc (.cells cs e)).grownBy w' v.ownBlock → wpList P ops Q rest (a.put o.dst v') w') :
    wpList P ops Q (o :: rest) a (W.alloc (.cells cs e)) := by
  refine wpList_append_own _ hgd s x t ho B e i z c bytes ht hi hz hsize hby hzs hc v n _ hs (World.ownsRow.alloc hown _) ⟨W.heap.size, 0, none⟩ 1 1 cs.toList hx (by simp [hcs]) ?_ h1 hn' hn (by simp; omega) ?_
  · intro j u hj
    rw [Go.WideShapes.add_plain, Nat.zero_add, cell_of_row _ _ _ cs e (0, 0) (heap_alloc_last W _)]
    simpa using hj
  · intro v' w' h1 h2 _
    exact h v' w' h1 h2

theorem Blk.grown {w w' : World} {t : TypeId} {g : Nat} {r : Option Nat} {cs : Array Value} (h : Blk w t g cs) (k : w.grownBy w' r) (hr : some g ≠ r) : Blk w' t g cs := by
  unfold Blk; rw [k.block g h.lt hr]; exact h

theorem rows_of_owns {w : World} {B n c : Nat} {e : TypeId} {v : Value} {xs : List Value} {f : Nat → Array Value} (h : w.ownsRow B e c v n xs) (hf : ∀ i, i < n → ∀ j, j < c → ∃ u, (f i)[j]? = some u ∧ xs[i * c + j]? = some u) : ∃ a cap, v = .slice a n cap ∧ RowsAt w a n c f := by
  rcases h.2 with ⟨rfl, rfl⟩ | ⟨g, cap, cur, rfl, r⟩
  · exact ⟨none, 0, rfl, .inl rfl⟩
  · refine ⟨some ⟨g, 0, none⟩, cap, rfl, .inr ⟨g, 0, rfl, fun i hi j hj => ?_⟩⟩
    obtain ⟨u, h1, h2⟩ := hf i hi j hj
    refine ⟨u, h1, ?_⟩
    have hlt : i * c + j < n * c := by
      have : (i + 1) * c ≤ n * c := Nat.mul_le_mul_right _ (by omega)
      rw [Nat.add_mul, Nat.one_mul] at this; omega
    rw [Nat.zero_add, World.ownsRow.cellAt (⟨h.1, .inr ⟨g, cap, cur, rfl, r⟩⟩ : w.ownsRow B e c (.slice (some ⟨g, 0, none⟩) n cap) n xs) (i * c + j) hlt]
    exact h2

/-- A row of the call's own is the same in every world that has its block as it was. -/
theorem owns_same {w w' : World} {B n c : Nat} {e : TypeId} {v : Value} {xs : List Value} (h : w.ownsRow B e c v n xs) (hb : ∀ k, v.ownBlock = some k → w'.heap[k]? = w.heap[k]?) : w'.ownsRow B e c v n xs := by
  obtain ⟨hl, h | ⟨g, cap, cur, rfl, hB, hc, r⟩⟩ := h
  · exact ⟨hl, .inl h⟩
  · exact ⟨hl, .inr ⟨g, cap, cur, rfl, hB, by rw [hb g rfl]; exact hc, r⟩⟩

theorem owns_on {w w' : World} {B n c : Nat} {e : TypeId} {v : Value} {xs : List Value} (h : w.ownsRow B e c v n xs) (hb : Below w.heap.size w w') : w'.ownsRow B e c v n xs :=
  owns_same h (fun k hk => hb.block k (World.ownsRow.lt h k hk).2)

theorem owns_set {w : World} {B n c : Nat} {e : TypeId} {v : Value} {xs : List Value} (h : w.ownsRow B e c v n xs) (p : Addr) (hp : p.block < B) (u : Value) : (w.setCell p u).ownsRow B e c v n xs :=
  owns_same h (fun j hj => Below.heap_setCell w p u j (by have := (World.ownsRow.lt h j hj).1; omega))

end Go.Proofs.YtogbkfakihnbdaaGreatDoor

/- Rows of the call's own, with the elements of another row behind; guarded too. Plain facts. -/
namespace Go.Proofs.YtogbkfakihnbdaaGreatDoor
open Go.ChangeShapes Go.WideShapes Go.RowKit
set_option linter.unusedSimpArgs false

theorem wpList_want {P : Program} {ops : Array Oper} {rest : List Oper} {o : Oper} {a : Act} {w : World} {Q : Exit → Act → World → Prop} (hw : Region.wanted o (yielded ops a.tmps) = true)
    (h : ∀ K : Act → World → Prop, (∀ a w, wpList P ops Q rest a w → K a w) → o.wp P a w K Q) : wpList P ops Q (o :: rest) a w :=
  wpList_step fun K hK => by rw [if_pos hw]; exact h K hK

/-- A row that is put behind another: nil, or its cells. -/
def SrcAt (w : World) (src : Value) (m : Nat) (news : List Value) : Prop := (src = .slice none 0 0 ∧ m = 0 ∧ news = []) ∨ ∃ ad c, src = .slice (some ad) m c ∧ ∀ j u, news[j]? = some u → w.cell? (ad.add j) = some u

theorem wpList_appW {P : Program} {ops : Array Oper} {rest : List Oper} {o : Oper} {a : Act} {w : World} {Q : Exit → Act → World → Prop} (hw : Region.wanted o (yielded ops a.tmps) = true) (s x : Operand) (t : TypeId)
    (ho : o.op = .call { callee := .builtin .append, args := #[s, x], argTypes := #[t, t] })
    (base : Nat) (e : TypeId) (i : TypeInfo) (z : Value) (size bytes : Nat) (ht : P.underlying t = some (.slice e)) (hi : P.info? e = some i) (hz : i.zero = some z)
    (hsize : i.size = size) (hby : i.bytes = bytes) (hzs : z.cells.size = size) (hsz : 0 < size)
    (v : Value) (n : Nat) (xs : List Value) (hs : a.eval s = v) (hown : w.ownsRow base e size v n xs)
    (src : Value) (m : Nat) (news : List Value) (hx : a.eval x = src) (hsrc : SrcAt w src m news) (hl : news.length = m * size) (h1 : ∀ u ∈ news, u.oneCell' = true)
    (h63 : n + m ≤ maxLen) (hbytes : (n + m) * bytes ≤ 140737488355328) (hbase : base ≤ w.heap.size)
    (h : ∀ v' w', w'.ownsRow base e size v' (n + m) (xs ++ news) → w.grownBy w' v.ownBlock → wpList P ops Q rest (a.put o.dst v') w') : wpList P ops Q (o :: rest) a w := by
  rcases hsrc with ⟨rfl, rfl, rfl⟩ | ⟨ad, c, rfl, hnews⟩
  · refine wpList_want hw fun K hK => ?_
    have hrun := run_append_owned_none (P := P) (w := w) base t o.type e i size ht hi v n xs hown
    unfold Oper.wp
    simp [execOp, ho, resolve, invoke, builtin, hs, hx, hrun, Result.andThen]
    exact hK _ _ (h v w (by rw [List.append_nil]; exact hown) ⟨rfl, rfl, rfl, Nat.le_refl _, fun _ _ _ => rfl⟩)
  · exact wpList_want hw fun _ hK => wp_append_own w s x t ho base e i z size bytes ht hi hz hsize hby hzs hsz v n xs hs hown ad m c news hx hl hnews h1 h63 hbytes hbase fun v' w' h2 h3 _ => hK _ _ (h v' w' h2 h3)

/-- A slice that came in: nil, or an address, and no more than its capacity. -/
def SliceOk (a : Option Addr) (len cap : Nat) : Prop := (a = none ∧ len = 0 ∧ cap = 0) ∨ ∃ x, a = some x ∧ len ≤ cap

theorem SliceOk.cap {a : Option Addr} {len cap : Nat} (h : SliceOk a len cap) : len ≤ cap := by
  rcases h with ⟨_, rfl, rfl⟩ | ⟨_, _, h⟩
  · exact Nat.le_refl _
  · exact h

/-- One more of it, new. -/
theorem new_src {w : World} {t : TypeId} {g c : Nat} {cs : Array Value} (h : Blk w t g cs) (n : Nat) : SrcAt w (.slice (some ⟨g, 0, none⟩) n c) n cs.toList := by
  refine .inr ⟨_, _, rfl, fun j u hj => ?_⟩
  rw [add_plain, Nat.zero_add, h.cell j]
  simpa using hj

end Go.Proofs.YtogbkfakihnbdaaGreatDoor
