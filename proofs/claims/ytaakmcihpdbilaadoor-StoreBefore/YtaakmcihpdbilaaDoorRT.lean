import Derived.Test.YtaakmcihpdbilaaDoorRS
/- Layer 18, the document's: writes. -/
namespace Go.Proofs.YtaakmcihpdbilaaDoor
open Go.RowKit
set_option maxRecDepth 100000
set_option linter.unusedSimpArgs false
set_option maxRecDepth 100000

/-- Block i of a text; the blocks of a text written from one on, f of them; then the head. -/
def blkB (s : ByteArray) (i : Nat) : ByteArray := s.extract (64 * i) (64 * i + 64)
def wrsF (s : ByteArray) (p : Nat) : Nat → Nat → DevT → DevT × Int
  | 0, _, D => (D, 0)
  | f + 1, i, D => if (writeB D (p + 1 + i) (blkB s i)).2 = 0 then wrsF s p f (i + 1) (writeB D (p + 1 + i) (blkB s i)).1 else writeB D (p + 1 + i) (blkB s i)
def writesP (D : DevT) (turn m : Nat) (s : ByteArray) : DevT × Int :=
  let p := turn % 2 * (D.1.length / 2)
  let R := wrsF (filB s) p ((s.size + 63) / 64 - m) m D
  if R.2 = 0 then writeB R.1 p (hdB (turn : Int) s) else R

/-- A device's measures: so many blocks, at most c written, a fuse that can be one. -/
structure DvO (n : Nat) (c : Int) (D : DevT) : Prop where
  len : D.1.length = n
  n0 : 0 ≤ D.2.2.2
  n1 : D.2.2.2 ≤ c
  f0 : -1 ≤ D.2.1
  f1 : D.2.1 ≤ 9223372036854775807
theorem DvO.mono {n : Nat} {c c' : Int} {D : DevT} (h : DvO n c D) (hc : c ≤ c') : DvO n c' D := ⟨h.len, h.n0, Int.le_trans h.n1 hc, h.f0, h.f1⟩
theorem DvO.wr {n : Nat} {c : Int} {D : DevT} (h : DvO n c D) (k : Nat) (s : ByteArray) : DvO n (c + 1) (writeB D k s).1 := by
  have h1 := h.n0
  have h2 := h.n1
  have h3 := h.f0
  have h4 := h.f1
  unfold writeB
  split
  · exact ⟨h.len, h.n0, by show D.2.2.2 ≤ c + 1; omega, by show (-1 : Int) ≤ -1; omega, by show (-1 : Int) ≤ _; omega⟩
  · refine ⟨by show (D.1.set k s).length = n; rw [List.length_set]; exact h.len, by show 0 ≤ D.2.2.2 + 1; omega, by show D.2.2.2 + 1 ≤ c + 1; omega, ?_, ?_⟩
    · show -1 ≤ (if 0 < D.2.1 then D.2.1 - 1 else D.2.1); split <;> omega
    · show (if 0 < D.2.1 then D.2.1 - 1 else D.2.1) ≤ _; split <;> omega

theorem writeB_two (D : DevT) (k : Nat) (s : ByteArray) : (writeB D k s).2 = 0 ∨ (writeB D k s).2 = 170 := by
  unfold writeB
  split
  · exact .inr rfl
  · exact .inl rfl

theorem rd18_setRow {w : World} {r c q : Nat} {L : List ByteArray} (h : RowD w r c L) (hq : r ≠ q) (cs : Array Value) : RowD (w.setRow q cs) r c L :=
  ⟨h.1, fun i hi => Eq.trans (cell_setRow_other _ _ _ ⟨r, i, none⟩ hq) (h.2 i hi)⟩
theorem rd18_apart {w : World} {r c q : Nat} {L : List ByteArray} {t : TypeId} {cs : Array Value} {a : Option Addr} {n m : Nat} (h : RowD w r c L) (hl : 0 < L.length) (hq : Blk w t q cs) (hc : cs[0]? = some (.slice a n m)) : r ≠ q := by
  have h0 := h.2 0 hl
  rintro rfl
  rw [hq.cell 0, hc] at h0
  cases h0

end Go.Proofs.YtaakmcihpdbilaaDoor

/- Layer 18, the document's: Add. -/
namespace Go.Proofs.YtaakmcihpdbilaaDoor
open Go.RowKit
set_option maxRecDepth 100000
set_option linter.unusedSimpArgs false
set_option maxRecDepth 100000

/-- Is there room for n bytes in a half of a device of k blocks? What Add leaves and answers. -/
def RoomP (k n : Nat) : Prop := (n + 63) / 64 + 1 ≤ k / 2
def addP (D : DevT) (X : StoT) (t : ByteArray) : DevT × StoT × Int :=
  if X.2.2.1 = 0 ∨ 32768 < t.size ∨ ¬ ((X.2.2.2.size + (t.size + 2) + 63) / 64 + 1 ≤ D.1.length / 2) then (D, X, 2)
  else
    let R := writesP D X.2.2.1.toNat (X.2.2.2.size / 64) (X.2.2.2 ++ txB t)
    if R.2 = 0 then (R.1, (X.1, X.2.1 ++ [t], X.2.2.1, X.2.2.2 ++ txB t), 0) else (R.1, X, R.2)

theorem writeB_len (D : DevT) (k : Nat) (s : ByteArray) : (writeB D k s).1.1.length = D.1.length := by
  unfold writeB
  split
  · rfl
  · exact List.length_set
theorem wrsF_len (s : ByteArray) (p : Nat) : ∀ f i D, (wrsF s p f i D).1.1.length = D.1.length
  | 0, _, _ => rfl
  | f + 1, i, D => by
    show (if _ = _ then _ else _ : DevT × Int).1.1.length = _
    split
    · rw [wrsF_len s p f, writeB_len]
    · rw [writeB_len]
theorem writesP_len (D : DevT) (turn m : Nat) (s : ByteArray) : (writesP D turn m s).1.1.length = D.1.length := by
  unfold writesP
  simp only
  split
  · rw [writeB_len, wrsF_len]
  · rw [wrsF_len]

/-- A store's measures. -/
structure StO (X : StoT) : Prop where
  t0 : 0 ≤ X.2.2.1
  t1 : X.2.2.1 ≤ 1099511627775
  b : X.2.2.2.size ≤ 65536
  l : X.2.1.length ≤ 65536

section
variable {P : Program} {ops : Array Oper} {rest : List Oper} {o : Oper} {a : Act} {w : World} {K' : Act → World → Prop} {Q : Exit → Act → World → Prop} {E : Prop}
/-- An append whose run is told. -/
theorem wpList_runApp (hgd : o.guard = none) (s x : Operand) (t : TypeId) (ho : o.op = .call { callee := .builtin .append, args := #[s, x], argTypes := #[t, t] }) (v u : Value) (hs : a.eval s = v) (hx : a.eval x = u) {v' : Value} {w' : World}
    (hr : (Builtin.append_ #[t, t] o.type #[v, u]).run P w = .ok v' w') (h : wpList P ops Q rest (a.put o.dst v') w') : wpList P ops Q (o :: rest) a w :=
  wpList_plain hgd fun _ hK => by
    unfold Oper.wp execOp
    simp only [ho, resolve, invoke, builtin, Sem.run_bind, Sem.run_pure, Result.andThen_ok, List.map_toArray, List.map_cons, List.map_nil, hs, hx, hr]
    exact hK _ _ h
theorem step_runApp {d : Tmp} (hgd : o.guard = none) (hd : o.dst = some d) (s x : Operand) (t : TypeId) (ho : o.op = .call { callee := .builtin .append, args := #[s, x], argTypes := #[t, t] }) (v u : Value) (hs : a.eval s = v) (hx : a.eval x = u) {v' : Value} {w' : World}
    (hr : (Builtin.append_ #[t, t] o.type #[v, u]).run P w = .ok v' w') (h : K' (a.put (some d) v') w') : if Region.wanted o (yielded ops a.tmps) = true then Oper.wp P o a w K' Q else E := by
  rw [if_pos (by simp [Region.wanted, hgd])]
  unfold Oper.wp execOp
  simp only [ho, resolve, invoke, builtin, Sem.run_bind, Sem.run_pure, Result.andThen_ok, List.map_toArray, List.map_cons, List.map_nil, hs, hx, hr]
  show K' (a.put o.dst _) _
  rw [hd]
  exact h
end

theorem app18 (W : World) (a : Option Addr) (n cx : Nat) (l : List ByteArray) (h : StrsAt W a n l) (hn : n ≤ 65536) :
    ∃ v' w', (Builtin.append_ #[22, 22] 22 #[.slice none 0 0, .slice a n cx]).run Tryd.prog W = .ok v' w' ∧ OwnTx w' W.heap.size v' n l ∧ Below W.heap.size W w' := by
  obtain ⟨i0, hi, hz0, hz1, hz2⟩ := info_parts Tryd.infoStr18
  have hnil : ∀ cx, (Builtin.append_ #[22, 22] 22 #[.slice none 0 0, .slice a 0 cx]).run Tryd.prog W = .ok (.slice none 0 0) W := fun cx => by
    cases a <;> simp [Builtin.append_, run_underlying Tryd.underlying22, sizeOf, typeInfo, hi, Builtin.lenOf, Builtin.firstCells, loadCells, loadCellsFrom]
  by_cases h0 : n = 0
  · subst h0
    have hl : l = [] := List.length_eq_zero_iff.1 h.1
    subst hl
    exact ⟨_, _, hnil cx, World.ownsRow_nil _ _ _ _, Below.refl _ _⟩
  · rcases h.2 with h2 | ⟨b, off, rfl, hc⟩
    · exact absurd h2 h0
    · obtain ⟨v', w', hr, h2, h3, h4⟩ := run_append_own (P := Tryd.prog) W W.heap.size 22 22 9 i0 (.string ⟨#[]⟩) 1 16 Tryd.underlying22 hi hz0 hz1 hz2 rfl (by decide) (.slice none 0 0) 0 [] (World.ownsRow_nil _ _ _ _) ⟨b, off, none⟩ n cx (l.map Value.string) (by rw [List.length_map, h.1]; omega) (fun j u hj => by
          have hjl := (List.getElem?_eq_some_iff.1 hj).1
          rw [List.length_map, h.1] at hjl
          rw [Go.WideShapes.add_plain, hc j hjl, ← hj]
          unfold strL
          rw [List.getElem?_map, List.getD_eq_getElem?_getD, List.getElem?_eq_getElem (by rw [h.1]; exact hjl)]; rfl) (fun u hu => by obtain ⟨z, _, rfl⟩ := List.mem_map.1 hu; rfl) (by unfold maxLen; omega) (by omega) (Nat.le_refl _)
      refine ⟨v', w', hr, ?_, (Below.refl _ _).grown h3 (Nat.le_refl _) (fun z hz => by cases hz)⟩
      unfold OwnTx
      simpa using h2

theorem app18b (V : World) (base : Nat) (hbase : base ≤ V.heap.size) (v : Value) (n : Nat) (l : List ByteArray) (t : ByteArray) (ho : OwnTx V base v n l) (hn : n ≤ 65536) :
    ∃ g8 c8 w8, (Builtin.append_ #[22, 22] 22 #[v, .slice (some ⟨V.heap.size, 0, none⟩) 1 1]).run Tryd.prog (V.alloc (.cells #[.string t] 9)) = .ok (.slice (some ⟨g8, 0, none⟩) (n + 1) c8) w8 ∧ OwnTx w8 base (.slice (some ⟨g8, 0, none⟩) (n + 1) c8) (n + 1) (l ++ [t]) ∧ Below base (V.alloc (.cells #[.string t] 9)) w8 ∧ base ≤ g8 := by
  obtain ⟨i0, hi, hz0, hz1, hz2⟩ := info_parts Tryd.infoStr18
  have ho1 : (V.alloc (.cells #[.string t] 9)).ownsRow base 9 1 v n (l.map Value.string) := World.ownsRow.alloc ho _
  obtain ⟨v', w', hr, h2, h3, h4⟩ := run_append_own (P := Tryd.prog) (V.alloc (.cells #[.string t] 9)) base 22 22 9 i0 (.string ⟨#[]⟩) 1 16 Tryd.underlying22 hi hz0 hz1 hz2 rfl (by decide) v n _ ho1 ⟨V.heap.size, 0, none⟩ 1 1 [.string t] rfl (fun j u hj => by
      have hjl := (List.getElem?_eq_some_iff.1 hj).1
      have : j = 0 := by simpa using hjl
      subst this
      rw [Go.WideShapes.add_plain, cell_of_row _ _ _ #[.string t] 9 (0, 0) (heap_alloc_last V _)]
      simpa using hj) (fun u hu => by simp at hu; rw [hu]; rfl) (by unfold maxLen; omega) (by omega) (by simp; omega)
  have h5 : OwnTx w' base v' (n + 1) (l ++ [t]) := by
    unfold OwnTx
    rw [List.map_append]
    exact h2
  have h6 : Below base (V.alloc (.cells #[.string t] 9)) w' := (Below.refl _ _).grown h3 (by simp; omega) (fun k hk => (World.ownsRow.lt ho1 k hk).1)
  rcases h5.2 with ⟨_, e⟩ | ⟨g, cap, cur, rfl, hg, _⟩
  · omega
  · exact ⟨g, cap, w', hr, h5, h6, hg⟩

end Go.Proofs.YtaakmcihpdbilaaDoor

/- Layer 18, the document's: Lay. -/
namespace Go.Proofs.YtaakmcihpdbilaaDoor
open Go.RowKit
set_option maxRecDepth 100000
set_option linter.unusedSimpArgs false
set_option maxRecDepth 100000

/-- What Lay leaves and answers. -/
def layS (D : DevT) (X : StoT) (t : ByteArray) : DevT × StoT × Int :=
  if 32768 < t.size ∨ 1099511627775 ≤ X.2.2.1 ∨ ¬ ((t.size + 2 + 63) / 64 + 1 ≤ D.1.length / 2) then (D, X, 2)
  else
    let R := writesP D (X.2.2.1 + 1).toNat 0 (txB t)
    if R.2 = 0 then (R.1, (t, [], X.2.2.1 + 1, txB t), 0) else (R.1, X, R.2)



end Go.Proofs.YtaakmcihpdbilaaDoor

/- Layer 18, the document's: Lay, done. -/
namespace Go.Proofs.YtaakmcihpdbilaaDoor
open Go.RowKit
set_option maxRecDepth 100000
set_option linter.unusedSimpArgs false
set_option maxRecDepth 100000



end Go.Proofs.YtaakmcihpdbilaaDoor
