import Derived.Shelf.Strings.Builder1
import Derived.Test.YtebnmghjdoblaaaGreatDoorShelfT
import Derived.Test.YtebnmghjdoblaaaGreatDoorL1
import Derived.Test.YtebnmghjdoblaaaGreatDoorG
import Derived.Test.YtebnmghjdoblaaaGreatDoorVA
import Derived.Test.YtebnmghjdoblaaaGreatDoorVF
/- The library's strings.Builder at this program: what is written is held; String gives it. -/
namespace Go.Proofs.YtebnmghjdoblaaaGreatDoor
open Go.RowKit
set_option linter.unusedSimpArgs false

theorem Tryz.bsize : (Tryz.prog.info? 77).map (·.size) = some 2 := by kernel_rfl
theorem Tryz.blies : liesAt Tryz.prog Tryz.prog.depth 77 (2 / Tryz.prog.cellsOf 77) 0 77 1 = true := by kernel_rfl

/-- A builder of this call's own, that holds a text. -/
def Bld (B b : Nat) (s : ByteArray) (w : World) : Prop := Lib.IsBuilder 77 5 B b (Lib.strCells s) w

set_option maxHeartbeats 1000000 in
set_option maxRecDepth 100000 in
theorem bcheck_used (b : Nat) (w : World) (h0 : w.cell? ⟨b, 0, none⟩ = some (.pointer (some ⟨b, 0, none⟩))) :
    Calls Tryz.prog 61 #[.pointer (some ⟨b, 0, none⟩)] w fun e w' => e = .returned (.tuple #[]) ∧ w' = w := by
  obtain ⟨j, hj, _⟩ := Option.map_eq_some_iff.1 Tryz.bsize
  go_enter Tryz.func61, Tryz.ntmps61
  go_wp2
  rw [Lib.run_neq_ptr_same w _ Tryz.underlying75 hj]
  go_wp2
  go_end0
  exact ⟨rfl, rfl⟩

/-- A pointer seen as the library's bare pointer, and back: the address as it is. -/
theorem conv_bare {P : Program} {w : World} {src dst t e : TypeId} {j : TypeInfo} {cells : Nat} (a : Addr) (hs : P.underlying src = some (.pointer t)) (hd : P.underlying dst = some .unsafePointer) (ht : P.info? t = some j) (hj : j.size ≠ 0)
    (hsh : w.shape? a.block = some (e, cells)) (hoff : a.off < cells) : (convert src dst (.pointer (some a))).run P w = .ok (.pointer (some a)) w := by
  simp [convert, run_underlying hs, run_underlying hd, Conv.unsafePointer, Conv.seenAt, viewAt, cellsIn, hsh, sizeOf, typeInfo, ht, hj]
  intro h
  omega
theorem conv_back {P : Program} {w : World} {src dst u e : TypeId} {j : TypeInfo} {cells : Nat} (a : Addr) (hs : P.underlying src = some .unsafePointer) (hd : P.underlying dst = some (.pointer u)) (hu : P.info? u = some j)
    (hsh : w.shape? a.block = some (e, cells)) (hlies : liesAt P P.depth e (cells / P.cellsOf e) a.off u 1 = true) : (convert src dst (.pointer (some a))).run P w = .ok (.pointer (some a)) w := by
  simp [convert, run_underlying hs, run_underlying hd, Conv.unsafePointer, Conv.seenAt, viewAt, hsh, variablesAt, hlies, sizeOf, typeInfo, hu]

set_option maxHeartbeats 1000000 in
set_option maxRecDepth 100000 in
theorem bcheck_fresh (b : Nat) (w : World) (h0 : w.cell? ⟨b, 0, none⟩ = some (.pointer none)) (hsh : w.shape? b = some (77, 2)) (hfz : w.frozen? ⟨b, 0, none⟩ = false) :
    Calls Tryz.prog 61 #[.pointer (some ⟨b, 0, none⟩)] w fun e w' => e = .returned (.tuple #[]) ∧ w' = w.setCell ⟨b, 0, none⟩ (.pointer (some ⟨b, 0, none⟩)) := by
  obtain ⟨j, hj, hjs⟩ := Option.map_eq_some_iff.1 Tryz.bsize
  go_enter Tryz.func61, Tryz.ntmps61
  go_wp2
  rw [conv_bare ⟨b, 0, none⟩ Tryz.underlying75 Tryz.underlying115 hj (by rw [hjs]; decide) hsh (Nat.zero_lt_succ 1)]
  simp only [Result.andThen]
  rw [Oper.upon_value]
  go_wp2
  rw [run_callFunc_extern Tryz.func87 (by kernel_rfl) (by kernel_rfl) (by kernel_rfl) (e := Extern.AbiNoEscape.same) (by kernel_rfl)]
  rw [Lib.run_noEscape]
  simp only [Result.andThen]
  rw [Oper.upon_value]
  go_wp2
  rw [conv_back ⟨b, 0, none⟩ Tryz.underlying115 Tryz.underlying75 hj hsh Tryz.blies]
  simp only [Result.andThen]
  rw [Oper.upon_value]
  go_wp2
  go_end0
  exact ⟨rfl, rfl⟩

/-- Of what is neither a row of bytes nor a builder all stands as it was. -/
def TKeep (w w' : World) : Prop := ∀ (k : Nat) (cs : Array Value) (t : TypeId) (fr : Nat × Nat), w.heap[k]? = some (Obj.cells cs t fr) → t ≠ 5 → t ≠ 77 → w'.heap[k]? = w.heap[k]?
theorem TKeep.refl (w : World) : TKeep w w := fun _ _ _ _ _ _ _ => rfl
theorem TKeep.trans {a b c : World} (h : TKeep a b) (h2 : TKeep b c) : TKeep a c := fun k cs t fr hk h1 h3 => by
  have e := h k cs t fr hk h1 h3
  rw [h2 k cs t fr (by rw [e]; exact hk) h1 h3, e]
theorem TKeep.ofBelow {w w' : World} (h : Below w.heap.size w w') : TKeep w w' := fun k cs t fr hk _ _ => h.block k (by
  rcases Nat.lt_or_ge k w.heap.size with h' | h'
  · exact h'
  · simp [Array.getElem?_eq_none h'] at hk)
theorem TKeep.blk {w w' : World} (h : TKeep w w') {t : TypeId} {g : Nat} {cs : Array Value} (hb : Blk w t g cs) (h1 : t ≠ 5) (h2 : t ≠ 77) : Blk w' t g cs := by
  unfold Blk at *
  rw [h g _ _ _ hb h1 h2]; exact hb

theorem bcheck_any (B b : Nat) (bs : List Value) (w : World) (h : Lib.IsBuilder 77 5 B b bs w) :
    Calls Tryz.prog 61 #[.pointer (some ⟨b, 0, none⟩)] w fun e w' => e = .returned (.tuple #[]) ∧ Lib.BuilderAt 77 5 B b (.pointer (some ⟨b, 0, none⟩)) bs w' ∧ Below B w w' ∧ TKeep w w' := by
  rcases h with h | h
  · refine (bcheck_fresh b w h.cell0 h.shape h.frozen0).mono ?_
    rintro e w' ⟨rfl, rfl⟩
    refine ⟨rfl, h.used _, (Below.refl B w).setCell (p := ⟨b, 0, none⟩) h.1 _, fun k cs t fr hk _ h2 => ?_⟩
    refine heap_setCell_other w ⟨b, 0, none⟩ k _ (fun e => ?_)
    obtain ⟨_, v, hb, _⟩ := h
    have e' : k = b := e
    rw [e', hb] at hk
    injection hk with hk
    injection hk with _ ht _
    exact h2 ht.symm
  · refine (bcheck_used b w h.cell0).mono ?_
    rintro e w' ⟨rfl, rfl⟩
    exact ⟨rfl, h, Below.refl B _, TKeep.refl _⟩

set_option maxHeartbeats 2000000 in
set_option maxRecDepth 100000 in
theorem bwrite_any (B b : Nat) (a s : ByteArray) (w : World) (h : Bld B b a w) (hlen : a.size + s.size ≤ 140737488355328) (hBw : B ≤ w.heap.size) :
    Calls Tryz.prog 43 #[.pointer (some ⟨b, 0, none⟩), .string s] w fun e w' => e = .returned (.tuple #[.int .i64 s.size, .nilIface]) ∧ Bld B b (a ++ s) w' ∧ Below B w w' ∧ TKeep w w' := by
  obtain ⟨i0, hi, hz0, hz1, hz2⟩ := info_parts Tryz.info5
  unfold Bld at h
  obtain ⟨bs, hbs⟩ : ∃ bs, bs = Lib.strCells a := ⟨_, rfl⟩
  have hbl : bs.length = a.size := by rw [hbs, Lib.strCells_length]
  have Hab : Hid (Lib.strCells (a ++ s) = bs ++ Lib.strCells s) := by
    show _ = _
    rw [hbs]
    unfold Lib.strCells
    rw [ByteArray.data_append, Array.toList_append, List.map_append]
  rw [← hbs] at h
  clear hbs
  go_enter Tryz.func43, Tryz.ntmps43
  go_wp2_with (go_at_call 61; refine (bcheck_any B b bs _ h).mono ?_)
  rintro e w1 ⟨rfl, h1, hb1, hk1⟩
  have HK1 : Hid (TKeep w w1) := hk1
  clear hk1
  obtain ⟨hB, v, hbk, hown, hne⟩ := h1
  have c0 : w1.cell? ⟨b, 0, none⟩ = some (.pointer (some ⟨b, 0, none⟩)) := by rw [Lib.cell_of_heap hbk]; rfl
  have c1 : w1.cell? ⟨b, 1, none⟩ = some v := by rw [Lib.cell_of_heap hbk]; rfl
  go_wp2_with (at_builtin; refine Lib.wpList_append_own_string _ rfl _ _ 50 9 rfl B 5 i0 Tryz.underlying50 Tryz.underlying9 hi hz0 hz1 hz2 _ _ _ rfl hown s rfl ?c3 ?c4 ?c5 ?_)
  case c3 => unfold maxLen; omega
  case c4 => omega
  case c5 => have := hb1.size; omega
  intro v' w2 hown' hgrow _
  have HK2 : Hid (TKeep w1 w2) := fun k cs t fr hk h1 _ => by
    refine hgrow.block k ?_ (fun e => ?_)
    · rcases Nat.lt_or_ge k w1.heap.size with h' | h'
      · exact h'
      · simp [Array.getElem?_eq_none h'] at hk
    · rcases hown.2 with ⟨hv, _⟩ | ⟨g, cap, cur, hv, _, hg, _⟩
      · rw [hv] at e; simp [Value.ownBlock] at e
      · rw [hv] at e
        have e2 : k = g := by simpa [Value.ownBlock] using e
        rw [e2, hg] at hk
        injection hk with hk
        injection hk with _ ht _
        exact h1 ht.symm
  have hlt : b < w1.heap.size := by
    rcases Nat.lt_or_ge b w1.heap.size with h' | h'
    · exact h'
    · simp [Array.getElem?_eq_none h'] at hbk
  have hb2 : w2.heap[b]? = some (.cells #[.pointer (some ⟨b, 0, none⟩), v] 77 (0, 0)) := by
    rw [hgrow.block b hlt (fun e => hne e.symm)]
    exact hbk
  have d0 : w2.cell? ⟨b, 0, none⟩ = some (.pointer (some ⟨b, 0, none⟩)) := by rw [Lib.cell_of_heap hb2]; rfl
  have d1 : w2.cell? ⟨b, 1, none⟩ = some v := by rw [Lib.cell_of_heap hb2]; rfl
  have f1 : w2.frozen? ⟨b, 1, none⟩ = false := Lib.frozen_of_heap hb2 1
  obtain ⟨ao, n', cap, rfl⟩ : ∃ ao n' cap, v' = .slice ao n' cap := by
    rcases hown'.2 with ⟨hv, _⟩ | ⟨g, cap, cur, hv, _⟩
    · exact ⟨_, _, _, hv⟩
    · exact ⟨_, _, _, hv⟩
  go_wp2
  go_ret2
  refine ⟨rfl, ?_, ?_, ?_⟩
  · unfold Bld
    rw [Hab.out]
    exact Or.inr (Lib.BuilderAt.put (T := 77) (e := 5) hB hb2 (bs' := bs ++ Lib.strCells s) (by simpa [Lib.strCells_length, hbl] using hown') (by decide))
  · exact (hb1.grown hgrow (by have := hb1.size; omega) (fun k hk => (hown.lt k hk).1)).setCell (p := ⟨b, 1, none⟩) hB _
  · refine (HK1.out.trans HK2.out).trans (fun k cs t fr hk _ h2 => heap_setCell_other w2 ⟨b, 1, none⟩ k _ (fun e => ?_))
    have e' : k = b := e
    rw [e', hb2] at hk
    injection hk with hk
    injection hk with _ ht _
    exact h2 ht.symm

theorem bstring_any (B b : Nat) (a : ByteArray) (w : World) (h : Bld B b a w) (hBw : B ≤ w.heap.size) :
    Calls Tryz.prog 45 #[.pointer (some ⟨b, 0, none⟩)] w fun e w' => e = .returned (.string a) ∧ Below B w w' := by
  have h' : Lib.IsBuilder 77 5 B b (Lib.byteCells a.data.toList) w := h
  refine (Tryz.Builder_String_any B b a.data.toList w h' hBw).mono ?_
  rintro e w' ⟨rfl, hb⟩
  exact ⟨rfl, hb⟩
theorem bld_on {B b : Nat} {s : ByteArray} {w w' : World} (h : Bld B b s w) (hb : Below w.heap.size w w') : Bld B b s w' := by
  have go : ∀ p, Lib.BuilderAt 77 5 B b p (Lib.strCells s) w → Lib.BuilderAt 77 5 B b p (Lib.strCells s) w' := fun p h => by
    have hl := h.lt
    obtain ⟨hB, v, hk, hown, hne⟩ := h
    refine ⟨hB, v, by rw [hb.block b hl]; exact hk, ?_, hne⟩
    obtain ⟨hl, h | ⟨g, cap, cur, hv, hB, hc, r⟩⟩ := hown
    · exact ⟨hl, .inl h⟩
    · exact ⟨hl, .inr ⟨g, cap, cur, hv, hB, by rw [hb.block g (Array.getElem?_eq_some_iff.1 hc).1]; exact hc, r⟩⟩
  rcases h with h | h
  · exact .inl (go _ h)
  · exact .inr (go _ h)
theorem bld_new (w : World) : Bld w.heap.size w.heap.size ByteArray.empty (w.alloc (.cells #[.pointer none, .slice none 0 0] 77)) := Lib.fresh_isBuilder _ _ w
end Go.Proofs.YtebnmghjdoblaaaGreatDoor

/- The code's Text (layer 12). -/
namespace Go.Proofs.YtebnmghjdoblaaaGreatDoor
open Go.RowKit
set_option linter.unusedSimpArgs false

theorem repeat_end (c : Nat) : Lib.repeatL [32, 32] c ++ [32, 32] = 32 :: 32 :: Lib.repeatL [32, 32] c := by
  induction c with
  | zero => rfl
  | succ c ih =>
    show ([32, 32] ++ Lib.repeatL [32, 32] c) ++ [32, 32] = 32 :: 32 :: ([32, 32] ++ Lib.repeatL [32, 32] c)
    rw [List.append_assoc, ih]
    rfl
theorem blanks_is (c : Nat) : (⟨(Lib.repeatL [32, 32] c).toArray⟩ : ByteArray) = blanksB c := by
  induction c with
  | zero => rfl
  | succ c ih =>
    show _ = blanksB c ++ ⟨#[32, 32]⟩
    rw [← ih]
    apply bytes_ext
    rw [ByteArray.data_append, Array.toList_append]
    show 32 :: 32 :: Lib.repeatL [32, 32] c = Lib.repeatL [32, 32] c ++ [32, 32]
    exact (repeat_end c).symm

theorem repeatV_any (c : Nat) (w : World) (hc : c ≤ 512) :
    Calls Tryz.prog 44 #[.string ⟨#[32, 32]⟩, .int .i64 c] w fun e w' => e = .returned (.string (blanksB c)) ∧ Below w.heap.size w w' := by
  refine (Tryz.strings_Repeat ⟨#[32, 32]⟩ c w (by omega) (by show 2 * c ≤ _; omega)).mono ?_
  rintro e w' ⟨rfl, hb⟩
  refine ⟨?_, hb⟩
  show Ending.returned (.string ⟨(Lib.repeatL [32, 32] c).toArray⟩) = _
  rw [blanks_is]





set_option maxRecDepth 100000 in
set_option maxHeartbeats 8000000 in
theorem textC_any (l : List LineT) (a : Option Addr) (n c : Nat) (w : World) (hn : n ≤ 1000) (hz : ∀ k, k < n → (lL l k).2.2.1.size ≤ 1048576 ∧ (lL l k).2.2.2.size ≤ 1048576) (hI : LinesAt w a n l) :
    Calls Tryz.prog 21 #[.slice a n c] w fun e w' => e = .returned (.string (textB l n)) ∧ Below w.heap.size w w' := by
  have HI : Hid (LinesAt w a n l) := hI
  have HZ : Hid (∀ k, k < n → (lL l k).2.2.1.size ≤ 1048576 ∧ (lL l k).2.2.2.size ≤ 1048576) := hz
  have HT : Hid (∀ k, k ≤ n → (textB l k).size ≤ 2100000 * k) := fun k hk => textB_size l (fun j hj => hz j (by rw [← hI.1]; exact hj)) k (by rw [hI.1]; exact hk)
  obtain ⟨E, hE⟩ : ∃ E, textB l n = E := ⟨_, rfl⟩
  have HE : Hid (textB l n = E) := hE
  rw [hE]
  have HN : Hid (Bld w.heap.size w.heap.size ByteArray.empty (w.alloc (.cells #[.pointer none, .slice none 0 0] 77))) := bld_new w
  clear hI hz hE
  go_enter Tryz.func21, Tryz.ntmps21
  go_wp2_with fail
  go_loopw [8] (fun i wr => ∃ (k : Nat) (S : ByteArray), k ≤ n ∧ i = .int .i64 k ∧ Hid (S = textB l k) ∧ Hid (Bld w.heap.size w.heap.size S wr) ∧ Hid (Below w.heap.size w wr)) (fun i _ => n - (intOf i).toNat)
  case atStart => exact ⟨0, ByteArray.empty, Nat.zero_le _, rfl, rfl, HN, below_new w _⟩
  case round =>
    obtain ⟨k, S, hk, rfl, HS, HO, HB⟩ := hrel
    by_cases hlt : k < n
    · have b0 : (k : Int) < (n : Int) := by omega
      obtain ⟨b, off, rfl, _⟩ := HI.out.2.some (by omega)
      obtain ⟨x0, x1, x2, x3, x4⟩ := (HI.out.below HB.out).cells k hlt
      obtain ⟨hz3, hz4⟩ := HZ.out k hlt
      have hS0 : S.size ≤ 2100000 * k := by rw [HS.out]; exact HT.out k hk
      have HS' : Hid (S ++ lineB (lL l k) = textB l (k + 1)) := by show _ = _; rw [HS.out]; rfl
      obtain ⟨⟨d, ⟨t, u⟩, nm, vl⟩, hx⟩ : ∃ x, x = lL l k := ⟨_, rfl⟩
      simp only [← hx] at x0 x1 x2 x3 x4 hz3 hz4 HS'
      clear hx HS
      obtain ⟨W2, hW2⟩ : ∃ W2, wr.alloc (.cells #[.int .i64 d, .int .i64 t, .int .i64 u, .string nm, .string vl] 43) = W2 := ⟨_, rfl⟩
      obtain ⟨hp, hhp⟩ : ∃ hp, wr.heap.size = hp := ⟨_, rfl⟩
      have HL2 : Hid (Blk W2 43 hp #[.int .i64 d, .int .i64 t, .int .i64 u, .string nm, .string vl]) := by show Blk _ _ _ _; rw [← hW2, ← hhp]; exact Blk.new _ _ _
      have hb2 : Below wr.heap.size wr W2 := by rw [← hW2]; exact below_new _ _
      have HB2 : Hid (Below w.heap.size w W2) := below_step HB.out (Nat.le_refl _) hb2
      have HO2 : Hid (Bld w.heap.size w.heap.size S W2) := by
        show Bld _ _ _ _
        exact bld_on HO.out hb2
      have w9 : IntKind.i64.wrap ((k : Int) + 1) = ((k + 1 : Nat) : Int) := by rw [IntKind.wrap_i64]; omega
      have z0 : W2.cell? ⟨hp, 0, none⟩ = some (.int .i64 d) := HL2.out.cell 0
      have z3 : W2.cell? ⟨hp, 3, none⟩ = some (.string nm) := HL2.out.cell 3
      have HD : Hid (deepN d = if d ≤ 512 then d.toNat else 0) := rfl
      by_cases hd : 0 ≤ d ∧ d ≤ 512
      · obtain ⟨q, rfl⟩ : ∃ q : Nat, d = (q : Int) := ⟨d.toNat, by omega⟩
        have hq5 : q ≤ 512 := by omega
        have HQ : Hid (deepN (q : Int) = q) := by show _ = _; unfold deepN; rw [if_pos hd.2]; omega
        have c0 : (0 : Int) ≤ (q : Int) := by omega
        have c1 : decide ((q : Int) ≤ 512) = true := by simp; omega
        have CR : Hid (∀ W, _) := fun W => repeatV_any q W hq5
        clear HD hd
        go_wp2_with fail
        (try rw [hW2]); (try rw [hhp])
        clear hW2 hhp x0 x1 x2 x3 x4 hb2 HO HB z0 z3
        refine (CR.out W2).mono ?_
        rintro e w3 ⟨rfl, hb3⟩
        have HL3 : Hid (Blk w3 43 hp #[.int .i64 (q : Int), .int .i64 t, .int .i64 u, .string nm, .string vl]) := HL2.out.on hb3
        have HO3 : Hid (Bld w.heap.size w.heap.size S w3) := bld_on HO2.out hb3
        have HB3 : Hid (Below w.heap.size w w3) := below_step HB2.out (Nat.le_refl _) hb3
        have C0 : Hid (Calls _ _ _ _ _) := bwrite_any w.heap.size w.heap.size S (blanksB q) w3 HO3.out (by rw [blanksB_size]; omega) HB3.out.size
        clear hb3 CR HL2 HO2 HB2
        go_wp2_with fail
        refine C0.out.mono ?_
        rintro e wa ⟨rfl, hoa, hba, hka⟩
        have HLa : Hid (Blk wa 43 hp #[.int .i64 (q : Int), .int .i64 t, .int .i64 u, .string nm, .string vl]) := hka.blk HL3.out (by decide) (by decide)
        obtain ⟨SA, hSA⟩ : ∃ SA, S ++ blanksB q = SA := ⟨_, rfl⟩
        have hSAs : SA.size ≤ 2100000 * k + 1024 := by rw [← hSA, ByteArray.size_append, blanksB_size]; omega
        have HSA : Hid (S ++ blanksB q = SA) := hSA
        rw [hSA] at hoa
        have HOa : Hid (Bld w.heap.size w.heap.size SA wa) := hoa
        have HBa : Hid (Below w.heap.size w wa) := HB3.out.trans hba
        clear C0 hoa hba hka hSA HL3 HO3 HB3
        have y3 : wa.cell? ⟨hp, 3, none⟩ = some (.string nm) := HLa.out.cell 3
        have C1 : Hid (Calls _ _ _ _ _) := bwrite_any w.heap.size w.heap.size SA nm wa HOa.out (by omega) HBa.out.size
        go_wp2_with fail
        refine C1.out.mono ?_
        rintro e w3 ⟨rfl, ho3, hb3, hk3⟩
        have HL3 : Hid (Blk w3 43 hp #[.int .i64 (q : Int), .int .i64 t, .int .i64 u, .string nm, .string vl]) := hk3.blk HLa.out (by decide) (by decide)
        have HO3 : Hid (Bld w.heap.size w.heap.size (SA ++ nm) w3) := ho3
        have HB3 : Hid (Below w.heap.size w w3) := HBa.out.trans hb3
        have y4 : w3.cell? ⟨hp, 4, none⟩ = some (.string vl) := HL3.out.cell 4
        have hsn : Hid ((SA ++ nm).size = SA.size + nm.size) := by show _ = _; rw [ByteArray.size_append]
        clear C1 ho3 hb3 hk3 y3 HLa HOa HBa
        by_cases hv0 : vl.size = 0
        · obtain rfl : vl = ⟨#[]⟩ := bt_ext _ _ hv0 (fun i hi => by omega)
          obtain ⟨A, hA⟩ : ∃ A, SA ++ nm = A := ⟨_, rfl⟩
          have HS2 : Hid (A ++ ⟨#[10]⟩ = textB l (k + 1)) := by
            show _ = _
            rw [← HS'.out, ← hA, ← HSA.out]
            unfold lineB
            rw [if_pos hv0, HQ.out, app_none]
            simp only [ByteArray.append_assoc]
          have hAs : Hid (A.size = SA.size + nm.size) := by show _ = _; rw [← hA, hsn.out]
          have HOz : Hid (Bld w.heap.size w.heap.size A w3) := by rw [← hA]; exact HO3
          have HBz := HB3
          obtain ⟨wz, hwz⟩ : ∃ wz, wz = w3 := ⟨_, rfl⟩
          rw [← hwz] at HOz HBz y4
          rw [← hwz]
          clear hA hwz HO3 HB3 HL3 hsn
          have C5 : Hid (Calls _ _ _ _ _) := bwrite_any w.heap.size w.heap.size A ⟨#[10]⟩ wz HOz.out (by have := hAs.out; have : (⟨#[10]⟩ : ByteArray).size = 1 := rfl; omega) HBz.out.size
          go_wp2_with fail
          refine C5.out.mono ?_
          rintro e w7 ⟨rfl, ho7, hb7, _⟩
          have HO7 : Hid (Bld w.heap.size w.heap.size (A ++ ⟨#[10]⟩) w7) := ho7
          have HB7 : Hid (Below w.heap.size w w7) := HBz.out.trans hb7
          clear C5 ho7 hb7 HOz HBz
          go_wp2_with fail
          refine ⟨?_, ?_⟩
          · first
            | exact ⟨k + 1, _, by omega, (by first | rfl | go_num | trivial), HS2, HO7, HB7⟩
            | ((repeat apply Exists.intro); refine ⟨?_, rfl⟩; exact ⟨k + 1, _, by omega, (by first | rfl | go_num | trivial), HS2, HO7, HB7⟩)
          · simp [intOf] <;> omega
        · have h1 : ¬ vl = ⟨#[]⟩ := fun e => hv0 (by rw [e]; rfl)
          have h4 : ¬ vl.toList = [] := fun e => h1 (bytes_ext (by rw [toList_data] at e; exact e))
          have h3 : (vl.toList == []) = false := by rw [beq_eq_false_iff_ne]; exact h4
          have h5 : vl.toList.isEmpty = false := by cases hh : vl.toList with | nil => exact absurd hh h4 | cons => rfl
          obtain ⟨V, hV⟩ : ∃ V, (⟨#[61]⟩ : ByteArray) ++ vl = V := ⟨_, rfl⟩
          have hVs : V.size = 1 + vl.size := by rw [← hV, ByteArray.size_append]; rfl
          have hsum : ¬ (9223372036854775807 < (⟨#[61]⟩ : ByteArray).size + vl.size) := by have : (⟨#[61]⟩ : ByteArray).size = 1 := rfl; omega
          have hsum2 : ¬ (9223372036854775807 < 1 + vl.size) := by omega
          have C4 : Hid (Calls _ _ _ _ _) := bwrite_any w.heap.size w.heap.size (SA ++ nm) V w3 HO3.out (by have := hsn.out; omega) HB3.out.size
          obtain ⟨A, hA⟩ : ∃ A, (SA ++ nm) ++ V = A := ⟨_, rfl⟩
          have HS2 : Hid (A ++ ⟨#[10]⟩ = textB l (k + 1)) := by
            show _ = _
            rw [← HS'.out, ← hA, ← HSA.out, ← hV]
            unfold lineB
            rw [if_neg hv0, HQ.out]
            simp only [ByteArray.append_assoc]
          have hAs : Hid (A.size = SA.size + nm.size + (1 + vl.size)) := by show _ = _; rw [← hA, ByteArray.size_append, hsn.out, hVs]
          have HVs : Hid (V.size = 1 + vl.size) := hVs
          rw [hA] at C4
          clear hA hVs
          go_wp2_with fail
          refine C4.out.mono ?_
          rintro e wz ⟨rfl, ho4, hb4, _⟩
          have HOz : Hid (Bld w.heap.size w.heap.size A wz) := ho4
          have HBz : Hid (Below w.heap.size w wz) := HB3.out.trans hb4
          clear C4 ho4 hb4 HO3 HB3 HL3 hsn h1 h4 h3 h5 hV y4
          have C5 : Hid (Calls _ _ _ _ _) := bwrite_any w.heap.size w.heap.size A ⟨#[10]⟩ wz HOz.out (by have := hAs.out; have : (⟨#[10]⟩ : ByteArray).size = 1 := rfl; omega) HBz.out.size
          go_wp2_with fail
          refine C5.out.mono ?_
          rintro e w7 ⟨rfl, ho7, hb7, _⟩
          have HO7 : Hid (Bld w.heap.size w.heap.size (A ++ ⟨#[10]⟩) w7) := ho7
          have HB7 : Hid (Below w.heap.size w w7) := HBz.out.trans hb7
          clear C5 ho7 hb7 HOz HBz
          go_wp2_with fail
          refine ⟨?_, ?_⟩
          · first
            | exact ⟨k + 1, _, by omega, (by first | rfl | go_num | trivial), HS2, HO7, HB7⟩
            | ((repeat apply Exists.intro); refine ⟨?_, rfl⟩; exact ⟨k + 1, _, by omega, (by first | rfl | go_num | trivial), HS2, HO7, HB7⟩)
          · simp [intOf] <;> omega
      · obtain ⟨q, HQ⟩ : ∃ q : Nat, Hid (deepN d = q) := ⟨_, rfl⟩
        have hq0 : q = 0 := by
          rw [← HQ.out]
          unfold deepN
          split <;> omega
        subst hq0
        have HSA : Hid (S ++ blanksB 0 = S) := app_none S
        by_cases hd0 : 0 ≤ d
        · have c0 : (0 : Int) ≤ d := hd0
          have c1 : decide (d ≤ 512) = false := by simp; omega
          clear HD hd hd0
          obtain ⟨SA, hSA⟩ : ∃ SA, SA = S := ⟨_, rfl⟩
          rw [← hSA] at HSA HO2 HS'
          have hSAs : SA.size ≤ 2100000 * k + 1024 := by rw [hSA]; omega
          have HSz : Hid (SA.size ≤ 2100000 * k + 1024) := hSAs
          have C1 : Hid (Calls _ _ _ _ _) := bwrite_any w.heap.size w.heap.size SA nm W2 HO2.out (by omega) HB2.out.size
          clear hSAs
          go_wp2_with fail
          (try rw [hW2]); (try rw [hhp])
          clear hW2 hhp x0 x1 x2 x3 x4 hb2 HO HB z0 z3
          have hSAs := HSz.out
          refine C1.out.mono ?_
          rintro e w3 ⟨rfl, ho3, hb3, hk3⟩
          have HL3 : Hid (Blk w3 43 hp #[.int .i64 d, .int .i64 t, .int .i64 u, .string nm, .string vl]) := hk3.blk HL2.out (by decide) (by decide)
          have HO3 : Hid (Bld w.heap.size w.heap.size (SA ++ nm) w3) := ho3
          have HB3 : Hid (Below w.heap.size w w3) := HB2.out.trans hb3
          have y4 : w3.cell? ⟨hp, 4, none⟩ = some (.string vl) := HL3.out.cell 4
          have hsn : Hid ((SA ++ nm).size = SA.size + nm.size) := by show _ = _; rw [ByteArray.size_append]
          clear C1 ho3 hb3 hk3 HL2 HO2 HB2
          by_cases hv0 : vl.size = 0
          · obtain rfl : vl = ⟨#[]⟩ := bt_ext _ _ hv0 (fun i hi => by omega)
            obtain ⟨A, hA⟩ : ∃ A, SA ++ nm = A := ⟨_, rfl⟩
            have HS2 : Hid (A ++ ⟨#[10]⟩ = textB l (k + 1)) := by
              show _ = _
              rw [← HS'.out, ← hA]
              unfold lineB
              rw [if_pos hv0, HQ.out, app_none]
              simp only [show blanksB 0 = ByteArray.empty from rfl, ByteArray.empty_append, ByteArray.append_assoc]
            have hAs : Hid (A.size = SA.size + nm.size) := by show _ = _; rw [← hA, hsn.out]
            have HOz : Hid (Bld w.heap.size w.heap.size A w3) := by rw [← hA]; exact HO3
            have HBz := HB3
            obtain ⟨wz, hwz⟩ : ∃ wz, wz = w3 := ⟨_, rfl⟩
            rw [← hwz] at HOz HBz y4
            rw [← hwz]
            clear hA hwz HO3 HB3 HL3 hsn
            have C5 : Hid (Calls _ _ _ _ _) := bwrite_any w.heap.size w.heap.size A ⟨#[10]⟩ wz HOz.out (by have := hAs.out; have : (⟨#[10]⟩ : ByteArray).size = 1 := rfl; omega) HBz.out.size
            go_wp2_with fail
            refine C5.out.mono ?_
            rintro e w7 ⟨rfl, ho7, hb7, _⟩
            have HO7 : Hid (Bld w.heap.size w.heap.size (A ++ ⟨#[10]⟩) w7) := ho7
            have HB7 : Hid (Below w.heap.size w w7) := HBz.out.trans hb7
            clear C5 ho7 hb7 HOz HBz
            go_wp2_with fail
            refine ⟨?_, ?_⟩
            · first
              | exact ⟨k + 1, _, by omega, (by first | rfl | go_num | trivial), HS2, HO7, HB7⟩
              | ((repeat apply Exists.intro); refine ⟨?_, rfl⟩; exact ⟨k + 1, _, by omega, (by first | rfl | go_num | trivial), HS2, HO7, HB7⟩)
            · simp [intOf] <;> omega
          · have h1 : ¬ vl = ⟨#[]⟩ := fun e => hv0 (by rw [e]; rfl)
            have h4 : ¬ vl.toList = [] := fun e => h1 (bytes_ext (by rw [toList_data] at e; exact e))
            have h3 : (vl.toList == []) = false := by rw [beq_eq_false_iff_ne]; exact h4
            have h5 : vl.toList.isEmpty = false := by cases hh : vl.toList with | nil => exact absurd hh h4 | cons => rfl
            obtain ⟨V, hV⟩ : ∃ V, (⟨#[61]⟩ : ByteArray) ++ vl = V := ⟨_, rfl⟩
            have hVs : V.size = 1 + vl.size := by rw [← hV, ByteArray.size_append]; rfl
            have hsum : ¬ (9223372036854775807 < (⟨#[61]⟩ : ByteArray).size + vl.size) := by have : (⟨#[61]⟩ : ByteArray).size = 1 := rfl; omega
            have hsum2 : ¬ (9223372036854775807 < 1 + vl.size) := by omega
            have C4 : Hid (Calls _ _ _ _ _) := bwrite_any w.heap.size w.heap.size (SA ++ nm) V w3 HO3.out (by have := hsn.out; omega) HB3.out.size
            obtain ⟨A, hA⟩ : ∃ A, (SA ++ nm) ++ V = A := ⟨_, rfl⟩
            have HS2 : Hid (A ++ ⟨#[10]⟩ = textB l (k + 1)) := by
              show _ = _
              rw [← HS'.out, ← hA, ← hV]
              unfold lineB
              rw [if_neg hv0, HQ.out]
              simp only [show blanksB 0 = ByteArray.empty from rfl, ByteArray.empty_append, ByteArray.append_assoc]
            have hAs : Hid (A.size = SA.size + nm.size + (1 + vl.size)) := by show _ = _; rw [← hA, ByteArray.size_append, hsn.out, hVs]
            have HVs : Hid (V.size = 1 + vl.size) := hVs
            rw [hA] at C4
            clear hA hVs
            go_wp2_with fail
            refine C4.out.mono ?_
            rintro e wz ⟨rfl, ho4, hb4, _⟩
            have HOz : Hid (Bld w.heap.size w.heap.size A wz) := ho4
            have HBz : Hid (Below w.heap.size w wz) := HB3.out.trans hb4
            clear C4 ho4 hb4 HO3 HB3 HL3 hsn h1 h4 h3 h5 hV y4
            have C5 : Hid (Calls _ _ _ _ _) := bwrite_any w.heap.size w.heap.size A ⟨#[10]⟩ wz HOz.out (by have := hAs.out; have : (⟨#[10]⟩ : ByteArray).size = 1 := rfl; omega) HBz.out.size
            go_wp2_with fail
            refine C5.out.mono ?_
            rintro e w7 ⟨rfl, ho7, hb7, _⟩
            have HO7 : Hid (Bld w.heap.size w.heap.size (A ++ ⟨#[10]⟩) w7) := ho7
            have HB7 : Hid (Below w.heap.size w w7) := HBz.out.trans hb7
            clear C5 ho7 hb7 HOz HBz
            go_wp2_with fail
            refine ⟨?_, ?_⟩
            · first
              | exact ⟨k + 1, _, by omega, (by first | rfl | go_num | trivial), HS2, HO7, HB7⟩
              | ((repeat apply Exists.intro); refine ⟨?_, rfl⟩; exact ⟨k + 1, _, by omega, (by first | rfl | go_num | trivial), HS2, HO7, HB7⟩)
            · simp [intOf] <;> omega
        · have c0 : ¬ ((0 : Int) ≤ d) := hd0
          have c1 : decide ((0 : Int) ≤ d) = false := by simp; omega
          clear HD hd hd0
          obtain ⟨SA, hSA⟩ : ∃ SA, SA = S := ⟨_, rfl⟩
          rw [← hSA] at HSA HO2 HS'
          have hSAs : SA.size ≤ 2100000 * k + 1024 := by rw [hSA]; omega
          have HSz : Hid (SA.size ≤ 2100000 * k + 1024) := hSAs
          have C1 : Hid (Calls _ _ _ _ _) := bwrite_any w.heap.size w.heap.size SA nm W2 HO2.out (by omega) HB2.out.size
          clear hSAs
          go_wp2_with fail
          (try rw [hW2]); (try rw [hhp])
          clear hW2 hhp x0 x1 x2 x3 x4 hb2 HO HB z0 z3
          have hSAs := HSz.out
          refine C1.out.mono ?_
          rintro e w3 ⟨rfl, ho3, hb3, hk3⟩
          have HL3 : Hid (Blk w3 43 hp #[.int .i64 d, .int .i64 t, .int .i64 u, .string nm, .string vl]) := hk3.blk HL2.out (by decide) (by decide)
          have HO3 : Hid (Bld w.heap.size w.heap.size (SA ++ nm) w3) := ho3
          have HB3 : Hid (Below w.heap.size w w3) := HB2.out.trans hb3
          have y4 : w3.cell? ⟨hp, 4, none⟩ = some (.string vl) := HL3.out.cell 4
          have hsn : Hid ((SA ++ nm).size = SA.size + nm.size) := by show _ = _; rw [ByteArray.size_append]
          clear C1 ho3 hb3 hk3 HL2 HO2 HB2
          by_cases hv0 : vl.size = 0
          · obtain rfl : vl = ⟨#[]⟩ := bt_ext _ _ hv0 (fun i hi => by omega)
            obtain ⟨A, hA⟩ : ∃ A, SA ++ nm = A := ⟨_, rfl⟩
            have HS2 : Hid (A ++ ⟨#[10]⟩ = textB l (k + 1)) := by
              show _ = _
              rw [← HS'.out, ← hA]
              unfold lineB
              rw [if_pos hv0, HQ.out, app_none]
              simp only [show blanksB 0 = ByteArray.empty from rfl, ByteArray.empty_append, ByteArray.append_assoc]
            have hAs : Hid (A.size = SA.size + nm.size) := by show _ = _; rw [← hA, hsn.out]
            have HOz : Hid (Bld w.heap.size w.heap.size A w3) := by rw [← hA]; exact HO3
            have HBz := HB3
            obtain ⟨wz, hwz⟩ : ∃ wz, wz = w3 := ⟨_, rfl⟩
            rw [← hwz] at HOz HBz y4
            rw [← hwz]
            clear hA hwz HO3 HB3 HL3 hsn
            have C5 : Hid (Calls _ _ _ _ _) := bwrite_any w.heap.size w.heap.size A ⟨#[10]⟩ wz HOz.out (by have := hAs.out; have : (⟨#[10]⟩ : ByteArray).size = 1 := rfl; omega) HBz.out.size
            go_wp2_with fail
            refine C5.out.mono ?_
            rintro e w7 ⟨rfl, ho7, hb7, _⟩
            have HO7 : Hid (Bld w.heap.size w.heap.size (A ++ ⟨#[10]⟩) w7) := ho7
            have HB7 : Hid (Below w.heap.size w w7) := HBz.out.trans hb7
            clear C5 ho7 hb7 HOz HBz
            go_wp2_with fail
            refine ⟨?_, ?_⟩
            · first
              | exact ⟨k + 1, _, by omega, (by first | rfl | go_num | trivial), HS2, HO7, HB7⟩
              | ((repeat apply Exists.intro); refine ⟨?_, rfl⟩; exact ⟨k + 1, _, by omega, (by first | rfl | go_num | trivial), HS2, HO7, HB7⟩)
            · simp [intOf] <;> omega
          · have h1 : ¬ vl = ⟨#[]⟩ := fun e => hv0 (by rw [e]; rfl)
            have h4 : ¬ vl.toList = [] := fun e => h1 (bytes_ext (by rw [toList_data] at e; exact e))
            have h3 : (vl.toList == []) = false := by rw [beq_eq_false_iff_ne]; exact h4
            have h5 : vl.toList.isEmpty = false := by cases hh : vl.toList with | nil => exact absurd hh h4 | cons => rfl
            obtain ⟨V, hV⟩ : ∃ V, (⟨#[61]⟩ : ByteArray) ++ vl = V := ⟨_, rfl⟩
            have hVs : V.size = 1 + vl.size := by rw [← hV, ByteArray.size_append]; rfl
            have hsum : ¬ (9223372036854775807 < (⟨#[61]⟩ : ByteArray).size + vl.size) := by have : (⟨#[61]⟩ : ByteArray).size = 1 := rfl; omega
            have hsum2 : ¬ (9223372036854775807 < 1 + vl.size) := by omega
            have C4 : Hid (Calls _ _ _ _ _) := bwrite_any w.heap.size w.heap.size (SA ++ nm) V w3 HO3.out (by have := hsn.out; omega) HB3.out.size
            obtain ⟨A, hA⟩ : ∃ A, (SA ++ nm) ++ V = A := ⟨_, rfl⟩
            have HS2 : Hid (A ++ ⟨#[10]⟩ = textB l (k + 1)) := by
              show _ = _
              rw [← HS'.out, ← hA, ← hV]
              unfold lineB
              rw [if_neg hv0, HQ.out]
              simp only [show blanksB 0 = ByteArray.empty from rfl, ByteArray.empty_append, ByteArray.append_assoc]
            have hAs : Hid (A.size = SA.size + nm.size + (1 + vl.size)) := by show _ = _; rw [← hA, ByteArray.size_append, hsn.out, hVs]
            have HVs : Hid (V.size = 1 + vl.size) := hVs
            rw [hA] at C4
            clear hA hVs
            go_wp2_with fail
            refine C4.out.mono ?_
            rintro e wz ⟨rfl, ho4, hb4, _⟩
            have HOz : Hid (Bld w.heap.size w.heap.size A wz) := ho4
            have HBz : Hid (Below w.heap.size w wz) := HB3.out.trans hb4
            clear C4 ho4 hb4 HO3 HB3 HL3 hsn h1 h4 h3 h5 hV y4
            have C5 : Hid (Calls _ _ _ _ _) := bwrite_any w.heap.size w.heap.size A ⟨#[10]⟩ wz HOz.out (by have := hAs.out; have : (⟨#[10]⟩ : ByteArray).size = 1 := rfl; omega) HBz.out.size
            go_wp2_with fail
            refine C5.out.mono ?_
            rintro e w7 ⟨rfl, ho7, hb7, _⟩
            have HO7 : Hid (Bld w.heap.size w.heap.size (A ++ ⟨#[10]⟩) w7) := ho7
            have HB7 : Hid (Below w.heap.size w w7) := HBz.out.trans hb7
            clear C5 ho7 hb7 HOz HBz
            go_wp2_with fail
            refine ⟨?_, ?_⟩
            · first
              | exact ⟨k + 1, _, by omega, (by first | rfl | go_num | trivial), HS2, HO7, HB7⟩
              | ((repeat apply Exists.intro); refine ⟨?_, rfl⟩; exact ⟨k + 1, _, by omega, (by first | rfl | go_num | trivial), HS2, HO7, HB7⟩)
            · simp [intOf] <;> omega
    · obtain rfl : k = n := by omega
      have b0 : ¬ ((k : Int) < (k : Int)) := by omega
      have CS : Hid (Calls _ _ _ _ _) := bstring_any w.heap.size w.heap.size S wr HO.out HB.out.size
      have hSE : S = E := by rw [HS.out, HE.out]
      subst hSE
      go_wp2_with fail
      refine CS.out.mono ?_
      rintro e w5 ⟨rfl, hb5⟩
      have HB5 : Hid (Below w.heap.size w w5) := HB.out.trans hb5
      clear CS hb5
      go_wp2_with fail
      go_ret
      exact ⟨rfl, HB5.out⟩
end Go.Proofs.YtebnmghjdoblaaaGreatDoor

/- awake of layer 12. -/
namespace Go.Proofs.YtebnmghjdoblaaaGreatDoor
open Go.RowKit
set_option linter.unusedSimpArgs false

theorem name_letters (s : ByteArray) (n : Nat) (hn : n ≤ 4) (hc : countR s = n) (h1 : s.data.toList ≠ [46]) (h2 : s.data.toList ≠ [46, 46]) (h3 : 0 < s.size) (h4 : bt s 0 ≠ 32) (h5 : bt s (s.size - 1) ≠ 32) (h6 : ∀ k : Fin 4, k.1 < n → 32 ≤ runeAt s (posR s k.1) ∧ runeAt s (posR s k.1) ≠ 47 ∧ ¬ (127 ≤ runeAt s (posR s k.1) ∧ runeAt s (posR s k.1) ≤ 159)) : NameP s := by
  refine ⟨⟨by rw [toList_data]; exact h1, by rw [toList_data]; exact h2, h3, h4, h5⟩, fun k hk => ?_, by omega⟩
  rw [hc] at hk
  exact h6 ⟨k, by omega⟩ hk
theorem nameV_a : NameP ⟨#[97]⟩ := name_letters _ 1 (by decide) (by decide +kernel) (by decide) (by decide) (by decide) (by decide +kernel) (by decide +kernel) (by decide +kernel)
theorem nameV_b : NameP ⟨#[98]⟩ := name_letters _ 1 (by decide) (by decide +kernel) (by decide) (by decide) (by decide) (by decide +kernel) (by decide +kernel) (by decide +kernel)
theorem nameV_gone : NameP ⟨#[103, 111, 110, 101]⟩ := name_letters _ 4 (by decide) (by decide +kernel) (by decide) (by decide) (by decide) (by decide +kernel) (by decide +kernel) (by decide +kernel)

/-- The example. -/
def awV : List NodeT := [((1, 1), (0, 0), ⟨#[97]⟩, ⟨#[]⟩), ((2, 1), (0, 0), ⟨#[97]⟩, ⟨#[118]⟩), ((3, 1), (2, 1), ⟨#[98]⟩, ⟨#[]⟩), ((4, 1), (0, 1), ⟨#[103, 111, 110, 101]⟩, ⟨#[]⟩)]
def awR : List LineT := [(0, (1, 1), ⟨#[97]⟩, ⟨#[]⟩), (0, (2, 1), ⟨#[97, 126, 50]⟩, ⟨#[118]⟩), (1, (3, 1), ⟨#[98]⟩, ⟨#[]⟩)]
theorem awV_lines : linesP awV = awR := by decide +kernel
theorem awV_text : textB awR 3 = ⟨#[97, 10, 97, 126, 50, 61, 118, 10, 32, 32, 98, 10]⟩ := by decide +kernel
theorem awV_path : pathB awR 2 = ⟨#[97, 126, 50, 47, 98]⟩ := by decide +kernel
theorem awV_paths : ∀ j : Fin 2, pathB awR j.1 ≠ ⟨#[97, 126, 50, 47, 98]⟩ := by decide +kernel
theorem awV_may : MayV awV := by
  refine ⟨by decide, fun k hk => ?_, fun k hk => ?_⟩
  · have hk4 : k < 4 := hk
    match k, hk4 with
    | 0, _ => exact ⟨by decide, fun h => absurd h (by decide), nameV_a, by decide⟩
    | 1, _ => exact ⟨by decide, fun _ => by decide, nameV_a, by decide⟩
    | 2, _ => exact ⟨by decide, fun _ => by decide, nameV_b, by decide⟩
    | 3, _ => exact ⟨by decide, fun _ => by decide, nameV_gone, by decide⟩
  · have hk4 : k < 4 := hk
    unfold TopOk
    match k, hk4 with
    | 0, _ => decide +kernel
    | 1, _ => decide +kernel
    | 2, _ => decide +kernel
    | 3, _ => decide +kernel
theorem awV_pathE : PathE (linesP awV) (3, 1) ⟨#[97, 126, 50, 47, 98]⟩ 0 := by
  rw [awV_lines]
  refine .inl ⟨2, by decide, rfl, fun j hj => ?_, awV_path.symm, rfl⟩
  match j, hj with
  | 0, _ => decide
  | 1, _ => decide
theorem awV_findV : FindV (linesP awV) ⟨#[97, 126, 50, 47, 98]⟩ (3, 1) 0 := by
  rw [awV_lines]
  exact .inl ⟨2, by decide, awV_path, fun j hj => awV_paths ⟨j, hj⟩, rfl, rfl⟩

set_option maxHeartbeats 1000000 in
theorem atV_any (t : Int) (w : World) : Calls Tryz.prog 23 #[.int .i64 t] w fun e w' => e = .returned (.agg #[.int .i64 t, .int .i64 1]) ∧ Below w.heap.size w w' := by
  have HB : Hid (Blk (w.alloc (.cells #[.int .i64 0, .int .i64 0] 36)) 36 w.heap.size #[.int .i64 0, .int .i64 0]) := Blk.new _ _ _
  go_enter Tryz.func23, Tryz.ntmps23
  go_wp2_with (with_reducible refine wpList_storeBlk rfl 36 _ _ rfl w.heap.size #[.int .i64 0, .int .i64 0] #[.int .i64 t, .int .i64 1] ?hx ?hy HB.out rfl ?hi ?h1 ?_)
  try (case hx => rfl)
  try (case hy => rfl)
  try (case hi => kernel_rfl)
  try (case h1 => simp [Value.oneCell'])
  exact bodyPost_row rfl w.heap.size #[.int .i64 t, .int .i64 1] rfl rfl (HB.out.setRow _) _ Tryz.underlying36 rfl (by kernel_rfl) ⟨rfl, below_setRow (below_new w _) (Nat.le_refl _) _⟩

def awCells : Array Value := #[.int .i64 1, .int .i64 1, .int .i64 0, .int .i64 0, .string ⟨#[97]⟩, .string ⟨#[]⟩, .int .i64 2, .int .i64 1, .int .i64 0, .int .i64 0, .string ⟨#[97]⟩, .string ⟨#[118]⟩, .int .i64 3, .int .i64 1, .int .i64 2, .int .i64 1, .string ⟨#[98]⟩, .string ⟨#[]⟩, .int .i64 4, .int .i64 1, .int .i64 0, .int .i64 1, .string ⟨#[103, 111, 110, 101]⟩, .string ⟨#[]⟩]
theorem awV_nodes (w : World) : NodesAt (w.alloc (.cells awCells 45)) (some ⟨w.heap.size, 0, none⟩) 4 awV := by
  refine ⟨rfl, .inr ⟨w.heap.size, 0, rfl, fun i hi j hj => ?_⟩⟩
  have hb := Blk.new w 45 awCells
  have hc : ∀ (i : Fin 4) (j : Fin 6), (nodeA (nL awV i.1))[j.1]? = awCells[i.1 * 6 + j.1]? := by
    intro i j
    match i, j with
    | 0, 0 => rfl | 0, 1 => rfl | 0, 2 => rfl | 0, 3 => rfl | 0, 4 => rfl | 0, 5 => rfl
    | 1, 0 => rfl | 1, 1 => rfl | 1, 2 => rfl | 1, 3 => rfl | 1, 4 => rfl | 1, 5 => rfl
    | 2, 0 => rfl | 2, 1 => rfl | 2, 2 => rfl | 2, 3 => rfl | 2, 4 => rfl | 2, 5 => rfl
    | 3, 0 => rfl | 3, 1 => rfl | 3, 2 => rfl | 3, 3 => rfl | 3, 4 => rfl | 3, 5 => rfl
  have h1 := hc ⟨i, hi⟩ ⟨j, hj⟩
  have hz : i * 6 + j < awCells.size := by show _ < 24; omega
  obtain ⟨v, hv⟩ : ∃ v, awCells[i * 6 + j]? = some v := ⟨_, Array.getElem?_eq_getElem hz⟩
  refine ⟨v, by rw [h1]; exact hv, ?_⟩
  rw [Nat.zero_add, hb.cell (i * 6 + j)]
  exact hv

theorem stampEq_same3 (t u : Int) (w : World) : (Op.equalIn 10000 36 (.agg #[.int .i64 t, .int .i64 u]) (.agg #[.int .i64 t, .int .i64 u])).run Tryz.prog w = .ok true w := by
  rw [stampEq t u t u w, decide_eq_true rfl]

set_option maxHeartbeats 8000000 in
set_option maxRecDepth 100000 in
theorem awake12 (w : World) (hG : Glob8 w) (hM : MaxL w) :
    Calls Tryz.prog 11 #[] w fun e w' => e = .returned (.bool true) ∧ Below w.heap.size w w' := by
  have HG : Hid (Glob8 w) := hG
  have HM : Hid (MaxL w) := hM
  have CA : Hid (∀ t W, _) := atV_any
  have hzz : ∀ k, k < 4 → (nL awV k).2.2.1.size ≤ 65536 ∧ (nL awV k).2.2.2.size ≤ maxLen := fun k hk => by
    match k, hk with
    | 0, _ => decide
    | 1, _ => decide
    | 2, _ => decide
    | 3, _ => decide
  have HD : Hid (true = true ↔ MayV awV) := ⟨fun _ => awV_may, fun _ => rfl⟩
  have CL : Hid (∀ (g : Nat) (W : World), NodesAt W (some ⟨g, 0, none⟩) 4 awV → Glob8 W → Calls Tryz.prog 12 #[.slice (some ⟨g, 0, none⟩) 4 4] W fun e w' => ∃ v, e = .returned (.tuple #[v, .int .i64 0]) ∧ OwnL w' W.heap.size v awR ∧ Below W.heap.size W w') := fun g W h1 h2 => by
    have h := linesV_any awV (some ⟨g, 0, none⟩) 4 4 W (by decide) hzz h1 h2 true HD.out
    rw [if_pos rfl, if_pos rfl, awV_lines] at h
    exact h
  have CP : Hid (∀ (g : Nat) (W : World), NodesAt W (some ⟨g, 0, none⟩) 4 awV → Glob8 W → Calls Tryz.prog 17 #[.slice (some ⟨g, 0, none⟩) 4 4, .agg #[.int .i64 3, .int .i64 1]] W fun e w' => e = .returned (.tuple #[.string ⟨#[97, 126, 50, 47, 98]⟩, .int .i64 0]) ∧ Below W.heap.size W w') := fun g W h1 h2 => pathC_any awV (some ⟨g, 0, none⟩) 4 4 3 1 W (by decide) hzz h1 h2 true HD.out _ 0 (by rw [if_pos rfl]; exact awV_pathE)
  have CF : Hid (∀ (g : Nat) (W : World), NodesAt W (some ⟨g, 0, none⟩) 4 awV → Glob8 W → MaxL W → Calls Tryz.prog 19 #[.slice (some ⟨g, 0, none⟩) 4 4, .string ⟨#[97, 126, 50, 47, 98]⟩] W fun e w' => e = .returned (.tuple #[.agg #[.int .i64 3, .int .i64 1], .int .i64 0]) ∧ Below W.heap.size W w') := fun g W h1 h2 h3 => findC_any awV (some ⟨g, 0, none⟩) 4 4 ⟨#[97, 126, 50, 47, 98]⟩ W (by decide) hzz h1 h2 h3 (by decide) true HD.out (3, 1) 0 (by rw [if_pos rfl, if_neg (by decide)]; exact awV_findV)
  have CC : Hid (∀ (g : Nat) (W : World), NodesAt W (some ⟨g, 0, none⟩) 4 awV → Glob8 W → Calls Tryz.prog 15 #[.slice (some ⟨g, 0, none⟩) 4 4] W fun e w' => e = .returned (.int .i64 0) ∧ Below W.heap.size W w') := fun g W h1 h2 => by
    have h := checkC_any awV (some ⟨g, 0, none⟩) 4 4 W (by decide) (fun k hk => ⟨Nat.le_trans (hzz k hk).1 (by decide), (hzz k hk).2⟩) h1 h2 true HD.out
    rw [if_pos rfl] at h
    exact h
  have CT : Hid (∀ (a : Option Addr) (c : Nat) (W : World), LinesAt W a 3 awR → Calls Tryz.prog 21 #[.slice a 3 c] W fun e w' => e = .returned (.string ⟨#[97, 10, 97, 126, 50, 61, 118, 10, 32, 32, 98, 10]⟩) ∧ Below W.heap.size W w') := fun a c W h => by
    have h := textC_any awR a 3 c W (by decide) (fun k hk => by match k, hk with | 0, _ => decide | 1, _ => decide | 2, _ => decide) h
    rw [awV_text] at h
    exact h
  clear hG hM hzz HD
  go_enter Tryz.func11, Tryz.ntmps11
  go_wp2_with fail
  refine (CA.out 1 w).mono ?_
  rintro e w1 ⟨rfl, hb1⟩
  have HB1 : Hid (Below w.heap.size w w1) := hb1
  clear hb1
  go_wp2_with fail
  refine (CA.out 2 w1).mono ?_
  rintro e w2 ⟨rfl, hb2⟩
  have HB2 : Hid (Below w.heap.size w w2) := below_step HB1.out (Nat.le_refl _) hb2
  clear hb2 HB1
  go_wp2_with fail
  refine (CA.out 3 w2).mono ?_
  rintro e w3 ⟨rfl, hb3⟩
  have HB3 : Hid (Below w.heap.size w w3) := below_step HB2.out (Nat.le_refl _) hb3
  clear hb3 HB2
  go_wp2_with fail
  refine (CA.out 2 w3).mono ?_
  rintro e w4 ⟨rfl, hb4⟩
  have HB4 : Hid (Below w.heap.size w w4) := below_step HB3.out (Nat.le_refl _) hb4
  clear hb4 HB3
  go_wp2_with fail
  refine (CA.out 4 w4).mono ?_
  rintro e w5 ⟨rfl, hb5⟩
  have HB5 : Hid (Below w.heap.size w w5) := below_step HB4.out (Nat.le_refl _) hb5
  clear hb5 HB4
  obtain ⟨W, hW⟩ : ∃ W, w5.alloc (.cells #[.int .i64 1, .int .i64 1, .int .i64 0, .int .i64 0, .string ⟨#[97]⟩, .string ⟨#[]⟩, .int .i64 2, .int .i64 1, .int .i64 0, .int .i64 0, .string ⟨#[97]⟩, .string ⟨#[118]⟩, .int .i64 3, .int .i64 1, .int .i64 2, .int .i64 1, .string ⟨#[98]⟩, .string ⟨#[]⟩, .int .i64 4, .int .i64 1, .int .i64 0, .int .i64 1, .string ⟨#[103, 111, 110, 101]⟩, .string ⟨#[]⟩] 45) = W := ⟨_, rfl⟩
  obtain ⟨g, hg⟩ : ∃ g, w5.heap.size = g := ⟨_, rfl⟩
  have HNW : Hid (NodesAt W (some ⟨g, 0, none⟩) 4 awV) := by show NodesAt _ _ _ _; rw [← hW, ← hg]; exact awV_nodes w5
  have HBW : Hid (Below w.heap.size w W) := by show Below _ _ _; rw [← hW]; exact below_step HB5.out (Nat.le_refl _) (below_new _ _)
  have HW : Hid (w5.alloc (.cells #[.int .i64 1, .int .i64 1, .int .i64 0, .int .i64 0, .string ⟨#[97]⟩, .string ⟨#[]⟩, .int .i64 2, .int .i64 1, .int .i64 0, .int .i64 0, .string ⟨#[97]⟩, .string ⟨#[118]⟩, .int .i64 3, .int .i64 1, .int .i64 2, .int .i64 1, .string ⟨#[98]⟩, .string ⟨#[]⟩, .int .i64 4, .int .i64 1, .int .i64 0, .int .i64 1, .string ⟨#[103, 111, 110, 101]⟩, .string ⟨#[]⟩] 45) = W) := hW
  have HGg : Hid (w5.heap.size = g) := hg
  clear hW hg HB5
  go_wp2_with fail
  rw [HW.out, HGg.out]
  refine (CL.out g W HNW.out (HG.out.below HBW.out)).mono ?_
  rintro e w6 ⟨v, rfl, ho6, hb6⟩
  obtain ⟨va, vc, rfl, hl6, _⟩ := OwnL.lines2 ho6
  have HL6 : Hid (LinesAt w6 va 3 awR) := hl6
  have HN6 : Hid (NodesAt w6 (some ⟨g, 0, none⟩) 4 awV) := HNW.out.below hb6
  have HB6 : Hid (Below w.heap.size w w6) := below_step HBW.out (Nat.le_refl _) hb6
  rw [show awR.length = 3 from rfl]
  clear ho6 hl6 hb6 CL HNW HBW HW HGg
  go_wp2_with fail
  refine (CA.out 3 w6).mono ?_
  rintro e w7 ⟨rfl, hb7⟩
  have HL7 : Hid (LinesAt w7 va 3 awR) := HL6.out.below hb7
  have HN7 : Hid (NodesAt w7 (some ⟨g, 0, none⟩) 4 awV) := HN6.out.below hb7
  have HB7 : Hid (Below w.heap.size w w7) := below_step HB6.out (Nat.le_refl _) hb7
  clear hb7 HL6 HN6 HB6
  go_wp2_with fail
  refine (CP.out g w7 HN7.out (HG.out.below HB7.out)).mono ?_
  rintro e w8 ⟨rfl, hb8⟩
  have HL8 : Hid (LinesAt w8 va 3 awR) := HL7.out.below hb8
  have HN8 : Hid (NodesAt w8 (some ⟨g, 0, none⟩) 4 awV) := HN7.out.below hb8
  have HB8 : Hid (Below w.heap.size w w8) := below_step HB7.out (Nat.le_refl _) hb8
  clear hb8 HL7 HN7 HB7 CP
  go_wp2_with fail
  refine (CF.out g w8 HN8.out (HG.out.below HB8.out) (HM.out.below HB8.out)).mono ?_
  rintro e w9 ⟨rfl, hb9⟩
  have HL9 : Hid (LinesAt w9 va 3 awR) := HL8.out.below hb9
  have HN9 : Hid (NodesAt w9 (some ⟨g, 0, none⟩) 4 awV) := HN8.out.below hb9
  have HB9 : Hid (Below w.heap.size w w9) := below_step HB8.out (Nat.le_refl _) hb9
  clear hb9 HL8 HN8 HB8 CF
  obtain ⟨V, hV⟩ : ∃ V, w9.alloc (.cells #[.int .i64 3, .int .i64 1] 36) = V := ⟨_, rfl⟩
  obtain ⟨hp, hhp⟩ : ∃ hp, w9.heap.size = hp := ⟨_, rfl⟩
  have hbV : Below w9.heap.size w9 V := by rw [← hV]; exact below_new _ _
  have HKV : Hid (Blk V 36 hp #[.int .i64 3, .int .i64 1]) := by show Blk _ _ _ _; rw [← hV, ← hhp]; exact Blk.new _ _ _
  have HLV : Hid (LinesAt V va 3 awR) := HL9.out.below hbV
  have HNV : Hid (NodesAt V (some ⟨g, 0, none⟩) 4 awV) := HN9.out.below hbV
  have HBV : Hid (Below w.heap.size w V) := below_step HB9.out (Nat.le_refl _) hbV
  have HV : Hid (w9.alloc (.cells #[.int .i64 3, .int .i64 1] 36) = V) := hV
  have HHp : Hid (w9.heap.size = hp) := hhp
  have HSS : Hid (∀ W, Below V.heap.size V W → W.cell? ⟨hp, 0, none⟩ = some (.int .i64 3) ∧ W.cell? ⟨hp, 1, none⟩ = some (.int .i64 1)) := fun W hW => ⟨(HKV.out.on hW).cell 0, (HKV.out.on hW).cell 1⟩
  have hS0 := HSS.out V (Below.refl _ _)
  have e4 := fun w => stampEq_same3 3 1 w
  clear hbV hV hhp HL9 HN9 HB9
  go_wp2_with fail
  rw [HV.out, HHp.out]
  refine wp_region_noPanic ?_
  refine wp_region_held_drew (S := fun W => W.cell? ⟨hp, 0, none⟩ = some (.int .i64 3) ∧ W.cell? ⟨hp, 1, none⟩ = some (.int .i64 1)) (by kernel_rfl) (by first | exact trivial | assumption | exact ⟨by assumption, by assumption⟩) (fun hHeld => ?_)
  refine take_at (i := 0) (v := ?_) rfl rfl (by kernel_rfl) (by kernel_rfl) (by kernel_rfl) (fun _ _ _ h => h) (Or.inl ⟨by rfl, ?_⟩) (by assumption) ?_
  rotate_left
  · intro w hSw; (try dsimp only at hSw); go_simp; try with_reducible rfl
  try simp only [Act.put, List.setIfInBounds_toArray, List.set_cons_zero, List.set_cons_succ]
  refine take_at (i := 1) (v := ?_) rfl rfl (by kernel_rfl) (by kernel_rfl) (by kernel_rfl) (fun _ _ _ h => h) (Or.inl ⟨by rfl, ?_⟩) (by assumption) ?_
  rotate_left
  · intro w hSw; (try dsimp only at hSw); go_simp; try with_reducible rfl
  try simp only [Act.put, List.setIfInBounds_toArray, List.set_cons_zero, List.set_cons_succ]
  refine take_at (i := 2) (v := ?_) rfl rfl (by kernel_rfl) (by kernel_rfl) (by kernel_rfl) (fun _ _ _ h => h) (Or.inl ⟨by rfl, ?_⟩) (by assumption) ?_
  rotate_left
  · intro w hSw; (try dsimp only at hSw); go_simp; try with_reducible rfl
  try simp only [Act.put, List.setIfInBounds_toArray, List.set_cons_zero, List.set_cons_succ]
  refine take_at (i := 3) (v := ?_) rfl rfl (by kernel_rfl) (by kernel_rfl) (by kernel_rfl) (fun _ _ _ h => h) (Or.inl ⟨by rfl, ?_⟩) (by assumption) ?_
  rotate_left
  · intro w hSw; (try dsimp only at hSw); go_simp; try with_reducible rfl
  try simp only [Act.put, List.setIfInBounds_toArray, List.set_cons_zero, List.set_cons_succ]
  refine take_at (i := 4) (v := ?_) rfl rfl (by kernel_rfl) (by kernel_rfl) (by kernel_rfl) (fun _ _ _ h => h) (Or.inl ⟨by rfl, ?_⟩) (by assumption) ?_
  rotate_left
  · intro w hSw; (try dsimp only at hSw); go_simp; try with_reducible rfl
  try simp only [Act.put, List.setIfInBounds_toArray, List.set_cons_zero, List.set_cons_succ]
  refine take_at (i := 5) (v := ?_) rfl rfl (by kernel_rfl) (by kernel_rfl) (by kernel_rfl) (fun _ _ _ h => h) (Or.inl ⟨by rfl, ?_⟩) (by assumption) ?_
  rotate_left
  · intro w hSw; (try dsimp only at hSw); go_simp; try with_reducible rfl
  try simp only [Act.put, List.setIfInBounds_toArray, List.set_cons_zero, List.set_cons_succ]
  refine take_at (i := 6) (v := ?_) rfl rfl (by kernel_rfl) (by kernel_rfl) (by kernel_rfl) (fun _ _ _ h => h) (Or.inl ⟨by rfl, ?_⟩) (by assumption) ?_
  rotate_left
  · intro w hSw; (try dsimp only at hSw); go_simp; try with_reducible rfl
  try simp only [Act.put, List.setIfInBounds_toArray, List.set_cons_zero, List.set_cons_succ]
  refine take_at (i := 7) (v := ?_) rfl rfl (by kernel_rfl) (by kernel_rfl) (by kernel_rfl) (fun _ _ _ h => h) (Or.inl ⟨by rfl, ?_⟩) (by assumption) ?_
  rotate_left
  · intro w hSw; (try dsimp only at hSw); go_simp; try with_reducible rfl
  try simp only [Act.put, List.setIfInBounds_toArray, List.set_cons_zero, List.set_cons_succ]
  refine take_at (i := 8) (v := ?_) rfl rfl (by kernel_rfl) (by kernel_rfl) (by kernel_rfl) (fun _ _ _ h => h) (Or.inl ⟨by rfl, ?_⟩) (by assumption) ?_
  rotate_left
  · intro w hSw; (try dsimp only at hSw); go_simp; try with_reducible rfl
  try simp only [Act.put, List.setIfInBounds_toArray, List.set_cons_zero, List.set_cons_succ]
  refine wpAnyH_ready (rs := [9]) (by kernel_rfl) (by simp) ?_
  refine AllReadyH.cons rfl (fun K hK => ?_) AllReadyH.nil
  go_simp
  refine (CT.out va vc V.drew (HLV.out.below (Below.refl _ _).drew)).mono ?_
  rintro e u1 ⟨rfl, hu1⟩
  have hu1' : Below V.heap.size V u1 := below_step (Below.refl _ _).drew (Nat.le_refl _) hu1
  refine hK.out _ _ (HSS.out _ hu1') (fun hHeld => ?_)
  clear hK K
  refine take_at (i := 10) (v := ?_) rfl rfl (by kernel_rfl) (by kernel_rfl) (by kernel_rfl) (fun _ _ _ h => h) (Or.inl ⟨by rfl, ?_⟩) (by assumption) ?_
  rotate_left
  · intro w hSw; (try dsimp only at hSw); go_simp; try with_reducible rfl
  try simp only [Act.put, List.setIfInBounds_toArray, List.set_cons_zero, List.set_cons_succ]
  refine take_at (i := 11) (v := ?_) rfl rfl (by kernel_rfl) (by kernel_rfl) (by kernel_rfl) (fun _ _ _ h => h) (Or.inl ⟨by rfl, ?_⟩) (by assumption) ?_
  rotate_left
  · intro w hSw; (try dsimp only at hSw); go_simp; try with_reducible rfl
  try simp only [Act.put, List.setIfInBounds_toArray, List.set_cons_zero, List.set_cons_succ]
  refine take_at (i := 12) (v := ?_) rfl rfl (by kernel_rfl) (by kernel_rfl) (by kernel_rfl) (fun _ _ _ h => h) (Or.inl ⟨by rfl, ?_⟩) (by assumption) ?_
  rotate_left
  · intro w hSw; (try dsimp only at hSw); go_simp; try with_reducible rfl
  try simp only [Act.put, List.setIfInBounds_toArray, List.set_cons_zero, List.set_cons_succ]
  refine take_at (i := 13) (v := ?_) rfl rfl (by kernel_rfl) (by kernel_rfl) (by kernel_rfl) (fun _ _ _ h => h) (Or.inl ⟨by rfl, ?_⟩) (by assumption) ?_
  rotate_left
  · intro w hSw; (try dsimp only at hSw); go_simp; try with_reducible rfl
  try simp only [Act.put, List.setIfInBounds_toArray, List.set_cons_zero, List.set_cons_succ]
  refine take_at (i := 14) (v := ?_) rfl rfl (by kernel_rfl) (by kernel_rfl) (by kernel_rfl) (fun _ _ _ h => h) (Or.inl ⟨by rfl, ?_⟩) (by assumption) ?_
  rotate_left
  · intro w hSw; (try dsimp only at hSw); go_simp; try with_reducible rfl
  try simp only [Act.put, List.setIfInBounds_toArray, List.set_cons_zero, List.set_cons_succ]
  refine take_at (i := 15) (v := ?_) rfl rfl (by kernel_rfl) (by kernel_rfl) (by kernel_rfl) (fun _ _ _ h => h) (Or.inl ⟨by rfl, ?_⟩) (by assumption) ?_
  rotate_left
  · intro w hSw; (try dsimp only at hSw); go_simp; try with_reducible rfl
  try simp only [Act.put, List.setIfInBounds_toArray, List.set_cons_zero, List.set_cons_succ]
  refine take_at (i := 16) (v := ?_) rfl rfl (by kernel_rfl) (by kernel_rfl) (by kernel_rfl) (fun _ _ _ h => h) (Or.inl ⟨by rfl, ?_⟩) (by assumption) ?_
  rotate_left
  · intro w hSw; (try dsimp only at hSw); go_simp; try with_reducible rfl
  try simp only [Act.put, List.setIfInBounds_toArray, List.set_cons_zero, List.set_cons_succ]
  refine take_at (i := 17) (v := ?_) rfl rfl (by kernel_rfl) (by kernel_rfl) (by kernel_rfl) (fun _ _ _ h => h) (Or.inl ⟨by rfl, ?_⟩) (by assumption) ?_
  rotate_left
  · intro w hSw; (try dsimp only at hSw); go_simp; try with_reducible rfl
  try simp only [Act.put, List.setIfInBounds_toArray, List.set_cons_zero, List.set_cons_succ]
  refine take_at (i := 18) (v := ?_) rfl rfl (by kernel_rfl) (by kernel_rfl) (by kernel_rfl) (fun _ _ _ h => h) (Or.inl ⟨by rfl, ?_⟩) (by assumption) ?_
  rotate_left
  · intro w hSw; (try dsimp only at hSw); go_simp; try with_reducible rfl
  try simp only [Act.put, List.setIfInBounds_toArray, List.set_cons_zero, List.set_cons_succ]
  refine take_at (i := 19) (v := ?_) rfl rfl (by kernel_rfl) (by kernel_rfl) (by kernel_rfl) (fun _ _ _ h => h) (Or.inl ⟨by rfl, ?_⟩) (by assumption) ?_
  rotate_left
  · intro w hSw; (try dsimp only at hSw); go_simp; try with_reducible rfl
  try simp only [Act.put, List.setIfInBounds_toArray, List.set_cons_zero, List.set_cons_succ]
  refine take_at (i := 20) (v := ?_) rfl rfl (by kernel_rfl) (by kernel_rfl) (by kernel_rfl) (fun _ _ _ h => h) (Or.inl ⟨by rfl, ?_⟩) (by assumption) ?_
  rotate_left
  · intro w hSw; (try dsimp only at hSw); go_simp; try with_reducible rfl
  try simp only [Act.put, List.setIfInBounds_toArray, List.set_cons_zero, List.set_cons_succ]
  refine take_at (i := 21) (v := ?_) rfl rfl (by kernel_rfl) (by kernel_rfl) (by kernel_rfl) (fun _ _ _ h => h) (Or.inl ⟨by rfl, ?_⟩) (by assumption) ?_
  rotate_left
  · intro w hSw; (try dsimp only at hSw); go_simp; try with_reducible rfl
  try simp only [Act.put, List.setIfInBounds_toArray, List.set_cons_zero, List.set_cons_succ]
  refine wpAnyH_ready (rs := [22]) (by kernel_rfl) (by simp) ?_
  refine AllReadyH.cons rfl (fun K hK => ?_) AllReadyH.nil
  go_simp
  refine (CA.out 3 u1).mono ?_
  rintro e u2 ⟨rfl, hu2⟩
  have hu2' : Below V.heap.size V u2 := below_step hu1' (Nat.le_refl _) hu2
  refine hK.out _ _ (HSS.out _ hu2') (fun hHeld => ?_)
  clear hK K
  refine take_at (i := 23) (v := ?_) rfl rfl (by kernel_rfl) (by kernel_rfl) (by kernel_rfl) (fun _ _ _ h => h) (Or.inl ⟨by rfl, ?_⟩) (by assumption) ?_
  rotate_left
  · intro w hSw; (try dsimp only at hSw); go_simp; try with_reducible rfl
  try simp only [Act.put, List.setIfInBounds_toArray, List.set_cons_zero, List.set_cons_succ]
  refine take_at (i := 24) (v := ?_) rfl rfl (by kernel_rfl) (by kernel_rfl) (by kernel_rfl) (fun _ _ _ h => h) (Or.inl ⟨by rfl, ?_⟩) (by assumption) ?_
  rotate_left
  · intro w hSw; (try dsimp only at hSw); go_simp; try with_reducible rfl
  try simp only [Act.put, List.setIfInBounds_toArray, List.set_cons_zero, List.set_cons_succ]
  refine take_at (i := 25) (v := ?_) rfl rfl (by kernel_rfl) (by kernel_rfl) (by kernel_rfl) (fun _ _ _ h => h) (Or.inl ⟨by rfl, ?_⟩) (by assumption) ?_
  rotate_left
  · intro w hSw; (try dsimp only at hSw); go_simp; try with_reducible rfl
  try simp only [Act.put, List.setIfInBounds_toArray, List.set_cons_zero, List.set_cons_succ]
  refine take_at (i := 26) (v := ?_) rfl rfl (by kernel_rfl) (by kernel_rfl) (by kernel_rfl) (fun _ _ _ h => h) (Or.inl ⟨by rfl, ?_⟩) (by assumption) ?_
  rotate_left
  · intro w hSw; (try dsimp only at hSw); go_simp; try with_reducible rfl
  try simp only [Act.put, List.setIfInBounds_toArray, List.set_cons_zero, List.set_cons_succ]
  refine take_at (i := 27) (v := ?_) rfl rfl (by kernel_rfl) (by kernel_rfl) (by kernel_rfl) (fun _ _ _ h => h) (Or.inl ⟨by rfl, ?_⟩) (by assumption) ?_
  rotate_left
  · intro w hSw; (try dsimp only at hSw); go_simp; try with_reducible rfl
  try simp only [Act.put, List.setIfInBounds_toArray, List.set_cons_zero, List.set_cons_succ]
  refine take_at (i := 28) (v := ?_) rfl rfl (by kernel_rfl) (by kernel_rfl) (by kernel_rfl) (fun _ _ _ h => h) (Or.inl ⟨by rfl, ?_⟩) (by assumption) ?_
  rotate_left
  · intro w hSw; (try dsimp only at hSw); go_simp; try with_reducible rfl
  try simp only [Act.put, List.setIfInBounds_toArray, List.set_cons_zero, List.set_cons_succ]
  refine take_at (i := 29) (v := ?_) rfl rfl (by kernel_rfl) (by kernel_rfl) (by kernel_rfl) (fun _ _ _ h => h) (Or.inl ⟨by rfl, ?_⟩) (by assumption) ?_
  rotate_left
  · intro w hSw; (try dsimp only at hSw); go_simp; try with_reducible rfl
  try simp only [Act.put, List.setIfInBounds_toArray, List.set_cons_zero, List.set_cons_succ]
  refine take_at (i := 30) (v := ?_) rfl rfl (by kernel_rfl) (by kernel_rfl) (by kernel_rfl) (fun _ _ _ h => h) (Or.inl ⟨by rfl, ?_⟩) (by assumption) ?_
  rotate_left
  · intro w hSw; (try dsimp only at hSw); go_simp; try with_reducible rfl
  try simp only [Act.put, List.setIfInBounds_toArray, List.set_cons_zero, List.set_cons_succ]
  refine wpAnyH_ready (rs := [31]) (by kernel_rfl) (by simp) ?_
  refine AllReadyH.cons rfl (fun K hK => ?_) AllReadyH.nil
  go_simp
  refine (CC.out g u2 (HNV.out.below hu2') (HG.out.below (below_step HBV.out (Nat.le_refl _) hu2'))).mono ?_
  rintro e u3 ⟨rfl, hu3⟩
  have hu3' : Below V.heap.size V u3 := below_step hu2' (Nat.le_refl _) hu3
  have HBF : Hid (Below w.heap.size w u3) := below_step HBV.out (Nat.le_refl _) hu3'
  refine hK.out _ _ (HSS.out _ hu3') (fun hHeld => ?_)
  clear hK K
  refine take_at (i := 32) (v := ?_) rfl rfl (by kernel_rfl) (by kernel_rfl) (by kernel_rfl) (fun _ _ _ h => h) (Or.inl ⟨by rfl, ?_⟩) (by assumption) ?_
  rotate_left
  · intro w hSw; (try dsimp only at hSw); go_simp; try with_reducible rfl
  try simp only [Act.put, List.setIfInBounds_toArray, List.set_cons_zero, List.set_cons_succ]
  refine take_at (i := 33) (v := ?_) rfl rfl (by kernel_rfl) (by kernel_rfl) (by kernel_rfl) (fun _ _ _ h => h) (Or.inl ⟨by rfl, ?_⟩) (by assumption) ?_
  rotate_left
  · intro w hSw; (try dsimp only at hSw); go_simp; try with_reducible rfl
  try simp only [Act.put, List.setIfInBounds_toArray, List.set_cons_zero, List.set_cons_succ]
  refine take_at (i := 34) (v := ?_) rfl rfl (by kernel_rfl) (by kernel_rfl) (by kernel_rfl) (fun _ _ _ h => h) (Or.inl ⟨by rfl, ?_⟩) (by assumption) ?_
  rotate_left
  · intro w hSw; (try dsimp only at hSw); go_simp; try with_reducible rfl
  try simp only [Act.put, List.setIfInBounds_toArray, List.set_cons_zero, List.set_cons_succ]
  refine wpAnyH_done (by kernel_rfl) (NoPanic.normal ?_) _
  clear CT CC hu1 hu1' hu2 hu2' hu3 hu3'
  go_wp2_with fail
  go_ret
  exact ⟨rfl, HBF.out⟩

theorem awake12_on (w w' : World) (hG : Glob8 w) (hM : MaxL w) (hb : Below w.heap.size w w') :
    Calls Tryz.prog 11 #[] w' fun e w'' => e = .returned (.bool true) ∧ Below w'.heap.size w' w'' := awake12 w' (hG.below hb) (hM.below hb)
end Go.Proofs.YtebnmghjdoblaaaGreatDoor
