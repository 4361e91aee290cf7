/- The code's Sealer (layer 16): Real, Ideal, how; one that nobody made. -/
import Derived.Test.YtfajkkjppelgcaaKept
import Derived.Test.YtfajkkjppelgcaaMapTV
import Derived.Test.YtfajkkjppelgcaaVtP
import Derived.LaidEqlPtr
namespace Go.Proofs.Ytfajkkjppelgcaa
open Go.RowKit
set_option maxRecDepth 100000
set_option linter.unusedSimpArgs false
set_option linter.unusedSectionVars false
variable [Inhabited TabZ]

/-- An ideal way at block i: its seed, how many parts it drew, its table at block m. -/
def IdlAt (w : World) (i m : Nat) (S : ByteArray) (N : Nat) (T : List (ByteArray × Value)) : Prop :=
  Blk w 38 i #[.string S, .int .i64 (N : Int), .map (some m)] ∧ MapTV w m T

theorem IdlAt.ne {w : World} {i m N : Nat} {S : ByteArray} {T : List (ByteArray × Value)} (h : IdlAt w i m S N T) : i ≠ m := by
  obtain ⟨h1, es, clock, h2, _⟩ := h
  intro e
  unfold Blk at h1
  rw [e, h2] at h1
  cases h1

theorem IdlAt.lt {w : World} {i m N : Nat} {S : ByteArray} {T : List (ByteArray × Value)} (h : IdlAt w i m S N T) : i < w.heap.size ∧ m < w.heap.size := ⟨h.1.lt, h.2.lt⟩

theorem IdlAt.on {w w' : World} {i m N : Nat} {S : ByteArray} {T : List (ByteArray × Value)} (h : IdlAt w i m S N T) (hb : Below w.heap.size w w') : IdlAt w' i m S N T := ⟨h.1.on hb, h.2.on hb⟩

theorem IdlAt.low {w w' : World} {B i m N : Nat} {S : ByteArray} {T : List (ByteArray × Value)} (h : IdlAt w i m S N T) (hb : Below B w w') (hi : i < B) (hm : m < B) : IdlAt w' i m S N T := ⟨h.1.below hb hi, h.2.block (hb.block m hm)⟩

theorem IdlAt.kept {w w' : World} {i m i' m' N : Nat} {S : ByteArray} {T : List (ByteArray × Value)} (h : IdlAt w i m S N T) (k : Kept2 i' (some m') w w') (h1 : i ≠ i') (h2 : i ≠ m') (h3 : m ≠ i') (h4 : m ≠ m') : IdlAt w' i m S N T :=
  ⟨h.1.kept k h1 (fun e => h2 (Option.some.inj e)), h.2.block (k.block m h.2.lt h3 (fun e => h4 (Option.some.inj e)))⟩

/-- A sealer at block g: an ideal one; the real one. -/
def SlrV (g i : Nat) : Array Value := #[.pointer (some ⟨g, 0, none⟩), .iface 35 (.pointer (some ⟨i, 0, none⟩))]

def RealV (g : Nat) : Array Value := #[.pointer (some ⟨g, 0, none⟩), .iface 45 (.agg #[])]

def SlrAt (w : World) (g i m : Nat) (S : ByteArray) (N : Nat) (T : List (ByteArray × Value)) : Prop := Blk w 47 g (SlrV g i) ∧ IdlAt w i m S N T

def RealAt (w : World) (g : Nat) : Prop := Blk w 47 g (RealV g)

theorem SlrAt.apart {w : World} {g i m N : Nat} {S : ByteArray} {T : List (ByteArray × Value)} (h : SlrAt w g i m S N T) : g ≠ i ∧ g ≠ m := by
  obtain ⟨h0, h1, es, clock, h2, _⟩ := h
  unfold Blk at h0 h1
  refine ⟨fun e => ?_, fun e => ?_⟩
  · rw [e, h1] at h0
    exact absurd h0 (by simp [SlrV])
  · rw [e, h2] at h0
    cases h0

theorem SlrAt.on {w w' : World} {g i m N : Nat} {S : ByteArray} {T : List (ByteArray × Value)} (h : SlrAt w g i m S N T) (hb : Below w.heap.size w w') : SlrAt w' g i m S N T := ⟨h.1.on hb, h.2.on hb⟩

theorem SlrAt.kept {w w' : World} {g i m i' m' N : Nat} {S : ByteArray} {T : List (ByteArray × Value)} (h : SlrAt w g i m S N T) (k : Kept2 i' (some m') w w') (h0 : g ≠ i') (h0' : g ≠ m') (h1 : i ≠ i') (h2 : i ≠ m') (h3 : m ≠ i') (h4 : m ≠ m') : SlrAt w' g i m S N T :=
  ⟨h.1.kept k h0 (fun e => h0' (Option.some.inj e)), h.2.kept k h1 h2 h3 h4⟩

/-- The same sealer, its way turned. -/
theorem SlrAt.turn {w w' : World} {g i m N N' : Nat} {S : ByteArray} {T T' : List (ByteArray × Value)} (h : SlrAt w g i m S N T) (k : Kept2 i (some m) w w') (h' : IdlAt w' i m S N' T') : SlrAt w' g i m S N' T' :=
  ⟨h.1.kept k h.apart.1 (fun e => h.apart.2 (Option.some.inj e)), h'⟩

theorem RealAt.on {w w' : World} {g : Nat} (h : RealAt w g) (hb : Below w.heap.size w w') : RealAt w' g := Blk.on h hb

/-- A sealer that nobody made: nil, or an empty one. -/
def NoSlr (w : World) (p : Value) : Prop := p = .pointer none ∨ ∃ g, p = .pointer (some ⟨g, 0, none⟩) ∧ Blk w 47 g #[.pointer none, .nilIface]

theorem NoSlr.on {w w' : World} {p : Value} (h : NoSlr w p) (hb : Below w.heap.size w w') : NoSlr w' p := h.imp id (fun ⟨g, e, h⟩ => ⟨g, e, Blk.on h hb⟩)

theorem Try.slrInfo : (Try.prog.info? 47).map (·.size) = some 2 := by kernel_rfl

theorem eql_nil_ptrV {P : Program} {tp te : TypeId} (w : World) (a : Addr) (hp : P.underlying tp = some (.pointer te)) : (binOp .neq tp (.pointer none) (.pointer (some a))).run P w = .ok (.bool true) w := by
  have h : ∀ d : Nat, (Op.equalIn (d + 1) tp (.pointer none) (.pointer (some a))).run P w = .ok false w := fun d => by
    simp [Op.equalIn, run_underlying hp]
  simp only [binOp]
  simp [Op.equal, Op.maxDepth, h 9999]

theorem neq_ptr_sameV {P : Program} {tp te : TypeId} {j : TypeInfo} (w : World) (a : Addr) (hp : P.underlying tp = some (.pointer te)) (hj : P.info? te = some j) : (binOp .neq tp (.pointer (some a)) (.pointer (some a))).run P w = .ok (.bool false) w := by
  have h := run_eql_ptr_same (P := P) w a hp hj
  simp only [binOp] at h ⊢
  simp only [Sem.run_bind, Sem.run_pure] at h ⊢
  cases hq : (Op.equal tp (Value.pointer (some a)) (Value.pointer (some a))).run P w with
  | ok b w1 => rw [hq] at h; simp at h; simp [h]
  | _ => rw [hq] at h; simp at h

set_option maxHeartbeats 1000000 in
theorem vsealer_any (v : Value) (t : TypeId) (w : World) : Calls Try.prog 10 #[.iface t v] w fun e w' => e = .returned (.pointer (some ⟨w.heap.size, 0, none⟩)) ∧ Blk w' 47 w.heap.size #[.pointer (some ⟨w.heap.size, 0, none⟩), .iface t v] ∧ Below w.heap.size w w' := by
  go_enter Try.func10, Try.ntmps10
  go_wp2
  go_ret
  exact ⟨rfl, Blk.new w 47 _, below_new w _⟩

set_option maxHeartbeats 1000000 in
theorem vreal_any (w : World) : Calls Try.prog 9 #[] w fun e w' => e = .returned (.pointer (some ⟨w.heap.size, 0, none⟩)) ∧ RealAt w' w.heap.size ∧ Below w.heap.size w w' := by
  have C : Hid (∀ w, _) := fun w => vsealer_any (.agg #[]) 45 w
  go_enter Try.func9, Try.ntmps9
  go_wp2_with fail
  refine (C.out _).mono ?_
  rintro e w1 ⟨rfl, h1, hb1⟩
  have X1 : Hid (RealAt w1 w.heap.size) := h1
  clear h1
  go_wp2_with fail
  go_ret
  exact ⟨rfl, X1.out, hb1⟩

set_option maxHeartbeats 1000000 in
theorem videal_any (S : ByteArray) (w : World) : Calls Try.prog 5 #[.string S] w fun e w' => ∃ g i m, e = .returned (.pointer (some ⟨g, 0, none⟩)) ∧ SlrAt w' g i m S 0 [] ∧ (w.heap.size ≤ g ∧ w.heap.size ≤ i ∧ w.heap.size ≤ m) ∧ Below w.heap.size w w' := by
  have C : Hid (∀ w v, _) := fun w v => vsealer_any v 35 w
  have hmm := @run_makeMap Try.prog
  go_enter Try.func5, Try.ntmps5
  go_wp2_with fail
  refine (C.out _ _).mono ?_
  rintro e w1 ⟨rfl, h1, hb1⟩
  simp only [World.size_alloc] at h1 hb1
  have hm0 := MapTV.made w
  have hi0 := Blk.new (w.alloc (.map #[] 0)) 38 #[.string S, .int .i64 0, .map (some w.heap.size)]
  rw [World.size_alloc] at hi0
  have hbw : Below w.heap.size w ((w.alloc (.map #[] 0)).alloc (.cells #[.string S, .int .i64 0, .map (some w.heap.size)] 38)) := (below_new w _).alloc (by simp) _
  have X : Hid (SlrAt w1 (w.heap.size + 1 + 1) (w.heap.size + 1) w.heap.size S 0 []) := ⟨h1, hi0.below hb1 (by omega), (hm0.on (below_new _ _)).block (hb1.block _ (by omega))⟩
  have hB : Hid (Below w.heap.size w w1) := hbw.trans (hb1.mono (by omega))
  clear h1 hb1 hm0 hi0 hbw
  go_wp2_with fail
  go_ret
  refine ⟨_, _, _, rfl, X.out, ⟨by omega, by omega, by omega⟩, hB.out⟩

set_option maxHeartbeats 1000000 in
theorem vhow_any (g : Nat) (t : TypeId) (v : Value) (w : World) (h : Blk w 47 g #[.pointer (some ⟨g, 0, none⟩), .iface t v]) :
    Calls Try.prog 11 #[.pointer (some ⟨g, 0, none⟩)] w fun e w' => e = .returned (.iface t v) ∧ w' = w := by
  obtain ⟨j, hj, _⟩ := Option.map_eq_some_iff.1 Try.slrInfo
  have c0 : w.cell? ⟨g, 0, none⟩ = some (.pointer (some ⟨g, 0, none⟩)) := h.cell 0
  have c1 : w.cell? ⟨g, 1, none⟩ = some (.iface t v) := h.cell 1
  have hq := neq_ptr_sameV (P := Try.prog) w ⟨g, 0, none⟩ Try.underlying25 hj
  clear h
  go_enter Try.func11, Try.ntmps11
  go_wp2
  go_ret
  exact ⟨rfl, rfl⟩

set_option maxHeartbeats 1000000 in
theorem vhow_bad (g : Nat) (w : World) (h : Blk w 47 g #[.pointer none, .nilIface]) :
    Calls Try.prog 11 #[.pointer (some ⟨g, 0, none⟩)] w fun e w' => e = .returned .nilIface ∧ w' = w := by
  have c0 : w.cell? ⟨g, 0, none⟩ = some (.pointer none) := h.cell 0
  have hq := eql_nil_ptrV (P := Try.prog) w ⟨g, 0, none⟩ Try.underlying25
  clear h
  go_enter Try.func11, Try.ntmps11
  go_wp2
  go_ret
  exact ⟨rfl, rfl⟩

set_option maxHeartbeats 1000000 in
theorem vhow_nil (w : World) :
    Calls Try.prog 11 #[.pointer none] w fun e w' => e = .returned .nilIface ∧ w' = w := by
  go_enter Try.func11, Try.ntmps11
  go_wp2
  go_ret
  exact ⟨rfl, rfl⟩

theorem vhow_no (p : Value) (w : World) (h : NoSlr w p) : Calls Try.prog 11 #[p] w fun e w' => e = .returned .nilIface ∧ w' = w := by
  rcases h with rfl | ⟨g, rfl, h⟩
  · exact vhow_nil w
  · exact vhow_bad g w h

/-- The way as an ideal one, by the two assertions. -/
def wayP : Value → Value
  | .iface t v => if t = 35 then v else .pointer none
  | _ => .pointer none

set_option maxHeartbeats 1000000 in
theorem asIdeal_yes (p : Value) (w : World) : Calls Try.prog 12 #[.iface 35 p] w fun e w' => e = .returned (.tuple #[p, .bool true]) ∧ w' = w := by
  have ha : (Instr.typeAssert (.iface 35 p) 40 35 true).run Try.prog w = .ok (.tuple #[p, .bool true]) w := by
    unfold Instr.typeAssert
    simp only [Sem.run_bind, run_underlying Try.underlying35, Result.andThen_ok]
    rfl
  go_enter Try.func12, Try.ntmps12
  go_wp2
  go_ret2
  exact ⟨rfl, rfl⟩

theorem assert_no (w : World) (v : Value) (h : v = .nilIface ∨ v = .iface 45 (.agg #[])) : (Instr.typeAssert v 40 35 true).run Try.prog w = .ok (.tuple #[.pointer none, .bool false]) w := by
  have hz : ∀ w, (zeroValue 35).run Try.prog w = .ok (.pointer none) w := fun w => by kernel_rfl
  unfold Instr.typeAssert
  rcases h with rfl | rfl
  · simp only [Sem.run_bind, run_underlying Try.underlying35, Result.andThen_ok]
    simp [Sem.run_bind, hz]
  · simp only [Sem.run_bind, run_underlying Try.underlying35, Result.andThen_ok]
    simp [Sem.run_bind, hz]

set_option maxHeartbeats 1000000 in
theorem asIdeal_no (v : Value) (w : World) (h : v = .nilIface ∨ v = .iface 45 (.agg #[])) : Calls Try.prog 12 #[v] w fun e w' => e = .returned (.tuple #[.pointer none, .bool false]) ∧ w' = w := by
  have ha := assert_no w v h
  clear h
  go_enter Try.func12, Try.ntmps12
  go_wp2
  go_ret2
  exact ⟨rfl, rfl⟩

set_option maxHeartbeats 1000000 in
theorem vmany_ideal (g i m N : Nat) (S : ByteArray) (T : List (ByteArray × Value)) (w : World) (h : SlrAt w g i m S N T) :
    Calls Try.prog 8 #[.pointer (some ⟨g, 0, none⟩)] w fun e w' => e = .returned (.int .i64 (T.length : Int)) ∧ w' = w := by
  have C1 : Hid (∀ w', w' = w → _) := fun w' (e : w' = w) => by subst e; exact vhow_any g 35 (.pointer (some ⟨i, 0, none⟩)) w' h.1
  have C2 : Hid (∀ w, _) := fun w => asIdeal_yes (.pointer (some ⟨i, 0, none⟩)) w
  have c2 : w.cell? ⟨i, 2, none⟩ = some (.map (some m)) := h.2.1.cell 2
  obtain ⟨es, clock, hes, hl⟩ := h.2.2.len
  have hlen : ∀ u, (Builtin.len_ #[36] u #[.map (some m)]).run Try.prog w = .ok (.int .i64 (T.length : Int)) w := fun u => by
    unfold Builtin.len_
    simp [Sem.run_bind, run_underlying Try.underlying36, MapKept.run_getObj_map hes, goInt, hl]
  clear h hes
  go_enter Try.func8, Try.ntmps8
  go_wp2_with fail
  refine (C1.out _ rfl).mono ?_
  rintro e w1 ⟨rfl, hw1⟩
  subst hw1
  go_wp2_with fail
  refine (C2.out _).mono ?_
  rintro e w1 ⟨rfl, hw1⟩
  subst hw1
  go_wp2_with fail
  go_ret
  exact ⟨rfl, rfl⟩


set_option maxHeartbeats 1000000 in
theorem vmany_real (g : Nat) (w : World) (h : RealAt w g) :
    Calls Try.prog 8 #[.pointer (some ⟨g, 0, none⟩)] w fun e w' => e = .returned (.int .i64 (-1)) ∧ w' = w := by
  have C1 : Hid (∀ w', w' = w → _) := fun w' (e : w' = w) => by subst e; exact vhow_any g 45 (.agg #[]) w' h
  have C2 : Hid (∀ w, _) := fun w => asIdeal_no (.iface 45 (.agg #[])) w (.inr rfl)
  clear h
  go_enter Try.func8, Try.ntmps8
  go_wp2_with fail
  refine (C1.out _ rfl).mono ?_
  rintro e w1 ⟨rfl, hw1⟩
  subst hw1
  go_wp2_with fail
  refine (C2.out _).mono ?_
  rintro e w1 ⟨rfl, hw1⟩
  subst hw1
  go_wp2_with fail
  go_ret
  exact ⟨rfl, rfl⟩

set_option maxHeartbeats 1000000 in
theorem vmany_no (p : Value) (w : World) (h : NoSlr w p) :
    Calls Try.prog 8 #[p] w fun e w' => e = .returned (.int .i64 (-1)) ∧ w' = w := by
  have C1 : Hid (∀ w', w' = w → _) := fun w' (e : w' = w) => by subst e; exact vhow_no p w' h
  have C2 : Hid (∀ w, _) := fun w => asIdeal_no .nilIface w (.inl rfl)
  clear h
  go_enter Try.func8, Try.ntmps8
  go_wp2_with fail
  refine (C1.out _ rfl).mono ?_
  rintro e w1 ⟨rfl, hw1⟩
  subst hw1
  go_wp2_with fail
  refine (C2.out _).mono ?_
  rintro e w1 ⟨rfl, hw1⟩
  subst hw1
  go_wp2_with fail
  go_ret
  exact ⟨rfl, rfl⟩

end Go.Proofs.Ytfajkkjppelgcaa
