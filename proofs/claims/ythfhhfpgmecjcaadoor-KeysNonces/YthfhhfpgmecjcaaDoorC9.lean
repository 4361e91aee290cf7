import Derived.Test.YthfhhfpgmecjcaaDoorKept
import Derived.Test.YthfhhfpgmecjcaaDoorR9
import Derived.LaidEqlPtr
/- The code's Out (layer 9): as it was made; whether it is well; spoilt; bytes laid behind. -/
namespace Go.Proofs.YthfhhfpgmecjcaaDoor
open Go.RowKit
set_option maxRecDepth 100000
set_option linter.unusedSimpArgs false

/-- An Out at block g that holds S in the row v; one that is spoilt, or that nobody made. -/
def OutOk (w : World) (g : Nat) (v : Value) (S : ByteArray) : Prop :=
  Blk w 57 g #[.pointer (some ⟨g, 0, none⟩), v] ∧ RowB w 5 v S ∧ v.ownBlock ≠ some g ∧ S.size ≤ 65536

def OutBad (w : World) (g : Nat) : Prop := Blk w 57 g #[.pointer none, .slice none 0 0]

theorem OutOk.on {w w' : World} {g : Nat} {v : Value} {S : ByteArray} (h : OutOk w g v S) (hb : Below w.heap.size w w') : OutOk w' g v S := ⟨h.1.on hb, h.2.1.on hb, h.2.2⟩

theorem OutBad.on {w w' : World} {g : Nat} (h : OutBad w g) (hb : Below w.heap.size w w') : OutBad w' g := Blk.on h hb

theorem eql_nil_some {P : Program} {tp te : TypeId} (w : World) (a : Addr) (hp : P.underlying tp = some (.pointer te)) : (binOp .eql tp (.pointer none) (.pointer (some a))).run P w = .ok (.bool false) w := by
  have h : ∀ d : Nat, (Op.equalIn (d + 1) tp (.pointer none) (.pointer (some a))).run P w = .ok false w := fun d => by
    simp [Op.equalIn, run_underlying hp]
  simp only [binOp]
  simp [Op.equal, Op.maxDepth, h 9999]

theorem Tryd.outInfo : (Tryd.prog.info? 57).map (·.size) = some 2 := by kernel_rfl

set_option maxHeartbeats 1000000 in
set_option maxRecDepth 100000 in
theorem newOut_any (w : World) : Calls Tryd.prog 15 #[] w fun e w' => e = .returned (.pointer (some ⟨w.heap.size, 0, none⟩)) ∧ OutOk w' w.heap.size (.slice none 0 0) ByteArray.empty ∧ Below w.heap.size w w' := by
  go_enter Tryd.func15, Tryd.ntmps15
  go_wp2
  go_ret
  refine ⟨rfl, ⟨Blk.new w _ _, RowB.nil _ _, by simp [Value.ownBlock], by decide⟩, below_new w _⟩

set_option maxHeartbeats 1000000 in
set_option maxRecDepth 100000 in
theorem owell_ok (g : Nat) (v : Value) (w : World) (h : Blk w 57 g #[.pointer (some ⟨g, 0, none⟩), v]) :
    Calls Tryd.prog 30 #[.pointer (some ⟨g, 0, none⟩)] w fun e w' => e = .returned (.bool true) ∧ w' = w := by
  obtain ⟨j, hj, _⟩ := Option.map_eq_some_iff.1 Tryd.outInfo
  have c0 : w.cell? ⟨g, 0, none⟩ = some (.pointer (some ⟨g, 0, none⟩)) := h.cell 0
  have hq := run_eql_ptr_same (P := Tryd.prog) w ⟨g, 0, none⟩ Tryd.underlying35 hj
  go_enter Tryd.func30, Tryd.ntmps30
  go_wp2
  go_ret
  exact ⟨rfl, rfl⟩

set_option maxHeartbeats 1000000 in
set_option maxRecDepth 100000 in
theorem owell_bad (g : Nat) (w : World) (h : OutBad w g) :
    Calls Tryd.prog 30 #[.pointer (some ⟨g, 0, none⟩)] w fun e w' => e = .returned (.bool false) ∧ w' = w := by
  have c0 : w.cell? ⟨g, 0, none⟩ = some (.pointer none) := Blk.cell h 0
  have hq := eql_nil_some (P := Tryd.prog) w ⟨g, 0, none⟩ Tryd.underlying35
  go_enter Tryd.func30, Tryd.ntmps30
  go_wp2
  go_ret
  exact ⟨rfl, rfl⟩

set_option maxHeartbeats 1000000 in
set_option maxRecDepth 100000 in
theorem owell_nil (w : World) :
    Calls Tryd.prog 30 #[.pointer none] w fun e w' => e = .returned (.bool false) ∧ w' = w := by
  go_enter Tryd.func30, Tryd.ntmps30
  go_wp2
  go_ret
  exact ⟨rfl, rfl⟩

set_option maxHeartbeats 1000000 in
set_option maxRecDepth 100000 in
theorem ospoil_any (g : Nat) (v : Value) (w : World) (h : Blk w 57 g #[.pointer (some ⟨g, 0, none⟩), v]) :
    Calls Tryd.prog 43 #[.pointer (some ⟨g, 0, none⟩)] w fun e w' => e = .returned (.bool false) ∧ OutBad w' g ∧ Kept2 g none w w' := by
  go_enter Tryd.func43, Tryd.ntmps43
  go_wp2_with (with_reducible refine wpList_storeBlk rfl 57 _ _ rfl g #[.pointer (some ⟨g, 0, none⟩), v] #[.pointer none, .slice none 0 0] ?hx ?hy h rfl ?hi ?h1 ?_)
  try (case hx => rfl)
  try (case hy => rfl)
  try (case hi => kernel_rfl)
  try (case h1 => simp [Value.oneCell'])
  go_ret
  exact ⟨rfl, h.setRow _, (Kept2.refl g none w).setRow _⟩

end Go.Proofs.YthfhhfpgmecjcaaDoor

/- The code's Out (layer 9): bytes laid behind all others. -/
namespace Go.Proofs.YthfhhfpgmecjcaaDoor
open Go.RowKit
set_option maxRecDepth 100000
set_option linter.unusedSimpArgs false


set_option maxHeartbeats 1000000 in
set_option maxRecDepth 100000 in
theorem lay_ok (g : Nat) (v : Value) (S T : ByteArray) (b c : Nat) (w : World) (h : OutOk w g v S) (hb : Row8 w b T.size (bt T)) (hn : S.size + T.size ≤ 65536) :
    Calls Tryd.prog 44 #[.pointer (some ⟨g, 0, none⟩), .slice (some ⟨b, 0, none⟩) T.size c] w fun e w' => e = .returned (.bool true) ∧ ∃ v', OutOk w' g v' (S ++ T) ∧ Kept2 g v.ownBlock w w' ∧ Nx w v.ownBlock v'.ownBlock := by
  obtain ⟨i0, hi, hz0, hz1, hz2⟩ := info_parts Tryd.info5
  obtain ⟨hk, hr, hne, hS⟩ := h
  have hn2 : (S ++ T).size ≤ 65536 := by rw [ByteArray.size_append]; exact hn
  obtain ⟨E, hE⟩ : ∃ E, S ++ T = E := ⟨_, rfl⟩
  rw [hE] at hn2 ⊢
  have HE : Hid (S ++ T = E) := hE
  clear hE
  have hlt := hk.lt
  obtain ⟨ao, cap, hv⟩ := hr.slice
  subst hv
  have c1 : w.cell? ⟨g, 1, none⟩ = some (.slice ao S.size cap) := hk.cell 1
  have g0 : decide ((65536 : Int) < (S.size : Int) + (T.size : Int)) = false := by simp; omega
  go_enter Tryd.func44, Tryd.ntmps44
  go_wp2_with (at_builtin; refine wpList_append_next rfl _ _ 31 5 rfl Tryd.underlying31 hi hz0 hz1 hz2 ?hs hr b c ?hx hb hn ?_)
  case hs => rfl
  case hx => rfl
  intro v2 w2 r2 hg hx
  have hk2 : Blk w2 57 g #[.pointer (some ⟨g, 0, none⟩), .slice ao S.size cap] := hk.kept (Kept2.ofGrown (w.heap.size + 1) hg) (by omega) (fun e => hne e.symm)
  have f1 : w2.frozen? ⟨g, 1, none⟩ = false := hk2.free 1
  have d1 : w2.cell? ⟨g, 1, none⟩ = some (.slice ao S.size cap) := hk2.cell 1
  have hne2 : v2.ownBlock ≠ some g := fun e => by
    rcases hx g e with h' | h'
    · exact hne h'
    · omega
  rw [HE.out] at r2
  obtain ⟨a2, cap2, hv2⟩ := r2.slice
  subst hv2
  go_wp2
  go_ret
  exact ⟨rfl, _, ⟨hk2.setAt 1 _, r2.other ⟨g, 1, none⟩ hne2 _, hne2, hn2⟩, (Kept2.ofGrown g hg).setCell ⟨g, 1, none⟩ rfl _, hx⟩

set_option maxHeartbeats 1000000 in
set_option maxRecDepth 100000 in
theorem lay_no (g : Nat) (v : Value) (S T : ByteArray) (b c : Nat) (w : World) (h : OutOk w g v S) (hn : 65536 < S.size + T.size) (hT : T.size ≤ 1048576) :
    Calls Tryd.prog 44 #[.pointer (some ⟨g, 0, none⟩), .slice (some ⟨b, 0, none⟩) T.size c] w fun e w' => e = .returned (.bool false) ∧ OutBad w' g ∧ Kept2 g none w w' := by
  obtain ⟨hk, hr, hne, hS⟩ := h
  obtain ⟨ao, cap, hv⟩ := hr.slice
  subst hv
  have c1 : w.cell? ⟨g, 1, none⟩ = some (.slice ao S.size cap) := hk.cell 1
  have g0 : decide ((65536 : Int) < (S.size : Int) + (T.size : Int)) = true := by simp; omega
  have HC : Hid (∀ w', w' = w → Calls Tryd.prog 43 #[.pointer (some ⟨g, 0, none⟩)] w' fun e w'' => e = .returned (.bool false) ∧ OutBad w'' g ∧ Kept2 g none w' w'') := fun w' e => by subst e; exact ospoil_any g _ _ hk
  go_enter Tryd.func44, Tryd.ntmps44
  go_wp2_with fail
  refine (HC.out _ rfl).mono ?_
  rintro e w1 ⟨rfl, h1, h2⟩
  go_wp2
  go_ret
  exact ⟨rfl, h1, h2⟩

end Go.Proofs.YthfhhfpgmecjcaaDoor

/- The code's Out (layer 9): a number written. -/
namespace Go.Proofs.YthfhhfpgmecjcaaDoor
open Go.RowKit
set_option maxRecDepth 100000
set_option linter.unusedSimpArgs false

def OutAt (w : World) (g : Nat) (v : Value) (o : ByteArray × Bool) : Prop := if o.2 = true then OutBad w g ∧ v = .slice none 0 0 else OutOk w g v o.1

theorem OutAt.bad {w : World} {g : Nat} {v : Value} {S : ByteArray} : OutAt w g v (S, true) ↔ OutBad w g ∧ v = .slice none 0 0 := by unfold OutAt; rw [if_pos rfl]

theorem OutAt.ok {w : World} {g : Nat} {v : Value} {S : ByteArray} : OutAt w g v (S, false) ↔ OutOk w g v S := by unfold OutAt; rw [if_neg (by simp)]

theorem OutAt.on {w w' : World} {g : Nat} {v : Value} {o : ByteArray × Bool} (h : OutAt w g v o) (hb : Below w.heap.size w w') : OutAt w' g v o := by
  obtain ⟨S, b⟩ := o
  cases b with
  | true => exact OutAt.bad.2 ⟨(OutAt.bad.1 h).1.on hb, (OutAt.bad.1 h).2⟩
  | false => exact OutAt.ok.2 ((OutAt.ok.1 h).on hb)

theorem OutAt.lt {w : World} {g : Nat} {v : Value} {o : ByteArray × Bool} (h : OutAt w g v o) : g < w.heap.size ∧ ∀ k, v.ownBlock = some k → k < w.heap.size := by
  obtain ⟨S, b⟩ := o
  cases b with
  | true =>
    obtain ⟨h1, h2⟩ := OutAt.bad.1 h
    subst h2
    exact ⟨Blk.lt h1, fun k hk => by simp [Value.ownBlock] at hk⟩
  | false =>
    have h' := OutAt.ok.1 h
    exact ⟨h'.1.lt, h'.2.1.lt⟩

theorem layP_true (S T : ByteArray) (h : S.size + T.size ≤ 65536) : layP (S, false) T true = (S ++ T, false) := by unfold layP; rw [if_pos ⟨rfl, rfl, h⟩]

theorem layP_long (S T : ByteArray) (h : 65536 < S.size + T.size) : layP (S, false) T true = (S, true) := by unfold layP; rw [if_neg (fun k => by have h1 : S.size + T.size ≤ 65536 := k.2.2; omega)]

theorem layP_bad (S T : ByteArray) (b : Bool) : layP (S, true) T b = (S, true) := by unfold layP; rw [if_neg (fun k => by cases k.2.1)]

theorem layP_not (o : ByteArray × Bool) (T : ByteArray) : layP o T false = (o.1, true) := by unfold layP; rw [if_neg (fun k => by cases k.1)]

theorem lay_any (g : Nat) (v : Value) (S T : ByteArray) (b c : Nat) (w : World) (h : OutOk w g v S) (hb : Row8 w b T.size (bt T)) (hT : T.size ≤ 1048576) :
    Calls Tryd.prog 44 #[.pointer (some ⟨g, 0, none⟩), .slice (some ⟨b, 0, none⟩) T.size c] w fun e w' => e = .returned (.bool (!(layP (S, false) T true).2)) ∧ ∃ v', OutAt w' g v' (layP (S, false) T true) ∧ Kept2 g v.ownBlock w w' ∧ Nx w v.ownBlock v'.ownBlock := by
  by_cases hn : S.size + T.size ≤ 65536
  · refine (lay_ok g v S T b c w h hb hn).mono ?_
    rintro e w' ⟨rfl, v', h1, h2, h3⟩
    rw [layP_true S T hn]
    exact ⟨rfl, v', OutAt.ok.2 h1, h2, h3⟩
  · refine (lay_no g v S T b c w h (by omega) hT).mono ?_
    rintro e w' ⟨rfl, h1, h2⟩
    rw [layP_long S T (by omega)]
    exact ⟨rfl, _, OutAt.bad.2 ⟨h1, rfl⟩, ⟨h2.os, h2.tape, h2.output, h2.size, fun k a b _ => h2.block k a b (by simp)⟩, fun k hk => by simp [Value.ownBlock] at hk⟩

set_option maxHeartbeats 1000000 in
set_option maxRecDepth 100000 in
theorem number_off (g : Nat) (n most size : Int) (w : World) (h : OutBad w g) :
    Calls Tryd.prog 29 #[.pointer (some ⟨g, 0, none⟩), .int .i64 n, .int .i64 most, .int .i64 size] w fun e w' => e = .returned (.bool false) ∧ w' = w := by
  have HC : Hid (∀ w', w' = w → Calls Tryd.prog 30 #[.pointer (some ⟨g, 0, none⟩)] w' fun e w'' => e = .returned (.bool false) ∧ w'' = w') := fun w' e => by subst e; exact owell_bad g _ h
  go_enter Tryd.func29, Tryd.ntmps29
  go_wp2_with fail
  refine (HC.out _ rfl).mono ?_
  rintro e w1 ⟨rfl, rfl⟩
  go_wp2
  go_ret
  exact ⟨rfl, rfl⟩

set_option maxHeartbeats 1000000 in
set_option maxRecDepth 100000 in
theorem number_nil (n most size : Int) (w : World) :
    Calls Tryd.prog 29 #[.pointer none, .int .i64 n, .int .i64 most, .int .i64 size] w fun e w' => e = .returned (.bool false) ∧ w' = w := by
  go_enter Tryd.func29, Tryd.ntmps29
  go_wp2_with fail
  refine (owell_nil _).mono ?_
  rintro e w1 ⟨rfl, rfl⟩
  go_wp2
  go_ret
  exact ⟨rfl, rfl⟩

set_option maxHeartbeats 1000000 in
set_option maxRecDepth 100000 in
theorem number_no (g : Nat) (v : Value) (S : ByteArray) (n most size : Int) (w : World) (h : OutOk w g v S) (hn : oneOk n most = false) :
    Calls Tryd.prog 29 #[.pointer (some ⟨g, 0, none⟩), .int .i64 n, .int .i64 most, .int .i64 size] w fun e w' => e = .returned (.bool false) ∧ OutBad w' g ∧ Kept2 g none w w' := by
  have HC : Hid (∀ w', w' = w → Calls Tryd.prog 30 #[.pointer (some ⟨g, 0, none⟩)] w' fun e w'' => e = .returned (.bool true) ∧ w'' = w') := fun w' e => by subst e; exact owell_ok g _ _ h.1
  have HS : Hid (∀ w', w' = w → Calls Tryd.prog 43 #[.pointer (some ⟨g, 0, none⟩)] w' fun e w'' => e = .returned (.bool false) ∧ OutBad w'' g ∧ Kept2 g none w' w'') := fun w' e => by subst e; exact ospoil_any g _ _ h.1
  unfold oneOk at hn
  have hor : n < 0 ∨ ¬ n < 0 ∧ most < n := by
    rw [Bool.and_eq_false_iff, decide_eq_false_iff_not, decide_eq_false_iff_not] at hn
    omega
  clear hn
  rcases hor with hl | ⟨hl, hm⟩
  · go_enter Tryd.func29, Tryd.ntmps29
    go_wp2_with fail
    refine (HC.out _ rfl).mono ?_
    rintro e w1 ⟨rfl, rfl⟩
    go_wp2_with fail
    refine (HS.out _ rfl).mono ?_
    rintro e w2 ⟨rfl, h1, h2⟩
    go_wp2
    go_ret
    exact ⟨rfl, h1, h2⟩
  · go_enter Tryd.func29, Tryd.ntmps29
    go_wp2_with fail
    refine (HC.out _ rfl).mono ?_
    rintro e w1 ⟨rfl, rfl⟩
    go_wp2_with fail
    refine (HS.out _ rfl).mono ?_
    rintro e w2 ⟨rfl, h1, h2⟩
    go_wp2
    go_ret
    exact ⟨rfl, h1, h2⟩

end Go.Proofs.YthfhhfpgmecjcaaDoor

/- The code's Out (layer 9): a number that may be, written. -/
namespace Go.Proofs.YthfhhfpgmecjcaaDoor
open Go.RowKit
set_option maxRecDepth 100000
set_option linter.unusedSimpArgs false

theorem row6_new (w : World) (t : TypeId) : Row8 (w.alloc (.cells #[.int .u8 0, .int .u8 0, .int .u8 0, .int .u8 0, .int .u8 0, .int .u8 0] t)) w.heap.size 6 (fun _ => 0) := by
  refine ⟨_, t, _, heap_alloc_last w _, Or.inr rfl, fun j hj => ?_⟩
  match j, hj with
  | 0, _ => rfl
  | 1, _ => rfl
  | 2, _ => rfl
  | 3, _ => rfl
  | 4, _ => rfl
  | 5, _ => rfl

/-- 'b[:k:k]' of an array of n. -/
theorem sliceAt_head {P : Program} {w : World} {t e : TypeId} {n k b : Nat} {i : TypeInfo} (hu : P.underlying t = some (.array n e)) (hi : P.info? e = some i) (hk : k ≤ n) :
    (Instr.sliceAt t (.pointer (some ⟨b, 0, none⟩)) none (some (.int .i64 (k : Int))) (some (.int .i64 (k : Int)))).run P w = .ok (.slice (some ⟨b, 0, none⟩) k k) w := by
  simp [Instr.sliceAt, Instr.sureAddr, run_underlying hu, Instr.sliceBounds, run_sliceBound, sliced, hk, sizeOf, typeInfo, hi, Addr.add]

set_option maxHeartbeats 1000000 in
set_option maxRecDepth 100000 in
theorem number_yes (g : Nat) (v : Value) (S : ByteArray) (N : Nat) (most : Int) (size : Nat) (w : World) (h : OutOk w g v S) (hN : (N : Int) ≤ most) (hs : size ≤ 6) :
    Calls Tryd.prog 29 #[.pointer (some ⟨g, 0, none⟩), .int .i64 (N : Int), .int .i64 most, .int .i64 (size : Int)] w fun e w' => e = .returned (.bool (!(layP (S, false) (bigB (N : Int) size) true).2)) ∧ ∃ v', OutAt w' g v' (layP (S, false) (bigB (N : Int) size) true) ∧ Kept2 g v.ownBlock w w' ∧ Nx w v.ownBlock v'.ownBlock := by
  have HC : Hid (∀ w', w' = w → Calls Tryd.prog 30 #[.pointer (some ⟨g, 0, none⟩)] w' fun e w'' => e = .returned (.bool true) ∧ w'' = w') := fun w' e => by subst e; exact owell_ok g _ _ h.1
  have HL : Hid (∀ w' b, OutOk w' g v S → Row8 w' b size (bt (bigB (N : Int) size)) → Calls Tryd.prog 44 #[.pointer (some ⟨g, 0, none⟩), .slice (some ⟨b, 0, none⟩) size size] w' fun e w'' => e = .returned (.bool (!(layP (S, false) (bigB (N : Int) size) true).2)) ∧ ∃ v', OutAt w'' g v' (layP (S, false) (bigB (N : Int) size) true) ∧ Kept2 g v.ownBlock w' w'' ∧ Nx w' v.ownBlock v'.ownBlock) := fun w' b h1 h2 => by
    have := lay_any g v S (bigB (N : Int) size) b size w' h1 (by rw [bigB_size]; exact h2) (by rw [bigB_size]; omega)
    rw [bigB_size] at this
    exact this
  obtain ⟨o', ho'⟩ : ∃ o', layP (S, false) (bigB (N : Int) size) true = o' := ⟨_, rfl⟩
  rw [ho'] at HL ⊢
  clear ho'
  obtain ⟨q, hq⟩ : ∃ q, (!o'.2) = q := ⟨_, rfl⟩
  rw [hq] at HL ⊢
  clear hq
  obtain ⟨F, HF⟩ : ∃ F, Hid (F = bigF (N : Int) size) := ⟨_, rfl⟩
  have HFl : Hid (∀ i, F i < 256) := by show ∀ i, _; rw [HF.out]; exact bigF_lt _ _
  have HFB : Hid (∀ j, j < size → bt (bigB (N : Int) size) j = F j) := fun j hj => by
    unfold bigB
    rw [bt_bytesOf _ _ _ hj (bigF_lt _ _ _), HF.out]
  have hOK : Hid (OutOk w g v S) := h
  clear h
  go_enter Tryd.func29, Tryd.ntmps29
  go_wp2_with fail
  refine (HC.out _ rfl).mono ?_
  rintro e w1 ⟨rfl, rfl⟩
  have hneg : ¬ ((N : Int) < 0) := by omega
  have hmost : ¬ (most < (N : Int)) := by omega
  go_wp2_with fail
  go_loopw [24] (fun i wr => ∃ k : Nat, k ≤ size ∧ i = .int .i64 (k : Int) ∧ Row8 wr w1.heap.size 6 (cutN F k) ∧ Below w1.heap.size w1 wr) (fun i _ => size - (intOf i).toNat)
  case atStart => exact ⟨0, Nat.zero_le _, rfl, (row6_new w1 _).cast (cutN_nil F), below_new w1 _⟩
  case round =>
    obtain ⟨k, hk, rfl, hrow, hbl⟩ := hrel
    by_cases hlt : k < size
    · obtain ⟨m, hm⟩ : ∃ m : Nat, (size : Int) - 1 - (k : Int) = (m : Int) := ⟨size - 1 - k, by omega⟩
      have hm6 : m ≤ 5 := by omega
      have hk6 : k < 6 := by omega
      have hFk : F k = ((N : Int) / 2 ^ (8 * m) % 256).toNat := by rw [HF.out]; unfold bigF; rw [show size - 1 - k = m by omega]
      have hfz := hrow.free k hk6
      have hcell := hrow.cell k hk6
      have hval : (N : Int) / 2 ^ (8 * m) % 256 = ((F k : Nat) : Int) := by rw [hFk]; omega
      generalize F k = X at hFk hval
      have HX : Hid (X = F k) := by show _ = _; rw [hFk, HF.out]; unfold bigF; rw [show size - 1 - k = m by omega]
      clear hFk
      go_wp2
      refine ⟨⟨k + 1, by omega, rfl, ?_, hbl.setCell (p := ⟨w1.heap.size, k, none⟩) (Nat.le_refl _) _⟩, ?_⟩
      · have h1 := hrow.set k X
        rw [HX.out] at h1 ⊢
        exact h1.cast (cutN_put F k)
      · simp [intOf]; omega
    · have hk' : k = size := by omega
      subst hk'
      have hlr : Hid (Row8 wr w1.heap.size k (bt (bigB (N : Int) k))) := by
        obtain ⟨cs, t, fr, e1, e2, e3⟩ := hrow
        refine ⟨cs, t, fr, e1, e2.imp (fun h => by omega) id, fun j hj => ?_⟩
        rw [e3 j (by omega), HFB.out j hj]
        unfold cutN; rw [if_pos hj]
      clear hrow
      obtain ⟨i0, hi, _⟩ := info_parts Tryd.info5
      have hsl := sliceAt_head (P := Tryd.prog) (w := wr) (b := w1.heap.size) Tryd.underlying68 hi hs
      go_wp2_with fail
      refine Calls.mono (HL.out wr w1.heap.size (hOK.out.on hbl) hlr.out) ?_
      rintro e w2 ⟨rfl, v', h1, h2, h3⟩
      go_wp2
      go_ret
      have hs := hbl.size
      exact ⟨rfl, v', h1, Kept2.behind hbl h2, fun j hj => by
        rcases h3 j hj with h' | h'
        · exact Or.inl h'
        · exact Or.inr (by omega)⟩

end Go.Proofs.YthfhhfpgmecjcaaDoor

/- The code's Out (layer 9): its methods, of one that NewOut gave. -/
namespace Go.Proofs.YthfhhfpgmecjcaaDoor
open Go.RowKit
set_option maxRecDepth 100000
set_option linter.unusedSimpArgs false

/-- The Out at g, whose row was v in w, is o' in w'; nothing else has turned. -/
def OutTo (w : World) (g : Nat) (v : Value) (o' : ByteArray × Bool) (w' : World) : Prop := ∃ v', OutAt w' g v' o' ∧ Kept2 g v.ownBlock w w' ∧ Nx w v.ownBlock v'.ownBlock

theorem OutTo.same {w : World} {g : Nat} {v : Value} {o : ByteArray × Bool} (h : OutAt w g v o) : OutTo w g v o w := ⟨v, h, Kept2.refl _ _ _, Nx.refl _ _⟩

theorem OutTo.bad {w w' : World} {g : Nat} {v : Value} {S : ByteArray} (h : OutBad w' g) (k : Kept2 g none w w') : OutTo w g v (S, true) w' :=
  ⟨_, OutAt.bad.2 ⟨h, rfl⟩, ⟨k.os, k.tape, k.output, k.size, fun j a b _ => k.block j a b (by simp)⟩, fun k hk => by simp [Value.ownBlock] at hk⟩

theorem OutTo.irr {w w' : World} {g : Nat} {v : Value} {S S' : ByteArray} (h : OutTo w g v (S, true) w') : OutTo w g v (S', true) w' := by
  obtain ⟨v', h1, h2⟩ := h
  exact ⟨v', OutAt.bad.2 (OutAt.bad.1 h1), h2⟩

theorem OutTo.cast {w w' : World} {g : Nat} {v : Value} {o o' : ByteArray × Bool} (h : OutTo w g v o w') (e : o.2 = o'.2) (e2 : o.2 = false → o.1 = o'.1) : OutTo w g v o' w' := by
  obtain ⟨S, b⟩ := o
  obtain ⟨S', b'⟩ := o'
  have e' : b = b' := e
  subst e'
  cases b with
  | true => exact h.irr
  | false =>
    have := e2 rfl
    have e3 : S = S' := this
    subst e3; exact h

theorem OutTo.trans {w w1 w2 : World} {g : Nat} {v : Value} {o' : ByteArray × Bool} {v1 : Value} (k1 : Kept2 g v.ownBlock w w1) (n1 : Nx w v.ownBlock v1.ownBlock) (h2 : OutTo w1 g v1 o' w2) : OutTo w g v o' w2 := by
  obtain ⟨v2, a, k2, n2⟩ := h2
  exact ⟨v2, a, k1.trans k2 n1, n1.trans k1.size n2⟩

theorem OutTo.behind {w w1 w2 : World} {g : Nat} {v : Value} {o' : ByteArray × Bool} (hb : Below w.heap.size w w1) (h2 : OutTo w1 g v o' w2) : OutTo w g v o' w2 := OutTo.trans (Kept2.ofBelow g _ hb) (Nx.refl _ _) h2

theorem OutTo.on {w w1 w2 : World} {g : Nat} {v : Value} {o' : ByteArray × Bool} (h : OutTo w g v o' w1) (hb : Below w1.heap.size w1 w2) : OutTo w g v o' w2 := by
  obtain ⟨v2, a, k2, n2⟩ := h
  exact ⟨v2, a.on hb, k2.on hb, n2⟩

theorem number_any (g : Nat) (v : Value) (o : ByteArray × Bool) (n most : Int) (size : Nat) (w : World) (h : OutAt w g v o) (hs : size ≤ 6) :
    Calls Tryd.prog 29 #[.pointer (some ⟨g, 0, none⟩), .int .i64 n, .int .i64 most, .int .i64 (size : Int)] w fun e w' => e = .returned (.bool (!(layP o (bigB n size) (oneOk n most)).2)) ∧ OutTo w g v (layP o (bigB n size) (oneOk n most)) w' := by
  obtain ⟨S, b⟩ := o
  cases b with
  | true =>
    rw [layP_bad]
    refine (number_off g n most size w (OutAt.bad.1 h).1).mono ?_
    rintro e w' ⟨rfl, rfl⟩
    exact ⟨rfl, OutTo.same h⟩
  | false =>
    have h' := OutAt.ok.1 h
    cases hq : oneOk n most with
    | false =>
      rw [layP_not]
      refine (number_no g v S n most size w h' hq).mono ?_
      rintro e w' ⟨rfl, h1, h2⟩
      exact ⟨rfl, OutTo.bad h1 h2⟩
    | true =>
      obtain ⟨N, rfl, hN⟩ := oneOk_nat n most hq
      refine (number_yes g v S N most size w h' hN hs).mono ?_
      rintro e w' ⟨rfl, h1⟩
      exact ⟨rfl, h1⟩

set_option maxHeartbeats 1000000 in
set_option maxRecDepth 100000 in
theorem obyte_any (g : Nat) (v : Value) (o : ByteArray × Bool) (n : Int) (w : World) (h : OutAt w g v o) :
    Calls Tryd.prog 16 #[.pointer (some ⟨g, 0, none⟩), .int .i64 n] w fun e w' => e = .returned (.tuple #[]) ∧ OutTo w g v (numP o n 1 255) w' := by
  have HN : Hid (∀ w', w' = w → Calls Tryd.prog 29 #[.pointer (some ⟨g, 0, none⟩), .int .i64 n, .int .i64 255, .int .i64 1] w' fun e w'' => e = .returned (.bool (!(numP o n 1 255).2)) ∧ OutTo w' g v (numP o n 1 255) w'') := fun w' e => by subst e; exact number_any g v o n 255 1 _ h (by decide)
  go_enter Tryd.func16, Tryd.ntmps16
  go_wp2_with fail
  refine (HN.out _ rfl).mono ?_
  rintro e w1 ⟨rfl, h1⟩
  go_wp2
  go_end0
  exact ⟨rfl, h1⟩

set_option maxHeartbeats 1000000 in
set_option maxRecDepth 100000 in
theorem onum_any (g : Nat) (v : Value) (o : ByteArray × Bool) (n : Int) (w : World) (h : OutAt w g v o) :
    Calls Tryd.prog 18 #[.pointer (some ⟨g, 0, none⟩), .int .i64 n] w fun e w' => e = .returned (.tuple #[]) ∧ OutTo w g v (numP o n 6 1099511627775) w' := by
  have HN : Hid (∀ w', w' = w → Calls Tryd.prog 29 #[.pointer (some ⟨g, 0, none⟩), .int .i64 n, .int .i64 1099511627775, .int .i64 6] w' fun e w'' => e = .returned (.bool (!(numP o n 6 1099511627775).2)) ∧ OutTo w' g v (numP o n 6 1099511627775) w'') := fun w' e => by subst e; exact number_any g v o n 1099511627775 6 _ h (by decide)
  go_enter Tryd.func18, Tryd.ntmps18
  go_wp2_with fail
  refine (HN.out _ rfl).mono ?_
  rintro e w1 ⟨rfl, h1⟩
  go_wp2
  go_end0
  exact ⟨rfl, h1⟩

theorem stamp_two (o : ByteArray × Bool) (t u : Int) : (numP (numP o t 6 1099511627775) u 1 255).2 = (stampP o t u).2 ∧ ((numP (numP o t 6 1099511627775) u 1 255).2 = false → (numP (numP o t 6 1099511627775) u 1 255).1 = (stampP o t u).1) := by
  obtain ⟨S, b⟩ := o
  unfold numP stampP stampOk
  cases b with
  | true => rw [layP_bad, layP_bad, layP_bad]; exact ⟨rfl, fun h => by cases h⟩
  | false =>
    cases h1 : oneOk t 1099511627775 with
    | false => rw [layP_not, layP_bad, Bool.false_and, layP_not]; exact ⟨rfl, fun h => by cases h⟩
    | true =>
      rw [Bool.true_and]
      cases h2 : oneOk u 255 with
      | false => rw [layP_not, layP_not]; exact ⟨rfl, fun h => by cases h⟩
      | true =>
        have e2 : (bigB t 6 ++ bigB u 1).size = 7 := by rw [ByteArray.size_append, bigB_size, bigB_size]
        by_cases c1 : S.size + 7 ≤ 65536
        · rw [layP_true S (bigB t 6) (by rw [bigB_size]; omega), layP_true _ _ (by rw [ByteArray.size_append, bigB_size, bigB_size]; omega), layP_true S _ (by rw [e2]; exact c1)]
          exact ⟨rfl, fun _ => ByteArray.append_assoc⟩
        · rw [layP_long S (bigB t 6 ++ bigB u 1) (by rw [e2]; omega)]
          by_cases c2 : S.size + 6 ≤ 65536
          · rw [layP_true S (bigB t 6) (by rw [bigB_size]; omega), layP_long _ _ (by rw [ByteArray.size_append, bigB_size, bigB_size]; omega)]
            exact ⟨rfl, fun h => by cases h⟩
          · rw [layP_long S (bigB t 6) (by rw [bigB_size]; omega), layP_bad]
            exact ⟨rfl, fun h => by cases h⟩

end Go.Proofs.YthfhhfpgmecjcaaDoor

/- The code's Out (layer 9): a text; Done; an Out that nobody made. -/
namespace Go.Proofs.YthfhhfpgmecjcaaDoor
open Go.RowKit
set_option maxRecDepth 100000
set_option linter.unusedSimpArgs false

theorem text_two (S s : ByteArray) (hs : s.size ≤ 65535) : (layP (S ++ bigB (s.size : Int) 2, false) s true).2 = (textP (S, false) s).2 ∧ ((layP (S ++ bigB (s.size : Int) 2, false) s true).2 = false → (layP (S ++ bigB (s.size : Int) 2, false) s true).1 = (textP (S, false) s).1) := by
  unfold textP
  rw [if_neg (by omega)]
  have e2 : (bigB (s.size : Int) 2 ++ s).size = 2 + s.size := by rw [ByteArray.size_append, bigB_size]
  have e3 : (S ++ bigB (s.size : Int) 2).size = S.size + 2 := by rw [ByteArray.size_append, bigB_size]
  by_cases c : S.size + 2 + s.size ≤ 65536
  · rw [layP_true _ _ (by rw [e3]; exact c), layP_true S _ (by rw [e2]; omega)]
    exact ⟨rfl, fun _ => ByteArray.append_assoc⟩
  · rw [layP_long _ _ (by rw [e3]; omega), layP_long S _ (by rw [e2]; omega)]
    exact ⟨rfl, fun h => by cases h⟩

set_option maxHeartbeats 1000000 in
set_option maxRecDepth 100000 in
theorem odone_any (g : Nat) (v : Value) (o : ByteArray × Bool) (w : World) (h : OutAt w g v o) :
    Calls Tryd.prog 17 #[.pointer (some ⟨g, 0, none⟩)] w fun e w' => e = .returned (doneP o) ∧ w' = w := by
  obtain ⟨S, b⟩ := o
  cases b with
  | true =>
    have HC : Hid (∀ w', w' = w → Calls Tryd.prog 30 #[.pointer (some ⟨g, 0, none⟩)] w' fun e w'' => e = .returned (.bool false) ∧ w'' = w') := fun w' e => by subst e; exact owell_bad g _ (OutAt.bad.1 h).1
    clear h
    go_enter Tryd.func17, Tryd.ntmps17
    go_wp2_with fail
    refine (HC.out _ rfl).mono ?_
    rintro e w1 ⟨rfl, rfl⟩
    go_wp2
    go_ret2
    exact ⟨rfl, rfl⟩
  | false =>
    have h' := OutAt.ok.1 h
    have HC : Hid (∀ w', w' = w → Calls Tryd.prog 30 #[.pointer (some ⟨g, 0, none⟩)] w' fun e w'' => e = .returned (.bool true) ∧ w'' = w') := fun w' e => by subst e; exact owell_ok g _ _ h'.1
    have c1 : w.cell? ⟨g, 1, none⟩ = some v := h'.1.cell 1
    have hcv := h'.2.1.conv (P := Tryd.prog) 31 9 Tryd.underlying31 Tryd.underlying5 Tryd.underlying9
    obtain ⟨ao, cap, hv⟩ := h'.2.1.slice
    subst hv
    clear h h'
    go_enter Tryd.func17, Tryd.ntmps17
    go_wp2_with fail
    refine (HC.out _ rfl).mono ?_
    rintro e w1 ⟨rfl, rfl⟩
    go_wp2
    go_ret2
    exact ⟨rfl, rfl⟩


set_option maxHeartbeats 1000000 in
theorem obyte_nil (n : Int) (w : World) : Calls Tryd.prog 16 #[.pointer none, .int .i64 n] w fun e w' => e = .returned (.tuple #[]) ∧ w' = w := by
  go_enter Tryd.func16, Tryd.ntmps16
  go_wp2_with fail
  refine (number_nil _ _ _ _).mono ?_
  rintro e w1 ⟨rfl, rfl⟩
  go_wp2
  go_end0
  exact ⟨rfl, rfl⟩

set_option maxHeartbeats 1000000 in
theorem onum_nil (n : Int) (w : World) : Calls Tryd.prog 18 #[.pointer none, .int .i64 n] w fun e w' => e = .returned (.tuple #[]) ∧ w' = w := by
  go_enter Tryd.func18, Tryd.ntmps18
  go_wp2_with fail
  refine (number_nil _ _ _ _).mono ?_
  rintro e w1 ⟨rfl, rfl⟩
  go_wp2
  go_end0
  exact ⟨rfl, rfl⟩

set_option maxHeartbeats 1000000 in
theorem odone_nil (w : World) : Calls Tryd.prog 17 #[.pointer none] w fun e w' => e = .returned (.tuple #[.string ⟨#[]⟩, .int .i64 1]) ∧ w' = w := by
  go_enter Tryd.func17, Tryd.ntmps17
  go_wp2_with fail
  refine (owell_nil _).mono ?_
  rintro e w1 ⟨rfl, rfl⟩
  go_wp2
  go_ret2
  exact ⟨rfl, rfl⟩

end Go.Proofs.YthfhhfpgmecjcaaDoor
