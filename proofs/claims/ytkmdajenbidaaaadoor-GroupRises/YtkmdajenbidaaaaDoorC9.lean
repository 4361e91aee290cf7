import Derived.Test.YtkmdajenbidaaaaDoorBA
import Derived.Test.YtkmdajenbidaaaaDoorR9
import Derived.LaidEqlPtr
/- The code's Out (layer 9): as it was made; whether it is well; spoilt; bytes laid behind. -/
namespace Go.Proofs.YtkmdajenbidaaaaDoor
open Go.RowKit
set_option maxRecDepth 100000
set_option linter.unusedSimpArgs false

/-- An Out at block g that holds S in the row v; one that is spoilt, or that nobody made. -/
def OutOk (w : World) (g : Nat) (v : Value) (S : ByteArray) : Prop :=
  Blk w 76 g #[.pointer (some ⟨g, 0, none⟩), v] ∧ RowB w 5 v S ∧ v.ownBlock ≠ some g ∧ S.size ≤ 65536

def OutBad (w : World) (g : Nat) : Prop := Blk w 76 g #[.pointer none, .slice none 0 0]

theorem OutOk.on {w w' : World} {g : Nat} {v : Value} {S : ByteArray} (h : OutOk w g v S) (hb : Below w.heap.size w w') : OutOk w' g v S := ⟨h.1.on hb, h.2.1.on hb, h.2.2⟩

theorem OutBad.on {w w' : World} {g : Nat} (h : OutBad w g) (hb : Below w.heap.size w w') : OutBad w' g := Blk.on h hb

theorem eql_nil_some {P : Program} {tp te : TypeId} (w : World) (a : Addr) (hp : P.underlying tp = some (.pointer te)) : (binOp .eql tp (.pointer none) (.pointer (some a))).run P w = .ok (.bool false) w := by
  have h : ∀ d : Nat, (Op.equalIn (d + 1) tp (.pointer none) (.pointer (some a))).run P w = .ok false w := fun d => by
    simp [Op.equalIn, run_underlying hp]
  simp only [binOp]
  simp [Op.equal, Op.maxDepth, h 9999]

theorem Tryd.outInfo : (Tryd.prog.info? 76).map (·.size) = some 2 := by kernel_rfl

set_option maxHeartbeats 1000000 in
set_option maxRecDepth 100000 in
theorem newOut_any (w : World) : Calls Tryd.prog 24 #[] w fun e w' => e = .returned (.pointer (some ⟨w.heap.size, 0, none⟩)) ∧ OutOk w' w.heap.size (.slice none 0 0) ByteArray.empty ∧ Below w.heap.size w w' := by
  go_enter Tryd.func24, Tryd.ntmps24
  go_wp2
  go_ret
  refine ⟨rfl, ⟨Blk.new w _ _, RowB.nil _ _, by simp [Value.ownBlock], by decide⟩, below_new w _⟩

set_option maxHeartbeats 1000000 in
set_option maxRecDepth 100000 in
theorem owell_ok (g : Nat) (v : Value) (w : World) (h : Blk w 76 g #[.pointer (some ⟨g, 0, none⟩), v]) :
    Calls Tryd.prog 38 #[.pointer (some ⟨g, 0, none⟩)] w fun e w' => e = .returned (.bool true) ∧ w' = w := by
  obtain ⟨j, hj, _⟩ := Option.map_eq_some_iff.1 Tryd.outInfo
  have c0 : w.cell? ⟨g, 0, none⟩ = some (.pointer (some ⟨g, 0, none⟩)) := h.cell 0
  have hq := run_eql_ptr_same (P := Tryd.prog) w ⟨g, 0, none⟩ Tryd.underlying65 hj
  go_enter Tryd.func38, Tryd.ntmps38
  go_wp2
  go_ret
  exact ⟨rfl, rfl⟩

set_option maxHeartbeats 1000000 in
set_option maxRecDepth 100000 in
theorem owell_bad (g : Nat) (w : World) (h : OutBad w g) :
    Calls Tryd.prog 38 #[.pointer (some ⟨g, 0, none⟩)] w fun e w' => e = .returned (.bool false) ∧ w' = w := by
  have c0 : w.cell? ⟨g, 0, none⟩ = some (.pointer none) := Blk.cell h 0
  have hq := eql_nil_some (P := Tryd.prog) w ⟨g, 0, none⟩ Tryd.underlying65
  go_enter Tryd.func38, Tryd.ntmps38
  go_wp2
  go_ret
  exact ⟨rfl, rfl⟩

set_option maxHeartbeats 1000000 in
set_option maxRecDepth 100000 in
theorem owell_nil (w : World) :
    Calls Tryd.prog 38 #[.pointer none] w fun e w' => e = .returned (.bool false) ∧ w' = w := by
  go_enter Tryd.func38, Tryd.ntmps38
  go_wp2
  go_ret
  exact ⟨rfl, rfl⟩

set_option maxHeartbeats 1000000 in
set_option maxRecDepth 100000 in
theorem ospoil_any (g : Nat) (v : Value) (w : World) (h : Blk w 76 g #[.pointer (some ⟨g, 0, none⟩), v]) :
    Calls Tryd.prog 44 #[.pointer (some ⟨g, 0, none⟩)] w fun e w' => e = .returned (.bool false) ∧ OutBad w' g ∧ Kept2 g none w w' := by
  go_enter Tryd.func44, Tryd.ntmps44
  go_wp2_with (with_reducible refine wpList_storeBlk rfl 76 _ _ rfl g #[.pointer (some ⟨g, 0, none⟩), v] #[.pointer none, .slice none 0 0] ?hx ?hy h rfl ?hi ?h1 ?_)
  try (case hx => rfl)
  try (case hy => rfl)
  try (case hi => kernel_rfl)
  try (case h1 => simp [Value.oneCell'])
  go_ret
  exact ⟨rfl, h.setRow _, (Kept2.refl g none w).setRow _⟩

end Go.Proofs.YtkmdajenbidaaaaDoor

/- The code's Out (layer 9): bytes laid behind all others. -/
namespace Go.Proofs.YtkmdajenbidaaaaDoor
open Go.RowKit
set_option maxRecDepth 100000
set_option linter.unusedSimpArgs false


set_option maxHeartbeats 1000000 in
set_option maxRecDepth 100000 in
theorem lay_ok (g : Nat) (v : Value) (S T : ByteArray) (b c : Nat) (w : World) (h : OutOk w g v S) (hb : Row8 w b T.size (bt T)) (hn : S.size + T.size ≤ 65536) :
    Calls Tryd.prog 45 #[.pointer (some ⟨g, 0, none⟩), .slice (some ⟨b, 0, none⟩) T.size c] w fun e w' => e = .returned (.bool true) ∧ ∃ v', OutOk w' g v' (S ++ T) ∧ Kept2 g v.ownBlock w w' ∧ Nx w v.ownBlock v'.ownBlock := by
  obtain ⟨i0, hi, hz0, hz1, hz2⟩ := info_parts Tryd.info5
  obtain ⟨hk, hr, hne, hS⟩ := h
  have hn2 : (S ++ T).size ≤ 65536 := by rw [ByteArray.size_append]; exact hn
  obtain ⟨E, hE⟩ : ∃ E, S ++ T = E := ⟨_, rfl⟩
  rw [hE] at hn2 ⊢
  have HE : Hid (S ++ T = E) := hE
  clear hE
  have hlt := hk.lt
  obtain ⟨ao, cap, hv⟩ := hr.slice
  subst hv
  have c1 : w.cell? ⟨g, 1, none⟩ = some (.slice ao S.size cap) := hk.cell 1
  have g0 : decide ((65536 : Int) < (S.size : Int) + (T.size : Int)) = false := by simp; omega
  go_enter Tryd.func45, Tryd.ntmps45
  go_wp2_with (at_builtin; refine wpList_append_next rfl _ _ 64 5 rfl Tryd.underlying64 hi hz0 hz1 hz2 ?hs hr b c ?hx hb hn ?_)
  case hs => rfl
  case hx => rfl
  intro v2 w2 r2 hg hx
  have hk2 : Blk w2 76 g #[.pointer (some ⟨g, 0, none⟩), .slice ao S.size cap] := hk.kept (Kept2.ofGrown (w.heap.size + 1) hg) (by omega) (fun e => hne e.symm)
  have f1 : w2.frozen? ⟨g, 1, none⟩ = false := hk2.free 1
  have d1 : w2.cell? ⟨g, 1, none⟩ = some (.slice ao S.size cap) := hk2.cell 1
  have hne2 : v2.ownBlock ≠ some g := fun e => by
    rcases hx g e with h' | h'
    · exact hne h'
    · omega
  rw [HE.out] at r2
  obtain ⟨a2, cap2, hv2⟩ := r2.slice
  subst hv2
  go_wp2
  go_ret
  exact ⟨rfl, _, ⟨hk2.setAt 1 _, r2.other ⟨g, 1, none⟩ hne2 _, hne2, hn2⟩, (Kept2.ofGrown g hg).setCell ⟨g, 1, none⟩ rfl _, hx⟩

set_option maxHeartbeats 1000000 in
set_option maxRecDepth 100000 in
theorem lay_no (g : Nat) (v : Value) (S T : ByteArray) (b c : Nat) (w : World) (h : OutOk w g v S) (hn : 65536 < S.size + T.size) (hT : T.size ≤ 1048576) :
    Calls Tryd.prog 45 #[.pointer (some ⟨g, 0, none⟩), .slice (some ⟨b, 0, none⟩) T.size c] w fun e w' => e = .returned (.bool false) ∧ OutBad w' g ∧ Kept2 g none w w' := by
  obtain ⟨hk, hr, hne, hS⟩ := h
  obtain ⟨ao, cap, hv⟩ := hr.slice
  subst hv
  have c1 : w.cell? ⟨g, 1, none⟩ = some (.slice ao S.size cap) := hk.cell 1
  have g0 : decide ((65536 : Int) < (S.size : Int) + (T.size : Int)) = true := by simp; omega
  have HC : Hid (∀ w', w' = w → Calls Tryd.prog 44 #[.pointer (some ⟨g, 0, none⟩)] w' fun e w'' => e = .returned (.bool false) ∧ OutBad w'' g ∧ Kept2 g none w' w'') := fun w' e => by subst e; exact ospoil_any g _ _ hk
  go_enter Tryd.func45, Tryd.ntmps45
  go_wp2_with fail
  refine (HC.out _ rfl).mono ?_
  rintro e w1 ⟨rfl, h1, h2⟩
  go_wp2
  go_ret
  exact ⟨rfl, h1, h2⟩

end Go.Proofs.YtkmdajenbidaaaaDoor

/- The code's Out (layer 9): a number written. -/
namespace Go.Proofs.YtkmdajenbidaaaaDoor
open Go.RowKit
set_option maxRecDepth 100000
set_option linter.unusedSimpArgs false

def OutAt (w : World) (g : Nat) (v : Value) (o : ByteArray × Bool) : Prop := if o.2 = true then OutBad w g ∧ v = .slice none 0 0 else OutOk w g v o.1

theorem OutAt.bad {w : World} {g : Nat} {v : Value} {S : ByteArray} : OutAt w g v (S, true) ↔ OutBad w g ∧ v = .slice none 0 0 := by unfold OutAt; rw [if_pos rfl]

theorem OutAt.ok {w : World} {g : Nat} {v : Value} {S : ByteArray} : OutAt w g v (S, false) ↔ OutOk w g v S := by unfold OutAt; rw [if_neg (by simp)]

theorem OutAt.on {w w' : World} {g : Nat} {v : Value} {o : ByteArray × Bool} (h : OutAt w g v o) (hb : Below w.heap.size w w') : OutAt w' g v o := by
  obtain ⟨S, b⟩ := o
  cases b with
  | true => exact OutAt.bad.2 ⟨(OutAt.bad.1 h).1.on hb, (OutAt.bad.1 h).2⟩
  | false => exact OutAt.ok.2 ((OutAt.ok.1 h).on hb)

theorem OutAt.lt {w : World} {g : Nat} {v : Value} {o : ByteArray × Bool} (h : OutAt w g v o) : g < w.heap.size ∧ ∀ k, v.ownBlock = some k → k < w.heap.size := by
  obtain ⟨S, b⟩ := o
  cases b with
  | true =>
    obtain ⟨h1, h2⟩ := OutAt.bad.1 h
    subst h2
    exact ⟨Blk.lt h1, fun k hk => by simp [Value.ownBlock] at hk⟩
  | false =>
    have h' := OutAt.ok.1 h
    exact ⟨h'.1.lt, h'.2.1.lt⟩

theorem layP_true (S T : ByteArray) (h : S.size + T.size ≤ 65536) : layP (S, false) T true = (S ++ T, false) := by unfold layP; rw [if_pos ⟨rfl, rfl, h⟩]

theorem layP_long (S T : ByteArray) (h : 65536 < S.size + T.size) : layP (S, false) T true = (S, true) := by unfold layP; rw [if_neg (fun k => by have h1 : S.size + T.size ≤ 65536 := k.2.2; omega)]

theorem layP_bad (S T : ByteArray) (b : Bool) : layP (S, true) T b = (S, true) := by unfold layP; rw [if_neg (fun k => by cases k.2.1)]

theorem layP_not (o : ByteArray × Bool) (T : ByteArray) : layP o T false = (o.1, true) := by unfold layP; rw [if_neg (fun k => by cases k.1)]

theorem lay_any (g : Nat) (v : Value) (S T : ByteArray) (b c : Nat) (w : World) (h : OutOk w g v S) (hb : Row8 w b T.size (bt T)) (hT : T.size ≤ 1048576) :
    Calls Tryd.prog 45 #[.pointer (some ⟨g, 0, none⟩), .slice (some ⟨b, 0, none⟩) T.size c] w fun e w' => e = .returned (.bool (!(layP (S, false) T true).2)) ∧ ∃ v', OutAt w' g v' (layP (S, false) T true) ∧ Kept2 g v.ownBlock w w' ∧ Nx w v.ownBlock v'.ownBlock := by
  by_cases hn : S.size + T.size ≤ 65536
  · refine (lay_ok g v S T b c w h hb hn).mono ?_
    rintro e w' ⟨rfl, v', h1, h2, h3⟩
    rw [layP_true S T hn]
    exact ⟨rfl, v', OutAt.ok.2 h1, h2, h3⟩
  · refine (lay_no g v S T b c w h (by omega) hT).mono ?_
    rintro e w' ⟨rfl, h1, h2⟩
    rw [layP_long S T (by omega)]
    exact ⟨rfl, _, OutAt.bad.2 ⟨h1, rfl⟩, ⟨h2.os, h2.tape, h2.output, h2.size, fun k a b _ => h2.block k a b (by simp)⟩, fun k hk => by simp [Value.ownBlock] at hk⟩

set_option maxHeartbeats 1000000 in
set_option maxRecDepth 100000 in
theorem number_off (g : Nat) (n most size : Int) (w : World) (h : OutBad w g) :
    Calls Tryd.prog 37 #[.pointer (some ⟨g, 0, none⟩), .int .i64 n, .int .i64 most, .int .i64 size] w fun e w' => e = .returned (.bool false) ∧ w' = w := by
  have HC : Hid (∀ w', w' = w → Calls Tryd.prog 38 #[.pointer (some ⟨g, 0, none⟩)] w' fun e w'' => e = .returned (.bool false) ∧ w'' = w') := fun w' e => by subst e; exact owell_bad g _ h
  go_enter Tryd.func37, Tryd.ntmps37
  go_wp2_with fail
  refine (HC.out _ rfl).mono ?_
  rintro e w1 ⟨rfl, rfl⟩
  go_wp2
  go_ret
  exact ⟨rfl, rfl⟩

set_option maxHeartbeats 1000000 in
set_option maxRecDepth 100000 in
theorem number_nil (n most size : Int) (w : World) :
    Calls Tryd.prog 37 #[.pointer none, .int .i64 n, .int .i64 most, .int .i64 size] w fun e w' => e = .returned (.bool false) ∧ w' = w := by
  go_enter Tryd.func37, Tryd.ntmps37
  go_wp2_with fail
  refine (owell_nil _).mono ?_
  rintro e w1 ⟨rfl, rfl⟩
  go_wp2
  go_ret
  exact ⟨rfl, rfl⟩

set_option maxHeartbeats 1000000 in
set_option maxRecDepth 100000 in
theorem number_no (g : Nat) (v : Value) (S : ByteArray) (n most size : Int) (w : World) (h : OutOk w g v S) (hn : oneOk n most = false) :
    Calls Tryd.prog 37 #[.pointer (some ⟨g, 0, none⟩), .int .i64 n, .int .i64 most, .int .i64 size] w fun e w' => e = .returned (.bool false) ∧ OutBad w' g ∧ Kept2 g none w w' := by
  have HC : Hid (∀ w', w' = w → Calls Tryd.prog 38 #[.pointer (some ⟨g, 0, none⟩)] w' fun e w'' => e = .returned (.bool true) ∧ w'' = w') := fun w' e => by subst e; exact owell_ok g _ _ h.1
  have HS : Hid (∀ w', w' = w → Calls Tryd.prog 44 #[.pointer (some ⟨g, 0, none⟩)] w' fun e w'' => e = .returned (.bool false) ∧ OutBad w'' g ∧ Kept2 g none w' w'') := fun w' e => by subst e; exact ospoil_any g _ _ h.1
  unfold oneOk at hn
  have hor : n < 0 ∨ ¬ n < 0 ∧ most < n := by
    rw [Bool.and_eq_false_iff, decide_eq_false_iff_not, decide_eq_false_iff_not] at hn
    omega
  clear hn
  rcases hor with hl | ⟨hl, hm⟩
  · go_enter Tryd.func37, Tryd.ntmps37
    go_wp2_with fail
    refine (HC.out _ rfl).mono ?_
    rintro e w1 ⟨rfl, rfl⟩
    go_wp2_with fail
    refine (HS.out _ rfl).mono ?_
    rintro e w2 ⟨rfl, h1, h2⟩
    go_wp2
    go_ret
    exact ⟨rfl, h1, h2⟩
  · go_enter Tryd.func37, Tryd.ntmps37
    go_wp2_with fail
    refine (HC.out _ rfl).mono ?_
    rintro e w1 ⟨rfl, rfl⟩
    go_wp2_with fail
    refine (HS.out _ rfl).mono ?_
    rintro e w2 ⟨rfl, h1, h2⟩
    go_wp2
    go_ret
    exact ⟨rfl, h1, h2⟩

end Go.Proofs.YtkmdajenbidaaaaDoor

/- The code's Out (layer 9): a number that may be, written. -/
namespace Go.Proofs.YtkmdajenbidaaaaDoor
open Go.RowKit
set_option maxRecDepth 100000
set_option linter.unusedSimpArgs false

theorem row6_new (w : World) (t : TypeId) : Row8 (w.alloc (.cells #[.int .u8 0, .int .u8 0, .int .u8 0, .int .u8 0, .int .u8 0, .int .u8 0] t)) w.heap.size 6 (fun _ => 0) := by
  refine ⟨_, t, _, heap_alloc_last w _, Or.inr rfl, fun j hj => ?_⟩
  match j, hj with
  | 0, _ => rfl
  | 1, _ => rfl
  | 2, _ => rfl
  | 3, _ => rfl
  | 4, _ => rfl
  | 5, _ => rfl

/-- 'b[:k:k]' of an array of n. -/
theorem sliceAt_head {P : Program} {w : World} {t e : TypeId} {n k b : Nat} {i : TypeInfo} (hu : P.underlying t = some (.array n e)) (hi : P.info? e = some i) (hk : k ≤ n) :
    (Instr.sliceAt t (.pointer (some ⟨b, 0, none⟩)) none (some (.int .i64 (k : Int))) (some (.int .i64 (k : Int)))).run P w = .ok (.slice (some ⟨b, 0, none⟩) k k) w := by
  simp [Instr.sliceAt, Instr.sureAddr, run_underlying hu, Instr.sliceBounds, run_sliceBound, sliced, hk, sizeOf, typeInfo, hi, Addr.add]

set_option maxHeartbeats 1000000 in
set_option maxRecDepth 100000 in
theorem number_yes (g : Nat) (v : Value) (S : ByteArray) (N : Nat) (most : Int) (size : Nat) (w : World) (h : OutOk w g v S) (hN : (N : Int) ≤ most) (hs : size ≤ 6) :
    Calls Tryd.prog 37 #[.pointer (some ⟨g, 0, none⟩), .int .i64 (N : Int), .int .i64 most, .int .i64 (size : Int)] w fun e w' => e = .returned (.bool (!(layP (S, false) (bigB (N : Int) size) true).2)) ∧ ∃ v', OutAt w' g v' (layP (S, false) (bigB (N : Int) size) true) ∧ Kept2 g v.ownBlock w w' ∧ Nx w v.ownBlock v'.ownBlock := by
  have HC : Hid (∀ w', w' = w → Calls Tryd.prog 38 #[.pointer (some ⟨g, 0, none⟩)] w' fun e w'' => e = .returned (.bool true) ∧ w'' = w') := fun w' e => by subst e; exact owell_ok g _ _ h.1
  have HL : Hid (∀ w' b, OutOk w' g v S → Row8 w' b size (bt (bigB (N : Int) size)) → Calls Tryd.prog 45 #[.pointer (some ⟨g, 0, none⟩), .slice (some ⟨b, 0, none⟩) size size] w' fun e w'' => e = .returned (.bool (!(layP (S, false) (bigB (N : Int) size) true).2)) ∧ ∃ v', OutAt w'' g v' (layP (S, false) (bigB (N : Int) size) true) ∧ Kept2 g v.ownBlock w' w'' ∧ Nx w' v.ownBlock v'.ownBlock) := fun w' b h1 h2 => by
    have := lay_any g v S (bigB (N : Int) size) b size w' h1 (by rw [bigB_size]; exact h2) (by rw [bigB_size]; omega)
    rw [bigB_size] at this
    exact this
  obtain ⟨o', ho'⟩ : ∃ o', layP (S, false) (bigB (N : Int) size) true = o' := ⟨_, rfl⟩
  rw [ho'] at HL ⊢
  clear ho'
  obtain ⟨q, hq⟩ : ∃ q, (!o'.2) = q := ⟨_, rfl⟩
  rw [hq] at HL ⊢
  clear hq
  obtain ⟨F, HF⟩ : ∃ F, Hid (F = bigF (N : Int) size) := ⟨_, rfl⟩
  have HFl : Hid (∀ i, F i < 256) := by show ∀ i, _; rw [HF.out]; exact bigF_lt _ _
  have HFB : Hid (∀ j, j < size → bt (bigB (N : Int) size) j = F j) := fun j hj => by
    unfold bigB
    rw [bt_bytesOf _ _ _ hj (bigF_lt _ _ _), HF.out]
  have hOK : Hid (OutOk w g v S) := h
  clear h
  go_enter Tryd.func37, Tryd.ntmps37
  go_wp2_with fail
  refine (HC.out _ rfl).mono ?_
  rintro e w1 ⟨rfl, rfl⟩
  have hneg : ¬ ((N : Int) < 0) := by omega
  have hmost : ¬ (most < (N : Int)) := by omega
  go_wp2_with fail
  go_loopw [24] (fun i wr => ∃ k : Nat, k ≤ size ∧ i = .int .i64 (k : Int) ∧ Row8 wr w1.heap.size 6 (cutN F k) ∧ Below w1.heap.size w1 wr) (fun i _ => size - (intOf i).toNat)
  case atStart => exact ⟨0, Nat.zero_le _, rfl, (row6_new w1 _).cast (cutN_nil F), below_new w1 _⟩
  case round =>
    obtain ⟨k, hk, rfl, hrow, hbl⟩ := hrel
    by_cases hlt : k < size
    · obtain ⟨m, hm⟩ : ∃ m : Nat, (size : Int) - 1 - (k : Int) = (m : Int) := ⟨size - 1 - k, by omega⟩
      have hm6 : m ≤ 5 := by omega
      have hk6 : k < 6 := by omega
      have hFk : F k = ((N : Int) / 2 ^ (8 * m) % 256).toNat := by rw [HF.out]; unfold bigF; rw [show size - 1 - k = m by omega]
      have hfz := hrow.free k hk6
      have hcell := hrow.cell k hk6
      have hval : (N : Int) / 2 ^ (8 * m) % 256 = ((F k : Nat) : Int) := by rw [hFk]; omega
      generalize F k = X at hFk hval
      have HX : Hid (X = F k) := by show _ = _; rw [hFk, HF.out]; unfold bigF; rw [show size - 1 - k = m by omega]
      clear hFk
      go_wp2
      refine ⟨⟨k + 1, by omega, rfl, ?_, hbl.setCell (p := ⟨w1.heap.size, k, none⟩) (Nat.le_refl _) _⟩, ?_⟩
      · have h1 := hrow.set k X
        rw [HX.out] at h1 ⊢
        exact h1.cast (cutN_put F k)
      · simp [intOf]; omega
    · have hk' : k = size := by omega
      subst hk'
      have hlr : Hid (Row8 wr w1.heap.size k (bt (bigB (N : Int) k))) := by
        obtain ⟨cs, t, fr, e1, e2, e3⟩ := hrow
        refine ⟨cs, t, fr, e1, e2.imp (fun h => by omega) id, fun j hj => ?_⟩
        rw [e3 j (by omega), HFB.out j hj]
        unfold cutN; rw [if_pos hj]
      clear hrow
      obtain ⟨i0, hi, _⟩ := info_parts Tryd.info5
      have hsl := sliceAt_head (P := Tryd.prog) (w := wr) (b := w1.heap.size) Tryd.underlying85 hi hs
      go_wp2_with fail
      refine Calls.mono (HL.out wr w1.heap.size (hOK.out.on hbl) hlr.out) ?_
      rintro e w2 ⟨rfl, v', h1, h2, h3⟩
      go_wp2
      go_ret
      have hs := hbl.size
      exact ⟨rfl, v', h1, Kept2.behind hbl h2, fun j hj => by
        rcases h3 j hj with h' | h'
        · exact Or.inl h'
        · exact Or.inr (by omega)⟩

end Go.Proofs.YtkmdajenbidaaaaDoor

/- The code's Out (layer 9): its methods, of one that NewOut gave. -/
namespace Go.Proofs.YtkmdajenbidaaaaDoor
open Go.RowKit
set_option maxRecDepth 100000
set_option linter.unusedSimpArgs false

/-- The Out at g, whose row was v in w, is o' in w'; nothing else has turned. -/
def OutTo (w : World) (g : Nat) (v : Value) (o' : ByteArray × Bool) (w' : World) : Prop := ∃ v', OutAt w' g v' o' ∧ Kept2 g v.ownBlock w w' ∧ Nx w v.ownBlock v'.ownBlock

theorem OutTo.same {w : World} {g : Nat} {v : Value} {o : ByteArray × Bool} (h : OutAt w g v o) : OutTo w g v o w := ⟨v, h, Kept2.refl _ _ _, Nx.refl _ _⟩

theorem OutTo.bad {w w' : World} {g : Nat} {v : Value} {S : ByteArray} (h : OutBad w' g) (k : Kept2 g none w w') : OutTo w g v (S, true) w' :=
  ⟨_, OutAt.bad.2 ⟨h, rfl⟩, ⟨k.os, k.tape, k.output, k.size, fun j a b _ => k.block j a b (by simp)⟩, fun k hk => by simp [Value.ownBlock] at hk⟩

theorem OutTo.irr {w w' : World} {g : Nat} {v : Value} {S S' : ByteArray} (h : OutTo w g v (S, true) w') : OutTo w g v (S', true) w' := by
  obtain ⟨v', h1, h2⟩ := h
  exact ⟨v', OutAt.bad.2 (OutAt.bad.1 h1), h2⟩

theorem OutTo.cast {w w' : World} {g : Nat} {v : Value} {o o' : ByteArray × Bool} (h : OutTo w g v o w') (e : o.2 = o'.2) (e2 : o.2 = false → o.1 = o'.1) : OutTo w g v o' w' := by
  obtain ⟨S, b⟩ := o
  obtain ⟨S', b'⟩ := o'
  have e' : b = b' := e
  subst e'
  cases b with
  | true => exact h.irr
  | false =>
    have := e2 rfl
    have e3 : S = S' := this
    subst e3; exact h

theorem OutTo.trans {w w1 w2 : World} {g : Nat} {v : Value} {o' : ByteArray × Bool} {v1 : Value} (k1 : Kept2 g v.ownBlock w w1) (n1 : Nx w v.ownBlock v1.ownBlock) (h2 : OutTo w1 g v1 o' w2) : OutTo w g v o' w2 := by
  obtain ⟨v2, a, k2, n2⟩ := h2
  exact ⟨v2, a, k1.trans k2 n1, n1.trans k1.size n2⟩

theorem OutTo.behind {w w1 w2 : World} {g : Nat} {v : Value} {o' : ByteArray × Bool} (hb : Below w.heap.size w w1) (h2 : OutTo w1 g v o' w2) : OutTo w g v o' w2 := OutTo.trans (Kept2.ofBelow g _ hb) (Nx.refl _ _) h2

theorem OutTo.on {w w1 w2 : World} {g : Nat} {v : Value} {o' : ByteArray × Bool} (h : OutTo w g v o' w1) (hb : Below w1.heap.size w1 w2) : OutTo w g v o' w2 := by
  obtain ⟨v2, a, k2, n2⟩ := h
  exact ⟨v2, a.on hb, k2.on hb, n2⟩

theorem number_any (g : Nat) (v : Value) (o : ByteArray × Bool) (n most : Int) (size : Nat) (w : World) (h : OutAt w g v o) (hs : size ≤ 6) :
    Calls Tryd.prog 37 #[.pointer (some ⟨g, 0, none⟩), .int .i64 n, .int .i64 most, .int .i64 (size : Int)] w fun e w' => e = .returned (.bool (!(layP o (bigB n size) (oneOk n most)).2)) ∧ OutTo w g v (layP o (bigB n size) (oneOk n most)) w' := by
  obtain ⟨S, b⟩ := o
  cases b with
  | true =>
    rw [layP_bad]
    refine (number_off g n most size w (OutAt.bad.1 h).1).mono ?_
    rintro e w' ⟨rfl, rfl⟩
    exact ⟨rfl, OutTo.same h⟩
  | false =>
    have h' := OutAt.ok.1 h
    cases hq : oneOk n most with
    | false =>
      rw [layP_not]
      refine (number_no g v S n most size w h' hq).mono ?_
      rintro e w' ⟨rfl, h1, h2⟩
      exact ⟨rfl, OutTo.bad h1 h2⟩
    | true =>
      obtain ⟨N, rfl, hN⟩ := oneOk_nat n most hq
      refine (number_yes g v S N most size w h' hN hs).mono ?_
      rintro e w' ⟨rfl, h1⟩
      exact ⟨rfl, h1⟩

set_option maxHeartbeats 1000000 in
set_option maxRecDepth 100000 in
theorem obyte_any (g : Nat) (v : Value) (o : ByteArray × Bool) (n : Int) (w : World) (h : OutAt w g v o) :
    Calls Tryd.prog 26 #[.pointer (some ⟨g, 0, none⟩), .int .i64 n] w fun e w' => e = .returned (.tuple #[]) ∧ OutTo w g v (numP o n 1 255) w' := by
  have HN : Hid (∀ w', w' = w → Calls Tryd.prog 37 #[.pointer (some ⟨g, 0, none⟩), .int .i64 n, .int .i64 255, .int .i64 1] w' fun e w'' => e = .returned (.bool (!(numP o n 1 255).2)) ∧ OutTo w' g v (numP o n 1 255) w'') := fun w' e => by subst e; exact number_any g v o n 255 1 _ h (by decide)
  go_enter Tryd.func26, Tryd.ntmps26
  go_wp2_with fail
  refine (HN.out _ rfl).mono ?_
  rintro e w1 ⟨rfl, h1⟩
  go_wp2
  go_end0
  exact ⟨rfl, h1⟩

set_option maxHeartbeats 1000000 in
set_option maxRecDepth 100000 in
theorem onum_any (g : Nat) (v : Value) (o : ByteArray × Bool) (n : Int) (w : World) (h : OutAt w g v o) :
    Calls Tryd.prog 25 #[.pointer (some ⟨g, 0, none⟩), .int .i64 n] w fun e w' => e = .returned (.tuple #[]) ∧ OutTo w g v (numP o n 6 1099511627775) w' := by
  have HN : Hid (∀ w', w' = w → Calls Tryd.prog 37 #[.pointer (some ⟨g, 0, none⟩), .int .i64 n, .int .i64 1099511627775, .int .i64 6] w' fun e w'' => e = .returned (.bool (!(numP o n 6 1099511627775).2)) ∧ OutTo w' g v (numP o n 6 1099511627775) w'') := fun w' e => by subst e; exact number_any g v o n 1099511627775 6 _ h (by decide)
  go_enter Tryd.func25, Tryd.ntmps25
  go_wp2_with fail
  refine (HN.out _ rfl).mono ?_
  rintro e w1 ⟨rfl, h1⟩
  go_wp2
  go_end0
  exact ⟨rfl, h1⟩

theorem stamp_two (o : ByteArray × Bool) (t u : Int) : (numP (numP o t 6 1099511627775) u 1 255).2 = (stampP o t u).2 ∧ ((numP (numP o t 6 1099511627775) u 1 255).2 = false → (numP (numP o t 6 1099511627775) u 1 255).1 = (stampP o t u).1) := by
  obtain ⟨S, b⟩ := o
  unfold numP stampP stampOk
  cases b with
  | true => rw [layP_bad, layP_bad, layP_bad]; exact ⟨rfl, fun h => by cases h⟩
  | false =>
    cases h1 : oneOk t 1099511627775 with
    | false => rw [layP_not, layP_bad, Bool.false_and, layP_not]; exact ⟨rfl, fun h => by cases h⟩
    | true =>
      rw [Bool.true_and]
      cases h2 : oneOk u 255 with
      | false => rw [layP_not, layP_not]; exact ⟨rfl, fun h => by cases h⟩
      | true =>
        have e2 : (bigB t 6 ++ bigB u 1).size = 7 := by rw [ByteArray.size_append, bigB_size, bigB_size]
        by_cases c1 : S.size + 7 ≤ 65536
        · rw [layP_true S (bigB t 6) (by rw [bigB_size]; omega), layP_true _ _ (by rw [ByteArray.size_append, bigB_size, bigB_size]; omega), layP_true S _ (by rw [e2]; exact c1)]
          exact ⟨rfl, fun _ => ByteArray.append_assoc⟩
        · rw [layP_long S (bigB t 6 ++ bigB u 1) (by rw [e2]; omega)]
          by_cases c2 : S.size + 6 ≤ 65536
          · rw [layP_true S (bigB t 6) (by rw [bigB_size]; omega), layP_long _ _ (by rw [ByteArray.size_append, bigB_size, bigB_size]; omega)]
            exact ⟨rfl, fun h => by cases h⟩
          · rw [layP_long S (bigB t 6) (by rw [bigB_size]; omega), layP_bad]
            exact ⟨rfl, fun h => by cases h⟩

end Go.Proofs.YtkmdajenbidaaaaDoor

/- The code's Out (layer 9): a text; Done; an Out that nobody made. -/
namespace Go.Proofs.YtkmdajenbidaaaaDoor
open Go.RowKit
set_option maxRecDepth 100000
set_option linter.unusedSimpArgs false

theorem text_two (S s : ByteArray) (hs : s.size ≤ 65535) : (layP (S ++ bigB (s.size : Int) 2, false) s true).2 = (textP (S, false) s).2 ∧ ((layP (S ++ bigB (s.size : Int) 2, false) s true).2 = false → (layP (S ++ bigB (s.size : Int) 2, false) s true).1 = (textP (S, false) s).1) := by
  unfold textP
  rw [if_neg (by omega)]
  have e2 : (bigB (s.size : Int) 2 ++ s).size = 2 + s.size := by rw [ByteArray.size_append, bigB_size]
  have e3 : (S ++ bigB (s.size : Int) 2).size = S.size + 2 := by rw [ByteArray.size_append, bigB_size]
  by_cases c : S.size + 2 + s.size ≤ 65536
  · rw [layP_true _ _ (by rw [e3]; exact c), layP_true S _ (by rw [e2]; omega)]
    exact ⟨rfl, fun _ => ByteArray.append_assoc⟩
  · rw [layP_long _ _ (by rw [e3]; omega), layP_long S _ (by rw [e2]; omega)]
    exact ⟨rfl, fun h => by cases h⟩

set_option maxHeartbeats 1000000 in
set_option maxRecDepth 100000 in
theorem odone_any (g : Nat) (v : Value) (o : ByteArray × Bool) (w : World) (h : OutAt w g v o) :
    Calls Tryd.prog 28 #[.pointer (some ⟨g, 0, none⟩)] w fun e w' => e = .returned (doneP o) ∧ w' = w := by
  obtain ⟨S, b⟩ := o
  cases b with
  | true =>
    have HC : Hid (∀ w', w' = w → Calls Tryd.prog 38 #[.pointer (some ⟨g, 0, none⟩)] w' fun e w'' => e = .returned (.bool false) ∧ w'' = w') := fun w' e => by subst e; exact owell_bad g _ (OutAt.bad.1 h).1
    clear h
    go_enter Tryd.func28, Tryd.ntmps28
    go_wp2_with fail
    refine (HC.out _ rfl).mono ?_
    rintro e w1 ⟨rfl, rfl⟩
    go_wp2
    go_ret2
    exact ⟨rfl, rfl⟩
  | false =>
    have h' := OutAt.ok.1 h
    have HC : Hid (∀ w', w' = w → Calls Tryd.prog 38 #[.pointer (some ⟨g, 0, none⟩)] w' fun e w'' => e = .returned (.bool true) ∧ w'' = w') := fun w' e => by subst e; exact owell_ok g _ _ h'.1
    have c1 : w.cell? ⟨g, 1, none⟩ = some v := h'.1.cell 1
    have hcv := h'.2.1.conv (P := Tryd.prog) 64 9 Tryd.underlying64 Tryd.underlying5 Tryd.underlying9
    obtain ⟨ao, cap, hv⟩ := h'.2.1.slice
    subst hv
    clear h h'
    go_enter Tryd.func28, Tryd.ntmps28
    go_wp2_with fail
    refine (HC.out _ rfl).mono ?_
    rintro e w1 ⟨rfl, rfl⟩
    go_wp2
    go_ret2
    exact ⟨rfl, rfl⟩


set_option maxHeartbeats 1000000 in
theorem obyte_nil (n : Int) (w : World) : Calls Tryd.prog 26 #[.pointer none, .int .i64 n] w fun e w' => e = .returned (.tuple #[]) ∧ w' = w := by
  go_enter Tryd.func26, Tryd.ntmps26
  go_wp2_with fail
  refine (number_nil _ _ _ _).mono ?_
  rintro e w1 ⟨rfl, rfl⟩
  go_wp2
  go_end0
  exact ⟨rfl, rfl⟩

set_option maxHeartbeats 1000000 in
theorem onum_nil (n : Int) (w : World) : Calls Tryd.prog 25 #[.pointer none, .int .i64 n] w fun e w' => e = .returned (.tuple #[]) ∧ w' = w := by
  go_enter Tryd.func25, Tryd.ntmps25
  go_wp2_with fail
  refine (number_nil _ _ _ _).mono ?_
  rintro e w1 ⟨rfl, rfl⟩
  go_wp2
  go_end0
  exact ⟨rfl, rfl⟩

set_option maxHeartbeats 1000000 in
theorem odone_nil (w : World) : Calls Tryd.prog 28 #[.pointer none] w fun e w' => e = .returned (.tuple #[.string ⟨#[]⟩, .int .i64 1]) ∧ w' = w := by
  go_enter Tryd.func28, Tryd.ntmps28
  go_wp2_with fail
  refine (owell_nil _).mono ?_
  rintro e w1 ⟨rfl, rfl⟩
  go_wp2
  go_ret2
  exact ⟨rfl, rfl⟩

end Go.Proofs.YtkmdajenbidaaaaDoor

/- The code's In (layer 9): as it was made; what is wrong with it; what is taken of it. -/
namespace Go.Proofs.YtkmdajenbidaaaaDoor
open Go.RowKit
set_option maxRecDepth 100000
set_option linter.unusedSimpArgs false

/-- An In at block g: the bytes that are left, and what was wrong first (then none are left). One that nobody made. -/
def InAt (w : World) (g : Nat) (i : ByteArray × Int) : Prop :=
  Blk w 79 g #[.pointer (some ⟨g, 0, none⟩), .string i.1, .int .i64 i.2] ∧ (i.2 ≠ 0 → i.1 = ⟨#[]⟩) ∧ i.1.size ≤ 1048576

def InBad (w : World) (g : Nat) : Prop := Blk w 79 g #[.pointer none, .string ⟨#[]⟩, .int .i64 0]

theorem InAt.on {w w' : World} {g : Nat} {i : ByteArray × Int} (h : InAt w g i) (hb : Below w.heap.size w w') : InAt w' g i := ⟨h.1.on hb, h.2⟩

theorem InBad.on {w w' : World} {g : Nat} (h : InBad w g) (hb : Below w.heap.size w w') : InBad w' g := Blk.on h hb

/-- The In at g is i' in w'; nothing else has turned. -/
def InTo (w : World) (g : Nat) (i' : ByteArray × Int) (w' : World) : Prop := InAt w' g i' ∧ Kept2 g none w w'

theorem InTo.same {w : World} {g : Nat} {i : ByteArray × Int} (h : InAt w g i) : InTo w g i w := ⟨h, Kept2.refl _ _ _⟩

theorem InTo.trans {w w1 w2 : World} {g : Nat} {i i' : ByteArray × Int} (h1 : InTo w g i w1) (h2 : InTo w1 g i' w2) : InTo w g i' w2 := ⟨h2.1, h1.2.trans h2.2 (Nx.refl _ _)⟩

theorem InTo.behind {w w1 w2 : World} {g : Nat} {i' : ByteArray × Int} (hb : Below w.heap.size w w1) (h2 : InTo w1 g i' w2) : InTo w g i' w2 := ⟨h2.1, Kept2.behind hb h2.2⟩

theorem InTo.on {w w1 w2 : World} {g : Nat} {i' : ByteArray × Int} (h : InTo w g i' w1) (hb : Below w1.heap.size w1 w2) : InTo w g i' w2 := ⟨h.1.on hb, h.2.on hb⟩

theorem Tryd.inInfo : (Tryd.prog.info? 79).map (·.size) = some 3 := by kernel_rfl

set_option maxHeartbeats 1000000 in
set_option maxRecDepth 100000 in
theorem newIn_any (s : ByteArray) (w : World) (hs : s.size ≤ 1048576) : Calls Tryd.prog 29 #[.string s] w fun e w' => e = .returned (.pointer (some ⟨w.heap.size, 0, none⟩)) ∧ InAt w' w.heap.size (s, 0) ∧ Below w.heap.size w w' := by
  go_enter Tryd.func29, Tryd.ntmps29
  go_wp2
  go_ret
  exact ⟨rfl, ⟨Blk.new w _ _, fun h => absurd rfl h, hs⟩, below_new w _⟩

set_option maxHeartbeats 1000000 in
set_option maxRecDepth 100000 in
theorem igiven_any (g : Nat) (i : ByteArray × Int) (w : World) (h : InAt w g i) :
    Calls Tryd.prog 50 #[.pointer (some ⟨g, 0, none⟩)] w fun e w' => e = .returned (.bool true) ∧ w' = w := by
  obtain ⟨j, hj, _⟩ := Option.map_eq_some_iff.1 Tryd.inInfo
  have c0 : w.cell? ⟨g, 0, none⟩ = some (.pointer (some ⟨g, 0, none⟩)) := h.1.cell 0
  have hq := run_eql_ptr_same (P := Tryd.prog) w ⟨g, 0, none⟩ Tryd.underlying70 hj
  clear h
  go_enter Tryd.func50, Tryd.ntmps50
  go_wp2
  go_ret
  exact ⟨rfl, rfl⟩

set_option maxHeartbeats 1000000 in
set_option maxRecDepth 100000 in
theorem igiven_bad (g : Nat) (w : World) (h : InBad w g) :
    Calls Tryd.prog 50 #[.pointer (some ⟨g, 0, none⟩)] w fun e w' => e = .returned (.bool false) ∧ w' = w := by
  have c0 : w.cell? ⟨g, 0, none⟩ = some (.pointer none) := Blk.cell h 0
  have hq := eql_nil_some (P := Tryd.prog) w ⟨g, 0, none⟩ Tryd.underlying70
  go_enter Tryd.func50, Tryd.ntmps50
  go_wp2
  go_ret
  exact ⟨rfl, rfl⟩

set_option maxHeartbeats 1000000 in
set_option maxRecDepth 100000 in
theorem igiven_nil (w : World) :
    Calls Tryd.prog 50 #[.pointer none] w fun e w' => e = .returned (.bool false) ∧ w' = w := by
  go_enter Tryd.func50, Tryd.ntmps50
  go_wp2
  go_ret
  exact ⟨rfl, rfl⟩

/-- An In that nobody made: nil, or an empty one. -/
def NoIn (w : World) (p : Value) : Prop := p = .pointer none ∨ ∃ g, p = .pointer (some ⟨g, 0, none⟩) ∧ InBad w g

theorem NoIn.on {w w' : World} {p : Value} (h : NoIn w p) (hb : Below w.heap.size w w') : NoIn w' p := h.imp id (fun ⟨g, e, h⟩ => ⟨g, e, h.on hb⟩)

theorem igiven_no (p : Value) (w : World) (h : NoIn w p) : Calls Tryd.prog 50 #[p] w fun e w' => e = .returned (.bool false) ∧ w' = w := by
  rcases h with rfl | ⟨g, rfl, h⟩
  · exact igiven_nil w
  · exact igiven_bad g w h


set_option maxHeartbeats 1000000 in
set_option maxRecDepth 100000 in
theorem iwell_any (g : Nat) (i : ByteArray × Int) (w : World) (h : InAt w g i) :
    Calls Tryd.prog 47 #[.pointer (some ⟨g, 0, none⟩)] w fun e w' => e = .returned (.bool (decide (i.2 = 0))) ∧ w' = w := by
  obtain ⟨S, c⟩ := i
  have HC : Hid (∀ w', w' = w → Calls Tryd.prog 50 #[.pointer (some ⟨g, 0, none⟩)] w' fun e w'' => e = .returned (.bool true) ∧ w'' = w') := fun w' e => by subst e; exact igiven_any g _ _ h
  have c2 : w.cell? ⟨g, 2, none⟩ = some (.int .i64 c) := h.1.cell 2
  clear h
  show Calls _ _ _ _ fun e w' => e = .returned (.bool (decide (c = 0))) ∧ w' = w
  go_enter Tryd.func47, Tryd.ntmps47
  go_wp2_with fail
  refine (HC.out _ rfl).mono ?_
  rintro e w1 ⟨rfl, rfl⟩
  go_wp2
  go_ret
  exact ⟨rfl, rfl⟩

set_option maxHeartbeats 1000000 in
set_option maxRecDepth 100000 in
theorem iwell_no (p : Value) (w : World) (h : NoIn w p) :
    Calls Tryd.prog 47 #[p] w fun e w' => e = .returned (.bool false) ∧ w' = w := by
  have HC : Hid (∀ w', w' = w → Calls Tryd.prog 50 #[p] w' fun e w'' => e = .returned (.bool false) ∧ w'' = w') := fun w' e => by subst e; exact igiven_no p _ h
  clear h
  go_enter Tryd.func47, Tryd.ntmps47
  go_wp2_with fail
  refine (HC.out _ rfl).mono ?_
  rintro e w1 ⟨rfl, rfl⟩
  go_wp2
  go_ret
  exact ⟨rfl, rfl⟩

set_option maxHeartbeats 1000000 in
set_option maxRecDepth 100000 in
theorem irest_any (g : Nat) (i : ByteArray × Int) (w : World) (h : InAt w g i) :
    Calls Tryd.prog 46 #[.pointer (some ⟨g, 0, none⟩)] w fun e w' => e = .returned (.int .i64 (i.1.size : Int)) ∧ w' = w := by
  obtain ⟨S, c⟩ := i
  have HC : Hid (∀ w', w' = w → Calls Tryd.prog 47 #[.pointer (some ⟨g, 0, none⟩)] w' fun e w'' => e = .returned (.bool (decide (c = 0))) ∧ w'' = w') := fun w' e => by subst e; exact iwell_any g _ _ h
  have c1 : w.cell? ⟨g, 1, none⟩ = some (.string S) := h.1.cell 1
  have hw : c ≠ 0 → S = ⟨#[]⟩ := h.2.1
  clear h
  show Calls _ _ _ _ fun e w' => e = .returned (.int .i64 (S.size : Int)) ∧ w' = w
  by_cases hc : c = 0
  · rw [decide_eq_true hc] at HC
    clear hw hc
    go_enter Tryd.func46, Tryd.ntmps46
    go_wp2_with fail
    refine (HC.out _ rfl).mono ?_
    rintro e w1 ⟨rfl, rfl⟩
    go_wp2
    go_ret
    exact ⟨rfl, rfl⟩
  · rw [decide_eq_false hc] at HC
    have := hw hc
    subst this
    clear hw hc
    go_enter Tryd.func46, Tryd.ntmps46
    go_wp2_with fail
    refine (HC.out _ rfl).mono ?_
    rintro e w1 ⟨rfl, rfl⟩
    go_wp2
    go_ret
    exact ⟨rfl, rfl⟩

set_option maxHeartbeats 1000000 in
set_option maxRecDepth 100000 in
theorem irest_no (p : Value) (w : World) (h : NoIn w p) :
    Calls Tryd.prog 46 #[p] w fun e w' => e = .returned (.int .i64 0) ∧ w' = w := by
  have HC : Hid (∀ w', w' = w → Calls Tryd.prog 47 #[p] w' fun e w'' => e = .returned (.bool false) ∧ w'' = w') := fun w' e => by subst e; exact iwell_no p _ h
  clear h
  go_enter Tryd.func46, Tryd.ntmps46
  go_wp2_with fail
  refine (HC.out _ rfl).mono ?_
  rintro e w1 ⟨rfl, rfl⟩
  go_wp2
  go_ret
  exact ⟨rfl, rfl⟩

set_option maxHeartbeats 1000000 in
set_option maxRecDepth 100000 in
theorem ifail_any (g : Nat) (i : ByteArray × Int) (x : Int) (w : World) (h : InAt w g i) :
    Calls Tryd.prog 41 #[.pointer (some ⟨g, 0, none⟩), .int .i64 x] w fun e w' => e = .returned (.tuple #[]) ∧ InTo w g (wrongP i x) w' := by
  obtain ⟨S, c⟩ := i
  have HC : Hid (∀ w', w' = w → Calls Tryd.prog 47 #[.pointer (some ⟨g, 0, none⟩)] w' fun e w'' => e = .returned (.bool (decide (c = 0))) ∧ w'' = w') := fun w' e => by subst e; exact iwell_any g _ _ h
  have hI : Hid (InAt w g (S, c)) := h
  have c1 : w.cell? ⟨g, 1, none⟩ = some (.string S) := h.1.cell 1
  have c2 : w.cell? ⟨g, 2, none⟩ = some (.int .i64 c) := h.1.cell 2
  have f1 := h.1.free 1
  have f2 := h.1.free 2
  clear h
  by_cases hc : c = 0
  · rw [decide_eq_true hc] at HC
    have e : wrongP (S, c) x = (⟨#[]⟩, x) := by unfold wrongP; rw [if_pos hc]
    rw [e]
    clear hc e
    go_enter Tryd.func41, Tryd.ntmps41
    go_wp2_with fail
    refine (HC.out _ rfl).mono ?_
    rintro e w1 ⟨rfl, rfl⟩
    go_wp2
    go_end0
    exact ⟨rfl, ⟨(hI.out.1.setAt 2 _).setAt 1 _, fun _ => rfl, Nat.zero_le _⟩, ((Kept2.refl g none _).setCell ⟨g, 2, none⟩ rfl _).setCell ⟨g, 1, none⟩ rfl _⟩
  · rw [decide_eq_false hc] at HC
    have hw : S = ⟨#[]⟩ := hI.out.2.1 hc
    have e : wrongP (S, c) x = (S, c) := by unfold wrongP; rw [if_neg hc, hw]
    rw [e]
    clear hc e hw
    go_enter Tryd.func41, Tryd.ntmps41
    go_wp2_with fail
    refine (HC.out _ rfl).mono ?_
    rintro e w1 ⟨rfl, rfl⟩
    go_wp2
    go_end0
    exact ⟨rfl, InTo.same hI.out⟩

set_option maxHeartbeats 1000000 in
set_option maxRecDepth 100000 in
theorem ifail_no (p : Value) (x : Int) (w : World) (h : NoIn w p) :
    Calls Tryd.prog 41 #[p, .int .i64 x] w fun e w' => e = .returned (.tuple #[]) ∧ w' = w := by
  have HC : Hid (∀ w', w' = w → Calls Tryd.prog 47 #[p] w' fun e w'' => e = .returned (.bool false) ∧ w'' = w') := fun w' e => by subst e; exact iwell_no p _ h
  clear h
  go_enter Tryd.func41, Tryd.ntmps41
  go_wp2_with fail
  refine (HC.out _ rfl).mono ?_
  rintro e w1 ⟨rfl, rfl⟩
  go_wp2
  go_end0
  exact ⟨rfl, rfl⟩

end Go.Proofs.YtkmdajenbidaaaaDoor

/- The code's In (layer 9): bytes taken; the number that bytes are; numbers read. -/
namespace Go.Proofs.YtkmdajenbidaaaaDoor
open Go.RowKit
set_option maxRecDepth 100000
set_option linter.unusedSimpArgs false

set_option maxRecDepth 100000 in
set_option maxHeartbeats 2000000 in
theorem cread_any (S : ByteArray) (w : World) (hs : S.size ≤ 6) :
    Calls Tryd.prog 39 #[.string S] w fun x w' => x = .returned (.int .i64 (accB S S.size : Int)) ∧ w' = w := by
  have HL : Hid (∀ k, k ≤ 6 → accB S k < 281474976710656) := fun k hk => Nat.lt_of_le_of_lt (Nat.le_refl _) (Nat.lt_of_lt_of_le (accB_lt S k) (Nat.le_trans (Nat.pow_le_pow_right (by decide) hk) (by decide)))
  have HA : Hid (∀ k, accB S (k + 1) = accB S k * 256 + bt S k) := fun k => rfl
  have H0 : Hid (accB S 0 = 0) := rfl
  obtain ⟨f, Hf⟩ : ∃ f, Hid (f = accB S) := ⟨_, rfl⟩
  rw [← Hf.out] at HL HA H0
  rw [← Hf.out]
  obtain ⟨V, HV⟩ : ∃ V, Hid (V = f S.size) := ⟨_, rfl⟩
  rw [← HV.out]
  clear Hf
  go_enter Tryd.func39, Tryd.ntmps39
  go_wp2_with fail
  go_loopw [3, 7] (fun x k wr => ∃ j X : Nat, j ≤ S.size ∧ k = .int .i64 j ∧ x = .int .i64 (X : Int) ∧ Hid (X = f j) ∧ wr = w) (fun _ k _ => S.size - (intOf k).toNat)
  case atStart => exact ⟨0, 0, Nat.zero_le _, rfl, rfl, H0.out.symm, rfl⟩
  case round =>
    obtain ⟨j, X, hj, rfl, rfl, HX, rfl⟩ := hrel
    by_cases hlt : j < S.size
    · have bk := bt_get S j hlt
      have lb := bt_lt S j
      have lX : X < 281474976710656 := by rw [HX.out]; exact HL.out j (by omega)
      have HN : Hid (X * 256 + bt S j = f (j + 1)) := by show _ = _; rw [HA.out, HX.out]
      have v2 := or256 X (bt S j) lX lb
      generalize bt S j = y at *
      obtain ⟨U, hU⟩ : ∃ U, U = X * 256 + y := ⟨_, rfl⟩
      rw [← hU] at v2 HN
      clear hU HX
      go_wp2
      refine ⟨⟨j + 1, U, by omega, by go_num, rfl, HN, by first | rfl | trivial⟩, ?_⟩
      simp [intOf]; omega
    · have hjm : j = S.size := by omega
      subst hjm
      have hX : X = V := by rw [HX.out, HV.out]
      subst hX
      clear HX HV
      go_wp2
      go_ret
      exact ⟨rfl, rfl⟩

/-- What n bytes are, that are taken, and what is left. -/
def takeS (i : ByteArray × Int) (n : Nat) : ByteArray := if i.2 ≠ 0 ∨ i.1.size < n then ⟨#[]⟩ else i.1.extract 0 n

def takeI (i : ByteArray × Int) (n : Nat) : ByteArray × Int := if i.2 ≠ 0 ∨ i.1.size < n then wrongP i 90 else (i.1.extract n i.1.size, i.2)




set_option maxRecDepth 100000 in
set_option maxHeartbeats 2000000 in
theorem itake_any (g : Nat) (i : ByteArray × Int) (n : Nat) (w : World) (h : InAt w g i) (hn : n ≤ 1048576) :
    Calls Tryd.prog 40 #[.pointer (some ⟨g, 0, none⟩), .int .i64 (n : Int)] w fun e w' => e = .returned (.string (takeS i n)) ∧ InTo w g (takeI i n) w' := by
  obtain ⟨S, c⟩ := i
  have HR : Hid (∀ w', w' = w → Calls Tryd.prog 46 #[.pointer (some ⟨g, 0, none⟩)] w' fun e w'' => e = .returned (.int .i64 (S.size : Int)) ∧ w'' = w') := fun w' e => by subst e; exact irest_any g _ _ h
  have HF : Hid (∀ w', w' = w → Calls Tryd.prog 41 #[.pointer (some ⟨g, 0, none⟩), .int .i64 90] w' fun e w'' => e = .returned (.tuple #[]) ∧ InTo w' g (wrongP (S, c) 90) w'') := fun w' e => by subst e; exact ifail_any g _ 90 _ h
  have HD : Hid (decide ((wrongP (S, c) 90).2 = 0) = false) := by
    show _ = _
    rw [decide_eq_false_iff_not]
    show ¬ (if c = 0 then (90 : Int) else c) = 0
    split <;> omega
  have hS : S.size ≤ 1048576 := h.2.2
  have hI : Hid (InAt w g (S, c)) := h
  have c1 : w.cell? ⟨g, 1, none⟩ = some (.string S) := h.1.cell 1
  have f1 := h.1.free 1
  clear h
  by_cases hc : c = 0
  · by_cases hz : S.size < n
    · have e1 : takeS (S, c) n = ⟨#[]⟩ := by unfold takeS; rw [if_pos (Or.inr hz)]
      have e2 : takeI (S, c) n = wrongP (S, c) 90 := by unfold takeI; rw [if_pos (Or.inr hz)]
      rw [e1, e2]
      clear e1 e2 hc
      go_enter Tryd.func40, Tryd.ntmps40
      go_wp2_with fail
      refine (HR.out _ rfl).mono ?_
      rintro e w1 ⟨rfl, rfl⟩
      go_wp2_with fail
      refine (HF.out _ rfl).mono ?_
      rintro e w2 ⟨rfl, h2⟩
      have H2 : Hid (InTo w1 g (wrongP (S, c) 90) w2) := h2
      clear h2
      go_wp2_with fail
      refine (iwell_any g _ _ H2.out.1).mono ?_
      rintro e w3 ⟨rfl, rfl⟩
      have hd : decide ((wrongP (S, c) 90).2 = 0) = false := HD.out
      go_wp2
      go_ret
      exact ⟨rfl, H2.out⟩
    · have e1 : takeS (S, c) n = S.extract 0 n := by unfold takeS; rw [if_neg (fun h => h.elim (fun h => h hc) hz)]
      have e2 : takeI (S, c) n = (S.extract n S.size, c) := by unfold takeI; rw [if_neg (fun h => h.elim (fun h => h hc) hz)]
      rw [e1, e2]
      clear e1 e2
      have HW : Hid (∀ w', w' = w → Calls Tryd.prog 47 #[.pointer (some ⟨g, 0, none⟩)] w' fun e w'' => e = .returned (.bool true) ∧ w'' = w') := fun w' e => by
        subst e
        have := iwell_any g (S, c) _ hI.out
        rw [show decide ((S, c).2 = 0) = true from decide_eq_true hc] at this
        exact this
      have HC : Hid (c = 0) := hc
      clear hc
      have i1 : (n : Int) ≤ (S.size : Int) := by omega
      have i2 : n ≤ S.size := by omega
      obtain ⟨A, hA⟩ : ∃ A, S.extract 0 n = A := ⟨_, rfl⟩
      obtain ⟨T, hT⟩ : ∃ T, S.extract n S.size = T := ⟨_, rfl⟩
      have HT : Hid (T.size ≤ 1048576) := by show _ ≤ _; rw [← hT, ByteArray.size_extract]; omega
      rw [hA, hT]
      go_enter Tryd.func40, Tryd.ntmps40
      go_wp2_with fail
      refine (HR.out _ rfl).mono ?_
      rintro e w1 ⟨rfl, rfl⟩
      go_wp2_with fail
      refine (HW.out _ rfl).mono ?_
      rintro e w2 ⟨rfl, rfl⟩
      go_wp2
      go_ret
      exact ⟨rfl, ⟨hI.out.1.setAt 1 _, fun h => absurd HC.out h, HT.out⟩, (Kept2.refl g none _).setCell ⟨g, 1, none⟩ rfl _⟩
  · have e1 : takeS (S, c) n = ⟨#[]⟩ := by unfold takeS; rw [if_pos (Or.inl hc)]
    have e2 : takeI (S, c) n = wrongP (S, c) 90 := by unfold takeI; rw [if_pos (Or.inl hc)]
    rw [e1, e2]
    clear e1 e2
    by_cases hz : S.size < n
    · clear hc
      go_enter Tryd.func40, Tryd.ntmps40
      go_wp2_with fail
      refine (HR.out _ rfl).mono ?_
      rintro e w1 ⟨rfl, rfl⟩
      go_wp2_with fail
      refine (HF.out _ rfl).mono ?_
      rintro e w2 ⟨rfl, h2⟩
      have H2 : Hid (InTo w1 g (wrongP (S, c) 90) w2) := h2
      clear h2
      go_wp2_with fail
      refine (iwell_any g _ _ H2.out.1).mono ?_
      rintro e w3 ⟨rfl, rfl⟩
      have hd : decide ((wrongP (S, c) 90).2 = 0) = false := HD.out
      go_wp2
      go_ret
      exact ⟨rfl, H2.out⟩
    · have e3 : wrongP (S, c) 90 = (S, c) := by
        have hw : S = ⟨#[]⟩ := hI.out.2.1 hc
        unfold wrongP; rw [if_neg hc, hw]
      have HW : Hid (∀ w', w' = w → Calls Tryd.prog 47 #[.pointer (some ⟨g, 0, none⟩)] w' fun e w'' => e = .returned (.bool false) ∧ w'' = w') := fun w' e => by
        subst e
        have := iwell_any g (S, c) _ hI.out
        rw [show decide ((S, c).2 = 0) = false from decide_eq_false hc] at this
        exact this
      rw [e3]
      clear e3 hc HD
      go_enter Tryd.func40, Tryd.ntmps40
      go_wp2_with fail
      refine (HR.out _ rfl).mono ?_
      rintro e w1 ⟨rfl, rfl⟩
      go_wp2_with fail
      refine (HW.out _ rfl).mono ?_
      rintro e w2 ⟨rfl, rfl⟩
      go_wp2
      go_ret
      exact ⟨rfl, InTo.same hI.out⟩

end Go.Proofs.YtkmdajenbidaaaaDoor

/- The code's In (layer 9): its methods, of one that NewIn gave. -/
namespace Go.Proofs.YtkmdajenbidaaaaDoor
open Go.RowKit
set_option maxRecDepth 100000
set_option linter.unusedSimpArgs false

theorem take_number (i : ByteArray × Int) (n : Nat) : (takeI i n, accB (takeS i n) (takeS i n).size) = numberP i n := by
  unfold takeI takeS numberP
  split
  · rfl
  · next h =>
    have hn : n ≤ i.1.size := by
      rcases Nat.lt_or_ge i.1.size n with h' | h'
      · exact absurd (Or.inr h') h
      · exact h'
    have e : (i.1.extract 0 n).size = n := by rw [ByteArray.size_extract]; omega
    rw [e, accB_congr (i.1.extract 0 n) i.1 n (fun j hj => by rw [bt_extract _ 0 n j (by omega) hn, Nat.zero_add])]

theorem takeS_size (i : ByteArray × Int) (n : Nat) : (takeS i n).size ≤ n := by
  unfold takeS
  split
  · exact Nat.zero_le _
  · rw [ByteArray.size_extract]; omega


set_option maxRecDepth 100000 in
set_option maxHeartbeats 2000000 in
theorem ibyte_any (g : Nat) (i : ByteArray × Int) (w : World) (h : InAt w g i) :
    Calls Tryd.prog 31 #[.pointer (some ⟨g, 0, none⟩)] w fun e w' => e = .returned (.int .i64 ((numberP i 1).2 : Int)) ∧ InTo w g (numberP i 1).1 w' := by
  have HT : Hid (∀ w', w' = w → Calls Tryd.prog 40 #[.pointer (some ⟨g, 0, none⟩), .int .i64 1] w' fun e w'' => e = .returned (.string (takeS i 1)) ∧ InTo w' g (takeI i 1) w'') := fun w' e => by subst e; exact itake_any g i 1 _ h (by decide)
  have HRd : Hid (∀ w', Calls Tryd.prog 39 #[.string (takeS i 1)] w' fun e w'' => e = .returned (.int .i64 (accB (takeS i 1) (takeS i 1).size : Int)) ∧ w'' = w') := fun w' => cread_any _ _ (Nat.le_trans (takeS_size i 1) (by decide))
  rw [← take_number i 1]
  show Calls _ _ _ _ fun e w' => e = .returned (.int .i64 ((accB (takeS i 1) (takeS i 1).size : Nat) : Int)) ∧ InTo w g (takeI i 1) w'
  generalize accB (takeS i 1) (takeS i 1).size = n at *
  generalize takeS i 1 = T at *
  generalize takeI i 1 = J at *
  clear h
  go_enter Tryd.func31, Tryd.ntmps31
  go_wp2_with fail
  refine (HT.out _ rfl).mono ?_
  rintro e w1 ⟨rfl, h1⟩
  have H1 : Hid (InTo w g J w1) := h1
  clear h1
  go_wp2_with fail
  refine (HRd.out _).mono ?_
  rintro e w2 ⟨rfl, rfl⟩
  go_wp2
  go_ret
  exact ⟨rfl, H1.out⟩

set_option maxRecDepth 100000 in
set_option maxHeartbeats 2000000 in
theorem inum_any (g : Nat) (i : ByteArray × Int) (w : World) (h : InAt w g i) :
    Calls Tryd.prog 30 #[.pointer (some ⟨g, 0, none⟩)] w fun e w' => e = .returned (.int .i64 ((inNumP i).2 : Int)) ∧ InTo w g (inNumP i).1 w' := by
  have HT : Hid (∀ w', w' = w → Calls Tryd.prog 40 #[.pointer (some ⟨g, 0, none⟩), .int .i64 6] w' fun e w'' => e = .returned (.string (takeS i 6)) ∧ InTo w' g (takeI i 6) w'') := fun w' e => by subst e; exact itake_any g i 6 _ h (by decide)
  have HRd : Hid (∀ w', Calls Tryd.prog 39 #[.string (takeS i 6)] w' fun e w'' => e = .returned (.int .i64 (accB (takeS i 6) (takeS i 6).size : Int)) ∧ w'' = w') := fun w' => cread_any _ _ (takeS_size i 6)
  unfold inNumP
  rw [← take_number i 6]
  show Calls _ _ _ _ fun e w' => e = .returned (.int .i64 (((if 1099511627775 < accB (takeS i 6) (takeS i 6).size then (wrongP (takeI i 6) 91, 0) else (takeI i 6, accB (takeS i 6) (takeS i 6).size)).2 : Nat) : Int)) ∧ InTo w g ((if 1099511627775 < accB (takeS i 6) (takeS i 6).size then (wrongP (takeI i 6) 91, 0) else (takeI i 6, accB (takeS i 6) (takeS i 6).size)).1) w'
  generalize accB (takeS i 6) (takeS i 6).size = n at *
  generalize takeS i 6 = T at *
  generalize takeI i 6 = J at *
  clear h
  by_cases hn : 1099511627775 < n
  · rw [if_pos hn]
    go_enter Tryd.func30, Tryd.ntmps30
    go_wp2_with fail
    refine (HT.out _ rfl).mono ?_
    rintro e w1 ⟨rfl, h1⟩
    have H1 : Hid (InTo w g J w1) := h1
    clear h1
    go_wp2_with fail
    refine (HRd.out _).mono ?_
    rintro e w2 ⟨rfl, rfl⟩
    go_wp2_with fail
    refine (ifail_any g J 91 _ H1.out.1).mono ?_
    rintro e w3 ⟨rfl, h3⟩
    have H3 : Hid (InTo w g (wrongP J 91) w3) := H1.out.trans h3
    clear h3
    go_wp2
    go_ret
    exact ⟨rfl, H3.out⟩
  · rw [if_neg hn]
    go_enter Tryd.func30, Tryd.ntmps30
    go_wp2_with fail
    refine (HT.out _ rfl).mono ?_
    rintro e w1 ⟨rfl, h1⟩
    have H1 : Hid (InTo w g J w1) := h1
    clear h1
    go_wp2_with fail
    refine (HRd.out _).mono ?_
    rintro e w2 ⟨rfl, rfl⟩
    go_wp2
    go_ret
    exact ⟨rfl, H1.out⟩

theorem InAt.none {w : World} {g : Nat} {i : ByteArray × Int} (h : InAt w g i) (hc : i.2 ≠ 0) (e : Int) : wrongP i e = i := by
  obtain ⟨S, c⟩ := i
  have hw : S = ⟨#[]⟩ := h.2.1 hc
  have hc' : ¬ c = 0 := hc
  unfold wrongP
  rw [if_neg hc', hw]

/-- A text, as the code takes it. -/
def inTextC (i : ByteArray × Int) (most : Int) : (ByteArray × Int) × ByteArray :=
  if most < ((numberP i 2).2 : Int) then (wrongP (numberP i 2).1 91, ⟨#[]⟩) else (takeI (numberP i 2).1 (numberP i 2).2, takeS (numberP i 2).1 (numberP i 2).2)

theorem number_wrong (i : ByteArray × Int) (n : Nat) (h : (numberP i n).1.2 ≠ 0) : (numberP i n).2 = 0 := by
  unfold numberP at h ⊢
  split
  · rfl
  · next hc =>
    rw [if_neg hc] at h
    exact absurd (Or.inl h) hc

theorem text_same (i : ByteArray × Int) (most : Int) (hi : ∀ e, (numberP i 2).1.2 ≠ 0 → wrongP (numberP i 2).1 e = (numberP i 2).1) : inTextC i most = inTextP i most := by
  unfold inTextC inTextP
  by_cases hc : (numberP i 2).1.2 ≠ 0
  · rw [if_pos hc, number_wrong i 2 hc]
    unfold takeI takeS
    rw [if_pos (Or.inl hc), if_pos (Or.inl hc), hi 90 hc, hi 91 hc]
    split <;> rfl
  · rw [if_neg hc]
    split
    · rfl
    · unfold takeI takeS
      by_cases hz : (numberP i 2).1.1.size < (numberP i 2).2
      · rw [if_pos (Or.inr hz), if_pos (Or.inr hz), if_pos hz]
      · rw [if_neg (fun h => h.elim hc hz), if_neg (fun h => h.elim hc hz), if_neg hz]

theorem number2_lt (i : ByteArray × Int) : (numberP i 2).2 < 65536 := by
  unfold numberP
  split
  · show 0 < 65536; decide
  · exact Nat.lt_of_lt_of_le (accB_lt i.1 2) (by decide)

/-- A stamp, as the code takes it. -/
def stampI (i : ByteArray × Int) : ByteArray × Int := if i.1.size < 7 then wrongP i 90 else i

def inStampC (i : ByteArray × Int) : (ByteArray × Int) × (Int × Int) :=
  ((numberP (inNumP (stampI i)).1 1).1, (((inNumP (stampI i)).2 : Int), ((numberP (inNumP (stampI i)).1 1).2 : Int)))

end Go.Proofs.YtkmdajenbidaaaaDoor

/- The code's In (layer 9): one that nobody made; its stamps beside the document's. -/
namespace Go.Proofs.YtkmdajenbidaaaaDoor
open Go.RowKit
set_option maxRecDepth 100000
set_option linter.unusedSimpArgs false

set_option maxRecDepth 100000 in
set_option maxHeartbeats 2000000 in
theorem itake_no (p : Value) (n : Int) (w : World) (h : NoIn w p) :
    Calls Tryd.prog 40 #[p, .int .i64 n] w fun e w' => e = .returned (.string ⟨#[]⟩) ∧ w' = w := by
  have HN : Hid (NoIn w p) := h
  clear h
  by_cases hn : 0 < n
  · go_enter Tryd.func40, Tryd.ntmps40
    go_wp2_with fail
    refine (irest_no p _ HN.out).mono ?_
    rintro e w1 ⟨rfl, rfl⟩
    go_wp2_with fail
    refine (ifail_no p 90 _ HN.out).mono ?_
    rintro e w2 ⟨rfl, rfl⟩
    go_wp2_with fail
    refine (iwell_no p _ HN.out).mono ?_
    rintro e w3 ⟨rfl, rfl⟩
    go_wp2
    go_ret
    exact ⟨rfl, rfl⟩
  · go_enter Tryd.func40, Tryd.ntmps40
    go_wp2_with fail
    refine (irest_no p _ HN.out).mono ?_
    rintro e w1 ⟨rfl, rfl⟩
    go_wp2_with fail
    refine (iwell_no p _ HN.out).mono ?_
    rintro e w3 ⟨rfl, rfl⟩
    go_wp2
    go_ret
    exact ⟨rfl, rfl⟩

theorem cread_none (w : World) : Calls Tryd.prog 39 #[.string ⟨#[]⟩] w fun x w' => x = .returned (.int .i64 0) ∧ w' = w := cread_any ⟨#[]⟩ w (Nat.zero_le _)


set_option maxHeartbeats 1000000 in
theorem ibyte_no (p : Value) (w : World) (h : NoIn w p) : Calls Tryd.prog 31 #[p] w fun e w' => e = .returned (.int .i64 0) ∧ w' = w := by
  have HN : Hid (NoIn w p) := h
  clear h
  go_enter Tryd.func31, Tryd.ntmps31
  go_wp2_with fail
  refine (itake_no p _ _ HN.out).mono ?_
  rintro e w1 ⟨rfl, rfl⟩
  go_wp2_with fail
  refine (cread_none _).mono ?_
  rintro e w2 ⟨rfl, rfl⟩
  go_wp2
  go_ret
  exact ⟨rfl, rfl⟩

set_option maxHeartbeats 1000000 in
theorem inum_no (p : Value) (w : World) (h : NoIn w p) : Calls Tryd.prog 30 #[p] w fun e w' => e = .returned (.int .i64 0) ∧ w' = w := by
  have HN : Hid (NoIn w p) := h
  clear h
  go_enter Tryd.func30, Tryd.ntmps30
  go_wp2_with fail
  refine (itake_no p _ _ HN.out).mono ?_
  rintro e w1 ⟨rfl, rfl⟩
  go_wp2_with fail
  refine (cread_none _).mono ?_
  rintro e w2 ⟨rfl, rfl⟩
  go_wp2
  go_ret
  exact ⟨rfl, rfl⟩

/-- The code's stamp is the document's, but where six bytes are a number above the last time. -/
theorem stampC_bad (e : Int) (he : e ≠ 0) : inStampC (⟨#[]⟩, e) = ((⟨#[]⟩, e), (0, 0)) := by
  have h1 : stampI (⟨#[]⟩, e) = (⟨#[]⟩, e) := by
    show (if (0 : Nat) < 7 then wrongP (⟨#[]⟩, e) 90 else _) = _
    rw [if_pos (by decide)]
    unfold wrongP; rw [if_neg he]
  unfold inStampC
  rw [h1, inNum_bad e he]
  show ((numberP (⟨#[]⟩, e) 1).1, (((0 : Nat) : Int), ((numberP (⟨#[]⟩, e) 1).2 : Int))) = _
  rw [number_bad e he]; rfl

theorem stampC_short (t : ByteArray) (h : t.size < 7) : inStampC (t, 0) = ((⟨#[]⟩, 90), (0, 0)) := by
  have h1 : stampI (t, 0) = (⟨#[]⟩, 90) := by
    show (if t.size < 7 then wrongP (t, 0) 90 else _) = _
    rw [if_pos h]
    unfold wrongP; rw [if_pos rfl]
  have h2 := stampC_bad 90 (by decide)
  unfold inStampC at h2 ⊢
  rw [h1]
  have h3 : stampI (⟨#[]⟩, 90) = (⟨#[]⟩, 90) := by
    show (if (0 : Nat) < 7 then wrongP (⟨#[]⟩, 90) 90 else _) = _
    rw [if_pos (by decide)]; rfl
  rw [h3] at h2
  exact h2

theorem inNum_wrong (i : ByteArray × Int) (h : (inNumP i).1.2 ≠ 0) : (inNumP i).2 = 0 := by
  unfold inNumP at h ⊢
  split
  · rfl
  · next hc =>
    rw [if_neg hc] at h
    exact number_wrong i 6 h

theorem stampC_long (t : ByteArray) (h : 7 ≤ t.size) : inStampC (t, 0) = inStampP (t, 0) := by
  have h1 : stampI (t, 0) = (t, 0) := by
    show (if t.size < 7 then _ else (t, (0 : Int))) = _
    rw [if_neg (by omega)]
  unfold inStampC inStampP
  rw [h1]
  by_cases hc : (numberP (inNumP (t, 0)).1 1).1.2 ≠ 0
  · rw [if_pos hc, number_wrong _ 1 hc]
    have hw : (inNumP (t, 0)).1.2 ≠ 0 := by
      intro e
      have e1 : (inNumP (t, 0)) = numberP (t, 0) 6 := by
        unfold inNumP at e ⊢
        split
        · next h' =>
          rw [if_pos h'] at e
          unfold wrongP at e
          have : (if (numberP (t, 0) 6).1.2 = 0 then (91 : Int) else (numberP (t, 0) 6).1.2) = 0 := e
          split at this <;> contradiction
        · rfl
      have e2 : numberP (t, 0) 6 = ((t.extract 6 t.size, 0), accB t 6) := by
        unfold numberP
        rw [if_neg (by rintro (h' | h'); exact h' rfl; have h2 : t.size < 6 := h'; omega)]
      have hs : (t.extract 6 t.size).size = t.size - 6 := by rw [ByteArray.size_extract]; omega
      rw [e1, e2] at hc
      apply hc
      show (numberP (t.extract 6 t.size, 0) 1).1.2 = 0
      unfold numberP
      rw [if_neg (by rintro (h' | h'); exact h' rfl; have h2 : (t.extract 6 t.size).size < 1 := h'; omega)]
    rw [inNum_wrong _ hw]; rfl
  · rw [if_neg hc]

theorem stampC_same (t : ByteArray) (h : t.size ≠ 6 ∨ accB t 6 ≤ 1099511627775) : inStampC (t, 0) = inStampP (t, 0) := by
  by_cases hz : 7 ≤ t.size
  · exact stampC_long t hz
  · rw [stampC_short t (by omega)]
    unfold inStampP
    by_cases h6 : t.size = 6
    · have hl : accB t 6 ≤ 1099511627775 := h.resolve_left (fun h => h h6)
      have e2 : numberP (t, 0) 6 = ((t.extract 6 t.size, 0), accB t 6) := by
        unfold numberP
        rw [if_neg (by rintro (h' | h'); exact h' rfl; have h2 : t.size < 6 := h'; omega)]
      have e3 : inNumP (t, 0) = ((t.extract 6 t.size, 0), accB t 6) := by
        unfold inNumP
        rw [e2, if_neg (by show ¬ 1099511627775 < accB t 6; omega)]
      have hs : (t.extract 6 t.size).size = 0 := by rw [ByteArray.size_extract]; omega
      have e4 : numberP (t.extract 6 t.size, 0) 1 = ((⟨#[]⟩, 90), 0) := by
        unfold numberP
        rw [if_pos (Or.inr (by show (t.extract 6 t.size).size < 1; omega))]; rfl
      rw [e3]
      show _ = (if (numberP (t.extract 6 t.size, 0) 1).1.2 ≠ 0 then _ else _)
      rw [e4, if_pos (by decide)]
    · have e2 : numberP (t, 0) 6 = ((⟨#[]⟩, 90), 0) := by
        unfold numberP
        rw [if_pos (Or.inr (by show t.size < 6; omega))]; rfl
      have e3 : inNumP (t, 0) = ((⟨#[]⟩, 90), 0) := by
        unfold inNumP
        rw [e2]; rfl
      rw [e3]
      show _ = (if (numberP (⟨#[]⟩, 90) 1).1.2 ≠ 0 then _ else _)
      rw [number_bad 90 (by decide), if_pos (by decide)]

end Go.Proofs.YtkmdajenbidaaaaDoor

/- Layer 9's laws: few parts; a part written on both sides. -/
namespace Go.Proofs.YtkmdajenbidaaaaDoor
open Go.RowKit
set_option maxRecDepth 100000
set_option linter.unusedSimpArgs false

def partV (p : Int × Int × Int × ByteArray) : Value := .agg #[.int .i64 (kd p), .int .i64 (pn p), .int .i64 (pm p), .string (ps p)]

def FewB (s : ByteArray) : Prop := ¬ (512 < s.size ∧ s.size ≤ 32768) ∧ s.size ≤ 131072

def FewP (l : List (Int × Int × Int × ByteArray)) (n : Nat) : Prop := n ≤ 40 ∧ ∀ i, i < n → FewB (ps (ptL l i))

theorem PartsAt.some {w : World} {a : Option Addr} {n : Nat} {l : List (Int × Int × Int × ByteArray)} (h : PartsAt w a n l) (hn : 0 < n) :
    ∃ b off, a = some ⟨b, off, none⟩ ∧ ∀ i, i < n → w.cell? ⟨b, off + i * 4, none⟩ = some (.int .i64 (kd (ptL l i))) ∧ w.cell? ⟨b, off + i * 4 + 1, none⟩ = some (.int .i64 (pn (ptL l i))) ∧ w.cell? ⟨b, off + i * 4 + 2, none⟩ = some (.int .i64 (pm (ptL l i))) ∧ w.cell? ⟨b, off + i * 4 + 3, none⟩ = some (.string (ps (ptL l i))) := by
  rcases h.2 with h0 | h1
  · omega
  · exact h1

theorem PartsAt.below {w w' : World} {a : Option Addr} {n : Nat} {l : List (Int × Int × Int × ByteArray)} (h : PartsAt w a n l) (hb : Below w.heap.size w w') : PartsAt w' a n l := by
  refine ⟨h.1, h.2.imp id ?_⟩
  rintro ⟨b, off, e, hc⟩
  refine ⟨b, off, e, fun i hi => ?_⟩
  obtain ⟨c0, c1, c2, c3⟩ := hc i hi
  rw [hb.cell (World.block_lt_of_cell? w _ c0), hb.cell (World.block_lt_of_cell? w _ c1), hb.cell (World.block_lt_of_cell? w _ c2), hb.cell (World.block_lt_of_cell? w _ c3)]
  exact ⟨c0, c1, c2, c3⟩

theorem OutAt.setRowOther {w : World} {g : Nat} {v : Value} {o : ByteArray × Bool} (h : OutAt w g v o) (c : Nat) (hg : g ≠ c) (hv : v.ownBlock ≠ some c) (cs : Array Value) : OutAt (w.setRow c cs) g v o := by
  obtain ⟨S, b⟩ := o
  cases b with
  | true => exact OutAt.bad.2 ⟨Blk.setRowOther (OutAt.bad.1 h).1 c hg cs, (OutAt.bad.1 h).2⟩
  | false =>
    obtain ⟨h1, h2, h3⟩ := OutAt.ok.1 h
    refine OutAt.ok.2 ⟨h1.setRowOther c hg cs, ⟨h2.1, ?_⟩, h3⟩
    rcases h2.2 with hn | ⟨b, cap, cur, rfl, h0, hg, rest⟩
    · exact .inl hn
    · exact .inr ⟨b, cap, cur, rfl, h0, by rw [setRow_other w c b cs (fun e => hv (by rw [← e]; rfl))]; exact hg, rest⟩

theorem Kept2.setRowNew {g : Nat} {r : Option Nat} {a w : World} (h : Kept2 g r a w) (c : Nat) (hc : a.heap.size ≤ c) (cs : Array Value) : Kept2 g r a (w.setRow c cs) :=
  ⟨h.os, h.tape, h.output, by have := h.size; simpa [World.setRow] using this, fun k hk hg hr => by rw [setRow_other w c k cs (by omega)]; exact h.block k hk hg hr⟩



end Go.Proofs.YtkmdajenbidaaaaDoor

/- Layer 9's laws: awake. -/
namespace Go.Proofs.YtkmdajenbidaaaaDoor
open Go.RowKit
set_option maxRecDepth 100000
set_option linter.unusedSimpArgs false

/-- What an Out of the call's own, and its row, leave below B as it was. -/
theorem OutTo.below {w w' : World} {g : Nat} {v : Value} {o : ByteArray × Bool} (h : OutTo w g v o w') (B : Nat) (hB : B ≤ w.heap.size) (hg : B ≤ g) (hr : ∀ k, v.ownBlock = some k → B ≤ k) :
    ∃ v', OutAt w' g v' o ∧ Below B w w' ∧ ∀ k, v'.ownBlock = some k → B ≤ k := by
  obtain ⟨v', a, k, n⟩ := h
  refine ⟨v', a, k.below B hB hg hr, fun j hj => ?_⟩
  rcases n j hj with h' | h'
  · exact hr j h'
  · omega

theorem InTo.below {w w' : World} {g : Nat} {i : ByteArray × Int} (h : InTo w g i w') (B : Nat) (hB : B ≤ w.heap.size) (hg : B ≤ g) : Below B w w' := h.2.below B hB hg (fun k hk => by cases hk)

theorem OutAt.kept {w w' : World} {g g' : Nat} {v : Value} {o : ByteArray × Bool} (h : OutAt w g v o) (k : Kept2 g' none w w') (hg : g ≠ g') (hv : v.ownBlock ≠ some g') : OutAt w' g v o := by
  obtain ⟨S, b⟩ := o
  cases b with
  | true => exact OutAt.bad.2 ⟨Blk.kept (OutAt.bad.1 h).1 k hg (by simp), (OutAt.bad.1 h).2⟩
  | false =>
    obtain ⟨h1, h2, h3⟩ := OutAt.ok.1 h
    exact OutAt.ok.2 ⟨h1.kept k hg (by simp), h2.kept k hv (by
      cases hq : v.ownBlock with
      | none => exact Or.inl rfl
      | some x => exact Or.inr (by simp)), h3⟩

theorem InAt.kept {w w' : World} {g g' : Nat} {r : Option Nat} {i : ByteArray × Int} (h : InAt w g i) (k : Kept2 g' r w w') (hg : g ≠ g') (hr : some g ≠ r) : InAt w' g i := ⟨h.1.kept k hg hr, h.2⟩

theorem aout1 : numP (ByteArray.empty, false) 258 6 1099511627775 = (⟨#[0, 0, 0, 0, 1, 2]⟩, false) := by decide +kernel

theorem aout2 : textP (⟨#[0, 0, 0, 0, 1, 2]⟩, false) ⟨#[97, 98]⟩ = (⟨#[0, 0, 0, 0, 1, 2, 0, 2, 97, 98]⟩, false) := by decide +kernel

theorem ain1 : inNumP (⟨#[0, 0, 0, 0, 1, 2, 0, 2, 97, 98]⟩, 0) = ((⟨#[0, 2, 97, 98]⟩, 0), 258) := by decide +kernel

theorem ain2 : inTextC (⟨#[0, 2, 97, 98]⟩, 0) 2 = ((⟨#[]⟩, 0), ⟨#[97, 98]⟩) := by decide +kernel

end Go.Proofs.YtkmdajenbidaaaaDoor

/- Layer 9 on plain data: what was written is read by the code's In, part by part; what is cut is too short. -/
namespace Go.Proofs.YtkmdajenbidaaaaDoor
open Go.RowKit
set_option maxRecDepth 100000
set_option linter.unusedSimpArgs false

theorem back_rest {E T : ByteArray} {n : Nat} (hE : E.size = n) : (E ++ T).extract n (E ++ T).size = T := by
  have h := (PreB.refl (E ++ T)).rest n hE (by rw [ByteArray.size_append]; omega)
  exact h.whole (by rw [ByteArray.size_extract, ByteArray.size_append]; omega)

theorem back1 (p : Int × Int × Int × ByteArray) (T : ByteArray) (h : kd p = 1) (hok : okP p = true) : ∃ N : Nat, numberP (encP p ++ T, 0) 1 = ((T, 0), N) ∧ (N : Int) = pn p := by
  have e1 : encP p = bigB (pn p) 1 := by unfold encP; rw [if_pos h]
  have e2 : oneOk (pn p) 255 = true := by unfold okP at hok; rwa [if_pos h] at hok
  obtain ⟨N, hN, hl⟩ := oneOk_nat _ _ e2
  refine ⟨N, ?_, hN.symm⟩
  rw [e1, hN]
  rcases number_pre (bigB (N : Int) 1 ++ T) T N 1 (by omega) (PreB.refl _) with ⟨h1, _⟩ | ⟨_, h2, _⟩
  · rw [ByteArray.size_append, bigB_size] at h1; omega
  · rw [h2, back_rest (bigB_size _ _)]

theorem back2 (p : Int × Int × Int × ByteArray) (T : ByteArray) (h : kd p = 2) (hok : okP p = true) : ∃ N : Nat, inNumP (encP p ++ T, 0) = ((T, 0), N) ∧ (N : Int) = pn p := by
  have e1 : encP p = bigB (pn p) 6 := by unfold encP; rw [if_neg (by omega), if_pos h]
  have e2 : oneOk (pn p) 1099511627775 = true := by unfold okP at hok; rwa [if_neg (by omega), if_pos h] at hok
  obtain ⟨N, hN, hl⟩ := oneOk_nat _ _ e2
  refine ⟨N, ?_, hN.symm⟩
  rw [e1, hN]
  rcases inNum_pre (bigB (N : Int) 6 ++ T) T N (by omega) (PreB.refl _) with ⟨h1, _⟩ | ⟨_, h2, _⟩
  · rw [ByteArray.size_append, bigB_size] at h1; omega
  · rw [h2, back_rest (bigB_size _ _)]

theorem back3 (p : Int × Int × Int × ByteArray) (T : ByteArray) (h : kd p = 3) (hok : okP p = true) : inStampC (encP p ++ T, 0) = ((T, 0), (pn p, pm p)) := by
  have e1 : encP p = bigB (pn p) 6 ++ bigB (pm p) 1 := by unfold encP; rw [if_neg (by omega), if_neg (by omega), if_pos h]
  have e2 : stampOk (pn p) (pm p) = true := by unfold okP at hok; rwa [if_neg (by omega), if_neg (by omega), if_pos h] at hok
  unfold stampOk at e2
  rw [Bool.and_eq_true] at e2
  obtain ⟨N, hN, hl⟩ := oneOk_nat _ _ e2.1
  obtain ⟨U, hU, hu⟩ := oneOk_nat _ _ e2.2
  have hz : (bigB (N : Int) 6 ++ bigB (U : Int) 1).size = 7 := by rw [ByteArray.size_append, bigB_size, bigB_size]
  rw [stampC_long _ (by rw [e1, hN, hU, ByteArray.size_append, hz]; omega), e1, hN, hU]
  rcases inStamp_pre ((bigB (N : Int) 6 ++ bigB (U : Int) 1) ++ T) T N U (by omega) (by omega) (PreB.refl _) with ⟨h1, _⟩ | ⟨_, h2, _⟩
  · rw [ByteArray.size_append, hz] at h1; omega
  · rw [h2, back_rest hz]

theorem text_sameP (t : ByteArray) (most : Int) : inTextC (t, 0) most = inTextP (t, 0) most := by
  apply text_same
  intro e h
  unfold numberP at h ⊢
  by_cases hc : (t, (0 : Int)).2 ≠ 0 ∨ (t, (0 : Int)).1.size < 2
  · rw [if_pos hc]
    show wrongP (wrongP (t, 0) 90) e = wrongP (t, 0) 90
    unfold wrongP
    rw [if_pos rfl, if_neg (by decide)]
  · rw [if_neg hc] at h
    exact absurd rfl h

theorem back4 (p : Int × Int × Int × ByteArray) (T : ByteArray) (h1 : kd p ≠ 1) (h2 : kd p ≠ 2) (h3 : kd p ≠ 3) (hok : okP p = true) : inTextC (encP p ++ T, 0) 65536 = ((T, 0), ps p) := by
  have e1 : encP p = bigB ((ps p).size : Int) 2 ++ ps p := by unfold encP; rw [if_neg h1, if_neg h2, if_neg h3]
  have e2 : (ps p).size ≤ 65535 := by unfold okP at hok; rw [if_neg h1, if_neg h2, if_neg h3] at hok; exact of_decide_eq_true hok
  have hz : (bigB ((ps p).size : Int) 2 ++ ps p).size = 2 + (ps p).size := by rw [ByteArray.size_append, bigB_size]
  rw [text_sameP, e1]
  rcases inText_pre ((bigB ((ps p).size : Int) 2 ++ ps p) ++ T) T (ps p) 65536 e2 (by omega) (PreB.refl _) with ⟨k1, _⟩ | ⟨_, k2, _⟩
  · rw [ByteArray.size_append, hz] at k1; omega
  · rw [k2, back_rest hz]

theorem encA_drop (l : List (Int × Int × Int × ByteArray)) (k : Nat) (hk : k < l.length) : encA (l.drop k) = encP (ptL l k) ++ encA (l.drop (k + 1)) := by
  rw [List.drop_eq_getElem_cons hk]
  unfold ptL
  rw [List.getD_eq_getElem?_getD, List.getElem?_eq_getElem hk]; rfl

/-- What a part leaves of the code's In. -/
def nextC (i : ByteArray × Int) (p : Int × Int × Int × ByteArray) : ByteArray × Int :=
  if kd p = 1 then (numberP i 1).1 else if kd p = 2 then (inNumP i).1 else if kd p = 3 then (inStampC i).1 else (inTextC i 65536).1

theorem nextC_bad (e : Int) (he : e ≠ 0) (p : Int × Int × Int × ByteArray) : nextC (⟨#[]⟩, e) p = (⟨#[]⟩, e) := by
  have h4 : (inTextC (⟨#[]⟩, e) 65536).1 = (⟨#[]⟩, e) := by
    rw [text_same _ _ (fun x _ => by rw [number_bad e he]; unfold wrongP; rw [if_neg he]), inText_bad e he]
  unfold nextC
  rw [number_bad e he, inNum_bad e he, stampC_bad e he, h4]
  split
  · rfl
  · split
    · rfl
    · split <;> rfl

theorem nextC_pre (t T : ByteArray) (p : Int × Int × Int × ByteArray) (hok : okP p = true) (h : PreB t (encP p ++ T)) : nextC (t, 0) p = nextP (t, 0) p := by
  unfold nextC nextP
  split
  · rfl
  · next h1 =>
    split
    · rfl
    · next h2 =>
      split
      · next h3 =>
        have e1 : encP p = bigB (pn p) 6 ++ bigB (pm p) 1 := by unfold encP; rw [if_neg h1, if_neg h2, if_pos h3]
        have e2 : stampOk (pn p) (pm p) = true := by unfold okP at hok; rwa [if_neg h1, if_neg h2, if_pos h3] at hok
        unfold stampOk at e2
        rw [Bool.and_eq_true] at e2
        obtain ⟨N, hN, hl⟩ := oneOk_nat _ _ e2.1
        rw [stampC_same t (by
          by_cases h6 : t.size = 6
          · right
            rw [e1, append_mid, hN] at h
            rw [accB_congr t (bigB (N : Int) 6) 6 (fun j hj => h.left j (by omega) (by rw [bigB_size]; exact hj)), accB_big N 6 (by omega)]
            omega
          · exact Or.inl h6)]
      · rw [text_sameP]

def nextCA (i : ByteArray × Int) (l : List (Int × Int × Int × ByteArray)) : ByteArray × Int := l.foldl nextC i

theorem nextCA_bad (e : Int) (he : e ≠ 0) (l : List (Int × Int × Int × ByteArray)) : nextCA (⟨#[]⟩, e) l = (⟨#[]⟩, e) := by
  induction l with
  | nil => rfl
  | cons p l ih =>
    show nextCA (nextC (⟨#[]⟩, e) p) l = _
    rw [nextC_bad e he]; exact ih

theorem nextCA_same (l : List (Int × Int × Int × ByteArray)) (t T : ByteArray) (hok : ∀ p ∈ l, okP p = true) (h : PreB t (encA l ++ T)) : nextCA (t, 0) l = nextA (t, 0) l := by
  induction l generalizing t with
  | nil => rfl
  | cons p l ih =>
    have h' : PreB t (encP p ++ (encA l ++ T)) := by
      have : encA (p :: l) ++ T = encP p ++ (encA l ++ T) := append_mid _ _ _
      rw [← this]; exact h
    show nextCA (nextC (t, 0) p) l = nextA (nextP (t, 0) p) l
    rw [nextC_pre t _ p (hok p (List.mem_cons_self ..)) h']
    rcases next_pre t _ p (hok p (List.mem_cons_self ..)) h' with ⟨k1, k2⟩ | ⟨k1, k2, k3⟩
    · rw [k2, nextCA_bad 90 (by decide), nextA_bad 90 (by decide)]
    · rw [k2]
      exact ih _ (fun q hq => hok q (List.mem_cons_of_mem _ hq)) k3

theorem nextCA_cut (l : List (Int × Int × Int × ByteArray)) (t : ByteArray) (hok : ∀ p ∈ l, okP p = true) (h : PreB t (encA l)) (hlt : t.size < (encA l).size) : nextCA (t, 0) l = (⟨#[]⟩, 90) := by
  rw [nextCA_same l t ByteArray.empty hok (by
    have : encA l ++ ByteArray.empty = encA l := by
      apply bytes_ext
      rw [ByteArray.data_append, Array.toList_append]
      exact List.append_nil _
    rw [this]; exact h)]
  exact nextA_cut l t hok h hlt

end Go.Proofs.YtkmdajenbidaaaaDoor
