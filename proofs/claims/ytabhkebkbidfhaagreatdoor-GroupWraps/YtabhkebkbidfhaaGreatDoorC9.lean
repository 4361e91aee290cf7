import Derived.Test.YtabhkebkbidfhaaGreatDoorBA
import Derived.Test.YtabhkebkbidfhaaGreatDoorR9
import Derived.LaidEqlPtr
namespace Go.Proofs.YtabhkebkbidfhaaGreatDoor
open Go.RowKit
set_option maxRecDepth 100000
set_option linter.unusedSimpArgs false
def OutOk (w : World) (g : Nat) (v : Value) (S : ByteArray) : Prop :=
  Blk w 90 g #[.pointer (some ⟨g, 0, none⟩), v] ∧ RowB w 5 v S ∧ v.ownBlock ≠ some g ∧ S.size ≤ 65536
def OutBad (w : World) (g : Nat) : Prop := Blk w 90 g #[.pointer none, .slice none 0 0]
theorem OutOk.on {w w' : World} {g : Nat} {v : Value} {S : ByteArray} (h : OutOk w g v S) (hb : Below w.heap.size w w') : OutOk w' g v S := ⟨h.1.on hb, h.2.1.on hb, h.2.2⟩
theorem OutBad.on {w w' : World} {g : Nat} (h : OutBad w g) (hb : Below w.heap.size w w') : OutBad w' g := Blk.on h hb
theorem eql_nil_some {P : Program} {tp te : TypeId} (w : World) (a : Addr) (hp : P.underlying tp = some (.pointer te)) : (binOp .eql tp (.pointer none) (.pointer (some a))).run P w = .ok (.bool false) w := by
  have h : ∀ d : Nat, (Op.equalIn (d + 1) tp (.pointer none) (.pointer (some a))).run P w = .ok false w := fun d => by
    simp [Op.equalIn, run_underlying hp]
  simp only [binOp]
  simp [Op.equal, Op.maxDepth, h 9999]
theorem Tryz.outInfo : (Tryz.prog.info? 90).map (·.size) = some 2 := by kernel_rfl
set_option maxHeartbeats 1000000 in
set_option maxRecDepth 100000 in
theorem newOut_any (w : World) : Calls Tryz.prog 30 #[] w fun e w' => e = .returned (.pointer (some ⟨w.heap.size, 0, none⟩)) ∧ OutOk w' w.heap.size (.slice none 0 0) ByteArray.empty ∧ Below w.heap.size w w' := by
  go_enter Tryz.func30, Tryz.ntmps30
  go_wp2
  go_ret
  refine ⟨rfl, ⟨Blk.new w _ _, RowB.nil _ _, by simp [Value.ownBlock], by decide⟩, below_new w _⟩
set_option maxHeartbeats 1000000 in
set_option maxRecDepth 100000 in
theorem owell_ok (g : Nat) (v : Value) (w : World) (h : Blk w 90 g #[.pointer (some ⟨g, 0, none⟩), v]) :
    Calls Tryz.prog 62 #[.pointer (some ⟨g, 0, none⟩)] w fun e w' => e = .returned (.bool true) ∧ w' = w := by
  obtain ⟨j, hj, _⟩ := Option.map_eq_some_iff.1 Tryz.outInfo
  have c0 : w.cell? ⟨g, 0, none⟩ = some (.pointer (some ⟨g, 0, none⟩)) := h.cell 0
  have hq := run_eql_ptr_same (P := Tryz.prog) w ⟨g, 0, none⟩ Tryz.underlying69 hj
  go_enter Tryz.func62, Tryz.ntmps62
  go_wp2
  go_ret
  exact ⟨rfl, rfl⟩
set_option maxHeartbeats 1000000 in
set_option maxRecDepth 100000 in
theorem owell_bad (g : Nat) (w : World) (h : OutBad w g) :
    Calls Tryz.prog 62 #[.pointer (some ⟨g, 0, none⟩)] w fun e w' => e = .returned (.bool false) ∧ w' = w := by
  have c0 : w.cell? ⟨g, 0, none⟩ = some (.pointer none) := Blk.cell h 0
  have hq := eql_nil_some (P := Tryz.prog) w ⟨g, 0, none⟩ Tryz.underlying69
  go_enter Tryz.func62, Tryz.ntmps62
  go_wp2
  go_ret
  exact ⟨rfl, rfl⟩
set_option maxHeartbeats 1000000 in
set_option maxRecDepth 100000 in
theorem ospoil_any (g : Nat) (v : Value) (w : World) (h : Blk w 90 g #[.pointer (some ⟨g, 0, none⟩), v]) :
    Calls Tryz.prog 83 #[.pointer (some ⟨g, 0, none⟩)] w fun e w' => e = .returned (.bool false) ∧ OutBad w' g ∧ Kept2 g none w w' := by
  go_enter Tryz.func83, Tryz.ntmps83
  go_wp2_with (with_reducible refine wpList_storeBlk rfl 90 _ _ rfl g #[.pointer (some ⟨g, 0, none⟩), v] #[.pointer none, .slice none 0 0] ?hx ?hy h rfl ?hi ?h1 ?_)
  try (case hx => rfl)
  try (case hy => rfl)
  try (case hi => kernel_rfl)
  try (case h1 => simp [Value.oneCell'])
  go_ret
  exact ⟨rfl, h.setRow _, (Kept2.refl g none w).setRow _⟩
end Go.Proofs.YtabhkebkbidfhaaGreatDoor
namespace Go.Proofs.YtabhkebkbidfhaaGreatDoor
open Go.RowKit
set_option maxRecDepth 100000
set_option linter.unusedSimpArgs false
set_option maxHeartbeats 1000000 in
set_option maxRecDepth 100000 in
theorem lay_ok (g : Nat) (v : Value) (S T : ByteArray) (b c : Nat) (w : World) (h : OutOk w g v S) (hb : Row8 w b T.size (bt T)) (hn : S.size + T.size ≤ 65536) :
    Calls Tryz.prog 84 #[.pointer (some ⟨g, 0, none⟩), .slice (some ⟨b, 0, none⟩) T.size c] w fun e w' => e = .returned (.bool true) ∧ ∃ v', OutOk w' g v' (S ++ T) ∧ Kept2 g v.ownBlock w w' ∧ Nx w v.ownBlock v'.ownBlock := by
  obtain ⟨i0, hi, hz0, hz1, hz2⟩ := info_parts Tryz.info5
  obtain ⟨hk, hr, hne, hS⟩ := h
  have hn2 : (S ++ T).size ≤ 65536 := by rw [ByteArray.size_append]; exact hn
  obtain ⟨E, hE⟩ : ∃ E, S ++ T = E := ⟨_, rfl⟩
  rw [hE] at hn2 ⊢
  have HE : Hid (S ++ T = E) := hE
  clear hE
  have hlt := hk.lt
  obtain ⟨ao, cap, hv⟩ := hr.slice
  subst hv
  have c1 : w.cell? ⟨g, 1, none⟩ = some (.slice ao S.size cap) := hk.cell 1
  have g0 : decide ((65536 : Int) < (S.size : Int) + (T.size : Int)) = false := by simp; omega
  go_enter Tryz.func84, Tryz.ntmps84
  go_wp2_with (at_builtin; refine wpList_append_next rfl _ _ 68 5 rfl Tryz.underlying68 hi hz0 hz1 hz2 ?hs hr b c ?hx hb hn ?_)
  case hs => rfl
  case hx => rfl
  intro v2 w2 r2 hg hx
  have hk2 : Blk w2 90 g #[.pointer (some ⟨g, 0, none⟩), .slice ao S.size cap] := hk.kept (Kept2.ofGrown (w.heap.size + 1) hg) (by omega) (fun e => hne e.symm)
  have f1 : w2.frozen? ⟨g, 1, none⟩ = false := hk2.free 1
  have d1 : w2.cell? ⟨g, 1, none⟩ = some (.slice ao S.size cap) := hk2.cell 1
  have hne2 : v2.ownBlock ≠ some g := fun e => by
    rcases hx g e with h' | h'
    · exact hne h'
    · omega
  rw [HE.out] at r2
  obtain ⟨a2, cap2, hv2⟩ := r2.slice
  subst hv2
  go_wp2
  go_ret
  exact ⟨rfl, _, ⟨hk2.setAt 1 _, r2.other ⟨g, 1, none⟩ hne2 _, hne2, hn2⟩, (Kept2.ofGrown g hg).setCell ⟨g, 1, none⟩ rfl _, hx⟩
set_option maxHeartbeats 1000000 in
set_option maxRecDepth 100000 in
theorem lay_no (g : Nat) (v : Value) (S T : ByteArray) (b c : Nat) (w : World) (h : OutOk w g v S) (hn : 65536 < S.size + T.size) (hT : T.size ≤ 1048576) :
    Calls Tryz.prog 84 #[.pointer (some ⟨g, 0, none⟩), .slice (some ⟨b, 0, none⟩) T.size c] w fun e w' => e = .returned (.bool false) ∧ OutBad w' g ∧ Kept2 g none w w' := by
  obtain ⟨hk, hr, hne, hS⟩ := h
  obtain ⟨ao, cap, hv⟩ := hr.slice
  subst hv
  have c1 : w.cell? ⟨g, 1, none⟩ = some (.slice ao S.size cap) := hk.cell 1
  have g0 : decide ((65536 : Int) < (S.size : Int) + (T.size : Int)) = true := by simp; omega
  have HC : Hid (∀ w', w' = w → Calls Tryz.prog 83 #[.pointer (some ⟨g, 0, none⟩)] w' fun e w'' => e = .returned (.bool false) ∧ OutBad w'' g ∧ Kept2 g none w' w'') := fun w' e => by subst e; exact ospoil_any g _ _ hk
  go_enter Tryz.func84, Tryz.ntmps84
  go_wp2_with fail
  refine (HC.out _ rfl).mono ?_
  rintro e w1 ⟨rfl, h1, h2⟩
  go_wp2
  go_ret
  exact ⟨rfl, h1, h2⟩
end Go.Proofs.YtabhkebkbidfhaaGreatDoor
namespace Go.Proofs.YtabhkebkbidfhaaGreatDoor
open Go.RowKit
set_option maxRecDepth 100000
set_option linter.unusedSimpArgs false
def OutAt (w : World) (g : Nat) (v : Value) (o : ByteArray × Bool) : Prop := if o.2 = true then OutBad w g ∧ v = .slice none 0 0 else OutOk w g v o.1
theorem OutAt.bad {w : World} {g : Nat} {v : Value} {S : ByteArray} : OutAt w g v (S, true) ↔ OutBad w g ∧ v = .slice none 0 0 := by unfold OutAt; rw [if_pos rfl]
theorem OutAt.ok {w : World} {g : Nat} {v : Value} {S : ByteArray} : OutAt w g v (S, false) ↔ OutOk w g v S := by unfold OutAt; rw [if_neg (by simp)]
theorem OutAt.on {w w' : World} {g : Nat} {v : Value} {o : ByteArray × Bool} (h : OutAt w g v o) (hb : Below w.heap.size w w') : OutAt w' g v o := by
  obtain ⟨S, b⟩ := o
  cases b with
  | true => exact OutAt.bad.2 ⟨(OutAt.bad.1 h).1.on hb, (OutAt.bad.1 h).2⟩
  | false => exact OutAt.ok.2 ((OutAt.ok.1 h).on hb)
theorem OutAt.lt {w : World} {g : Nat} {v : Value} {o : ByteArray × Bool} (h : OutAt w g v o) : g < w.heap.size ∧ ∀ k, v.ownBlock = some k → k < w.heap.size := by
  obtain ⟨S, b⟩ := o
  cases b with
  | true =>
    obtain ⟨h1, h2⟩ := OutAt.bad.1 h
    subst h2
    exact ⟨Blk.lt h1, fun k hk => by simp [Value.ownBlock] at hk⟩
  | false =>
    have h' := OutAt.ok.1 h
    exact ⟨h'.1.lt, h'.2.1.lt⟩
theorem layP_true (S T : ByteArray) (h : S.size + T.size ≤ 65536) : layP (S, false) T true = (S ++ T, false) := by unfold layP; rw [if_pos ⟨rfl, rfl, h⟩]
theorem layP_long (S T : ByteArray) (h : 65536 < S.size + T.size) : layP (S, false) T true = (S, true) := by unfold layP; rw [if_neg (fun k => by have h1 : S.size + T.size ≤ 65536 := k.2.2; omega)]
theorem layP_bad (S T : ByteArray) (b : Bool) : layP (S, true) T b = (S, true) := by unfold layP; rw [if_neg (fun k => by cases k.2.1)]
theorem layP_not (o : ByteArray × Bool) (T : ByteArray) : layP o T false = (o.1, true) := by unfold layP; rw [if_neg (fun k => by cases k.1)]
theorem lay_any (g : Nat) (v : Value) (S T : ByteArray) (b c : Nat) (w : World) (h : OutOk w g v S) (hb : Row8 w b T.size (bt T)) (hT : T.size ≤ 1048576) :
    Calls Tryz.prog 84 #[.pointer (some ⟨g, 0, none⟩), .slice (some ⟨b, 0, none⟩) T.size c] w fun e w' => e = .returned (.bool (!(layP (S, false) T true).2)) ∧ ∃ v', OutAt w' g v' (layP (S, false) T true) ∧ Kept2 g v.ownBlock w w' ∧ Nx w v.ownBlock v'.ownBlock := by
  by_cases hn : S.size + T.size ≤ 65536
  · refine (lay_ok g v S T b c w h hb hn).mono ?_
    rintro e w' ⟨rfl, v', h1, h2, h3⟩
    rw [layP_true S T hn]
    exact ⟨rfl, v', OutAt.ok.2 h1, h2, h3⟩
  · refine (lay_no g v S T b c w h (by omega) hT).mono ?_
    rintro e w' ⟨rfl, h1, h2⟩
    rw [layP_long S T (by omega)]
    exact ⟨rfl, _, OutAt.bad.2 ⟨h1, rfl⟩, ⟨h2.os, h2.tape, h2.output, h2.size, fun k a b _ => h2.block k a b (by simp)⟩, fun k hk => by simp [Value.ownBlock] at hk⟩
set_option maxHeartbeats 1000000 in
set_option maxRecDepth 100000 in
theorem number_off (g : Nat) (n most size : Int) (w : World) (h : OutBad w g) :
    Calls Tryz.prog 61 #[.pointer (some ⟨g, 0, none⟩), .int .i64 n, .int .i64 most, .int .i64 size] w fun e w' => e = .returned (.bool false) ∧ w' = w := by
  have HC : Hid (∀ w', w' = w → Calls Tryz.prog 62 #[.pointer (some ⟨g, 0, none⟩)] w' fun e w'' => e = .returned (.bool false) ∧ w'' = w') := fun w' e => by subst e; exact owell_bad g _ h
  go_enter Tryz.func61, Tryz.ntmps61
  go_wp2_with fail
  refine (HC.out _ rfl).mono ?_
  rintro e w1 ⟨rfl, rfl⟩
  go_wp2
  go_ret
  exact ⟨rfl, rfl⟩
set_option maxHeartbeats 1000000 in
set_option maxRecDepth 100000 in
theorem number_no (g : Nat) (v : Value) (S : ByteArray) (n most size : Int) (w : World) (h : OutOk w g v S) (hn : oneOk n most = false) :
    Calls Tryz.prog 61 #[.pointer (some ⟨g, 0, none⟩), .int .i64 n, .int .i64 most, .int .i64 size] w fun e w' => e = .returned (.bool false) ∧ OutBad w' g ∧ Kept2 g none w w' := by
  have HC : Hid (∀ w', w' = w → Calls Tryz.prog 62 #[.pointer (some ⟨g, 0, none⟩)] w' fun e w'' => e = .returned (.bool true) ∧ w'' = w') := fun w' e => by subst e; exact owell_ok g _ _ h.1
  have HS : Hid (∀ w', w' = w → Calls Tryz.prog 83 #[.pointer (some ⟨g, 0, none⟩)] w' fun e w'' => e = .returned (.bool false) ∧ OutBad w'' g ∧ Kept2 g none w' w'') := fun w' e => by subst e; exact ospoil_any g _ _ h.1
  unfold oneOk at hn
  have hor : n < 0 ∨ ¬ n < 0 ∧ most < n := by
    rw [Bool.and_eq_false_iff, decide_eq_false_iff_not, decide_eq_false_iff_not] at hn
    omega
  clear hn
  rcases hor with hl | ⟨hl, hm⟩
  · go_enter Tryz.func61, Tryz.ntmps61
    go_wp2_with fail
    refine (HC.out _ rfl).mono ?_
    rintro e w1 ⟨rfl, rfl⟩
    go_wp2_with fail
    refine (HS.out _ rfl).mono ?_
    rintro e w2 ⟨rfl, h1, h2⟩
    go_wp2
    go_ret
    exact ⟨rfl, h1, h2⟩
  · go_enter Tryz.func61, Tryz.ntmps61
    go_wp2_with fail
    refine (HC.out _ rfl).mono ?_
    rintro e w1 ⟨rfl, rfl⟩
    go_wp2_with fail
    refine (HS.out _ rfl).mono ?_
    rintro e w2 ⟨rfl, h1, h2⟩
    go_wp2
    go_ret
    exact ⟨rfl, h1, h2⟩
end Go.Proofs.YtabhkebkbidfhaaGreatDoor
namespace Go.Proofs.YtabhkebkbidfhaaGreatDoor
open Go.RowKit
set_option maxRecDepth 100000
set_option linter.unusedSimpArgs false
theorem row6_new (w : World) (t : TypeId) : Row8 (w.alloc (.cells #[.int .u8 0, .int .u8 0, .int .u8 0, .int .u8 0, .int .u8 0, .int .u8 0] t)) w.heap.size 6 (fun _ => 0) := by
  refine ⟨_, t, _, heap_alloc_last w _, Or.inr rfl, fun j hj => ?_⟩
  match j, hj with
  | 0, _ => rfl
  | 1, _ => rfl
  | 2, _ => rfl
  | 3, _ => rfl
  | 4, _ => rfl
  | 5, _ => rfl
theorem sliceAt_head {P : Program} {w : World} {t e : TypeId} {n k b : Nat} {i : TypeInfo} (hu : P.underlying t = some (.array n e)) (hi : P.info? e = some i) (hk : k ≤ n) :
    (Instr.sliceAt t (.pointer (some ⟨b, 0, none⟩)) none (some (.int .i64 (k : Int))) (some (.int .i64 (k : Int)))).run P w = .ok (.slice (some ⟨b, 0, none⟩) k k) w := by
  simp [Instr.sliceAt, Instr.sureAddr, run_underlying hu, Instr.sliceBounds, run_sliceBound, sliced, hk, sizeOf, typeInfo, hi, Addr.add]
set_option maxHeartbeats 1000000 in
set_option maxRecDepth 100000 in
theorem number_yes (g : Nat) (v : Value) (S : ByteArray) (N : Nat) (most : Int) (size : Nat) (w : World) (h : OutOk w g v S) (hN : (N : Int) ≤ most) (hs : size ≤ 6) :
    Calls Tryz.prog 61 #[.pointer (some ⟨g, 0, none⟩), .int .i64 (N : Int), .int .i64 most, .int .i64 (size : Int)] w fun e w' => e = .returned (.bool (!(layP (S, false) (bigB (N : Int) size) true).2)) ∧ ∃ v', OutAt w' g v' (layP (S, false) (bigB (N : Int) size) true) ∧ Kept2 g v.ownBlock w w' ∧ Nx w v.ownBlock v'.ownBlock := by
  have HC : Hid (∀ w', w' = w → Calls Tryz.prog 62 #[.pointer (some ⟨g, 0, none⟩)] w' fun e w'' => e = .returned (.bool true) ∧ w'' = w') := fun w' e => by subst e; exact owell_ok g _ _ h.1
  have HL : Hid (∀ w' b, OutOk w' g v S → Row8 w' b size (bt (bigB (N : Int) size)) → Calls Tryz.prog 84 #[.pointer (some ⟨g, 0, none⟩), .slice (some ⟨b, 0, none⟩) size size] w' fun e w'' => e = .returned (.bool (!(layP (S, false) (bigB (N : Int) size) true).2)) ∧ ∃ v', OutAt w'' g v' (layP (S, false) (bigB (N : Int) size) true) ∧ Kept2 g v.ownBlock w' w'' ∧ Nx w' v.ownBlock v'.ownBlock) := fun w' b h1 h2 => by
    have := lay_any g v S (bigB (N : Int) size) b size w' h1 (by rw [bigB_size]; exact h2) (by rw [bigB_size]; omega)
    rw [bigB_size] at this
    exact this
  obtain ⟨o', ho'⟩ : ∃ o', layP (S, false) (bigB (N : Int) size) true = o' := ⟨_, rfl⟩
  rw [ho'] at HL ⊢
  clear ho'
  obtain ⟨q, hq⟩ : ∃ q, (!o'.2) = q := ⟨_, rfl⟩
  rw [hq] at HL ⊢
  clear hq
  obtain ⟨F, HF⟩ : ∃ F, Hid (F = bigF (N : Int) size) := ⟨_, rfl⟩
  have HFl : Hid (∀ i, F i < 256) := by show ∀ i, _; rw [HF.out]; exact bigF_lt _ _
  have HFB : Hid (∀ j, j < size → bt (bigB (N : Int) size) j = F j) := fun j hj => by
    unfold bigB
    rw [bt_bytesOf _ _ _ hj (bigF_lt _ _ _), HF.out]
  have hOK : Hid (OutOk w g v S) := h
  clear h
  go_enter Tryz.func61, Tryz.ntmps61
  go_wp2_with fail
  refine (HC.out _ rfl).mono ?_
  rintro e w1 ⟨rfl, rfl⟩
  have hneg : ¬ ((N : Int) < 0) := by omega
  have hmost : ¬ (most < (N : Int)) := by omega
  go_wp2_with fail
  go_loopw [24] (fun i wr => ∃ k : Nat, k ≤ size ∧ i = .int .i64 (k : Int) ∧ Row8 wr w1.heap.size 6 (cutN F k) ∧ Below w1.heap.size w1 wr) (fun i _ => size - (intOf i).toNat)
  case atStart => exact ⟨0, Nat.zero_le _, rfl, (row6_new w1 _).cast (cutN_nil F), below_new w1 _⟩
  case round =>
    obtain ⟨k, hk, rfl, hrow, hbl⟩ := hrel
    by_cases hlt : k < size
    · obtain ⟨m, hm⟩ : ∃ m : Nat, (size : Int) - 1 - (k : Int) = (m : Int) := ⟨size - 1 - k, by omega⟩
      have hm6 : m ≤ 5 := by omega
      have hk6 : k < 6 := by omega
      have hFk : F k = ((N : Int) / 2 ^ (8 * m) % 256).toNat := by rw [HF.out]; unfold bigF; rw [show size - 1 - k = m by omega]
      have hfz := hrow.free k hk6
      have hcell := hrow.cell k hk6
      have hval : (N : Int) / 2 ^ (8 * m) % 256 = ((F k : Nat) : Int) := by rw [hFk]; omega
      generalize F k = X at hFk hval
      have HX : Hid (X = F k) := by show _ = _; rw [hFk, HF.out]; unfold bigF; rw [show size - 1 - k = m by omega]
      clear hFk
      go_wp2
      refine ⟨⟨k + 1, by omega, rfl, ?_, hbl.setCell (p := ⟨w1.heap.size, k, none⟩) (Nat.le_refl _) _⟩, ?_⟩
      · have h1 := hrow.set k X
        rw [HX.out] at h1 ⊢
        exact h1.cast (cutN_put F k)
      · simp [intOf]; omega
    · have hk' : k = size := by omega
      subst hk'
      have hlr : Hid (Row8 wr w1.heap.size k (bt (bigB (N : Int) k))) := by
        obtain ⟨cs, t, fr, e1, e2, e3⟩ := hrow
        refine ⟨cs, t, fr, e1, e2.imp (fun h => by omega) id, fun j hj => ?_⟩
        rw [e3 j (by omega), HFB.out j hj]
        unfold cutN; rw [if_pos hj]
      clear hrow
      obtain ⟨i0, hi, _⟩ := info_parts Tryz.info5
      have hsl := sliceAt_head (P := Tryz.prog) (w := wr) (b := w1.heap.size) Tryz.underlying105 hi hs
      go_wp2_with fail
      refine Calls.mono (HL.out wr w1.heap.size (hOK.out.on hbl) hlr.out) ?_
      rintro e w2 ⟨rfl, v', h1, h2, h3⟩
      go_wp2
      go_ret
      have hs := hbl.size
      exact ⟨rfl, v', h1, Kept2.behind hbl h2, fun j hj => by
        rcases h3 j hj with h' | h'
        · exact Or.inl h'
        · exact Or.inr (by omega)⟩
end Go.Proofs.YtabhkebkbidfhaaGreatDoor
namespace Go.Proofs.YtabhkebkbidfhaaGreatDoor
open Go.RowKit
set_option maxRecDepth 100000
set_option linter.unusedSimpArgs false
def OutTo (w : World) (g : Nat) (v : Value) (o' : ByteArray × Bool) (w' : World) : Prop := ∃ v', OutAt w' g v' o' ∧ Kept2 g v.ownBlock w w' ∧ Nx w v.ownBlock v'.ownBlock
theorem OutTo.same {w : World} {g : Nat} {v : Value} {o : ByteArray × Bool} (h : OutAt w g v o) : OutTo w g v o w := ⟨v, h, Kept2.refl _ _ _, Nx.refl _ _⟩
theorem OutTo.bad {w w' : World} {g : Nat} {v : Value} {S : ByteArray} (h : OutBad w' g) (k : Kept2 g none w w') : OutTo w g v (S, true) w' :=
  ⟨_, OutAt.bad.2 ⟨h, rfl⟩, ⟨k.os, k.tape, k.output, k.size, fun j a b _ => k.block j a b (by simp)⟩, fun k hk => by simp [Value.ownBlock] at hk⟩
theorem OutTo.irr {w w' : World} {g : Nat} {v : Value} {S S' : ByteArray} (h : OutTo w g v (S, true) w') : OutTo w g v (S', true) w' := by
  obtain ⟨v', h1, h2⟩ := h
  exact ⟨v', OutAt.bad.2 (OutAt.bad.1 h1), h2⟩
theorem OutTo.cast {w w' : World} {g : Nat} {v : Value} {o o' : ByteArray × Bool} (h : OutTo w g v o w') (e : o.2 = o'.2) (e2 : o.2 = false → o.1 = o'.1) : OutTo w g v o' w' := by
  obtain ⟨S, b⟩ := o
  obtain ⟨S', b'⟩ := o'
  have e' : b = b' := e
  subst e'
  cases b with
  | true => exact h.irr
  | false =>
    have := e2 rfl
    have e3 : S = S' := this
    subst e3; exact h
theorem OutTo.trans {w w1 w2 : World} {g : Nat} {v : Value} {o' : ByteArray × Bool} {v1 : Value} (k1 : Kept2 g v.ownBlock w w1) (n1 : Nx w v.ownBlock v1.ownBlock) (h2 : OutTo w1 g v1 o' w2) : OutTo w g v o' w2 := by
  obtain ⟨v2, a, k2, n2⟩ := h2
  exact ⟨v2, a, k1.trans k2 n1, n1.trans k1.size n2⟩
theorem OutTo.behind {w w1 w2 : World} {g : Nat} {v : Value} {o' : ByteArray × Bool} (hb : Below w.heap.size w w1) (h2 : OutTo w1 g v o' w2) : OutTo w g v o' w2 := OutTo.trans (Kept2.ofBelow g _ hb) (Nx.refl _ _) h2
theorem OutTo.on {w w1 w2 : World} {g : Nat} {v : Value} {o' : ByteArray × Bool} (h : OutTo w g v o' w1) (hb : Below w1.heap.size w1 w2) : OutTo w g v o' w2 := by
  obtain ⟨v2, a, k2, n2⟩ := h
  exact ⟨v2, a.on hb, k2.on hb, n2⟩
theorem number_any (g : Nat) (v : Value) (o : ByteArray × Bool) (n most : Int) (size : Nat) (w : World) (h : OutAt w g v o) (hs : size ≤ 6) :
    Calls Tryz.prog 61 #[.pointer (some ⟨g, 0, none⟩), .int .i64 n, .int .i64 most, .int .i64 (size : Int)] w fun e w' => e = .returned (.bool (!(layP o (bigB n size) (oneOk n most)).2)) ∧ OutTo w g v (layP o (bigB n size) (oneOk n most)) w' := by
  obtain ⟨S, b⟩ := o
  cases b with
  | true =>
    rw [layP_bad]
    refine (number_off g n most size w (OutAt.bad.1 h).1).mono ?_
    rintro e w' ⟨rfl, rfl⟩
    exact ⟨rfl, OutTo.same h⟩
  | false =>
    have h' := OutAt.ok.1 h
    cases hq : oneOk n most with
    | false =>
      rw [layP_not]
      refine (number_no g v S n most size w h' hq).mono ?_
      rintro e w' ⟨rfl, h1, h2⟩
      exact ⟨rfl, OutTo.bad h1 h2⟩
    | true =>
      obtain ⟨N, rfl, hN⟩ := oneOk_nat n most hq
      refine (number_yes g v S N most size w h' hN hs).mono ?_
      rintro e w' ⟨rfl, h1⟩
      exact ⟨rfl, h1⟩
set_option maxHeartbeats 1000000 in
set_option maxRecDepth 100000 in
theorem obyte_any (g : Nat) (v : Value) (o : ByteArray × Bool) (n : Int) (w : World) (h : OutAt w g v o) :
    Calls Tryz.prog 32 #[.pointer (some ⟨g, 0, none⟩), .int .i64 n] w fun e w' => e = .returned (.tuple #[]) ∧ OutTo w g v (numP o n 1 255) w' := by
  have HN : Hid (∀ w', w' = w → Calls Tryz.prog 61 #[.pointer (some ⟨g, 0, none⟩), .int .i64 n, .int .i64 255, .int .i64 1] w' fun e w'' => e = .returned (.bool (!(numP o n 1 255).2)) ∧ OutTo w' g v (numP o n 1 255) w'') := fun w' e => by subst e; exact number_any g v o n 255 1 _ h (by decide)
  go_enter Tryz.func32, Tryz.ntmps32
  go_wp2_with fail
  refine (HN.out _ rfl).mono ?_
  rintro e w1 ⟨rfl, h1⟩
  go_wp2
  go_end0
  exact ⟨rfl, h1⟩
set_option maxHeartbeats 1000000 in
set_option maxRecDepth 100000 in
theorem onum_any (g : Nat) (v : Value) (o : ByteArray × Bool) (n : Int) (w : World) (h : OutAt w g v o) :
    Calls Tryz.prog 31 #[.pointer (some ⟨g, 0, none⟩), .int .i64 n] w fun e w' => e = .returned (.tuple #[]) ∧ OutTo w g v (numP o n 6 1099511627775) w' := by
  have HN : Hid (∀ w', w' = w → Calls Tryz.prog 61 #[.pointer (some ⟨g, 0, none⟩), .int .i64 n, .int .i64 1099511627775, .int .i64 6] w' fun e w'' => e = .returned (.bool (!(numP o n 6 1099511627775).2)) ∧ OutTo w' g v (numP o n 6 1099511627775) w'') := fun w' e => by subst e; exact number_any g v o n 1099511627775 6 _ h (by decide)
  go_enter Tryz.func31, Tryz.ntmps31
  go_wp2_with fail
  refine (HN.out _ rfl).mono ?_
  rintro e w1 ⟨rfl, h1⟩
  go_wp2
  go_end0
  exact ⟨rfl, h1⟩
end Go.Proofs.YtabhkebkbidfhaaGreatDoor
namespace Go.Proofs.YtabhkebkbidfhaaGreatDoor
open Go.RowKit
set_option maxRecDepth 100000
set_option linter.unusedSimpArgs false
set_option maxHeartbeats 1000000 in
set_option maxRecDepth 100000 in
theorem odone_any (g : Nat) (v : Value) (o : ByteArray × Bool) (w : World) (h : OutAt w g v o) :
    Calls Tryz.prog 34 #[.pointer (some ⟨g, 0, none⟩)] w fun e w' => e = .returned (doneP o) ∧ w' = w := by
  obtain ⟨S, b⟩ := o
  cases b with
  | true =>
    have HC : Hid (∀ w', w' = w → Calls Tryz.prog 62 #[.pointer (some ⟨g, 0, none⟩)] w' fun e w'' => e = .returned (.bool false) ∧ w'' = w') := fun w' e => by subst e; exact owell_bad g _ (OutAt.bad.1 h).1
    clear h
    go_enter Tryz.func34, Tryz.ntmps34
    go_wp2_with fail
    refine (HC.out _ rfl).mono ?_
    rintro e w1 ⟨rfl, rfl⟩
    go_wp2
    go_ret2
    exact ⟨rfl, rfl⟩
  | false =>
    have h' := OutAt.ok.1 h
    have HC : Hid (∀ w', w' = w → Calls Tryz.prog 62 #[.pointer (some ⟨g, 0, none⟩)] w' fun e w'' => e = .returned (.bool true) ∧ w'' = w') := fun w' e => by subst e; exact owell_ok g _ _ h'.1
    have c1 : w.cell? ⟨g, 1, none⟩ = some v := h'.1.cell 1
    have hcv := h'.2.1.conv (P := Tryz.prog) 68 9 Tryz.underlying68 Tryz.underlying5 Tryz.underlying9
    obtain ⟨ao, cap, hv⟩ := h'.2.1.slice
    subst hv
    clear h h'
    go_enter Tryz.func34, Tryz.ntmps34
    go_wp2_with fail
    refine (HC.out _ rfl).mono ?_
    rintro e w1 ⟨rfl, rfl⟩
    go_wp2
    go_ret2
    exact ⟨rfl, rfl⟩
end Go.Proofs.YtabhkebkbidfhaaGreatDoor
namespace Go.Proofs.YtabhkebkbidfhaaGreatDoor
open Go.RowKit
set_option maxRecDepth 100000
set_option linter.unusedSimpArgs false
def InAt (w : World) (g : Nat) (i : ByteArray × Int) : Prop :=
  Blk w 93 g #[.pointer (some ⟨g, 0, none⟩), .string i.1, .int .i64 i.2] ∧ (i.2 ≠ 0 → i.1 = ⟨#[]⟩) ∧ i.1.size ≤ 1048576
theorem InAt.on {w w' : World} {g : Nat} {i : ByteArray × Int} (h : InAt w g i) (hb : Below w.heap.size w w') : InAt w' g i := ⟨h.1.on hb, h.2⟩
def InTo (w : World) (g : Nat) (i' : ByteArray × Int) (w' : World) : Prop := InAt w' g i' ∧ Kept2 g none w w'
theorem InTo.same {w : World} {g : Nat} {i : ByteArray × Int} (h : InAt w g i) : InTo w g i w := ⟨h, Kept2.refl _ _ _⟩
theorem InTo.trans {w w1 w2 : World} {g : Nat} {i i' : ByteArray × Int} (h1 : InTo w g i w1) (h2 : InTo w1 g i' w2) : InTo w g i' w2 := ⟨h2.1, h1.2.trans h2.2 (Nx.refl _ _)⟩
theorem InTo.behind {w w1 w2 : World} {g : Nat} {i' : ByteArray × Int} (hb : Below w.heap.size w w1) (h2 : InTo w1 g i' w2) : InTo w g i' w2 := ⟨h2.1, Kept2.behind hb h2.2⟩
theorem InTo.on {w w1 w2 : World} {g : Nat} {i' : ByteArray × Int} (h : InTo w g i' w1) (hb : Below w1.heap.size w1 w2) : InTo w g i' w2 := ⟨h.1.on hb, h.2.on hb⟩
theorem Tryz.inInfo : (Tryz.prog.info? 93).map (·.size) = some 3 := by kernel_rfl
set_option maxHeartbeats 1000000 in
set_option maxRecDepth 100000 in
theorem newIn_any (s : ByteArray) (w : World) (hs : s.size ≤ 1048576) : Calls Tryz.prog 35 #[.string s] w fun e w' => e = .returned (.pointer (some ⟨w.heap.size, 0, none⟩)) ∧ InAt w' w.heap.size (s, 0) ∧ Below w.heap.size w w' := by
  go_enter Tryz.func35, Tryz.ntmps35
  go_wp2
  go_ret
  exact ⟨rfl, ⟨Blk.new w _ _, fun h => absurd rfl h, hs⟩, below_new w _⟩
set_option maxHeartbeats 1000000 in
set_option maxRecDepth 100000 in
theorem igiven_any (g : Nat) (i : ByteArray × Int) (w : World) (h : InAt w g i) :
    Calls Tryz.prog 114 #[.pointer (some ⟨g, 0, none⟩)] w fun e w' => e = .returned (.bool true) ∧ w' = w := by
  obtain ⟨j, hj, _⟩ := Option.map_eq_some_iff.1 Tryz.inInfo
  have c0 : w.cell? ⟨g, 0, none⟩ = some (.pointer (some ⟨g, 0, none⟩)) := h.1.cell 0
  have hq := run_eql_ptr_same (P := Tryz.prog) w ⟨g, 0, none⟩ Tryz.underlying74 hj
  clear h
  go_enter Tryz.func114, Tryz.ntmps114
  go_wp2
  go_ret
  exact ⟨rfl, rfl⟩
set_option maxHeartbeats 1000000 in
set_option maxRecDepth 100000 in
theorem iwell_any (g : Nat) (i : ByteArray × Int) (w : World) (h : InAt w g i) :
    Calls Tryz.prog 86 #[.pointer (some ⟨g, 0, none⟩)] w fun e w' => e = .returned (.bool (decide (i.2 = 0))) ∧ w' = w := by
  obtain ⟨S, c⟩ := i
  have HC : Hid (∀ w', w' = w → Calls Tryz.prog 114 #[.pointer (some ⟨g, 0, none⟩)] w' fun e w'' => e = .returned (.bool true) ∧ w'' = w') := fun w' e => by subst e; exact igiven_any g _ _ h
  have c2 : w.cell? ⟨g, 2, none⟩ = some (.int .i64 c) := h.1.cell 2
  clear h
  show Calls _ _ _ _ fun e w' => e = .returned (.bool (decide (c = 0))) ∧ w' = w
  go_enter Tryz.func86, Tryz.ntmps86
  go_wp2_with fail
  refine (HC.out _ rfl).mono ?_
  rintro e w1 ⟨rfl, rfl⟩
  go_wp2
  go_ret
  exact ⟨rfl, rfl⟩
set_option maxHeartbeats 1000000 in
set_option maxRecDepth 100000 in
theorem irest_any (g : Nat) (i : ByteArray × Int) (w : World) (h : InAt w g i) :
    Calls Tryz.prog 85 #[.pointer (some ⟨g, 0, none⟩)] w fun e w' => e = .returned (.int .i64 (i.1.size : Int)) ∧ w' = w := by
  obtain ⟨S, c⟩ := i
  have HC : Hid (∀ w', w' = w → Calls Tryz.prog 86 #[.pointer (some ⟨g, 0, none⟩)] w' fun e w'' => e = .returned (.bool (decide (c = 0))) ∧ w'' = w') := fun w' e => by subst e; exact iwell_any g _ _ h
  have c1 : w.cell? ⟨g, 1, none⟩ = some (.string S) := h.1.cell 1
  have hw : c ≠ 0 → S = ⟨#[]⟩ := h.2.1
  clear h
  show Calls _ _ _ _ fun e w' => e = .returned (.int .i64 (S.size : Int)) ∧ w' = w
  by_cases hc : c = 0
  · rw [decide_eq_true hc] at HC
    clear hw hc
    go_enter Tryz.func85, Tryz.ntmps85
    go_wp2_with fail
    refine (HC.out _ rfl).mono ?_
    rintro e w1 ⟨rfl, rfl⟩
    go_wp2
    go_ret
    exact ⟨rfl, rfl⟩
  · rw [decide_eq_false hc] at HC
    have := hw hc
    subst this
    clear hw hc
    go_enter Tryz.func85, Tryz.ntmps85
    go_wp2_with fail
    refine (HC.out _ rfl).mono ?_
    rintro e w1 ⟨rfl, rfl⟩
    go_wp2
    go_ret
    exact ⟨rfl, rfl⟩
set_option maxHeartbeats 1000000 in
set_option maxRecDepth 100000 in
theorem ifail_any (g : Nat) (i : ByteArray × Int) (x : Int) (w : World) (h : InAt w g i) :
    Calls Tryz.prog 65 #[.pointer (some ⟨g, 0, none⟩), .int .i64 x] w fun e w' => e = .returned (.tuple #[]) ∧ InTo w g (wrongP i x) w' := by
  obtain ⟨S, c⟩ := i
  have HC : Hid (∀ w', w' = w → Calls Tryz.prog 86 #[.pointer (some ⟨g, 0, none⟩)] w' fun e w'' => e = .returned (.bool (decide (c = 0))) ∧ w'' = w') := fun w' e => by subst e; exact iwell_any g _ _ h
  have hI : Hid (InAt w g (S, c)) := h
  have c1 : w.cell? ⟨g, 1, none⟩ = some (.string S) := h.1.cell 1
  have c2 : w.cell? ⟨g, 2, none⟩ = some (.int .i64 c) := h.1.cell 2
  have f1 := h.1.free 1
  have f2 := h.1.free 2
  clear h
  by_cases hc : c = 0
  · rw [decide_eq_true hc] at HC
    have e : wrongP (S, c) x = (⟨#[]⟩, x) := by unfold wrongP; rw [if_pos hc]
    rw [e]
    clear hc e
    go_enter Tryz.func65, Tryz.ntmps65
    go_wp2_with fail
    refine (HC.out _ rfl).mono ?_
    rintro e w1 ⟨rfl, rfl⟩
    go_wp2
    go_end0
    exact ⟨rfl, ⟨(hI.out.1.setAt 2 _).setAt 1 _, fun _ => rfl, Nat.zero_le _⟩, ((Kept2.refl g none _).setCell ⟨g, 2, none⟩ rfl _).setCell ⟨g, 1, none⟩ rfl _⟩
  · rw [decide_eq_false hc] at HC
    have hw : S = ⟨#[]⟩ := hI.out.2.1 hc
    have e : wrongP (S, c) x = (S, c) := by unfold wrongP; rw [if_neg hc, hw]
    rw [e]
    clear hc e hw
    go_enter Tryz.func65, Tryz.ntmps65
    go_wp2_with fail
    refine (HC.out _ rfl).mono ?_
    rintro e w1 ⟨rfl, rfl⟩
    go_wp2
    go_end0
    exact ⟨rfl, InTo.same hI.out⟩
end Go.Proofs.YtabhkebkbidfhaaGreatDoor
namespace Go.Proofs.YtabhkebkbidfhaaGreatDoor
open Go.RowKit
set_option maxRecDepth 100000
set_option linter.unusedSimpArgs false
set_option maxRecDepth 100000 in
set_option maxHeartbeats 2000000 in
theorem cread_any (S : ByteArray) (w : World) (hs : S.size ≤ 6) :
    Calls Tryz.prog 63 #[.string S] w fun x w' => x = .returned (.int .i64 (accB S S.size : Int)) ∧ w' = w := by
  have HL : Hid (∀ k, k ≤ 6 → accB S k < 281474976710656) := fun k hk => Nat.lt_of_le_of_lt (Nat.le_refl _) (Nat.lt_of_lt_of_le (accB_lt S k) (Nat.le_trans (Nat.pow_le_pow_right (by decide) hk) (by decide)))
  have HA : Hid (∀ k, accB S (k + 1) = accB S k * 256 + bt S k) := fun k => rfl
  have H0 : Hid (accB S 0 = 0) := rfl
  obtain ⟨f, Hf⟩ : ∃ f, Hid (f = accB S) := ⟨_, rfl⟩
  rw [← Hf.out] at HL HA H0
  rw [← Hf.out]
  obtain ⟨V, HV⟩ : ∃ V, Hid (V = f S.size) := ⟨_, rfl⟩
  rw [← HV.out]
  clear Hf
  go_enter Tryz.func63, Tryz.ntmps63
  go_wp2_with fail
  go_loopw [3, 7] (fun x k wr => ∃ j X : Nat, j ≤ S.size ∧ k = .int .i64 j ∧ x = .int .i64 (X : Int) ∧ Hid (X = f j) ∧ wr = w) (fun _ k _ => S.size - (intOf k).toNat)
  case atStart => exact ⟨0, 0, Nat.zero_le _, rfl, rfl, H0.out.symm, rfl⟩
  case round =>
    obtain ⟨j, X, hj, rfl, rfl, HX, rfl⟩ := hrel
    by_cases hlt : j < S.size
    · have bk := bt_get S j hlt
      have lb := bt_lt S j
      have lX : X < 281474976710656 := by rw [HX.out]; exact HL.out j (by omega)
      have HN : Hid (X * 256 + bt S j = f (j + 1)) := by show _ = _; rw [HA.out, HX.out]
      have v2 := or256 X (bt S j) lX lb
      generalize bt S j = y at *
      obtain ⟨U, hU⟩ : ∃ U, U = X * 256 + y := ⟨_, rfl⟩
      rw [← hU] at v2 HN
      clear hU HX
      go_wp2
      refine ⟨⟨j + 1, U, by omega, by go_num, rfl, HN, by first | rfl | trivial⟩, ?_⟩
      simp [intOf]; omega
    · have hjm : j = S.size := by omega
      subst hjm
      have hX : X = V := by rw [HX.out, HV.out]
      subst hX
      clear HX HV
      go_wp2
      go_ret
      exact ⟨rfl, rfl⟩
def takeS (i : ByteArray × Int) (n : Nat) : ByteArray := if i.2 ≠ 0 ∨ i.1.size < n then ⟨#[]⟩ else i.1.extract 0 n
def takeI (i : ByteArray × Int) (n : Nat) : ByteArray × Int := if i.2 ≠ 0 ∨ i.1.size < n then wrongP i 90 else (i.1.extract n i.1.size, i.2)
set_option maxRecDepth 100000 in
set_option maxHeartbeats 2000000 in
theorem itake_any (g : Nat) (i : ByteArray × Int) (n : Nat) (w : World) (h : InAt w g i) (hn : n ≤ 1048576) :
    Calls Tryz.prog 64 #[.pointer (some ⟨g, 0, none⟩), .int .i64 (n : Int)] w fun e w' => e = .returned (.string (takeS i n)) ∧ InTo w g (takeI i n) w' := by
  obtain ⟨S, c⟩ := i
  have HR : Hid (∀ w', w' = w → Calls Tryz.prog 85 #[.pointer (some ⟨g, 0, none⟩)] w' fun e w'' => e = .returned (.int .i64 (S.size : Int)) ∧ w'' = w') := fun w' e => by subst e; exact irest_any g _ _ h
  have HF : Hid (∀ w', w' = w → Calls Tryz.prog 65 #[.pointer (some ⟨g, 0, none⟩), .int .i64 90] w' fun e w'' => e = .returned (.tuple #[]) ∧ InTo w' g (wrongP (S, c) 90) w'') := fun w' e => by subst e; exact ifail_any g _ 90 _ h
  have HD : Hid (decide ((wrongP (S, c) 90).2 = 0) = false) := by
    show _ = _
    rw [decide_eq_false_iff_not]
    show ¬ (if c = 0 then (90 : Int) else c) = 0
    split <;> omega
  have hS : S.size ≤ 1048576 := h.2.2
  have hI : Hid (InAt w g (S, c)) := h
  have c1 : w.cell? ⟨g, 1, none⟩ = some (.string S) := h.1.cell 1
  have f1 := h.1.free 1
  clear h
  by_cases hc : c = 0
  · by_cases hz : S.size < n
    · have e1 : takeS (S, c) n = ⟨#[]⟩ := by unfold takeS; rw [if_pos (Or.inr hz)]
      have e2 : takeI (S, c) n = wrongP (S, c) 90 := by unfold takeI; rw [if_pos (Or.inr hz)]
      rw [e1, e2]
      clear e1 e2 hc
      go_enter Tryz.func64, Tryz.ntmps64
      go_wp2_with fail
      refine (HR.out _ rfl).mono ?_
      rintro e w1 ⟨rfl, rfl⟩
      go_wp2_with fail
      refine (HF.out _ rfl).mono ?_
      rintro e w2 ⟨rfl, h2⟩
      have H2 : Hid (InTo w1 g (wrongP (S, c) 90) w2) := h2
      clear h2
      go_wp2_with fail
      refine (iwell_any g _ _ H2.out.1).mono ?_
      rintro e w3 ⟨rfl, rfl⟩
      have hd : decide ((wrongP (S, c) 90).2 = 0) = false := HD.out
      go_wp2
      go_ret
      exact ⟨rfl, H2.out⟩
    · have e1 : takeS (S, c) n = S.extract 0 n := by unfold takeS; rw [if_neg (fun h => h.elim (fun h => h hc) hz)]
      have e2 : takeI (S, c) n = (S.extract n S.size, c) := by unfold takeI; rw [if_neg (fun h => h.elim (fun h => h hc) hz)]
      rw [e1, e2]
      clear e1 e2
      have HW : Hid (∀ w', w' = w → Calls Tryz.prog 86 #[.pointer (some ⟨g, 0, none⟩)] w' fun e w'' => e = .returned (.bool true) ∧ w'' = w') := fun w' e => by
        subst e
        have := iwell_any g (S, c) _ hI.out
        rw [show decide ((S, c).2 = 0) = true from decide_eq_true hc] at this
        exact this
      have HC : Hid (c = 0) := hc
      clear hc
      have i1 : (n : Int) ≤ (S.size : Int) := by omega
      have i2 : n ≤ S.size := by omega
      obtain ⟨A, hA⟩ : ∃ A, S.extract 0 n = A := ⟨_, rfl⟩
      obtain ⟨T, hT⟩ : ∃ T, S.extract n S.size = T := ⟨_, rfl⟩
      have HT : Hid (T.size ≤ 1048576) := by show _ ≤ _; rw [← hT, ByteArray.size_extract]; omega
      rw [hA, hT]
      go_enter Tryz.func64, Tryz.ntmps64
      go_wp2_with fail
      refine (HR.out _ rfl).mono ?_
      rintro e w1 ⟨rfl, rfl⟩
      go_wp2_with fail
      refine (HW.out _ rfl).mono ?_
      rintro e w2 ⟨rfl, rfl⟩
      go_wp2
      go_ret
      exact ⟨rfl, ⟨hI.out.1.setAt 1 _, fun h => absurd HC.out h, HT.out⟩, (Kept2.refl g none _).setCell ⟨g, 1, none⟩ rfl _⟩
  · have e1 : takeS (S, c) n = ⟨#[]⟩ := by unfold takeS; rw [if_pos (Or.inl hc)]
    have e2 : takeI (S, c) n = wrongP (S, c) 90 := by unfold takeI; rw [if_pos (Or.inl hc)]
    rw [e1, e2]
    clear e1 e2
    by_cases hz : S.size < n
    · clear hc
      go_enter Tryz.func64, Tryz.ntmps64
      go_wp2_with fail
      refine (HR.out _ rfl).mono ?_
      rintro e w1 ⟨rfl, rfl⟩
      go_wp2_with fail
      refine (HF.out _ rfl).mono ?_
      rintro e w2 ⟨rfl, h2⟩
      have H2 : Hid (InTo w1 g (wrongP (S, c) 90) w2) := h2
      clear h2
      go_wp2_with fail
      refine (iwell_any g _ _ H2.out.1).mono ?_
      rintro e w3 ⟨rfl, rfl⟩
      have hd : decide ((wrongP (S, c) 90).2 = 0) = false := HD.out
      go_wp2
      go_ret
      exact ⟨rfl, H2.out⟩
    · have e3 : wrongP (S, c) 90 = (S, c) := by
        have hw : S = ⟨#[]⟩ := hI.out.2.1 hc
        unfold wrongP; rw [if_neg hc, hw]
      have HW : Hid (∀ w', w' = w → Calls Tryz.prog 86 #[.pointer (some ⟨g, 0, none⟩)] w' fun e w'' => e = .returned (.bool false) ∧ w'' = w') := fun w' e => by
        subst e
        have := iwell_any g (S, c) _ hI.out
        rw [show decide ((S, c).2 = 0) = false from decide_eq_false hc] at this
        exact this
      rw [e3]
      clear e3 hc HD
      go_enter Tryz.func64, Tryz.ntmps64
      go_wp2_with fail
      refine (HR.out _ rfl).mono ?_
      rintro e w1 ⟨rfl, rfl⟩
      go_wp2_with fail
      refine (HW.out _ rfl).mono ?_
      rintro e w2 ⟨rfl, rfl⟩
      go_wp2
      go_ret
      exact ⟨rfl, InTo.same hI.out⟩
end Go.Proofs.YtabhkebkbidfhaaGreatDoor
namespace Go.Proofs.YtabhkebkbidfhaaGreatDoor
open Go.RowKit
set_option maxRecDepth 100000
set_option linter.unusedSimpArgs false
theorem take_number (i : ByteArray × Int) (n : Nat) : (takeI i n, accB (takeS i n) (takeS i n).size) = numberP i n := by
  unfold takeI takeS numberP
  split
  · rfl
  · next h =>
    have hn : n ≤ i.1.size := by
      rcases Nat.lt_or_ge i.1.size n with h' | h'
      · exact absurd (Or.inr h') h
      · exact h'
    have e : (i.1.extract 0 n).size = n := by rw [ByteArray.size_extract]; omega
    rw [e, accB_congr (i.1.extract 0 n) i.1 n (fun j hj => by rw [bt_extract _ 0 n j (by omega) hn, Nat.zero_add])]
theorem takeS_size (i : ByteArray × Int) (n : Nat) : (takeS i n).size ≤ n := by
  unfold takeS
  split
  · exact Nat.zero_le _
  · rw [ByteArray.size_extract]; omega
set_option maxRecDepth 100000 in
set_option maxHeartbeats 2000000 in
theorem ibyte_any (g : Nat) (i : ByteArray × Int) (w : World) (h : InAt w g i) :
    Calls Tryz.prog 37 #[.pointer (some ⟨g, 0, none⟩)] w fun e w' => e = .returned (.int .i64 ((numberP i 1).2 : Int)) ∧ InTo w g (numberP i 1).1 w' := by
  have HT : Hid (∀ w', w' = w → Calls Tryz.prog 64 #[.pointer (some ⟨g, 0, none⟩), .int .i64 1] w' fun e w'' => e = .returned (.string (takeS i 1)) ∧ InTo w' g (takeI i 1) w'') := fun w' e => by subst e; exact itake_any g i 1 _ h (by decide)
  have HRd : Hid (∀ w', Calls Tryz.prog 63 #[.string (takeS i 1)] w' fun e w'' => e = .returned (.int .i64 (accB (takeS i 1) (takeS i 1).size : Int)) ∧ w'' = w') := fun w' => cread_any _ _ (Nat.le_trans (takeS_size i 1) (by decide))
  rw [← take_number i 1]
  show Calls _ _ _ _ fun e w' => e = .returned (.int .i64 ((accB (takeS i 1) (takeS i 1).size : Nat) : Int)) ∧ InTo w g (takeI i 1) w'
  generalize accB (takeS i 1) (takeS i 1).size = n at *
  generalize takeS i 1 = T at *
  generalize takeI i 1 = J at *
  clear h
  go_enter Tryz.func37, Tryz.ntmps37
  go_wp2_with fail
  refine (HT.out _ rfl).mono ?_
  rintro e w1 ⟨rfl, h1⟩
  have H1 : Hid (InTo w g J w1) := h1
  clear h1
  go_wp2_with fail
  refine (HRd.out _).mono ?_
  rintro e w2 ⟨rfl, rfl⟩
  go_wp2
  go_ret
  exact ⟨rfl, H1.out⟩
set_option maxRecDepth 100000 in
set_option maxHeartbeats 2000000 in
theorem inum_any (g : Nat) (i : ByteArray × Int) (w : World) (h : InAt w g i) :
    Calls Tryz.prog 36 #[.pointer (some ⟨g, 0, none⟩)] w fun e w' => e = .returned (.int .i64 ((inNumP i).2 : Int)) ∧ InTo w g (inNumP i).1 w' := by
  have HT : Hid (∀ w', w' = w → Calls Tryz.prog 64 #[.pointer (some ⟨g, 0, none⟩), .int .i64 6] w' fun e w'' => e = .returned (.string (takeS i 6)) ∧ InTo w' g (takeI i 6) w'') := fun w' e => by subst e; exact itake_any g i 6 _ h (by decide)
  have HRd : Hid (∀ w', Calls Tryz.prog 63 #[.string (takeS i 6)] w' fun e w'' => e = .returned (.int .i64 (accB (takeS i 6) (takeS i 6).size : Int)) ∧ w'' = w') := fun w' => cread_any _ _ (takeS_size i 6)
  unfold inNumP
  rw [← take_number i 6]
  show Calls _ _ _ _ fun e w' => e = .returned (.int .i64 (((if 1099511627775 < accB (takeS i 6) (takeS i 6).size then (wrongP (takeI i 6) 91, 0) else (takeI i 6, accB (takeS i 6) (takeS i 6).size)).2 : Nat) : Int)) ∧ InTo w g ((if 1099511627775 < accB (takeS i 6) (takeS i 6).size then (wrongP (takeI i 6) 91, 0) else (takeI i 6, accB (takeS i 6) (takeS i 6).size)).1) w'
  generalize accB (takeS i 6) (takeS i 6).size = n at *
  generalize takeS i 6 = T at *
  generalize takeI i 6 = J at *
  clear h
  by_cases hn : 1099511627775 < n
  · rw [if_pos hn]
    go_enter Tryz.func36, Tryz.ntmps36
    go_wp2_with fail
    refine (HT.out _ rfl).mono ?_
    rintro e w1 ⟨rfl, h1⟩
    have H1 : Hid (InTo w g J w1) := h1
    clear h1
    go_wp2_with fail
    refine (HRd.out _).mono ?_
    rintro e w2 ⟨rfl, rfl⟩
    go_wp2_with fail
    refine (ifail_any g J 91 _ H1.out.1).mono ?_
    rintro e w3 ⟨rfl, h3⟩
    have H3 : Hid (InTo w g (wrongP J 91) w3) := H1.out.trans h3
    clear h3
    go_wp2
    go_ret
    exact ⟨rfl, H3.out⟩
  · rw [if_neg hn]
    go_enter Tryz.func36, Tryz.ntmps36
    go_wp2_with fail
    refine (HT.out _ rfl).mono ?_
    rintro e w1 ⟨rfl, h1⟩
    have H1 : Hid (InTo w g J w1) := h1
    clear h1
    go_wp2_with fail
    refine (HRd.out _).mono ?_
    rintro e w2 ⟨rfl, rfl⟩
    go_wp2
    go_ret
    exact ⟨rfl, H1.out⟩
theorem InAt.none {w : World} {g : Nat} {i : ByteArray × Int} (h : InAt w g i) (hc : i.2 ≠ 0) (e : Int) : wrongP i e = i := by
  obtain ⟨S, c⟩ := i
  have hw : S = ⟨#[]⟩ := h.2.1 hc
  have hc' : ¬ c = 0 := hc
  unfold wrongP
  rw [if_neg hc', hw]
end Go.Proofs.YtabhkebkbidfhaaGreatDoor
namespace Go.Proofs.YtabhkebkbidfhaaGreatDoor
open Go.RowKit
set_option maxRecDepth 100000
set_option linter.unusedSimpArgs false
end Go.Proofs.YtabhkebkbidfhaaGreatDoor
namespace Go.Proofs.YtabhkebkbidfhaaGreatDoor
open Go.RowKit
set_option maxRecDepth 100000
set_option linter.unusedSimpArgs false
theorem OutAt.setRowOther {w : World} {g : Nat} {v : Value} {o : ByteArray × Bool} (h : OutAt w g v o) (c : Nat) (hg : g ≠ c) (hv : v.ownBlock ≠ some c) (cs : Array Value) : OutAt (w.setRow c cs) g v o := by
  obtain ⟨S, b⟩ := o
  cases b with
  | true => exact OutAt.bad.2 ⟨Blk.setRowOther (OutAt.bad.1 h).1 c hg cs, (OutAt.bad.1 h).2⟩
  | false =>
    obtain ⟨h1, h2, h3⟩ := OutAt.ok.1 h
    refine OutAt.ok.2 ⟨h1.setRowOther c hg cs, ⟨h2.1, ?_⟩, h3⟩
    rcases h2.2 with hn | ⟨b, cap, cur, rfl, h0, hg, rest⟩
    · exact .inl hn
    · exact .inr ⟨b, cap, cur, rfl, h0, by rw [setRow_other w c b cs (fun e => hv (by rw [← e]; rfl))]; exact hg, rest⟩
end Go.Proofs.YtabhkebkbidfhaaGreatDoor
namespace Go.Proofs.YtabhkebkbidfhaaGreatDoor
open Go.RowKit
set_option maxRecDepth 100000
set_option linter.unusedSimpArgs false
theorem OutTo.below {w w' : World} {g : Nat} {v : Value} {o : ByteArray × Bool} (h : OutTo w g v o w') (B : Nat) (hB : B ≤ w.heap.size) (hg : B ≤ g) (hr : ∀ k, v.ownBlock = some k → B ≤ k) :
    ∃ v', OutAt w' g v' o ∧ Below B w w' ∧ ∀ k, v'.ownBlock = some k → B ≤ k := by
  obtain ⟨v', a, k, n⟩ := h
  refine ⟨v', a, k.below B hB hg hr, fun j hj => ?_⟩
  rcases n j hj with h' | h'
  · exact hr j h'
  · omega
theorem InTo.below {w w' : World} {g : Nat} {i : ByteArray × Int} (h : InTo w g i w') (B : Nat) (hB : B ≤ w.heap.size) (hg : B ≤ g) : Below B w w' := h.2.below B hB hg (fun k hk => by cases hk)
theorem OutAt.kept {w w' : World} {g g' : Nat} {v : Value} {o : ByteArray × Bool} (h : OutAt w g v o) (k : Kept2 g' none w w') (hg : g ≠ g') (hv : v.ownBlock ≠ some g') : OutAt w' g v o := by
  obtain ⟨S, b⟩ := o
  cases b with
  | true => exact OutAt.bad.2 ⟨Blk.kept (OutAt.bad.1 h).1 k hg (by simp), (OutAt.bad.1 h).2⟩
  | false =>
    obtain ⟨h1, h2, h3⟩ := OutAt.ok.1 h
    exact OutAt.ok.2 ⟨h1.kept k hg (by simp), h2.kept k hv (by
      cases hq : v.ownBlock with
      | none => exact Or.inl rfl
      | some x => exact Or.inr (by simp)), h3⟩
theorem InAt.kept {w w' : World} {g g' : Nat} {r : Option Nat} {i : ByteArray × Int} (h : InAt w g i) (k : Kept2 g' r w w') (hg : g ≠ g') (hr : some g ≠ r) : InAt w' g i := ⟨h.1.kept k hg hr, h.2⟩
end Go.Proofs.YtabhkebkbidfhaaGreatDoor
namespace Go.Proofs.YtabhkebkbidfhaaGreatDoor
open Go.RowKit
set_option maxRecDepth 100000
set_option linter.unusedSimpArgs false
theorem back_rest {E T : ByteArray} {n : Nat} (hE : E.size = n) : (E ++ T).extract n (E ++ T).size = T := by
  have h := (PreB.refl (E ++ T)).rest n hE (by rw [ByteArray.size_append]; omega)
  exact h.whole (by rw [ByteArray.size_extract, ByteArray.size_append]; omega)
theorem back1 (p : Int × Int × Int × ByteArray) (T : ByteArray) (h : kd p = 1) (hok : okP p = true) : ∃ N : Nat, numberP (encP p ++ T, 0) 1 = ((T, 0), N) ∧ (N : Int) = pn p := by
  have e1 : encP p = bigB (pn p) 1 := by unfold encP; rw [if_pos h]
  have e2 : oneOk (pn p) 255 = true := by unfold okP at hok; rwa [if_pos h] at hok
  obtain ⟨N, hN, hl⟩ := oneOk_nat _ _ e2
  refine ⟨N, ?_, hN.symm⟩
  rw [e1, hN]
  rcases number_pre (bigB (N : Int) 1 ++ T) T N 1 (by omega) (PreB.refl _) with ⟨h1, _⟩ | ⟨_, h2, _⟩
  · rw [ByteArray.size_append, bigB_size] at h1; omega
  · rw [h2, back_rest (bigB_size _ _)]
theorem back2 (p : Int × Int × Int × ByteArray) (T : ByteArray) (h : kd p = 2) (hok : okP p = true) : ∃ N : Nat, inNumP (encP p ++ T, 0) = ((T, 0), N) ∧ (N : Int) = pn p := by
  have e1 : encP p = bigB (pn p) 6 := by unfold encP; rw [if_neg (by omega), if_pos h]
  have e2 : oneOk (pn p) 1099511627775 = true := by unfold okP at hok; rwa [if_neg (by omega), if_pos h] at hok
  obtain ⟨N, hN, hl⟩ := oneOk_nat _ _ e2
  refine ⟨N, ?_, hN.symm⟩
  rw [e1, hN]
  rcases inNum_pre (bigB (N : Int) 6 ++ T) T N (by omega) (PreB.refl _) with ⟨h1, _⟩ | ⟨_, h2, _⟩
  · rw [ByteArray.size_append, bigB_size] at h1; omega
  · rw [h2, back_rest (bigB_size _ _)]
end Go.Proofs.YtabhkebkbidfhaaGreatDoor
