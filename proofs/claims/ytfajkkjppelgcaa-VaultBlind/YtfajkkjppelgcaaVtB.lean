/- The code's sealer (layer 16): the assertion that gives up, and is caught; fit; part; draw. -/
import Derived.Test.YtfajkkjppelgcaaVtA
import Derived.Test.YtfajkkjppelgcaaR7
import Derived.Test.YtfajkkjppelgcaaBld
import Derived.Test.YtfajkkjppelgcaaL4
import Derived.Defers
import Derived.Recover
namespace Go.Proofs.Ytfajkkjppelgcaa
open Go.RowKit
set_option maxRecDepth 100000
set_option linter.unusedSimpArgs false
set_option linter.unusedSectionVars false
variable [Inhabited TabZ]

theorem Try.rtAssert : Try.prog.rt.typeAssertionError = 15 := by kernel_rfl

theorem assert_up (w : World) (v : Value) (h : v = .nilIface ∨ v = .iface 45 (.agg #[])) : ∃ u pv o, (Instr.typeAssert v 40 35 false).run Try.prog w = .halt (.panic (.iface u pv)) (w.alloc o) := by
  unfold Instr.typeAssert
  rcases h with rfl | rfl
  · refine ⟨Try.prog.rt.typeAssertionError, .pointer (some ⟨w.heap.size, 0, none⟩), .cells #[typeHandle Try.prog 40, .pointer none, typeHandle Try.prog 35, strVal ""] 50, ?_⟩
    simp only [Sem.run_bind, run_underlying Try.underlying35, Result.andThen_ok]
    simp [Sem.run_bind, runtimePanic, elemOf, newVar, newRow, Try.rtAssert, run_underlying Try.underlying15]
    rfl
  · refine ⟨Try.prog.rt.typeAssertionError, .pointer (some ⟨w.heap.size, 0, none⟩), .cells #[typeHandle Try.prog 40, typeHandle Try.prog 45, typeHandle Try.prog 35, strVal ""] 50, ?_⟩
    simp only [Sem.run_bind, run_underlying Try.underlying35, Result.andThen_ok]
    simp [Sem.run_bind, runtimePanic, elemOf, newVar, newRow, Try.rtAssert, run_underlying Try.underlying15]
    rfl

set_option maxHeartbeats 1000000 in
theorem fit_any (key nonce bound : ByteArray) (n : Nat) (w : World) (q : Bool) (hs : bound.size + n ≤ 4503599627370496) (h : q = true ↔ MayA key nonce bound.size n) :
    Calls Try.prog 31 #[.agg #[.string key, .string nonce, .string bound], .int .i64 (n : Int)] w fun e w' => e = .returned (.bool q) ∧ Below w.heap.size w w' := by
  by_cases h1 : key.size = 32
  · by_cases h2 : nonce.size = 12
    · by_cases h3 : bound.size + n ≤ 32768
      · obtain rfl : q = true := h.2 ⟨h1, h2, h3⟩
        have g : decide ((bound.size : Int) + (n : Int) ≤ 32768) = true := by simp; omega
        clear h
        go_enter Try.func31, Try.ntmps31
        go_wp2
        go_ret
        exact ⟨rfl, below_new w _⟩
      · obtain rfl : q = false := Bool.eq_false_iff.2 (fun e => by have hh := h.1 e; exact h3 hh.2.2)
        have g : decide ((bound.size : Int) + (n : Int) ≤ 32768) = false := by simp; omega
        clear h
        go_enter Try.func31, Try.ntmps31
        go_wp2
        go_ret
        exact ⟨rfl, below_new w _⟩
    · obtain rfl : q = false := Bool.eq_false_iff.2 (fun e => by have hh := h.1 e; exact h2 hh.2.1)
      have g : ((nonce.size : Int) == 12) = false := by rw [beq_eq_false_iff_ne]; omega
      clear h
      go_enter Try.func31, Try.ntmps31
      go_wp2
      go_ret
      exact ⟨rfl, below_new w _⟩
  · obtain rfl : q = false := Bool.eq_false_iff.2 (fun e => by have hh := h.1 e; exact h1 hh.1)
    have g : ((key.size : Int) == 32) = false := by rw [beq_eq_false_iff_ne]; omega
    clear h
    go_enter Try.func31, Try.ntmps31
    go_wp2
    go_ret
    exact ⟨rfl, below_new w _⟩

/-- The two tables of the hash. -/
def Hsh (w : World) : Prop := GlobB w ∧ GlobK w

theorem Hsh.below {w w' : World} (h : Hsh w) (hb : Below w.heap.size w w') : Hsh w' := ⟨h.1.below hb, h.2.below hb⟩

theorem cell_block {w w' : World} {g j : Nat} (h : w'.heap[g]? = w.heap[g]?) : w'.cell? ⟨g, j, none⟩ = w.cell? ⟨g, j, none⟩ := by
  unfold World.cell?
  simp only [h]

theorem cell_map {w : World} {m : Nat} {T : List (ByteArray × Value)} (h : MapTV w m T) (j : Nat) : w.cell? ⟨m, j, none⟩ = none := by
  obtain ⟨es, clock, h1, _⟩ := h
  unfold World.cell?
  simp only [h1]

theorem idl_glob {w : World} {i m N g : Nat} {S : ByteArray} {T : List (ByteArray × Value)} (h : IdlAt w i m S N T) (k : IntKind) (x : Int) (hc : w.cell? ⟨g, 0, none⟩ = some (.int k x)) : g ≠ i ∧ g ≠ m := by
  refine ⟨fun e => ?_, fun e => ?_⟩
  · have := h.1.cell 0
    rw [← e, hc] at this
    cases this
  · have := cell_map h.2 0
    rw [← e, hc] at this
    cases this

theorem Hsh.kept {w w' : World} {i m N : Nat} {S : ByteArray} {T : List (ByteArray × Value)} (hh : Hsh w) (h : IdlAt w i m S N T) (k : Kept2 i (some m) w w') : Hsh w' := by
  obtain ⟨a1, a2⟩ := idl_glob h _ _ (hh.1 0 (by decide))
  obtain ⟨b1, b2⟩ := idl_glob h _ _ (hh.2 0 (by decide))
  refine ⟨fun j hj => ?_, fun j hj => ?_⟩
  · rw [cell_block (k.block _ (World.block_lt_of_cell? w _ (hh.1 j hj)) a1 (fun e => a2 (Option.some.inj e)))]; exact hh.1 j hj
  · rw [cell_block (k.block _ (World.block_lt_of_cell? w _ (hh.2 j hj)) b1 (fun e => b2 (Option.some.inj e)))]; exact hh.2 j hj

/-- A builder beside the sealer. -/
theorem bld_kept {B b i m : Nat} {s : ByteArray} {w w' : World} (h : Bld B b s w) (k : Kept2 i (some m) w w') (hi : i < B) (hm : m < B) : Bld B b s w' := by
  have st : ∀ x, B ≤ x → x < w.heap.size → w'.heap[x]? = w.heap[x]? := fun x hx hl => k.block x hl (by omega) (fun e => by have := Option.some.inj e; omega)
  have go : ∀ p, Lib.BuilderAt 72 5 B b p (Lib.strCells s) w → Lib.BuilderAt 72 5 B b p (Lib.strCells s) w' := fun p h => by
    have hl := h.lt
    obtain ⟨hB, v, hk, hown, hne⟩ := h
    refine ⟨hB, v, by rw [st b hB hl]; exact hk, ?_, hne⟩
    obtain ⟨hl, h | ⟨g, cap, cur, hv, hB, hc, r⟩⟩ := hown
    · exact ⟨hl, .inl h⟩
    · exact ⟨hl, .inr ⟨g, cap, cur, hv, hB, by rw [st g hB (Array.getElem?_eq_some_iff.1 hc).1]; exact hc, r⟩⟩
  rcases h with h | h
  · exact .inl (go _ h)
  · exact .inr (go _ h)

theorem Kept2.onLow {g : Nat} {r : Option Nat} {a b c : World} (h1 : Kept2 g r a b) (h2 : Below a.heap.size b c) : Kept2 g r a c :=
  ⟨h2.os.trans h1.os, h2.tape.trans h1.tape, h2.output.trans h1.output, Nat.le_trans h1.size h2.size, fun k hk hg hr => (h2.block k hk).trans (h1.block k hk hg hr)⟩

set_option maxHeartbeats 4000000 in
theorem part_any (i m N : Nat) (S : ByteArray) (T : List (ByteArray × Value)) (w : World) (hh : Hsh w) (h : IdlAt w i m S N T) (hS : S.size ≤ 65472) (hN : N < 1152921504606846976) :
    Calls Try.prog 29 #[.pointer (some ⟨i, 0, none⟩)] w fun e w' => e = .returned (.string (partV S N)) ∧ IdlAt w' i m S (N + 1) T ∧ Kept2 i (some m) w w' := by
  have HH : Hid (Hsh w) := hh
  have HI : Hid (IdlAt w i m S N T) := h
  obtain ⟨P, HP⟩ : ∃ P, Hid (P = purpV N) := ⟨_, rfl⟩
  have hPs : P.size = 8 := by rw [HP.out]; exact purpV_size N
  obtain ⟨E, HE⟩ : ∃ E, Hid (E = partV S N) := ⟨_, rfl⟩
  have C1 : Hid (∀ w' b, IntsAt w' .i64 (some ⟨b, 0, none⟩) 2 [0, (N : Int)] → Calls Try.prog 36 #[.slice (some ⟨b, 0, none⟩) 2 2] w' fun e w'' => e = .returned (.string P) ∧ Below w'.heap.size w' w'') := fun w' b hI => by
    rw [HP.out]; exact putBig_any (some ⟨b, 0, none⟩) 2 2 [0, (N : Int)] w' (by decide) hI
  have C2 : Hid (∀ w', Hsh w' → Calls Try.prog 35 #[.string ⟨#[118, 97, 117, 108, 116]⟩, .string S, .string P, .int .i64 32] w' fun e w'' => e = .returned (.tuple #[.string E, .int .i64 0]) ∧ Below w'.heap.size w' w'') := fun w' hh' => by
    rw [HE.out, show partV S N = expandB (macB vaultT S) P 32 by rw [HP.out]; rfl]
    exact derive_ok vaultT S P 32 w' (by decide) hS (by omega) (by decide) hh'.1 hh'.2
  rw [← HE.out]
  have B0 : Blk w 38 i #[.string S, .int .i64 (N : Int), .map (some m)] := h.1
  have d0 : w.drew.cell? ⟨i, 0, none⟩ = some (.string S) := B0.cell 0
  have d1 : w.drew.cell? ⟨i, 1, none⟩ = some (.int .i64 (N : Int)) := B0.cell 1
  clear hh h HP HE hPs hS
  go_enter Try.func29, Try.ntmps29
  go_wp2_with fail
  refine wp_region_noPanic ?_
  refine wp_region_held_drew (S := fun w' => w'.cell? ⟨i, 0, none⟩ = some (.string S) ∧ w'.cell? ⟨i, 1, none⟩ = some (.int .i64 (N : Int))) (by kernel_rfl) (by first | exact trivial | assumption | exact ⟨by assumption, by assumption⟩) (fun hHeld => ?_)
  refine take_at (i := 0) (v := ?_) rfl rfl (by kernel_rfl) (by kernel_rfl) (by kernel_rfl) (fun _ _ _ h => h) (Or.inl ⟨by rfl, ?_⟩) (by assumption) ?_
  rotate_left
  · intro w hSw; (try dsimp only at hSw); go_simp; try with_reducible rfl
  try simp only [Act.put, List.setIfInBounds_toArray, List.set_cons_zero, List.set_cons_succ]
  refine take_at (i := 1) (v := ?_) rfl rfl (by kernel_rfl) (by kernel_rfl) (by kernel_rfl) (fun _ _ _ h => h) (Or.inl ⟨by rfl, ?_⟩) (by assumption) ?_
  rotate_left
  · intro w hSw; (try dsimp only at hSw); go_simp; try with_reducible rfl
  try simp only [Act.put, List.setIfInBounds_toArray, List.set_cons_zero, List.set_cons_succ]
  refine take_at (i := 2) (v := ?_) rfl rfl (by kernel_rfl) (by kernel_rfl) (by kernel_rfl) (fun _ _ _ h => h) (Or.inl ⟨by rfl, ?_⟩) (by assumption) ?_
  rotate_left
  · intro w hSw; (try dsimp only at hSw); go_simp; try with_reducible rfl
  try simp only [Act.put, List.setIfInBounds_toArray, List.set_cons_zero, List.set_cons_succ]
  refine take_at (i := 3) (v := ?_) rfl rfl (by kernel_rfl) (by kernel_rfl) (by kernel_rfl) (fun _ _ _ h => h) (Or.inl ⟨by rfl, ?_⟩) (by assumption) ?_
  rotate_left
  · intro w hSw; (try dsimp only at hSw); go_simp; try with_reducible rfl
  try simp only [Act.put, List.setIfInBounds_toArray, List.set_cons_zero, List.set_cons_succ]
  refine take_at (i := 4) (v := ?_) rfl rfl (by kernel_rfl) (by kernel_rfl) (by kernel_rfl) (fun _ _ _ h => h) (Or.inl ⟨by rfl, ?_⟩) (by assumption) ?_
  rotate_left
  · intro w hSw; (try dsimp only at hSw); go_simp; try with_reducible rfl
  try simp only [Act.put, List.setIfInBounds_toArray, List.set_cons_zero, List.set_cons_succ]
  refine take_at (i := 5) (v := ?_) rfl rfl (by kernel_rfl) (by kernel_rfl) (by kernel_rfl) (fun _ _ _ h => h) (Or.inl ⟨by rfl, ?_⟩) (by assumption) ?_
  rotate_left
  · intro w hSw; (try dsimp only at hSw); go_simp; try with_reducible rfl
  try simp only [Act.put, List.setIfInBounds_toArray, List.set_cons_zero, List.set_cons_succ]
  refine take_at (i := 6) (v := ?_) rfl rfl (by kernel_rfl) (by kernel_rfl) (by kernel_rfl) (fun _ _ _ h => h) (Or.inl ⟨by rfl, ?_⟩) (by assumption) ?_
  rotate_left
  · intro w hSw; (try dsimp only at hSw); go_simp; try with_reducible rfl
  try simp only [Act.put, List.setIfInBounds_toArray, List.set_cons_zero, List.set_cons_succ]
  refine take_at (i := 7) (v := ?_) rfl rfl (by kernel_rfl) (by kernel_rfl) (by kernel_rfl) (fun _ _ _ h => h) (Or.inl ⟨by rfl, ?_⟩) (by assumption) ?_
  rotate_left
  · intro w hSw; (try dsimp only at hSw); go_simp; try with_reducible rfl
  try simp only [Act.put, List.setIfInBounds_toArray, List.set_cons_zero, List.set_cons_succ]
  refine wpAnyH_ready (rs := [8]) (by kernel_rfl) (by simp) ?_
  refine AllReadyH.cons rfl (fun K hK => ?_) AllReadyH.nil
  go_simp
  have I1 : IntsAt (w.alloc (.cells #[.int .i64 0, .int .i64 (N : Int)] 3)).drew .i64 (some ⟨w.heap.size, 0, none⟩) 2 [0, (N : Int)] := ints_alloc w [0, (N : Int)] 3 2 #[.int .i64 0, .int .i64 (N : Int)] rfl rfl
  have b1 : Below w.heap.size w (w.alloc (.cells #[.int .i64 0, .int .i64 (N : Int)] 3)).drew := (below_new w _).drew
  obtain ⟨w1, hw1⟩ : ∃ w1, w1 = (w.alloc (.cells #[.int .i64 0, .int .i64 (N : Int)] 3)).drew := ⟨_, rfl⟩
  rw [← hw1] at I1 b1 ⊢
  have HI1 : Hid (IntsAt w1 .i64 (some ⟨w.heap.size, 0, none⟩) 2 [0, (N : Int)]) := I1
  have HB1 : Hid (Below w.heap.size w w1) := b1
  have X1 : Hid (IdlAt w1 i m S N T) := HI.out.on b1
  have e0 : w1.cell? ⟨i, 0, none⟩ = some (.string S) := X1.out.1.cell 0
  have e1 : w1.cell? ⟨i, 1, none⟩ = some (.int .i64 (N : Int)) := X1.out.1.cell 1
  clear hw1 I1 b1 d0 d1 B0
  refine hK.out _ _ ⟨e0, e1⟩ (fun hHeld => ?_)
  clear hK K
  refine wpAnyH_ready (rs := [9]) (by kernel_rfl) (by simp) ?_
  refine AllReadyH.cons rfl (fun K hK => ?_) AllReadyH.nil
  go_simp
  refine (C1.out _ _ HI1.out).mono ?_
  rintro e w2 ⟨rfl, hb2⟩
  have HB2 : Hid (Below w.heap.size w w2) := below_step HB1.out (Nat.le_refl _) hb2
  have X2 : Hid (IdlAt w2 i m S N T) := X1.out.on hb2
  have e2 : w2.cell? ⟨i, 0, none⟩ = some (.string S) := X2.out.1.cell 0
  have e3 : w2.cell? ⟨i, 1, none⟩ = some (.int .i64 (N : Int)) := X2.out.1.cell 1
  clear hb2 C1 HI1 HB1 X1 e0 e1
  refine hK.out _ _ ⟨e2, e3⟩ (fun hHeld => ?_)
  clear hK K
  refine wpAnyH_ready (rs := [10]) (by kernel_rfl) (by simp) ?_
  refine AllReadyH.cons rfl (fun K hK => ?_) AllReadyH.nil
  go_simp
  refine (C2.out _ (HH.out.below HB2.out)).mono ?_
  rintro e w3 ⟨rfl, hb3⟩
  have HB3 : Hid (Below w.heap.size w w3) := below_step HB2.out (Nat.le_refl _) hb3
  have X3 : Hid (IdlAt w3 i m S N T) := X2.out.on hb3
  have e4 : w3.cell? ⟨i, 0, none⟩ = some (.string S) := X3.out.1.cell 0
  have e5 : w3.cell? ⟨i, 1, none⟩ = some (.int .i64 (N : Int)) := X3.out.1.cell 1
  have f5 := X3.out.1.free 1
  clear hb3 C2 HB2 X2 e2 e3
  refine hK.out _ _ ⟨e4, e5⟩ (fun hHeld => ?_)
  clear hK K
  refine take_at (i := 11) (v := ?_) rfl rfl (by kernel_rfl) (by kernel_rfl) (by kernel_rfl) (fun _ _ _ h => h) (Or.inl ⟨by rfl, ?_⟩) (by assumption) ?_
  rotate_left
  · intro w hSw; (try dsimp only at hSw); go_simp; try with_reducible rfl
  try simp only [Act.put, List.setIfInBounds_toArray, List.set_cons_zero, List.set_cons_succ]
  refine take_at (i := 12) (v := ?_) rfl rfl (by kernel_rfl) (by kernel_rfl) (by kernel_rfl) (fun _ _ _ h => h) (Or.inl ⟨by rfl, ?_⟩) (by assumption) ?_
  rotate_left
  · intro w hSw; (try dsimp only at hSw); go_simp; try with_reducible rfl
  try simp only [Act.put, List.setIfInBounds_toArray, List.set_cons_zero, List.set_cons_succ]
  refine take_at (i := 13) (v := ?_) rfl rfl (by kernel_rfl) (by kernel_rfl) (by kernel_rfl) (fun _ _ _ h => h) (Or.inl ⟨by rfl, ?_⟩) (by assumption) ?_
  rotate_left
  · intro w hSw; (try dsimp only at hSw); go_simp; try with_reducible rfl
  try simp only [Act.put, List.setIfInBounds_toArray, List.set_cons_zero, List.set_cons_succ]
  refine take_at (i := 14) (v := ?_) rfl rfl (by kernel_rfl) (by kernel_rfl) (by kernel_rfl) (fun _ _ _ h => h) (Or.inl ⟨by rfl, ?_⟩) (by assumption) ?_
  rotate_left
  · intro w hSw; (try dsimp only at hSw); go_simp; try with_reducible rfl
  try simp only [Act.put, List.setIfInBounds_toArray, List.set_cons_zero, List.set_cons_succ]
  refine take_at (i := 15) (v := ?_) rfl rfl (by kernel_rfl) (by kernel_rfl) (by kernel_rfl) (fun _ _ _ h => h) (Or.inl ⟨by rfl, ?_⟩) (by assumption) ?_
  rotate_left
  · intro w hSw; (try dsimp only at hSw); go_simp; try with_reducible rfl
  try simp only [Act.put, List.setIfInBounds_toArray, List.set_cons_zero, List.set_cons_succ]
  refine wpAnyH_done (by kernel_rfl) (NoPanic.normal ?_) _
  go_wp2_with fail
  go_ret
  refine ⟨rfl, ⟨?_, ?_⟩, ?_⟩
  · exact X3.out.1.setAt 1 _
  · exact X3.out.2.block (Below.heap_setCell w3 ⟨i, 1, none⟩ _ m X3.out.ne.symm)
  · exact (Kept2.ofBelow i (some m) HB3.out).setCell ⟨i, 1, none⟩ rfl _

theorem upV_le (n : Nat) : n ≤ 32 * upV n := by unfold upV; omega

set_option maxHeartbeats 4000000 in
theorem draw_any (i m N n : Nat) (S : ByteArray) (T : List (ByteArray × Value)) (w : World) (hh : Hsh w) (h : IdlAt w i m S N T) (hS : S.size ≤ 65472) (hN : N < 1152921504606000000) (hn : n ≤ 40000) :
    Calls Try.prog 32 #[.pointer (some ⟨i, 0, none⟩), .int .i64 (n : Int)] w fun e w' => e = .returned (.string (drawV S N n)) ∧ IdlAt w' i m S (N + upV n) T ∧ Kept2 i (some m) w w' := by
  have HH : Hid (Hsh w) := hh
  have HI : Hid (IdlAt w i m S N T) := h
  obtain ⟨hi, hm⟩ := h.lt
  obtain ⟨U, HU⟩ : ∃ U, Hid (U = upV n) := ⟨_, rfl⟩
  have hU : ((n : Int) + 32 - 1).tdiv 32 = (U : Int) := by
    rw [HU.out]; unfold upV
    rw [Int.tdiv_eq_ediv_of_nonneg (by omega)]; omega
  have hU2 : ((n : Int) + 31).tdiv 32 = (U : Int) := by
    rw [← hU]; congr 1; omega
  have hUn : U ≤ 1251 := by rw [HU.out]; unfold upV; omega
  have hnU : n ≤ 32 * U := by rw [HU.out]; exact upV_le n
  have HR : Hid (drawV S N n = (partsV S N U).extract 0 n) := by show _ = _; rw [HU.out]; rfl
  rw [← HU.out]
  clear hh h HU
  go_enter Try.func32, Try.ntmps32
  go_wp2_with fail
  go_loopw [10] (fun c wr => ∃ k : Nat, k ≤ U ∧ c = .int .i64 k ∧ Bld w.heap.size w.heap.size (partsV S N k) wr ∧ Hid (IdlAt wr i m S (N + k) T) ∧ Hid (Kept2 i (some m) w wr)) (fun c _ => U - (intOf c).toNat)
  case atStart => exact ⟨0, Nat.zero_le _, rfl, bld_new w, HI.out.on (below_new w _), Kept2.ofBelow i (some m) (below_new w _)⟩
  case round =>
    obtain ⟨k, hk, rfl, hbd, HIr, HKr⟩ := hrel
    by_cases hlt : k < U
    · have b0 : (k : Int) < (U : Int) := by omega
      have C1 : Hid (Calls _ _ _ _ _) := part_any i m (N + k) S T wr (HH.out.kept HI.out HKr.out) HIr.out hS (by omega)
      have C2 : Hid (∀ w1 : World, Bld w.heap.size w.heap.size (partsV S N k) w1 → w.heap.size ≤ w1.heap.size → Calls Try.prog 33 #[.pointer (some ⟨w.heap.size, 0, none⟩), .string (partV S (N + k))] w1 fun e w2 => e = .returned (.tuple #[.int .i64 32, .nilIface]) ∧ Bld w.heap.size w.heap.size (partsV S N (k + 1)) w2 ∧ Below w.heap.size w1 w2) := fun w1 h1 h2 => by
        have h := bwrite_any w.heap.size w.heap.size (partsV S N k) (partV S (N + k)) w1 h1 (by rw [partsV_size, partV_size]; omega) h2
        rw [partV_size] at h
        exact h
      have HBd : Hid (Bld w.heap.size w.heap.size (partsV S N k) wr) := hbd
      obtain ⟨A, HA⟩ : ∃ A, Hid (A = partsV S N k) := ⟨_, rfl⟩
      obtain ⟨A2, HA2⟩ : ∃ A, Hid (A = partsV S N (k + 1)) := ⟨_, rfl⟩
      rw [← HA.out] at C2 HBd
      rw [← HA2.out] at C2
      clear hbd
      generalize partV S (N + k) = E at *
      go_wp2_with fail
      refine C1.out.mono ?_
      rintro e w1 ⟨rfl, h1, k1⟩
      have HI1 : Hid (IdlAt w1 i m S (N + k + 1) T) := h1
      have HK1 : Hid (Kept2 i (some m) w w1) := HKr.out.trans k1 (Nx.refl _ _)
      have HB1 : Hid (Bld w.heap.size w.heap.size A w1) := bld_kept HBd.out k1 hi hm
      clear h1 k1 C1 HBd HIr HKr
      go_wp2_with fail
      refine (C2.out _ HB1.out HK1.out.size).mono ?_
      rintro e w2 ⟨rfl, hb2, hl2⟩
      have HI2 : Hid (IdlAt w2 i m S (N + k + 1) T) := HI1.out.low hl2 hi hm
      have HK2 : Hid (Kept2 i (some m) w w2) := HK1.out.onLow hl2
      clear C2 HI1 HK1 HB1 hl2
      go_wp2_with fail
      rw [HA2.out] at hb2
      refine ⟨⟨k + 1, by omega, by go_num, hb2, HI2.out, HK2.out⟩, ?_⟩
      simp [intOf]; omega
    · obtain rfl : k = U := by omega
      have b0 : ¬ ((k : Int) < (k : Int)) := by omega
      have hsz : (partsV S N k).size = 32 * k := partsV_size _ _ _
      have C : Hid (Calls _ _ _ _ _) := bstring_any w.heap.size w.heap.size (partsV S N k) wr hbd HKr.out.size
      clear hbd
      generalize partsV S N k = A at *
      have hsl : n ≤ A.size := by omega
      go_wp2_with fail
      refine C.out.mono ?_
      rintro e w1 ⟨rfl, hb1⟩
      have HI1 : Hid (IdlAt w1 i m S (N + k) T) := HIr.out.low hb1 hi hm
      have HK1 : Hid (Kept2 i (some m) w w1) := HKr.out.onLow hb1
      clear C HIr HKr hb1
      go_wp2_with fail
      go_ret
      exact ⟨by rw [HR.out]; rfl, HI1.out, HK1.out⟩

end Go.Proofs.Ytfajkkjppelgcaa
