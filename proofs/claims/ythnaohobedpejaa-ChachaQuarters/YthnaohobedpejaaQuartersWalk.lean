import Derived.Test.YthnaohobedpejaaQ5
namespace Go.Proofs.Ythnaohobedpejaa
open Go.RowKit
set_option linter.unusedSimpArgs false

theorem u32_small (n : Nat) (h : n < 4294967296) : IntKind.i64.wrap (n : Int) = (n : Int) := by rw [IntKind.wrap_i64]; omega

theorem blk4q {w : World} {t : TypeId} {g : Nat} {p q r s : Value} (h : Blk w t g #[p, q, r, s]) : w.cell? ⟨g, 0, none⟩ = some p ∧ w.cell? ⟨g, 1, none⟩ = some q ∧ w.cell? ⟨g, 2, none⟩ = some r ∧ w.cell? ⟨g, 3, none⟩ = some s :=
  ⟨h.cell 0, h.cell 1, h.cell 2, h.cell 3⟩

set_option maxHeartbeats 2000000 in
theorem cquarter_any (x0 x1 x2 x3 : Int) (a b c d : Nat) (w : World) (ha : x0 % 4294967296 = (a : Int)) (hb : x1 % 4294967296 = (b : Int)) (hc : x2 % 4294967296 = (c : Int)) (hd : x3 % 4294967296 = (d : Int)) :
    Calls Try.prog 4 #[agg4 x0 x1 x2 x3] w fun e w' => e = .returned (nat4 (qr a b c d)) ∧ Below w.heap.size w w' := by
  have C' := fun w => quarter_any a b c d (by omega) (by omega) w
  have hok := qr_ok a b c d (by omega) (by omega)
  obtain ⟨⟨X, Y, Z, U⟩, ht⟩ : ∃ t, t = qr a b c d := ⟨_, rfl⟩
  rw [← ht] at C' hok ⊢
  obtain ⟨lX, lY, lZ, lU⟩ := hok
  simp only at lX lY lZ lU
  have C : Hid (∀ w, Calls Try.prog 7 #[.int .u32 a, .int .u32 b, .int .u32 c, .int .u32 d] w fun e w' => e = .returned (.tuple #[.int .u32 X, .int .u32 Y, .int .u32 Z, .int .u32 U]) ∧ w' = w) := C'
  show Calls Try.prog 4 #[.agg #[.int .i64 x0, .int .i64 x1, .int .i64 x2, .int .i64 x3]] w fun e w' => e = .returned (.agg #[.int .i64 X, .int .i64 Y, .int .i64 Z, .int .i64 U]) ∧ Below w.heap.size w w'
  clear C' ht
  go_enter Try.func4, Try.ntmps4
  go_wp2_with fail
  refine (C.out _).mono ?_
  rintro e w' ⟨rfl, rfl⟩
  have hB : Below w.heap.size w ((w.alloc (.cells #[.int .i64 x0, .int .i64 x1, .int .i64 x2, .int .i64 x3] 22)).alloc (.cells #[.int .i64 0, .int .i64 0, .int .i64 0, .int .i64 0] 22)) := (below_new w _).alloc (by simp) _
  have hA : Hid (Blk ((w.alloc (.cells #[.int .i64 x0, .int .i64 x1, .int .i64 x2, .int .i64 x3] 22)).alloc (.cells #[.int .i64 0, .int .i64 0, .int .i64 0, .int .i64 0] 22)) 22 (w.heap.size + 1) #[.int .i64 0, .int .i64 0, .int .i64 0, .int .i64 0]) := Blk.new' _ _ _ _ (by simp)
  generalize World.alloc (World.alloc w _) _ = wq at *
  go_wp2_with (with_reducible refine wpList_storeBlk rfl 22 _ _ rfl (w.heap.size + 1) _ #[.int .i64 X, .int .i64 Y, .int .i64 Z, .int .i64 U] ?hx ?hy hA.out ?hl ?hi ?h1 ?_)
  case hx => rfl
  case hy => rfl
  case hl => rfl
  case hi => exact Try.arr4i
  case h1 => simp [Value.oneCell']
  exact bodyPost_blk rfl (w.heap.size + 1) _ rfl rfl (hA.out.setRow _) 4 3 Try.underlying22 Try.arr4i ⟨rfl, below_setRow hB (by omega) _⟩

theorem same4 (a b c d : Int) (w : World) : (Op.equalIn 10000 22 (.agg #[.int .i64 a, .int .i64 b, .int .i64 c, .int .i64 d]) (.agg #[.int .i64 a, .int .i64 b, .int .i64 c, .int .i64 d])).run Try.prog w = .ok true w := by
  have u3 := Try.underlying3
  have a3 := Try.isAgg3
  have z3 := Try.sizeOf3
  rw [show (10000 : Nat) = 9999 + 1 from rfl, Op.equalIn]
  simp only [Sem.run_bind, run_underlying Try.underlying22, Result.andThen_ok]
  simp only [Std.Legacy.Range.forIn_eq_forIn_range', Std.Legacy.Range.size, Nat.sub_zero, Nat.add_sub_cancel, Nat.div_one, List.range'_succ, List.range'_zero, List.forIn_cons, List.forIn_nil]
  go_simp

theorem qr_known : qr 286331153 16909060 2609737539 19088743 = (3928658676, 3407673550, 1166100270, 1484899515) := by decide +kernel

set_option maxHeartbeats 1000000 in
theorem known_any (w : World) : Calls Try.prog 6 #[] w fun e w' => e = .returned (.bool true) ∧ Below w.heap.size w w' := by
  have C' := cquarter_any 286331153 16909060 2609737539 19088743 286331153 16909060 2609737539 19088743 w rfl rfl rfl rfl
  rw [qr_known] at C'
  have C : Hid (Calls Try.prog 4 #[.agg #[.int .i64 286331153, .int .i64 16909060, .int .i64 2609737539, .int .i64 19088743]] w fun e w' => e = .returned (.agg #[.int .i64 3928658676, .int .i64 3407673550, .int .i64 1166100270, .int .i64 1484899515]) ∧ Below w.heap.size w w') := C'
  clear C'
  go_enter Try.func6, Try.ntmps6
  go_wp2_with fail
  refine C.out.mono ?_
  rintro e w1 ⟨rfl, hb1⟩
  have e4 := fun w => same4 3928658676 3407673550 1166100270 1484899515 w
  go_wp2_with fail
  go_ret
  exact ⟨rfl, hb1⟩

set_option maxHeartbeats 2000000 in
theorem chachaQuarters_walk (x0 x1 x2 x3 : Int) (w : World) :
    Calls Try.prog 3 #[.agg #[.int .i64 x0, .int .i64 x1, .int .i64 x2, .int .i64 x3]] w fun e w' => e = .returned (.bool true) ∧ Below w.heap.size w w' := by
  obtain ⟨a, ha⟩ : ∃ a : Nat, x0 % 4294967296 = (a : Int) := ⟨(x0 % 4294967296).toNat, by omega⟩
  obtain ⟨b, hb⟩ : ∃ a : Nat, x1 % 4294967296 = (a : Int) := ⟨(x1 % 4294967296).toNat, by omega⟩
  obtain ⟨c, hc⟩ : ∃ a : Nat, x2 % 4294967296 = (a : Int) := ⟨(x2 % 4294967296).toNat, by omega⟩
  obtain ⟨d, hd⟩ : ∃ a : Nat, x3 % 4294967296 = (a : Int) := ⟨(x3 % 4294967296).toNat, by omega⟩
  obtain ⟨⟨X, Y, Z, U⟩, ht⟩ : ∃ t, t = qr a b c d := ⟨_, rfl⟩
  have C1 : Hid (∀ w, Calls Try.prog 4 #[.agg #[.int .i64 x0, .int .i64 x1, .int .i64 x2, .int .i64 x3]] w fun e w' => e = .returned (.agg #[.int .i64 X, .int .i64 Y, .int .i64 Z, .int .i64 U]) ∧ Below w.heap.size w w') := by
    intro w
    have := cquarter_any x0 x1 x2 x3 a b c d w ha hb hc hd
    rw [← ht] at this
    exact this
  have C2 : Hid (∀ w, Calls Try.prog 5 #[.agg #[.int .i64 x0, .int .i64 x1, .int .i64 x2, .int .i64 x3]] w fun e w' => e = .returned (.agg #[.int .i64 X, .int .i64 Y, .int .i64 Z, .int .i64 U]) ∧ Below w.heap.size w w') := by
    intro w
    have := rquarter_any x0 x1 x2 x3 a b c d w ha hb hc hd
    rw [← ht] at this
    exact this
  clear ha hb hc hd ht
  have HA : Blk (w.alloc (.cells #[.int .i64 x0, .int .i64 x1, .int .i64 x2, .int .i64 x3] 22)) 22 w.heap.size #[.int .i64 x0, .int .i64 x1, .int .i64 x2, .int .i64 x3] := Blk.new w _ _
  go_enter Try.func3, Try.ntmps3
  go_wp2_with fail
  have hB0 : Below w.heap.size w (w.alloc (.cells #[.int .i64 x0, .int .i64 x1, .int .i64 x2, .int .i64 x3] 22)) := below_new w _
  have hS4 := blk4q HA
  generalize World.alloc w _ = w0 at *
  have hgs : Hid (w.heap.size < w0.heap.size) := HA.lt
  refine wp_region_noPanic ?_
  refine wp_region_held_drew (S := fun w' => w'.cell? ⟨w.heap.size, 0, none⟩ = some (.int .i64 x0) ∧ w'.cell? ⟨w.heap.size, 1, none⟩ = some (.int .i64 x1) ∧ w'.cell? ⟨w.heap.size, 2, none⟩ = some (.int .i64 x2) ∧ w'.cell? ⟨w.heap.size, 3, none⟩ = some (.int .i64 x3)) (by kernel_rfl) (by first | exact trivial | assumption | exact ⟨by assumption, by assumption⟩) (fun hHeld => ?_)
  refine take_at (i := 0) (v := ?_) rfl rfl (by kernel_rfl) (by kernel_rfl) (by kernel_rfl) (fun _ _ _ h => h) (Or.inl ⟨by rfl, ?_⟩) (by assumption) ?_
  rotate_left
  · intro w hSw; (try dsimp only at hSw); go_simp; try with_reducible rfl
  try simp only [Act.put, List.setIfInBounds_toArray, List.set_cons_zero, List.set_cons_succ]
  refine take_at (i := 2) (v := ?_) rfl rfl (by kernel_rfl) (by kernel_rfl) (by kernel_rfl) (fun _ _ _ h => h) (Or.inl ⟨by rfl, ?_⟩) (by assumption) ?_
  rotate_left
  · intro w hSw; (try dsimp only at hSw); go_simp; try with_reducible rfl
  try simp only [Act.put, List.setIfInBounds_toArray, List.set_cons_zero, List.set_cons_succ]
  refine wpAnyH_ready (rs := [1]) (by kernel_rfl) (by simp) ?_
  refine AllReadyH.cons rfl (fun K hK => ?_) AllReadyH.nil
  go_simp
  refine (C1.out _).mono ?_
  rintro e w1 ⟨rfl, hb1⟩
  have hB1 : Below w.heap.size w w1 := below_step hB0.drew (Nat.le_refl _) hb1
  have HA1 : Blk w1 22 w.heap.size #[.int .i64 x0, .int .i64 x1, .int .i64 x2, .int .i64 x3] := Blk.below (w := w0.drew) HA hb1 hgs.out
  refine hK.out _ _ (blk4q HA1) (fun hHeld => ?_)
  clear hK K
  refine wpAnyH_ready (rs := [3]) (by kernel_rfl) (by simp) ?_
  refine AllReadyH.cons rfl (fun K hK => ?_) AllReadyH.nil
  go_simp
  refine (C2.out _).mono ?_
  rintro e w2 ⟨rfl, hb2⟩
  have hB2 : Below w.heap.size w w2 := below_step hB1 (Nat.le_refl _) hb2
  have HA2 := HA1.on hb2
  refine hK.out _ _ (blk4q HA2) (fun hHeld => ?_)
  clear hK K
  clear hb1 hb2 HA1 HA hB0 hB1 C1 C2
  have e4 := fun w => same4 (X : Int) (Y : Int) (Z : Int) (U : Int) w
  refine take_at (i := 4) (v := ?_) rfl rfl (by kernel_rfl) (by kernel_rfl) (by kernel_rfl) (fun _ _ _ h => h) (Or.inl ⟨by rfl, ?_⟩) (by assumption) ?_
  rotate_left
  · intro w hSw; (try dsimp only at hSw); go_simp; try with_reducible rfl
  try simp only [Act.put, List.setIfInBounds_toArray, List.set_cons_zero, List.set_cons_succ]
  refine take_at (i := 5) (v := ?_) rfl rfl (by kernel_rfl) (by kernel_rfl) (by kernel_rfl) (fun _ _ _ h => h) (Or.inl ⟨by rfl, ?_⟩) (by assumption) ?_
  rotate_left
  · intro w hSw; (try dsimp only at hSw); go_simp; try with_reducible rfl
  try simp only [Act.put, List.setIfInBounds_toArray, List.set_cons_zero, List.set_cons_succ]
  refine wpAnyH_ready (rs := [6]) (by kernel_rfl) (by simp) ?_
  refine AllReadyH.cons rfl (fun K hK => ?_) AllReadyH.nil
  go_simp
  refine (known_any _).mono ?_
  rintro e w3 ⟨rfl, hb3⟩
  have hB3 : Below w.heap.size w w3 := below_step hB2 (Nat.le_refl _) hb3
  have HA3 := HA2.on hb3
  refine hK.out _ _ (blk4q HA3) (fun hHeld => ?_)
  clear hK K
  refine take_at (i := 7) (v := ?_) rfl rfl (by kernel_rfl) (by kernel_rfl) (by kernel_rfl) (fun _ _ _ h => h) (Or.inl ⟨by rfl, ?_⟩) (by assumption) ?_
  rotate_left
  · intro w hSw; (try dsimp only at hSw); go_simp; try with_reducible rfl
  try simp only [Act.put, List.setIfInBounds_toArray, List.set_cons_zero, List.set_cons_succ]
  refine take_at (i := 8) (v := ?_) rfl rfl (by kernel_rfl) (by kernel_rfl) (by kernel_rfl) (fun _ _ _ h => h) (Or.inl ⟨by rfl, ?_⟩) (by assumption) ?_
  rotate_left
  · intro w hSw; (try dsimp only at hSw); go_simp; try with_reducible rfl
  try simp only [Act.put, List.setIfInBounds_toArray, List.set_cons_zero, List.set_cons_succ]
  refine wpAnyH_done (by kernel_rfl) (NoPanic.normal ?_) _
  go_wp2_with fail
  go_ret
  exact ⟨rfl, hB3⟩
end Go.Proofs.Ythnaohobedpejaa
