import Derived.Test.YtfbgofbjbfidoaaDoorRVals
import Derived.Deep.WholeRow
namespace Go.Proofs.YtfbgofbjbfidoaaDoor
open Go.RowKit
set_option linter.unusedSimpArgs false

/-- Numbers that were just laid. -/
theorem ints_alloc (w : World) (l : List Int) (e : TypeId) (n : Nat) (c : Array Value) (hn : l.length = n) (hc : c = (l.map (Value.int .i64)).toArray) :
    IntsAt (w.alloc (.cells c e)) .i64 (some ⟨w.heap.size, 0, none⟩) n l := by
  refine ⟨hn, .inr ⟨w.heap.size, 0, rfl, fun i hi => ?_⟩⟩
  subst hc
  rw [cell_of_row _ _ _ _ e (0, 0) (heap_alloc_last w _), Nat.zero_add]
  simp [List.getD_eq_getElem?_getD, List.getElem?_eq_getElem (show i < l.length by omega)]

set_option maxHeartbeats 4000000 in
theorem rconst_any (w : World) :
    Calls Tryd.prog 29 #[] w fun e w' => e = .returned (.slice (some ⟨w.heap.size, 0, none⟩) 64 64) ∧
      IntsAt w' .i64 (some ⟨w.heap.size, 0, none⟩) 64 (ints kN) ∧ Below w.heap.size w w' := by
  go_enter Tryd.func29, Tryd.ntmps29
  go_wp2
  go_ret
  exact ⟨rfl, ints_alloc _ (ints kN) _ 64 _ (by kernel_rfl) (by kernel_rfl), below_new _ _⟩

set_option maxHeartbeats 4000000 in
theorem rbegin_any (w : World) :
    Calls Tryd.prog 22 #[] w fun e w' => e = .returned (.string (ofN bN)) ∧ Below w.heap.size w w' := by
  go_enter Tryd.func22, Tryd.ntmps22
  go_wp2_with fail
  refine (rputBig_any _ 8 _ (ints bN) _ (by omega) (ints_alloc _ (ints bN) _ 8 _ (by kernel_rfl) (by kernel_rfl))).mono ?_
  rintro e w1 ⟨rfl, hb1⟩
  go_wp2_with fail
  go_ret
  exact ⟨rfl, below_step (below_new _ _) (Nat.le_refl _) hb1⟩

set_option maxHeartbeats 400000 in
theorem rblock_bad1 (s b : ByteArray) (w : World) (h : ¬ s.size = 32) :
    Calls Tryd.prog 23 #[.string s, .string b] w fun e w' => e = .returned (.tuple #[.string ⟨#[]⟩, .int .i64 1]) ∧ Below w.heap.size w w' := by
  have hn : (((s.size : Int) != 32)) = true := by rw [bne_iff_ne]; omega
  go_enter Tryd.func23, Tryd.ntmps23
  go_wp2
  go_ret2
  exact ⟨rfl, Below.refl _ _⟩

set_option maxHeartbeats 400000 in
theorem rblock_bad2 (s b : ByteArray) (w : World) (h : s.size = 32) (h' : ¬ b.size = 64) :
    Calls Tryd.prog 23 #[.string s, .string b] w fun e w' => e = .returned (.tuple #[.string ⟨#[]⟩, .int .i64 1]) ∧ Below w.heap.size w w' := by
  have hn : (((s.size : Int) != 32)) = false := by rw [bne_eq_false_iff_eq]; omega
  have hn' : (((b.size : Int) != 64)) = true := by rw [bne_iff_ne]; omega
  go_enter Tryd.func23, Tryd.ntmps23
  go_wp2
  go_ret2
  exact ⟨rfl, Below.refl _ _⟩

/-- A slice of eight words at the head of a block. -/
def At8 (w : World) (v : Value) (x : List Nat) : Prop := ∃ g c, v = .slice (some ⟨g, 0, none⟩) 8 c ∧ ∀ j, j < 8 → w.cell? ⟨g, j, none⟩ = some (.int .i64 ((x.getD j 0 : Nat) : Int))
theorem rbig8 (s : ByteArray) (w : World) (hs : s.size = 32) :
    Calls Tryd.prog 30 #[.string s] w fun e w' => ∃ g c, e = .returned (.tuple #[.slice (some ⟨g, 0, none⟩) 8 c, .int .i64 0]) ∧
      (∀ j, j < 8 → w'.cell? ⟨g, j, none⟩ = some (.int .i64 (((wordsN s).getD j 0 : Nat) : Int))) ∧ Below w.heap.size w w' := by
  refine (rbig_own s w (by omega) (by omega)).mono ?_
  rintro e w' ⟨v, rfl, ho, hb⟩
  rw [wordsN_ints, show s.size / 4 = 8 by omega] at ho
  obtain ⟨g, c, rfl, hc⟩ := ho.at (by omega)
  exact ⟨g, c, rfl, fun j hj => by rw [hc j hj, ints_getD], hb⟩


theorem add32_val (a b : Nat) (ha : a < 4294967296) (hb : b < 4294967296) : IntKind.i64.wrap ((a : Int) + (b : Int)) % 4294967296 = (((a + b) % 4294967296 : Nat) : Int) := by
  rw [i64_small _ (by omega) (by omega)]; omega
theorem cell_alloc_keep {w : World} {a : Addr} {v : Value} (o : Obj) (h : w.cell? a = some v) : (w.alloc o).cell? a = some v := by
  rw [World.cell?_alloc_some _ _ _ (by rw [h]; rfl), h]
theorem cells_new (w : World) (x : List Nat) (e : TypeId) (n : Nat) (c : Array Value) (hn : x.length = n) (hc : c = ((ints x).map (Value.int .i64)).toArray) (j : Nat) (hj : j < n) :
    (w.alloc (.cells c e)).cell? ⟨w.heap.size, j, none⟩ = some (.int .i64 ((x.getD j 0 : Nat) : Int)) := by
  rw [(ints_alloc w (ints x) e n c (by rw [ints_length, hn]) hc).cellAt j hj, ints_getD]
theorem addL_snoc (x y : List Nat) (k : Nat) (hk : k < 8) : (ints (addL x y)).take k ++ [(((x.getD k 0 + y.getD k 0) % 4294967296 : Nat) : Int)] = (ints (addL x y)).take (k + 1) := by
  have hl : (ints (addL x y)).length = 8 := by rw [ints_length, addL_length]
  refine take_snoc_int _ _ (by omega) _ ?_
  have : (ints (addL x y))[k]'(by omega) = (ints (addL x y)).getD k 0 := by simp [List.getD_eq_getElem?_getD, List.getElem?_eq_getElem (show k < (ints (addL x y)).length by omega)]
  rw [this, ints_getD, addL_getD x y k hk]

set_option maxRecDepth 100000 in
set_option maxHeartbeats 8000000 in
theorem rblock_walk (s b : ByteArray) (W : Nat → Nat) (R : Nat → List Nat) (x : List Nat) (w : World) (hs : s.size = 32) (hb : b.size = 64) (hx : x = wordsN s) (hW : Spread W (bt b)) (hR : Rounds R W x) :
    Calls Tryd.prog 23 #[.string s, .string b] w fun e w' => e = .returned (.tuple #[.string (ofN (addL x (R 64))), .int .i64 0]) ∧ Below w.heap.size w w' := by
  have HWl : Hid (∀ i, W i < 4294967296) := hW.1
  have CS : Hid (∀ w, _) := fun w => rsched_any b W w hb hW
  have CG : Hid (∀ w, _) := fun w => rbig8 s w hs
  rw [← hx] at CG
  have HR : Hid (Rounds R W x) := hR
  clear hW hx hR
  have hn : (((s.size : Int) != 32)) = false := by rw [bne_eq_false_iff_eq]; omega
  have hn' : (((b.size : Int) != 64)) = false := by rw [bne_eq_false_iff_eq]; omega
  obtain ⟨i0, hi, hz0, hz1, hz2⟩ := info_parts Tryd.info3
  go_enter Tryd.func23, Tryd.ntmps23
  go_wp2_with fail
  refine (CS.out _).mono ?_
  rintro e w1 ⟨gw, cw, rfl, hI1, hb1⟩
  have HI1 : Hid (IntsAt w1 _ _ _ _) := hI1
  clear hI1 CS
  go_wp2_with fail
  refine (rconst_any _).mono ?_
  rintro e w2 ⟨rfl, hI2, hb2⟩
  have HI2 : Hid (IntsAt w2 _ _ _ _) := hI2
  clear hI2
  go_wp2_with fail
  refine (CG.out _).mono ?_
  rintro e w3 ⟨g3, c3, rfl, hc3, hb3⟩
  have HC3 : Hid (∀ j, j < 8 → w3.cell? ⟨g3, j, none⟩ = _) := hc3
  clear hc3
  go_wp2_with fail
  refine (CG.out _).mono ?_
  rintro e w4 ⟨g4, c4, rfl, hc4, hb4⟩
  have HC4 : Hid (∀ j, j < 8 → w4.cell? ⟨g4, j, none⟩ = _) := hc4
  clear hc4 CG
  -- the slices, as they stand ahead of the rounds
  have HB : Hid (Below w.heap.size w w4) := below_step (below_step (below_step hb1 (Nat.le_refl _) hb2) (Nat.le_refl _) hb3) (Nat.le_refl _) hb4
  have KW : Hid (∀ j, j < 64 → w4.cell? ⟨gw, j, none⟩ = some (.int .i64 (W j : Int))) := fun j hj => by
    rw [(((HI1.out.below hb2).below hb3).below hb4).cellAt j hj, wT_getD _ _ _ hj]
  have KK : Hid (∀ j, j < 64 → w4.cell? ⟨w1.heap.size, j, none⟩ = some (.int .i64 ((kN.getD j 0 : Nat) : Int))) := fun j hj => by
    rw [((HI2.out.below hb3).below hb4).cellAt j hj, ints_getD]
  have KV : Hid (∀ j, j < 8 → w4.cell? ⟨g3, j, none⟩ = some (.int .i64 ((x.getD j 0 : Nat) : Int))) := fun j hj => by
    have h1 := HC3.out j hj
    rw [hb4.cell (p := ⟨g3, j, none⟩) (World.block_lt_of_cell? w3 _ h1), h1]
  clear HI1 HI2 HC3 hb1 hb2 hb3 hb4 hs hb
  generalize w1.heap.size = gk at *
  clear w1 w2 w3
  go_wp2_with fail
  go_loopw [10, 12] (fun v i wr => ∃ k : Nat, k ≤ 64 ∧ i = .int .i64 k ∧ At8 wr v (R k) ∧ Below w4.heap.size w4 wr) (fun _ i _ => 64 - (intOf i).toNat)
  case atStart => exact ⟨0, by omega, rfl, ⟨g4, c4, rfl, by rw [HR.out.1]; exact HC4.out⟩, Below.refl _ _⟩
  case round =>
    clear HC4
    obtain ⟨k, hk, rfl, ⟨g, c, rfl, hc⟩, hbl⟩ := hrel
    by_cases hlt : k < 64
    · obtain ⟨A, hA⟩ : ∃ a, a = (R k).getD 0 0 := ⟨_, rfl⟩
      obtain ⟨B, hB⟩ : ∃ a, a = (R k).getD 1 0 := ⟨_, rfl⟩
      obtain ⟨C, hC⟩ : ∃ a, a = (R k).getD 2 0 := ⟨_, rfl⟩
      obtain ⟨D, hD⟩ : ∃ a, a = (R k).getD 3 0 := ⟨_, rfl⟩
      obtain ⟨E, hE⟩ : ∃ a, a = (R k).getD 4 0 := ⟨_, rfl⟩
      obtain ⟨F, hF⟩ : ∃ a, a = (R k).getD 5 0 := ⟨_, rfl⟩
      obtain ⟨G, hG⟩ : ∃ a, a = (R k).getD 6 0 := ⟨_, rfl⟩
      obtain ⟨H, hH⟩ : ∃ a, a = (R k).getD 7 0 := ⟨_, rfl⟩
      obtain ⟨Z, hZ⟩ : ∃ a, a = kN.getD k 0 := ⟨_, rfl⟩
      obtain ⟨Y, hY⟩ : ∃ a, a = W k := ⟨_, rfl⟩
      have c0 := hc 0 (by omega)
      have c1 := hc 1 (by omega)
      have c2 := hc 2 (by omega)
      have c3' := hc 3 (by omega)
      have c4' := hc 4 (by omega)
      have c5 := hc 5 (by omega)
      have c6 := hc 6 (by omega)
      have c7 := hc 7 (by omega)
      have cK := KK.out k hlt
      have cW := KW.out k hlt
      rw [← hbl.cell (p := ⟨gk, k, none⟩) (World.block_lt_of_cell? w4 _ cK), ← hZ] at cK
      rw [← hbl.cell (p := ⟨gw, k, none⟩) (World.block_lt_of_cell? w4 _ cW), ← hY] at cW
      rw [← hA] at c0
      rw [← hB] at c1
      rw [← hC] at c2
      rw [← hD] at c3'
      rw [← hE] at c4'
      rw [← hF] at c5
      rw [← hG] at c6
      rw [← hH] at c7
      have ok := HR.out.2.2 k
      have lA : A < 4294967296 := by rw [hA]; exact ok 0
      have lB : B < 4294967296 := by rw [hB]; exact ok 1
      have lC : C < 4294967296 := by rw [hC]; exact ok 2
      have lD : D < 4294967296 := by rw [hD]; exact ok 3
      have lE : E < 4294967296 := by rw [hE]; exact ok 4
      have lF : F < 4294967296 := by rw [hF]; exact ok 5
      have lG : G < 4294967296 := by rw [hG]; exact ok 6
      have lH : H < 4294967296 := by rw [hH]; exact ok 7
      have lZ : Z < 4294967296 := by rw [hZ]; exact kN_ok k
      have lY : Y < 4294967296 := by rw [hY]; exact HWl.out k
      have NX : Hid (R (k + 1) = [(tV E F G H Z Y + uV A B C) % 4294967296, A, B, C, (D + tV E F G H Z Y) % 4294967296, E, F, G]) := by
        show _ = _
        rw [HR.out.2.1 k, hA, hB, hC, hD, hE, hF, hG, hH, hZ, hY]; rfl
      clear hA hB hC hD hE hF hG hH hZ hY ok hc
      have b0 : (k : Int) < 64 := by omega
      have C6 : Hid (∀ w, Calls Tryd.prog 32 #[.int .i64 E, .int .i64 6] w _) := fun w => rright_any E 6 lE (by decide) (by decide) w
      have C11 : Hid (∀ w, Calls Tryd.prog 32 #[.int .i64 E, .int .i64 11] w _) := fun w => rright_any E 11 lE (by decide) (by decide) w
      have C25 : Hid (∀ w, Calls Tryd.prog 32 #[.int .i64 E, .int .i64 25] w _) := fun w => rright_any E 25 lE (by decide) (by decide) w
      have C2 : Hid (∀ w, Calls Tryd.prog 32 #[.int .i64 A, .int .i64 2] w _) := fun w => rright_any A 2 lA (by decide) (by decide) w
      have C13 : Hid (∀ w, Calls Tryd.prog 32 #[.int .i64 A, .int .i64 13] w _) := fun w => rright_any A 13 lA (by decide) (by decide) w
      have C22 : Hid (∀ w, Calls Tryd.prog 32 #[.int .i64 A, .int .i64 22] w _) := fun w => rright_any A 22 lA (by decide) (by decide) w
      go_wp2
      go_quiet (fail)
      go_wp2
      go_quiet (fail)
      go_wp2
      generalize hq : World.drewN (World.drewN wr _) _ = wq
      have d3 : wq.cell? ⟨g, 3, none⟩ = some (.int .i64 (D : Int)) := by rw [← hq]; exact c3'
      have d7 : wq.cell? ⟨g, 7, none⟩ = some (.int .i64 (H : Int)) := by rw [← hq]; exact c7
      have dK : wq.cell? ⟨gk, k, none⟩ = some (.int .i64 (Z : Int)) := by rw [← hq]; exact cK
      have dW : wq.cell? ⟨gw, k, none⟩ = some (.int .i64 (Y : Int)) := by rw [← hq]; exact cW
      have hblq : Below w4.heap.size w4 wq := by rw [← hq]; exact below_drewN (below_drewN hbl _) _
      clear hq c0 c1 c2 c3' c4' c5 c6 c7 cK cW hbl
      go_quiet (first
        | (go_at_call_of 32 (Value.int IntKind.i64 6); exact Calls.quiet_of (C6.out _))
        | (go_at_call_of 32 (Value.int IntKind.i64 11); exact Calls.quiet_of (C11.out _))
        | (go_at_call_of 32 (Value.int IntKind.i64 25); exact Calls.quiet_of (C25.out _))
        | (go_at_call 31; exact Calls.quiet_of_same (word_any _ _)))
      rw [rt_val E F G H Z Y lE lF lG lH lZ lY]
      have lT := tV_lt E F G H Z Y
      have lU := uV_lt A B C
      generalize tV E F G H Z Y = T at *
      have VU : Hid (_ = _) := ru_val A B C lA lB lC
      generalize uV A B C = U at *
      clear C6 C11 C25 d7 dK dW
      go_wp2_with fail
      refine (C2.out _).mono ?_
      rintro e w' ⟨rfl, m1, rfl⟩
      go_wp2_with fail
      refine (C13.out _).mono ?_
      rintro e w' ⟨rfl, m2, rfl⟩
      go_wp2_with fail
      refine (C22.out _).mono ?_
      rintro e w' ⟨rfl, m3, rfl⟩
      go_wp2_with fail
      refine (word_any _ _).mono ?_
      rintro e w' ⟨rfl, rfl⟩
      rw [VU.out]
      clear C2 C13 C22 VU
      go_wp2_with fail
      generalize hq : World.drewN wq _ = wz
      have e3 : wz.cell? ⟨g, 3, none⟩ = some (.int .i64 (D : Int)) := by rw [← hq]; exact d3
      have hblz : Below w4.heap.size w4 wz := by rw [← hq]; exact below_drewN hblq _
      clear hq d3 hblq
      refine wp_region_noPanic ?_
      refine wp_region_held_drew (S := fun w => w.cell? ⟨g, 3, none⟩ = some (.int .i64 (D : Int))) (by kernel_rfl) (by first | exact trivial | assumption | exact ⟨by assumption, by assumption⟩) (fun hHeld => ?_)
      refine take_at (i := 0) (v := ?_) rfl rfl (by kernel_rfl) (by kernel_rfl) (by kernel_rfl) (fun _ _ _ h => h) (Or.inl ⟨by rfl, ?_⟩) (by assumption) ?_
      rotate_left
      · intro w hSw; (try dsimp only at hSw); go_simp; try with_reducible rfl
      try simp only [Act.put, List.setIfInBounds_toArray, List.set_cons_zero, List.set_cons_succ]
      refine take_at (i := 1) (v := ?_) rfl rfl (by kernel_rfl) (by kernel_rfl) (by kernel_rfl) (fun _ _ _ h => h) (Or.inl ⟨by rfl, ?_⟩) (by assumption) ?_
      rotate_left
      · intro w hSw; (try dsimp only at hSw); go_simp; try with_reducible rfl
      try simp only [Act.put, List.setIfInBounds_toArray, List.set_cons_zero, List.set_cons_succ]
      refine take_at (i := 2) (v := ?_) rfl rfl (by kernel_rfl) (by kernel_rfl) (by kernel_rfl) (fun _ _ _ h => h) (Or.inl ⟨by rfl, ?_⟩) (by assumption) ?_
      rotate_left
      · intro w hSw; (try dsimp only at hSw); go_simp; try with_reducible rfl
      try simp only [Act.put, List.setIfInBounds_toArray, List.set_cons_zero, List.set_cons_succ]
      refine take_at (i := 4) (v := ?_) rfl rfl (by kernel_rfl) (by kernel_rfl) (by kernel_rfl) (fun _ _ _ h => h) (Or.inl ⟨by rfl, ?_⟩) (by assumption) ?_
      rotate_left
      · intro w hSw; (try dsimp only at hSw); go_simp; try with_reducible rfl
      try simp only [Act.put, List.setIfInBounds_toArray, List.set_cons_zero, List.set_cons_succ]
      refine take_at (i := 5) (v := ?_) rfl rfl (by kernel_rfl) (by kernel_rfl) (by kernel_rfl) (fun _ _ _ h => h) (Or.inl ⟨by rfl, ?_⟩) (by assumption) ?_
      rotate_left
      · intro w hSw; (try dsimp only at hSw); go_simp; try with_reducible rfl
      try simp only [Act.put, List.setIfInBounds_toArray, List.set_cons_zero, List.set_cons_succ]
      refine take_at (i := 6) (v := ?_) rfl rfl (by kernel_rfl) (by kernel_rfl) (by kernel_rfl) (fun _ _ _ h => h) (Or.inl ⟨by rfl, ?_⟩) (by assumption) ?_
      rotate_left
      · intro w hSw; (try dsimp only at hSw); go_simp; try with_reducible rfl
      try simp only [Act.put, List.setIfInBounds_toArray, List.set_cons_zero, List.set_cons_succ]
      refine take_at (i := 7) (v := ?_) rfl rfl (by kernel_rfl) (by kernel_rfl) (by kernel_rfl) (fun _ _ _ h => h) (Or.inl ⟨by rfl, ?_⟩) (by assumption) ?_
      rotate_left
      · intro w hSw; (try dsimp only at hSw); go_simp; try with_reducible rfl
      try simp only [Act.put, List.setIfInBounds_toArray, List.set_cons_zero, List.set_cons_succ]
      refine take_at (i := 8) (v := ?_) rfl rfl (by kernel_rfl) (by kernel_rfl) (by kernel_rfl) (fun _ _ _ h => h) (Or.inl ⟨by rfl, ?_⟩) (by assumption) ?_
      rotate_left
      · intro w hSw; (try dsimp only at hSw); go_simp; try with_reducible rfl
      try simp only [Act.put, List.setIfInBounds_toArray, List.set_cons_zero, List.set_cons_succ]
      refine take_at (i := 9) (v := ?_) rfl rfl (by kernel_rfl) (by kernel_rfl) (by kernel_rfl) (fun _ _ _ h => h) (Or.inl ⟨by rfl, ?_⟩) (by assumption) ?_
      rotate_left
      · intro w hSw; (try dsimp only at hSw); go_simp; try with_reducible rfl
      try simp only [Act.put, List.setIfInBounds_toArray, List.set_cons_zero, List.set_cons_succ]
      refine take_at (i := 10) (v := ?_) rfl rfl (by kernel_rfl) (by kernel_rfl) (by kernel_rfl) (fun _ _ _ h => h) (Or.inl ⟨by rfl, ?_⟩) (by assumption) ?_
      rotate_left
      · intro w hSw; (try dsimp only at hSw); go_simp; try with_reducible rfl
      try simp only [Act.put, List.setIfInBounds_toArray, List.set_cons_zero, List.set_cons_succ]
      refine take_at (i := 11) (v := ?_) rfl rfl (by kernel_rfl) (by kernel_rfl) (by kernel_rfl) (fun _ _ _ h => h) (Or.inl ⟨by rfl, ?_⟩) (by assumption) ?_
      rotate_left
      · intro w hSw; (try dsimp only at hSw); go_simp; try with_reducible rfl
      try simp only [Act.put, List.setIfInBounds_toArray, List.set_cons_zero, List.set_cons_succ]
      refine take_at (i := 13) (v := ?_) rfl rfl (by kernel_rfl) (by kernel_rfl) (by kernel_rfl) (fun _ _ _ h => h) (Or.inl ⟨by rfl, ?_⟩) (by assumption) ?_
      rotate_left
      · intro w hSw; (try dsimp only at hSw); go_simp; try with_reducible rfl
      try simp only [Act.put, List.setIfInBounds_toArray, List.set_cons_zero, List.set_cons_succ]
      refine take_at (i := 14) (v := ?_) rfl rfl (by kernel_rfl) (by kernel_rfl) (by kernel_rfl) (fun _ _ _ h => h) (Or.inl ⟨by rfl, ?_⟩) (by assumption) ?_
      rotate_left
      · intro w hSw; (try dsimp only at hSw); go_simp; try with_reducible rfl
      try simp only [Act.put, List.setIfInBounds_toArray, List.set_cons_zero, List.set_cons_succ]
      refine take_at (i := 15) (v := ?_) rfl rfl (by kernel_rfl) (by kernel_rfl) (by kernel_rfl) (fun _ _ _ h => h) (Or.inl ⟨by rfl, ?_⟩) (by assumption) ?_
      rotate_left
      · intro w hSw; (try dsimp only at hSw); go_simp; try with_reducible rfl
      try simp only [Act.put, List.setIfInBounds_toArray, List.set_cons_zero, List.set_cons_succ]
      refine wpAnyH_ready (rs := [3]) (by kernel_rfl) (by simp) ?_
      refine AllReadyH.cons rfl (fun K hK => ?_) AllReadyH.nil
      go_simp
      refine (word_any _ _).mono ?_
      rintro e w' ⟨rfl, rfl⟩
      refine hK.out _ _ e3 (fun hHeld => ?_)
      clear hK K
      refine wpAnyH_ready (rs := [12]) (by kernel_rfl) (by simp) ?_
      refine AllReadyH.cons rfl (fun K hK => ?_) AllReadyH.nil
      go_simp
      refine (word_any _ _).mono ?_
      rintro e w' ⟨rfl, rfl⟩
      refine hK.out _ _ e3 (fun hHeld => ?_)
      clear hK K
      refine wpAnyH_ready (rs := [16]) (by kernel_rfl) (by simp) ?_
      refine AllReadyH.cons rfl (fun K hK => ?_) AllReadyH.nil
      go_simp
      refine hK.out _ _ (cell_alloc_keep _ e3) (fun hHeld => ?_)
      clear hK K
      refine take_at (i := 17) (v := ?_) rfl rfl (by kernel_rfl) (by kernel_rfl) (by kernel_rfl) (fun _ _ _ h => h) (Or.inl ⟨by rfl, ?_⟩) (by assumption) ?_
      rotate_left
      · intro w hSw; (try dsimp only at hSw); go_simp; try with_reducible rfl
      try simp only [Act.put, List.setIfInBounds_toArray, List.set_cons_zero, List.set_cons_succ]
      refine wpAnyH_done (by kernel_rfl) (NoPanic.normal ?_) _
      obtain ⟨N0, hN0⟩ : ∃ n, n = (T + U) % 4294967296 := ⟨_, rfl⟩
      obtain ⟨N4, hN4⟩ : ∃ n, n = (D + T) % 4294967296 := ⟨_, rfl⟩
      rw [add32_val T U lT lU, add32_val D T lD lT, ← hN0, ← hN4]
      have NX' := NX.out
      rw [← hN0, ← hN4] at NX'
      have HC := cells_new wz (R (k + 1)) 3 8 #[.int .i64 (N0 : Int), .int .i64 (A : Int), .int .i64 (B : Int), .int .i64 (C : Int), .int .i64 (N4 : Int), .int .i64 (E : Int), .int .i64 (F : Int), .int .i64 (G : Int)] (by rw [NX']; rfl) (by rw [NX']; rfl)
      have HBz := Below.alloc hblz hblz.size (.cells #[.int .i64 (N0 : Int), .int .i64 (A : Int), .int .i64 (B : Int), .int .i64 (C : Int), .int .i64 (N4 : Int), .int .i64 (E : Int), .int .i64 (F : Int), .int .i64 (G : Int)] 3)
      clear hN0 hN4 NX' NX
      have HCz : Hid (∀ j, j < 8 → _) := HC
      clear e3 hblz HC
      go_wp2
      go_roundw
      case rel => exact ⟨k + 1, by omega, by go_num, ⟨wz.heap.size, 8, rfl, HCz.out⟩, HBz.drew⟩
      case measure => simp [intOf]; omega
    · have hk' : k = 64 := by omega
      subst hk'
      obtain ⟨w5, h5⟩ : ∃ w5, w5 = wr := ⟨_, rfl⟩
      rw [← h5] at hc hbl ⊢
      clear h5
      have HC5 : Hid (∀ j, j < 8 → w5.cell? ⟨g, j, none⟩ = _) := hc
      have HV5 : Hid (∀ j, j < 8 → w5.cell? ⟨g3, j, none⟩ = some (.int .i64 ((x.getD j 0 : Nat) : Int))) := fun j hj => by
        have h1 := KV.out j hj
        rw [hbl.cell (p := ⟨g3, j, none⟩) (World.block_lt_of_cell? w4 _ h1), h1]
      have hB5 : Hid (Below w.heap.size w w5) := below_step HB.out (Nat.le_refl _) hbl
      have HO64 : Hid (Ok (R 64)) := HR.out.2.2 64
      have HOx : Hid (Ok x) := by have := HR.out.2.2 0; rw [HR.out.1] at this; exact this
      clear hc hbl KV KW KK HB HR HWl
      obtain ⟨r, hr⟩ : ∃ r, r = R 64 := ⟨_, rfl⟩
      have Hr : Hid (r = R 64) := hr
      rw [← hr] at HC5 HO64
      clear hr
      go_wp2_with fail
      go_loopw [21, 22] (fun v i wr => ∃ k : Nat, k ≤ 8 ∧ i = .int .i64 k ∧ OwnV wr w5.heap.size 3 .i64 v k ((ints (addL x r)).take k) ∧ Below w5.heap.size w5 wr) (fun _ i _ => 8 - (intOf i).toNat)
      case atStart => exact ⟨0, by omega, rfl, OwnV.nil _ _ _ _, Below.refl _ _⟩
      case round =>
        obtain ⟨k, hk, rfl, hown, hbl⟩ := hrel
        by_cases hlt : k < 8
        · obtain ⟨X, hX⟩ : ∃ a, a = x.getD k 0 := ⟨_, rfl⟩
          obtain ⟨Y, hY⟩ : ∃ a, a = r.getD k 0 := ⟨_, rfl⟩
          have c0 := HV5.out k hlt
          have c1 := HC5.out k hlt
          rw [← hbl.cell (p := ⟨g3, k, none⟩) (World.block_lt_of_cell? w5 _ c0), ← hX] at c0
          rw [← hbl.cell (p := ⟨g, k, none⟩) (World.block_lt_of_cell? w5 _ c1), ← hY] at c1
          have lX : X < 4294967296 := by rw [hX]; exact HOx.out k
          have lY : Y < 4294967296 := by rw [hY]; exact HO64.out k
          have NX : Hid ((((X + Y) % 4294967296 : Nat) : Int) = (((x.getD k 0 + r.getD k 0) % 4294967296 : Nat) : Int)) := by show _ = _; rw [hX, hY]
          clear hX hY
          have b0 : (k : Int) < 8 := by omega
          have hsz := hbl.size
          go_wp2
          refine wp_region_noPanic ?_
          refine wp_region_held_drew (S := fun _ => True) (by kernel_rfl) (by first | exact trivial | assumption | exact ⟨by assumption, by assumption⟩) (fun hHeld => ?_)
          refine take_at (i := 0) (v := ?_) rfl rfl (by kernel_rfl) (by kernel_rfl) (by kernel_rfl) (fun _ _ _ h => h) (Or.inl ⟨by rfl, ?_⟩) (by assumption) ?_
          rotate_left
          · intro w hSw; (try dsimp only at hSw); go_simp; try with_reducible rfl
          try simp only [Act.put, List.setIfInBounds_toArray, List.set_cons_zero, List.set_cons_succ]
          refine take_at (i := 1) (v := ?_) rfl rfl (by kernel_rfl) (by kernel_rfl) (by kernel_rfl) (fun _ _ _ h => h) (Or.inl ⟨by rfl, ?_⟩) (by assumption) ?_
          rotate_left
          · intro w hSw; (try dsimp only at hSw); go_simp; try with_reducible rfl
          try simp only [Act.put, List.setIfInBounds_toArray, List.set_cons_zero, List.set_cons_succ]
          refine take_at (i := 2) (v := ?_) rfl rfl (by kernel_rfl) (by kernel_rfl) (by kernel_rfl) (fun _ _ _ h => h) (Or.inl ⟨by rfl, ?_⟩) (by assumption) ?_
          rotate_left
          · intro w hSw; (try dsimp only at hSw); go_simp; try with_reducible rfl
          try simp only [Act.put, List.setIfInBounds_toArray, List.set_cons_zero, List.set_cons_succ]
          refine take_at (i := 3) (v := ?_) rfl rfl (by kernel_rfl) (by kernel_rfl) (by kernel_rfl) (fun _ _ _ h => h) (Or.inl ⟨by rfl, ?_⟩) (by assumption) ?_
          rotate_left
          · intro w hSw; (try dsimp only at hSw); go_simp; try with_reducible rfl
          try simp only [Act.put, List.setIfInBounds_toArray, List.set_cons_zero, List.set_cons_succ]
          refine take_at (i := 5) (v := ?_) rfl rfl (by kernel_rfl) (by kernel_rfl) (by kernel_rfl) (fun _ _ _ h => h) (Or.inl ⟨by rfl, ?_⟩) (by assumption) ?_
          rotate_left
          · intro w hSw; (try dsimp only at hSw); go_simp; try with_reducible rfl
          try simp only [Act.put, List.setIfInBounds_toArray, List.set_cons_zero, List.set_cons_succ]
          refine take_at (i := 6) (v := ?_) rfl rfl (by kernel_rfl) (by kernel_rfl) (by kernel_rfl) (fun _ _ _ h => h) (Or.inl ⟨by rfl, ?_⟩) (by assumption) ?_
          rotate_left
          · intro w hSw; (try dsimp only at hSw); go_simp; try with_reducible rfl
          try simp only [Act.put, List.setIfInBounds_toArray, List.set_cons_zero, List.set_cons_succ]
          refine take_at (i := 7) (v := ?_) rfl rfl (by kernel_rfl) (by kernel_rfl) (by kernel_rfl) (fun _ _ _ h => h) (Or.inl ⟨by rfl, ?_⟩) (by assumption) ?_
          rotate_left
          · intro w hSw; (try dsimp only at hSw); go_simp; try with_reducible rfl
          try simp only [Act.put, List.setIfInBounds_toArray, List.set_cons_zero, List.set_cons_succ]
          refine wpAnyH_ready (rs := [4, 8]) (by kernel_rfl) (by simp) ?_
          refine AllReadyH.cons rfl (fun K hK => ?_) (AllReadyH.cons rfl (fun K hK => ?_) AllReadyH.nil)
          · go_simp
            refine hK.out _ _ trivial (fun hHeld => ?_)
            clear hK K
            refine wpAnyH_ready (rs := [8]) (by kernel_rfl) (by simp) ?_
            refine AllReadyH.cons rfl (fun K hK => ?_) AllReadyH.nil
            go_simp
            refine hK.out _ _ trivial (fun hHeld => ?_)
            clear hK K
            refine take_at (i := 9) (v := ?_) rfl rfl (by kernel_rfl) (by kernel_rfl) (by kernel_rfl) (fun _ _ _ h => h) (Or.inl ⟨by rfl, ?_⟩) (by assumption) ?_
            rotate_left
            · intro w hSw; (try dsimp only at hSw); go_simp; try with_reducible rfl
            try simp only [Act.put, List.setIfInBounds_toArray, List.set_cons_zero, List.set_cons_succ]
            refine wpAnyH_ready (rs := [10]) (by kernel_rfl) (by simp) ?_
            refine AllReadyH.cons rfl (fun K hK => ?_) AllReadyH.nil
            go_simp
            refine (word_any _ _).mono ?_
            rintro e w' ⟨rfl, rfl⟩
            refine hK.out _ _ trivial (fun hHeld => ?_)
            clear hK K
            refine wpAnyH_ready (rs := [11]) (by kernel_rfl) (by simp) ?_
            refine AllReadyH.cons rfl (fun K hK => ?_) AllReadyH.nil
            go_simp
            refine hK.out _ _ trivial (fun hHeld => ?_)
            clear hK K
            refine wpAnyH_ready (rs := [12]) (by kernel_rfl) (by simp) ?_
            refine AllReadyH.cons rfl (fun K hK => ?_) AllReadyH.nil
            refine step_app1 rfl rfl _ _ 47 rfl w5.heap.size 3 i0 .i64 8 Tryd.underlying47 hi hz0 hz1 hz2 wr u21 k _ rfl hown _ rfl (by omega) (by omega) (by exact hsz) ?_
            intro v' w2 hown1 hbl1
            refine hK.out _ _ trivial (fun hHeld => ?_)
            clear hK K
            refine take_at (i := 13) (v := ?_) rfl rfl (by kernel_rfl) (by kernel_rfl) (by kernel_rfl) (fun _ _ _ h => h) (Or.inl ⟨by rfl, ?_⟩) (by assumption) ?_
            rotate_left
            · intro w hSw; (try dsimp only at hSw); go_simp; try with_reducible rfl
            try simp only [Act.put, List.setIfInBounds_toArray, List.set_cons_zero, List.set_cons_succ]
            refine wpAnyH_done (by kernel_rfl) (NoPanic.normal ?_) _
            rw [add32_val X Y lX lY, NX.out, addL_snoc x _ k hlt] at hown1
            have HB2 := hbl.trans hbl1
            clear hbl1 hown hbl c0 c1
            go_wp2
            go_roundw
            case rel =>
              (repeat apply Exists.intro)
              refine ⟨?_, rfl⟩
              exact ⟨k + 1, by omega, by go_num, hown1, HB2⟩
            case measure => simp [intOf]; omega
          · go_simp
            refine hK.out _ _ trivial (fun hHeld => ?_)
            clear hK K
            refine wpAnyH_ready (rs := [4]) (by kernel_rfl) (by simp) ?_
            refine AllReadyH.cons rfl (fun K hK => ?_) AllReadyH.nil
            go_simp
            refine hK.out _ _ trivial (fun hHeld => ?_)
            clear hK K
            refine take_at (i := 9) (v := ?_) rfl rfl (by kernel_rfl) (by kernel_rfl) (by kernel_rfl) (fun _ _ _ h => h) (Or.inl ⟨by rfl, ?_⟩) (by assumption) ?_
            rotate_left
            · intro w hSw; (try dsimp only at hSw); go_simp; try with_reducible rfl
            try simp only [Act.put, List.setIfInBounds_toArray, List.set_cons_zero, List.set_cons_succ]
            refine wpAnyH_ready (rs := [10]) (by kernel_rfl) (by simp) ?_
            refine AllReadyH.cons rfl (fun K hK => ?_) AllReadyH.nil
            go_simp
            refine (word_any _ _).mono ?_
            rintro e w' ⟨rfl, rfl⟩
            refine hK.out _ _ trivial (fun hHeld => ?_)
            clear hK K
            refine wpAnyH_ready (rs := [11]) (by kernel_rfl) (by simp) ?_
            refine AllReadyH.cons rfl (fun K hK => ?_) AllReadyH.nil
            go_simp
            refine hK.out _ _ trivial (fun hHeld => ?_)
            clear hK K
            refine wpAnyH_ready (rs := [12]) (by kernel_rfl) (by simp) ?_
            refine AllReadyH.cons rfl (fun K hK => ?_) AllReadyH.nil
            refine step_app1 rfl rfl _ _ 47 rfl w5.heap.size 3 i0 .i64 8 Tryd.underlying47 hi hz0 hz1 hz2 wr u21 k _ rfl hown _ rfl (by omega) (by omega) (by exact hsz) ?_
            intro v' w2 hown1 hbl1
            refine hK.out _ _ trivial (fun hHeld => ?_)
            clear hK K
            refine take_at (i := 13) (v := ?_) rfl rfl (by kernel_rfl) (by kernel_rfl) (by kernel_rfl) (fun _ _ _ h => h) (Or.inl ⟨by rfl, ?_⟩) (by assumption) ?_
            rotate_left
            · intro w hSw; (try dsimp only at hSw); go_simp; try with_reducible rfl
            try simp only [Act.put, List.setIfInBounds_toArray, List.set_cons_zero, List.set_cons_succ]
            refine wpAnyH_done (by kernel_rfl) (NoPanic.normal ?_) _
            rw [add32_val X Y lX lY, NX.out, addL_snoc x _ k hlt] at hown1
            have HB2 := hbl.trans hbl1
            clear hbl1 hown hbl c0 c1
            go_wp2
            go_roundw
            case rel =>
              (repeat apply Exists.intro)
              refine ⟨?_, rfl⟩
              exact ⟨k + 1, by omega, by go_num, hown1, HB2⟩
            case measure => simp [intOf]; omega
        · have hk8 : k = 8 := by omega
          subst hk8
          rw [List.take_of_length_le (by rw [ints_length, addL_length]; omega)] at hown
          obtain ⟨a, c', rfl, hI⟩ := hown.ints
          have HI : Hid (IntsAt wr .i64 a 8 _) := hI
          clear hI hown hi hz0 hz1 hz2
          go_wp2_with fail
          refine (rputBig_any _ 8 _ _ _ (by omega) HI.out).mono ?_
          rintro e w6 ⟨rfl, hb6⟩
          go_wp2_with fail
          go_ret2
          refine ⟨?_, below_step (below_step hB5.out (Nat.le_refl _) hbl) (Nat.le_refl _) hb6⟩
          rw [← Hr.out]; rfl

theorem rblock_ok (s b : ByteArray) (w : World) (hs : s.size = 32) (hb : b.size = 64) :
    Calls Tryd.prog 23 #[.string s, .string b] w fun e w' => e = .returned (.tuple #[.string (ofN (behindN (wordsN s) (bt b))), .int .i64 0]) ∧ Below w.heap.size w w' :=
  rblock_walk s b (wS (blkN (bt b))) (runN (blkN (bt b)) (wordsN s)) (wordsN s) w hs hb rfl (spread_wS (bt b) (bt_lt b)) ⟨rfl, fun _ => rfl, runN_ok _ _ (wordsN_ok s)⟩
end Go.Proofs.YtfbgofbjbfidoaaDoor
