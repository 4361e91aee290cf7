import Derived.Test.YtfbgofbjbfidoaaDoorShaRight
namespace Go.Proofs.YtfbgofbjbfidoaaDoor
open Go.RowKit
set_option linter.unusedSimpArgs false

theorem OwnV.at {w : World} {B n : Nat} {e : TypeId} {K : IntKind} {v : Value} {l : List Int} (h : OwnV w B e K v n l) (hn : 0 < n) :
    ∃ g c, v = .slice (some ⟨g, 0, none⟩) n c ∧ ∀ j, j < n → w.cell? ⟨g, j, none⟩ = some (.int K (l.getD j 0)) := by
  rcases h.2 with ⟨rfl, rfl⟩ | ⟨g, cap, cur, rfl, r⟩
  · omega
  · have hl := h.len
    refine ⟨g, cap, rfl, fun i hi => ?_⟩
    rw [World.ownsRow.cellAt (⟨h.1, .inr ⟨g, cap, cur, rfl, r⟩⟩ : w.ownsRow B e 1 (.slice (some ⟨g, 0, none⟩) n cap) n _) i (by omega)]
    simp [List.getD, List.getElem?_eq_getElem (show i < l.length by omega)]
theorem OwnV.drewN {w : World} {B n m : Nat} {e : TypeId} {K : IntKind} {v : Value} {l : List Int} (h : OwnV w B e K v n l) : OwnV (w.drewN m) B e K v n l := h
theorem tab_snoc (n : Nat) (f : Nat → Int) : tab n f ++ [f n] = tab (n + 1) f := by
  unfold tab; rw [List.range_succ, List.map_append]; rfl

/-- The words that are told by W, as a list of numbers. -/
def wT (W : Nat → Nat) (n : Nat) : List Int := tab n (fun i => (W i : Int))
theorem wT_getD (W : Nat → Nat) (n i : Nat) (h : i < n) : (wT W n).getD i 0 = (W i : Int) := tab_getD n _ i h
theorem wT_length (W : Nat → Nat) (n : Nat) : (wT W n).length = n := tab_length n _
theorem wT_snoc (W : Nat → Nat) (n : Nat) (x : Int) (h : (W n : Int) = x) : wT W n ++ [x] = wT W (n + 1) := by rw [← h]; exact tab_snoc n _
theorem wT_first (l : List Nat) (W : Nat → Nat) (n : Nat) (hl : l.length = n) (hW : ∀ i, i < n → W i = l.getD i 0) : ints l = wT W n := by
  apply List.ext_getElem
  · rw [ints_length, hl]; exact (tab_length _ _).symm
  · intro i h1 h2
    have hi : i < n := by rw [ints_length, hl] at h1; exact h1
    have e1 : (wT W n)[i] = (W i : Int) := tab_get n _ i hi h2
    refine Eq.trans ?_ e1.symm
    rw [hW i hi]
    simp [ints, List.getD_eq_getElem?_getD, List.getElem?_eq_getElem (show i < l.length by omega)]
/-- What the words of a block are spread to. -/
def Spread (W : Nat → Nat) (f : Nat → Nat) : Prop := (∀ i, W i < 4294967296) ∧ (∀ k, k < 48 → W (k + 16) = nx (W k) (W (k + 1)) (W (k + 9)) (W (k + 14))) ∧ ∀ i, i < 16 → W i = (blkN f).getD i 0
theorem spread_wS (f : Nat → Nat) (h : ∀ j, f j < 256) : Spread (wS (blkN f)) f :=
  ⟨wS_lt _ (blkN_ok f h), wS_next _ (blkN_length f), wS_first _ (blkN_length f)⟩

theorem i64_small (n : Int) (h0 : 0 ≤ n) (h1 : n < 9223372036854775808) : IntKind.i64.wrap n = n := by rw [IntKind.wrap_i64]; omega
theorem rsched_bits (a b : Nat) (n m : Nat) (X : Nat) (ha : a < 4294967296) (hb : b < 4294967296) (hX : X < 4294967296) (hm : n = a ^^^ b ^^^ (X / m)) :
    bits .xor .i64 (bits .xor .i64 (a : Int) (b : Int)) ((X : Int) / (m : Int)) = (n : Int) := by
  have h1 := xor_lt32 a b ha hb
  have h2 : X / m < 4294967296 := Nat.lt_of_le_of_lt (Nat.div_le_self _ _) hX
  rw [i64_xor_nat _ _ (by omega) (by omega), show ((X : Int) / (m : Int)) = ((X / m : Nat) : Int) by simp, i64_xor_nat _ _ (by omega) (by omega), hm]

theorem rsched_next (X0 X1 X9 X14 : Nat) (l0 : X0 < 4294967296) (l1 : X1 < 4294967296) (l9 : X9 < 4294967296) (l14 : X14 < 4294967296) :
    IntKind.i64.wrap (IntKind.i64.wrap (IntKind.i64.wrap ((X0 : Int) + bits .xor .i64 (bits .xor .i64 ((rr X1 7 : Nat) : Int) ((rr X1 18 : Nat) : Int)) ((X1 : Int) / 8)) + (X9 : Int)) + bits .xor .i64 (bits .xor .i64 ((rr X14 17 : Nat) : Int) ((rr X14 19 : Nat) : Int)) ((X14 : Int) / 1024)) % 4294967296 = ((nx X0 X1 X9 X14 : Nat) : Int) := by
  have e1 := rsched_bits (rr X1 7) (rr X1 18) (sg0 X1) 8 X1 (rr_lt _ _ l1) (rr_lt _ _ l1) l1 rfl
  have e2 := rsched_bits (rr X14 17) (rr X14 19) (sg1 X14) 1024 X14 (rr_lt _ _ l14) (rr_lt _ _ l14) l14 rfl
  have h1 := sg0_lt X1 l1
  have h2 := sg1_lt X14 l14
  rw [show ((8 : Nat) : Int) = 8 from rfl] at e1
  rw [show ((1024 : Nat) : Int) = 1024 from rfl] at e2
  rw [e1, e2]
  unfold nx
  generalize sg0 X1 = A at *
  generalize sg1 X14 = B at *
  rw [i64_small ((X0 : Int) + (A : Int)) (by omega) (by omega), i64_small ((X0 : Int) + (A : Int) + (X9 : Int)) (by omega) (by omega), i64_small ((X0 : Int) + (A : Int) + (X9 : Int) + (B : Int)) (by omega) (by omega)]
  omega

set_option maxHeartbeats 4000000 in
theorem rsched_any (b : ByteArray) (W : Nat → Nat) (w : World) (hs : b.size = 64) (hW : Spread W (bt b)) :
    Calls Tryd.prog 28 #[.string b] w fun e w' => ∃ g c, e = .returned (.slice (some ⟨g, 0, none⟩) 64 c) ∧
      IntsAt w' .i64 (some ⟨g, 0, none⟩) 64 (wT W 64) ∧ Below w.heap.size w w' := by
  have HO : Hid (∀ i, W i < 4294967296) := hW.1
  have HN : Hid (∀ k, k < 48 → W (k + 16) = _) := hW.2.1
  have HF : Hid (wordsL b bsh = wT W 16) := by show _ = _; rw [wordsN_ints, wordsN_blk b hs]; exact wT_first _ _ _ (blkN_length _) hW.2.2
  have CB : Hid (∀ w, _) := fun w => rbig_own b w (by omega) (by omega)
  obtain ⟨i0, hi, hz0, hz1, hz2⟩ := info_parts Tryd.info3
  go_enter Tryd.func28, Tryd.ntmps28
  go_wp2_with fail
  refine (CB.out _).mono ?_
  rintro e w1 ⟨v0, rfl, hown0, hb1⟩
  rw [HF.out, hs] at hown0
  clear CB HF hs hW
  go_wp2
  go_loopw [3, 5] (fun v i wr => ∃ k j : Nat, j ≤ 64 ∧ i = .int .i64 j ∧ Hid (j = k + 16) ∧ OwnV wr w.heap.size 3 .i64 v j (wT W j) ∧ Below w.heap.size w wr) (fun _ i _ => 64 - (intOf i).toNat)
  case atStart => exact ⟨0, 16, by omega, rfl, rfl, hown0, hb1⟩
  case round =>
    clear hown0 hb1
    obtain ⟨k, j, hj, rfl, HJ, hown, hbl⟩ := hrel
    by_cases hlt : j < 64
    · have hJ := HJ.out
      obtain ⟨g, c, rfl, hc⟩ := hown.at (by omega)
      obtain ⟨p1, hp1⟩ : ∃ p, p = k + 1 := ⟨_, rfl⟩
      obtain ⟨p9, hp9⟩ : ∃ p, p = k + 9 := ⟨_, rfl⟩
      obtain ⟨p14, hp14⟩ : ∃ p, p = k + 14 := ⟨_, rfl⟩
      obtain ⟨X0, hX0⟩ : ∃ x, x = W k := ⟨_, rfl⟩
      obtain ⟨X1, hX1⟩ : ∃ x, x = W p1 := ⟨_, rfl⟩
      obtain ⟨X9, hX9⟩ : ∃ x, x = W p9 := ⟨_, rfl⟩
      obtain ⟨X14, hX14⟩ : ∃ x, x = W p14 := ⟨_, rfl⟩
      have c0 := hc k (by omega)
      have c1 := hc p1 (by omega)
      have c9 := hc p9 (by omega)
      have c14 := hc p14 (by omega)
      rw [wT_getD _ _ _ (by omega), ← hX0] at c0
      rw [wT_getD _ _ _ (by omega), ← hX1] at c1
      rw [wT_getD _ _ _ (by omega), ← hX9] at c9
      rw [wT_getD _ _ _ (by omega), ← hX14] at c14
      have l0 : X0 < 4294967296 := by rw [hX0]; exact HO.out _
      have l1 : X1 < 4294967296 := by rw [hX1]; exact HO.out _
      have l9 : X9 < 4294967296 := by rw [hX9]; exact HO.out _
      have l14 : X14 < 4294967296 := by rw [hX14]; exact HO.out _
      have NX : Hid (W j = nx X0 X1 X9 X14) := by
        have := HN.out k (by omega)
        show _ = _
        rw [hJ, this, hX0, hX1, hX9, hX14, hp1, hp9, hp14]
      have q0 : IntKind.i64.wrap ((j : Int) - 16) = (k : Int) := by rw [i64_small _ (by omega) (by omega)]; omega
      have q1 : IntKind.i64.wrap ((j : Int) - 15) = (p1 : Int) := by rw [i64_small _ (by omega) (by omega)]; omega
      have q9 : IntKind.i64.wrap ((j : Int) - 7) = (p9 : Int) := by rw [i64_small _ (by omega) (by omega)]; omega
      have q14 : IntKind.i64.wrap ((j : Int) - 2) = (p14 : Int) := by rw [i64_small _ (by omega) (by omega)]; omega
      have b0 : (k : Int) < (j : Int) := by omega
      have b1 : (p1 : Int) < (j : Int) := by omega
      have b9 : (p9 : Int) < (j : Int) := by omega
      have b14 : (p14 : Int) < (j : Int) := by omega
      have hsz := hbl.size
      have C7 : Hid (∀ w, Calls Tryd.prog 32 #[.int .i64 X1, .int .i64 7] w _) := fun w => rright_any X1 7 l1 (by decide) (by decide) w
      have C18 : Hid (∀ w, Calls Tryd.prog 32 #[.int .i64 X1, .int .i64 18] w _) := fun w => rright_any X1 18 l1 (by decide) (by decide) w
      have C17 : Hid (∀ w, Calls Tryd.prog 32 #[.int .i64 X14, .int .i64 17] w _) := fun w => rright_any X14 17 l14 (by decide) (by decide) w
      have C19 : Hid (∀ w, Calls Tryd.prog 32 #[.int .i64 X14, .int .i64 19] w _) := fun w => rright_any X14 19 l14 (by decide) (by decide) w
      clear hX0 hX1 hX9 hX14 hp1 hp9 hp14 hJ hc
      go_wp2
      go_quiet (fail)
      go_wp2_with fail
      refine (C7.out _).mono ?_
      rintro e w' ⟨rfl, m1, rfl⟩
      go_wp2_with fail
      refine (C18.out _).mono ?_
      rintro e w' ⟨rfl, m2, rfl⟩
      go_wp2_with fail
      refine (C17.out _).mono ?_
      rintro e w' ⟨rfl, m3, rfl⟩
      go_wp2_with fail
      refine (C19.out _).mono ?_
      rintro e w' ⟨rfl, m4, rfl⟩
      go_wp2_with fail
      have hown' := hown.drewN (m := nq + m1 + m2 + m3 + m4)
      have hbl' := below_drewN hbl (nq + m1 + m2 + m3 + m4)
      have d0 : (wr.drewN (nq + m1 + m2 + m3 + m4)).cell? ⟨g, k, none⟩ = _ := c0
      have d9 : (wr.drewN (nq + m1 + m2 + m3 + m4)).cell? ⟨g, p9, none⟩ = _ := c9
      clear C7 C18 C17 C19 c0 c1 c9 c14 hown hbl hsz
      generalize wr.drewN (nq + m1 + m2 + m3 + m4) = wq at *
      have hsz := hbl'.size
      refine wp_region_noPanic ?_
      refine wp_region_held_drew (S := fun _ => True) (by kernel_rfl) (by first | exact trivial | assumption | exact ⟨by assumption, by assumption⟩) (fun hHeld => ?_)
      refine take_at (i := 0) (v := ?_) rfl rfl (by kernel_rfl) (by kernel_rfl) (by kernel_rfl) (fun _ _ _ h => h) (Or.inl ⟨by rfl, ?_⟩) (by assumption) ?_
      rotate_left
      · intro w hSw; (try dsimp only at hSw); go_simp; try with_reducible rfl
      try simp only [Act.put, List.setIfInBounds_toArray, List.set_cons_zero, List.set_cons_succ]
      refine take_at (i := 1) (v := ?_) rfl rfl (by kernel_rfl) (by kernel_rfl) (by kernel_rfl) (fun _ _ _ h => h) (Or.inl ⟨by rfl, ?_⟩) (by assumption) ?_
      rotate_left
      · intro w hSw; (try dsimp only at hSw); go_simp; try with_reducible rfl
      try simp only [Act.put, List.setIfInBounds_toArray, List.set_cons_zero, List.set_cons_succ]
      refine take_at (i := 2) (v := ?_) rfl rfl (by kernel_rfl) (by kernel_rfl) (by kernel_rfl) (fun _ _ _ h => h) (Or.inl ⟨by rfl, ?_⟩) (by assumption) ?_
      rotate_left
      · intro w hSw; (try dsimp only at hSw); go_simp; try with_reducible rfl
      try simp only [Act.put, List.setIfInBounds_toArray, List.set_cons_zero, List.set_cons_succ]
      refine take_at (i := 3) (v := ?_) rfl rfl (by kernel_rfl) (by kernel_rfl) (by kernel_rfl) (fun _ _ _ h => h) (Or.inl ⟨by rfl, ?_⟩) (by assumption) ?_
      rotate_left
      · intro w hSw; (try dsimp only at hSw); go_simp; try with_reducible rfl
      try simp only [Act.put, List.setIfInBounds_toArray, List.set_cons_zero, List.set_cons_succ]
      refine take_at (i := 4) (v := ?_) rfl rfl (by kernel_rfl) (by kernel_rfl) (by kernel_rfl) (fun _ _ _ h => h) (Or.inl ⟨by rfl, ?_⟩) (by assumption) ?_
      rotate_left
      · intro w hSw; (try dsimp only at hSw); go_simp; try with_reducible rfl
      try simp only [Act.put, List.setIfInBounds_toArray, List.set_cons_zero, List.set_cons_succ]
      refine take_at (i := 6) (v := ?_) rfl rfl (by kernel_rfl) (by kernel_rfl) (by kernel_rfl) (fun _ _ _ h => h) (Or.inl ⟨by rfl, ?_⟩) (by assumption) ?_
      rotate_left
      · intro w hSw; (try dsimp only at hSw); go_simp; try with_reducible rfl
      try simp only [Act.put, List.setIfInBounds_toArray, List.set_cons_zero, List.set_cons_succ]
      refine take_at (i := 8) (v := ?_) rfl rfl (by kernel_rfl) (by kernel_rfl) (by kernel_rfl) (fun _ _ _ h => h) (Or.inl ⟨by rfl, ?_⟩) (by assumption) ?_
      rotate_left
      · intro w hSw; (try dsimp only at hSw); go_simp; try with_reducible rfl
      try simp only [Act.put, List.setIfInBounds_toArray, List.set_cons_zero, List.set_cons_succ]
      refine take_at (i := 9) (v := ?_) rfl rfl (by kernel_rfl) (by kernel_rfl) (by kernel_rfl) (fun _ _ _ h => h) (Or.inl ⟨by rfl, ?_⟩) (by assumption) ?_
      rotate_left
      · intro w hSw; (try dsimp only at hSw); go_simp; try with_reducible rfl
      try simp only [Act.put, List.setIfInBounds_toArray, List.set_cons_zero, List.set_cons_succ]
      refine take_at (i := 10) (v := ?_) rfl rfl (by kernel_rfl) (by kernel_rfl) (by kernel_rfl) (fun _ _ _ h => h) (Or.inl ⟨by rfl, ?_⟩) (by assumption) ?_
      rotate_left
      · intro w hSw; (try dsimp only at hSw); go_simp; try with_reducible rfl
      try simp only [Act.put, List.setIfInBounds_toArray, List.set_cons_zero, List.set_cons_succ]
      refine take_at (i := 11) (v := ?_) rfl rfl (by kernel_rfl) (by kernel_rfl) (by kernel_rfl) (fun _ _ _ h => h) (Or.inl ⟨by rfl, ?_⟩) (by assumption) ?_
      rotate_left
      · intro w hSw; (try dsimp only at hSw); go_simp; try with_reducible rfl
      try simp only [Act.put, List.setIfInBounds_toArray, List.set_cons_zero, List.set_cons_succ]
      refine take_at (i := 14) (v := ?_) rfl rfl (by kernel_rfl) (by kernel_rfl) (by kernel_rfl) (fun _ _ _ h => h) (Or.inl ⟨by rfl, ?_⟩) (by assumption) ?_
      rotate_left
      · intro w hSw; (try dsimp only at hSw); go_simp; try with_reducible rfl
      try simp only [Act.put, List.setIfInBounds_toArray, List.set_cons_zero, List.set_cons_succ]
      refine wpAnyH_ready (rs := [5, 12]) (by kernel_rfl) (by simp) ?_
      refine AllReadyH.cons rfl (fun K hK => ?_) (AllReadyH.cons rfl (fun K hK => ?_) AllReadyH.nil)
      · go_simp
        refine hK.out _ _ trivial (fun hHeld => ?_)
        clear hK K
        refine take_at (i := 7) (v := ?_) rfl rfl (by kernel_rfl) (by kernel_rfl) (by kernel_rfl) (fun _ _ _ h => h) (Or.inl ⟨by rfl, ?_⟩) (by assumption) ?_
        rotate_left
        · intro w hSw; (try dsimp only at hSw); go_simp; try with_reducible rfl
        try simp only [Act.put, List.setIfInBounds_toArray, List.set_cons_zero, List.set_cons_succ]
        refine wpAnyH_ready (rs := [12]) (by kernel_rfl) (by simp) ?_
        refine AllReadyH.cons rfl (fun K hK => ?_) AllReadyH.nil
        go_simp
        refine hK.out _ _ trivial (fun hHeld => ?_)
        clear hK K
        refine take_at (i := 13) (v := ?_) rfl rfl (by kernel_rfl) (by kernel_rfl) (by kernel_rfl) (fun _ _ _ h => h) (Or.inl ⟨by rfl, ?_⟩) (by assumption) ?_
        rotate_left
        · intro w hSw; (try dsimp only at hSw); go_simp; try with_reducible rfl
        try simp only [Act.put, List.setIfInBounds_toArray, List.set_cons_zero, List.set_cons_succ]
        refine take_at (i := 15) (v := ?_) rfl rfl (by kernel_rfl) (by kernel_rfl) (by kernel_rfl) (fun _ _ _ h => h) (Or.inl ⟨by rfl, ?_⟩) (by assumption) ?_
        rotate_left
        · intro w hSw; (try dsimp only at hSw); go_simp; try with_reducible rfl
        try simp only [Act.put, List.setIfInBounds_toArray, List.set_cons_zero, List.set_cons_succ]
        refine wpAnyH_ready (rs := [16]) (by kernel_rfl) (by simp) ?_
        refine AllReadyH.cons rfl (fun K hK => ?_) AllReadyH.nil
        go_simp
        refine (word_any _ _).mono ?_
        rintro e w' ⟨rfl, rfl⟩
        refine hK.out _ _ trivial (fun hHeld => ?_)
        clear hK K
        refine wpAnyH_ready (rs := [17]) (by kernel_rfl) (by simp) ?_
        refine AllReadyH.cons rfl (fun K hK => ?_) AllReadyH.nil
        go_simp
        refine hK.out _ _ trivial (fun hHeld => ?_)
        clear hK K
        refine wpAnyH_ready (rs := [18]) (by kernel_rfl) (by simp) ?_
        refine AllReadyH.cons rfl (fun K hK => ?_) AllReadyH.nil
        refine step_app1 rfl rfl _ _ 47 rfl w.heap.size 3 i0 .i64 8 Tryd.underlying47 hi hz0 hz1 hz2 wq (.slice (some ⟨g, 0, none⟩) j c) j _ rfl hown' _ rfl (by omega) (by omega) (by exact hsz) ?_
        intro v' w2 hown1 hbl1
        refine hK.out _ _ trivial (fun hHeld => ?_)
        clear hK K
        refine take_at (i := 19) (v := ?_) rfl rfl (by kernel_rfl) (by kernel_rfl) (by kernel_rfl) (fun _ _ _ h => h) (Or.inl ⟨by rfl, ?_⟩) (by assumption) ?_
        rotate_left
        · intro w hSw; (try dsimp only at hSw); go_simp; try with_reducible rfl
        try simp only [Act.put, List.setIfInBounds_toArray, List.set_cons_zero, List.set_cons_succ]
        refine wpAnyH_done (by kernel_rfl) (NoPanic.normal ?_) _
        rw [rsched_next X0 X1 X9 X14 l0 l1 l9 l14, wT_snoc _ _ _ (by rw [NX.out])] at hown1
        have HB := hbl'.trans hbl1
        clear hbl1 hown' hbl' d0 d9
        go_wp2
        go_roundw
        case rel =>
          refine ⟨k + 1, j + 1, by omega, by go_num, ?_, hown1, HB⟩
          have := HJ.out; show j + 1 = k + 1 + 16; omega
        case measure => simp [intOf]; omega
      · go_simp
        refine hK.out _ _ trivial (fun hHeld => ?_)
        clear hK K
        refine wpAnyH_ready (rs := [5]) (by kernel_rfl) (by simp) ?_
        refine AllReadyH.cons rfl (fun K hK => ?_) AllReadyH.nil
        go_simp
        refine hK.out _ _ trivial (fun hHeld => ?_)
        clear hK K
        refine take_at (i := 7) (v := ?_) rfl rfl (by kernel_rfl) (by kernel_rfl) (by kernel_rfl) (fun _ _ _ h => h) (Or.inl ⟨by rfl, ?_⟩) (by assumption) ?_
        rotate_left
        · intro w hSw; (try dsimp only at hSw); go_simp; try with_reducible rfl
        try simp only [Act.put, List.setIfInBounds_toArray, List.set_cons_zero, List.set_cons_succ]
        refine take_at (i := 13) (v := ?_) rfl rfl (by kernel_rfl) (by kernel_rfl) (by kernel_rfl) (fun _ _ _ h => h) (Or.inl ⟨by rfl, ?_⟩) (by assumption) ?_
        rotate_left
        · intro w hSw; (try dsimp only at hSw); go_simp; try with_reducible rfl
        try simp only [Act.put, List.setIfInBounds_toArray, List.set_cons_zero, List.set_cons_succ]
        refine take_at (i := 15) (v := ?_) rfl rfl (by kernel_rfl) (by kernel_rfl) (by kernel_rfl) (fun _ _ _ h => h) (Or.inl ⟨by rfl, ?_⟩) (by assumption) ?_
        rotate_left
        · intro w hSw; (try dsimp only at hSw); go_simp; try with_reducible rfl
        try simp only [Act.put, List.setIfInBounds_toArray, List.set_cons_zero, List.set_cons_succ]
        refine wpAnyH_ready (rs := [16]) (by kernel_rfl) (by simp) ?_
        refine AllReadyH.cons rfl (fun K hK => ?_) AllReadyH.nil
        go_simp
        refine (word_any _ _).mono ?_
        rintro e w' ⟨rfl, rfl⟩
        refine hK.out _ _ trivial (fun hHeld => ?_)
        clear hK K
        refine wpAnyH_ready (rs := [17]) (by kernel_rfl) (by simp) ?_
        refine AllReadyH.cons rfl (fun K hK => ?_) AllReadyH.nil
        go_simp
        refine hK.out _ _ trivial (fun hHeld => ?_)
        clear hK K
        refine wpAnyH_ready (rs := [18]) (by kernel_rfl) (by simp) ?_
        refine AllReadyH.cons rfl (fun K hK => ?_) AllReadyH.nil
        refine step_app1 rfl rfl _ _ 47 rfl w.heap.size 3 i0 .i64 8 Tryd.underlying47 hi hz0 hz1 hz2 wq (.slice (some ⟨g, 0, none⟩) j c) j _ rfl hown' _ rfl (by omega) (by omega) (by exact hsz) ?_
        intro v' w2 hown1 hbl1
        refine hK.out _ _ trivial (fun hHeld => ?_)
        clear hK K
        refine take_at (i := 19) (v := ?_) rfl rfl (by kernel_rfl) (by kernel_rfl) (by kernel_rfl) (fun _ _ _ h => h) (Or.inl ⟨by rfl, ?_⟩) (by assumption) ?_
        rotate_left
        · intro w hSw; (try dsimp only at hSw); go_simp; try with_reducible rfl
        try simp only [Act.put, List.setIfInBounds_toArray, List.set_cons_zero, List.set_cons_succ]
        refine wpAnyH_done (by kernel_rfl) (NoPanic.normal ?_) _
        rw [rsched_next X0 X1 X9 X14 l0 l1 l9 l14, wT_snoc _ _ _ (by rw [NX.out])] at hown1
        have HB := hbl'.trans hbl1
        clear hbl1 hown' hbl' d0 d9
        go_wp2
        go_roundw
        case rel =>
          refine ⟨k + 1, j + 1, by omega, by go_num, ?_, hown1, HB⟩
          have := HJ.out; show j + 1 = k + 1 + 16; omega
        case measure => simp [intOf]; omega
    · have hk' : j = 64 := by omega
      subst hk'
      obtain ⟨g, c, rfl, hc⟩ := hown.at (by omega)
      have HI : Hid (IntsAt wr .i64 (some ⟨g, 0, none⟩) 64 (wT W 64)) := ⟨wT_length W 64, .inr ⟨g, 0, rfl, fun i hi => by rw [Nat.zero_add]; exact hc i hi⟩⟩
      clear hc hown hi hz0 hz1 hz2
      go_wp2
      go_ret
      exact ⟨g, c, rfl, HI.out, hbl⟩
end Go.Proofs.YtfbgofbjbfidoaaDoor
