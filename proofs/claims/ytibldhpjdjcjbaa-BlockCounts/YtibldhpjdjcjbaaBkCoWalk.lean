/- BlockCounts, walked. -/
import Derived.Test.YtibldhpjdjcjbaaBkD
import Derived.Test.YtibldhpjdjcjbaaOpenP
namespace Go.Proofs.Ytibldhpjdjcjbaa
open Go.RowKit
set_option maxRecDepth 100000
set_option linter.unusedSimpArgs false
set_option maxRecDepth 100000

theorem eight_any (z : Int) : ∃ q : Nat, bits .and .i64 z 7 = (q : Int) ∧ q < 8 := ⟨(z % 8).toNat, by rw [i64_mask z 3 (by decide) 7 (by decide)]; omega, by omega⟩

theorem sixteen_any (z : Int) : ∃ q : Nat, bits .and .i64 z 15 = (q : Int) ∧ q < 16 := ⟨(z % 16).toNat, by rw [i64_mask z 4 (by decide) 15 (by decide)]; omega, by omega⟩

set_option maxHeartbeats 8000000 in
theorem blockCounts_walk (a : Option Addr) (len cap : Nat) (l : List Int) (y : Int) (w : World) (hl : IntsAt w .i64 a len l) (hlen : len ≤ maxLen) :
    Calls Try.prog 7 #[.slice a len cap, .int .i64 y] w fun e w' => e = .returned (.bool true) ∧ Below w.heap.size w w' := by
  have HL : Hid (IntsAt w .i64 a len l) := hl
  have HLen : Hid (len ≤ maxLen) := hlen
  clear hl hlen
  have CN := dnew_any 8 w ⟨by decide, by decide⟩
  go_enter Try.func7, Try.ntmps7
  go_wp2_with fail
  refine CN.mono ?_
  rintro e w1 ⟨g, b, rfl, hd, hg, hb, hB⟩
  have A1 : Hid (DevB w w1 g b (newB 8)) := ⟨hd, hg, hb, hB⟩
  clear CN hd hg hb hB
  go_wp2_with fail
  go_loopw [7, 8, 9] (fun cn cl c wr => ∃ (k : Nat) (n left : Int) (L : List ByteArray), k ≤ len ∧ k ≤ 40 ∧ c = .int .i64 k ∧ cn = .int .i64 n ∧ cl = .int .i64 left ∧ Hid (DevB w wr g b (L, left, false, n)) ∧ Hid (L.length = 8 ∧ 0 ≤ n ∧ n ≤ k ∧ -1 ≤ left ∧ left ≤ 7)) (fun _ _ c _ => len - (intOf c).toNat)
  case atStart => exact ⟨0, 0, -1, _, Nat.zero_le _, Nat.zero_le _, rfl, rfl, rfl, A1, rfl, by decide, by decide, by decide, by decide⟩
  case round =>
    obtain ⟨k, n, left, L, hk, hk4, rfl, rfl, rfl, HD, HX⟩ := hrel
    clear A1
    by_cases hlt : k < len ∧ k < 40
    · obtain ⟨hlt, hlt4⟩ := hlt
      have d0 : (k : Int) < (len : Int) := by omega
      have d1 : (k : Int) < 40 := by omega
      have t0 : (k : Int).tmod 10 = ((k % 10 : Nat) : Int) := rfl
      obtain ⟨lb, off, rfl, hcl⟩ : ∃ lb off, a = some ⟨lb, off, none⟩ ∧ ∀ i, i < len → w.cell? ⟨lb, off + i, none⟩ = some (.int .i64 (l.getD i 0)) := by
        rcases HL.out.2 with h | h
        · omega
        · exact h
      have q0 := hcl k hlt
      obtain ⟨x, hx⟩ : ∃ x, l.getD k 0 = x := ⟨_, rfl⟩
      rw [hx] at q0
      have HC : Hid (∀ w', Below w.heap.size w w' → w'.cell? ⟨lb, off + k, none⟩ = some (.int .i64 x)) := fun w' hb => by rw [hb.cell (World.block_lt_of_cell? w _ q0)]; exact q0
      obtain ⟨at_, hat, hat1⟩ := sixteen_any x
      clear hcl q0 hx
      by_cases h5 : k % 10 = 5
      · have t1 : (((k % 10 : Nat) : Int) == 5) = true := by rw [h5]; rfl
        obtain ⟨q, hq, hq8⟩ := eight_any (k : Int)
        obtain ⟨m, hm, hm8⟩ := eight_any (y / 2 ^ q)
        go_wp2_with fail
        refine (dfuse_any g b _ _ _ HD.out.1 (by omega)).mono ?_
        rintro e w3 ⟨rfl, hd⟩
        rw [show fuseB (L, left, false, n) (m : Int) = (L, (m : Int), false, n) by unfold fuseB; simp only; congr 2; omega] at hd
        have A2 : Hid (DevB w w3 g b (L, (m : Int), false, n)) := HD.out.to hd
        have HX2 : Hid (L.length = 8 ∧ 0 ≤ n ∧ n ≤ k ∧ -1 ≤ (m : Int) ∧ (m : Int) ≤ 7) := ⟨HX.out.1, HX.out.2.1, HX.out.2.2.1, by omega, by omega⟩
        clear HD hd HX hm hm8 hq hq8 t0 t1 h5
        obtain ⟨left, hleft⟩ : ∃ z : Int, z = (m : Int) := ⟨_, rfl⟩
        rw [← hleft] at A2 HX2 ⊢
        clear hleft
        have HD := A2
        have HX := HX2
        clear A2 HX2
        obtain ⟨wr, hwr⟩ : ∃ z : World, z = w3 := ⟨_, rfl⟩
        rw [← hwr] at HD ⊢
        clear hwr
        have hS0 := HC.out _ HD.out.2.2.2.drew
        have CF : Hid (∀ v, Calls Try.prog 11 #[.int .u8 120] v fun e w' => e = .returned (.string (filledB 120)) ∧ Below v.heap.size v w') := fun v => filled_any 120 v (by decide)
        obtain ⟨X, hX⟩ : ∃ X, filledB 120 = X := ⟨_, rfl⟩
        have hXs : Hid (X.size = 64) := by rw [← hX]; exact filledB_size _
        rw [hX] at CF
        clear hX
        by_cases c1 : 7 < at_
        · have CW : Hid (∀ v, DevAt v g b (L, left, false, n) → Calls Try.prog 13 #[.pointer (some ⟨g, 0, none⟩), .int .i64 (at_ : Int), .string X] v fun e w' => e = .returned (.int .i64 1) ∧ DevTo v g b (L, left, false, n) w') := fun v hv =>
            (dwrite_arg g b _ _ _ v hv (fun e => by have h1 : ((at_ : Int)) < (L.length : Int) := e.1.2; have := HX.out.1; omega)).mono fun e w' h => ⟨h.1, by rw [h.2]; exact DevTo.same hv⟩
          have e1 : (7 : Int) < (at_ : Int) := by omega
          go_wp2_with fail
          refine wp_region_noPanic ?_
          refine wp_region_held_drew (S := fun w' => w'.cell? ⟨lb, off + k, none⟩ = some (.int .i64 x)) (by kernel_rfl) (by first | exact trivial | assumption | exact ⟨by assumption, by assumption⟩) (fun hHeld => ?_)
          refine take_at (i := 0) (v := ?_) rfl rfl (by kernel_rfl) (by kernel_rfl) (by kernel_rfl) (fun _ _ _ h => h) (Or.inl ⟨by rfl, ?_⟩) (by assumption) ?_
          rotate_left
          · intro w hSw; (try dsimp only at hSw); go_simp; try with_reducible rfl
          try simp only [Act.put, List.setIfInBounds_toArray, List.set_cons_zero, List.set_cons_succ]
          refine take_at (i := 1) (v := ?_) rfl rfl (by kernel_rfl) (by kernel_rfl) (by kernel_rfl) (fun _ _ _ h => h) (Or.inl ⟨by rfl, ?_⟩) (by assumption) ?_
          rotate_left
          · intro w hSw; (try dsimp only at hSw); go_simp; try with_reducible rfl
          try simp only [Act.put, List.setIfInBounds_toArray, List.set_cons_zero, List.set_cons_succ]
          refine take_at (i := 2) (v := ?_) rfl rfl (by kernel_rfl) (by kernel_rfl) (by kernel_rfl) (fun _ _ _ h => h) (Or.inl ⟨by rfl, ?_⟩) (by assumption) ?_
          rotate_left
          · intro w hSw; (try dsimp only at hSw); go_simp; try with_reducible rfl
          try simp only [Act.put, List.setIfInBounds_toArray, List.set_cons_zero, List.set_cons_succ]
          refine take_at (i := 3) (v := ?_) rfl rfl (by kernel_rfl) (by kernel_rfl) (by kernel_rfl) (fun _ _ _ h => h) (Or.inl ⟨by rfl, ?_⟩) (by assumption) ?_
          rotate_left
          · intro w hSw; (try dsimp only at hSw); go_simp; try with_reducible rfl
          try simp only [Act.put, List.setIfInBounds_toArray, List.set_cons_zero, List.set_cons_succ]
          refine take_at (i := 4) (v := ?_) rfl rfl (by kernel_rfl) (by kernel_rfl) (by kernel_rfl) (fun _ _ _ h => h) (Or.inl ⟨by rfl, ?_⟩) (by assumption) ?_
          rotate_left
          · intro w hSw; (try dsimp only at hSw); go_simp; try with_reducible rfl
          try simp only [Act.put, List.setIfInBounds_toArray, List.set_cons_zero, List.set_cons_succ]
          refine take_at (i := 5) (v := ?_) rfl rfl (by kernel_rfl) (by kernel_rfl) (by kernel_rfl) (fun _ _ _ h => h) (Or.inl ⟨by rfl, ?_⟩) (by assumption) ?_
          rotate_left
          · intro w hSw; (try dsimp only at hSw); go_simp; try with_reducible rfl
          try simp only [Act.put, List.setIfInBounds_toArray, List.set_cons_zero, List.set_cons_succ]
          refine wpAnyH_ready (rs := [6]) (by kernel_rfl) (by simp) ?_
          refine AllReadyH.cons rfl (fun K hK => ?_) AllReadyH.nil
          go_simp
          refine (CF.out _).mono ?_
          rintro e v1 ⟨rfl, hb1⟩
          have A3 : Hid (DevB w v1 g b _) := (HD.out.on (Below.refl _ _).drew).on hb1
          clear HD hb1 CF
          refine hK.out _ _ (HC.out _ A3.out.2.2.2) (fun hHeld => ?_)
          clear hK K
          refine wpAnyH_ready (rs := [7]) (by kernel_rfl) (by simp) ?_
          refine AllReadyH.cons rfl (fun K hK => ?_) AllReadyH.nil
          go_simp
          refine (CW.out v1 A3.out.1).mono ?_
          rintro e v2 ⟨rfl, hd⟩
          have A4 : Hid (DevB w v2 g b _) := A3.out.to hd
          clear A3 CW hd
          refine hK.out _ _ (HC.out _ A4.out.2.2.2) (fun hHeld => ?_)
          clear hK K
          refine take_at (i := 8) (v := ?_) rfl rfl (by kernel_rfl) (by kernel_rfl) (by kernel_rfl) (fun _ _ _ h => h) (Or.inl ⟨by rfl, ?_⟩) (by assumption) ?_
          rotate_left
          · intro w hSw; (try dsimp only at hSw); go_simp; try with_reducible rfl
          try simp only [Act.put, List.setIfInBounds_toArray, List.set_cons_zero, List.set_cons_succ]
          refine wpAnyH_done (by kernel_rfl) (NoPanic.normal ?_) _
          have c0 := HC.out _ A4.out.2.2.2
          clear HC hS0
          have A5 := A4
          clear A4
          go_wp2_with fail
          refine (dwrites_any g b _ _ A5.out.1).mono ?_
          rintro e v4 ⟨rfl, hw⟩
          subst hw
          go_wp2_with fail
          refine ⟨⟨k + 1, n, left, L, by omega, by omega, by go_num, rfl, rfl, A5, HX.out.1, HX.out.2.1, by have := HX.out.2.2.1; omega, HX.out.2.2.2⟩, ?_⟩
          simp [intOf]; omega
        · have e1 : ¬ ((7 : Int) < (at_ : Int)) := by omega
          by_cases c2 : left = 0
          · have CW : Hid (∀ v, DevAt v g b (L, left, false, n) → Calls Try.prog 13 #[.pointer (some ⟨g, 0, none⟩), .int .i64 (at_ : Int), .string X] v fun e w' => e = .returned (.int .i64 170) ∧ DevTo v g b (offB (L, left, false, n)) w') := fun v hv =>
              dwrite_off g b _ at_ _ v hv (by show at_ < L.length; have := HX.out.1; omega) hXs.out (.inr c2)
            subst c2
            go_wp2_with fail
            refine wp_region_noPanic ?_
            refine wp_region_held_drew (S := fun w' => w'.cell? ⟨lb, off + k, none⟩ = some (.int .i64 x)) (by kernel_rfl) (by first | exact trivial | assumption | exact ⟨by assumption, by assumption⟩) (fun hHeld => ?_)
            refine take_at (i := 0) (v := ?_) rfl rfl (by kernel_rfl) (by kernel_rfl) (by kernel_rfl) (fun _ _ _ h => h) (Or.inl ⟨by rfl, ?_⟩) (by assumption) ?_
            rotate_left
            · intro w hSw; (try dsimp only at hSw); go_simp; try with_reducible rfl
            try simp only [Act.put, List.setIfInBounds_toArray, List.set_cons_zero, List.set_cons_succ]
            refine take_at (i := 1) (v := ?_) rfl rfl (by kernel_rfl) (by kernel_rfl) (by kernel_rfl) (fun _ _ _ h => h) (Or.inl ⟨by rfl, ?_⟩) (by assumption) ?_
            rotate_left
            · intro w hSw; (try dsimp only at hSw); go_simp; try with_reducible rfl
            try simp only [Act.put, List.setIfInBounds_toArray, List.set_cons_zero, List.set_cons_succ]
            refine take_at (i := 2) (v := ?_) rfl rfl (by kernel_rfl) (by kernel_rfl) (by kernel_rfl) (fun _ _ _ h => h) (Or.inl ⟨by rfl, ?_⟩) (by assumption) ?_
            rotate_left
            · intro w hSw; (try dsimp only at hSw); go_simp; try with_reducible rfl
            try simp only [Act.put, List.setIfInBounds_toArray, List.set_cons_zero, List.set_cons_succ]
            refine take_at (i := 3) (v := ?_) rfl rfl (by kernel_rfl) (by kernel_rfl) (by kernel_rfl) (fun _ _ _ h => h) (Or.inl ⟨by rfl, ?_⟩) (by assumption) ?_
            rotate_left
            · intro w hSw; (try dsimp only at hSw); go_simp; try with_reducible rfl
            try simp only [Act.put, List.setIfInBounds_toArray, List.set_cons_zero, List.set_cons_succ]
            refine take_at (i := 4) (v := ?_) rfl rfl (by kernel_rfl) (by kernel_rfl) (by kernel_rfl) (fun _ _ _ h => h) (Or.inl ⟨by rfl, ?_⟩) (by assumption) ?_
            rotate_left
            · intro w hSw; (try dsimp only at hSw); go_simp; try with_reducible rfl
            try simp only [Act.put, List.setIfInBounds_toArray, List.set_cons_zero, List.set_cons_succ]
            refine take_at (i := 5) (v := ?_) rfl rfl (by kernel_rfl) (by kernel_rfl) (by kernel_rfl) (fun _ _ _ h => h) (Or.inl ⟨by rfl, ?_⟩) (by assumption) ?_
            rotate_left
            · intro w hSw; (try dsimp only at hSw); go_simp; try with_reducible rfl
            try simp only [Act.put, List.setIfInBounds_toArray, List.set_cons_zero, List.set_cons_succ]
            refine wpAnyH_ready (rs := [6]) (by kernel_rfl) (by simp) ?_
            refine AllReadyH.cons rfl (fun K hK => ?_) AllReadyH.nil
            go_simp
            refine (CF.out _).mono ?_
            rintro e v1 ⟨rfl, hb1⟩
            have A3 : Hid (DevB w v1 g b _) := (HD.out.on (Below.refl _ _).drew).on hb1
            clear HD hb1 CF
            refine hK.out _ _ (HC.out _ A3.out.2.2.2) (fun hHeld => ?_)
            clear hK K
            refine wpAnyH_ready (rs := [7]) (by kernel_rfl) (by simp) ?_
            refine AllReadyH.cons rfl (fun K hK => ?_) AllReadyH.nil
            go_simp
            refine (CW.out v1 A3.out.1).mono ?_
            rintro e v2 ⟨rfl, hd⟩
            have A4 : Hid (DevB w v2 g b _) := A3.out.to hd
            clear A3 CW hd
            refine hK.out _ _ (HC.out _ A4.out.2.2.2) (fun hHeld => ?_)
            clear hK K
            refine take_at (i := 8) (v := ?_) rfl rfl (by kernel_rfl) (by kernel_rfl) (by kernel_rfl) (fun _ _ _ h => h) (Or.inl ⟨by rfl, ?_⟩) (by assumption) ?_
            rotate_left
            · intro w hSw; (try dsimp only at hSw); go_simp; try with_reducible rfl
            try simp only [Act.put, List.setIfInBounds_toArray, List.set_cons_zero, List.set_cons_succ]
            refine wpAnyH_done (by kernel_rfl) (NoPanic.normal ?_) _
            have c0 := HC.out _ A4.out.2.2.2
            clear HC hS0
            go_wp2_with fail
            refine (don_any g b _ _ A4.out.1).mono ?_
            rintro e v3 ⟨rfl, hd⟩
            have A5 : Hid (DevB w v3 g b (L, -1, false, n)) := A4.out.to hd
            clear A4 hd
            go_wp2_with fail
            refine (dwrites_any g b _ _ A5.out.1).mono ?_
            rintro e v4 ⟨rfl, hw⟩
            subst hw
            go_wp2_with fail
            refine ⟨⟨k + 1, n, -1, L, by omega, by omega, by go_num, rfl, rfl, A5, HX.out.1, HX.out.2.1, by have := HX.out.2.2.1; omega, by decide, by decide⟩, ?_⟩
            simp [intOf]; omega
          · have q2 : (left == 0) = false := by rw [beq_eq_false_iff_ne]; exact c2
            have CW : Hid (∀ v, DevAt v g b (L, left, false, n) → Calls Try.prog 13 #[.pointer (some ⟨g, 0, none⟩), .int .i64 (at_ : Int), .string X] v fun e w' => e = .returned (.int .i64 0) ∧ DevTo v g b (L.set at_ X, (if 0 < left then left - 1 else left), false, n + 1) w') := fun v hv => by
              have hr := dwrite_yes g b _ at_ X v hv (by show at_ < L.length; have := HX.out.1; omega) hXs.out rfl c2 ⟨HX.out.2.1, by show n < _; have := HX.out.2.2.1; omega⟩
              have e : (writeB (L, left, false, n) at_ X).1 = (L.set at_ X, (if 0 < left then left - 1 else left), false, n + 1) := by
                unfold writeB
                rw [if_neg (by rintro (e | e); · cases e
                               · exact c2 e)]
              rw [e] at hr
              exact hr
            have wn : IntKind.i64.wrap (n + 1) = n + 1 := by have := HX.out; rw [IntKind.wrap_i64]; omega
            by_cases c3 : 0 < left
            · rw [if_pos c3] at CW
              have wl : IntKind.i64.wrap (left - 1) = left - 1 := by have := HX.out; rw [IntKind.wrap_i64]; omega
              go_wp2_with fail
              refine wp_region_noPanic ?_
              refine wp_region_held_drew (S := fun w' => w'.cell? ⟨lb, off + k, none⟩ = some (.int .i64 x)) (by kernel_rfl) (by first | exact trivial | assumption | exact ⟨by assumption, by assumption⟩) (fun hHeld => ?_)
              refine take_at (i := 0) (v := ?_) rfl rfl (by kernel_rfl) (by kernel_rfl) (by kernel_rfl) (fun _ _ _ h => h) (Or.inl ⟨by rfl, ?_⟩) (by assumption) ?_
              rotate_left
              · intro w hSw; (try dsimp only at hSw); go_simp; try with_reducible rfl
              try simp only [Act.put, List.setIfInBounds_toArray, List.set_cons_zero, List.set_cons_succ]
              refine take_at (i := 1) (v := ?_) rfl rfl (by kernel_rfl) (by kernel_rfl) (by kernel_rfl) (fun _ _ _ h => h) (Or.inl ⟨by rfl, ?_⟩) (by assumption) ?_
              rotate_left
              · intro w hSw; (try dsimp only at hSw); go_simp; try with_reducible rfl
              try simp only [Act.put, List.setIfInBounds_toArray, List.set_cons_zero, List.set_cons_succ]
              refine take_at (i := 2) (v := ?_) rfl rfl (by kernel_rfl) (by kernel_rfl) (by kernel_rfl) (fun _ _ _ h => h) (Or.inl ⟨by rfl, ?_⟩) (by assumption) ?_
              rotate_left
              · intro w hSw; (try dsimp only at hSw); go_simp; try with_reducible rfl
              try simp only [Act.put, List.setIfInBounds_toArray, List.set_cons_zero, List.set_cons_succ]
              refine take_at (i := 3) (v := ?_) rfl rfl (by kernel_rfl) (by kernel_rfl) (by kernel_rfl) (fun _ _ _ h => h) (Or.inl ⟨by rfl, ?_⟩) (by assumption) ?_
              rotate_left
              · intro w hSw; (try dsimp only at hSw); go_simp; try with_reducible rfl
              try simp only [Act.put, List.setIfInBounds_toArray, List.set_cons_zero, List.set_cons_succ]
              refine take_at (i := 4) (v := ?_) rfl rfl (by kernel_rfl) (by kernel_rfl) (by kernel_rfl) (fun _ _ _ h => h) (Or.inl ⟨by rfl, ?_⟩) (by assumption) ?_
              rotate_left
              · intro w hSw; (try dsimp only at hSw); go_simp; try with_reducible rfl
              try simp only [Act.put, List.setIfInBounds_toArray, List.set_cons_zero, List.set_cons_succ]
              refine take_at (i := 5) (v := ?_) rfl rfl (by kernel_rfl) (by kernel_rfl) (by kernel_rfl) (fun _ _ _ h => h) (Or.inl ⟨by rfl, ?_⟩) (by assumption) ?_
              rotate_left
              · intro w hSw; (try dsimp only at hSw); go_simp; try with_reducible rfl
              try simp only [Act.put, List.setIfInBounds_toArray, List.set_cons_zero, List.set_cons_succ]
              refine wpAnyH_ready (rs := [6]) (by kernel_rfl) (by simp) ?_
              refine AllReadyH.cons rfl (fun K hK => ?_) AllReadyH.nil
              go_simp
              refine (CF.out _).mono ?_
              rintro e v1 ⟨rfl, hb1⟩
              have A3 : Hid (DevB w v1 g b _) := (HD.out.on (Below.refl _ _).drew).on hb1
              clear HD hb1 CF
              refine hK.out _ _ (HC.out _ A3.out.2.2.2) (fun hHeld => ?_)
              clear hK K
              refine wpAnyH_ready (rs := [7]) (by kernel_rfl) (by simp) ?_
              refine AllReadyH.cons rfl (fun K hK => ?_) AllReadyH.nil
              go_simp
              refine (CW.out v1 A3.out.1).mono ?_
              rintro e v2 ⟨rfl, hd⟩
              have A4 : Hid (DevB w v2 g b _) := A3.out.to hd
              clear A3 CW hd
              refine hK.out _ _ (HC.out _ A4.out.2.2.2) (fun hHeld => ?_)
              clear hK K
              refine take_at (i := 8) (v := ?_) rfl rfl (by kernel_rfl) (by kernel_rfl) (by kernel_rfl) (fun _ _ _ h => h) (Or.inl ⟨by rfl, ?_⟩) (by assumption) ?_
              rotate_left
              · intro w hSw; (try dsimp only at hSw); go_simp; try with_reducible rfl
              try simp only [Act.put, List.setIfInBounds_toArray, List.set_cons_zero, List.set_cons_succ]
              refine wpAnyH_done (by kernel_rfl) (NoPanic.normal ?_) _
              have c0 := HC.out _ A4.out.2.2.2
              clear HC hS0
              have A5 := A4
              clear A4
              go_wp2_with fail
              refine (dwrites_any g b _ _ A5.out.1).mono ?_
              rintro e v4 ⟨rfl, hw⟩
              subst hw
              go_wp2_with fail
              refine ⟨⟨k + 1, n + 1, left - 1, _, by omega, by omega, by go_num, rfl, rfl, A5, ?_⟩, ?_⟩
              · have h9 := HX.out
                exact ⟨by rw [List.length_set]; exact h9.1, by omega, by omega, by omega, by omega⟩
              · simp [intOf]; omega
            · rw [if_neg c3] at CW
              go_wp2_with fail
              refine wp_region_noPanic ?_
              refine wp_region_held_drew (S := fun w' => w'.cell? ⟨lb, off + k, none⟩ = some (.int .i64 x)) (by kernel_rfl) (by first | exact trivial | assumption | exact ⟨by assumption, by assumption⟩) (fun hHeld => ?_)
              refine take_at (i := 0) (v := ?_) rfl rfl (by kernel_rfl) (by kernel_rfl) (by kernel_rfl) (fun _ _ _ h => h) (Or.inl ⟨by rfl, ?_⟩) (by assumption) ?_
              rotate_left
              · intro w hSw; (try dsimp only at hSw); go_simp; try with_reducible rfl
              try simp only [Act.put, List.setIfInBounds_toArray, List.set_cons_zero, List.set_cons_succ]
              refine take_at (i := 1) (v := ?_) rfl rfl (by kernel_rfl) (by kernel_rfl) (by kernel_rfl) (fun _ _ _ h => h) (Or.inl ⟨by rfl, ?_⟩) (by assumption) ?_
              rotate_left
              · intro w hSw; (try dsimp only at hSw); go_simp; try with_reducible rfl
              try simp only [Act.put, List.setIfInBounds_toArray, List.set_cons_zero, List.set_cons_succ]
              refine take_at (i := 2) (v := ?_) rfl rfl (by kernel_rfl) (by kernel_rfl) (by kernel_rfl) (fun _ _ _ h => h) (Or.inl ⟨by rfl, ?_⟩) (by assumption) ?_
              rotate_left
              · intro w hSw; (try dsimp only at hSw); go_simp; try with_reducible rfl
              try simp only [Act.put, List.setIfInBounds_toArray, List.set_cons_zero, List.set_cons_succ]
              refine take_at (i := 3) (v := ?_) rfl rfl (by kernel_rfl) (by kernel_rfl) (by kernel_rfl) (fun _ _ _ h => h) (Or.inl ⟨by rfl, ?_⟩) (by assumption) ?_
              rotate_left
              · intro w hSw; (try dsimp only at hSw); go_simp; try with_reducible rfl
              try simp only [Act.put, List.setIfInBounds_toArray, List.set_cons_zero, List.set_cons_succ]
              refine take_at (i := 4) (v := ?_) rfl rfl (by kernel_rfl) (by kernel_rfl) (by kernel_rfl) (fun _ _ _ h => h) (Or.inl ⟨by rfl, ?_⟩) (by assumption) ?_
              rotate_left
              · intro w hSw; (try dsimp only at hSw); go_simp; try with_reducible rfl
              try simp only [Act.put, List.setIfInBounds_toArray, List.set_cons_zero, List.set_cons_succ]
              refine take_at (i := 5) (v := ?_) rfl rfl (by kernel_rfl) (by kernel_rfl) (by kernel_rfl) (fun _ _ _ h => h) (Or.inl ⟨by rfl, ?_⟩) (by assumption) ?_
              rotate_left
              · intro w hSw; (try dsimp only at hSw); go_simp; try with_reducible rfl
              try simp only [Act.put, List.setIfInBounds_toArray, List.set_cons_zero, List.set_cons_succ]
              refine wpAnyH_ready (rs := [6]) (by kernel_rfl) (by simp) ?_
              refine AllReadyH.cons rfl (fun K hK => ?_) AllReadyH.nil
              go_simp
              refine (CF.out _).mono ?_
              rintro e v1 ⟨rfl, hb1⟩
              have A3 : Hid (DevB w v1 g b _) := (HD.out.on (Below.refl _ _).drew).on hb1
              clear HD hb1 CF
              refine hK.out _ _ (HC.out _ A3.out.2.2.2) (fun hHeld => ?_)
              clear hK K
              refine wpAnyH_ready (rs := [7]) (by kernel_rfl) (by simp) ?_
              refine AllReadyH.cons rfl (fun K hK => ?_) AllReadyH.nil
              go_simp
              refine (CW.out v1 A3.out.1).mono ?_
              rintro e v2 ⟨rfl, hd⟩
              have A4 : Hid (DevB w v2 g b _) := A3.out.to hd
              clear A3 CW hd
              refine hK.out _ _ (HC.out _ A4.out.2.2.2) (fun hHeld => ?_)
              clear hK K
              refine take_at (i := 8) (v := ?_) rfl rfl (by kernel_rfl) (by kernel_rfl) (by kernel_rfl) (fun _ _ _ h => h) (Or.inl ⟨by rfl, ?_⟩) (by assumption) ?_
              rotate_left
              · intro w hSw; (try dsimp only at hSw); go_simp; try with_reducible rfl
              try simp only [Act.put, List.setIfInBounds_toArray, List.set_cons_zero, List.set_cons_succ]
              refine wpAnyH_done (by kernel_rfl) (NoPanic.normal ?_) _
              have c0 := HC.out _ A4.out.2.2.2
              clear HC hS0
              have A5 := A4
              clear A4
              go_wp2_with fail
              refine (dwrites_any g b _ _ A5.out.1).mono ?_
              rintro e v4 ⟨rfl, hw⟩
              subst hw
              go_wp2_with fail
              refine ⟨⟨k + 1, n + 1, left, _, by omega, by omega, by go_num, rfl, rfl, A5, ?_⟩, ?_⟩
              · have h9 := HX.out
                exact ⟨by rw [List.length_set]; exact h9.1, by omega, by omega, h9.2.2.2⟩
              · simp [intOf]; omega
      · have t1 : (((k % 10 : Nat) : Int) == 5) = false := by rw [beq_eq_false_iff_ne]; omega
        go_wp2_with fail
        have hS0 := HC.out _ HD.out.2.2.2.drew
        have CF : Hid (∀ v, Calls Try.prog 11 #[.int .u8 120] v fun e w' => e = .returned (.string (filledB 120)) ∧ Below v.heap.size v w') := fun v => filled_any 120 v (by decide)
        obtain ⟨X, hX⟩ : ∃ X, filledB 120 = X := ⟨_, rfl⟩
        have hXs : Hid (X.size = 64) := by rw [← hX]; exact filledB_size _
        rw [hX] at CF
        clear hX
        by_cases c1 : 7 < at_
        · have CW : Hid (∀ v, DevAt v g b (L, left, false, n) → Calls Try.prog 13 #[.pointer (some ⟨g, 0, none⟩), .int .i64 (at_ : Int), .string X] v fun e w' => e = .returned (.int .i64 1) ∧ DevTo v g b (L, left, false, n) w') := fun v hv =>
            (dwrite_arg g b _ _ _ v hv (fun e => by have h1 : ((at_ : Int)) < (L.length : Int) := e.1.2; have := HX.out.1; omega)).mono fun e w' h => ⟨h.1, by rw [h.2]; exact DevTo.same hv⟩
          have e1 : (7 : Int) < (at_ : Int) := by omega
          go_wp2_with fail
          refine wp_region_noPanic ?_
          refine wp_region_held_drew (S := fun w' => w'.cell? ⟨lb, off + k, none⟩ = some (.int .i64 x)) (by kernel_rfl) (by first | exact trivial | assumption | exact ⟨by assumption, by assumption⟩) (fun hHeld => ?_)
          refine take_at (i := 0) (v := ?_) rfl rfl (by kernel_rfl) (by kernel_rfl) (by kernel_rfl) (fun _ _ _ h => h) (Or.inl ⟨by rfl, ?_⟩) (by assumption) ?_
          rotate_left
          · intro w hSw; (try dsimp only at hSw); go_simp; try with_reducible rfl
          try simp only [Act.put, List.setIfInBounds_toArray, List.set_cons_zero, List.set_cons_succ]
          refine take_at (i := 1) (v := ?_) rfl rfl (by kernel_rfl) (by kernel_rfl) (by kernel_rfl) (fun _ _ _ h => h) (Or.inl ⟨by rfl, ?_⟩) (by assumption) ?_
          rotate_left
          · intro w hSw; (try dsimp only at hSw); go_simp; try with_reducible rfl
          try simp only [Act.put, List.setIfInBounds_toArray, List.set_cons_zero, List.set_cons_succ]
          refine take_at (i := 2) (v := ?_) rfl rfl (by kernel_rfl) (by kernel_rfl) (by kernel_rfl) (fun _ _ _ h => h) (Or.inl ⟨by rfl, ?_⟩) (by assumption) ?_
          rotate_left
          · intro w hSw; (try dsimp only at hSw); go_simp; try with_reducible rfl
          try simp only [Act.put, List.setIfInBounds_toArray, List.set_cons_zero, List.set_cons_succ]
          refine take_at (i := 3) (v := ?_) rfl rfl (by kernel_rfl) (by kernel_rfl) (by kernel_rfl) (fun _ _ _ h => h) (Or.inl ⟨by rfl, ?_⟩) (by assumption) ?_
          rotate_left
          · intro w hSw; (try dsimp only at hSw); go_simp; try with_reducible rfl
          try simp only [Act.put, List.setIfInBounds_toArray, List.set_cons_zero, List.set_cons_succ]
          refine take_at (i := 4) (v := ?_) rfl rfl (by kernel_rfl) (by kernel_rfl) (by kernel_rfl) (fun _ _ _ h => h) (Or.inl ⟨by rfl, ?_⟩) (by assumption) ?_
          rotate_left
          · intro w hSw; (try dsimp only at hSw); go_simp; try with_reducible rfl
          try simp only [Act.put, List.setIfInBounds_toArray, List.set_cons_zero, List.set_cons_succ]
          refine take_at (i := 5) (v := ?_) rfl rfl (by kernel_rfl) (by kernel_rfl) (by kernel_rfl) (fun _ _ _ h => h) (Or.inl ⟨by rfl, ?_⟩) (by assumption) ?_
          rotate_left
          · intro w hSw; (try dsimp only at hSw); go_simp; try with_reducible rfl
          try simp only [Act.put, List.setIfInBounds_toArray, List.set_cons_zero, List.set_cons_succ]
          refine wpAnyH_ready (rs := [6]) (by kernel_rfl) (by simp) ?_
          refine AllReadyH.cons rfl (fun K hK => ?_) AllReadyH.nil
          go_simp
          refine (CF.out _).mono ?_
          rintro e v1 ⟨rfl, hb1⟩
          have A3 : Hid (DevB w v1 g b _) := (HD.out.on (Below.refl _ _).drew).on hb1
          clear HD hb1 CF
          refine hK.out _ _ (HC.out _ A3.out.2.2.2) (fun hHeld => ?_)
          clear hK K
          refine wpAnyH_ready (rs := [7]) (by kernel_rfl) (by simp) ?_
          refine AllReadyH.cons rfl (fun K hK => ?_) AllReadyH.nil
          go_simp
          refine (CW.out v1 A3.out.1).mono ?_
          rintro e v2 ⟨rfl, hd⟩
          have A4 : Hid (DevB w v2 g b _) := A3.out.to hd
          clear A3 CW hd
          refine hK.out _ _ (HC.out _ A4.out.2.2.2) (fun hHeld => ?_)
          clear hK K
          refine take_at (i := 8) (v := ?_) rfl rfl (by kernel_rfl) (by kernel_rfl) (by kernel_rfl) (fun _ _ _ h => h) (Or.inl ⟨by rfl, ?_⟩) (by assumption) ?_
          rotate_left
          · intro w hSw; (try dsimp only at hSw); go_simp; try with_reducible rfl
          try simp only [Act.put, List.setIfInBounds_toArray, List.set_cons_zero, List.set_cons_succ]
          refine wpAnyH_done (by kernel_rfl) (NoPanic.normal ?_) _
          have c0 := HC.out _ A4.out.2.2.2
          clear HC hS0
          have A5 := A4
          clear A4
          go_wp2_with fail
          refine (dwrites_any g b _ _ A5.out.1).mono ?_
          rintro e v4 ⟨rfl, hw⟩
          subst hw
          go_wp2_with fail
          refine ⟨⟨k + 1, n, left, L, by omega, by omega, by go_num, rfl, rfl, A5, HX.out.1, HX.out.2.1, by have := HX.out.2.2.1; omega, HX.out.2.2.2⟩, ?_⟩
          simp [intOf]; omega
        · have e1 : ¬ ((7 : Int) < (at_ : Int)) := by omega
          by_cases c2 : left = 0
          · have CW : Hid (∀ v, DevAt v g b (L, left, false, n) → Calls Try.prog 13 #[.pointer (some ⟨g, 0, none⟩), .int .i64 (at_ : Int), .string X] v fun e w' => e = .returned (.int .i64 170) ∧ DevTo v g b (offB (L, left, false, n)) w') := fun v hv =>
              dwrite_off g b _ at_ _ v hv (by show at_ < L.length; have := HX.out.1; omega) hXs.out (.inr c2)
            subst c2
            go_wp2_with fail
            refine wp_region_noPanic ?_
            refine wp_region_held_drew (S := fun w' => w'.cell? ⟨lb, off + k, none⟩ = some (.int .i64 x)) (by kernel_rfl) (by first | exact trivial | assumption | exact ⟨by assumption, by assumption⟩) (fun hHeld => ?_)
            refine take_at (i := 0) (v := ?_) rfl rfl (by kernel_rfl) (by kernel_rfl) (by kernel_rfl) (fun _ _ _ h => h) (Or.inl ⟨by rfl, ?_⟩) (by assumption) ?_
            rotate_left
            · intro w hSw; (try dsimp only at hSw); go_simp; try with_reducible rfl
            try simp only [Act.put, List.setIfInBounds_toArray, List.set_cons_zero, List.set_cons_succ]
            refine take_at (i := 1) (v := ?_) rfl rfl (by kernel_rfl) (by kernel_rfl) (by kernel_rfl) (fun _ _ _ h => h) (Or.inl ⟨by rfl, ?_⟩) (by assumption) ?_
            rotate_left
            · intro w hSw; (try dsimp only at hSw); go_simp; try with_reducible rfl
            try simp only [Act.put, List.setIfInBounds_toArray, List.set_cons_zero, List.set_cons_succ]
            refine take_at (i := 2) (v := ?_) rfl rfl (by kernel_rfl) (by kernel_rfl) (by kernel_rfl) (fun _ _ _ h => h) (Or.inl ⟨by rfl, ?_⟩) (by assumption) ?_
            rotate_left
            · intro w hSw; (try dsimp only at hSw); go_simp; try with_reducible rfl
            try simp only [Act.put, List.setIfInBounds_toArray, List.set_cons_zero, List.set_cons_succ]
            refine take_at (i := 3) (v := ?_) rfl rfl (by kernel_rfl) (by kernel_rfl) (by kernel_rfl) (fun _ _ _ h => h) (Or.inl ⟨by rfl, ?_⟩) (by assumption) ?_
            rotate_left
            · intro w hSw; (try dsimp only at hSw); go_simp; try with_reducible rfl
            try simp only [Act.put, List.setIfInBounds_toArray, List.set_cons_zero, List.set_cons_succ]
            refine take_at (i := 4) (v := ?_) rfl rfl (by kernel_rfl) (by kernel_rfl) (by kernel_rfl) (fun _ _ _ h => h) (Or.inl ⟨by rfl, ?_⟩) (by assumption) ?_
            rotate_left
            · intro w hSw; (try dsimp only at hSw); go_simp; try with_reducible rfl
            try simp only [Act.put, List.setIfInBounds_toArray, List.set_cons_zero, List.set_cons_succ]
            refine take_at (i := 5) (v := ?_) rfl rfl (by kernel_rfl) (by kernel_rfl) (by kernel_rfl) (fun _ _ _ h => h) (Or.inl ⟨by rfl, ?_⟩) (by assumption) ?_
            rotate_left
            · intro w hSw; (try dsimp only at hSw); go_simp; try with_reducible rfl
            try simp only [Act.put, List.setIfInBounds_toArray, List.set_cons_zero, List.set_cons_succ]
            refine wpAnyH_ready (rs := [6]) (by kernel_rfl) (by simp) ?_
            refine AllReadyH.cons rfl (fun K hK => ?_) AllReadyH.nil
            go_simp
            refine (CF.out _).mono ?_
            rintro e v1 ⟨rfl, hb1⟩
            have A3 : Hid (DevB w v1 g b _) := (HD.out.on (Below.refl _ _).drew).on hb1
            clear HD hb1 CF
            refine hK.out _ _ (HC.out _ A3.out.2.2.2) (fun hHeld => ?_)
            clear hK K
            refine wpAnyH_ready (rs := [7]) (by kernel_rfl) (by simp) ?_
            refine AllReadyH.cons rfl (fun K hK => ?_) AllReadyH.nil
            go_simp
            refine (CW.out v1 A3.out.1).mono ?_
            rintro e v2 ⟨rfl, hd⟩
            have A4 : Hid (DevB w v2 g b _) := A3.out.to hd
            clear A3 CW hd
            refine hK.out _ _ (HC.out _ A4.out.2.2.2) (fun hHeld => ?_)
            clear hK K
            refine take_at (i := 8) (v := ?_) rfl rfl (by kernel_rfl) (by kernel_rfl) (by kernel_rfl) (fun _ _ _ h => h) (Or.inl ⟨by rfl, ?_⟩) (by assumption) ?_
            rotate_left
            · intro w hSw; (try dsimp only at hSw); go_simp; try with_reducible rfl
            try simp only [Act.put, List.setIfInBounds_toArray, List.set_cons_zero, List.set_cons_succ]
            refine wpAnyH_done (by kernel_rfl) (NoPanic.normal ?_) _
            have c0 := HC.out _ A4.out.2.2.2
            clear HC hS0
            go_wp2_with fail
            refine (don_any g b _ _ A4.out.1).mono ?_
            rintro e v3 ⟨rfl, hd⟩
            have A5 : Hid (DevB w v3 g b (L, -1, false, n)) := A4.out.to hd
            clear A4 hd
            go_wp2_with fail
            refine (dwrites_any g b _ _ A5.out.1).mono ?_
            rintro e v4 ⟨rfl, hw⟩
            subst hw
            go_wp2_with fail
            refine ⟨⟨k + 1, n, -1, L, by omega, by omega, by go_num, rfl, rfl, A5, HX.out.1, HX.out.2.1, by have := HX.out.2.2.1; omega, by decide, by decide⟩, ?_⟩
            simp [intOf]; omega
          · have q2 : (left == 0) = false := by rw [beq_eq_false_iff_ne]; exact c2
            have CW : Hid (∀ v, DevAt v g b (L, left, false, n) → Calls Try.prog 13 #[.pointer (some ⟨g, 0, none⟩), .int .i64 (at_ : Int), .string X] v fun e w' => e = .returned (.int .i64 0) ∧ DevTo v g b (L.set at_ X, (if 0 < left then left - 1 else left), false, n + 1) w') := fun v hv => by
              have hr := dwrite_yes g b _ at_ X v hv (by show at_ < L.length; have := HX.out.1; omega) hXs.out rfl c2 ⟨HX.out.2.1, by show n < _; have := HX.out.2.2.1; omega⟩
              have e : (writeB (L, left, false, n) at_ X).1 = (L.set at_ X, (if 0 < left then left - 1 else left), false, n + 1) := by
                unfold writeB
                rw [if_neg (by rintro (e | e); · cases e
                               · exact c2 e)]
              rw [e] at hr
              exact hr
            have wn : IntKind.i64.wrap (n + 1) = n + 1 := by have := HX.out; rw [IntKind.wrap_i64]; omega
            by_cases c3 : 0 < left
            · rw [if_pos c3] at CW
              have wl : IntKind.i64.wrap (left - 1) = left - 1 := by have := HX.out; rw [IntKind.wrap_i64]; omega
              go_wp2_with fail
              refine wp_region_noPanic ?_
              refine wp_region_held_drew (S := fun w' => w'.cell? ⟨lb, off + k, none⟩ = some (.int .i64 x)) (by kernel_rfl) (by first | exact trivial | assumption | exact ⟨by assumption, by assumption⟩) (fun hHeld => ?_)
              refine take_at (i := 0) (v := ?_) rfl rfl (by kernel_rfl) (by kernel_rfl) (by kernel_rfl) (fun _ _ _ h => h) (Or.inl ⟨by rfl, ?_⟩) (by assumption) ?_
              rotate_left
              · intro w hSw; (try dsimp only at hSw); go_simp; try with_reducible rfl
              try simp only [Act.put, List.setIfInBounds_toArray, List.set_cons_zero, List.set_cons_succ]
              refine take_at (i := 1) (v := ?_) rfl rfl (by kernel_rfl) (by kernel_rfl) (by kernel_rfl) (fun _ _ _ h => h) (Or.inl ⟨by rfl, ?_⟩) (by assumption) ?_
              rotate_left
              · intro w hSw; (try dsimp only at hSw); go_simp; try with_reducible rfl
              try simp only [Act.put, List.setIfInBounds_toArray, List.set_cons_zero, List.set_cons_succ]
              refine take_at (i := 2) (v := ?_) rfl rfl (by kernel_rfl) (by kernel_rfl) (by kernel_rfl) (fun _ _ _ h => h) (Or.inl ⟨by rfl, ?_⟩) (by assumption) ?_
              rotate_left
              · intro w hSw; (try dsimp only at hSw); go_simp; try with_reducible rfl
              try simp only [Act.put, List.setIfInBounds_toArray, List.set_cons_zero, List.set_cons_succ]
              refine take_at (i := 3) (v := ?_) rfl rfl (by kernel_rfl) (by kernel_rfl) (by kernel_rfl) (fun _ _ _ h => h) (Or.inl ⟨by rfl, ?_⟩) (by assumption) ?_
              rotate_left
              · intro w hSw; (try dsimp only at hSw); go_simp; try with_reducible rfl
              try simp only [Act.put, List.setIfInBounds_toArray, List.set_cons_zero, List.set_cons_succ]
              refine take_at (i := 4) (v := ?_) rfl rfl (by kernel_rfl) (by kernel_rfl) (by kernel_rfl) (fun _ _ _ h => h) (Or.inl ⟨by rfl, ?_⟩) (by assumption) ?_
              rotate_left
              · intro w hSw; (try dsimp only at hSw); go_simp; try with_reducible rfl
              try simp only [Act.put, List.setIfInBounds_toArray, List.set_cons_zero, List.set_cons_succ]
              refine take_at (i := 5) (v := ?_) rfl rfl (by kernel_rfl) (by kernel_rfl) (by kernel_rfl) (fun _ _ _ h => h) (Or.inl ⟨by rfl, ?_⟩) (by assumption) ?_
              rotate_left
              · intro w hSw; (try dsimp only at hSw); go_simp; try with_reducible rfl
              try simp only [Act.put, List.setIfInBounds_toArray, List.set_cons_zero, List.set_cons_succ]
              refine wpAnyH_ready (rs := [6]) (by kernel_rfl) (by simp) ?_
              refine AllReadyH.cons rfl (fun K hK => ?_) AllReadyH.nil
              go_simp
              refine (CF.out _).mono ?_
              rintro e v1 ⟨rfl, hb1⟩
              have A3 : Hid (DevB w v1 g b _) := (HD.out.on (Below.refl _ _).drew).on hb1
              clear HD hb1 CF
              refine hK.out _ _ (HC.out _ A3.out.2.2.2) (fun hHeld => ?_)
              clear hK K
              refine wpAnyH_ready (rs := [7]) (by kernel_rfl) (by simp) ?_
              refine AllReadyH.cons rfl (fun K hK => ?_) AllReadyH.nil
              go_simp
              refine (CW.out v1 A3.out.1).mono ?_
              rintro e v2 ⟨rfl, hd⟩
              have A4 : Hid (DevB w v2 g b _) := A3.out.to hd
              clear A3 CW hd
              refine hK.out _ _ (HC.out _ A4.out.2.2.2) (fun hHeld => ?_)
              clear hK K
              refine take_at (i := 8) (v := ?_) rfl rfl (by kernel_rfl) (by kernel_rfl) (by kernel_rfl) (fun _ _ _ h => h) (Or.inl ⟨by rfl, ?_⟩) (by assumption) ?_
              rotate_left
              · intro w hSw; (try dsimp only at hSw); go_simp; try with_reducible rfl
              try simp only [Act.put, List.setIfInBounds_toArray, List.set_cons_zero, List.set_cons_succ]
              refine wpAnyH_done (by kernel_rfl) (NoPanic.normal ?_) _
              have c0 := HC.out _ A4.out.2.2.2
              clear HC hS0
              have A5 := A4
              clear A4
              go_wp2_with fail
              refine (dwrites_any g b _ _ A5.out.1).mono ?_
              rintro e v4 ⟨rfl, hw⟩
              subst hw
              go_wp2_with fail
              refine ⟨⟨k + 1, n + 1, left - 1, _, by omega, by omega, by go_num, rfl, rfl, A5, ?_⟩, ?_⟩
              · have h9 := HX.out
                exact ⟨by rw [List.length_set]; exact h9.1, by omega, by omega, by omega, by omega⟩
              · simp [intOf]; omega
            · rw [if_neg c3] at CW
              go_wp2_with fail
              refine wp_region_noPanic ?_
              refine wp_region_held_drew (S := fun w' => w'.cell? ⟨lb, off + k, none⟩ = some (.int .i64 x)) (by kernel_rfl) (by first | exact trivial | assumption | exact ⟨by assumption, by assumption⟩) (fun hHeld => ?_)
              refine take_at (i := 0) (v := ?_) rfl rfl (by kernel_rfl) (by kernel_rfl) (by kernel_rfl) (fun _ _ _ h => h) (Or.inl ⟨by rfl, ?_⟩) (by assumption) ?_
              rotate_left
              · intro w hSw; (try dsimp only at hSw); go_simp; try with_reducible rfl
              try simp only [Act.put, List.setIfInBounds_toArray, List.set_cons_zero, List.set_cons_succ]
              refine take_at (i := 1) (v := ?_) rfl rfl (by kernel_rfl) (by kernel_rfl) (by kernel_rfl) (fun _ _ _ h => h) (Or.inl ⟨by rfl, ?_⟩) (by assumption) ?_
              rotate_left
              · intro w hSw; (try dsimp only at hSw); go_simp; try with_reducible rfl
              try simp only [Act.put, List.setIfInBounds_toArray, List.set_cons_zero, List.set_cons_succ]
              refine take_at (i := 2) (v := ?_) rfl rfl (by kernel_rfl) (by kernel_rfl) (by kernel_rfl) (fun _ _ _ h => h) (Or.inl ⟨by rfl, ?_⟩) (by assumption) ?_
              rotate_left
              · intro w hSw; (try dsimp only at hSw); go_simp; try with_reducible rfl
              try simp only [Act.put, List.setIfInBounds_toArray, List.set_cons_zero, List.set_cons_succ]
              refine take_at (i := 3) (v := ?_) rfl rfl (by kernel_rfl) (by kernel_rfl) (by kernel_rfl) (fun _ _ _ h => h) (Or.inl ⟨by rfl, ?_⟩) (by assumption) ?_
              rotate_left
              · intro w hSw; (try dsimp only at hSw); go_simp; try with_reducible rfl
              try simp only [Act.put, List.setIfInBounds_toArray, List.set_cons_zero, List.set_cons_succ]
              refine take_at (i := 4) (v := ?_) rfl rfl (by kernel_rfl) (by kernel_rfl) (by kernel_rfl) (fun _ _ _ h => h) (Or.inl ⟨by rfl, ?_⟩) (by assumption) ?_
              rotate_left
              · intro w hSw; (try dsimp only at hSw); go_simp; try with_reducible rfl
              try simp only [Act.put, List.setIfInBounds_toArray, List.set_cons_zero, List.set_cons_succ]
              refine take_at (i := 5) (v := ?_) rfl rfl (by kernel_rfl) (by kernel_rfl) (by kernel_rfl) (fun _ _ _ h => h) (Or.inl ⟨by rfl, ?_⟩) (by assumption) ?_
              rotate_left
              · intro w hSw; (try dsimp only at hSw); go_simp; try with_reducible rfl
              try simp only [Act.put, List.setIfInBounds_toArray, List.set_cons_zero, List.set_cons_succ]
              refine wpAnyH_ready (rs := [6]) (by kernel_rfl) (by simp) ?_
              refine AllReadyH.cons rfl (fun K hK => ?_) AllReadyH.nil
              go_simp
              refine (CF.out _).mono ?_
              rintro e v1 ⟨rfl, hb1⟩
              have A3 : Hid (DevB w v1 g b _) := (HD.out.on (Below.refl _ _).drew).on hb1
              clear HD hb1 CF
              refine hK.out _ _ (HC.out _ A3.out.2.2.2) (fun hHeld => ?_)
              clear hK K
              refine wpAnyH_ready (rs := [7]) (by kernel_rfl) (by simp) ?_
              refine AllReadyH.cons rfl (fun K hK => ?_) AllReadyH.nil
              go_simp
              refine (CW.out v1 A3.out.1).mono ?_
              rintro e v2 ⟨rfl, hd⟩
              have A4 : Hid (DevB w v2 g b _) := A3.out.to hd
              clear A3 CW hd
              refine hK.out _ _ (HC.out _ A4.out.2.2.2) (fun hHeld => ?_)
              clear hK K
              refine take_at (i := 8) (v := ?_) rfl rfl (by kernel_rfl) (by kernel_rfl) (by kernel_rfl) (fun _ _ _ h => h) (Or.inl ⟨by rfl, ?_⟩) (by assumption) ?_
              rotate_left
              · intro w hSw; (try dsimp only at hSw); go_simp; try with_reducible rfl
              try simp only [Act.put, List.setIfInBounds_toArray, List.set_cons_zero, List.set_cons_succ]
              refine wpAnyH_done (by kernel_rfl) (NoPanic.normal ?_) _
              have c0 := HC.out _ A4.out.2.2.2
              clear HC hS0
              have A5 := A4
              clear A4
              go_wp2_with fail
              refine (dwrites_any g b _ _ A5.out.1).mono ?_
              rintro e v4 ⟨rfl, hw⟩
              subst hw
              go_wp2_with fail
              refine ⟨⟨k + 1, n + 1, left, _, by omega, by omega, by go_num, rfl, rfl, A5, ?_⟩, ?_⟩
              · have h9 := HX.out
                exact ⟨by rw [List.length_set]; exact h9.1, by omega, by omega, h9.2.2.2⟩
              · simp [intOf]; omega
    · rcases Nat.lt_or_ge k len with h1 | h1
      · have d0 : (k : Int) < (len : Int) := by omega
        have d1 : ¬ ((k : Int) < 40) := by omega
        go_wp2_with fail
        refine (awake17_on HD.out.2.2.2).mono ?_
        rintro e w2 ⟨rfl, hb2⟩
        go_wp2
        go_ret
        exact ⟨rfl, hb2⟩
      · have d0 : ¬ ((k : Int) < (len : Int)) := by omega
        go_wp2_with fail
        refine (awake17_on HD.out.2.2.2).mono ?_
        rintro e w2 ⟨rfl, hb2⟩
        go_wp2
        go_ret
        exact ⟨rfl, hb2⟩

theorem blockCounts_law (a : Option Addr) (len cap : Nat) (y : Int) (w : World) (z : ∃ l, IntsAt w .i64 a len l ∧ len ≤ maxLen ∧ ∀ q ∈ l, (Lit.int .i64 q).wf = true) :
    Calls Try.prog 7 #[.slice a len cap, .int .i64 y] w fun e w' => e = .returned (.bool true) ∧ Below w.heap.size w w' := by
  obtain ⟨l, h1, h2, _⟩ := z
  exact blockCounts_walk a len cap l y w h1 h2

end Go.Proofs.Ytibldhpjdjcjbaa
