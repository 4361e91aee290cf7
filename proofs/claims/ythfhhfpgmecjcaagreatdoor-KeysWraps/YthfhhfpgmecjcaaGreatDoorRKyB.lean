/- Layer 15, the document's: Send, Keep, Fresh, may, Wrap, Unwrap. -/
import Derived.Test.YthfhhfpgmecjcaaGreatDoorKyD
import Derived.Test.YthfhhfpgmecjcaaGreatDoorRKyA
namespace Go.Proofs.YthfhhfpgmecjcaaGreatDoor
open Go.RowKit
set_option maxRecDepth 100000
set_option linter.unusedSimpArgs false


set_option maxHeartbeats 2000000 in
theorem rderive_ok (salt s p : ByteArray) (n : Nat) (w : World) (hk : salt.size ≤ 65536) (hs : s.size ≤ 65472) (hp : p.size ≤ 65000) (hn : n ≤ 8160) :
    Calls Tryz.prog 37 #[.string salt, .string s, .string p, .int .i64 (n : Int)] w fun e w' => e = .returned (.tuple #[.string (expandB (macB salt s) p n), .int .i64 0]) ∧ Below w.heap.size w w' := by
  have C1 : Hid (Calls _ _ _ _ _) := rextract_any salt s w hk hs
  have C2 : Hid (∀ w, _) := fun w => rexpand_ok (macB salt s) p n w (by rw [macB_size]; omega) hp hn
  generalize macB salt s = M at *
  generalize expandB M p n = E at *
  go_enter Tryz.func37, Tryz.ntmps37
  go_wp2_with fail
  refine C1.out.mono ?_
  rintro e w1 ⟨rfl, hb1⟩
  go_wp2_with fail
  refine (C2.out w1).mono ?_
  rintro e w2 ⟨rfl, hb2⟩
  have hB2 := below_step hb1 (Nat.le_refl _) hb2
  go_wp2_with fail
  go_ret2
  exact ⟨rfl, hB2⟩

set_option maxHeartbeats 2000000 in
theorem rsend_any (key : ByteArray) (who : Int) (w : World) :
    Calls Tryz.prog 10 #[.string key, .int .i64 who] w fun e w' => e = .returned (retP (sendP key who)) ∧ Below w.heap.size w w' := by
  by_cases hk : key.size = 32
  · by_cases h1 : who < 1
    · have g1 : decide (who < 1) = true := by simp; omega
      have eR : sendP key who = (⟨#[]⟩, 1) := by unfold sendP; rw [if_neg (fun h => by omega)]
      rw [eR]
      clear eR
      go_enter Tryz.func10, Tryz.ntmps10
      go_wp2_with fail
      go_ret2
      exact ⟨rfl, Below.refl _ _⟩
    · have g1 : decide (who < 1) = false := by simp; omega
      by_cases h6 : 6 < who
      · have g2 : decide ((6 : Int) < who) = true := by simp; omega
        have eR : sendP key who = (⟨#[]⟩, 1) := by unfold sendP; rw [if_neg (fun h => by omega)]
        rw [eR]
        clear eR
        go_enter Tryz.func10, Tryz.ntmps10
        go_wp2_with fail
        go_ret2
        exact ⟨rfl, Below.refl _ _⟩
      · have g2 : decide ((6 : Int) < who) = false := by simp; omega
        have eR : sendP key who = (expandB key (sendT ++ bigB who 1) 32, 0) := by unfold sendP; rw [if_pos ⟨hk, by omega, by omega⟩]
        rw [eR]
        obtain ⟨k, rfl⟩ : ∃ k : Nat, who = (k : Int) := ⟨who.toNat, by omega⟩
        have hk6 : k ≤ 6 := by omega
        have hw8 : IntKind.u8.wrap (k : Int) = (k : Int) := by rw [IntKind.wrap_u8']; omega
        have hcv : ∀ w : World, (convert 32 9 (.slice (some ⟨w.heap.size, 0, none⟩) 1 1)).run Tryz.prog (w.alloc (.cells #[.int .u8 (k : Int)] 5)) = .ok (.string (bigB (k : Int) 1)) (w.alloc (.cells #[.int .u8 (k : Int)] 5)) := fun w => conv_one (row_one w k) hk6
        obtain ⟨A, hA⟩ : ∃ A, A = bigB (k : Int) 1 := ⟨_, rfl⟩
        obtain ⟨P, hP⟩ : ∃ P, (⟨#[115, 101, 110, 100]⟩ : ByteArray) ++ A = P := ⟨_, rfl⟩
        have eP : sendT ++ A = P := hP
        rw [← hA] at hcv ⊢
        rw [eP]
        have sA : A.size = 1 := by rw [hA, bigB_size]
        have hPs : P.size ≤ 65000 := by rw [← eP, ByteArray.size_append, sA]; decide
        have hsum : ¬ (9223372036854775807 < (⟨#[115, 101, 110, 100]⟩ : ByteArray).size + A.size) := by rw [sA]; decide
        have hsum2 : ¬ (9223372036854775807 < 4 + A.size) := by rw [sA]; decide
        obtain ⟨E, hE⟩ : ∃ E, E = expandB key P 32 := ⟨_, rfl⟩
        have CE' := fun w => rexpand_ok key P 32 w (by omega) hPs (by decide)
        rw [← hE] at CE' ⊢
        have CE : Hid (∀ w, Calls Tryz.prog 25 #[.string key, .string P, .int .i64 32] w fun e w' => e = .returned (.tuple #[.string E, .int .i64 0]) ∧ Below w.heap.size w w') := CE'
        clear CE' hE eP hPs hA eR sA
        go_enter Tryz.func10, Tryz.ntmps10
        go_wp2_with fail
        refine (CE.out _).mono ?_
        rintro e w2 ⟨rfl, hb2⟩
        have hB2 := below_step (below_new w _) (Nat.le_refl _) hb2
        clear hb2
        go_wp2_with fail
        go_ret2
        exact ⟨rfl, hB2⟩
  · have g0 : ((key.size : Int) == 32) = false := by simp; omega
    have g0' : ¬ (key.size : Int) = 32 := by omega
    have eR : sendP key who = (⟨#[]⟩, 1) := by unfold sendP; rw [if_neg (fun h => hk h.1)]
    rw [eR]
    clear eR
    go_enter Tryz.func10, Tryz.ntmps10
    go_wp2_with fail
    go_ret2
    exact ⟨rfl, Below.refl _ _⟩

set_option maxHeartbeats 2000000 in
theorem rkeep_any (key : ByteArray) (w : World) :
    Calls Tryz.prog 12 #[.string key] w fun e w' => e = .returned (retP (keepP key)) ∧ Below w.heap.size w w' := by
  by_cases hk : key.size = 32
  · have eR : keepP key = (expandB key keepT 32, 0) := by unfold keepP; rw [if_pos hk]
    rw [eR]
    obtain ⟨E, hE⟩ : ∃ E, E = expandB key keepT 32 := ⟨_, rfl⟩
    have CE' := fun w => rexpand_ok key keepT 32 w (by omega) (by decide) (by decide)
    rw [← hE] at CE' ⊢
    have CE : Hid (∀ w, Calls Tryz.prog 25 #[.string key, .string ⟨#[107, 101, 101, 112]⟩, .int .i64 32] w fun e w' => e = .returned (.tuple #[.string E, .int .i64 0]) ∧ Below w.heap.size w w') := CE'
    clear CE' hE eR
    go_enter Tryz.func12, Tryz.ntmps12
    go_wp2_with fail
    refine (CE.out w).mono ?_
    rintro e w3 ⟨rfl, hb3⟩
    go_wp2_with fail
    go_ret2
    exact ⟨rfl, hb3⟩
  · have g0 : ((key.size : Int) == 32) = false := by simp; omega
    have g0' : ¬ (key.size : Int) = 32 := by omega
    have eR : keepP key = (⟨#[]⟩, 1) := by unfold keepP; rw [if_neg hk]
    rw [eR]
    clear eR
    go_enter Tryz.func12, Tryz.ntmps12
    go_wp2_with fail
    go_ret2
    exact ⟨rfl, Below.refl _ _⟩

set_option maxHeartbeats 2000000 in
theorem rfresh_any (seed : ByteArray) (n : Int) (w : World) :
    Calls Tryz.prog 18 #[.string seed, .int .i64 n] w fun e w' => e = .returned (retP (freshP seed n)) ∧ Below w.heap.size w w' := by
  by_cases hs : seed.size ≤ 64
  · have g0 : decide ((64 : Int) < (seed.size : Int)) = false := by simp; omega
    by_cases h1 : n < 1
    · have g1 : decide (n < 1) = true := by simp; omega
      have eR : freshP seed n = (⟨#[]⟩, 1) := by unfold freshP; rw [if_neg (fun h => by omega)]
      rw [eR]
      clear eR hs
      go_enter Tryz.func18, Tryz.ntmps18
      go_wp2_with fail
      go_ret2
      exact ⟨rfl, Below.refl _ _⟩
    · have g1 : decide (n < 1) = false := by simp; omega
      by_cases h6 : 1099511627775 < n
      · have g2 : decide ((1099511627775 : Int) < n) = true := by simp; omega
        have eR : freshP seed n = (⟨#[]⟩, 1) := by unfold freshP; rw [if_neg (fun h => by omega)]
        rw [eR]
        clear eR hs
        go_enter Tryz.func18, Tryz.ntmps18
        go_wp2_with fail
        go_ret2
        exact ⟨rfl, Below.refl _ _⟩
      · have g2 : decide ((1099511627775 : Int) < n) = false := by simp; omega
        have eR : freshP seed n = (expandB (macB saltT seed) (epochT ++ bigB n 6) 32, 0) := by unfold freshP; rw [if_pos ⟨hs, by omega, by omega⟩]
        rw [eR]
        obtain ⟨A, hA⟩ : ∃ A, A = bigB n 6 := ⟨_, rfl⟩
        obtain ⟨P, hP⟩ : ∃ P, (⟨#[101, 112, 111, 99, 104]⟩ : ByteArray) ++ A = P := ⟨_, rfl⟩
        have eP : epochT ++ A = P := hP
        have CO' := fun w => rnumber15 n w (by omega) (by omega)
        rw [← hA] at CO' ⊢
        rw [eP]
        have sA : A.size = 6 := by rw [hA, bigB_size]
        have hPs : P.size ≤ 65000 := by rw [← eP, ByteArray.size_append, sA]; decide
        have hsum : ¬ (9223372036854775807 < (⟨#[101, 112, 111, 99, 104]⟩ : ByteArray).size + A.size) := by rw [sA]; decide
        have hsum2 : ¬ (9223372036854775807 < 5 + A.size) := by rw [sA]; decide
        obtain ⟨E, hE⟩ : ∃ E, E = expandB (macB saltT seed) P 32 := ⟨_, rfl⟩
        have CE' := fun w => rderive_ok saltT seed P 32 w (by decide) (by omega) hPs (by decide)
        rw [← hE] at CE' ⊢
        have CO : Hid (∀ w, _) := CO'
        have CE : Hid (∀ w, Calls Tryz.prog 37 #[.string ⟨#[115, 97, 109, 112, 104, 105, 114, 101]⟩, .string seed, .string P, .int .i64 32] w fun e w' => e = .returned (.tuple #[.string E, .int .i64 0]) ∧ Below w.heap.size w w') := CE'
        clear CO' CE' hE eP hPs hA eR sA hs
        go_enter Tryz.func18, Tryz.ntmps18
        go_wp2_with fail
        refine (CO.out w).mono ?_
        rintro e w1 ⟨rfl, hb1⟩
        go_wp2_with fail
        refine (CE.out w1).mono ?_
        rintro e w2 ⟨rfl, hb2⟩
        have hB2 := below_step hb1 (Nat.le_refl _) hb2
        clear hb1 hb2
        go_wp2_with fail
        go_ret2
        exact ⟨rfl, hB2⟩
  · have g0 : decide ((64 : Int) < (seed.size : Int)) = true := by simp; omega
    have eR : freshP seed n = (⟨#[]⟩, 1) := by unfold freshP; rw [if_neg (fun h => hs h.1)]
    rw [eR]
    clear eR hs
    go_enter Tryz.func18, Tryz.ntmps18
    go_wp2_with fail
    go_ret2
    exact ⟨rfl, Below.refl _ _⟩

set_option maxHeartbeats 2000000 in
theorem rmay15 (own : ByteArray) (who epoch : Int) (w : World) (b : Bool) (h : b = decide (own.size = 32 ∧ (1 ≤ who ∧ who ≤ 6) ∧ 1 ≤ epoch ∧ epoch ≤ 1099511627775)) :
    Calls Tryz.prog 29 #[.string own, .int .i64 who, .int .i64 epoch] w fun e w' => e = .returned (.bool b) ∧ w' = w := by
  by_cases h1 : own.size = 32
  · by_cases h2 : 1 ≤ who
    · by_cases h3 : who ≤ 6
      · by_cases h4 : 1 ≤ epoch
        · by_cases h5 : epoch ≤ 1099511627775
          · obtain rfl : b = true := by rw [h]; simp [h1, h2, h3, h4, h5]
            clear h
            go_enter Tryz.func29, Tryz.ntmps29
            go_wp2
            go_ret
            exact ⟨rfl, rfl⟩
          · obtain rfl : b = false := by rw [h]; simp [h5]
            clear h
            go_enter Tryz.func29, Tryz.ntmps29
            go_wp2
            go_ret
            exact ⟨rfl, rfl⟩
        · obtain rfl : b = false := by rw [h]; simp [h4]
          clear h
          go_enter Tryz.func29, Tryz.ntmps29
          go_wp2
          go_ret
          exact ⟨rfl, rfl⟩
      · obtain rfl : b = false := by rw [h]; simp [h3]
        clear h
        go_enter Tryz.func29, Tryz.ntmps29
        go_wp2
        go_ret
        exact ⟨rfl, rfl⟩
    · obtain rfl : b = false := by rw [h]; simp [h2]
      clear h
      go_enter Tryz.func29, Tryz.ntmps29
      go_wp2
      go_ret
      exact ⟨rfl, rfl⟩
  · obtain rfl : b = false := by rw [h]; simp [h1]
    clear h
    have g0 : ((own.size : Int) == 32) = false := by simp; omega
    have g0' : ¬ (own.size : Int) = 32 := by omega
    go_enter Tryz.func29, Tryz.ntmps29
    go_wp2
    go_ret
    exact ⟨rfl, rfl⟩



set_option maxHeartbeats 2000000 in
theorem rwrap_yes (own key : ByteArray) (who epoch : Int) (w : World) (h : MayW own who epoch) (hk : key.size = 32) :
    Calls Tryz.prog 14 #[.string own, .int .i64 who, .int .i64 epoch, .string key] w fun e w' => e = .returned (.tuple #[.string (wrapB own who epoch key), .int .i64 0]) ∧ Below w.heap.size w w' := by
  have C1 : Hid (∀ w, _) := fun w => rmay15 own who epoch w true (by rw [decide_eq_true]; exact h)
  obtain ⟨U, hU⟩ : ∃ U, U = underB own := ⟨_, rfl⟩
  obtain ⟨N, hN⟩ : ∃ N, N = nonceB who epoch := ⟨_, rfl⟩
  have CE' := fun w => rexpand_ok own wrapT 32 w (by have := h.1; omega) (by decide) (by decide)
  rw [show expandB own wrapT 32 = U from hU.symm] at CE'
  have CE : Hid (∀ w, Calls Tryz.prog 25 #[.string own, .string ⟨#[119, 114, 97, 112]⟩, .int .i64 32] w fun e w' => e = .returned (.tuple #[.string U, .int .i64 0]) ∧ Below w.heap.size w w') := CE'
  have CN' := fun w => rnonce_yes who epoch w (by have := h.2; omega) (by have := h.2; omega)
  rw [← hN] at CN'
  have CN : Hid (∀ w, _) := CN'
  obtain ⟨S, hS⟩ : ∃ S, S = wrapB own who epoch key := ⟨_, rfl⟩
  have CS' := fun w => rseal_yes (underB own) (nonceB who epoch) wrapT key w (mayA_wrap own who epoch key.size (by omega))
  rw [show sealB (underB own) (nonceB who epoch) wrapT key = S from hS.symm, ← hU, ← hN] at CS'
  rw [← hS]
  have CO : Hid (∀ w, Calls Tryz.prog 31 #[.string U, .string N, .string ⟨#[119, 114, 97, 112]⟩, .string key] w fun e w' => e = .returned (.tuple #[.string S, .int .i64 0]) ∧ Below w.heap.size w w') := CS'
  clear CE' CN' CS' hU hN hS h
  go_enter Tryz.func14, Tryz.ntmps14
  go_wp2_with fail
  refine (C1.out w).mono ?_
  rintro e w0 ⟨rfl, hw0⟩
  rw [hw0]
  clear hw0 w0
  go_wp2_with fail
  refine (CE.out w).mono ?_
  rintro e w1 ⟨rfl, hb1⟩
  go_wp2_with fail
  refine (CN.out w1).mono ?_
  rintro e w2 ⟨rfl, hb2⟩
  have hB2 := below_step hb1 (Nat.le_refl _) hb2
  clear hb1 hb2
  go_wp2_with fail
  refine (CO.out w2).mono ?_
  rintro e w3 ⟨rfl, hb3⟩
  have hB3 := below_step hB2 (Nat.le_refl _) hb3
  clear hB2 hb3
  go_wp2_with fail
  go_ret2
  exact ⟨rfl, hB3⟩

set_option maxHeartbeats 2000000 in
theorem rwrap_not (own key : ByteArray) (who epoch : Int) (w : World) (h : ¬ (MayW own who epoch ∧ key.size = 32)) :
    Calls Tryz.prog 14 #[.string own, .int .i64 who, .int .i64 epoch, .string key] w fun e w' => e = .returned (.tuple #[.string ⟨#[]⟩, .int .i64 1]) ∧ Below w.heap.size w w' := by
  by_cases hm : MayW own who epoch
  · have hk : ¬ key.size = 32 := fun e => h ⟨hm, e⟩
    have C1 : Hid (∀ w, _) := fun w => rmay15 own who epoch w true (by rw [decide_eq_true]; exact hm)
    have g0 : ((key.size : Int) == 32) = false := by simp; omega
    have g0' : ¬ (key.size : Int) = 32 := by omega
    clear h hm
    go_enter Tryz.func14, Tryz.ntmps14
    go_wp2_with fail
    refine (C1.out w).mono ?_
    rintro e w0 ⟨rfl, hw0⟩
    rw [hw0]
    clear hw0 w0
    go_wp2_with fail
    go_ret2
    exact ⟨rfl, Below.refl _ _⟩
  · have C1 : Hid (∀ w, _) := fun w => rmay15 own who epoch w false (by rw [decide_eq_false]; exact hm)
    clear h hm
    go_enter Tryz.func14, Tryz.ntmps14
    go_wp2_with fail
    refine (C1.out w).mono ?_
    rintro e w0 ⟨rfl, hw0⟩
    rw [hw0]
    clear hw0 w0
    go_wp2_with fail
    go_ret2
    exact ⟨rfl, Below.refl _ _⟩

set_option maxHeartbeats 2000000 in
theorem runwrap_not (own s : ByteArray) (who epoch : Int) (w : World) (h : ¬ MayW own who epoch) :
    Calls Tryz.prog 16 #[.string own, .int .i64 who, .int .i64 epoch, .string s] w fun e w' => e = .returned (.tuple #[.string ⟨#[]⟩, .int .i64 1]) ∧ Below w.heap.size w w' := by
  have C1 : Hid (∀ w, _) := fun w => rmay15 own who epoch w false (by rw [decide_eq_false]; exact h)
  clear h
  go_enter Tryz.func16, Tryz.ntmps16
  go_wp2_with fail
  refine (C1.out w).mono ?_
  rintro e w0 ⟨rfl, hw0⟩
  rw [hw0]
  clear hw0 w0
  go_wp2_with fail
  go_ret2
  exact ⟨rfl, Below.refl _ _⟩

set_option maxHeartbeats 2000000 in
theorem runwrap_bad (own s : ByteArray) (who epoch : Int) (w : World) (h : MayW own who epoch) (hs : cutA s ≤ 32764) (ho : ¬ opensW own who epoch s) :
    Calls Tryz.prog 16 #[.string own, .int .i64 who, .int .i64 epoch, .string s] w fun e w' => e = .returned (.tuple #[.string ⟨#[]⟩, .int .i64 70]) ∧ Below w.heap.size w w' := by
  have C1 : Hid (∀ w, _) := fun w => rmay15 own who epoch w true (by rw [decide_eq_true]; exact h)
  obtain ⟨U, hU⟩ : ∃ U, U = underB own := ⟨_, rfl⟩
  obtain ⟨N, hN⟩ : ∃ N, N = nonceB who epoch := ⟨_, rfl⟩
  have CE' := fun w => rexpand_ok own wrapT 32 w (by have := h.1; omega) (by decide) (by decide)
  rw [show expandB own wrapT 32 = U from hU.symm] at CE'
  have CE : Hid (∀ w, Calls Tryz.prog 25 #[.string own, .string ⟨#[119, 114, 97, 112]⟩, .int .i64 32] w fun e w' => e = .returned (.tuple #[.string U, .int .i64 0]) ∧ Below w.heap.size w w') := CE'
  have CN' := fun w => rnonce_yes who epoch w (by have := h.2; omega) (by have := h.2; omega)
  rw [← hN] at CN'
  have CN : Hid (∀ w, _) := CN'
  have CS' : ∀ w, Calls Tryz.prog 33 #[.string (underB own), .string (nonceB who epoch), .string wrapT, .string s] w fun e w' => e = .returned (.tuple #[.string ⟨#[]⟩, .int .i64 70]) ∧ Below w.heap.size w w' := fun w => by
    rcases Nat.lt_or_ge s.size 16 with h16 | h16
    · exact ropen_short _ _ _ _ w (mayA_wrap own who epoch (cutA s) hs) h16
    · exact ropen_bad _ _ _ _ w (mayA_wrap own who epoch (cutA s) hs) h16 ho
  rw [← hU, ← hN] at CS'
  have CO : Hid (∀ w, Calls Tryz.prog 33 #[.string U, .string N, .string ⟨#[119, 114, 97, 112]⟩, .string s] w fun e w' => e = .returned (.tuple #[.string ⟨#[]⟩, .int .i64 70]) ∧ Below w.heap.size w w') := CS'
  clear CE' CN' CS' hU hN h hs ho
  go_enter Tryz.func16, Tryz.ntmps16
  go_wp2_with fail
  refine (C1.out w).mono ?_
  rintro e w0 ⟨rfl, hw0⟩
  rw [hw0]
  clear hw0 w0
  go_wp2_with fail
  refine (CE.out w).mono ?_
  rintro e w1 ⟨rfl, hb1⟩
  go_wp2_with fail
  refine (CN.out w1).mono ?_
  rintro e w2 ⟨rfl, hb2⟩
  have hB2 := below_step hb1 (Nat.le_refl _) hb2
  clear hb1 hb2
  go_wp2_with fail
  refine (CO.out w2).mono ?_
  rintro e w3 ⟨rfl, hb3⟩
  have hB3 := below_step hB2 (Nat.le_refl _) hb3
  clear hB2 hb3
  go_wp2_with fail
  go_ret2
  exact ⟨rfl, hB3⟩


set_option maxHeartbeats 2000000 in
theorem runwrap_yes (own s : ByteArray) (who epoch : Int) (w : World) (h : MayW own who epoch) (hs : cutA s ≤ 32764) (ho : opensW own who epoch s) (hk : (textW own who epoch s).size = 32) :
    Calls Tryz.prog 16 #[.string own, .int .i64 who, .int .i64 epoch, .string s] w fun e w' => e = .returned (.tuple #[.string (textW own who epoch s), .int .i64 0]) ∧ Below w.heap.size w w' := by
  have C1 : Hid (∀ w, _) := fun w => rmay15 own who epoch w true (by rw [decide_eq_true]; exact h)
  obtain ⟨U, hU⟩ : ∃ U, U = underB own := ⟨_, rfl⟩
  obtain ⟨N, hN⟩ : ∃ N, N = nonceB who epoch := ⟨_, rfl⟩
  have CE' := fun w => rexpand_ok own wrapT 32 w (by have := h.1; omega) (by decide) (by decide)
  rw [show expandB own wrapT 32 = U from hU.symm] at CE'
  have CE : Hid (∀ w, Calls Tryz.prog 25 #[.string own, .string ⟨#[119, 114, 97, 112]⟩, .int .i64 32] w fun e w' => e = .returned (.tuple #[.string U, .int .i64 0]) ∧ Below w.heap.size w w') := CE'
  have CN' := fun w => rnonce_yes who epoch w (by have := h.2; omega) (by have := h.2; omega)
  rw [← hN] at CN'
  have CN : Hid (∀ w, _) := CN'
  obtain ⟨T, hTx⟩ : ∃ T, T = textW own who epoch s := ⟨_, rfl⟩
  have CS' := fun w => ropen_yes (underB own) (nonceB who epoch) wrapT s w (mayA_wrap own who epoch (cutA s) hs) ho
  rw [show streamB (underB own) (nonceB who epoch) 1 (s.extract 0 (cutA s)) = T from hTx.symm, ← hU, ← hN] at CS'
  have CO : Hid (∀ w, Calls Tryz.prog 33 #[.string U, .string N, .string ⟨#[119, 114, 97, 112]⟩, .string s] w fun e w' => e = .returned (.tuple #[.string T, .int .i64 0]) ∧ Below w.heap.size w w') := CS'
  rw [← hTx] at hk
  rw [← hTx]
  clear CE' CN' CS' hU hN h hs ho hTx
  go_enter Tryz.func16, Tryz.ntmps16
  go_wp2_with fail
  refine (C1.out w).mono ?_
  rintro e w0 ⟨rfl, hw0⟩
  rw [hw0]
  clear hw0 w0
  go_wp2_with fail
  refine (CE.out w).mono ?_
  rintro e w1 ⟨rfl, hb1⟩
  go_wp2_with fail
  refine (CN.out w1).mono ?_
  rintro e w2 ⟨rfl, hb2⟩
  have hB2 := below_step hb1 (Nat.le_refl _) hb2
  clear hb1 hb2
  go_wp2_with fail
  refine (CO.out w2).mono ?_
  rintro e w3 ⟨rfl, hb3⟩
  have hB3 := below_step hB2 (Nat.le_refl _) hb3
  clear hB2 hb3
  go_wp2_with fail
  go_ret2
  exact ⟨rfl, hB3⟩

set_option maxHeartbeats 2000000 in
theorem runwrap_odd (own s : ByteArray) (who epoch : Int) (w : World) (h : MayW own who epoch) (hs : cutA s ≤ 32764) (ho : opensW own who epoch s) (hk : ¬ (textW own who epoch s).size = 32) :
    Calls Tryz.prog 16 #[.string own, .int .i64 who, .int .i64 epoch, .string s] w fun e w' => e = .returned (.tuple #[.string ⟨#[]⟩, .int .i64 70]) ∧ Below w.heap.size w w' := by
  have C1 : Hid (∀ w, _) := fun w => rmay15 own who epoch w true (by rw [decide_eq_true]; exact h)
  obtain ⟨U, hU⟩ : ∃ U, U = underB own := ⟨_, rfl⟩
  obtain ⟨N, hN⟩ : ∃ N, N = nonceB who epoch := ⟨_, rfl⟩
  have CE' := fun w => rexpand_ok own wrapT 32 w (by have := h.1; omega) (by decide) (by decide)
  rw [show expandB own wrapT 32 = U from hU.symm] at CE'
  have CE : Hid (∀ w, Calls Tryz.prog 25 #[.string own, .string ⟨#[119, 114, 97, 112]⟩, .int .i64 32] w fun e w' => e = .returned (.tuple #[.string U, .int .i64 0]) ∧ Below w.heap.size w w') := CE'
  have CN' := fun w => rnonce_yes who epoch w (by have := h.2; omega) (by have := h.2; omega)
  rw [← hN] at CN'
  have CN : Hid (∀ w, _) := CN'
  obtain ⟨T, hTx⟩ : ∃ T, T = textW own who epoch s := ⟨_, rfl⟩
  have CS' := fun w => ropen_yes (underB own) (nonceB who epoch) wrapT s w (mayA_wrap own who epoch (cutA s) hs) ho
  rw [show streamB (underB own) (nonceB who epoch) 1 (s.extract 0 (cutA s)) = T from hTx.symm, ← hU, ← hN] at CS'
  have CO : Hid (∀ w, Calls Tryz.prog 33 #[.string U, .string N, .string ⟨#[119, 114, 97, 112]⟩, .string s] w fun e w' => e = .returned (.tuple #[.string T, .int .i64 0]) ∧ Below w.heap.size w w') := CS'
  rw [← hTx] at hk
  have g0 : ((T.size : Int) == 32) = false := by simp; omega
  have g0' : ¬ (T.size : Int) = 32 := by omega
  clear CE' CN' CS' hU hN h hs ho hTx
  go_enter Tryz.func16, Tryz.ntmps16
  go_wp2_with fail
  refine (C1.out w).mono ?_
  rintro e w0 ⟨rfl, hw0⟩
  rw [hw0]
  clear hw0 w0
  go_wp2_with fail
  refine (CE.out w).mono ?_
  rintro e w1 ⟨rfl, hb1⟩
  go_wp2_with fail
  refine (CN.out w1).mono ?_
  rintro e w2 ⟨rfl, hb2⟩
  have hB2 := below_step hb1 (Nat.le_refl _) hb2
  clear hb1 hb2
  go_wp2_with fail
  refine (CO.out w2).mono ?_
  rintro e w3 ⟨rfl, hb3⟩
  have hB3 := below_step hB2 (Nat.le_refl _) hb3
  clear hB2 hb3
  go_wp2_with fail
  go_ret2
  exact ⟨rfl, hB3⟩
end Go.Proofs.YthfhhfpgmecjcaaGreatDoor
