/- The program's Mac. -/
import Derived.Test.YtmegllddjlippaaDoorPyH
namespace Go.Proofs.YtmegllddjlippaaDoor
open Go.RowKit
set_option linter.unusedSimpArgs false

set_option maxRecDepth 100000 in
set_option maxHeartbeats 8000000 in
theorem mac_yes (key s : ByteArray) (w : World) (hk : key.size = 32) (hs : s.size ≤ 65536) (hY : GlobY w) :
    Calls Tryd.prog 9 #[.string key, .string s] w fun e w' => e = .returned (.tuple #[.string (tagB key s), .int .i64 0]) ∧ Below w.heap.size w w' := by
  have g0 : (((key.size : Int) != 32)) = false := by rw [bne_eq_false_iff_eq]; omega
  have g1 : decide ((65536 : Int) < (s.size : Int)) = false := by simp; omega
  obtain ⟨K1, hK1⟩ : ∃ K, key.extract 0 16 = K := ⟨_, rfl⟩
  obtain ⟨K2, hK2⟩ : ∃ K, key.extract 16 32 = K := ⟨_, rfl⟩
  have hK1s : K1.size = 16 := by rw [← hK1, ByteArray.size_extract, hk]; rfl
  have hK2s : K2.size = 16 := by rw [← hK2, ByteArray.size_extract, hk]; rfl
  obtain ⟨r, Hr⟩ : ∃ r, Hid (r = clampN key) := ⟨_, rfl⟩
  obtain ⟨q, Hq⟩ : ∃ q, Hid (q = valF (fun j => bt key (16 + j)) 16) := ⟨_, rfl⟩
  obtain ⟨C1, HC1⟩ : ∃ C, Hid (C = clampB K1) := ⟨_, rfl⟩
  have hC1s : C1.size = 16 := by rw [HC1.out]; exact clampB_size _
  have HrC : Hid (Clamped r) := by show Clamped r; rw [Hr.out]; exact clamped_N key
  have Hq16 : Hid (q < 256 ^ 16) := by show _ < _; rw [Hq.out]; exact valF_lt _ _ (fun i _ => bt_lt key _)
  have CC' := fun w hY => clamp_yes K1 w hK1s hY
  rw [← HC1.out] at CC'
  have CC : Hid (∀ w, GlobY w → _) := CC'
  have R1' := fun w => read_any C1 w (by omega)
  have e1 : numB C1 = r := by rw [HC1.out, Hr.out, ← hK1]; exact half_num key hk
  rw [e1] at R1'
  have CR1 : Hid (∀ w, _) := R1'
  have R2' := fun w => read_any K2 w (by omega)
  have e2 : numB K2 = q := by rw [Hq.out, ← hK2]; exact second_num key hk
  rw [e2] at R2'
  have CR2 : Hid (∀ w, _) := R2'
  have HT : Hid (∀ A, A < 2 ^ 130 + 2 ^ 34 → A % pN = accN s r ((s.size + 15) / 16) → lowB (A + 5 * ((A + 5) / 2 ^ 130) + q) = tagB key s) := by
    show ∀ A, _
    rw [Hr.out, Hq.out]; exact fun A => tag_low key s A
  obtain ⟨E, HE⟩ : ∃ E, Hid (E = tagB key s) := ⟨_, rfl⟩
  rw [← HE.out] at HT
  rw [← HE.out]
  have HY : Hid (GlobY w) := hY
  clear CC' R1' R2' e1 e2 HE HC1 Hr Hq hY hK1s hK2s hC1s
  go_enter Tryd.func9, Tryd.ntmps9
  go_wp2_with fail
  refine (CC.out _ HY.out).mono ?_
  rintro e w1 ⟨rfl, hb1⟩
  clear CC
  go_wp2_with fail
  refine (CR1.out _).mono ?_
  rintro e w2 ⟨rfl, hb2⟩
  have hB2 := below_step hb1 (Nat.le_refl _) hb2
  clear CR1 hb1 hb2
  have hrl : (limN r).length = 5 := limN_length r
  obtain ⟨LR, HLR⟩ : ∃ l, Hid (l = limN r) := ⟨_, rfl⟩
  rw [← HLR.out] at hrl ⊢
  go_wp2_with (with_reducible refine wpList_storeLimH rfl _ _ rfl w2.heap.size (List.replicate 5 0) LR ?hx ?hy ?ha rfl hrl ?_)
  case hx => rfl
  case hy => rfl
  case ha => exact Lim.new w2 (List.replicate 5 0) _ rfl
  unfold Hid
  rw [World.setRow_alloc_new]
  have hB3 : Below w.heap.size w (w2.alloc (.cells (v64 LR) 35)) := hB2.alloc hB2.size _
  have A0 : Hid (Lim (w2.alloc (.cells (v64 LR) 35)) w2.heap.size LR) := Lim.new w2 LR _ rfl
  have hg : w.heap.size ≤ w2.heap.size := hB2.size
  clear hB2
  generalize w2.alloc _ = w3 at *
  generalize w2.heap.size = gr at *
  have hg3 := A0.out.lt
  go_wp2_with fail
  obtain ⟨n, Hn⟩ : ∃ n, Hid (n = (s.size + 15) / 16) := ⟨_, rfl⟩
  have hn : ((s.size : Int) + 16 - 1) / 16 = (n : Int) := by rw [Hn.out]; omega
  rw [← Hn.out] at HT
  rw [hn]
  have N0 : Hid (Lim (w3.alloc (.cells (v64 (limN 0)) 35)) gr LR) := A0.out.alloc _
  have N1 : Hid (Lim (w3.alloc (.cells (v64 (limN 0)) 35)) w3.heap.size (limN 0)) := Lim.new w3 _ _ rfl
  have NB : Below w.heap.size w (w3.alloc (.cells (v64 (limN 0)) 35)) := hB3.alloc hB3.size _
  have hg4 : w.heap.size ≤ w3.heap.size := hB3.size
  clear A0 hB3
  generalize w3.heap.size = ga at *
  go_loopw [33] (fun i wr => ∃ k A : Nat, k ≤ n ∧ i = .int .i64 k ∧ Hid (A < 2 ^ 130 + 2 ^ 34) ∧ Hid (A % pN = accN s r k) ∧ Hid (Lim wr gr LR) ∧ Hid (Lim wr ga (limN A)) ∧ Below w.heap.size w wr) (fun i _ => n - (intOf i).toNat)
  case atStart => exact ⟨0, 0, Nat.zero_le _, rfl, by show 0 < _; decide, by show 0 % pN = 0; exact Nat.zero_mod _, N0, N1, NB⟩
  case round =>
    clear N0 N1 NB
    obtain ⟨k, A, hkn, rfl, HAl, HAm, HR, HA, hbl⟩ := hrel
    by_cases hlt : k < n
    · have hk1 : k * 16 < s.size := by have := Hn.out; omega
      have b0 : (k : Int) < (n : Int) := by omega
      by_cases hfull : (k + 1) * 16 ≤ s.size
      · have m0 : ((k : Int) + 1) * 16 ≤ (s.size : Int) := by omega
        obtain ⟨B, hBx⟩ : ∃ B, s.extract (k * 16) ((k + 1) * 16) = B := ⟨_, rfl⟩
        obtain ⟨C, hC⟩ : ∃ C, B ++ ⟨#[1]⟩ = C := ⟨_, rfl⟩
        have hBn : numB C = chunkN s k := by
          rw [← hC, ← hBx, Nat.mul_comm k 16]
          exact block_num s k _ (by unfold cutLen; omega) (by omega)
        have hBs : B.size ≤ 16 := by rw [← hBx, ByteArray.size_extract]; omega
        have hCs : C.size ≤ 20 := by rw [← hC, ByteArray.size_append]; show B.size + 1 ≤ 20; omega
        have hsum : ¬ (9223372036854775807 < B.size + 1) := by omega
        obtain ⟨N, HN⟩ : ∃ N, Hid (N = chunkN s k) := ⟨_, rfl⟩
        have hNl : N < 2 * 256 ^ 16 := by rw [HN.out]; exact chunkN_lt s k
        have CR' := fun w => read_any C w hCs
        rw [hBn, ← HN.out] at CR'
        obtain ⟨LN, HLN⟩ : ∃ l, Hid (l = limN N) := ⟨_, rfl⟩
        rw [← HLN.out] at CR'
        have CR : Hid (∀ w, _) := CR'
        have CP' := fun w => plus_num A N w (Nat.lt_trans HAl.out (by decide)) (Nat.lt_trans hNl (by decide))
        obtain ⟨LS, HLS⟩ : ∃ l, Hid (l = limN (A + N)) := ⟨_, rfl⟩
        obtain ⟨LA, HLA⟩ : ∃ l, Hid (l = limN A) := ⟨_, rfl⟩
        rw [← HLN.out, ← HLS.out, ← HLA.out] at CP'
        have CP : Hid (∀ w, _) := CP'
        obtain ⟨hS1, hS4⟩ := sum_lims A N HAl.out hNl
        have CT' := fun w => times_any (A + N) r w hS1 hS4 HrC.out
        obtain ⟨A', HA'⟩ : ∃ A', Hid (A' = stepR (val5 (prodL (A + N) r))) := ⟨_, rfl⟩
        obtain ⟨LT, HLT⟩ : ∃ l, Hid (l = limN A') := ⟨_, rfl⟩
        rw [← HA'.out, ← HLS.out, ← HLR.out, ← HLT.out] at CT'
        have CT : Hid (∀ w, _) := CT'
        have hAl' : Hid (A' < 2 ^ 130 + 2 ^ 34) := by show _ < _; rw [HA'.out]; exact stepR_small _ (prod_lt _ _ hS1 hS4 HrC.out)
        have hAm' : Hid (A' % pN = accN s r (k + 1)) := by show _ = _; rw [HA'.out, stepR_mod, prod_mod _ _ HrC.out, accN_succ, acc_step A N r _ HAm.out, HN.out]
        have hLAl : LA.length = 5 := by rw [HLA.out]; exact limN_length _
        have hLTl : LT.length = 5 := by rw [HLT.out]; exact limN_length _
        rw [← HLA.out] at HA
        clear CR' CP' CT' hBn hNl hS1 hS4 HA' HLN HLS HN
        go_wp2_with fail
        refine wp_region_noPanic ?_
        refine till_begin 7 (fun w' => Lim w' ga LA ∧ Lim w' gr LR) (fun _ => True) (by kernel_rfl) ?_
        have hT : True := trivial
        have hS : Lim wr.drew ga LA ∧ Lim wr.drew gr LR := ⟨HA.out, HR.out⟩
        refine till_take' (i := 0) (v := .agg (v64 LA)) rfl rfl (by kernel_rfl) (by kernel_rfl) (by kernel_rfl) rfl (by kernel_rfl) (by kernel_rfl) (fun _ _ _ h => h) (Or.inl ⟨by rfl, ?_⟩) trivial (by assumption) ?_
        · intro w' hSw
          exact exec_loadLim _ rfl ga LA rfl hSw.2.1 hLAl
        try simp only [Act.put, List.setIfInBounds_toArray, List.set_cons_zero, List.set_cons_succ]
        refine till_take' (i := 5) (v := .agg (v64 LR)) rfl rfl (by kernel_rfl) (by kernel_rfl) (by kernel_rfl) rfl (by kernel_rfl) (by kernel_rfl) (fun _ _ _ h => h) (Or.inl ⟨by rfl, ?_⟩) trivial (by assumption) ?_
        · intro w' hSw
          exact exec_loadLim _ rfl gr LR rfl hSw.2.2 hrl
        try simp only [Act.put, List.setIfInBounds_toArray, List.set_cons_zero, List.set_cons_succ]
        refine till_take (i := 1) (v := ?_) rfl rfl (by kernel_rfl) (by kernel_rfl) (by kernel_rfl) rfl (fun _ _ _ h => h) (Or.inl ⟨by rfl, ?_⟩) (by assumption) (fun _ => by assumption) ?_
        rotate_left
        · intro w hSw; (try dsimp only at hSw); go_simp; try with_reducible rfl
        try simp only [Act.put, List.setIfInBounds_toArray, List.set_cons_zero, List.set_cons_succ]
        refine till_take (i := 2) (v := ?_) rfl rfl (by kernel_rfl) (by kernel_rfl) (by kernel_rfl) rfl (fun _ _ _ h => h) (Or.inl ⟨by rfl, ?_⟩) (by assumption) (fun _ => by assumption) ?_
        rotate_left
        · intro w hSw; (try dsimp only at hSw); go_simp; try with_reducible rfl
        try simp only [Act.put, List.setIfInBounds_toArray, List.set_cons_zero, List.set_cons_succ]
        refine till_step (i := 3) (by kernel_rfl) rfl (fun K hK => ?_)
        go_simp
        refine (CR.out _).mono ?_
        rintro e w4 ⟨rfl, hb4⟩
        have hS4 : Lim w4 ga LA ∧ Lim w4 gr LR := ⟨hS.1.on hb4, hS.2.on hb4⟩
        have hB4 := below_step hbl.drew (by have := hbl.size; omega) hb4
        clear CR hb4 hS
        refine hK.out _ _ trivial (fun _ => hS4) ?_
        clear hK K
        refine till_step (i := 4) (by kernel_rfl) rfl (fun K hK => ?_)
        go_simp
        refine (CP.out _).mono ?_
        rintro e w5 ⟨rfl, hb5⟩
        have hS5 : Lim w5 ga LA ∧ Lim w5 gr LR := ⟨hS4.1.on hb5, hS4.2.on hb5⟩
        have hB5 := below_step hB4 (Nat.le_refl _) hb5
        clear CP hb5 hS4 hB4
        refine hK.out _ _ trivial (fun _ => hS5) ?_
        clear hK K
        refine till_step (i := 6) (by kernel_rfl) rfl (fun K hK => ?_)
        go_simp
        refine (CT.out _).mono ?_
        rintro e w6 ⟨rfl, hb6⟩
        have hS6 : Lim w6 ga LA ∧ Lim w6 gr LR := ⟨hS5.1.on hb6, hS5.2.on hb6⟩
        have hB6 := below_step hB5 (Nat.le_refl _) hb6
        clear CT hb6 hS5 hB5
        refine hK.out _ _ trivial (fun _ => hS6) ?_
        clear hK K
        refine till_step (i := 7) (by kernel_rfl) rfl (fun K hK => ?_)
        refine step_storeLim rfl rfl _ _ rfl ga LA LT rfl rfl hS6.1 hLAl hLTl ?_
        refine hK.out _ _ (trivial) (fun h => till_no (by kernel_rfl) h) ?_
        clear hK K
        refine till_done (by kernel_rfl) (NoPanic.normal ?_) _
        have NA : Hid (Lim (w6.setRow ga (v64 LT)) ga (limN A')) := by rw [← HLT.out]; exact hS6.1.setRow LT
        have NR : Hid (Lim (w6.setRow ga (v64 LT)) gr LR) := hS6.2.setRowOther _ (by omega) _
        have NB := below_setRow hB6 hg4 (v64 LT)
        clear hS6 hB6 HA HR hbl
        go_wp2
        go_roundw
        case rel => exact ⟨k + 1, A', by omega, by go_num, hAl', hAm', NR, NA, NB⟩
        case measure => simp [intOf]; omega
      · have m0 : ¬ ((k : Int) + 1) * 16 ≤ (s.size : Int) := by omega
        obtain ⟨B, hBx⟩ : ∃ B, s.extract (k * 16) s.size = B := ⟨_, rfl⟩
        obtain ⟨C, hC⟩ : ∃ C, B ++ ⟨#[1]⟩ = C := ⟨_, rfl⟩
        have hBn : numB C = chunkN s k := by
          rw [← hC, ← hBx, Nat.mul_comm k 16]
          exact block_num s k _ (by unfold cutLen; omega) (by omega)
        have hBs : B.size ≤ 16 := by rw [← hBx, ByteArray.size_extract]; omega
        have hCs : C.size ≤ 20 := by rw [← hC, ByteArray.size_append]; show B.size + 1 ≤ 20; omega
        have hsum : ¬ (9223372036854775807 < B.size + 1) := by omega
        obtain ⟨N, HN⟩ : ∃ N, Hid (N = chunkN s k) := ⟨_, rfl⟩
        have hNl : N < 2 * 256 ^ 16 := by rw [HN.out]; exact chunkN_lt s k
        have CR' := fun w => read_any C w hCs
        rw [hBn, ← HN.out] at CR'
        obtain ⟨LN, HLN⟩ : ∃ l, Hid (l = limN N) := ⟨_, rfl⟩
        rw [← HLN.out] at CR'
        have CR : Hid (∀ w, _) := CR'
        have CP' := fun w => plus_num A N w (Nat.lt_trans HAl.out (by decide)) (Nat.lt_trans hNl (by decide))
        obtain ⟨LS, HLS⟩ : ∃ l, Hid (l = limN (A + N)) := ⟨_, rfl⟩
        obtain ⟨LA, HLA⟩ : ∃ l, Hid (l = limN A) := ⟨_, rfl⟩
        rw [← HLN.out, ← HLS.out, ← HLA.out] at CP'
        have CP : Hid (∀ w, _) := CP'
        obtain ⟨hS1, hS4⟩ := sum_lims A N HAl.out hNl
        have CT' := fun w => times_any (A + N) r w hS1 hS4 HrC.out
        obtain ⟨A', HA'⟩ : ∃ A', Hid (A' = stepR (val5 (prodL (A + N) r))) := ⟨_, rfl⟩
        obtain ⟨LT, HLT⟩ : ∃ l, Hid (l = limN A') := ⟨_, rfl⟩
        rw [← HA'.out, ← HLS.out, ← HLR.out, ← HLT.out] at CT'
        have CT : Hid (∀ w, _) := CT'
        have hAl' : Hid (A' < 2 ^ 130 + 2 ^ 34) := by show _ < _; rw [HA'.out]; exact stepR_small _ (prod_lt _ _ hS1 hS4 HrC.out)
        have hAm' : Hid (A' % pN = accN s r (k + 1)) := by show _ = _; rw [HA'.out, stepR_mod, prod_mod _ _ HrC.out, accN_succ, acc_step A N r _ HAm.out, HN.out]
        have hLAl : LA.length = 5 := by rw [HLA.out]; exact limN_length _
        have hLTl : LT.length = 5 := by rw [HLT.out]; exact limN_length _
        rw [← HLA.out] at HA
        clear CR' CP' CT' hBn hNl hS1 hS4 HA' HLN HLS HN
        go_wp2_with fail
        refine wp_region_noPanic ?_
        refine till_begin 7 (fun w' => Lim w' ga LA ∧ Lim w' gr LR) (fun _ => True) (by kernel_rfl) ?_
        have hT : True := trivial
        have hS : Lim wr.drew ga LA ∧ Lim wr.drew gr LR := ⟨HA.out, HR.out⟩
        refine till_take' (i := 0) (v := .agg (v64 LA)) rfl rfl (by kernel_rfl) (by kernel_rfl) (by kernel_rfl) rfl (by kernel_rfl) (by kernel_rfl) (fun _ _ _ h => h) (Or.inl ⟨by rfl, ?_⟩) trivial (by assumption) ?_
        · intro w' hSw
          exact exec_loadLim _ rfl ga LA rfl hSw.2.1 hLAl
        try simp only [Act.put, List.setIfInBounds_toArray, List.set_cons_zero, List.set_cons_succ]
        refine till_take' (i := 5) (v := .agg (v64 LR)) rfl rfl (by kernel_rfl) (by kernel_rfl) (by kernel_rfl) rfl (by kernel_rfl) (by kernel_rfl) (fun _ _ _ h => h) (Or.inl ⟨by rfl, ?_⟩) trivial (by assumption) ?_
        · intro w' hSw
          exact exec_loadLim _ rfl gr LR rfl hSw.2.2 hrl
        try simp only [Act.put, List.setIfInBounds_toArray, List.set_cons_zero, List.set_cons_succ]
        refine till_take (i := 1) (v := ?_) rfl rfl (by kernel_rfl) (by kernel_rfl) (by kernel_rfl) rfl (fun _ _ _ h => h) (Or.inl ⟨by rfl, ?_⟩) (by assumption) (fun _ => by assumption) ?_
        rotate_left
        · intro w hSw; (try dsimp only at hSw); go_simp; try with_reducible rfl
        try simp only [Act.put, List.setIfInBounds_toArray, List.set_cons_zero, List.set_cons_succ]
        refine till_take (i := 2) (v := ?_) rfl rfl (by kernel_rfl) (by kernel_rfl) (by kernel_rfl) rfl (fun _ _ _ h => h) (Or.inl ⟨by rfl, ?_⟩) (by assumption) (fun _ => by assumption) ?_
        rotate_left
        · intro w hSw; (try dsimp only at hSw); go_simp; try with_reducible rfl
        try simp only [Act.put, List.setIfInBounds_toArray, List.set_cons_zero, List.set_cons_succ]
        refine till_step (i := 3) (by kernel_rfl) rfl (fun K hK => ?_)
        go_simp
        refine (CR.out _).mono ?_
        rintro e w4 ⟨rfl, hb4⟩
        have hS4 : Lim w4 ga LA ∧ Lim w4 gr LR := ⟨hS.1.on hb4, hS.2.on hb4⟩
        have hB4 := below_step hbl.drew (by have := hbl.size; omega) hb4
        clear CR hb4 hS
        refine hK.out _ _ trivial (fun _ => hS4) ?_
        clear hK K
        refine till_step (i := 4) (by kernel_rfl) rfl (fun K hK => ?_)
        go_simp
        refine (CP.out _).mono ?_
        rintro e w5 ⟨rfl, hb5⟩
        have hS5 : Lim w5 ga LA ∧ Lim w5 gr LR := ⟨hS4.1.on hb5, hS4.2.on hb5⟩
        have hB5 := below_step hB4 (Nat.le_refl _) hb5
        clear CP hb5 hS4 hB4
        refine hK.out _ _ trivial (fun _ => hS5) ?_
        clear hK K
        refine till_step (i := 6) (by kernel_rfl) rfl (fun K hK => ?_)
        go_simp
        refine (CT.out _).mono ?_
        rintro e w6 ⟨rfl, hb6⟩
        have hS6 : Lim w6 ga LA ∧ Lim w6 gr LR := ⟨hS5.1.on hb6, hS5.2.on hb6⟩
        have hB6 := below_step hB5 (Nat.le_refl _) hb6
        clear CT hb6 hS5 hB5
        refine hK.out _ _ trivial (fun _ => hS6) ?_
        clear hK K
        refine till_step (i := 7) (by kernel_rfl) rfl (fun K hK => ?_)
        refine step_storeLim rfl rfl _ _ rfl ga LA LT rfl rfl hS6.1 hLAl hLTl ?_
        refine hK.out _ _ (trivial) (fun h => till_no (by kernel_rfl) h) ?_
        clear hK K
        refine till_done (by kernel_rfl) (NoPanic.normal ?_) _
        have NA : Hid (Lim (w6.setRow ga (v64 LT)) ga (limN A')) := by rw [← HLT.out]; exact hS6.1.setRow LT
        have NR : Hid (Lim (w6.setRow ga (v64 LT)) gr LR) := hS6.2.setRowOther _ (by omega) _
        have NB := below_setRow hB6 hg4 (v64 LT)
        clear hS6 hB6 HA HR hbl
        go_wp2
        go_roundw
        case rel => exact ⟨k + 1, A', by omega, by go_num, hAl', hAm', NR, NA, NB⟩
        case measure => simp [intOf]; omega
    · have hkn' : k = n := by omega
      subst hkn'
      have b0 : ¬ ((k : Int) < (k : Int)) := by omega
      obtain ⟨LA, HLA⟩ : ∃ l, Hid (l = limN A) := ⟨_, rfl⟩
      have hLAl : LA.length = 5 := by rw [HLA.out]; exact limN_length _
      rw [← HLA.out] at HA
      obtain ⟨T, hTv⟩ : ∃ T, T = A + 5 * ((A + 5) / 2 ^ 130) := ⟨_, rfl⟩
      have HTv : Hid (T = A + 5 * ((A + 5) / 2 ^ 130)) := hTv
      clear hTv
      have hTl : T < 2 ^ 190 := by
        have h := HAl.out
        rw [HTv.out]
        omega
      have CS' := fun w => rest_any A w HAl.out
      obtain ⟨LT, HLT⟩ : ∃ l, Hid (l = limN T) := ⟨_, rfl⟩
      obtain ⟨LQ, HLQ⟩ : ∃ l, Hid (l = limN q) := ⟨_, rfl⟩
      obtain ⟨LU, HLU⟩ : ∃ l, Hid (l = limN (T + q)) := ⟨_, rfl⟩
      rw [← HTv.out, ← HLT.out, ← HLA.out] at CS'
      have CS : Hid (∀ w, _) := CS'
      have CP' := fun w => plus_num T q w hTl (Nat.lt_trans Hq16.out (by decide))
      rw [← HLT.out, ← HLQ.out, ← HLU.out] at CP'
      have CP : Hid (∀ w, _) := CP'
      have CU' := fun w => put_any (T + q) w
      have e3 : lowB (T + q) = E := by rw [HTv.out]; exact HT.out A HAl.out HAm.out
      rw [← HLU.out, e3] at CU'
      have CU : Hid (∀ w, _) := CU'
      rw [← HLQ.out] at CR2
      clear CS' CP' CU' e3 HTv HLT HLQ HLU HLA HT hTl Hq16 HAl HAm Hn
      go_wp2_with fail
      refine wp_region_noPanic ?_
      refine wp_region_held_drew (S := fun w' => Lim w' ga LA) (by kernel_rfl) (by first | exact trivial | assumption | exact ⟨by assumption, by assumption⟩) (fun hHeld => ?_)
      refine take_at (i := 0) (v := .agg (v64 LA)) rfl rfl (by kernel_rfl) (by kernel_rfl) (by kernel_rfl) (fun _ _ _ h => h) (Or.inl ⟨by rfl, ?_⟩) (by assumption) ?_
      · intro w' hSw
        exact exec_loadLim _ rfl ga LA rfl hSw hLAl
      try simp only [Act.put, List.setIfInBounds_toArray, List.set_cons_zero, List.set_cons_succ]
      refine take_at (i := 2) (v := ?_) rfl rfl (by kernel_rfl) (by kernel_rfl) (by kernel_rfl) (fun _ _ _ h => h) (Or.inl ⟨by rfl, ?_⟩) (by assumption) ?_
      rotate_left
      · intro w hSw; (try dsimp only at hSw); go_simp; try with_reducible rfl
      try simp only [Act.put, List.setIfInBounds_toArray, List.set_cons_zero, List.set_cons_succ]
      refine take_at (i := 3) (v := ?_) rfl rfl (by kernel_rfl) (by kernel_rfl) (by kernel_rfl) (fun _ _ _ h => h) (Or.inl ⟨by rfl, ?_⟩) (by assumption) ?_
      rotate_left
      · intro w hSw; (try dsimp only at hSw); go_simp; try with_reducible rfl
      try simp only [Act.put, List.setIfInBounds_toArray, List.set_cons_zero, List.set_cons_succ]
      have hS : Lim wr.drew ga LA := HA.out
      refine wpAnyH_ready (rs := [1]) (by kernel_rfl) (by simp) ?_
      refine AllReadyH.cons rfl (fun K hK => ?_) AllReadyH.nil
      go_simp
      refine (CS.out _).mono ?_
      rintro e w4 ⟨rfl, hb4⟩
      have hS4 : Lim w4 ga LA := hS.on hb4
      have hB4 := below_step hbl.drew (by have := hbl.size; omega) hb4
      clear CS hb4 hS
      refine hK.out _ _ hS4 (fun hHeld => ?_)
      clear hK K
      refine wpAnyH_ready (rs := [4]) (by kernel_rfl) (by simp) ?_
      refine AllReadyH.cons rfl (fun K hK => ?_) AllReadyH.nil
      go_simp
      refine (CR2.out _).mono ?_
      rintro e w5 ⟨rfl, hb5⟩
      have hS5 : Lim w5 ga LA := hS4.on hb5
      have hB5 := below_step hB4 (Nat.le_refl _) hb5
      clear CR2 hb5 hS4 hB4
      refine hK.out _ _ hS5 (fun hHeld => ?_)
      clear hK K
      refine wpAnyH_ready (rs := [5]) (by kernel_rfl) (by simp) ?_
      refine AllReadyH.cons rfl (fun K hK => ?_) AllReadyH.nil
      go_simp
      refine (CP.out _).mono ?_
      rintro e w6 ⟨rfl, hb6⟩
      have hS6 : Lim w6 ga LA := hS5.on hb6
      have hB6 := below_step hB5 (Nat.le_refl _) hb6
      clear CP hb6 hS5 hB5
      refine hK.out _ _ hS6 (fun hHeld => ?_)
      clear hK K
      refine wpAnyH_ready (rs := [6]) (by kernel_rfl) (by simp) ?_
      refine AllReadyH.cons rfl (fun K hK => ?_) AllReadyH.nil
      go_simp
      refine (CU.out _).mono ?_
      rintro e w7 ⟨rfl, hb7⟩
      have hS7 : Lim w7 ga LA := hS6.on hb7
      have hB7 := below_step hB6 (Nat.le_refl _) hb7
      clear CU hb7 hS6 hB6
      refine hK.out _ _ hS7 (fun hHeld => ?_)
      clear hK K
      refine take_at (i := 7) (v := ?_) rfl rfl (by kernel_rfl) (by kernel_rfl) (by kernel_rfl) (fun _ _ _ h => h) (Or.inl ⟨by rfl, ?_⟩) (by assumption) ?_
      rotate_left
      · intro w hSw; (try dsimp only at hSw); go_simp; try with_reducible rfl
      try simp only [Act.put, List.setIfInBounds_toArray, List.set_cons_zero, List.set_cons_succ]
      refine take_at (i := 8) (v := ?_) rfl rfl (by kernel_rfl) (by kernel_rfl) (by kernel_rfl) (fun _ _ _ h => h) (Or.inl ⟨by rfl, ?_⟩) (by assumption) ?_
      rotate_left
      · intro w hSw; (try dsimp only at hSw); go_simp; try with_reducible rfl
      try simp only [Act.put, List.setIfInBounds_toArray, List.set_cons_zero, List.set_cons_succ]
      refine wpAnyH_done (by kernel_rfl) (NoPanic.normal ?_) _
      go_wp2
      go_ret2
      exact ⟨rfl, hB7⟩
end Go.Proofs.YtmegllddjlippaaDoor
