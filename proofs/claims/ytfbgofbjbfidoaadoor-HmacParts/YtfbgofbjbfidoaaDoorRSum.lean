import Derived.Test.YtfbgofbjbfidoaaDoorShaSum
namespace Go.Proofs.YtfbgofbjbfidoaaDoor
open Go.RowKit
set_option linter.unusedSimpArgs false

set_option maxRecDepth 100000 in
set_option maxHeartbeats 4000000 in
theorem rsum_any (s : ByteArray) (w : World) (hs : s.size ≤ 65536) :
    Calls Tryd.prog 15 #[.string s] w fun e w' => e = .returned (.string (ofN (sumN s))) ∧ Below w.heap.size w w' := by
  have CP : Hid (∀ w, _) := fun w => rpad_ok s.size w (by omega)
  obtain ⟨P, HP⟩ : ∃ P : ByteArray, Hid (P = padB s.size) := ⟨_, rfl⟩
  rw [← HP.out] at CP
  have hPs : P.size = 9 + zerosN s.size := by rw [HP.out, padB_size]
  have hz := zerosN_le s.size
  have hm := zerosN_mod s.size
  have hsum : ¬ (9223372036854775807 < s.size + P.size) := by omega
  obtain ⟨n, Hn⟩ : ∃ n, Hid (n = (s.size + 9 + zerosN s.size) / 64) := ⟨_, rfl⟩
  have hFs : Hid ((s ++ P).size = 64 * n) := by show _ = _; rw [ByteArray.size_append, Hn.out, hPs]; omega
  have hn : n ≤ 65536 := by rw [Hn.out]; omega
  obtain ⟨F, HF⟩ : ∃ F : Nat → List Nat, Hid (F = foldN (fullF s) bN) := ⟨_, rfl⟩
  have HL : Hid (∀ k, (F k).length = 8) := by rw [HF.out]; exact foldN_length _ _ rfl
  have HO : Hid (∀ k, Ok (F k)) := by rw [HF.out]; exact foldN_ok _ _ bN_ok
  have HN : Hid (∀ k, F (k + 1) = behindN (F k) (fun j => bt (s ++ P) (64 * k + j))) := by
    show ∀ k, _
    intro k
    rw [HF.out, foldN_succ]
    exact behindN_congr _ _ _ (fun j _ => by rw [HP.out, full_bt])
  have H0 : Hid (F 0 = bN) := by show _ = _; rw [HF.out]; rfl
  have HE : Hid (F n = sumN s) := by show _ = _; rw [HF.out, Hn.out]; rfl
  clear hPs hz hm
  go_enter Tryd.func15, Tryd.ntmps15
  go_wp2_with fail
  refine (CP.out _).mono ?_
  rintro e w1 ⟨rfl, hb1⟩
  go_wp2_with fail
  refine (rbegin_any _).mono ?_
  rintro e w2 ⟨rfl, hb2⟩
  have hB2 : Hid (Below w.heap.size w w2) := below_step hb1 (Nat.le_refl _) hb2
  rw [← H0.out]
  generalize s ++ P = S at *
  clear hb1 hb2 CP hsum
  go_wp2_with fail
  go_loopw [5, 6] (fun v i wr => ∃ k j : Nat, j ≤ 64 * n ∧ i = .int .i64 j ∧ Hid (j = 64 * k) ∧ v = .string (ofN (F k)) ∧ Below w.heap.size w wr) (fun _ i _ => 64 * n - (intOf i).toNat)
  case atStart => exact ⟨0, 0, by omega, rfl, rfl, rfl, hB2.out⟩
  case round =>
    obtain ⟨k, j, hj, rfl, HJ, rfl, hbl⟩ := hrel
    have hS := hFs.out
    by_cases hlt : j < 64 * n
    · have hJ := HJ.out
      have hq : j + 64 ≤ S.size := by omega
      have hes : (S.extract j (j + 64)).size = 64 := by rw [ByteArray.size_extract]; omega
      have CB : Hid (∀ w, Calls Tryd.prog 23 #[.string (ofN (F k)), .string (S.extract j (j + 64))] w fun e w' => e = .returned (.tuple #[.string (ofN (F (k + 1))), .int .i64 0]) ∧ Below w.heap.size w w') := by
        have := fun w => rblock_ok (ofN (F k)) (S.extract j (j + 64)) w (ofN_size _ (HL.out k)) hes
        rw [wordsN_ofN _ (HO.out k)] at this
        rw [HN.out k]
        rw [behindN_congr (F k) (bt (S.extract j (j + 64))) (fun i => bt S (64 * k + i)) (fun i hi => by rw [bt_extract S j (j + 64) i (by omega) hq, hJ])] at this
        exact this
      have b1 : (j : Int) + 64 ≤ (S.size : Int) := by omega
      clear hJ hes hS
      go_wp2_with fail
      refine (CB.out _).mono ?_
      rintro e w3 ⟨rfl, hb3⟩
      have hb3' := below_step hbl (Nat.le_refl _) hb3
      clear CB
      go_wp2_with fail
      go_roundw
      case rel => exact ⟨k + 1, j + 64, by have := HJ.out; omega, by go_num, by have := HJ.out; show j + 64 = 64 * (k + 1); omega, rfl, hb3'⟩
      case measure => simp [intOf]; omega
    · have hj' : j = 64 * n := by omega
      have hk' : k = n := by have := HJ.out; omega
      have b1 : ¬ ((j : Int) + 64 ≤ (S.size : Int)) := by omega
      rw [hk', HE.out]
      clear hj' hS
      go_wp2_with fail
      go_ret
      exact ⟨rfl, hbl⟩
end Go.Proofs.YtfbgofbjbfidoaaDoor
