import Derived.Test.YtagmfgaojmholaaDoorSumsWalk
namespace Go.Proofs.YtagmfgaojmholaaDoor
open Go.RowKit
set_option linter.unusedSimpArgs false

theorem extract_tail (S : ByteArray) (a : Nat) (h : a ≤ S.size) : (S.extract a S.size).extract 64 (S.extract a S.size).size = S.extract (a + 64) S.size := by
  have hs : (S.extract a S.size).size = S.size - a := by rw [ByteArray.size_extract]; omega
  rw [hs]
  apply ByteArray.ext
  rw [ByteArray.data_extract, ByteArray.data_extract, ByteArray.data_extract, Array.extract_extract]
  rw [show min (a + (S.size - a)) S.size = S.size by omega]

def lenS : Value → Nat
  | .string s => s.size
  | _ => 0

set_option maxRecDepth 100000 in
set_option maxHeartbeats 4000000 in
theorem parts_short (s : ByteArray) (w : World) (hB : GlobB w) (hK : GlobK w) (hs : s.size ≤ 2048) :
    Calls Tryd.prog 6 #[.string s] w fun e w' => e = .returned (.bool true) ∧ Below w.heap.size w w' := by
  have HB : Hid (GlobB w) := hB
  have HK : Hid (GlobK w) := hK
  have CP : Hid (∀ w, _) := fun w => pad_ok s.size w (by omega)
  obtain ⟨P, HP⟩ : ∃ P : ByteArray, Hid (P = padB s.size) := ⟨_, rfl⟩
  rw [← HP.out] at CP
  have hPs : P.size = 9 + zerosN s.size := by rw [HP.out, padB_size]
  have hz := zerosN_le s.size
  have hm := zerosN_mod s.size
  have hsum : ¬ (9223372036854775807 < s.size + P.size) := by omega
  obtain ⟨n, Hn⟩ : ∃ n, Hid (n = (s.size + 9 + zerosN s.size) / 64) := ⟨_, rfl⟩
  have hFs : Hid ((s ++ P).size = 64 * n) := by show _ = _; rw [ByteArray.size_append, Hn.out, hPs]; omega
  have hn : n ≤ 65536 := by rw [Hn.out]; omega
  obtain ⟨F, HF⟩ : ∃ F : Nat → List Nat, Hid (F = foldN (fullF s) bN) := ⟨_, rfl⟩
  have HL : Hid (∀ k, (F k).length = 8) := by rw [HF.out]; exact foldN_length _ _ rfl
  have HO : Hid (∀ k, Ok (F k)) := by rw [HF.out]; exact foldN_ok _ _ bN_ok
  have HN : Hid (∀ k, F (k + 1) = behindN (F k) (fun j => bt (s ++ P) (64 * k + j))) := by
    show ∀ k, _
    intro k
    rw [HF.out, foldN_succ]
    exact behindN_congr _ _ _ (fun j _ => by rw [HP.out, full_bt])
  have H0 : Hid (F 0 = bN) := by show _ = _; rw [HF.out]; rfl
  have HE : Hid (F n = sumN s) := by show _ = _; rw [HF.out, Hn.out]; rfl
  have g : decide ((2048 : Int) < (s.size : Int)) = false := by simp; omega
  clear hPs hz hm hB hK
  go_enter Tryd.func6, Tryd.ntmps6
  go_wp2_with fail
  refine (CP.out _).mono ?_
  rintro e w1 ⟨rfl, hb1⟩
  go_wp2_with fail
  refine (begin_any _ (HB.out.below hb1)).mono ?_
  rintro e w2 ⟨rfl, hb2⟩
  have hB2 : Hid (Below w.heap.size w w2) := below_step hb1 (Nat.le_refl _) hb2
  rw [← H0.out]
  generalize s ++ P = S at *
  clear hb1 hb2 CP hsum
  go_wp2_with fail
  go_loopw [5, 6] (fun u v wr => ∃ k : Nat, ∃ U : ByteArray, k ≤ n ∧ u = .string U ∧ Hid (U = S.extract (64 * k) S.size) ∧ v = .string (ofN (F k)) ∧ Below w.heap.size w wr) (fun u _ _ => lenS u)
  case atStart => exact ⟨0, S, by omega, rfl, by show S = _; simp, rfl, hB2.out⟩
  case round =>
    obtain ⟨k, U, hk, rfl, HU, rfl, hbl⟩ := hrel
    have hS := hFs.out
    have hUs : U.size = 64 * n - 64 * k := by rw [HU.out, ByteArray.size_extract]; omega
    have hBr : Hid (GlobB wr) := HB.out.below hbl
    have hKr : Hid (GlobK wr) := HK.out.below hbl
    by_cases hlt : k < n
    · have hes : (U.extract 0 64).size = 64 := by rw [ByteArray.size_extract]; omega
      have h32 : (ofN (F (k + 1))).size = 32 := ofN_size _ (HL.out (k + 1))
      have CB : Hid (∀ w, GlobK w → Calls Tryd.prog 10 #[.string (ofN (F k)), .string (U.extract 0 64)] w fun e w' => e = .returned (.tuple #[.string (ofN (F (k + 1))), .int .i64 0]) ∧ Below w.heap.size w w') := by
        have := fun w h => block_ok (ofN (F k)) (U.extract 0 64) w (ofN_size _ (HL.out k)) hes h
        rw [wordsN_ofN _ (HO.out k)] at this
        rw [HN.out k]
        rw [behindN_congr (F k) (bt (U.extract 0 64)) (fun i => bt S (64 * k + i)) (fun i hi => by rw [bt_extract U 0 64 i (by omega) (by omega), Nat.zero_add, HU.out, bt_extract S (64 * k) S.size i (by omega) (Nat.le_refl _)])] at this
        exact this
      have b1 : (64 : Int) ≤ (U.size : Int) := by omega
      have HU' : Hid (U.extract 64 U.size = S.extract (64 * (k + 1)) S.size) := by
        show _ = _
        rw [HU.out, extract_tail S (64 * k) (by omega), show 64 * k + 64 = 64 * (k + 1) by omega]
      have hlen : (U.extract 64 U.size).size < U.size := by rw [ByteArray.size_extract]; omega
      obtain ⟨N, HNN⟩ : ∃ N, Hid (N = ofN (F (k + 1))) := ⟨_, rfl⟩
      rw [← HNN.out] at CB h32
      clear hes hS hUs
      go_wp2_with fail
      refine (CB.out _ hKr.out).mono ?_
      rintro e w3 ⟨rfl, hb3⟩
      have hb3' := below_step hbl (Nat.le_refl _) hb3
      clear CB
      go_wp2_with fail
      refine ⟨⟨k + 1, _, by omega, rfl, HU', by rw [HNN.out], hb3'⟩, ?_⟩
      exact hlen
    · have hk' : k = n := by omega
      have hU0 : U = ⟨#[]⟩ := bytes_ext (by
        have h0 : U.size = 0 := by omega
        have h1 : U.data.toList.length = 0 := by rw [Array.length_toList]; exact h0
        rw [List.eq_nil_of_length_eq_zero h1])
      rw [hk', HE.out]
      subst hU0
      have C1 : Hid (Calls _ _ _ _ _) := sum_any s wr (by omega) hBr.out hKr.out
      clear hUs hS
      go_wp2_with fail
      refine C1.out.mono ?_
      rintro e w3 ⟨rfl, hb3⟩
      have hb3' := below_step hbl (Nat.le_refl _) hb3
      go_wp2_with fail
      refine (abc_any _ (HB.out.below hb3') (HK.out.below hb3')).mono ?_
      rintro e w4 ⟨rfl, hb4⟩
      go_wp2_with fail
      go_ret
      exact ⟨rfl, below_step hb3' (Nat.le_refl _) hb4⟩

set_option maxHeartbeats 2000000 in
theorem shaParts_walk (s : ByteArray) (w : World) (hB : GlobB w) (hK : GlobK w) :
    Calls Tryd.prog 6 #[.string s] w fun e w' => e = .returned (.bool true) ∧ Below w.heap.size w w' := by
  by_cases h : s.size ≤ 2048
  · exact parts_short s w hB hK h
  · have HB : Hid (GlobB w) := hB
    have HK : Hid (GlobK w) := hK
    clear hB hK
    have g : (2048 : Int) < (s.size : Int) := by omega
    go_enter Tryd.func6, Tryd.ntmps6
    go_wp2_with fail
    refine (abc_any _ HB.out HK.out).mono ?_
    rintro e w3 ⟨rfl, hb3⟩
    go_wp2_with fail
    go_ret
    exact ⟨rfl, hb3⟩
end Go.Proofs.YtagmfgaojmholaaDoor
