/- The reference's Expand and Extract; hkdf's Extract and Derive. -/
import Derived.Test.YtnhdobgkfhgkbaaDoorHkExp
namespace Go.Proofs.YtnhdobgkfhgkbaaDoor
open Go.RowKit
set_option linter.unusedSimpArgs false

set_option maxHeartbeats 4000000 in
theorem rexpand_not (key p : ByteArray) (n : Int) (w : World) (hn : n < 0 ∨ 8160 < n) :
    Calls Tryd.prog 11 #[.string key, .string p, .int .i64 n] w fun e w' => e = .returned (.tuple #[.string ⟨#[]⟩, .int .i64 1]) ∧ Below w.heap.size w w' := by
  rcases hn with h | h
  · have g0 : decide (n < 0) = true := by simp; omega
    clear h
    go_enter Tryd.func11, Tryd.ntmps11
    go_wp2_with fail
    go_ret2
    exact ⟨rfl, Below.refl _ _⟩
  · have g0 : decide (n < 0) = false := by simp; omega
    have g1 : decide (8160 < n) = true := by simp; omega
    clear h
    go_enter Tryd.func11, Tryd.ntmps11
    go_wp2_with fail
    go_ret2
    exact ⟨rfl, Below.refl _ _⟩

set_option maxRecDepth 100000 in
set_option maxHeartbeats 4000000 in
theorem rexpand_ok (key p : ByteArray) (n : Nat) (w : World) (hk' : key.size ≤ 65536) (hp : p.size ≤ 65000) (hn : n ≤ 8160) :
    Calls Tryd.prog 11 #[.string key, .string p, .int .i64 (n : Int)] w fun e w' => e = .returned (.tuple #[.string (expandB key p n), .int .i64 0]) ∧ Below w.heap.size w w' := by
  obtain ⟨m, Hm⟩ : ∃ m, Hid (m = (n + 31) / 32) := ⟨_, rfl⟩
  have hm : m ≤ 255 := by rw [Hm.out]; omega
  have hnm : n ≤ 32 * m := by rw [Hm.out]; omega
  have g0 : decide ((n : Int) < 0) = false := by simp
  have g1 : decide ((8160 : Int) < (n : Int)) = false := by simp; omega
  obtain ⟨E, HE⟩ : ∃ E, Hid (E = expandB key p n) := ⟨_, rfl⟩
  rw [← HE.out]
  have HX : Hid (∀ k, (partB key p k).size ≤ 32) := partB_le key p
  go_enter Tryd.func11, Tryd.ntmps11
  go_wp2
  go_loopw [8, 9, 10] (fun a l i wr => ∃ k : Nat, k ≤ m ∧ i = .int .i64 ((k : Int) + 1) ∧ l = .string (partB key p k) ∧ a = .string (partsB key p k) ∧ Below w.heap.size w wr) (fun _ _ i _ => m + 1 - (intOf i).toNat)
  case atStart => exact ⟨0, Nat.zero_le _, rfl, rfl, rfl, Below.refl _ _⟩
  case round =>
    obtain ⟨k, hk, rfl, rfl, rfl, hbl⟩ := hrel
    obtain ⟨X, HX'⟩ : ∃ X, Hid (X = partsB key p k) := ⟨_, rfl⟩
    have hXs : X.size = 32 * k := by rw [HX'.out]; exact partsB_size _ _ _
    rw [← HX'.out]
    by_cases hlt : k < m
    · have g2 : decide (X.size < n) = true := by simp; have := Hm.out; omega
      obtain ⟨T, hT⟩ : ∃ T, T = partB key p k := ⟨_, rfl⟩
      have hTs : T.size ≤ 32 := by rw [hT]; exact HX.out k
      have hcv : ∀ w : World, (convert 29 9 (.slice (some ⟨w.heap.size, 0, none⟩) 1 1)).run Tryd.prog (w.alloc (.cells #[.int .u8 ((k : Int) + 1)] 5)) = .ok (.string (oneByte (k + 1))) (w.alloc (.cells #[.int .u8 ((k : Int) + 1)] 5)) :=
        fun w => one_conv w (k + 1) (by omega) 5 29 9 Tryd.underlying29 Tryd.underlying5 Tryd.underlying9
      obtain ⟨U, hU⟩ : ∃ U, T ++ p = U := ⟨_, rfl⟩
      have hUs : U.size = T.size + p.size := by rw [← hU, ByteArray.size_append]
      obtain ⟨O, hO⟩ : ∃ O, O = oneByte (k + 1) := ⟨_, rfl⟩
      have hOs : O.size = 1 := by rw [hO]; rfl
      obtain ⟨V, hV⟩ : ∃ V, U ++ O = V := ⟨_, rfl⟩
      have hVs : V.size = U.size + O.size := by rw [← hV, ByteArray.size_append]
      have C : Hid (∀ w, _) := fun w => rmac_any key V w hk' (by omega)
      obtain ⟨T', hT'⟩ : ∃ T', Hid (T' = partB key p (k + 1)) := ⟨_, rfl⟩
      have eT : macB key V = T' := by rw [hT'.out, partB_succ, ← hT, hU, ← hO, hV]
      have hTs' : T'.size = 32 := by rw [hT'.out]; exact partB_size _ _ _
      rw [eT] at C
      rw [← hO] at hcv
      have hsum1 : ¬ (9223372036854775807 < T.size + p.size) := by omega
      have hsum2 : ¬ (9223372036854775807 < U.size + O.size) := by omega
      have hsum3 : ¬ (9223372036854775807 < X.size + T'.size) := by omega
      rw [← hT]
      clear hO eT hT hVs hOs hUs hXs
      go_wp2_with fail
      have hbx : Below w.heap.size w (wr.alloc (.cells #[.int .u8 ((k : Int) + 1)] 5)) := hbl.alloc hbl.size _
      generalize wr.alloc _ = wx at *
      clear hbl
      refine (C.out _).mono ?_
      rintro e w2 ⟨rfl, hb2⟩
      have hB2 := below_step hbx (Nat.le_refl _) hb2
      clear hbx hb2 C hcv
      go_wp2
      go_roundw
      case rel => exact ⟨k + 1, by omega, by go_num, by rw [hT'.out], by rw [partsB_succ, ← hT'.out, ← HX'.out], hB2⟩
      case measure => simp [intOf]; omega
    · have hk' : k = m := by omega
      subst hk'
      have g2 : decide (X.size < n) = false := by simp; omega
      have hex : X.extract 0 n = E := by rw [HE.out, HX'.out, Hm.out]; rfl
      have hle : n ≤ X.size := by omega
      clear hXs
      go_wp2
      go_ret2
      exact ⟨rfl, hbl⟩

set_option maxHeartbeats 4000000 in
theorem extract_any (salt s : ByteArray) (w : World) (hk : salt.size ≤ 65536) (hs : s.size ≤ 65472) (hB : GlobB w) (hK : GlobK w) :
    Calls Tryd.prog 12 #[.string salt, .string s] w fun e w' => e = .returned (.string (macB salt s)) ∧ Below w.heap.size w w' := by
  have C1 : Hid (Calls _ _ _ _ _) := mac_any salt s w hk hs hB hK
  generalize macB salt s = M at *
  clear hB hK
  go_enter Tryd.func12, Tryd.ntmps12
  go_wp2_with fail
  refine C1.out.mono ?_
  rintro e w1 ⟨rfl, hb1⟩
  go_wp2_with fail
  go_ret
  exact ⟨rfl, hb1⟩

set_option maxHeartbeats 4000000 in
theorem derive_ok (salt s p : ByteArray) (n : Nat) (w : World) (hk : salt.size ≤ 65536) (hs : s.size ≤ 65472) (hp : p.size ≤ 65000) (hn : n ≤ 8160) (hB : GlobB w) (hK : GlobK w) :
    Calls Tryd.prog 14 #[.string salt, .string s, .string p, .int .i64 (n : Int)] w fun e w' => e = .returned (.tuple #[.string (expandB (macB salt s) p n), .int .i64 0]) ∧ Below w.heap.size w w' := by
  have HB : Hid (GlobB w) := hB
  have HK : Hid (GlobK w) := hK
  have C1 : Hid (Calls _ _ _ _ _) := extract_any salt s w hk hs hB hK
  have C2 : Hid (∀ w, GlobB w → GlobK w → _) := fun w => expand_ok (macB salt s) p n w (by rw [macB_size]; omega) hp hn
  generalize macB salt s = M at *
  generalize expandB M p n = E at *
  clear hB hK
  go_enter Tryd.func14, Tryd.ntmps14
  go_wp2_with fail
  refine C1.out.mono ?_
  rintro e w1 ⟨rfl, hb1⟩
  go_wp2_with fail
  refine (C2.out _ (HB.out.below hb1) (HK.out.below hb1)).mono ?_
  rintro e w2 ⟨rfl, hb2⟩
  have hB2 := below_step hb1 (Nat.le_refl _) hb2
  go_wp2_with fail
  go_ret2
  exact ⟨rfl, hB2⟩

theorem empty_append (s : ByteArray) : (⟨#[]⟩ : ByteArray) ++ s = s := by apply bytes_ext; simp
theorem macB_empty (s : ByteArray) : macB (zeroB 32) s = macB ⟨#[]⟩ s := by
  have h := macB_padded ⟨#[]⟩ s 32 (by decide)
  rwa [empty_append] at h
theorem size_nil (s : ByteArray) (h : s.size = 0) : s = ⟨#[]⟩ := by
  apply bytes_ext
  have h' : s.data.size = 0 := h
  rw [Array.eq_empty_of_size_eq_zero h']

set_option maxHeartbeats 4000000 in
theorem rextract_some (salt s : ByteArray) (w : World) (h0 : 0 < salt.size) (hk : salt.size ≤ 65536) (hs : s.size ≤ 65472) :
    Calls Tryd.prog 13 #[.string salt, .string s] w fun e w' => e = .returned (.string (macB salt s)) ∧ Below w.heap.size w w' := by
  have C1 : Hid (Calls _ _ _ _ _) := rmac_any salt s w hk hs
  generalize macB salt s = M at *
  have g0 : salt.toList.isEmpty = false := by
    rw [toList_data]
    cases h : salt.data.toList with
    | nil =>
      have h2 : salt.data.toList.length = 0 := by rw [h]; rfl
      rw [Array.length_toList] at h2
      have h3 : salt.data.size = salt.size := rfl
      omega
    | cons a l => rfl
  clear h0 hk hs
  go_enter Tryd.func13, Tryd.ntmps13
  go_wp2_with fail
  refine C1.out.mono ?_
  rintro e w1 ⟨rfl, hb1⟩
  go_wp2_with fail
  go_ret
  exact ⟨rfl, hb1⟩

set_option maxHeartbeats 4000000 in
theorem rextract_none (s : ByteArray) (w : World) (hs : s.size ≤ 65472) :
    Calls Tryd.prog 13 #[.string ⟨#[]⟩, .string s] w fun e w' => e = .returned (.string (macB ⟨#[]⟩ s)) ∧ Below w.heap.size w w' := by
  obtain ⟨i0, hi, hz0, hz1, hz2⟩ := info_parts Tryd.info5
  have C1 : Hid (∀ w, _) := fun w => rmac_any (zeroB 32) s w (by decide) hs
  rw [macB_empty] at C1
  generalize macB _ s = M at *
  obtain ⟨Z, HZ⟩ : ∃ Z, Hid (Z = zeroB 32) := ⟨_, rfl⟩
  rw [← HZ.out] at C1
  clear hs
  go_enter Tryd.func13, Tryd.ntmps13
  go_wp2_with (at_make; refine wpList_make_full _ rfl _ _ 29 rfl w.heap.size 5 i0 (.int .u8 0) 1 Tryd.underlying29 hi hz0 hz1 _ _ _ _ 32 rfl rfl rfl rfl ?b1 ?b2 ?b3 ?_)
  case b1 => rw [hz2]; decide
  case b2 => decide
  case b3 => omega
  intro w1 hown0 hgrow
  have hbl : Below w.heap.size w w1 := (Below.refl _ _).grown hgrow (Nat.le_refl _) (fun k hk => by cases hk)
  have hcv : (convert 29 9 (.slice (some ⟨w.heap.size, 0, none⟩) 32 32)).run Tryd.prog w1 = .ok (.string Z) w1 := by
    rw [HZ.out]; exact zeros_conv hown0 29 9 Tryd.underlying29 Tryd.underlying5 Tryd.underlying9
  clear hown0 hgrow hi hz0 hz1 hz2
  go_wp2_with fail
  refine (C1.out _).mono ?_
  rintro e w2 ⟨rfl, hb2⟩
  have hB2 := below_step hbl (Nat.le_refl _) hb2
  go_wp2_with fail
  go_ret
  exact ⟨rfl, hB2⟩
theorem rextract_any (salt s : ByteArray) (w : World) (hk : salt.size ≤ 65536) (hs : s.size ≤ 65472) :
    Calls Tryd.prog 13 #[.string salt, .string s] w fun e w' => e = .returned (.string (macB salt s)) ∧ Below w.heap.size w w' := by
  by_cases h : salt.size = 0
  · rw [size_nil salt h]; exact rextract_none s w hs
  · exact rextract_some salt s w (by omega) hk hs
end Go.Proofs.YtnhdobgkfhgkbaaDoor
