import Derived.Test.YtfbgofbjbfidoaaDoorL3
namespace Go.Proofs.YtfbgofbjbfidoaaDoor
open Go.RowKit
set_option linter.unusedSimpArgs false

set_option maxRecDepth 100000 in
set_option maxHeartbeats 4000000 in
theorem jefe_any (w : World) (hB : GlobB w) (hK : GlobK w) :
    Calls Tryd.prog 7 #[] w fun e w' => e = .returned (.bool true) ∧ Below w.heap.size w w' := by
  have HB : Hid (GlobB w) := hB
  have HK : Hid (GlobK w) := hK
  have C1 : Hid (Calls _ _ _ _ _) := mac_any ⟨#[74, 101, 102, 101]⟩ ⟨#[119, 104, 97, 116, 32, 100, 111, 32, 121, 97, 32, 119, 97, 110, 116, 32, 102, 111, 114, 32, 110, 111, 116, 104, 105, 110, 103, 63]⟩ w (by decide) (by decide) hB hK
  have C2 : Hid (∀ w, GlobB w → GlobK w → _) := fun w => check_any ⟨#[74, 101, 102, 101]⟩ ⟨#[119, 104, 97, 116, 32, 100, 111, 32, 121, 97, 32, 119, 97, 110, 116, 32, 102, 111, 114, 32, 110, 111, 116, 104, 105, 110, 103, 63]⟩ ⟨#[91, 220, 193, 70, 191, 96, 117, 78, 106, 4, 36, 38, 8, 149, 117, 199, 90, 0, 63, 8, 157, 39, 57, 131, 157, 236, 88, 185, 100, 236, 56, 67]⟩ w (by decide) (by decide)
  have C3 : Hid (∀ w, GlobB w → GlobK w → _) := fun w => check_any ⟨#[74, 101, 102, 102]⟩ ⟨#[119, 104, 97, 116, 32, 100, 111, 32, 121, 97, 32, 119, 97, 110, 116, 32, 102, 111, 114, 32, 110, 111, 116, 104, 105, 110, 103, 63]⟩ ⟨#[91, 220, 193, 70, 191, 96, 117, 78, 106, 4, 36, 38, 8, 149, 117, 199, 90, 0, 63, 8, 157, 39, 57, 131, 157, 236, 88, 185, 100, 236, 56, 67]⟩ w (by decide) (by decide)
  rw [jefe_mac] at C1 C2
  rw [jeff_mac] at C3
  have e2 : ((⟨#[91, 220, 193, 70, 191, 96, 117, 78, 106, 4, 36, 38, 8, 149, 117, 199, 90, 0, 63, 8, 157, 39, 57, 131, 157, 236, 88, 185, 100, 236, 56, 67]⟩ : ByteArray).toList == (⟨#[91, 220, 193, 70, 191, 96, 117, 78, 106, 4, 36, 38, 8, 149, 117, 199, 90, 0, 63, 8, 157, 39, 57, 131, 157, 236, 88, 185, 100, 236, 56, 67]⟩ : ByteArray).toList) = true := by simp
  have e3 : ((⟨#[183, 86, 236, 140, 31, 96, 14, 178, 119, 238, 63, 4, 22, 63, 88, 27, 209, 199, 227, 97, 243, 74, 7, 39, 173, 121, 200, 68, 255, 196, 187, 131]⟩ : ByteArray).toList == (⟨#[91, 220, 193, 70, 191, 96, 117, 78, 106, 4, 36, 38, 8, 149, 117, 199, 90, 0, 63, 8, 157, 39, 57, 131, 157, 236, 88, 185, 100, 236, 56, 67]⟩ : ByteArray).toList) = false := by rw [toList_data, toList_data]; decide
  rw [e2] at C2
  rw [e3] at C3
  clear hB hK e2 e3
  have h32 : (⟨#[91, 220, 193, 70, 191, 96, 117, 78, 106, 4, 36, 38, 8, 149, 117, 199, 90, 0, 63, 8, 157, 39, 57, 131, 157, 236, 88, 185, 100, 236, 56, 67]⟩ : ByteArray).size = 32 := rfl
  have h4 : (⟨#[91, 220, 193, 70, 191, 96, 117, 78, 106, 4, 36, 38, 8, 149, 117, 199, 90, 0, 63, 8, 157, 39, 57, 131, 157, 236, 88, 185, 100, 236, 56, 67]⟩ : ByteArray).extract 0 4 = ⟨#[91, 220, 193, 70]⟩ := by decide +kernel
  generalize (⟨#[91, 220, 193, 70, 191, 96, 117, 78, 106, 4, 36, 38, 8, 149, 117, 199, 90, 0, 63, 8, 157, 39, 57, 131, 157, 236, 88, 185, 100, 236, 56, 67]⟩ : ByteArray) = S at *
  go_enter Tryd.func7, Tryd.ntmps7
  go_wp2_with fail
  refine C1.out.mono ?_
  rintro e w1 ⟨rfl, hb1⟩
  go_wp2_with fail
  refine (C2.out _ (HB.out.below hb1) (HK.out.below hb1)).mono ?_
  rintro e w2 ⟨rfl, hb2⟩
  have hB2 := below_step hb1 (Nat.le_refl _) hb2
  go_wp2_with fail
  refine (C3.out _ (HB.out.below hB2) (HK.out.below hB2)).mono ?_
  rintro e w3 ⟨rfl, hb3⟩
  have hB3 := below_step hB2 (Nat.le_refl _) hb3
  go_wp2_with fail
  go_ret
  exact ⟨rfl, hB3⟩

set_option maxRecDepth 100000 in
set_option maxHeartbeats 4000000 in
theorem hmacSums_short (key s mac : ByteArray) (w : World) (hk : key.size ≤ 1024) (hs : s.size ≤ 1024) (hm : mac.size ≤ 1024) (hB : GlobB w) (hK : GlobK w) :
    Calls Tryd.prog 3 #[.string key, .string s, .string mac] w fun e w' => e = .returned (.bool true) ∧ Below w.heap.size w w' := by
  have HB : Hid (GlobB w) := hB
  have HK : Hid (GlobK w) := hK
  have g0 : decide ((1024 : Int) < (key.size : Int)) = false := by simp; omega
  have g1 : decide ((1024 : Int) < (s.size : Int)) = false := by simp; omega
  have g2 : decide ((1024 : Int) < (mac.size : Int)) = false := by simp; omega
  have C1 : Hid (Calls _ _ _ _ _) := mac_any key s w (by omega) (by omega) hB hK
  have C2 : Hid (∀ w, _) := fun w => rmac_any key s w (by omega) (by omega)
  have C3 : Hid (∀ w, GlobB w → GlobK w → _) := fun w => check_any key s mac w (by omega) (by omega)
  have C4 : Hid (∀ w, _) := fun w => rcheck_any key s mac w (by omega) (by omega)
  have C5 : Hid (∀ w, GlobB w → GlobK w → _) := fun w => check_any key s (macB key s) w (by omega) (by omega)
  have e5 : ((macB key s).toList == (macB key s).toList) = true := by simp
  rw [e5] at C5
  generalize macB key s = M at *
  generalize (M.toList == mac.toList) = t at *
  clear hB hK e5 hk hs hm
  go_enter Tryd.func3, Tryd.ntmps3
  go_wp2_with fail
  refine C1.out.mono ?_
  rintro e w1 ⟨rfl, hb1⟩
  go_wp2_with fail
  refine (C2.out _).mono ?_
  rintro e w2 ⟨rfl, hb2⟩
  have hB2 := below_step hb1 (Nat.le_refl _) hb2
  go_wp2_with fail
  refine (C3.out _ (HB.out.below hB2) (HK.out.below hB2)).mono ?_
  rintro e w3 ⟨rfl, hb3⟩
  have hB3 := below_step hB2 (Nat.le_refl _) hb3
  go_wp2_with fail
  refine (C4.out _).mono ?_
  rintro e w4 ⟨rfl, hb4⟩
  have hB4 := below_step hB3 (Nat.le_refl _) hb4
  go_wp2_with fail
  refine (C2.out _).mono ?_
  rintro e w5 ⟨rfl, hb5⟩
  have hB5 := below_step hB4 (Nat.le_refl _) hb5
  go_wp2_with fail
  refine (C5.out _ (HB.out.below hB5) (HK.out.below hB5)).mono ?_
  rintro e w6 ⟨rfl, hb6⟩
  have hB6 := below_step hB5 (Nat.le_refl _) hb6
  go_wp2_with fail
  refine (jefe_any _ (HB.out.below hB6) (HK.out.below hB6)).mono ?_
  rintro e w7 ⟨rfl, hb7⟩
  have hB7 := below_step hB6 (Nat.le_refl _) hb7
  go_wp2_with fail
  go_ret
  exact ⟨rfl, hB7⟩

set_option maxHeartbeats 4000000 in
theorem hmacSums_walk (key s mac : ByteArray) (w : World) (hB : GlobB w) (hK : GlobK w) :
    Calls Tryd.prog 3 #[.string key, .string s, .string mac] w fun e w' => e = .returned (.bool true) ∧ Below w.heap.size w w' := by
  have HB : Hid (GlobB w) := hB
  have HK : Hid (GlobK w) := hK
  clear hB hK
  by_cases h0 : key.size ≤ 1024
  · by_cases h1 : s.size ≤ 1024
    · by_cases h2 : mac.size ≤ 1024
      · exact hmacSums_short key s mac w h0 h1 h2 HB.out HK.out
      · have g0 : decide ((1024 : Int) < (key.size : Int)) = false := by simp; omega
        have g1 : decide ((1024 : Int) < (s.size : Int)) = false := by simp; omega
        have g2 : decide ((1024 : Int) < (mac.size : Int)) = true := by simp; omega
        clear h0 h1 h2
        go_enter Tryd.func3, Tryd.ntmps3
        go_wp2_with fail
        refine (jefe_any _ HB.out HK.out).mono ?_
        rintro e w3 ⟨rfl, hb3⟩
        go_wp2_with fail
        go_ret
        exact ⟨rfl, hb3⟩
    · have g0 : decide ((1024 : Int) < (key.size : Int)) = false := by simp; omega
      have g1 : decide ((1024 : Int) < (s.size : Int)) = true := by simp; omega
      clear h0 h1
      go_enter Tryd.func3, Tryd.ntmps3
      go_wp2_with fail
      refine (jefe_any _ HB.out HK.out).mono ?_
      rintro e w3 ⟨rfl, hb3⟩
      go_wp2_with fail
      go_ret
      exact ⟨rfl, hb3⟩
  · have g0 : decide ((1024 : Int) < (key.size : Int)) = true := by simp; omega
    clear h0
    go_enter Tryd.func3, Tryd.ntmps3
    go_wp2_with fail
    refine (jefe_any _ HB.out HK.out).mono ?_
    rintro e w3 ⟨rfl, hb3⟩
    go_wp2_with fail
    go_ret
    exact ⟨rfl, hb3⟩
end Go.Proofs.YtfbgofbjbfidoaaDoor
