import Derived.Test.YtfbgofbjbfidoaaDoorMacSumsWalk
namespace Go.Proofs.YtfbgofbjbfidoaaDoor
open Go.RowKit
set_option linter.unusedSimpArgs false

def zeroB (n : Nat) : ByteArray := ⟨(List.replicate n 0).toArray⟩
theorem zeroB_size (n : Nat) : (zeroB n).size = n := by show (List.replicate n 0).toArray.size = n; simp
theorem bt_zeroB (n j : Nat) : bt (zeroB n) j = 0 := by
  unfold zeroB
  rw [bt_mk, List.getD_eq_getElem?_getD, List.getElem?_replicate]
  by_cases h : j < n
  · rw [if_pos h]; rfl
  · rw [if_neg h]; rfl
theorem bt_padded (key : ByteArray) (n : Nat) : bt (key ++ zeroB n) = bt key := by
  funext i
  by_cases h : i < key.size
  · exact bt_append_left _ _ i h
  · have e : i = key.size + (i - key.size) := by omega
    rw [e, bt_append_right, bt_zeroB, bt_out key _ (by omega)]
theorem macB_padded (key s : ByteArray) (n : Nat) (h : key.size + n ≤ 64) : macB (key ++ zeroB n) s = macB key s := by
  unfold macB
  rw [keyOf_short (key ++ zeroB n) (by rw [ByteArray.size_append, zeroB_size]; omega), keyOf_short key (by omega), bt_padded]
theorem macB_long (key s : ByteArray) (h : 64 < key.size) : macB (ofN (sumN key)) s = macB key s := by
  unfold macB
  rw [keyOf_short (ofN (sumN key)) (by rw [sumB_size]; omega), keyOf_long key h]
theorem nums_zeros (n : Nat) : nums (List.replicate n 0) = List.replicate n 0 := by simp [nums]

set_option maxRecDepth 100000 in
set_option maxHeartbeats 4000000 in
theorem hmacKeys_long (key s : ByteArray) (many : Int) (w : World) (h64 : 64 < key.size) (hk : key.size ≤ 1024) (hs : s.size ≤ 1024) (hB : GlobB w) (hK : GlobK w) :
    Calls Tryd.prog 4 #[.string key, .string s, .int .i64 many] w fun e w' => e = .returned (.bool true) ∧ Below w.heap.size w w' := by
  have HB : Hid (GlobB w) := hB
  have HK : Hid (GlobK w) := hK
  have g0 : decide ((1024 : Int) < (key.size : Int)) = false := by simp; omega
  have g1 : decide ((1024 : Int) < (s.size : Int)) = false := by simp; omega
  have g2 : decide ((64 : Int) < (key.size : Int)) = true := by simp; omega
  have C1 : Hid (Calls _ _ _ _ _) := mac_any key s w (by omega) (by omega) hB hK
  have C2 : Hid (∀ w, GlobB w → GlobK w → _) := fun w => sum_any key w (by omega)
  have C3 : Hid (∀ w, GlobB w → GlobK w → _) := fun w => mac_any (ofN (sumN key)) s w (by rw [sumB_size]; omega) (by omega)
  rw [macB_long key s h64] at C3
  generalize macB key s = M at *
  generalize ofN (sumN key) = K at *
  clear hB hK hk hs h64
  go_enter Tryd.func4, Tryd.ntmps4
  go_wp2_with fail
  refine C1.out.mono ?_
  rintro e w1 ⟨rfl, hb1⟩
  go_wp2_with fail
  refine (C2.out _ (HB.out.below hb1) (HK.out.below hb1)).mono ?_
  rintro e w2 ⟨rfl, hb2⟩
  have hB2 := below_step hb1 (Nat.le_refl _) hb2
  go_wp2_with fail
  refine (C3.out _ (HB.out.below hB2) (HK.out.below hB2)).mono ?_
  rintro e w3 ⟨rfl, hb3⟩
  have hB3 := below_step hB2 (Nat.le_refl _) hb3
  go_wp2_with fail
  refine (jefe_any _ (HB.out.below hB3) (HK.out.below hB3)).mono ?_
  rintro e w4 ⟨rfl, hb4⟩
  have hB4 := below_step hB3 (Nat.le_refl _) hb4
  go_wp2_with fail
  go_ret
  exact ⟨rfl, hB4⟩

set_option maxRecDepth 100000 in
set_option maxHeartbeats 4000000 in
theorem hmacKeys_short (key s : ByteArray) (many : Int) (w : World) (hk : key.size ≤ 64) (hs : s.size ≤ 1024) (hB : GlobB w) (hK : GlobK w) :
    Calls Tryd.prog 4 #[.string key, .string s, .int .i64 many] w fun e w' => e = .returned (.bool true) ∧ Below w.heap.size w w' := by
  have HB : Hid (GlobB w) := hB
  have HK : Hid (GlobK w) := hK
  obtain ⟨a, ha, ea⟩ : ∃ a : Nat, a < 256 ∧ many % 256 = (a : Int) := ⟨(many % 256).toNat, by omega, by omega⟩
  have hand : bits .and .i64 many 255 = (a : Int) := by rw [i64_and255, ea]
  obtain ⟨n, hn⟩ : ∃ n : Nat, n = a % (65 - key.size) := ⟨_, rfl⟩
  have hns : n < 65 - key.size := by rw [hn]; exact Nat.mod_lt _ (by omega)
  have g0 : decide ((1024 : Int) < (key.size : Int)) = false := by simp; omega
  have g1 : decide ((1024 : Int) < (s.size : Int)) = false := by simp; omega
  have g2 : decide ((64 : Int) < (key.size : Int)) = false := by simp; omega
  have C1 : Hid (Calls _ _ _ _ _) := mac_any key s w (by omega) (by omega) hB hK
  have C3 : Hid (∀ w, GlobB w → GlobK w → _) := fun w => mac_any (key ++ zeroB n) s w (by rw [ByteArray.size_append, zeroB_size]; omega) (by omega)
  rw [macB_padded key s n (by omega)] at C3
  have hzs : (zeroB n).size = n := zeroB_size n
  have hrem : Int.tmod (a : Int) (65 - (key.size : Int)) = (n : Int) := by
    rw [show (65 : Int) - (key.size : Int) = ((65 - key.size : Nat) : Int) by omega, hn, ← Int.ofNat_tmod]
  generalize macB key s = M at *
  clear hB hK ea hn
  obtain ⟨i0, hi, hz0, hz1, hz2⟩ := info_parts Tryd.info5
  go_enter Tryd.func4, Tryd.ntmps4
  go_wp2_with fail
  refine C1.out.mono ?_
  rintro e w1 ⟨rfl, hb1⟩
  clear C1
  go_wp2_with (at_make; refine wpList_make_full _ rfl _ _ 26 rfl w1.heap.size 5 i0 (.int .u8 0) 1 Tryd.underlying26 hi hz0 hz1 _ _ _ _ n rfl rfl rfl rfl ?b1 ?b2 ?b3 ?_)
  case b1 => rw [hz2]; omega
  case b2 => unfold maxLen; omega
  case b3 => omega
  intro w2 hown0 hgrow
  have hown : Own w2 w1.heap.size 5 .u8 w1.heap.size n (nums (List.replicate n 0)) := by
    have := Own.made (nums (List.replicate n 0)) (by rw [nums_length, List.length_replicate]) hown0
    rw [bufAt_zero, nums_length, List.length_replicate, ← nums_zeros] at this
    exact this
  have hb2 : Below w1.heap.size w1 w2 := (Below.refl _ _).grown hgrow (Nat.le_refl _) (fun k hk => by cases hk)
  have hB2 := below_step hb1 (Nat.le_refl _) hb2
  have hcv := Own.conv (P := Tryd.prog) 26 9 hown Tryd.underlying26 Tryd.underlying5 Tryd.underlying9
  rw [show (⟨(List.replicate n 0).toArray⟩ : ByteArray) = zeroB n from rfl] at hcv
  generalize zeroB n = Z at *
  have hsum : ¬ (9223372036854775807 < key.size + Z.size) := by omega
  clear hown0 hgrow hown hb1 hb2 hi hz0 hz1 hz2 hzs
  go_wp2_with fail
  refine (C3.out _ (HB.out.below hB2) (HK.out.below hB2)).mono ?_
  rintro e w3 ⟨rfl, hb3⟩
  have hB3 := below_step hB2 (Nat.le_refl _) hb3
  go_wp2_with fail
  refine (jefe_any _ (HB.out.below hB3) (HK.out.below hB3)).mono ?_
  rintro e w4 ⟨rfl, hb4⟩
  have hB4 := below_step hB3 (Nat.le_refl _) hb4
  go_wp2_with fail
  go_ret
  exact ⟨rfl, hB4⟩

set_option maxHeartbeats 4000000 in
theorem hmacKeys_walk (key s : ByteArray) (many : Int) (w : World) (hB : GlobB w) (hK : GlobK w) :
    Calls Tryd.prog 4 #[.string key, .string s, .int .i64 many] w fun e w' => e = .returned (.bool true) ∧ Below w.heap.size w w' := by
  have HB : Hid (GlobB w) := hB
  have HK : Hid (GlobK w) := hK
  clear hB hK
  by_cases h0 : key.size ≤ 1024
  · by_cases h1 : s.size ≤ 1024
    · by_cases h2 : key.size ≤ 64
      · exact hmacKeys_short key s many w h2 h1 HB.out HK.out
      · exact hmacKeys_long key s many w (by omega) h0 h1 HB.out HK.out
    · have g0 : decide ((1024 : Int) < (key.size : Int)) = false := by simp; omega
      have g1 : decide ((1024 : Int) < (s.size : Int)) = true := by simp; omega
      clear h0 h1
      go_enter Tryd.func4, Tryd.ntmps4
      go_wp2_with fail
      refine (jefe_any _ HB.out HK.out).mono ?_
      rintro e w3 ⟨rfl, hb3⟩
      go_wp2_with fail
      go_ret
      exact ⟨rfl, hb3⟩
  · have g0 : decide ((1024 : Int) < (key.size : Int)) = true := by simp; omega
    clear h0
    go_enter Tryd.func4, Tryd.ntmps4
    go_wp2_with fail
    refine (jefe_any _ HB.out HK.out).mono ?_
    rintro e w3 ⟨rfl, hb3⟩
    go_wp2_with fail
    go_ret
    exact ⟨rfl, hb3⟩
end Go.Proofs.YtfbgofbjbfidoaaDoor
