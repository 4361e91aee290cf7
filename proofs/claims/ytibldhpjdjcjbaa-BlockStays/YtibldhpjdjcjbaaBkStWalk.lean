/- BlockStays, walked. -/
import Derived.Test.YtibldhpjdjcjbaaBkD
namespace Go.Proofs.Ytibldhpjdjcjbaa
open Go.RowKit
set_option maxRecDepth 100000
set_option linter.unusedSimpArgs false
set_option maxRecDepth 100000

/-- The forty blocks, of which m are written. -/
def styL (m : Nat) : List ByteArray := (List.range 40).map fun i => filledB (if i < m then 1 + i else 0)

/-- The device behind j writes, with a fuse of k ahead of them. -/
def stB (k j : Nat) : DevT := (styL (min j k), (if j ≤ k then (k : Int) - (j : Int) else -1), decide (k < j), ((min j k : Nat) : Int))

theorem styL_len (m : Nat) : (styL m).length = 40 := by unfold styL; simp
theorem styL_at (m i : Nat) (h : i < 40) : strL (styL m) i = filledB (if i < m then 1 + i else 0) := by
  unfold styL strL
  rw [List.getD_eq_getElem?_getD]
  simp [h]
theorem styL_set (m : Nat) (h : m < 40) : (styL m).set m (filledB (1 + m)) = styL (m + 1) := by
  unfold styL
  apply List.ext_getElem?
  intro i
  rw [List.getElem?_set]
  by_cases e : m = i
  · subst e
    simp [h]
  · rw [if_neg e]
    by_cases hi : i < 40
    · have : (i < m) ↔ (i < m + 1) := by omega
      simp [hi, this]
    · simp [hi]
theorem stB_new (k : Nat) : fuseB (newB 40) (k : Int) = stB k 0 := by
  have h1 : List.replicate 40 (zeroB 64) = styL 0 := by
    rw [← filledB_zero]
    unfold styL
    apply List.ext_getElem?
    intro i
    rw [List.getElem?_replicate]
    by_cases hi : i < 40
    · simp only [hi, if_true, List.getElem?_map, List.getElem?_range hi, Option.map_some]
      simp
    · rw [if_neg hi, List.getElem?_eq_none (by simp; omega)]
  unfold fuseB newB stB
  simp only [h1, Nat.zero_min, Nat.zero_le, if_true]
  have : max (k : Int) (-1) = (k : Int) - ((0 : Nat) : Int) := by omega
  rw [this]
  rfl
theorem stB_yes (k j : Nat) (hj : j < 40) (h : j < k) : (stB k j).2.2.1 = false ∧ (stB k j).2.1 ≠ 0 ∧ (writeB (stB k j) j (filledB (1 + j))).1 = stB k (j + 1) := by
  have e1 : (stB k j).2.2.1 = false := decide_eq_false (by omega)
  have e2 : (stB k j).2.1 = (k : Int) - j := if_pos (by omega)
  refine ⟨e1, by rw [e2]; omega, ?_⟩
  unfold writeB
  rw [if_neg (by rw [e1, e2]; rintro (e | e); · cases e
                 · omega), e2, if_pos (by omega)]
  show ((styL (min j k)).set j _, _, _, ((min j k : Nat) : Int) + 1) = (styL (min (j + 1) k), (if j + 1 ≤ k then (k : Int) - ((j + 1 : Nat) : Int) else -1), decide (k < j + 1), ((min (j + 1) k : Nat) : Int))
  rw [show min j k = j by omega, show min (j + 1) k = j + 1 by omega, styL_set j hj, if_pos (by omega), decide_eq_false (by omega)]
  congr 2
  omega
theorem stB_off (k j : Nat) (h : k ≤ j) : ((stB k j).2.2.1 = true ∨ (stB k j).2.1 = 0) ∧ offB (stB k j) = stB k (j + 1) := by
  constructor
  · by_cases e : k < j
    · exact .inl (decide_eq_true e)
    · right
      show (if j ≤ k then (k : Int) - (j : Int) else -1) = 0
      rw [if_pos (by omega)]; omega
  · show (styL (min j k), -1, true, ((min j k : Nat) : Int)) = (styL (min (j + 1) k), (if j + 1 ≤ k then (k : Int) - ((j + 1 : Nat) : Int) else -1), decide (k < j + 1), ((min (j + 1) k : Nat) : Int))
    rw [show min j k = k by omega, show min (j + 1) k = k by omega, if_neg (by omega), decide_eq_true (by omega)]
theorem stB_len (k j : Nat) : (stB k j).1.length = 40 := styL_len _
theorem stB_N (k j : Nat) (h : j ≤ 40) : 0 ≤ (stB k j).2.2.2 ∧ (stB k j).2.2.2 < 1152921504606846976 := by
  show 0 ≤ ((min j k : Nat) : Int) ∧ ((min j k : Nat) : Int) < 1152921504606846976
  omega
theorem stB_read (k n m i : Nat) (hm : min n k = m) (h : i < 40) : readB (onB (stB k n)) i = (filledB (if i < m then 1 + i else 0), 0) := by
  show (strL (styL (min n k)) i, (0 : Int)) = _
  rw [hm, styL_at _ _ h]

/-- What Write answers there. -/
def stE (k j : Nat) : Int := if j < k then 0 else 170

theorem stB_write (w : World) (g b k j : Nat) (h : Hid (DevAt w g b (stB k j))) (hj : j < 40) :
    Calls Try.prog 13 #[.pointer (some ⟨g, 0, none⟩), .int .i64 (j : Int), .string (filledB (1 + j))] w fun e w' => e = .returned (.int .i64 (stE k j)) ∧ DevTo w g b (stB k (j + 1)) w' := by
  unfold stE
  by_cases hk : j < k
  · obtain ⟨h1, h2, h3⟩ := stB_yes k j hj hk
    rw [if_pos hk]
    have := dwrite_yes g b (stB k j) j (filledB (1 + j)) w h.out (by rw [stB_len]; exact hj) (filledB_size _) h1 h2 (stB_N k j (by omega))
    rw [h3] at this
    exact this
  · obtain ⟨h1, h3⟩ := stB_off k j (by omega)
    rw [if_neg hk]
    have := dwrite_off g b (stB k j) j (filledB (1 + j)) w h.out (by rw [stB_len]; exact hj) (filledB_size _) h1
    rw [h3] at this
    exact this


set_option maxHeartbeats 8000000 in
theorem blockStays_walk (x y : Int) (w : World) :
    Calls Try.prog 4 #[.int .i64 x, .int .i64 y] w fun e w' => e = .returned (.bool true) ∧ Below w.heap.size w w' := by
  obtain ⟨x0, hx0, hx1⟩ : ∃ x0 : Nat, bits .and .i64 x 255 = (x0 : Int) ∧ x0 < 256 := ⟨(x % 256).toNat, by rw [i64_mask x 8 (by decide) 255 (by decide)]; omega, by omega⟩
  obtain ⟨k, hk0, hk1⟩ : ∃ k : Nat, bits .and .i64 y 63 = (k : Int) ∧ k < 64 := ⟨(y % 64).toNat, by rw [i64_mask y 6 (by decide) 63 (by decide)]; omega, by omega⟩
  obtain ⟨n, hn0, hn1⟩ : ∃ n : Nat, ((x0 : Int)).tmod 40 = (n : Int) ∧ n < 40 := ⟨x0 % 40, rfl, by omega⟩
  have CN := dnew_any 40 w ⟨by decide, by decide⟩
  go_enter Try.func4, Try.ntmps4
  go_wp2_with fail
  refine CN.mono ?_
  rintro e w1 ⟨g, b, rfl, hd, hg, hb, hB⟩
  have A1 : Hid (DevB w w1 g b (newB 40)) := ⟨hd, hg, hb, hB⟩
  clear CN hd hg hb hB
  go_wp2_with fail
  refine (dfuse_any g b _ _ _ A1.out.1 (by omega)).mono ?_
  rintro e w3 ⟨rfl, hd⟩
  rw [stB_new] at hd
  have A2 : Hid (DevB w w3 g b (stB k 0)) := A1.out.to hd
  clear A1 hd
  go_wp2_with fail
  go_loopw [9] (fun c wr => ∃ j : Nat, j ≤ n ∧ c = .int .i64 j ∧ Hid (DevB w wr g b (stB k j))) (fun c _ => n - (intOf c).toNat)
  case atStart => exact ⟨0, Nat.zero_le _, rfl, A2⟩
  case round =>
    obtain ⟨j, hj, rfl, HD⟩ := hrel
    clear A2
    by_cases hlt : j < n
    · have b0 : (j : Int) < (n : Int) := by omega
      have hw8 : IntKind.u8.wrap (1 + (j : Int)) = ((1 + j : Nat) : Int) := by rw [IntKind.wrap_u8]; omega
      have CF := fun w => filled_any (1 + j) w (by omega)
      rw [show ((1 + j : Nat) : Int) = 1 + (j : Int) by omega] at CF
      go_wp2_with fail
      refine (CF _).mono ?_
      rintro e w4 ⟨rfl, hb4⟩
      have A3 : Hid (DevB w w4 g b (stB k j)) := HD.out.on hb4
      clear HD hb4 CF
      have CW := stB_write w4 g b k j A3.out.1 (by omega)
      unfold stE at CW
      by_cases hjk : j < k
      · rw [if_pos hjk] at CW
        have b1 : (j : Int) < (k : Int) := by omega
        have b2 : ¬ ((k : Int) ≤ (j : Int)) := by omega
        go_wp2_with fail
        refine CW.mono ?_
        rintro e w5 ⟨rfl, hd⟩
        have A4 : Hid (DevB w w5 g b (stB k (j + 1))) := A3.out.to hd
        clear A3 hd CW
        go_wp2_with fail
        refine ⟨⟨j + 1, by omega, by go_num, A4⟩, ?_⟩
        simp [intOf]; omega
      · rw [if_neg hjk] at CW
        have b1 : ¬ ((j : Int) < (k : Int)) := by omega
        have b2 : (k : Int) ≤ (j : Int) := by omega
        go_wp2_with fail
        refine CW.mono ?_
        rintro e w5 ⟨rfl, hd⟩
        have A4 : Hid (DevB w w5 g b (stB k (j + 1))) := A3.out.to hd
        clear A3 hd CW
        go_wp2_with fail
        refine ⟨⟨j + 1, by omega, by go_num, A4⟩, ?_⟩
        simp [intOf]; omega
    · obtain rfl : j = n := by omega
      have b0 : ¬ ((j : Int) < (j : Int)) := by omega
      by_cases hkn : k < j
      · have m0 : (k : Int) < (j : Int) := by omega
        have m1 : ¬ ((j : Int) ≤ (k : Int)) := by omega
        have HO : Hid ((stB k j).2.2.1 = true) := decide_eq_true hkn
        have HM : Hid (min j k = k) := by show _ = _; omega
        have HN : Hid ((stB k j).2.2.2 = (k : Int)) := congrArg Int.ofNat HM.out
        go_wp2_with fail
        refine (doff_any g b _ _ HD.out.1).mono ?_
        rintro e w4 ⟨rfl, hw⟩
        subst hw
        rw [HO.out]
        go_wp2_with fail
        refine (dwrites_any g b _ _ HD.out.1).mono ?_
        rintro e w5 ⟨rfl, hw⟩
        subst hw
        rw [HN.out]
        go_wp2_with fail
        refine (don_any g b _ _ HD.out.1).mono ?_
        rintro e w6 ⟨rfl, hd⟩
        have A5 : Hid (DevB w w6 g b (onB (stB k j))) := HD.out.to hd
        clear HD hd HO HN
        go_wp2_with fail
        go_loopw [11] (fun c wr => ∃ i : Nat, i ≤ 40 ∧ c = .int .i64 i ∧ Hid (DevB w wr g b (onB (stB k j)))) (fun c _ => 40 - (intOf c).toNat)
        case atStart => exact ⟨0, Nat.zero_le _, rfl, A5⟩
        case round =>
          obtain ⟨i, hi, rfl, HD⟩ := hrel
          clear A5
          by_cases hlt : i < 40
          · have e0 : (i : Int) < 40 := by omega
            by_cases him : i < k
            · have e1 : (i : Int) < (k : Int) := by omega
              have hw8 : IntKind.u8.wrap (1 + (i : Int)) = 1 + (i : Int) := by rw [IntKind.wrap_u8]; omega
              have HRd := stB_read k j _ i HM.out hlt
              rw [if_pos him] at HRd
              have CF := fun w => filled_any (1 + i) w (by omega)
              rw [show ((1 + i : Nat) : Int) = 1 + (i : Int) by omega] at CF
              go_wp2_with fail
              refine (dread_any g b _ i _ HD.out.1 (by show i < (stB k j).1.length; rw [stB_len]; exact hlt)).mono ?_
              rintro e w7 ⟨rfl, hw⟩
              subst hw
              rw [HRd]
              clear HRd
              generalize filledB _ = Z at *
              have qZ : (Z.toList == Z.toList) = true := by simp
              go_wp2_with fail
              refine (CF _).mono ?_
              rintro e w8 ⟨rfl, hb8⟩
              have A6 : Hid (DevB w w8 g b (onB (stB k j))) := HD.out.on hb8
              clear HD hb8 CF
              go_wp2_with fail
              refine ⟨⟨i + 1, by omega, by go_num, A6⟩, ?_⟩
              simp [intOf]; omega
            · have e1 : ¬ ((i : Int) < (k : Int)) := by omega
              have HRd := stB_read k j _ i HM.out hlt
              rw [if_neg him] at HRd
              have CF := fun w => filled_any 0 w (by omega)
              go_wp2_with fail
              refine (dread_any g b _ i _ HD.out.1 (by show i < (stB k j).1.length; rw [stB_len]; exact hlt)).mono ?_
              rintro e w7 ⟨rfl, hw⟩
              subst hw
              rw [HRd]
              clear HRd
              generalize filledB _ = Z at *
              have qZ : (Z.toList == Z.toList) = true := by simp
              go_wp2_with fail
              refine (CF _).mono ?_
              rintro e w8 ⟨rfl, hb8⟩
              have A6 : Hid (DevB w w8 g b (onB (stB k j))) := HD.out.on hb8
              clear HD hb8 CF
              go_wp2_with fail
              refine ⟨⟨i + 1, by omega, by go_num, A6⟩, ?_⟩
              simp [intOf]; omega
          · obtain rfl : i = 40 := by omega
            go_wp2_with fail
            refine (awake17_on HD.out.2.2.2).mono ?_
            rintro e w2 ⟨rfl, hb2⟩
            go_wp2
            go_ret
            exact ⟨rfl, hb2⟩
      · have m0 : ¬ ((k : Int) < (j : Int)) := by omega
        have m1 : (j : Int) ≤ (k : Int) := by omega
        have HO : Hid ((stB k j).2.2.1 = false) := decide_eq_false hkn
        have HM : Hid (min j k = j) := by show _ = _; omega
        have HN : Hid ((stB k j).2.2.2 = (j : Int)) := congrArg Int.ofNat HM.out
        go_wp2_with fail
        refine (doff_any g b _ _ HD.out.1).mono ?_
        rintro e w4 ⟨rfl, hw⟩
        subst hw
        rw [HO.out]
        go_wp2_with fail
        refine (dwrites_any g b _ _ HD.out.1).mono ?_
        rintro e w5 ⟨rfl, hw⟩
        subst hw
        rw [HN.out]
        go_wp2_with fail
        refine (don_any g b _ _ HD.out.1).mono ?_
        rintro e w6 ⟨rfl, hd⟩
        have A5 : Hid (DevB w w6 g b (onB (stB k j))) := HD.out.to hd
        clear HD hd HO HN
        go_wp2_with fail
        go_loopw [11] (fun c wr => ∃ i : Nat, i ≤ 40 ∧ c = .int .i64 i ∧ Hid (DevB w wr g b (onB (stB k j)))) (fun c _ => 40 - (intOf c).toNat)
        case atStart => exact ⟨0, Nat.zero_le _, rfl, A5⟩
        case round =>
          obtain ⟨i, hi, rfl, HD⟩ := hrel
          clear A5
          by_cases hlt : i < 40
          · have e0 : (i : Int) < 40 := by omega
            by_cases him : i < j
            · have e1 : (i : Int) < (j : Int) := by omega
              have hw8 : IntKind.u8.wrap (1 + (i : Int)) = 1 + (i : Int) := by rw [IntKind.wrap_u8]; omega
              have HRd := stB_read k j _ i HM.out hlt
              rw [if_pos him] at HRd
              have CF := fun w => filled_any (1 + i) w (by omega)
              rw [show ((1 + i : Nat) : Int) = 1 + (i : Int) by omega] at CF
              go_wp2_with fail
              refine (dread_any g b _ i _ HD.out.1 (by show i < (stB k j).1.length; rw [stB_len]; exact hlt)).mono ?_
              rintro e w7 ⟨rfl, hw⟩
              subst hw
              rw [HRd]
              clear HRd
              generalize filledB _ = Z at *
              have qZ : (Z.toList == Z.toList) = true := by simp
              go_wp2_with fail
              refine (CF _).mono ?_
              rintro e w8 ⟨rfl, hb8⟩
              have A6 : Hid (DevB w w8 g b (onB (stB k j))) := HD.out.on hb8
              clear HD hb8 CF
              go_wp2_with fail
              refine ⟨⟨i + 1, by omega, by go_num, A6⟩, ?_⟩
              simp [intOf]; omega
            · have e1 : ¬ ((i : Int) < (j : Int)) := by omega
              have HRd := stB_read k j _ i HM.out hlt
              rw [if_neg him] at HRd
              have CF := fun w => filled_any 0 w (by omega)
              go_wp2_with fail
              refine (dread_any g b _ i _ HD.out.1 (by show i < (stB k j).1.length; rw [stB_len]; exact hlt)).mono ?_
              rintro e w7 ⟨rfl, hw⟩
              subst hw
              rw [HRd]
              clear HRd
              generalize filledB _ = Z at *
              have qZ : (Z.toList == Z.toList) = true := by simp
              go_wp2_with fail
              refine (CF _).mono ?_
              rintro e w8 ⟨rfl, hb8⟩
              have A6 : Hid (DevB w w8 g b (onB (stB k j))) := HD.out.on hb8
              clear HD hb8 CF
              go_wp2_with fail
              refine ⟨⟨i + 1, by omega, by go_num, A6⟩, ?_⟩
              simp [intOf]; omega
          · obtain rfl : i = 40 := by omega
            go_wp2_with fail
            refine (awake17_on HD.out.2.2.2).mono ?_
            rintro e w2 ⟨rfl, hb2⟩
            go_wp2
            go_ret
            exact ⟨rfl, hb2⟩

end Go.Proofs.Ytibldhpjdjcjbaa
