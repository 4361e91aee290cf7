/- The walk of PolyOne. -/
import Derived.Test.YtmegllddjlippaaDoorPyJ
import Derived.Test.YtmegllddjlippaaDoorZer
namespace Go.Proofs.YtmegllddjlippaaDoor
open Go.RowKit
set_option linter.unusedSimpArgs false

/-- The key whose first half is the number 1. -/
def oneKey (half : ByteArray) : ByteArray := (⟨#[1]⟩ ++ zeroB 15) ++ half
theorem oneKey_size (half : ByteArray) (h : half.size = 16) : (oneKey half).size = 32 := by
  unfold oneKey
  rw [ByteArray.size_append, ByteArray.size_append, zeroB_size, h]; rfl
theorem oneKey_first (half : ByteArray) (i : Nat) (hi : i < 16) : bt (oneKey half) i = if i = 0 then 1 else 0 := by
  unfold oneKey
  rw [bt_append_left _ _ _ (by rw [ByteArray.size_append, zeroB_size]; exact hi)]
  by_cases h : i = 0
  · subst h
    rw [bt_append_left _ _ _ (by decide)]; rfl
  · rw [if_neg h]
    have := bt_append_right ⟨#[1]⟩ (zeroB 15) (i - 1)
    rw [show (⟨#[1]⟩ : ByteArray).size + (i - 1) = i by show 1 + (i - 1) = i; omega, bt_zeroB] at this
    exact this
theorem oneKey_second (half : ByteArray) (j : Nat) : bt (oneKey half) (16 + j) = bt half j := by
  unfold oneKey
  have := bt_append_right (⟨#[1]⟩ ++ zeroB 15) half j
  rw [show ((⟨#[1]⟩ : ByteArray) ++ zeroB 15).size = 16 by rw [ByteArray.size_append, zeroB_size]; rfl] at this
  exact this
theorem oneKey_clamp (half : ByteArray) : clampN (oneKey half) = 1 := by
  unfold clampN
  rw [valF_congr _ (fun i => if i = 0 then 1 else 0) 16 (fun i hi => ?_)]
  · decide
  · unfold clampF
    rw [oneKey_first half i hi]
    by_cases h : i = 0
    · subst h; decide
    · rw [if_neg h]
      split
      · rfl
      · split <;> rfl
/-- The digits of the sum, not carried. -/
def digO (half s : ByteArray) (i : Nat) : Nat := bt half i + bt s i + (if i = s.size then 1 else 0)
theorem valF_sum (f g : Nat → Nat) (n : Nat) : valF (fun i => f i + g i) n = valF f n + valF g n := by
  induction n with
  | zero => rfl
  | succ n ih =>
    show valF (fun i => f i + g i) n + (f n + g n) * 256 ^ n = valF f n + f n * 256 ^ n + (valF g n + g n * 256 ^ n)
    rw [ih, Nat.add_mul]; omega
theorem digO_val (half s : ByteArray) (h0 : 0 < s.size) (hs : s.size ≤ 15) :
    valL (tabN 16 (digO half s)) = accN s (clampN (oneKey half)) ((s.size + 15) / 16) + valF (fun j => bt (oneKey half) (16 + j)) 16 := by
  rw [valL_tabN, oneKey_clamp, acc_one s h0 hs, valF_congr (fun j => bt (oneKey half) (16 + j)) (bt half) 16 (fun i _ => oneKey_second half i)]
  have h1 := valF_upd (fun i => bt half i + bt s i) (digO half s) s.size 1 16 (fun j hj => by unfold digO; rw [if_neg hj]; rfl) (by unfold digO; rw [if_pos rfl]) (by omega)
  rw [h1, valF_sum (bt half) (bt s) 16]
  have h2 := valF_past (bt s) s.size (16 - s.size) (fun j hj => bt_past s j hj)
  rw [show s.size + (16 - s.size) = 16 by omega] at h2
  rw [h2, Nat.one_mul]; omega
theorem one_digit (half s : ByteArray) (h0 : 0 < s.size) (hs : s.size ≤ 15) (i : Nat) (hi : i < 16) :
    (carryAt (tabN 16 (digO half s)) i + digO half s i) % 256 = bt (tagB (oneKey half) s) i := by
  rw [bt_tagB _ _ i hi]
  have := carried_digit (tabN 16 (digO half s)) i
  rw [tabN_getD _ _ _ hi, digO_val half s h0 hs] at this
  exact this
theorem one_carry (half s : ByteArray) (i : Nat) : carryAt (tabN 16 (digO half s)) i ≤ 3 := by
  refine carryAt_le _ 3 (fun j => ?_) i
  by_cases hj : j < 16
  · rw [tabN_getD _ _ _ hj]
    have h1 := bt_lt half j
    have h2 := bt_lt s j
    unfold digO
    split <;> omega
  · rw [getD_none _ _ (by rw [tabN_length]; omega)]; decide
theorem one_next (half s : ByteArray) (i : Nat) (hi : i < 16) : carryAt (tabN 16 (digO half s)) (i + 1) = (carryAt (tabN 16 (digO half s)) i + digO half s i) / 256 := by
  show (carryAt (tabN 16 (digO half s)) i + (tabN 16 (digO half s)).getD i 0) / 256 = _
  rw [tabN_getD _ _ _ hi]

set_option maxRecDepth 100000 in
set_option maxHeartbeats 4000000 in
theorem polyOne_walk (half s : ByteArray) (w : World) (hY : GlobY w) :
    Calls Tryd.prog 6 #[.string half, .string s] w fun e w' => e = .returned (.bool true) ∧ Below w.heap.size w w' := by
  have CA : Hid (∀ w', Below w.heap.size w w' → _) := fun w' hb => awake_on w w' hY hb
  by_cases hh : half.size = 16
  · have g0 : (((half.size : Int) != 16)) = false := by rw [bne_eq_false_iff_eq]; omega
    by_cases h15 : 15 < s.size
    · have g1 : decide ((15 : Int) < (s.size : Int)) = true := by simp; omega
      clear hY
      go_enter Tryd.func6, Tryd.ntmps6
      go_wp2_with fail
      refine (CA.out _ (Below.refl _ _)).mono ?_
      rintro e w1 ⟨rfl, hb1⟩
      go_wp2_with fail
      go_ret
      exact ⟨rfl, hb1⟩
    · have g1 : decide ((15 : Int) < (s.size : Int)) = false := by simp; omega
      by_cases he : s.size = 0
      · have g2 : s.toList.isEmpty = true := by
          have : s = ⟨#[]⟩ := by
            apply bytes_ext
            have : s.data.size = 0 := he
            rw [Array.eq_empty_of_size_eq_zero this]
          rw [this]; decide +kernel
        clear hY he
        go_enter Tryd.func6, Tryd.ntmps6
        go_wp2_with fail
        refine (CA.out _ (Below.refl _ _)).mono ?_
        rintro e w1 ⟨rfl, hb1⟩
        go_wp2_with fail
        go_ret
        exact ⟨rfl, hb1⟩
      · have g2 : s.toList.isEmpty = false := by
          rw [toList_data]
          cases h : s.data.toList with
          | nil =>
            have h2 : s.data.toList.length = 0 := by rw [h]; rfl
            rw [Array.length_toList] at h2
            exact absurd h2 he
          | cons a l => rfl
        obtain ⟨K, HK⟩ : ∃ K, Hid (K = oneKey half) := ⟨_, rfl⟩
        have hK32 : K.size = 32 := by rw [HK.out]; exact oneKey_size half hh
        obtain ⟨T, HT⟩ : ∃ T, Hid (T = tagB K s) := ⟨_, rfl⟩
        have hT16 : T.size = 16 := by rw [HT.out]; exact tagB_size _ _
        have CM' := fun w' hb => mac_on K s w w' hY hb hK32 (by omega)
        rw [← HT.out] at CM'
        have CM : Hid (∀ w', Below w.heap.size w w' → _) := CM'
        obtain ⟨L, HL⟩ : ∃ L, Hid (L = tabN 16 (digO half s)) := ⟨_, rfl⟩
        have HD : Hid (∀ i, i < 16 → (carryAt L i + digO half s i) % 256 = bt T i) := by
          show ∀ i, _
          intro i hi
          rw [HL.out, HT.out, HK.out]; exact one_digit half s (by omega) (by omega) i hi
        have HC : Hid (∀ i, carryAt L i ≤ 3) := by show ∀ i, _; rw [HL.out]; exact one_carry half s
        have HN : Hid (∀ i, i < 16 → carryAt L (i + 1) = (carryAt L i + digO half s i) / 256) := by show ∀ i, _; rw [HL.out]; exact one_next half s
        have H0 : Hid (carryAt L 0 = 0) := rfl
        obtain ⟨c, Hc⟩ : ∃ c, Hid (c = carryAt L) := ⟨_, rfl⟩
        rw [← Hc.out] at HD HC HN H0
        obtain ⟨Z, HZ⟩ : ∃ Z, Hid (Z = zeroB 15) := ⟨_, rfl⟩
        have hZ15 : Z.size = 15 := by rw [HZ.out]; exact zeroB_size _
        obtain ⟨A, hA⟩ : ∃ A, (⟨#[1]⟩ : ByteArray) ++ Z = A := ⟨_, rfl⟩
        have hA16 : A.size = 16 := by rw [← hA, ByteArray.size_append, hZ15]; rfl
        have hAK : A ++ half = K := by rw [← hA, HZ.out, HK.out]; rfl
        have m1 := fun w => make_zeros 15 15 rfl (by decide) w
        have v1 : (convert 29 9 (.slice (some ⟨w.heap.size, 0, none⟩) 15 15)).run Tryd.prog (w.alloc (.cells (zcells 15) 5)) = .ok (.string Z) (w.alloc (.cells (zcells 15) 5)) := by
          rw [HZ.out]; exact conv_zeros (row_zeros 15 w)
        have hB0 : Below w.heap.size w (w.alloc (.cells (zcells 15) 5)) := below_new w _
        have hsum1 : ¬ (9223372036854775807 < 1 + Z.size) := by omega
        have hsum2 : ¬ (9223372036854775807 < A.size + half.size) := by omega
        have g3 : (((T.size : Int) != 16)) = false := by rw [bne_eq_false_iff_eq]; omega
        clear CM' hY HZ HL Hc HT HK
        go_enter Tryd.func6, Tryd.ntmps6
        go_wp2_with fail
        refine (CM.out _ hB0).mono ?_
        rintro e w1 ⟨rfl, hB1⟩
        clear CM hB0 m1 v1 hsum1 hsum2 hA hAK
        go_wp2_with fail
        go_loopw [7, 8] (fun cr i wr => ∃ k : Nat, k ≤ 16 ∧ i = .int .i64 k ∧ cr = .int .i64 ((c k : Nat) : Int) ∧ Below w.heap.size w wr) (fun _ i _ => 16 - (intOf i).toNat)
        case atStart => exact ⟨0, Nat.zero_le _, rfl, by rw [H0.out]; rfl, hB1⟩
        case round =>
          clear hB1
          obtain ⟨k, hk, rfl, rfl, hbl⟩ := hrel
          by_cases hlt : k < 16
          · have h1 := HC.out k
            have h3 := HD.out k hlt
            have HC4 : Hid (c (k + 1) = (c k + digO half s k) / 256) := HN.out k hlt
            have bH := bt_get half k (by omega)
            have bT := bt_get T k (by omega)
            have lH := bt_lt half k
            have lS := bt_lt s k
            have hdig : digO half s k = bt half k + bt s k + (if k = s.size then 1 else 0) := rfl
            by_cases hks : k < s.size
            · have bS := bt_get s k hks
              rw [if_neg (by omega)] at hdig
              generalize digO half s k = D at *
              generalize c k = X at *
              generalize hbh : bt half k = H at *
              generalize hbs : bt s k = Y at *
              generalize hbt : bt T k = U at *
              obtain ⟨P, hP⟩ : ∃ P : Nat, P = X + H := ⟨_, rfl⟩
              obtain ⟨S, hS⟩ : ∃ S : Nat, S = P + Y := ⟨_, rfl⟩
              have e1 : (X : Int) + (H : Int) = (P : Int) := by omega
              have bP : P ≤ 1000 := by omega
              have e2 : (P : Int) + (Y : Int) = (S : Int) := by omega
              have q1 : decide ((k : Int) < (s.size : Int)) = true := by simp; omega
              have q2 : ((k : Int) == (s.size : Int)) = false := by rw [beq_eq_false_iff_ne]; omega
              have e3 : bits .and .i64 (S : Int) 255 = (U : Int) := by rw [and255_nat, ← h3, show S = X + D by omega]
              have HS : Hid (S = X + D) := by show _ = _; omega
              have bS' : S ≤ 1000 := by omega
              have b0 : (k : Int) < 16 := by omega
              have lU : U < 256 := by omega
              clear h3 hdig hS hbh hbt
              try clear hP
              go_wp2
              go_roundw
              case rel =>
                refine ⟨k + 1, by omega, by go_num, ?_, hbl⟩
                rw [HC4.out, ← HS.out]
                exact ret_val (by omega)
              case measure => simp [intOf]; omega
            · by_cases hke : k = s.size
              · rw [if_pos hke, bt_past s k (by omega)] at hdig
                generalize digO half s k = D at *
                generalize c k = X at *
                generalize hbh : bt half k = H at *
                generalize hbt : bt T k = U at *
                obtain ⟨P, hP⟩ : ∃ P : Nat, P = X + H := ⟨_, rfl⟩
                obtain ⟨S, hS⟩ : ∃ S : Nat, S = P + 1 := ⟨_, rfl⟩
                have e1 : (X : Int) + (H : Int) = (P : Int) := by omega
                have bP : P ≤ 1000 := by omega
                have e2 : (P : Int) + 1 = (S : Int) := by omega
                have q1 : decide ((k : Int) < (s.size : Int)) = false := by simp; omega
                have q2 : ((k : Int) == (s.size : Int)) = true := by simp; omega
                clear hke hks
                have e3 : bits .and .i64 (S : Int) 255 = (U : Int) := by rw [and255_nat, ← h3, show S = X + D by omega]
                have HS : Hid (S = X + D) := by show _ = _; omega
                have bS' : S ≤ 1000 := by omega
                have b0 : (k : Int) < 16 := by omega
                have lU : U < 256 := by omega
                clear h3 hdig hS hbh hbt
                try clear hP
                go_wp2
                go_roundw
                case rel =>
                  refine ⟨k + 1, by omega, by go_num, ?_, hbl⟩
                  rw [HC4.out, ← HS.out]
                  exact ret_val (by omega)
                case measure => simp [intOf]; omega
              · rw [if_neg hke, bt_past s k (by omega)] at hdig
                generalize digO half s k = D at *
                generalize c k = X at *
                generalize hbh : bt half k = H at *
                generalize hbt : bt T k = U at *
                obtain ⟨S, hS⟩ : ∃ S : Nat, S = X + H := ⟨_, rfl⟩
                have e1 : (X : Int) + (H : Int) = (S : Int) := by omega
                have q1 : decide ((k : Int) < (s.size : Int)) = false := by simp; omega
                have q2 : ((k : Int) == (s.size : Int)) = false := by rw [beq_eq_false_iff_ne]; omega
                have e3 : bits .and .i64 (S : Int) 255 = (U : Int) := by rw [and255_nat, ← h3, show S = X + D by omega]
                have HS : Hid (S = X + D) := by show _ = _; omega
                have bS' : S ≤ 1000 := by omega
                have b0 : (k : Int) < 16 := by omega
                have lU : U < 256 := by omega
                clear h3 hdig hS hbh hbt
                try clear hP
                go_wp2
                go_roundw
                case rel =>
                  refine ⟨k + 1, by omega, by go_num, ?_, hbl⟩
                  rw [HC4.out, ← HS.out]
                  exact ret_val (by omega)
                case measure => simp [intOf]; omega
          · have hk16 : k = 16 := by omega
            subst hk16
            go_wp2_with fail
            refine (CA.out _ hbl).mono ?_
            rintro e w5 ⟨rfl, hB5⟩
            clear CA hbl
            go_wp2_with fail
            go_ret
            exact ⟨rfl, hB5⟩
  · have g0 : (((half.size : Int) != 16)) = true := by rw [bne_iff_ne]; omega
    clear hY
    go_enter Tryd.func6, Tryd.ntmps6
    go_wp2_with fail
    refine (CA.out _ (Below.refl _ _)).mono ?_
    rintro e w1 ⟨rfl, hb1⟩
    go_wp2_with fail
    go_ret
    exact ⟨rfl, hb1⟩
end Go.Proofs.YtmegllddjlippaaDoor
