/- The walk of WireRecords. -/
import Derived.Test.YtmjjpfinkpfifaaDoorWiI
import Derived.Test.YtmjjpfinkpfifaaDoorRWiR
import Derived.Test.YtmjjpfinkpfifaaDoorOpenW
namespace Go.Proofs.YtmjjpfinkpfifaaDoor
open Go.RowKit
set_option maxRecDepth 100000
set_option linter.unusedSimpArgs false
set_option linter.unusedVariables false
set_option maxRecDepth 100000

theorem lightR_exQ (H : ByteArray) (o : OpT) (l : List (Int × ByteArray)) : ∃ D : Bool, D = true ↔ LightR H o l :=
  ⟨@decide (LightR H o l) (Classical.propDecidable _), @decide_eq_true_iff (LightR H o l) (Classical.propDecidable _)⟩

theorem lightR_few (H : ByteArray) (o : OpT) (l : List (Int × ByteArray)) (h : LightR H o l) : l.length ≤ 1048576 ∧ (∀ i, (wrL l i).2.size ≤ 1000000) ∧ H.size ≤ 1000000 ∧ o.2.2.2.2.1.size ≤ 1048576 ∧ o.2.2.2.2.1.size ≤ 1000000 ∧ o.2.2.2.2.2.size ≤ 1000000 := by
  obtain ⟨h1, h2, h3, h4⟩ := h
  have h5 := h2.1
  have h6 := h2.2
  refine ⟨by omega, fun i => ?_, by omega, by omega, by omega, by omega⟩
  by_cases hi : i < l.length
  · exact Nat.le_trans (h1 i hi (by omega)) (by decide)
  · unfold wrL
    rw [List.getD_eq_getElem?_getD, List.getElem?_eq_none (by omega)]
    exact Nat.zero_le _


set_option maxHeartbeats 8000000 in
theorem wireRecords_walk (R : RecT) (a : Option Addr) (c : Nat) (w : World) (hG : Glob8 w) (hI : WrAt w a R.2.2.2.2.2.2.2.length R.2.2.2.2.2.2.2) (hl : R.2.2.2.2.2.2.2.length ≤ maxLen) (hz : ∀ i, (wrL R.2.2.2.2.2.2.2 i).2.size ≤ maxLen) (hs : SliceOk a R.2.2.2.2.2.2.2.length c ∧ c ≤ maxLen) (hH : R.2.2.2.2.1.size ≤ maxLen) (ho : OpOk R.2.2.2.2.2.1) :
    Calls Tryd.prog 3 #[.agg (recA R a c)] w fun e w' => e = .returned (.bool true) ∧ Below w.heap.size w w' := by
  obtain ⟨M, hM⟩ := mayM_ex19
  obtain ⟨D, hD⟩ := lightR_exQ R.2.2.2.2.1 R.2.2.2.2.2.1 R.2.2.2.2.2.2.2
  have CL' : ∀ W, Below w.heap.size w W → _ := fun W hW => rlightR_any R a c W D hD (hI.below hW) hs.1.cap hs.2 hz hH ho.2.1 ho.2.2
  have hfew := lightR_few R.2.2.2.2.1 R.2.2.2.2.2.1 R.2.2.2.2.2.2.2
  obtain ⟨⟨Sx, Ex⟩, hp⟩ : ∃ p, putRC M R = p := ⟨_, rfl⟩
  have CP' : LightR R.2.2.2.2.1 R.2.2.2.2.2.1 R.2.2.2.2.2.2.2 → ∀ W, Below w.heap.size w W → _ := fun hl W hW => putR_any M hM R a c W (hG.below hW) (hfew hl).2.2.2.1 ho.2.2 (hI.below hW) hz (hfew hl).1 hH
  have CR' : LightR R.2.2.2.2.1 R.2.2.2.2.2.1 R.2.2.2.2.2.2.2 → ∀ W, Below w.heap.size w W → _ := fun hl W hW => rputR_any M hM R a c W (hfew hl).2.2.2.2.1 (hfew hl).2.2.2.2.2 (hI.below hW) (hfew hl).2.1 (hfew hl).1 (hfew hl).2.2.1
  rw [hp] at CP' CR'
  have CX' : LightR R.2.2.2.2.1 R.2.2.2.2.2.1 R.2.2.2.2.2.2.2 → ∀ W, Below w.heap.size w W → _ := fun hl W hW => checkR_any M hM R a c W (hG.below hW) (hfew hl).2.2.2.1 ho.2.2 (hI.below hW) hz (Nat.le_trans (hfew hl).1 (by decide)) hH
  have CY' : LightR R.2.2.2.2.1 R.2.2.2.2.2.1 R.2.2.2.2.2.2.2 → ∀ W, Below w.heap.size w W → _ := fun hl W hW => rcheckR_any M hM R a c W (hfew hl).2.2.2.1 ho.2.2 (hI.below hW) hz (Nat.le_trans (hfew hl).1 (by decide)) hH
  obtain ⟨Xc, hXc⟩ : ∃ Xc : Int, (if mayRb M R = true then (0 : Int) else 1) = Xc := ⟨_, rfl⟩
  simp only [hXc] at CX' CY'
  have CT' : Ex = 0 → ∀ W, Below w.heap.size w W → _ := fun he W hW => by
    have hp0 : putRC M R = (Sx, 0) := by rw [hp, he]
    have h := takeR_any M hM Sx W (hG.below hW) (by have := putB_size _ _ _ hp0; omega)
    rw [(takeR_put M hM _ _ hp0).1] at h
    exact h
  have CS' : LightR R.2.2.2.2.1 R.2.2.2.2.2.1 R.2.2.2.2.2.2.2 → ∀ (a1 : Option Addr) (c1 : Nat) (W : World), Below w.heap.size w W → R.2.2.2.2.2.2.2.length ≤ c1 → WrAt W a1 R.2.2.2.2.2.2.2.length R.2.2.2.2.2.2.2 → _ := fun hl a1 c1 W hW h1 h2 => rsameR_any R R true ⟨fun _ => rfl, fun _ => rfl⟩ a1 a c1 c W (hfew hl).1 h1 hs.1.cap h2 (hI.below hW)
  obtain ⟨Kd, F, C, S, H, ⟨k0, ⟨k1, k2⟩, ⟨k3, k4⟩, ⟨k5, k6⟩, s7, s8⟩, q, l⟩ := R
  unfold TakenR at CT'
  simp only [recA] at CL' CP' CR' CT' CS' CX' CY' hD hfew ⊢
  obtain ⟨n, hn⟩ : ∃ n, l.length = n := ⟨_, rfl⟩
  simp only [hn] at CL' CP' CR' CT' CS' CX' CY' ⊢
  have CA : Hid (∀ W, Below w.heap.size w W → Calls Tryd.prog 10 #[] W fun e w' => e = .returned (.bool true) ∧ Below w.heap.size w w') := fun W hW => (awake19 W (hG.below hW)).mono fun e w' h => ⟨h.1, below_step hW (Nat.le_refl _) h.2⟩
  have HD : Hid (D = true ↔ LightR H (k0, (k1, k2), (k3, k4), (k5, k6), s7, s8) l) := hD
  have CL : Hid (∀ W, Below w.heap.size w W → _) := CL'
  have CP : Hid (LightR H (k0, (k1, k2), (k3, k4), (k5, k6), s7, s8) l → ∀ W, Below w.heap.size w W → _) := CP'
  have CR : Hid (LightR H (k0, (k1, k2), (k3, k4), (k5, k6), s7, s8) l → ∀ W, Below w.heap.size w W → _) := CR'
  have CX : Hid (LightR H (k0, (k1, k2), (k3, k4), (k5, k6), s7, s8) l → ∀ W, Below w.heap.size w W → _) := CX'
  have CY : Hid (LightR H (k0, (k1, k2), (k3, k4), (k5, k6), s7, s8) l → ∀ W, Below w.heap.size w W → _) := CY'
  have CT : Hid (Ex = 0 → ∀ W, Below w.heap.size w W → Calls Tryd.prog 15 #[.string Sx] W fun e w' => ∃ a1 c1, e = .returned (.tuple #[.agg #[.int .i64 Kd, .int .i64 F, .int .i64 C, .int .i64 S, .string H, .int .i64 k0, .int .i64 k1, .int .i64 k2, .int .i64 k3, .int .i64 k4, .int .i64 k5, .int .i64 k6, .string s7, .string s8, .int .i64 q, .slice a1 n c1], .int .i64 0]) ∧ n ≤ c1 ∧ WrAt w' a1 n l ∧ Below W.heap.size W w') := fun he W hW => (CT' he W hW).mono fun e w' ⟨a1, c1, h1, h2, h3, h4, h5⟩ => ⟨a1, c1, h1, h2, h4, h5⟩
  have CS0 : Hid (LightR H (k0, (k1, k2), (k3, k4), (k5, k6), s7, s8) l → ∀ (a1 : Option Addr) (c1 : Nat) (W : World), Below w.heap.size w W → n ≤ c1 → WrAt W a1 n l → _) := CS'
  clear CL' CP' CR' CT' CS' CX' CY' hD hn hp hXc hG hI hl hz hs hH ho hfew hM
  have HB0 : Hid (Below w.heap.size w (w.alloc (.cells #[.int .i64 Kd, .int .i64 F, .int .i64 C, .int .i64 S, .string H, .int .i64 k0, .int .i64 k1, .int .i64 k2, .int .i64 k3, .int .i64 k4, .int .i64 k5, .int .i64 k6, .string s7, .string s8, .int .i64 q, .slice a n c] 28))) := below_new _ _
  have HK0 : Hid (Blk (w.alloc (.cells #[.int .i64 Kd, .int .i64 F, .int .i64 C, .int .i64 S, .string H, .int .i64 k0, .int .i64 k1, .int .i64 k2, .int .i64 k3, .int .i64 k4, .int .i64 k5, .int .i64 k6, .string s7, .string s8, .int .i64 q, .slice a n c] 28)) 28 w.heap.size #[.int .i64 Kd, .int .i64 F, .int .i64 C, .int .i64 S, .string H, .int .i64 k0, .int .i64 k1, .int .i64 k2, .int .i64 k3, .int .i64 k4, .int .i64 k5, .int .i64 k6, .string s7, .string s8, .int .i64 q, .slice a n c]) := Blk.new _ _ _
  go_enter Tryd.func3, Tryd.ntmps3
  go_wp2_with fail
  obtain ⟨w0, hw0⟩ : ∃ w0, w.alloc (.cells #[.int .i64 Kd, .int .i64 F, .int .i64 C, .int .i64 S, .string H, .int .i64 k0, .int .i64 k1, .int .i64 k2, .int .i64 k3, .int .i64 k4, .int .i64 k5, .int .i64 k6, .string s7, .string s8, .int .i64 q, .slice a n c] 28) = w0 := ⟨_, rfl⟩
  obtain ⟨h0, hh0⟩ : ∃ h0, w.heap.size = h0 := ⟨_, rfl⟩
  rw [hw0] at HB0 HK0
  rw [hh0] at HK0
  try rw [hw0]
  try rw [hh0]
  clear hw0 hh0
  refine (CL.out w0 HB0.out).mono ?_
  rintro e w1 ⟨rfl, hb1⟩
  have hB1 : Below w.heap.size w w1 := below_step HB0.out (Nat.le_refl _) hb1
  have HK1 : Hid (Blk w1 28 h0 #[.int .i64 Kd, .int .i64 F, .int .i64 C, .int .i64 S, .string H, .int .i64 k0, .int .i64 k1, .int .i64 k2, .int .i64 k3, .int .i64 k4, .int .i64 k5, .int .i64 k6, .string s7, .string s8, .int .i64 q, .slice a n c]) := HK0.out.on hb1
  clear hb1 HB0 HK0 CL
  cases D with
  | false =>
    clear HD CP CR CT CS0 HK1 CX CY
    go_wp2_with fail
    refine (CA.out _ (by assumption)).mono ?_
    rintro e w9 ⟨rfl, hb9⟩
    go_wp2_with fail
    go_ret
    exact ⟨rfl, hb9⟩
  | true =>
    have HLt : Hid (LightR H (k0, (k1, k2), (k3, k4), (k5, k6), s7, s8) l) := HD.out.1 rfl
    have HB1 : Hid (Below w.heap.size w w1) := hB1
    clear HD hB1
    have d0 : w1.cell? ⟨h0, 0, none⟩ = some (.int .i64 Kd) := HK1.out.cell 0
    have d1 : w1.cell? ⟨h0, 1, none⟩ = some (.int .i64 F) := HK1.out.cell 1
    have d2 : w1.cell? ⟨h0, 2, none⟩ = some (.int .i64 C) := HK1.out.cell 2
    have d3 : w1.cell? ⟨h0, 3, none⟩ = some (.int .i64 S) := HK1.out.cell 3
    have d4 : w1.cell? ⟨h0, 4, none⟩ = some (.string H) := HK1.out.cell 4
    have d5 : w1.cell? ⟨h0, 5, none⟩ = some (.int .i64 k0) := HK1.out.cell 5
    have d6 : w1.cell? ⟨h0, 6, none⟩ = some (.int .i64 k1) := HK1.out.cell 6
    have d7 : w1.cell? ⟨h0, 7, none⟩ = some (.int .i64 k2) := HK1.out.cell 7
    have d8 : w1.cell? ⟨h0, 8, none⟩ = some (.int .i64 k3) := HK1.out.cell 8
    have d9 : w1.cell? ⟨h0, 9, none⟩ = some (.int .i64 k4) := HK1.out.cell 9
    have d10 : w1.cell? ⟨h0, 10, none⟩ = some (.int .i64 k5) := HK1.out.cell 10
    have d11 : w1.cell? ⟨h0, 11, none⟩ = some (.int .i64 k6) := HK1.out.cell 11
    have d12 : w1.cell? ⟨h0, 12, none⟩ = some (.string s7) := HK1.out.cell 12
    have d13 : w1.cell? ⟨h0, 13, none⟩ = some (.string s8) := HK1.out.cell 13
    have d14 : w1.cell? ⟨h0, 14, none⟩ = some (.int .i64 q) := HK1.out.cell 14
    have d15 : w1.cell? ⟨h0, 15, none⟩ = some (.slice a n c) := HK1.out.cell 15
    go_wp2_with fail
    clear d0 d1 d2 d3 d4 d5 d6 d7 d8 d9 d10 d11 d12 d13 d14 d15
    as_aux_lemma =>
    refine (CP.out HLt.out w1 HB1.out).mono ?_
    rintro e w2 ⟨rfl, hb2⟩
    have HB2 : Hid (Below w.heap.size w w2) := below_step HB1.out (Nat.le_refl _) hb2
    have HK2 : Hid (Blk w2 28 h0 #[.int .i64 Kd, .int .i64 F, .int .i64 C, .int .i64 S, .string H, .int .i64 k0, .int .i64 k1, .int .i64 k2, .int .i64 k3, .int .i64 k4, .int .i64 k5, .int .i64 k6, .string s7, .string s8, .int .i64 q, .slice a n c]) := HK1.out.on hb2
    have d0 : w2.cell? ⟨h0, 0, none⟩ = some (.int .i64 Kd) := HK2.out.cell 0
    have d1 : w2.cell? ⟨h0, 1, none⟩ = some (.int .i64 F) := HK2.out.cell 1
    have d2 : w2.cell? ⟨h0, 2, none⟩ = some (.int .i64 C) := HK2.out.cell 2
    have d3 : w2.cell? ⟨h0, 3, none⟩ = some (.int .i64 S) := HK2.out.cell 3
    have d4 : w2.cell? ⟨h0, 4, none⟩ = some (.string H) := HK2.out.cell 4
    have d5 : w2.cell? ⟨h0, 5, none⟩ = some (.int .i64 k0) := HK2.out.cell 5
    have d6 : w2.cell? ⟨h0, 6, none⟩ = some (.int .i64 k1) := HK2.out.cell 6
    have d7 : w2.cell? ⟨h0, 7, none⟩ = some (.int .i64 k2) := HK2.out.cell 7
    have d8 : w2.cell? ⟨h0, 8, none⟩ = some (.int .i64 k3) := HK2.out.cell 8
    have d9 : w2.cell? ⟨h0, 9, none⟩ = some (.int .i64 k4) := HK2.out.cell 9
    have d10 : w2.cell? ⟨h0, 10, none⟩ = some (.int .i64 k5) := HK2.out.cell 10
    have d11 : w2.cell? ⟨h0, 11, none⟩ = some (.int .i64 k6) := HK2.out.cell 11
    have d12 : w2.cell? ⟨h0, 12, none⟩ = some (.string s7) := HK2.out.cell 12
    have d13 : w2.cell? ⟨h0, 13, none⟩ = some (.string s8) := HK2.out.cell 13
    have d14 : w2.cell? ⟨h0, 14, none⟩ = some (.int .i64 q) := HK2.out.cell 14
    have d15 : w2.cell? ⟨h0, 15, none⟩ = some (.slice a n c) := HK2.out.cell 15
    clear hb2 HB1 HK1 CP
    go_wp2_with fail
    clear d0 d1 d2 d3 d4 d5 d6 d7 d8 d9 d10 d11 d12 d13 d14 d15
    as_aux_lemma =>
    refine (CR.out HLt.out w2 HB2.out).mono ?_
    rintro e w3 ⟨rfl, hb3⟩
    have HB3 : Hid (Below w.heap.size w w3) := below_step HB2.out (Nat.le_refl _) hb3
    have HK3 : Hid (Blk w3 28 h0 #[.int .i64 Kd, .int .i64 F, .int .i64 C, .int .i64 S, .string H, .int .i64 k0, .int .i64 k1, .int .i64 k2, .int .i64 k3, .int .i64 k4, .int .i64 k5, .int .i64 k6, .string s7, .string s8, .int .i64 q, .slice a n c]) := HK2.out.on hb3
    clear hb3 HB2 HK2 CR
    have hss : (Sx.toList != Sx.toList) = false := by simp
    have hss2 : (Sx.toList == Sx.toList) = true := by simp
    have hee : (Ex != Ex) = false := by simp
    as_aux_lemma =>
    have HSS : Hid (∀ W', Below w3.heap.size w3 W' → W'.cell? ⟨h0, 0, none⟩ = some (.int .i64 Kd) ∧ W'.cell? ⟨h0, 1, none⟩ = some (.int .i64 F) ∧ W'.cell? ⟨h0, 2, none⟩ = some (.int .i64 C) ∧ W'.cell? ⟨h0, 3, none⟩ = some (.int .i64 S) ∧ W'.cell? ⟨h0, 4, none⟩ = some (.string H) ∧ W'.cell? ⟨h0, 5, none⟩ = some (.int .i64 k0) ∧ W'.cell? ⟨h0, 6, none⟩ = some (.int .i64 k1) ∧ W'.cell? ⟨h0, 7, none⟩ = some (.int .i64 k2) ∧ W'.cell? ⟨h0, 8, none⟩ = some (.int .i64 k3) ∧ W'.cell? ⟨h0, 9, none⟩ = some (.int .i64 k4) ∧ W'.cell? ⟨h0, 10, none⟩ = some (.int .i64 k5) ∧ W'.cell? ⟨h0, 11, none⟩ = some (.int .i64 k6) ∧ W'.cell? ⟨h0, 12, none⟩ = some (.string s7) ∧ W'.cell? ⟨h0, 13, none⟩ = some (.string s8) ∧ W'.cell? ⟨h0, 14, none⟩ = some (.int .i64 q) ∧ W'.cell? ⟨h0, 15, none⟩ = some (.slice a n c)) := fun W' hW => ⟨(HK3.out.on hW).cell 0, (HK3.out.on hW).cell 1, (HK3.out.on hW).cell 2, (HK3.out.on hW).cell 3, (HK3.out.on hW).cell 4, (HK3.out.on hW).cell 5, (HK3.out.on hW).cell 6, (HK3.out.on hW).cell 7, (HK3.out.on hW).cell 8, (HK3.out.on hW).cell 9, (HK3.out.on hW).cell 10, (HK3.out.on hW).cell 11, (HK3.out.on hW).cell 12, (HK3.out.on hW).cell 13, (HK3.out.on hW).cell 14, (HK3.out.on hW).cell 15⟩
    have hS0 := HSS.out w3 (Below.refl _ _)
    have hxx : (Xc != Xc) = false := by simp
    go_wp2_with fail
    refine wp_region_noPanic ?_
    refine wp_region_held_drew (S := fun W' => W'.cell? ⟨h0, 0, none⟩ = some (.int .i64 Kd) ∧ W'.cell? ⟨h0, 1, none⟩ = some (.int .i64 F) ∧ W'.cell? ⟨h0, 2, none⟩ = some (.int .i64 C) ∧ W'.cell? ⟨h0, 3, none⟩ = some (.int .i64 S) ∧ W'.cell? ⟨h0, 4, none⟩ = some (.string H) ∧ W'.cell? ⟨h0, 5, none⟩ = some (.int .i64 k0) ∧ W'.cell? ⟨h0, 6, none⟩ = some (.int .i64 k1) ∧ W'.cell? ⟨h0, 7, none⟩ = some (.int .i64 k2) ∧ W'.cell? ⟨h0, 8, none⟩ = some (.int .i64 k3) ∧ W'.cell? ⟨h0, 9, none⟩ = some (.int .i64 k4) ∧ W'.cell? ⟨h0, 10, none⟩ = some (.int .i64 k5) ∧ W'.cell? ⟨h0, 11, none⟩ = some (.int .i64 k6) ∧ W'.cell? ⟨h0, 12, none⟩ = some (.string s7) ∧ W'.cell? ⟨h0, 13, none⟩ = some (.string s8) ∧ W'.cell? ⟨h0, 14, none⟩ = some (.int .i64 q) ∧ W'.cell? ⟨h0, 15, none⟩ = some (.slice a n c)) (by kernel_rfl) (by first | exact trivial | assumption | exact ⟨by assumption, by assumption⟩) (fun hHeld => ?_)
    refine take_at (i := 0) (v := ?_) rfl rfl (by kernel_rfl) (by kernel_rfl) (by kernel_rfl) (fun _ _ _ h => h) (Or.inl ⟨by rfl, ?_⟩) (by assumption) ?_
    rotate_left
    · intro w hSw; (try dsimp only at hSw); go_simp; try with_reducible rfl
    try simp only [Act.put, List.setIfInBounds_toArray, List.set_cons_zero, List.set_cons_succ]
    refine take_at (i := 1) (v := ?_) rfl rfl (by kernel_rfl) (by kernel_rfl) (by kernel_rfl) (fun _ _ _ h => h) (Or.inl ⟨by rfl, ?_⟩) (by assumption) ?_
    rotate_left
    · intro w hSw; (try dsimp only at hSw); go_simp; try with_reducible rfl
    try simp only [Act.put, List.setIfInBounds_toArray, List.set_cons_zero, List.set_cons_succ]
    refine take_at (i := 2) (v := ?_) rfl rfl (by kernel_rfl) (by kernel_rfl) (by kernel_rfl) (fun _ _ _ h => h) (Or.inl ⟨by rfl, ?_⟩) (by assumption) ?_
    rotate_left
    · intro w hSw; (try dsimp only at hSw); go_simp; try with_reducible rfl
    try simp only [Act.put, List.setIfInBounds_toArray, List.set_cons_zero, List.set_cons_succ]
    refine take_at (i := 3) (v := ?_) rfl rfl (by kernel_rfl) (by kernel_rfl) (by kernel_rfl) (fun _ _ _ h => h) (Or.inl ⟨by rfl, ?_⟩) (by assumption) ?_
    rotate_left
    · intro w hSw; (try dsimp only at hSw); go_simp; try with_reducible rfl
    try simp only [Act.put, List.setIfInBounds_toArray, List.set_cons_zero, List.set_cons_succ]
    refine take_at (i := 4) (v := ?_) rfl rfl (by kernel_rfl) (by kernel_rfl) (by kernel_rfl) (fun _ _ _ h => h) (Or.inl ⟨by rfl, ?_⟩) (by assumption) ?_
    rotate_left
    · intro w hSw; (try dsimp only at hSw); go_simp; try with_reducible rfl
    try simp only [Act.put, List.setIfInBounds_toArray, List.set_cons_zero, List.set_cons_succ]
    refine take_at (i := 5) (v := ?_) rfl rfl (by kernel_rfl) (by kernel_rfl) (by kernel_rfl) (fun _ _ _ h => h) (Or.inl ⟨by rfl, ?_⟩) (by assumption) ?_
    rotate_left
    · intro w hSw; (try dsimp only at hSw); go_simp; try with_reducible rfl
    try simp only [Act.put, List.setIfInBounds_toArray, List.set_cons_zero, List.set_cons_succ]
    refine take_at (i := 6) (v := ?_) rfl rfl (by kernel_rfl) (by kernel_rfl) (by kernel_rfl) (fun _ _ _ h => h) (Or.inl ⟨by rfl, ?_⟩) (by assumption) ?_
    rotate_left
    · intro w hSw; (try dsimp only at hSw); go_simp; try with_reducible rfl
    try simp only [Act.put, List.setIfInBounds_toArray, List.set_cons_zero, List.set_cons_succ]
    refine take_at (i := 7) (v := ?_) rfl rfl (by kernel_rfl) (by kernel_rfl) (by kernel_rfl) (fun _ _ _ h => h) (Or.inl ⟨by rfl, ?_⟩) (by assumption) ?_
    rotate_left
    · intro w hSw; (try dsimp only at hSw); go_simp; try with_reducible rfl
    try simp only [Act.put, List.setIfInBounds_toArray, List.set_cons_zero, List.set_cons_succ]
    refine take_at (i := 8) (v := ?_) rfl rfl (by kernel_rfl) (by kernel_rfl) (by kernel_rfl) (fun _ _ _ h => h) (Or.inl ⟨by rfl, ?_⟩) (by assumption) ?_
    rotate_left
    · intro w hSw; (try dsimp only at hSw); go_simp; try with_reducible rfl
    try simp only [Act.put, List.setIfInBounds_toArray, List.set_cons_zero, List.set_cons_succ]
    refine take_at (i := 9) (v := ?_) rfl rfl (by kernel_rfl) (by kernel_rfl) (by kernel_rfl) (fun _ _ _ h => h) (Or.inl ⟨by rfl, ?_⟩) (by assumption) ?_
    rotate_left
    · intro w hSw; (try dsimp only at hSw); go_simp; try with_reducible rfl
    try simp only [Act.put, List.setIfInBounds_toArray, List.set_cons_zero, List.set_cons_succ]
    refine take_at (i := 11) (v := ?_) rfl rfl (by kernel_rfl) (by kernel_rfl) (by kernel_rfl) (fun _ _ _ h => h) (Or.inl ⟨by rfl, ?_⟩) (by assumption) ?_
    rotate_left
    · intro w hSw; (try dsimp only at hSw); go_simp; try with_reducible rfl
    try simp only [Act.put, List.setIfInBounds_toArray, List.set_cons_zero, List.set_cons_succ]
    refine wpAnyH_ready (rs := [10]) (by kernel_rfl) (by simp) ?_
    refine AllReadyH.cons rfl (fun K hK => ?_) AllReadyH.nil
    go_simp
    refine (CX.out HLt.out _ HB3.out.drew).mono ?_
    rintro e V1 ⟨rfl, hbx⟩
    have hV1 : Below w3.heap.size w3 V1 := below_step (Below.refl _ _).drew (Nat.le_refl _) hbx
    refine hK.out _ _ (HSS.out _ hV1) (fun hHeld => ?_)
    clear hK K
    refine wpAnyH_ready (rs := [12]) (by kernel_rfl) (by simp) ?_
    refine AllReadyH.cons rfl (fun K hK => ?_) AllReadyH.nil
    go_simp
    refine (CY.out HLt.out _ (below_step HB3.out (Nat.le_refl _) hV1)).mono ?_
    rintro e w4 ⟨rfl, hby⟩
    have hV2 : Below w3.heap.size w3 w4 := below_step hV1 (Nat.le_refl _) hby
    refine hK.out _ _ (HSS.out _ hV2) (fun hHeld => ?_)
    clear hK K
    refine take_at (i := 13) (v := ?_) rfl rfl (by kernel_rfl) (by kernel_rfl) (by kernel_rfl) (fun _ _ _ h => h) (Or.inl ⟨by rfl, ?_⟩) (by assumption) ?_
    rotate_left
    · intro w hSw; (try dsimp only at hSw); go_simp; try with_reducible rfl
    try simp only [Act.put, List.setIfInBounds_toArray, List.set_cons_zero, List.set_cons_succ]
    refine take_at (i := 14) (v := ?_) rfl rfl (by kernel_rfl) (by kernel_rfl) (by kernel_rfl) (fun _ _ _ h => h) (Or.inl ⟨by rfl, ?_⟩) (by assumption) ?_
    rotate_left
    · intro w hSw; (try dsimp only at hSw); go_simp; try with_reducible rfl
    try simp only [Act.put, List.setIfInBounds_toArray, List.set_cons_zero, List.set_cons_succ]
    refine wpAnyH_done (by kernel_rfl) (NoPanic.normal ?_) _
    have HB4 : Hid (Below w.heap.size w w4) := below_step HB3.out (Nat.le_refl _) hV2
    have HK4 : Hid (Blk w4 28 h0 #[.int .i64 Kd, .int .i64 F, .int .i64 C, .int .i64 S, .string H, .int .i64 k0, .int .i64 k1, .int .i64 k2, .int .i64 k3, .int .i64 k4, .int .i64 k5, .int .i64 k6, .string s7, .string s8, .int .i64 q, .slice a n c]) := HK3.out.on hV2
    have CS : Hid (∀ (a1 : Option Addr) (c1 : Nat) (W : World), Below w.heap.size w W → n ≤ c1 → WrAt W a1 n l → _) := CS0.out HLt.out
    clear HB3 HK3 CS0 HLt HSS hS0 hxx CX CY hbx hV1 hby hV2
    as_aux_lemma =>
    by_cases hE : Ex = 0
    · have CT1 : Hid (∀ W, Below w.heap.size w W → _) := CT.out hE
      clear CT
      subst hE
      go_wp2_with fail
      clear hss hss2 hee
      as_aux_lemma =>
      refine (CT1.out w4 HB4.out).mono ?_
      rintro e w5 ⟨a1, c1, rfl, hc1, hi1, hb⟩
      have HB5 : Hid (Below w.heap.size w w5) := below_step HB4.out (Nat.le_refl _) hb
      have HK5 : Hid (Blk w5 28 h0 #[.int .i64 Kd, .int .i64 F, .int .i64 C, .int .i64 S, .string H, .int .i64 k0, .int .i64 k1, .int .i64 k2, .int .i64 k3, .int .i64 k4, .int .i64 k5, .int .i64 k6, .string s7, .string s8, .int .i64 q, .slice a n c]) := HK4.out.on hb
      have HI5 : Hid (WrAt w5 a1 n l) := hi1
      have HC5 : Hid (n ≤ c1) := hc1
      clear hb HB4 HK4 CT1 hi1 hc1
      as_aux_lemma =>
      have X1 : Blk (w5.alloc (.cells #[.int .i64 0, .int .i64 0, .int .i64 0, .int .i64 0, .string ⟨#[]⟩, .int .i64 0, .int .i64 0, .int .i64 0, .int .i64 0, .int .i64 0, .int .i64 0, .int .i64 0, .string ⟨#[]⟩, .string ⟨#[]⟩, .int .i64 0, .slice none 0 0] 28)) 28 w5.heap.size #[.int .i64 0, .int .i64 0, .int .i64 0, .int .i64 0, .string ⟨#[]⟩, .int .i64 0, .int .i64 0, .int .i64 0, .int .i64 0, .int .i64 0, .int .i64 0, .int .i64 0, .string ⟨#[]⟩, .string ⟨#[]⟩, .int .i64 0, .slice none 0 0] := Blk.new _ _ _
      have hG6 : Blk ((w5.alloc (.cells #[.int .i64 0, .int .i64 0, .int .i64 0, .int .i64 0, .string ⟨#[]⟩, .int .i64 0, .int .i64 0, .int .i64 0, .int .i64 0, .int .i64 0, .int .i64 0, .int .i64 0, .string ⟨#[]⟩, .string ⟨#[]⟩, .int .i64 0, .slice none 0 0] 28)).setRow w5.heap.size #[.int .i64 Kd, .int .i64 F, .int .i64 C, .int .i64 S, .string H, .int .i64 k0, .int .i64 k1, .int .i64 k2, .int .i64 k3, .int .i64 k4, .int .i64 k5, .int .i64 k6, .string s7, .string s8, .int .i64 q, .slice a1 n c1]) 28 w5.heap.size #[.int .i64 Kd, .int .i64 F, .int .i64 C, .int .i64 S, .string H, .int .i64 k0, .int .i64 k1, .int .i64 k2, .int .i64 k3, .int .i64 k4, .int .i64 k5, .int .i64 k6, .string s7, .string s8, .int .i64 q, .slice a1 n c1] := X1.setRow _
      have hb6 : Below w5.heap.size w5 ((w5.alloc (.cells #[.int .i64 0, .int .i64 0, .int .i64 0, .int .i64 0, .string ⟨#[]⟩, .int .i64 0, .int .i64 0, .int .i64 0, .int .i64 0, .int .i64 0, .int .i64 0, .int .i64 0, .string ⟨#[]⟩, .string ⟨#[]⟩, .int .i64 0, .slice none 0 0] 28)).setRow w5.heap.size #[.int .i64 Kd, .int .i64 F, .int .i64 C, .int .i64 S, .string H, .int .i64 k0, .int .i64 k1, .int .i64 k2, .int .i64 k3, .int .i64 k4, .int .i64 k5, .int .i64 k6, .string s7, .string s8, .int .i64 q, .slice a1 n c1]) := below_setRow (below_new _ _) (Nat.le_refl _) _
      obtain ⟨w6, hw6⟩ : ∃ w6, (w5.alloc (.cells #[.int .i64 0, .int .i64 0, .int .i64 0, .int .i64 0, .string ⟨#[]⟩, .int .i64 0, .int .i64 0, .int .i64 0, .int .i64 0, .int .i64 0, .int .i64 0, .int .i64 0, .string ⟨#[]⟩, .string ⟨#[]⟩, .int .i64 0, .slice none 0 0] 28)).setRow w5.heap.size #[.int .i64 Kd, .int .i64 F, .int .i64 C, .int .i64 S, .string H, .int .i64 k0, .int .i64 k1, .int .i64 k2, .int .i64 k3, .int .i64 k4, .int .i64 k5, .int .i64 k6, .string s7, .string s8, .int .i64 q, .slice a1 n c1] = w6 := ⟨_, rfl⟩
      rw [hw6] at hG6 hb6
      have HB6 : Hid (Below w.heap.size w w6) := below_step HB5.out (Nat.le_refl _) hb6
      have hK6 : Blk w6 28 h0 #[.int .i64 Kd, .int .i64 F, .int .i64 C, .int .i64 S, .string H, .int .i64 k0, .int .i64 k1, .int .i64 k2, .int .i64 k3, .int .i64 k4, .int .i64 k5, .int .i64 k6, .string s7, .string s8, .int .i64 q, .slice a n c] := HK5.out.on hb6
      have HI6 : Hid (WrAt w6 a1 n l) := HI5.out.below hb6
      have d0 : w6.cell? ⟨h0, 0, none⟩ = some (.int .i64 Kd) := hK6.cell 0
      have d1 : w6.cell? ⟨h0, 1, none⟩ = some (.int .i64 F) := hK6.cell 1
      have d2 : w6.cell? ⟨h0, 2, none⟩ = some (.int .i64 C) := hK6.cell 2
      have d3 : w6.cell? ⟨h0, 3, none⟩ = some (.int .i64 S) := hK6.cell 3
      have d4 : w6.cell? ⟨h0, 4, none⟩ = some (.string H) := hK6.cell 4
      have d5 : w6.cell? ⟨h0, 5, none⟩ = some (.int .i64 k0) := hK6.cell 5
      have d6 : w6.cell? ⟨h0, 6, none⟩ = some (.int .i64 k1) := hK6.cell 6
      have d7 : w6.cell? ⟨h0, 7, none⟩ = some (.int .i64 k2) := hK6.cell 7
      have d8 : w6.cell? ⟨h0, 8, none⟩ = some (.int .i64 k3) := hK6.cell 8
      have d9 : w6.cell? ⟨h0, 9, none⟩ = some (.int .i64 k4) := hK6.cell 9
      have d10 : w6.cell? ⟨h0, 10, none⟩ = some (.int .i64 k5) := hK6.cell 10
      have d11 : w6.cell? ⟨h0, 11, none⟩ = some (.int .i64 k6) := hK6.cell 11
      have d12 : w6.cell? ⟨h0, 12, none⟩ = some (.string s7) := hK6.cell 12
      have d13 : w6.cell? ⟨h0, 13, none⟩ = some (.string s8) := hK6.cell 13
      have d14 : w6.cell? ⟨h0, 14, none⟩ = some (.int .i64 q) := hK6.cell 14
      have d15 : w6.cell? ⟨h0, 15, none⟩ = some (.slice a n c) := hK6.cell 15
      have e0 : w6.cell? ⟨w5.heap.size, 0, none⟩ = some (.int .i64 Kd) := hG6.cell 0
      have e1 : w6.cell? ⟨w5.heap.size, 1, none⟩ = some (.int .i64 F) := hG6.cell 1
      have e2 : w6.cell? ⟨w5.heap.size, 2, none⟩ = some (.int .i64 C) := hG6.cell 2
      have e3 : w6.cell? ⟨w5.heap.size, 3, none⟩ = some (.int .i64 S) := hG6.cell 3
      have e4 : w6.cell? ⟨w5.heap.size, 4, none⟩ = some (.string H) := hG6.cell 4
      have e5 : w6.cell? ⟨w5.heap.size, 5, none⟩ = some (.int .i64 k0) := hG6.cell 5
      have e6 : w6.cell? ⟨w5.heap.size, 6, none⟩ = some (.int .i64 k1) := hG6.cell 6
      have e7 : w6.cell? ⟨w5.heap.size, 7, none⟩ = some (.int .i64 k2) := hG6.cell 7
      have e8 : w6.cell? ⟨w5.heap.size, 8, none⟩ = some (.int .i64 k3) := hG6.cell 8
      have e9 : w6.cell? ⟨w5.heap.size, 9, none⟩ = some (.int .i64 k4) := hG6.cell 9
      have e10 : w6.cell? ⟨w5.heap.size, 10, none⟩ = some (.int .i64 k5) := hG6.cell 10
      have e11 : w6.cell? ⟨w5.heap.size, 11, none⟩ = some (.int .i64 k6) := hG6.cell 11
      have e12 : w6.cell? ⟨w5.heap.size, 12, none⟩ = some (.string s7) := hG6.cell 12
      have e13 : w6.cell? ⟨w5.heap.size, 13, none⟩ = some (.string s8) := hG6.cell 13
      have e14 : w6.cell? ⟨w5.heap.size, 14, none⟩ = some (.int .i64 q) := hG6.cell 14
      have e15 : w6.cell? ⟨w5.heap.size, 15, none⟩ = some (.slice a1 n c1) := hG6.cell 15
      clear hb6 HB5 HK5 HI5 hK6 hG6
      go_wp2_with (with_reducible refine wpList_storeBlk rfl 28 _ _ rfl w5.heap.size #[.int .i64 0, .int .i64 0, .int .i64 0, .int .i64 0, .string ⟨#[]⟩, .int .i64 0, .int .i64 0, .int .i64 0, .int .i64 0, .int .i64 0, .int .i64 0, .int .i64 0, .string ⟨#[]⟩, .string ⟨#[]⟩, .int .i64 0, .slice none 0 0] #[.int .i64 Kd, .int .i64 F, .int .i64 C, .int .i64 S, .string H, .int .i64 k0, .int .i64 k1, .int .i64 k2, .int .i64 k3, .int .i64 k4, .int .i64 k5, .int .i64 k6, .string s7, .string s8, .int .i64 q, .slice a1 n c1] (by with_unfolding_all rfl) (by with_unfolding_all rfl) X1 rfl (by kernel_rfl) (by kernel_rfl) ?_)
      try rw [hw6]
      clear hw6 X1 d0 d1 d2 d3 d4 d5 d6 d7 d8 d9 d10 d11 d12 d13 d14 d15 e0 e1 e2 e3 e4 e5 e6 e7 e8 e9 e10 e11 e12 e13 e14 e15
      as_aux_lemma =>
      refine (CS.out a1 c1 w6 HB6.out HC5.out HI6.out).mono ?_
      rintro e w7 ⟨rfl, hb⟩
      have hB7 : Below w.heap.size w w7 := below_step HB6.out (Nat.le_refl _) hb
      clear hb HB6 CS HI6 HC5
      go_wp2_with fail
      refine (CA.out _ (by assumption)).mono ?_
      rintro e w9 ⟨rfl, hb9⟩
      go_wp2_with fail
      go_ret
      exact ⟨rfl, hb9⟩
    · have he : (Ex != 0) = true := by simp [hE]
      have hB4 : Below w.heap.size w w4 := HB4.out
      clear HB4 HK4 CT CS
      go_wp2_with fail
      refine (CA.out _ (by assumption)).mono ?_
      rintro e w9 ⟨rfl, hb9⟩
      go_wp2_with fail
      go_ret
      exact ⟨rfl, hb9⟩

theorem wireRecords_law (v : Value) (W : World) (hz : ∃ (R : RecT) (a : Option Addr) (c : Nat), v = .agg (recA R a c) ∧ WrAt W a R.2.2.2.2.2.2.2.length R.2.2.2.2.2.2.2 ∧ R.2.2.2.2.2.2.2.length ≤ maxLen ∧ (∀ i, (wrL R.2.2.2.2.2.2.2 i).2.size ≤ maxLen) ∧ (SliceOk a R.2.2.2.2.2.2.2.length c ∧ c ≤ maxLen) ∧ R.2.2.2.2.1.size ≤ maxLen ∧ OpOk R.2.2.2.2.2.1) (hG : Glob8 W) :
    Calls Tryd.prog 3 #[v] W fun e w' => e = .returned (.bool true) ∧ Below W.heap.size W w' := by
  obtain ⟨R, a, c, rfl, h1, h2, h3, h4, h5, h6⟩ := hz
  exact wireRecords_walk R a c W hG h1 h2 h3 h4 h5 h6

end Go.Proofs.YtmjjpfinkpfifaaDoor
