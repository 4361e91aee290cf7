/- The walk of WireSizes. -/
import Derived.Test.YtmjjpfinkpfifabDoorWiI
import Derived.Test.YtmjjpfinkpfifabDoorOpenW
namespace Go.Proofs.YtmjjpfinkpfifabDoor
open Go.RowKit
set_option maxRecDepth 100000
set_option linter.unusedSimpArgs false
set_option linter.unusedVariables false

theorem lightR_ex (H : ByteArray) (o : OpT) (l : List (Int × ByteArray)) : ∃ D : Bool, D = true ↔ LightR H o l :=
  ⟨@decide (LightR H o l) (Classical.propDecidable _), @decide_eq_true_iff (LightR H o l) (Classical.propDecidable _)⟩

/-- How many bytes a record has that is put. -/
theorem putR_size (M : OpT → Bool) (hM : ∀ o, M o = true ↔ MayO o) (R : RecT) (S : ByteArray) (h : putRC M R = (S, 0)) : S.size = 52 + (if R.1 = 1 then 26 + R.2.2.2.2.2.1.2.2.2.2.1.size + R.2.2.2.2.2.1.2.2.2.2.2.size else 0) + 51 * R.2.2.2.2.2.2.2.length := by
  obtain ⟨h1, h2, h3⟩ := putB_inv _ _ S h
  have h4 := (mayR_put M hM R h1).2
  rw [← h3] at h4
  obtain ⟨K, F, C, Sq, H, o, q, l⟩ := R
  obtain ⟨k1, k2, k3, k4, k5, k6, k7, k8, k9⟩ := mayR_ok M hM h1
  simp only at h4 ⊢
  by_cases hK : K = 1
  · rw [if_pos hK]
    have h5 := (mayR_parts h1).2
    rcases h5 with ⟨_, j2, _⟩ | ⟨j1, _⟩
    · rw [(may_put M hM o j2).1] at h4
      have := opPs_size o
      simp only at h4
      omega
    · exact absurd hK j1
  · rw [if_neg hK]
    rw [k9 hK, put_op0 M hM] at h4
    exact h4


set_option maxHeartbeats 8000000 in
theorem wireSizes_walk (R : RecT) (a : Option Addr) (c : Nat) (w : World) (hG : Glob8 w) (hI : WrAt w a R.2.2.2.2.2.2.2.length R.2.2.2.2.2.2.2) (hl : R.2.2.2.2.2.2.2.length ≤ maxLen) (hz : ∀ i, (wrL R.2.2.2.2.2.2.2 i).2.size ≤ maxLen) (hs : SliceOk a R.2.2.2.2.2.2.2.length c ∧ c ≤ maxLen) (hH : R.2.2.2.2.1.size ≤ maxLen) (ho : OpOk R.2.2.2.2.2.1) :
    Calls Tryd.prog 3 #[.agg (recA R a c)] w fun e w' => e = .returned (.bool true) ∧ Below w.heap.size w w' := by
  obtain ⟨M, hM⟩ := mayM_ex19
  obtain ⟨D, hD⟩ := lightR_ex R.2.2.2.2.1 R.2.2.2.2.2.1 R.2.2.2.2.2.2.2
  have CL' : ∀ W, Below w.heap.size w W → _ := fun W hW => rlightR_any R a c W D hD (hI.below hW) hs.1.cap hs.2 hz hH ho.2.1 ho.2.2
  have CA : Hid (∀ W, Below w.heap.size w W → Calls Tryd.prog 5 #[] W fun e w' => e = .returned (.bool true) ∧ Below w.heap.size w w') := fun W hW => (awake19 W (hG.below hW)).mono fun e w' h => ⟨h.1, below_step hW (Nat.le_refl _) h.2⟩
  have CP' : LightR R.2.2.2.2.1 R.2.2.2.2.2.1 R.2.2.2.2.2.2.2 → ∀ W, Below w.heap.size w W → _ := fun hl W hW => putR_any M hM R a c W (hG.below hW) (Nat.le_trans hl.2.1.1 (by decide)) ho.2.2 (hI.below hW) hz (Nat.le_trans hl.2.2.2 (by decide)) hH
  have HZ := putR_size M hM R
  obtain ⟨⟨S, E⟩, hp⟩ : ∃ p, putRC M R = p := ⟨_, rfl⟩
  rw [hp] at CP' HZ
  have hlen : LightR R.2.2.2.2.1 R.2.2.2.2.2.1 R.2.2.2.2.2.2.2 → R.2.2.2.2.2.2.2.length ≤ 8 ∧ R.2.2.2.2.2.1.2.2.2.2.1.size ≤ 200 ∧ R.2.2.2.2.2.1.2.2.2.2.2.size ≤ 200 := fun h => ⟨h.2.2.2, h.2.1⟩
  obtain ⟨K, F, C, Sq, H, ⟨k0, ⟨k1, k2⟩, ⟨k3, k4⟩, ⟨k5, k6⟩, s7, s8⟩, q, l⟩ := R
  simp only [recA] at CL' CP' HZ hlen ⊢
  simp only [Prod.mk.injEq] at HZ
  have HD : Hid (D = true ↔ LightR H (k0, (k1, k2), (k3, k4), (k5, k6), s7, s8) l) := hD
  have CL : Hid (∀ W, Below w.heap.size w W → _) := CL'
  have CP : Hid (LightR H (k0, (k1, k2), (k3, k4), (k5, k6), s7, s8) l → ∀ W, Below w.heap.size w W → _) := CP'
  have HLN : Hid (LightR H (k0, (k1, k2), (k3, k4), (k5, k6), s7, s8) l → l.length ≤ 8 ∧ s7.size ≤ 200 ∧ s8.size ≤ 200) := hlen
  have HSZ : Hid (E = 0 → S.size = 52 + (if K = 1 then 26 + s7.size + s8.size else 0) + 51 * l.length) := fun e => by
    have := HZ S ⟨rfl, e⟩
    exact this
  clear CL' CP' hD hlen HZ hp hG hI hl hz hs hH ho hM
  obtain ⟨n, hn⟩ : ∃ n, l.length = n := ⟨_, rfl⟩
  rw [hn] at CL CP HLN HSZ ⊢
  clear hn
  have HB0 : Hid (Below w.heap.size w (w.alloc (.cells #[.int .i64 K, .int .i64 F, .int .i64 C, .int .i64 Sq, .string H, .int .i64 k0, .int .i64 k1, .int .i64 k2, .int .i64 k3, .int .i64 k4, .int .i64 k5, .int .i64 k6, .string s7, .string s8, .int .i64 q, .slice a n c] 28))) := below_new _ _
  have HK0 : Hid (Blk (w.alloc (.cells #[.int .i64 K, .int .i64 F, .int .i64 C, .int .i64 Sq, .string H, .int .i64 k0, .int .i64 k1, .int .i64 k2, .int .i64 k3, .int .i64 k4, .int .i64 k5, .int .i64 k6, .string s7, .string s8, .int .i64 q, .slice a n c] 28)) 28 w.heap.size #[.int .i64 K, .int .i64 F, .int .i64 C, .int .i64 Sq, .string H, .int .i64 k0, .int .i64 k1, .int .i64 k2, .int .i64 k3, .int .i64 k4, .int .i64 k5, .int .i64 k6, .string s7, .string s8, .int .i64 q, .slice a n c]) := Blk.new _ _ _
  go_enter Tryd.func3, Tryd.ntmps3
  go_wp2_with fail
  obtain ⟨w0, hw0⟩ : ∃ w0, w.alloc (.cells #[.int .i64 K, .int .i64 F, .int .i64 C, .int .i64 Sq, .string H, .int .i64 k0, .int .i64 k1, .int .i64 k2, .int .i64 k3, .int .i64 k4, .int .i64 k5, .int .i64 k6, .string s7, .string s8, .int .i64 q, .slice a n c] 28) = w0 := ⟨_, rfl⟩
  obtain ⟨h0, hh0⟩ : ∃ h0, w.heap.size = h0 := ⟨_, rfl⟩
  rw [hw0] at HB0 HK0
  rw [hh0] at HK0
  try rw [hw0]
  try rw [hh0]
  clear hw0 hh0
  refine (CL.out w0 HB0.out).mono ?_
  rintro e w1 ⟨rfl, hb1⟩
  have hB1 : Below w.heap.size w w1 := below_step HB0.out (Nat.le_refl _) hb1
  have HK1 : Hid (Blk w1 28 h0 #[.int .i64 K, .int .i64 F, .int .i64 C, .int .i64 Sq, .string H, .int .i64 k0, .int .i64 k1, .int .i64 k2, .int .i64 k3, .int .i64 k4, .int .i64 k5, .int .i64 k6, .string s7, .string s8, .int .i64 q, .slice a n c]) := HK0.out.on hb1
  clear hb1 HB0 HK0 CL
  cases D with
  | false =>
    clear HD HSZ HLN CP HK1
    go_wp2_with fail
    refine (CA.out _ (by assumption)).mono ?_
    rintro e w9 ⟨rfl, hb9⟩
    go_wp2_with fail
    go_ret
    exact ⟨rfl, hb9⟩
  | true =>
    have HLt : Hid (LightR H (k0, (k1, k2), (k3, k4), (k5, k6), s7, s8) l) := HD.out.1 rfl
    have HB1 : Hid (Below w.heap.size w w1) := hB1
    clear HD hB1
    have d0 : w1.cell? ⟨h0, 0, none⟩ = some (.int .i64 K) := HK1.out.cell 0
    have d1 : w1.cell? ⟨h0, 1, none⟩ = some (.int .i64 F) := HK1.out.cell 1
    have d2 : w1.cell? ⟨h0, 2, none⟩ = some (.int .i64 C) := HK1.out.cell 2
    have d3 : w1.cell? ⟨h0, 3, none⟩ = some (.int .i64 Sq) := HK1.out.cell 3
    have d4 : w1.cell? ⟨h0, 4, none⟩ = some (.string H) := HK1.out.cell 4
    have d5 : w1.cell? ⟨h0, 5, none⟩ = some (.int .i64 k0) := HK1.out.cell 5
    have d6 : w1.cell? ⟨h0, 6, none⟩ = some (.int .i64 k1) := HK1.out.cell 6
    have d7 : w1.cell? ⟨h0, 7, none⟩ = some (.int .i64 k2) := HK1.out.cell 7
    have d8 : w1.cell? ⟨h0, 8, none⟩ = some (.int .i64 k3) := HK1.out.cell 8
    have d9 : w1.cell? ⟨h0, 9, none⟩ = some (.int .i64 k4) := HK1.out.cell 9
    have d10 : w1.cell? ⟨h0, 10, none⟩ = some (.int .i64 k5) := HK1.out.cell 10
    have d11 : w1.cell? ⟨h0, 11, none⟩ = some (.int .i64 k6) := HK1.out.cell 11
    have d12 : w1.cell? ⟨h0, 12, none⟩ = some (.string s7) := HK1.out.cell 12
    have d13 : w1.cell? ⟨h0, 13, none⟩ = some (.string s8) := HK1.out.cell 13
    have d14 : w1.cell? ⟨h0, 14, none⟩ = some (.int .i64 q) := HK1.out.cell 14
    have d15 : w1.cell? ⟨h0, 15, none⟩ = some (.slice a n c) := HK1.out.cell 15
    go_wp2_with fail
    clear d0 d1 d2 d3 d4 d5 d6 d7 d8 d9 d10 d11 d12 d13 d14 d15
    refine (CP.out HLt.out w1 HB1.out).mono ?_
    rintro e w2 ⟨rfl, hb2⟩
    have hB2 : Below w.heap.size w w2 := below_step HB1.out (Nat.le_refl _) hb2
    have hK2 : Blk w2 28 h0 #[.int .i64 K, .int .i64 F, .int .i64 C, .int .i64 Sq, .string H, .int .i64 k0, .int .i64 k1, .int .i64 k2, .int .i64 k3, .int .i64 k4, .int .i64 k5, .int .i64 k6, .string s7, .string s8, .int .i64 q, .slice a n c] := HK1.out.on hb2
    have d0 : w2.cell? ⟨h0, 0, none⟩ = some (.int .i64 K) := hK2.cell 0
    have d12 : w2.cell? ⟨h0, 12, none⟩ = some (.string s7) := hK2.cell 12
    have d13 : w2.cell? ⟨h0, 13, none⟩ = some (.string s8) := hK2.cell 13
    have d15 : w2.cell? ⟨h0, 15, none⟩ = some (.slice a n c) := hK2.cell 15
    obtain ⟨g8, g7, g9⟩ := HLN.out HLt.out
    clear hb2 hK2 HB1 HK1 CP HLN HLt
    by_cases hE : E = 0
    · subst hE
      have hsz := HSZ.out rfl
      have i0 : (0 : Int) ≤ (n : Int) := by omega
      have i1 : (n : Int) ≤ 8 := by omega
      by_cases hK : K = 1
      · subst hK
        rw [if_pos rfl] at hsz
        have i2 : (s7.size : Int) ≤ 200 := by omega
        have i3 : (s8.size : Int) ≤ 200 := by omega
        have t1 : ((S.size : Int) == 52 + 51 * (n : Int) + 26 + (s7.size : Int) + (s8.size : Int)) = true := by rw [beq_iff_eq]; omega
        have t2 : (S.size : Int) = 52 + 51 * (n : Int) + 26 + (s7.size : Int) + (s8.size : Int) := by omega
        have HT : Hid ((S.size : Int) = 52 + 51 * (n : Int) + 26 + (s7.size : Int) + (s8.size : Int)) := t2
        clear HSZ hsz g7 g8 g9 t2
        go_wp2_with fail
        refine (CA.out _ (by assumption)).mono ?_
        rintro e w9 ⟨rfl, hb9⟩
        go_wp2_with fail
        go_ret
        exact ⟨rfl, hb9⟩
      · have hk : (K == 1) = false := by simp [hK]
        rw [if_neg hK] at hsz
        have t1 : ((S.size : Int) == 52 + 51 * (n : Int)) = true := by rw [beq_iff_eq]; omega
        clear HSZ hsz g7 g8 g9
        go_wp2_with fail
        refine (CA.out _ (by assumption)).mono ?_
        rintro e w9 ⟨rfl, hb9⟩
        go_wp2_with fail
        go_ret
        exact ⟨rfl, hb9⟩
    · have he : (E != 0) = true := by simp [hE]
      clear HSZ g7 g8 g9 d0 d12 d13 d15
      go_wp2_with fail
      refine (CA.out _ (by assumption)).mono ?_
      rintro e w9 ⟨rfl, hb9⟩
      go_wp2_with fail
      go_ret
      exact ⟨rfl, hb9⟩

theorem wireSizes_law (v : Value) (W : World) (hz : ∃ (R : RecT) (a : Option Addr) (c : Nat), v = .agg (recA R a c) ∧ WrAt W a R.2.2.2.2.2.2.2.length R.2.2.2.2.2.2.2 ∧ R.2.2.2.2.2.2.2.length ≤ maxLen ∧ (∀ i, (wrL R.2.2.2.2.2.2.2 i).2.size ≤ maxLen) ∧ (SliceOk a R.2.2.2.2.2.2.2.length c ∧ c ≤ maxLen) ∧ R.2.2.2.2.1.size ≤ maxLen ∧ OpOk R.2.2.2.2.2.1) (hG : Glob8 W) :
    Calls Tryd.prog 3 #[v] W fun e w' => e = .returned (.bool true) ∧ Below W.heap.size W w' := by
  obtain ⟨R, a, c, rfl, h1, h2, h3, h4, h5, h6⟩ := hz
  exact wireSizes_walk R a c W hG h1 h2 h3 h4 h5 h6

end Go.Proofs.YtmjjpfinkpfifabDoor
