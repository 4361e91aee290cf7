/- The walk of WireReads. -/
import Derived.Test.YtmjjpfinkpfifaaDoorWiI
import Derived.Test.YtmjjpfinkpfifaaDoorRWiO
namespace Go.Proofs.YtmjjpfinkpfifaaDoor
open Go.RowKit
set_option maxRecDepth 100000
set_option linter.unusedSimpArgs false
set_option linter.unusedVariables false
set_option maxRecDepth 100000

theorem takeRC_sizes (M : OpT → Bool) (s : ByteArray) : (takeRC M s).1.2.2.2.2.2.2.2.length ≤ 256 ∧ (∀ i, (wrL (takeRC M s).1.2.2.2.2.2.2.2 i).2.size ≤ 9223372036854775807) ∧ (takeRC M s).1.2.2.2.2.1.size ≤ 9223372036854775807 ∧ (takeRC M s).1.2.2.2.2.2.1.2.2.2.2.1.size ≤ 1048576 ∧ (takeRC M s).1.2.2.2.2.2.1.2.2.2.2.2.size ≤ 9223372036854775807 := by
  unfold takeRC
  split
  · exact ⟨by decide, fun i => Nat.zero_le _, by decide, by decide, by decide⟩
  · unfold readRC
    simp only
    refine ⟨?_, wrs_fit _ _, Nat.le_trans (inTextC_size _ _) (by decide), takeOpC_sizes _ _⟩
    rw [readLW_len]
    exact Nat.le_of_lt (number1_lt _)



set_option maxHeartbeats 8000000 in
theorem wireReads_walk (s : ByteArray) (w : World) (hG : Glob8 w) (hsz : s.size ≤ 9223372036854775807) : Calls Tryd.prog 4 #[.string s] w fun e w' => e = .returned (.bool true) ∧ Below w.heap.size w w' := by
  have CA : Hid (∀ W, Below w.heap.size w W → Calls Tryd.prog 10 #[] W fun e w' => e = .returned (.bool true) ∧ Below w.heap.size w w') := fun W hW => (awake19 W (hG.below hW)).mono fun e w' h => ⟨h.1, below_step hW (Nat.le_refl _) h.2⟩
  by_cases hs : s.size ≤ 2048
  · have g0 : ¬ ((2048 : Int) < (s.size : Int)) := by omega
    have g1 : decide ((2048 : Int) < (s.size : Int)) = false := decide_eq_false g0
    have hss : (s.toList == s.toList) = true := by simp
    obtain ⟨M, hM⟩ := mayM_ex19
    have CT' : ∀ W, Below w.heap.size w W → _ := fun W hW => takeR_any M hM s W (hG.below hW) (by omega)
    have CR' : ∀ W, _ := fun W => rtakeR_any M hM s W (by omega)
    rw [← takeR_same M hM s (by omega)] at CR'
    have hq := takeRC_sizes M s
    have hinv := takeRC_inv M s
    unfold TakenR at CT' CR'
    obtain ⟨X, hX⟩ : ∃ X, takeRC M s = X := ⟨_, rfl⟩
    simp only [hX] at CT' CR' hq hinv
    obtain ⟨F0, E⟩ := X
    obtain ⟨K, F, C, S, H, ⟨k0, ⟨k1, k2⟩, ⟨k3, k4⟩, ⟨k5, k6⟩, s7, s8⟩, q, l⟩ := F0
    simp only at hq hinv
    have CT : Hid (∀ W, Below w.heap.size w W → Calls Tryd.prog 15 #[.string s] W fun e w' => ∃ a c, e = .returned (.tuple #[.agg #[.int .i64 K, .int .i64 F, .int .i64 C, .int .i64 S, .string H, .int .i64 k0, .int .i64 k1, .int .i64 k2, .int .i64 k3, .int .i64 k4, .int .i64 k5, .int .i64 k6, .string s7, .string s8, .int .i64 q, .slice a l.length c], .int .i64 E]) ∧ l.length ≤ c ∧ WrAt w' a l.length l ∧ Below W.heap.size W w') := fun W hW => (CT' W hW).mono fun e w' ⟨a, c, h1, h2, h3, h4, h5⟩ => ⟨a, c, h1, h2, h4, h5⟩
    have CR : Hid (∀ W, Calls Tryd.prog 17 #[.string s] W fun e w' => ∃ a c, e = .returned (.tuple #[.agg #[.int .i64 K, .int .i64 F, .int .i64 C, .int .i64 S, .string H, .int .i64 k0, .int .i64 k1, .int .i64 k2, .int .i64 k3, .int .i64 k4, .int .i64 k5, .int .i64 k6, .string s7, .string s8, .int .i64 q, .slice a l.length c], .int .i64 E]) ∧ l.length ≤ c ∧ WrAt w' a l.length l ∧ Below W.heap.size W w') := fun W => (CR' W).mono fun e w' ⟨a, c, h1, h2, h3, h4, h5⟩ => ⟨a, c, h1, h2, h4, h5⟩
    have CS' : ∀ (a a' : Option Addr) (c c' : Nat) (W : World), l.length ≤ c → l.length ≤ c' → WrAt W a l.length l → WrAt W a' l.length l → _ := fun a a' c c' W h1 h2 h3 h4 => rsameR_any (K, F, C, S, H, (k0, (k1, k2), (k3, k4), (k5, k6), s7, s8), q, l) (K, F, C, S, H, (k0, (k1, k2), (k3, k4), (k5, k6), s7, s8), q, l) true ⟨fun _ => rfl, fun _ => rfl⟩ a a' c c' W (by show l.length ≤ _; have := hq.1; omega) h1 h2 h3 h4
    simp only [recA] at CS'
    have CS : Hid (∀ (a a' : Option Addr) (c c' : Nat) (W : World), l.length ≤ c → l.length ≤ c' → WrAt W a l.length l → WrAt W a' l.length l → _) := CS'
    clear CS'
    have CP : Hid (E = 0 → ∀ (a : Option Addr) (c : Nat) (W : World), Below w.heap.size w W → WrAt W a l.length l → Calls Tryd.prog 11 #[.agg #[.int .i64 K, .int .i64 F, .int .i64 C, .int .i64 S, .string H, .int .i64 k0, .int .i64 k1, .int .i64 k2, .int .i64 k3, .int .i64 k4, .int .i64 k5, .int .i64 k6, .string s7, .string s8, .int .i64 q, .slice a l.length c]] W fun e w' => e = .returned (.tuple #[.string s, .int .i64 0]) ∧ Below W.heap.size W w') := fun he a c W hW hI => by
      have h := putR_any M hM (K, F, C, S, H, (k0, (k1, k2), (k3, k4), (k5, k6), s7, s8), q, l) a c W (hG.below hW) hq.2.2.2.1 hq.2.2.2.2 hI hq.2.1 (by show l.length ≤ _; have := hq.1; omega) hq.2.2.1
      rw [hinv he] at h
      exact h
    clear CT' CR' hX hq hinv
    obtain ⟨n, hn⟩ : ∃ n, l.length = n := ⟨_, rfl⟩
    rw [hn] at CT CR CS CP
    clear hn hG
    go_enter Tryd.func4, Tryd.ntmps4
    go_wp2_with fail
    refine (CT.out w (Below.refl _ _)).mono ?_
    rintro e w1 ⟨a1, c1, rfl, hc1, hi1, hb⟩
    have HB1 : Hid (Below w.heap.size w w1) := hb
    have HI1 : Hid (WrAt w1 a1 n l) := hi1
    have HC1 : Hid (n ≤ c1) := hc1
    clear hb hi1 hc1 CT
    have X1 : Blk (w1.alloc (.cells #[.int .i64 0, .int .i64 0, .int .i64 0, .int .i64 0, .string ⟨#[]⟩, .int .i64 0, .int .i64 0, .int .i64 0, .int .i64 0, .int .i64 0, .int .i64 0, .int .i64 0, .string ⟨#[]⟩, .string ⟨#[]⟩, .int .i64 0, .slice none 0 0] 28)) 28 w1.heap.size #[.int .i64 0, .int .i64 0, .int .i64 0, .int .i64 0, .string ⟨#[]⟩, .int .i64 0, .int .i64 0, .int .i64 0, .int .i64 0, .int .i64 0, .int .i64 0, .int .i64 0, .string ⟨#[]⟩, .string ⟨#[]⟩, .int .i64 0, .slice none 0 0] := Blk.new _ _ _
    have hF2 : Blk ((w1.alloc (.cells #[.int .i64 0, .int .i64 0, .int .i64 0, .int .i64 0, .string ⟨#[]⟩, .int .i64 0, .int .i64 0, .int .i64 0, .int .i64 0, .int .i64 0, .int .i64 0, .int .i64 0, .string ⟨#[]⟩, .string ⟨#[]⟩, .int .i64 0, .slice none 0 0] 28)).setRow w1.heap.size #[.int .i64 K, .int .i64 F, .int .i64 C, .int .i64 S, .string H, .int .i64 k0, .int .i64 k1, .int .i64 k2, .int .i64 k3, .int .i64 k4, .int .i64 k5, .int .i64 k6, .string s7, .string s8, .int .i64 q, .slice a1 n c1]) 28 w1.heap.size #[.int .i64 K, .int .i64 F, .int .i64 C, .int .i64 S, .string H, .int .i64 k0, .int .i64 k1, .int .i64 k2, .int .i64 k3, .int .i64 k4, .int .i64 k5, .int .i64 k6, .string s7, .string s8, .int .i64 q, .slice a1 n c1] := X1.setRow _
    have hb2 : Below w1.heap.size w1 ((w1.alloc (.cells #[.int .i64 0, .int .i64 0, .int .i64 0, .int .i64 0, .string ⟨#[]⟩, .int .i64 0, .int .i64 0, .int .i64 0, .int .i64 0, .int .i64 0, .int .i64 0, .int .i64 0, .string ⟨#[]⟩, .string ⟨#[]⟩, .int .i64 0, .slice none 0 0] 28)).setRow w1.heap.size #[.int .i64 K, .int .i64 F, .int .i64 C, .int .i64 S, .string H, .int .i64 k0, .int .i64 k1, .int .i64 k2, .int .i64 k3, .int .i64 k4, .int .i64 k5, .int .i64 k6, .string s7, .string s8, .int .i64 q, .slice a1 n c1]) := below_setRow (below_new _ _) (Nat.le_refl _) _
    obtain ⟨w2, hw2⟩ : ∃ w2, (w1.alloc (.cells #[.int .i64 0, .int .i64 0, .int .i64 0, .int .i64 0, .string ⟨#[]⟩, .int .i64 0, .int .i64 0, .int .i64 0, .int .i64 0, .int .i64 0, .int .i64 0, .int .i64 0, .string ⟨#[]⟩, .string ⟨#[]⟩, .int .i64 0, .slice none 0 0] 28)).setRow w1.heap.size #[.int .i64 K, .int .i64 F, .int .i64 C, .int .i64 S, .string H, .int .i64 k0, .int .i64 k1, .int .i64 k2, .int .i64 k3, .int .i64 k4, .int .i64 k5, .int .i64 k6, .string s7, .string s8, .int .i64 q, .slice a1 n c1] = w2 := ⟨_, rfl⟩
    rw [hw2] at hF2 hb2
    have HF2 : Hid (Blk w2 28 w1.heap.size #[.int .i64 K, .int .i64 F, .int .i64 C, .int .i64 S, .string H, .int .i64 k0, .int .i64 k1, .int .i64 k2, .int .i64 k3, .int .i64 k4, .int .i64 k5, .int .i64 k6, .string s7, .string s8, .int .i64 q, .slice a1 n c1]) := hF2
    have HB2 : Hid (Below w.heap.size w w2) := below_step HB1.out (Nat.le_refl _) hb2
    have HI2 : Hid (WrAt w2 a1 n l) := HI1.out.below hb2
    clear hb2 hF2 HB1 HI1
    go_wp2_with (with_reducible refine wpList_storeBlk rfl 28 _ _ rfl w1.heap.size #[.int .i64 0, .int .i64 0, .int .i64 0, .int .i64 0, .string ⟨#[]⟩, .int .i64 0, .int .i64 0, .int .i64 0, .int .i64 0, .int .i64 0, .int .i64 0, .int .i64 0, .string ⟨#[]⟩, .string ⟨#[]⟩, .int .i64 0, .slice none 0 0] #[.int .i64 K, .int .i64 F, .int .i64 C, .int .i64 S, .string H, .int .i64 k0, .int .i64 k1, .int .i64 k2, .int .i64 k3, .int .i64 k4, .int .i64 k5, .int .i64 k6, .string s7, .string s8, .int .i64 q, .slice a1 n c1] (by with_unfolding_all rfl) (by with_unfolding_all rfl) X1 rfl (by kernel_rfl) (by kernel_rfl) ?_)
    try rw [hw2]
    obtain ⟨g, hg⟩ : ∃ g, w1.heap.size = g := ⟨_, rfl⟩
    rw [hg] at HF2
    try rw [hg]
    clear hw2 hg X1
    refine (CR.out w2).mono ?_
    rintro e w3 ⟨a2, c2, rfl, hc2, hi2, hb⟩
    have HB3 : Hid (Below w.heap.size w w3) := below_step HB2.out (Nat.le_refl _) hb
    have HF3 : Hid (Blk w3 28 g #[.int .i64 K, .int .i64 F, .int .i64 C, .int .i64 S, .string H, .int .i64 k0, .int .i64 k1, .int .i64 k2, .int .i64 k3, .int .i64 k4, .int .i64 k5, .int .i64 k6, .string s7, .string s8, .int .i64 q, .slice a1 n c1]) := HF2.out.on hb
    have HI3 : Hid (WrAt w3 a1 n l) := HI2.out.below hb
    have HJ3 : Hid (WrAt w3 a2 n l) := hi2
    have HC2 : Hid (n ≤ c2) := hc2
    clear hb hi2 hc2 HB2 HF2 HI2 CR
    have X1 : Blk (w3.alloc (.cells #[.int .i64 0, .int .i64 0, .int .i64 0, .int .i64 0, .string ⟨#[]⟩, .int .i64 0, .int .i64 0, .int .i64 0, .int .i64 0, .int .i64 0, .int .i64 0, .int .i64 0, .string ⟨#[]⟩, .string ⟨#[]⟩, .int .i64 0, .slice none 0 0] 28)) 28 w3.heap.size #[.int .i64 0, .int .i64 0, .int .i64 0, .int .i64 0, .string ⟨#[]⟩, .int .i64 0, .int .i64 0, .int .i64 0, .int .i64 0, .int .i64 0, .int .i64 0, .int .i64 0, .string ⟨#[]⟩, .string ⟨#[]⟩, .int .i64 0, .slice none 0 0] := Blk.new _ _ _
    have hG4 : Blk ((w3.alloc (.cells #[.int .i64 0, .int .i64 0, .int .i64 0, .int .i64 0, .string ⟨#[]⟩, .int .i64 0, .int .i64 0, .int .i64 0, .int .i64 0, .int .i64 0, .int .i64 0, .int .i64 0, .string ⟨#[]⟩, .string ⟨#[]⟩, .int .i64 0, .slice none 0 0] 28)).setRow w3.heap.size #[.int .i64 K, .int .i64 F, .int .i64 C, .int .i64 S, .string H, .int .i64 k0, .int .i64 k1, .int .i64 k2, .int .i64 k3, .int .i64 k4, .int .i64 k5, .int .i64 k6, .string s7, .string s8, .int .i64 q, .slice a2 n c2]) 28 w3.heap.size #[.int .i64 K, .int .i64 F, .int .i64 C, .int .i64 S, .string H, .int .i64 k0, .int .i64 k1, .int .i64 k2, .int .i64 k3, .int .i64 k4, .int .i64 k5, .int .i64 k6, .string s7, .string s8, .int .i64 q, .slice a2 n c2] := X1.setRow _
    have hb4 : Below w3.heap.size w3 ((w3.alloc (.cells #[.int .i64 0, .int .i64 0, .int .i64 0, .int .i64 0, .string ⟨#[]⟩, .int .i64 0, .int .i64 0, .int .i64 0, .int .i64 0, .int .i64 0, .int .i64 0, .int .i64 0, .string ⟨#[]⟩, .string ⟨#[]⟩, .int .i64 0, .slice none 0 0] 28)).setRow w3.heap.size #[.int .i64 K, .int .i64 F, .int .i64 C, .int .i64 S, .string H, .int .i64 k0, .int .i64 k1, .int .i64 k2, .int .i64 k3, .int .i64 k4, .int .i64 k5, .int .i64 k6, .string s7, .string s8, .int .i64 q, .slice a2 n c2]) := below_setRow (below_new _ _) (Nat.le_refl _) _
    obtain ⟨w4, hw4⟩ : ∃ w4, (w3.alloc (.cells #[.int .i64 0, .int .i64 0, .int .i64 0, .int .i64 0, .string ⟨#[]⟩, .int .i64 0, .int .i64 0, .int .i64 0, .int .i64 0, .int .i64 0, .int .i64 0, .int .i64 0, .string ⟨#[]⟩, .string ⟨#[]⟩, .int .i64 0, .slice none 0 0] 28)).setRow w3.heap.size #[.int .i64 K, .int .i64 F, .int .i64 C, .int .i64 S, .string H, .int .i64 k0, .int .i64 k1, .int .i64 k2, .int .i64 k3, .int .i64 k4, .int .i64 k5, .int .i64 k6, .string s7, .string s8, .int .i64 q, .slice a2 n c2] = w4 := ⟨_, rfl⟩
    rw [hw4] at hG4 hb4
    have HB4 : Hid (Below w.heap.size w w4) := below_step HB3.out (Nat.le_refl _) hb4
    have HF4 : Hid (Blk w4 28 g #[.int .i64 K, .int .i64 F, .int .i64 C, .int .i64 S, .string H, .int .i64 k0, .int .i64 k1, .int .i64 k2, .int .i64 k3, .int .i64 k4, .int .i64 k5, .int .i64 k6, .string s7, .string s8, .int .i64 q, .slice a1 n c1]) := HF3.out.on hb4
    have HI4 : Hid (WrAt w4 a1 n l) := HI3.out.below hb4
    have HJ4 : Hid (WrAt w4 a2 n l) := HJ3.out.below hb4
    have d0 : w4.cell? ⟨g, 0, none⟩ = some (.int .i64 K) := HF4.out.cell 0
    have d1 : w4.cell? ⟨g, 1, none⟩ = some (.int .i64 F) := HF4.out.cell 1
    have d2 : w4.cell? ⟨g, 2, none⟩ = some (.int .i64 C) := HF4.out.cell 2
    have d3 : w4.cell? ⟨g, 3, none⟩ = some (.int .i64 S) := HF4.out.cell 3
    have d4 : w4.cell? ⟨g, 4, none⟩ = some (.string H) := HF4.out.cell 4
    have d5 : w4.cell? ⟨g, 5, none⟩ = some (.int .i64 k0) := HF4.out.cell 5
    have d6 : w4.cell? ⟨g, 6, none⟩ = some (.int .i64 k1) := HF4.out.cell 6
    have d7 : w4.cell? ⟨g, 7, none⟩ = some (.int .i64 k2) := HF4.out.cell 7
    have d8 : w4.cell? ⟨g, 8, none⟩ = some (.int .i64 k3) := HF4.out.cell 8
    have d9 : w4.cell? ⟨g, 9, none⟩ = some (.int .i64 k4) := HF4.out.cell 9
    have d10 : w4.cell? ⟨g, 10, none⟩ = some (.int .i64 k5) := HF4.out.cell 10
    have d11 : w4.cell? ⟨g, 11, none⟩ = some (.int .i64 k6) := HF4.out.cell 11
    have d12 : w4.cell? ⟨g, 12, none⟩ = some (.string s7) := HF4.out.cell 12
    have d13 : w4.cell? ⟨g, 13, none⟩ = some (.string s8) := HF4.out.cell 13
    have d14 : w4.cell? ⟨g, 14, none⟩ = some (.int .i64 q) := HF4.out.cell 14
    have d15 : w4.cell? ⟨g, 15, none⟩ = some (.slice a1 n c1) := HF4.out.cell 15
    have e0 : w4.cell? ⟨w3.heap.size, 0, none⟩ = some (.int .i64 K) := hG4.cell 0
    have e1 : w4.cell? ⟨w3.heap.size, 1, none⟩ = some (.int .i64 F) := hG4.cell 1
    have e2 : w4.cell? ⟨w3.heap.size, 2, none⟩ = some (.int .i64 C) := hG4.cell 2
    have e3 : w4.cell? ⟨w3.heap.size, 3, none⟩ = some (.int .i64 S) := hG4.cell 3
    have e4 : w4.cell? ⟨w3.heap.size, 4, none⟩ = some (.string H) := hG4.cell 4
    have e5 : w4.cell? ⟨w3.heap.size, 5, none⟩ = some (.int .i64 k0) := hG4.cell 5
    have e6 : w4.cell? ⟨w3.heap.size, 6, none⟩ = some (.int .i64 k1) := hG4.cell 6
    have e7 : w4.cell? ⟨w3.heap.size, 7, none⟩ = some (.int .i64 k2) := hG4.cell 7
    have e8 : w4.cell? ⟨w3.heap.size, 8, none⟩ = some (.int .i64 k3) := hG4.cell 8
    have e9 : w4.cell? ⟨w3.heap.size, 9, none⟩ = some (.int .i64 k4) := hG4.cell 9
    have e10 : w4.cell? ⟨w3.heap.size, 10, none⟩ = some (.int .i64 k5) := hG4.cell 10
    have e11 : w4.cell? ⟨w3.heap.size, 11, none⟩ = some (.int .i64 k6) := hG4.cell 11
    have e12 : w4.cell? ⟨w3.heap.size, 12, none⟩ = some (.string s7) := hG4.cell 12
    have e13 : w4.cell? ⟨w3.heap.size, 13, none⟩ = some (.string s8) := hG4.cell 13
    have e14 : w4.cell? ⟨w3.heap.size, 14, none⟩ = some (.int .i64 q) := hG4.cell 14
    have e15 : w4.cell? ⟨w3.heap.size, 15, none⟩ = some (.slice a2 n c2) := hG4.cell 15
    clear hb4 hG4 HB3 HF3 HI3 HJ3
    go_wp2_with (with_reducible refine wpList_storeBlk rfl 28 _ _ rfl w3.heap.size #[.int .i64 0, .int .i64 0, .int .i64 0, .int .i64 0, .string ⟨#[]⟩, .int .i64 0, .int .i64 0, .int .i64 0, .int .i64 0, .int .i64 0, .int .i64 0, .int .i64 0, .string ⟨#[]⟩, .string ⟨#[]⟩, .int .i64 0, .slice none 0 0] #[.int .i64 K, .int .i64 F, .int .i64 C, .int .i64 S, .string H, .int .i64 k0, .int .i64 k1, .int .i64 k2, .int .i64 k3, .int .i64 k4, .int .i64 k5, .int .i64 k6, .string s7, .string s8, .int .i64 q, .slice a2 n c2] (by with_unfolding_all rfl) (by with_unfolding_all rfl) X1 rfl (by kernel_rfl) (by kernel_rfl) ?_)
    try rw [hw4]
    clear hw4 X1 d0 e0 d1 e1 d2 e2 d3 e3 d4 e4 d5 e5 d6 e6 d7 e7 d8 e8 d9 e9 d10 e10 d11 e11 d12 e12 d13 e13 d14 e14 d15 e15
    refine (CS.out a1 a2 c1 c2 w4 HC1.out HC2.out HI4.out HJ4.out).mono ?_
    rintro e w5 ⟨rfl, hb⟩
    have hB5 : Below w.heap.size w w5 := below_step HB4.out (Nat.le_refl _) hb
    have HF5 : Hid (Blk w5 28 g #[.int .i64 K, .int .i64 F, .int .i64 C, .int .i64 S, .string H, .int .i64 k0, .int .i64 k1, .int .i64 k2, .int .i64 k3, .int .i64 k4, .int .i64 k5, .int .i64 k6, .string s7, .string s8, .int .i64 q, .slice a1 n c1]) := HF4.out.on hb
    have HI5 : Hid (WrAt w5 a1 n l) := HI4.out.below hb
    clear hb HB4 HF4 HI4 HJ4 CS HC2
    have tE : (E != E) = false := by simp
    by_cases hE : E = 0
    · have CP1 : Hid (∀ (a : Option Addr) (c : Nat) (W : World), _) := CP.out hE
      clear CP
      subst hE
      have d0 : w5.cell? ⟨g, 0, none⟩ = some (.int .i64 K) := HF5.out.cell 0
      have d1 : w5.cell? ⟨g, 1, none⟩ = some (.int .i64 F) := HF5.out.cell 1
      have d2 : w5.cell? ⟨g, 2, none⟩ = some (.int .i64 C) := HF5.out.cell 2
      have d3 : w5.cell? ⟨g, 3, none⟩ = some (.int .i64 S) := HF5.out.cell 3
      have d4 : w5.cell? ⟨g, 4, none⟩ = some (.string H) := HF5.out.cell 4
      have d5 : w5.cell? ⟨g, 5, none⟩ = some (.int .i64 k0) := HF5.out.cell 5
      have d6 : w5.cell? ⟨g, 6, none⟩ = some (.int .i64 k1) := HF5.out.cell 6
      have d7 : w5.cell? ⟨g, 7, none⟩ = some (.int .i64 k2) := HF5.out.cell 7
      have d8 : w5.cell? ⟨g, 8, none⟩ = some (.int .i64 k3) := HF5.out.cell 8
      have d9 : w5.cell? ⟨g, 9, none⟩ = some (.int .i64 k4) := HF5.out.cell 9
      have d10 : w5.cell? ⟨g, 10, none⟩ = some (.int .i64 k5) := HF5.out.cell 10
      have d11 : w5.cell? ⟨g, 11, none⟩ = some (.int .i64 k6) := HF5.out.cell 11
      have d12 : w5.cell? ⟨g, 12, none⟩ = some (.string s7) := HF5.out.cell 12
      have d13 : w5.cell? ⟨g, 13, none⟩ = some (.string s8) := HF5.out.cell 13
      have d14 : w5.cell? ⟨g, 14, none⟩ = some (.int .i64 q) := HF5.out.cell 14
      have d15 : w5.cell? ⟨g, 15, none⟩ = some (.slice a1 n c1) := HF5.out.cell 15
      have HB5 : Hid (Below w.heap.size w w5) := hB5
      clear hB5 HF5
      go_wp2_with fail
      clear d0 d1 d2 d3 d4 d5 d6 d7 d8 d9 d10 d11 d12 d13 d14 d15
      refine (CP1.out a1 c1 w5 HB5.out HI5.out).mono ?_
      rintro e w6 ⟨rfl, hb⟩
      have hB6 : Below w.heap.size w w6 := below_step HB5.out (Nat.le_refl _) hb
      clear hb HB5 HI5 CP1
      go_wp2_with fail
      refine (CA.out _ (by assumption)).mono ?_
      rintro e w9 ⟨rfl, hb9⟩
      go_wp2_with fail
      go_ret
      exact ⟨rfl, hb9⟩
    · have tE2 : (E != 0) = true := by simp [hE]
      clear HF5 HI5 CP
      go_wp2_with fail
      refine (CA.out _ (by assumption)).mono ?_
      rintro e w9 ⟨rfl, hb9⟩
      go_wp2_with fail
      go_ret
      exact ⟨rfl, hb9⟩
  · have g0 : ((2048 : Int) < (s.size : Int)) := by omega
    have hB0 := Below.refl w.heap.size w
    go_enter Tryd.func4, Tryd.ntmps4
    go_wp2_with fail
    refine (CA.out _ (by assumption)).mono ?_
    rintro e w9 ⟨rfl, hb9⟩
    go_wp2_with fail
    go_ret
    exact ⟨rfl, hb9⟩

end Go.Proofs.YtmjjpfinkpfifaaDoor
