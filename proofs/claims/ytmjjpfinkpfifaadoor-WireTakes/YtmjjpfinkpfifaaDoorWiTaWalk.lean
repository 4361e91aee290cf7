/- The walk of WireTakes. -/
import Derived.Test.YtmjjpfinkpfifaaDoorWiI
import Derived.Test.YtmjjpfinkpfifaaDoorRWiN
namespace Go.Proofs.YtmjjpfinkpfifaaDoor
open Go.RowKit
set_option maxRecDepth 100000
set_option linter.unusedSimpArgs false
set_option linter.unusedVariables false
set_option maxRecDepth 100000

theorem takeFC_sizes (s : ByteArray) : (takeFC s).1.2.2.2.2.2.2.1.length ≤ 256 ∧ (∀ i, (itL (takeFC s).1.2.2.2.2.2.2.1 i).2.2.size ≤ 9223372036854775807) ∧ (takeFC s).1.2.2.2.2.2.1.size ≤ 9223372036854775807 := by
  unfold takeFC
  split
  · exact ⟨by decide, fun i => Nat.zero_le _, by decide⟩
  · unfold readFC
    simp only
    refine ⟨?_, its_size _ _, Nat.le_trans (inTextC_size _ _) (by decide)⟩
    rw [readLW_len]
    exact Nat.le_of_lt (number1_lt _)



set_option maxHeartbeats 8000000 in
theorem wireTakes_walk (s : ByteArray) (w : World) (hG : Glob8 w) (hsz : s.size ≤ 9223372036854775807) : Calls Tryd.prog 6 #[.string s] w fun e w' => e = .returned (.bool true) ∧ Below w.heap.size w w' := by
  have CA : Hid (∀ W, Below w.heap.size w W → Calls Tryd.prog 10 #[] W fun e w' => e = .returned (.bool true) ∧ Below w.heap.size w w') := fun W hW => (awake19 W (hG.below hW)).mono fun e w' h => ⟨h.1, below_step hW (Nat.le_refl _) h.2⟩
  by_cases hs : s.size ≤ 4096
  · have g0 : ¬ ((4096 : Int) < (s.size : Int)) := by omega
    have g1 : decide ((4096 : Int) < (s.size : Int)) = false := decide_eq_false g0
    have hss : (s.toList == s.toList) = true := by simp
    have CT' : ∀ W, Below w.heap.size w W → _ := fun W hW => takeF_any s W (by omega)
    have CR' : ∀ W, _ := fun W => rtakeF_any s W (by omega)
    rw [← takeF_same s (by omega)] at CR'
    have hq := takeFC_sizes s
    have hinv := takeFC_inv s
    unfold TakenF at CT' CR'
    obtain ⟨X, hX⟩ : ∃ X, takeFC s = X := ⟨_, rfl⟩
    simp only [hX] at CT' CR' hq hinv
    obtain ⟨F0, E⟩ := X
    obtain ⟨K, G, S, E0, M, bl, l, er⟩ := F0
    simp only at hq hinv
    have CT : Hid (∀ W, Below w.heap.size w W → Calls Tryd.prog 21 #[.string s] W fun e w' => ∃ a c, e = .returned (.tuple #[.agg #[.int .i64 K, .int .i64 G, .int .i64 S, .int .i64 E0, .int .i64 M, .string bl, .slice a l.length c, .int .i64 er], .int .i64 E]) ∧ l.length ≤ c ∧ ItsAt w' a l.length l ∧ Below W.heap.size W w') := fun W hW => (CT' W hW).mono fun e w' ⟨a, c, h1, h2, h3, h4, h5⟩ => ⟨a, c, h1, h2, h4, h5⟩
    have CR : Hid (∀ W, Calls Tryd.prog 23 #[.string s] W fun e w' => ∃ a c, e = .returned (.tuple #[.agg #[.int .i64 K, .int .i64 G, .int .i64 S, .int .i64 E0, .int .i64 M, .string bl, .slice a l.length c, .int .i64 er], .int .i64 E]) ∧ l.length ≤ c ∧ ItsAt w' a l.length l ∧ Below W.heap.size W w') := fun W => (CR' W).mono fun e w' ⟨a, c, h1, h2, h3, h4, h5⟩ => ⟨a, c, h1, h2, h4, h5⟩
    have CS' : ∀ (a a' : Option Addr) (c c' : Nat) (W : World), l.length ≤ c → l.length ≤ c' → ItsAt W a l.length l → ItsAt W a' l.length l → _ := fun a a' c c' W h1 h2 h3 h4 => rsame19_any (K, G, S, E0, M, bl, l, er) (K, G, S, E0, M, bl, l, er) true ⟨fun _ => rfl, fun _ => rfl⟩ a a' c c' W (by show l.length ≤ _; have := hq.1; omega) h1 h2 h3 h4
    simp only [frmA] at CS'
    have CS : Hid (∀ (a a' : Option Addr) (c c' : Nat) (W : World), l.length ≤ c → l.length ≤ c' → ItsAt W a l.length l → ItsAt W a' l.length l → _) := CS'
    clear CS'
    have CP : Hid (E = 0 → ∀ (a : Option Addr) (c : Nat) (W : World), Below w.heap.size w W → ItsAt W a l.length l → Calls Tryd.prog 19 #[.agg #[.int .i64 K, .int .i64 G, .int .i64 S, .int .i64 E0, .int .i64 M, .string bl, .slice a l.length c, .int .i64 er]] W fun e w' => e = .returned (.tuple #[.string s, .int .i64 0]) ∧ Below W.heap.size W w') := fun he a c W hW hI => by
      have h := putF_any (K, G, S, E0, M, bl, l, er) a c W (by show l.length ≤ _; have := hq.1; omega) hI hq.2.1 hq.2.2
      rw [hinv he] at h
      exact h
    clear CT' CR' hX hq hinv
    obtain ⟨n, hn⟩ : ∃ n, l.length = n := ⟨_, rfl⟩
    rw [hn] at CT CR CS CP
    clear hn hG
    go_enter Tryd.func6, Tryd.ntmps6
    go_wp2_with fail
    refine (CT.out w (Below.refl _ _)).mono ?_
    rintro e w1 ⟨a1, c1, rfl, hc1, hi1, hb⟩
    have HB1 : Hid (Below w.heap.size w w1) := hb
    have HI1 : Hid (ItsAt w1 a1 n l) := hi1
    have HC1 : Hid (n ≤ c1) := hc1
    clear hb hi1 hc1 CT
    have X1 : Blk (w1.alloc (.cells #[.int .i64 0, .int .i64 0, .int .i64 0, .int .i64 0, .int .i64 0, .string ⟨#[]⟩, .slice none 0 0, .int .i64 0] 41)) 41 w1.heap.size #[.int .i64 0, .int .i64 0, .int .i64 0, .int .i64 0, .int .i64 0, .string ⟨#[]⟩, .slice none 0 0, .int .i64 0] := Blk.new _ _ _
    have hF2 : Blk ((w1.alloc (.cells #[.int .i64 0, .int .i64 0, .int .i64 0, .int .i64 0, .int .i64 0, .string ⟨#[]⟩, .slice none 0 0, .int .i64 0] 41)).setRow w1.heap.size #[.int .i64 K, .int .i64 G, .int .i64 S, .int .i64 E0, .int .i64 M, .string bl, .slice a1 n c1, .int .i64 er]) 41 w1.heap.size #[.int .i64 K, .int .i64 G, .int .i64 S, .int .i64 E0, .int .i64 M, .string bl, .slice a1 n c1, .int .i64 er] := X1.setRow _
    have hb2 : Below w1.heap.size w1 ((w1.alloc (.cells #[.int .i64 0, .int .i64 0, .int .i64 0, .int .i64 0, .int .i64 0, .string ⟨#[]⟩, .slice none 0 0, .int .i64 0] 41)).setRow w1.heap.size #[.int .i64 K, .int .i64 G, .int .i64 S, .int .i64 E0, .int .i64 M, .string bl, .slice a1 n c1, .int .i64 er]) := below_setRow (below_new _ _) (Nat.le_refl _) _
    obtain ⟨w2, hw2⟩ : ∃ w2, (w1.alloc (.cells #[.int .i64 0, .int .i64 0, .int .i64 0, .int .i64 0, .int .i64 0, .string ⟨#[]⟩, .slice none 0 0, .int .i64 0] 41)).setRow w1.heap.size #[.int .i64 K, .int .i64 G, .int .i64 S, .int .i64 E0, .int .i64 M, .string bl, .slice a1 n c1, .int .i64 er] = w2 := ⟨_, rfl⟩
    rw [hw2] at hF2 hb2
    have HF2 : Hid (Blk w2 41 w1.heap.size #[.int .i64 K, .int .i64 G, .int .i64 S, .int .i64 E0, .int .i64 M, .string bl, .slice a1 n c1, .int .i64 er]) := hF2
    have HB2 : Hid (Below w.heap.size w w2) := below_step HB1.out (Nat.le_refl _) hb2
    have HI2 : Hid (ItsAt w2 a1 n l) := HI1.out.below hb2
    clear hb2 hF2 HB1 HI1
    go_wp2_with (with_reducible refine wpList_storeBlk rfl 41 _ _ rfl w1.heap.size #[.int .i64 0, .int .i64 0, .int .i64 0, .int .i64 0, .int .i64 0, .string ⟨#[]⟩, .slice none 0 0, .int .i64 0] #[.int .i64 K, .int .i64 G, .int .i64 S, .int .i64 E0, .int .i64 M, .string bl, .slice a1 n c1, .int .i64 er] (by with_unfolding_all rfl) (by with_unfolding_all rfl) X1 rfl (by kernel_rfl) (by kernel_rfl) ?_)
    try rw [hw2]
    obtain ⟨g, hg⟩ : ∃ g, w1.heap.size = g := ⟨_, rfl⟩
    rw [hg] at HF2
    try rw [hg]
    clear hw2 hg X1
    refine (CR.out w2).mono ?_
    rintro e w3 ⟨a2, c2, rfl, hc2, hi2, hb⟩
    have HB3 : Hid (Below w.heap.size w w3) := below_step HB2.out (Nat.le_refl _) hb
    have HF3 : Hid (Blk w3 41 g #[.int .i64 K, .int .i64 G, .int .i64 S, .int .i64 E0, .int .i64 M, .string bl, .slice a1 n c1, .int .i64 er]) := HF2.out.on hb
    have HI3 : Hid (ItsAt w3 a1 n l) := HI2.out.below hb
    have HJ3 : Hid (ItsAt w3 a2 n l) := hi2
    have HC2 : Hid (n ≤ c2) := hc2
    clear hb hi2 hc2 HB2 HF2 HI2 CR
    have X1 : Blk (w3.alloc (.cells #[.int .i64 0, .int .i64 0, .int .i64 0, .int .i64 0, .int .i64 0, .string ⟨#[]⟩, .slice none 0 0, .int .i64 0] 41)) 41 w3.heap.size #[.int .i64 0, .int .i64 0, .int .i64 0, .int .i64 0, .int .i64 0, .string ⟨#[]⟩, .slice none 0 0, .int .i64 0] := Blk.new _ _ _
    have hG4 : Blk ((w3.alloc (.cells #[.int .i64 0, .int .i64 0, .int .i64 0, .int .i64 0, .int .i64 0, .string ⟨#[]⟩, .slice none 0 0, .int .i64 0] 41)).setRow w3.heap.size #[.int .i64 K, .int .i64 G, .int .i64 S, .int .i64 E0, .int .i64 M, .string bl, .slice a2 n c2, .int .i64 er]) 41 w3.heap.size #[.int .i64 K, .int .i64 G, .int .i64 S, .int .i64 E0, .int .i64 M, .string bl, .slice a2 n c2, .int .i64 er] := X1.setRow _
    have hb4 : Below w3.heap.size w3 ((w3.alloc (.cells #[.int .i64 0, .int .i64 0, .int .i64 0, .int .i64 0, .int .i64 0, .string ⟨#[]⟩, .slice none 0 0, .int .i64 0] 41)).setRow w3.heap.size #[.int .i64 K, .int .i64 G, .int .i64 S, .int .i64 E0, .int .i64 M, .string bl, .slice a2 n c2, .int .i64 er]) := below_setRow (below_new _ _) (Nat.le_refl _) _
    obtain ⟨w4, hw4⟩ : ∃ w4, (w3.alloc (.cells #[.int .i64 0, .int .i64 0, .int .i64 0, .int .i64 0, .int .i64 0, .string ⟨#[]⟩, .slice none 0 0, .int .i64 0] 41)).setRow w3.heap.size #[.int .i64 K, .int .i64 G, .int .i64 S, .int .i64 E0, .int .i64 M, .string bl, .slice a2 n c2, .int .i64 er] = w4 := ⟨_, rfl⟩
    rw [hw4] at hG4 hb4
    have HB4 : Hid (Below w.heap.size w w4) := below_step HB3.out (Nat.le_refl _) hb4
    have HF4 : Hid (Blk w4 41 g #[.int .i64 K, .int .i64 G, .int .i64 S, .int .i64 E0, .int .i64 M, .string bl, .slice a1 n c1, .int .i64 er]) := HF3.out.on hb4
    have HI4 : Hid (ItsAt w4 a1 n l) := HI3.out.below hb4
    have HJ4 : Hid (ItsAt w4 a2 n l) := HJ3.out.below hb4
    have d0 : w4.cell? ⟨g, 0, none⟩ = some (.int .i64 K) := HF4.out.cell 0
    have d1 : w4.cell? ⟨g, 1, none⟩ = some (.int .i64 G) := HF4.out.cell 1
    have d2 : w4.cell? ⟨g, 2, none⟩ = some (.int .i64 S) := HF4.out.cell 2
    have d3 : w4.cell? ⟨g, 3, none⟩ = some (.int .i64 E0) := HF4.out.cell 3
    have d4 : w4.cell? ⟨g, 4, none⟩ = some (.int .i64 M) := HF4.out.cell 4
    have d5 : w4.cell? ⟨g, 5, none⟩ = some (.string bl) := HF4.out.cell 5
    have d6 : w4.cell? ⟨g, 6, none⟩ = some (.slice a1 n c1) := HF4.out.cell 6
    have d7 : w4.cell? ⟨g, 7, none⟩ = some (.int .i64 er) := HF4.out.cell 7
    have e0 : w4.cell? ⟨w3.heap.size, 0, none⟩ = some (.int .i64 K) := hG4.cell 0
    have e1 : w4.cell? ⟨w3.heap.size, 1, none⟩ = some (.int .i64 G) := hG4.cell 1
    have e2 : w4.cell? ⟨w3.heap.size, 2, none⟩ = some (.int .i64 S) := hG4.cell 2
    have e3 : w4.cell? ⟨w3.heap.size, 3, none⟩ = some (.int .i64 E0) := hG4.cell 3
    have e4 : w4.cell? ⟨w3.heap.size, 4, none⟩ = some (.int .i64 M) := hG4.cell 4
    have e5 : w4.cell? ⟨w3.heap.size, 5, none⟩ = some (.string bl) := hG4.cell 5
    have e6 : w4.cell? ⟨w3.heap.size, 6, none⟩ = some (.slice a2 n c2) := hG4.cell 6
    have e7 : w4.cell? ⟨w3.heap.size, 7, none⟩ = some (.int .i64 er) := hG4.cell 7
    clear hb4 hG4 HB3 HF3 HI3 HJ3
    go_wp2_with (with_reducible refine wpList_storeBlk rfl 41 _ _ rfl w3.heap.size #[.int .i64 0, .int .i64 0, .int .i64 0, .int .i64 0, .int .i64 0, .string ⟨#[]⟩, .slice none 0 0, .int .i64 0] #[.int .i64 K, .int .i64 G, .int .i64 S, .int .i64 E0, .int .i64 M, .string bl, .slice a2 n c2, .int .i64 er] (by with_unfolding_all rfl) (by with_unfolding_all rfl) X1 rfl (by kernel_rfl) (by kernel_rfl) ?_)
    try rw [hw4]
    clear hw4 X1 d0 e0 d1 e1 d2 e2 d3 e3 d4 e4 d5 e5 d6 e6 d7 e7
    refine (CS.out a1 a2 c1 c2 w4 HC1.out HC2.out HI4.out HJ4.out).mono ?_
    rintro e w5 ⟨rfl, hb⟩
    have hB5 : Below w.heap.size w w5 := below_step HB4.out (Nat.le_refl _) hb
    have HF5 : Hid (Blk w5 41 g #[.int .i64 K, .int .i64 G, .int .i64 S, .int .i64 E0, .int .i64 M, .string bl, .slice a1 n c1, .int .i64 er]) := HF4.out.on hb
    have HI5 : Hid (ItsAt w5 a1 n l) := HI4.out.below hb
    clear hb HB4 HF4 HI4 HJ4 CS HC2
    have tE : (E != E) = false := by simp
    by_cases hE : E = 0
    · have CP1 : Hid (∀ (a : Option Addr) (c : Nat) (W : World), _) := CP.out hE
      clear CP
      subst hE
      have d0 : w5.cell? ⟨g, 0, none⟩ = some (.int .i64 K) := HF5.out.cell 0
      have d1 : w5.cell? ⟨g, 1, none⟩ = some (.int .i64 G) := HF5.out.cell 1
      have d2 : w5.cell? ⟨g, 2, none⟩ = some (.int .i64 S) := HF5.out.cell 2
      have d3 : w5.cell? ⟨g, 3, none⟩ = some (.int .i64 E0) := HF5.out.cell 3
      have d4 : w5.cell? ⟨g, 4, none⟩ = some (.int .i64 M) := HF5.out.cell 4
      have d5 : w5.cell? ⟨g, 5, none⟩ = some (.string bl) := HF5.out.cell 5
      have d6 : w5.cell? ⟨g, 6, none⟩ = some (.slice a1 n c1) := HF5.out.cell 6
      have d7 : w5.cell? ⟨g, 7, none⟩ = some (.int .i64 er) := HF5.out.cell 7
      have HB5 : Hid (Below w.heap.size w w5) := hB5
      clear hB5 HF5
      go_wp2_with fail
      clear d0 d1 d2 d3 d4 d5 d6 d7
      refine (CP1.out a1 c1 w5 HB5.out HI5.out).mono ?_
      rintro e w6 ⟨rfl, hb⟩
      have hB6 : Below w.heap.size w w6 := below_step HB5.out (Nat.le_refl _) hb
      clear hb HB5 HI5 CP1
      go_wp2_with fail
      refine (CA.out _ (by assumption)).mono ?_
      rintro e w9 ⟨rfl, hb9⟩
      go_wp2_with fail
      go_ret
      exact ⟨rfl, hb9⟩
    · have tE2 : (E != 0) = true := by simp [hE]
      clear HF5 HI5 CP
      go_wp2_with fail
      refine (CA.out _ (by assumption)).mono ?_
      rintro e w9 ⟨rfl, hb9⟩
      go_wp2_with fail
      go_ret
      exact ⟨rfl, hb9⟩
  · have g0 : ((4096 : Int) < (s.size : Int)) := by omega
    have hB0 := Below.refl w.heap.size w
    go_enter Tryd.func6, Tryd.ntmps6
    go_wp2_with fail
    refine (CA.out _ (by assumption)).mono ?_
    rintro e w9 ⟨rfl, hb9⟩
    go_wp2_with fail
    go_ret
    exact ⟨rfl, hb9⟩

end Go.Proofs.YtmjjpfinkpfifaaDoor
