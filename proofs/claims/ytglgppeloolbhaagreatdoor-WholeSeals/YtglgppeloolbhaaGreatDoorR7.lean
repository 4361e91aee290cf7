import Derived.Test.YtglgppeloolbhaaGreatDoorL5
import Derived.Test.YtglgppeloolbhaaGreatDoorR6
import Derived.Test.YtglgppeloolbhaaGreatDoorR5
import Derived.BigQuiet
/- Sealing on plain bytes: nothing of the program. -/
namespace Go.Proofs.YtglgppeloolbhaaGreatDoor
open Go.RowKit
set_option maxRecDepth 100000
set_option linter.unusedSimpArgs false

/-- How many noughts are wanted up to a multiple of 16. -/
def fillA (n : Nat) : Nat := (16 - n % 16) % 16
def fillB (s : ByteArray) : ByteArray := s ++ zeroB (fillA s.size)
theorem fillB_size (s : ByteArray) : (fillB s).size = s.size + fillA s.size := by
  unfold fillB; rw [ByteArray.size_append, zeroB_size]
theorem fillA_lt (n : Nat) : fillA n < 16 := Nat.mod_lt _ (by decide)
theorem zeroB_snoc (k : Nat) : zeroB k ++ ⟨#[0]⟩ = zeroB (k + 1) := by
  apply bytes_ext
  unfold zeroB
  rw [ByteArray.data_append, Array.toList_append, List.toList_toArray, List.toList_toArray, List.replicate_succ']
theorem fill_more (s : ByteArray) (k : Nat) : (s ++ zeroB k) ++ ⟨#[0]⟩ = s ++ zeroB (k + 1) := by
  rw [ByteArray.append_assoc, zeroB_snoc]
theorem zeroB_none (s : ByteArray) : s ++ zeroB 0 = s := by
  apply bytes_ext
  rw [ByteArray.data_append, Array.toList_append]
  show s.data.toList ++ [] = _
  rw [List.append_nil]
/-- Two lengths, as eight bytes each. -/
def lensB (a b : Nat) : ByteArray := ⟨(putL [(a : Int), 0, (b : Int), 0] ssh).toArray⟩
theorem lensB_size (a b : Nat) : (lensB a b).size = 16 := by unfold lensB; rw [put_size]; rfl
/-- What is summed. -/
def macText (b c : ByteArray) : ByteArray := (fillB b ++ fillB c) ++ lensB b.size c.size
theorem macText_size (b c : ByteArray) : (macText b c).size = b.size + fillA b.size + (c.size + fillA c.size) + 16 := by
  unfold macText; rw [ByteArray.size_append, ByteArray.size_append, fillB_size, fillB_size, lensB_size]
theorem macText_le (b c : ByteArray) (h : b.size + c.size ≤ 65000) : (macText b c).size ≤ 65536 := by
  rw [macText_size]
  have h1 := fillA_lt b.size
  have h2 := fillA_lt c.size
  omega
/-- The key of the tag; the tag; what is sealed. -/
def keyA (key nonce : ByteArray) : ByteArray := (blockB key nonce 0).extract 0 32
theorem keyA_size (key nonce : ByteArray) : (keyA key nonce).size = 32 := by unfold keyA; rw [ByteArray.size_extract, blockB_size]; rfl
def tagA (key nonce b c : ByteArray) : ByteArray := tagB (keyA key nonce) (macText b c)
theorem tagA_size (key nonce b c : ByteArray) : (tagA key nonce b c).size = 16 := tagB_size _ _
def sealB (key nonce b s : ByteArray) : ByteArray := streamB key nonce 1 s ++ tagA key nonce b (streamB key nonce 1 s)
/-- May a key, a nonce, and texts of so many bytes be? -/
def MayA (key nonce : ByteArray) (a b : Nat) : Prop := key.size = 32 ∧ nonce.size = 12 ∧ a + b ≤ 32768
theorem MayA.fits {key nonce : ByteArray} {a b : Nat} (h : MayA key nonce a b) (c : Nat) (hc : c < 4294967296) : Fits key nonce (c : Int) := ⟨h.1, h.2.1, by omega, by omega⟩
end Go.Proofs.YtglgppeloolbhaaGreatDoor

/- The document's filled, may. -/
namespace Go.Proofs.YtglgppeloolbhaaGreatDoor
open Go.RowKit
set_option maxRecDepth 100000
set_option linter.unusedSimpArgs false

def sizeOfV : Value → Nat
  | .string s => s.size
  | _ => 0

set_option maxHeartbeats 1000000 in
theorem rfilled_any (s : ByteArray) (w : World) (hs : s.size ≤ 1048576) :
    Calls Tryz.prog 34 #[.string s] w fun e w' => e = .returned (.string (fillB s)) ∧ w' = w := by
  obtain ⟨E, HE⟩ : ∃ E, Hid (E = fillB s) := ⟨_, rfl⟩
  have H0 : Hid (s ++ zeroB 0 = s) := zeroB_none s
  rw [← HE.out]
  go_enter Tryz.func34, Tryz.ntmps34
  go_wp2_with fail
  go_loopw [0] (fun v wr => ∃ k : Nat, ∃ t : ByteArray, k ≤ fillA s.size ∧ v = .string t ∧ Hid (t = s ++ zeroB k) ∧ wr = w) (fun v _ => fillA (sizeOfV v))
  case atStart => exact ⟨0, s, Nat.zero_le _, rfl, H0.out.symm, rfl⟩
  case round =>
    obtain ⟨k, t, hk, rfl, Ht, rfl⟩ := hrel
    have ht : t.size = s.size + k := by rw [Ht.out, ByteArray.size_append, zeroB_size]
    have hlt16 := fillA_lt s.size
    by_cases hm : t.size % 16 = 0
    · have g0 : (((t.size : Int) % 16 != 0)) = false := by rw [bne_eq_false_iff_eq]; omega
      have hkk : k = fillA s.size := by
        have : fillA s.size = (16 - s.size % 16) % 16 := rfl
        omega
      have hE : t = E := by rw [Ht.out, hkk, HE.out]; rfl
      subst hE
      clear Ht
      go_wp2
      go_ret
      exact ⟨rfl, rfl⟩
    · have g0 : (((t.size : Int) % 16 != 0)) = true := by rw [bne_iff_ne]; omega
      obtain ⟨u, hu⟩ : ∃ u, t ++ ⟨#[0]⟩ = u := ⟨_, rfl⟩
      have Hu : Hid (u = s ++ zeroB (k + 1)) := by show _ = _; rw [← hu, Ht.out, fill_more]
      have hus : u.size = t.size + 1 := by rw [← hu, ByteArray.size_append]; rfl
      have hsum : ¬ (9223372036854775807 < t.size + 1) := by omega
      have hk1 : k + 1 ≤ fillA s.size := by
        have : fillA s.size = (16 - s.size % 16) % 16 := rfl
        omega
      have hmeas : fillA u.size < fillA t.size := by
        have e1 : fillA u.size = (16 - u.size % 16) % 16 := rfl
        have e2 : fillA t.size = (16 - t.size % 16) % 16 := rfl
        omega
      clear hus Ht
      go_wp2
      refine ⟨⟨k + 1, u, hk1, rfl, Hu, by first | rfl | trivial⟩, ?_⟩
      exact hmeas

set_option maxHeartbeats 1000000 in
theorem rmay_any (key nonce : ByteArray) (a b : Nat) (w : World) (ha : a ≤ 4503599627370496) (hb : b ≤ 4503599627370496) :
    Calls Tryz.prog 14 #[.string key, .string nonce, .int .i64 (a : Int), .int .i64 (b : Int)] w fun e w' => ∃ t, e = .returned (.bool t) ∧ (t = true ↔ MayA key nonce a b) ∧ w' = w := by
  by_cases h1 : key.size = 32
  · have g1 : (((key.size : Int) == 32)) = true := by rw [beq_iff_eq]; omega
    by_cases h2 : nonce.size = 12
    · have g2 : (((nonce.size : Int) == 12)) = true := by rw [beq_iff_eq]; omega
      by_cases h3 : a ≤ 32768
      · have g3 : decide ((a : Int) ≤ 32768) = true := by simp; omega
        by_cases h4 : a + b ≤ 32768
        · have g4 : decide ((b : Int) ≤ 32768 - (a : Int)) = true := by simp; omega
          have hM : MayA key nonce a b := ⟨h1, h2, h4⟩
          go_enter Tryz.func14, Tryz.ntmps14
          go_wp2
          go_ret
          exact ⟨true, rfl, ⟨fun _ => hM, fun _ => rfl⟩, rfl⟩
        · have g4 : decide ((b : Int) ≤ 32768 - (a : Int)) = false := by simp; omega
          have hM : ¬ MayA key nonce a b := fun h => h4 h.2.2
          go_enter Tryz.func14, Tryz.ntmps14
          go_wp2
          go_ret
          exact ⟨false, rfl, ⟨fun h => (by cases h), fun h => absurd h hM⟩, rfl⟩
      · have g3 : decide ((a : Int) ≤ 32768) = false := by simp; omega
        have hM : ¬ MayA key nonce a b := fun h => h3 (by have := h.2.2; omega)
        go_enter Tryz.func14, Tryz.ntmps14
        go_wp2
        go_ret
        exact ⟨false, rfl, ⟨fun h => (by cases h), fun h => absurd h hM⟩, rfl⟩
    · have g2 : (((nonce.size : Int) == 12)) = false := by rw [beq_eq_false_iff_ne]; omega
      have hM : ¬ MayA key nonce a b := fun h => h2 h.2.1
      go_enter Tryz.func14, Tryz.ntmps14
      go_wp2
      go_ret
      exact ⟨false, rfl, ⟨fun h => (by cases h), fun h => absurd h hM⟩, rfl⟩
  · have g1 : (((key.size : Int) == 32)) = false := by rw [beq_eq_false_iff_ne]; omega
    have hM : ¬ MayA key nonce a b := fun h => h1 h.1
    go_enter Tryz.func14, Tryz.ntmps14
    go_wp2
    go_ret
    exact ⟨false, rfl, ⟨fun h => (by cases h), fun h => absurd h hM⟩, rfl⟩
end Go.Proofs.YtglgppeloolbhaaGreatDoor

/- The document's Tag. -/
namespace Go.Proofs.YtglgppeloolbhaaGreatDoor
open Go.RowKit
set_option maxRecDepth 100000
set_option linter.unusedSimpArgs false

set_option maxRecDepth 100000 in
set_option maxHeartbeats 4000000 in
theorem rtag_yes (key nonce b c : ByteArray) (w : World) (hk : key.size = 32) (hn : nonce.size = 12) (hs : b.size + c.size ≤ 65000) :
    Calls Tryz.prog 16 #[.string key, .string nonce, .string b, .string c] w fun e w' => e = .returned (.string (tagA key nonce b c)) ∧ Below w.heap.size w w' := by
  obtain ⟨B, HB⟩ : ∃ B, Hid (B = blockB key nonce 0) := ⟨_, rfl⟩
  have hBs : B.size = 64 := by rw [HB.out]; exact blockB_size _ _ _
  have CB' := fun w => rblock_yes key nonce 0 w ⟨hk, hn, by decide, by decide⟩
  rw [← HB.out] at CB'
  have CB : Hid (∀ w, _) := CB'
  obtain ⟨K, hK⟩ : ∃ K, B.extract 0 32 = K := ⟨_, rfl⟩
  have hKs : K.size = 32 := by rw [← hK, ByteArray.size_extract, hBs]; rfl
  obtain ⟨F, HF⟩ : ∃ F, Hid (F = fillB b) := ⟨_, rfl⟩
  obtain ⟨G, HG⟩ : ∃ G, Hid (G = fillB c) := ⟨_, rfl⟩
  have hFs : F.size ≤ 65536 := by rw [HF.out, fillB_size]; have := fillA_lt b.size; omega
  have hGs : G.size ≤ 65536 := by rw [HG.out, fillB_size]; have := fillA_lt c.size; omega
  have CF' := fun w => rfilled_any b w (by omega)
  rw [← HF.out] at CF'
  have CF : Hid (∀ w, _) := CF'
  have CG' := fun w => rfilled_any c w (by omega)
  rw [← HG.out] at CG'
  have CG : Hid (∀ w, _) := CG'
  obtain ⟨M, hM⟩ : ∃ M, F ++ G = M := ⟨_, rfl⟩
  have hMs : M.size ≤ 131072 := by rw [← hM, ByteArray.size_append]; omega
  obtain ⟨L, HL⟩ : ∃ L, Hid (L = lensB b.size c.size) := ⟨_, rfl⟩
  have hLs : L.size = 16 := by rw [HL.out]; exact lensB_size _ _
  have CL' := fun w a h => rputSmall_any a 4 4 [(b.size : Int), 0, (c.size : Int), 0] w (by omega) h
  rw [show (⟨(putL [(b.size : Int), 0, (c.size : Int), 0] ssh).toArray⟩ : ByteArray) = L by rw [HL.out]; rfl] at CL'
  have CL : Hid (∀ w a, IntsAt w .i64 a 4 [(b.size : Int), 0, (c.size : Int), 0] → _) := CL'
  obtain ⟨T, hT⟩ : ∃ T, M ++ L = T := ⟨_, rfl⟩
  have hTe : T = macText b c := by rw [← hT, ← hM, HF.out, HG.out, HL.out]; rfl
  have hTs : T.size ≤ 65536 := by rw [hTe]; exact macText_le b c hs
  obtain ⟨E, HE⟩ : ∃ E, Hid (E = tagA key nonce b c) := ⟨_, rfl⟩
  have CM' := fun w => rmac_yes K T w hKs hTs
  rw [show tagB K T = E by rw [HE.out, ← hK, HB.out, hTe]; rfl] at CM'
  have CM : Hid (∀ w, _) := CM'
  rw [← HE.out]
  have hsum1 : ¬ (9223372036854775807 < F.size + G.size) := by omega
  have hsum2 : ¬ (9223372036854775807 < M.size + 16) := by omega
  have g0 : (((B.size : Int) != 64)) = false := by rw [bne_eq_false_iff_eq]; omega
  clear CB' CF' CG' CL' CM' HB HF HG HL HE hTe
  go_enter Tryz.func16, Tryz.ntmps16
  go_wp2_with fail
  refine (CB.out _).mono ?_
  rintro e w1 ⟨rfl, hb1⟩
  clear CB
  go_wp2_with fail
  have hI : IntsAt (w1.alloc (.cells #[.int .i64 (b.size : Int), .int .i64 0, .int .i64 (c.size : Int), .int .i64 0] 3)).drew .i64 (some ⟨w1.heap.size, 0, none⟩) 4 [(b.size : Int), 0, (c.size : Int), 0] := ints_alloc w1 [(b.size : Int), 0, (c.size : Int), 0] 3 4 _ rfl rfl
  have hBn : Below w.heap.size w (w1.alloc (.cells #[.int .i64 (b.size : Int), .int .i64 0, .int .i64 (c.size : Int), .int .i64 0] 3)).drew := (hb1.alloc hb1.size _).drew
  clear hb1
  refine wp_region_noPanic ?_
  refine wp_region_held_drew (S := fun _ => True) (by kernel_rfl) (by first | exact trivial | assumption | exact ⟨by assumption, by assumption⟩) (fun hHeld => ?_)
  refine take_at (i := 0) (v := ?_) rfl rfl (by kernel_rfl) (by kernel_rfl) (by kernel_rfl) (fun _ _ _ h => h) (Or.inl ⟨by rfl, ?_⟩) (by assumption) ?_
  rotate_left
  · intro w hSw; (try dsimp only at hSw); go_simp; try with_reducible rfl
  try simp only [Act.put, List.setIfInBounds_toArray, List.set_cons_zero, List.set_cons_succ]
  refine take_at (i := 1) (v := ?_) rfl rfl (by kernel_rfl) (by kernel_rfl) (by kernel_rfl) (fun _ _ _ h => h) (Or.inl ⟨by rfl, ?_⟩) (by assumption) ?_
  rotate_left
  · intro w hSw; (try dsimp only at hSw); go_simp; try with_reducible rfl
  try simp only [Act.put, List.setIfInBounds_toArray, List.set_cons_zero, List.set_cons_succ]
  refine take_at (i := 2) (v := ?_) rfl rfl (by kernel_rfl) (by kernel_rfl) (by kernel_rfl) (fun _ _ _ h => h) (Or.inl ⟨by rfl, ?_⟩) (by assumption) ?_
  rotate_left
  · intro w hSw; (try dsimp only at hSw); go_simp; try with_reducible rfl
  try simp only [Act.put, List.setIfInBounds_toArray, List.set_cons_zero, List.set_cons_succ]
  refine take_at (i := 4) (v := ?_) rfl rfl (by kernel_rfl) (by kernel_rfl) (by kernel_rfl) (fun _ _ _ h => h) (Or.inl ⟨by rfl, ?_⟩) (by assumption) ?_
  rotate_left
  · intro w hSw; (try dsimp only at hSw); go_simp; try with_reducible rfl
  try simp only [Act.put, List.setIfInBounds_toArray, List.set_cons_zero, List.set_cons_succ]
  refine take_at (i := 7) (v := ?_) rfl rfl (by kernel_rfl) (by kernel_rfl) (by kernel_rfl) (fun _ _ _ h => h) (Or.inl ⟨by rfl, ?_⟩) (by assumption) ?_
  rotate_left
  · intro w hSw; (try dsimp only at hSw); go_simp; try with_reducible rfl
  try simp only [Act.put, List.setIfInBounds_toArray, List.set_cons_zero, List.set_cons_succ]
  refine take_at (i := 8) (v := ?_) rfl rfl (by kernel_rfl) (by kernel_rfl) (by kernel_rfl) (fun _ _ _ h => h) (Or.inl ⟨by rfl, ?_⟩) (by assumption) ?_
  rotate_left
  · intro w hSw; (try dsimp only at hSw); go_simp; try with_reducible rfl
  try simp only [Act.put, List.setIfInBounds_toArray, List.set_cons_zero, List.set_cons_succ]
  refine take_at (i := 9) (v := ?_) rfl rfl (by kernel_rfl) (by kernel_rfl) (by kernel_rfl) (fun _ _ _ h => h) (Or.inl ⟨by rfl, ?_⟩) (by assumption) ?_
  rotate_left
  · intro w hSw; (try dsimp only at hSw); go_simp; try with_reducible rfl
  try simp only [Act.put, List.setIfInBounds_toArray, List.set_cons_zero, List.set_cons_succ]
  refine take_at (i := 10) (v := ?_) rfl rfl (by kernel_rfl) (by kernel_rfl) (by kernel_rfl) (fun _ _ _ h => h) (Or.inl ⟨by rfl, ?_⟩) (by assumption) ?_
  rotate_left
  · intro w hSw; (try dsimp only at hSw); go_simp; try with_reducible rfl
  try simp only [Act.put, List.setIfInBounds_toArray, List.set_cons_zero, List.set_cons_succ]
  refine wpAnyH_ready (rs := [3, 11]) (by kernel_rfl) (by simp) ?_
  refine AllReadyH.cons rfl (fun K hK => ?_) (AllReadyH.cons rfl (fun K hK => ?_) AllReadyH.nil)
  · go_simp
    refine (CF.out _).mono ?_
    rintro e w2 ⟨rfl, rfl⟩
    clear CF
    refine hK.out _ _ trivial (fun hHeld => ?_)
    clear hK K
    refine wpAnyH_ready (rs := [5, 11]) (by kernel_rfl) (by simp) ?_
    refine AllReadyH.cons rfl (fun K hK => ?_) (AllReadyH.cons rfl (fun K hK => ?_) AllReadyH.nil)
    · go_simp
      refine (CG.out _).mono ?_
      rintro e w2 ⟨rfl, rfl⟩
      clear CG
      refine hK.out _ _ trivial (fun hHeld => ?_)
      clear hK K
      refine take_at (i := 6) (v := ?_) rfl rfl (by kernel_rfl) (by kernel_rfl) (by kernel_rfl) (fun _ _ _ h => h) (Or.inl ⟨by rfl, ?_⟩) (by assumption) ?_
      rotate_left
      · intro w hSw; (try dsimp only at hSw); go_simp; try with_reducible rfl
      try simp only [Act.put, List.setIfInBounds_toArray, List.set_cons_zero, List.set_cons_succ]
      refine wpAnyH_ready (rs := [11]) (by kernel_rfl) (by simp) ?_
      refine AllReadyH.cons rfl (fun K hK => ?_) AllReadyH.nil
      go_simp
      refine hK.out _ _ trivial (fun hHeld => ?_)
      clear hK K
      refine wpAnyH_ready (rs := [12]) (by kernel_rfl) (by simp) ?_
      refine AllReadyH.cons rfl (fun K hK => ?_) AllReadyH.nil
      go_simp
      refine (CL.out _ _ hI).mono ?_
      rintro e w3 ⟨rfl, hb3⟩
      have hB3 := below_step hBn (Nat.le_refl _) hb3
      clear CL hb3 hI hBn
      refine hK.out _ _ trivial (fun hHeld => ?_)
      clear hK K
      refine take_at (i := 13) (v := ?_) rfl rfl (by kernel_rfl) (by kernel_rfl) (by kernel_rfl) (fun _ _ _ h => h) (Or.inl ⟨by rfl, ?_⟩) (by assumption) ?_
      rotate_left
      · intro w hSw; (try dsimp only at hSw); go_simp; try with_reducible rfl
      try simp only [Act.put, List.setIfInBounds_toArray, List.set_cons_zero, List.set_cons_succ]
      refine wpAnyH_ready (rs := [14]) (by kernel_rfl) (by simp) ?_
      refine AllReadyH.cons rfl (fun K hK => ?_) AllReadyH.nil
      go_simp
      refine (CM.out _).mono ?_
      rintro e w4 ⟨rfl, hb4⟩
      have hB4 := below_step hB3 (Nat.le_refl _) hb4
      clear CM hb4 hB3
      refine hK.out _ _ trivial (fun hHeld => ?_)
      clear hK K
      refine take_at (i := 15) (v := ?_) rfl rfl (by kernel_rfl) (by kernel_rfl) (by kernel_rfl) (fun _ _ _ h => h) (Or.inl ⟨by rfl, ?_⟩) (by assumption) ?_
      rotate_left
      · intro w hSw; (try dsimp only at hSw); go_simp; try with_reducible rfl
      try simp only [Act.put, List.setIfInBounds_toArray, List.set_cons_zero, List.set_cons_succ]
      refine take_at (i := 16) (v := ?_) rfl rfl (by kernel_rfl) (by kernel_rfl) (by kernel_rfl) (fun _ _ _ h => h) (Or.inl ⟨by rfl, ?_⟩) (by assumption) ?_
      rotate_left
      · intro w hSw; (try dsimp only at hSw); go_simp; try with_reducible rfl
      try simp only [Act.put, List.setIfInBounds_toArray, List.set_cons_zero, List.set_cons_succ]
      refine take_at (i := 17) (v := ?_) rfl rfl (by kernel_rfl) (by kernel_rfl) (by kernel_rfl) (fun _ _ _ h => h) (Or.inl ⟨by rfl, ?_⟩) (by assumption) ?_
      rotate_left
      · intro w hSw; (try dsimp only at hSw); go_simp; try with_reducible rfl
      try simp only [Act.put, List.setIfInBounds_toArray, List.set_cons_zero, List.set_cons_succ]
      refine take_at (i := 18) (v := ?_) rfl rfl (by kernel_rfl) (by kernel_rfl) (by kernel_rfl) (fun _ _ _ h => h) (Or.inl ⟨by rfl, ?_⟩) (by assumption) ?_
      rotate_left
      · intro w hSw; (try dsimp only at hSw); go_simp; try with_reducible rfl
      try simp only [Act.put, List.setIfInBounds_toArray, List.set_cons_zero, List.set_cons_succ]
      refine take_at (i := 19) (v := ?_) rfl rfl (by kernel_rfl) (by kernel_rfl) (by kernel_rfl) (fun _ _ _ h => h) (Or.inl ⟨by rfl, ?_⟩) (by assumption) ?_
      rotate_left
      · intro w hSw; (try dsimp only at hSw); go_simp; try with_reducible rfl
      try simp only [Act.put, List.setIfInBounds_toArray, List.set_cons_zero, List.set_cons_succ]
      refine wpAnyH_done (by kernel_rfl) (NoPanic.normal ?_) _
      go_wp2
      go_ret
      exact ⟨rfl, hB4⟩
    · go_simp
      refine hK.out _ _ trivial (fun hHeld => ?_)
      clear hK K
      refine wpAnyH_ready (rs := [5]) (by kernel_rfl) (by simp) ?_
      refine AllReadyH.cons rfl (fun K hK => ?_) AllReadyH.nil
      go_simp
      refine (CG.out _).mono ?_
      rintro e w2 ⟨rfl, rfl⟩
      clear CG
      refine hK.out _ _ trivial (fun hHeld => ?_)
      clear hK K
      refine take_at (i := 6) (v := ?_) rfl rfl (by kernel_rfl) (by kernel_rfl) (by kernel_rfl) (fun _ _ _ h => h) (Or.inl ⟨by rfl, ?_⟩) (by assumption) ?_
      rotate_left
      · intro w hSw; (try dsimp only at hSw); go_simp; try with_reducible rfl
      try simp only [Act.put, List.setIfInBounds_toArray, List.set_cons_zero, List.set_cons_succ]
      refine wpAnyH_ready (rs := [12]) (by kernel_rfl) (by simp) ?_
      refine AllReadyH.cons rfl (fun K hK => ?_) AllReadyH.nil
      go_simp
      refine (CL.out _ _ hI).mono ?_
      rintro e w3 ⟨rfl, hb3⟩
      have hB3 := below_step hBn (Nat.le_refl _) hb3
      clear CL hb3 hI hBn
      refine hK.out _ _ trivial (fun hHeld => ?_)
      clear hK K
      refine take_at (i := 13) (v := ?_) rfl rfl (by kernel_rfl) (by kernel_rfl) (by kernel_rfl) (fun _ _ _ h => h) (Or.inl ⟨by rfl, ?_⟩) (by assumption) ?_
      rotate_left
      · intro w hSw; (try dsimp only at hSw); go_simp; try with_reducible rfl
      try simp only [Act.put, List.setIfInBounds_toArray, List.set_cons_zero, List.set_cons_succ]
      refine wpAnyH_ready (rs := [14]) (by kernel_rfl) (by simp) ?_
      refine AllReadyH.cons rfl (fun K hK => ?_) AllReadyH.nil
      go_simp
      refine (CM.out _).mono ?_
      rintro e w4 ⟨rfl, hb4⟩
      have hB4 := below_step hB3 (Nat.le_refl _) hb4
      clear CM hb4 hB3
      refine hK.out _ _ trivial (fun hHeld => ?_)
      clear hK K
      refine take_at (i := 15) (v := ?_) rfl rfl (by kernel_rfl) (by kernel_rfl) (by kernel_rfl) (fun _ _ _ h => h) (Or.inl ⟨by rfl, ?_⟩) (by assumption) ?_
      rotate_left
      · intro w hSw; (try dsimp only at hSw); go_simp; try with_reducible rfl
      try simp only [Act.put, List.setIfInBounds_toArray, List.set_cons_zero, List.set_cons_succ]
      refine take_at (i := 16) (v := ?_) rfl rfl (by kernel_rfl) (by kernel_rfl) (by kernel_rfl) (fun _ _ _ h => h) (Or.inl ⟨by rfl, ?_⟩) (by assumption) ?_
      rotate_left
      · intro w hSw; (try dsimp only at hSw); go_simp; try with_reducible rfl
      try simp only [Act.put, List.setIfInBounds_toArray, List.set_cons_zero, List.set_cons_succ]
      refine take_at (i := 17) (v := ?_) rfl rfl (by kernel_rfl) (by kernel_rfl) (by kernel_rfl) (fun _ _ _ h => h) (Or.inl ⟨by rfl, ?_⟩) (by assumption) ?_
      rotate_left
      · intro w hSw; (try dsimp only at hSw); go_simp; try with_reducible rfl
      try simp only [Act.put, List.setIfInBounds_toArray, List.set_cons_zero, List.set_cons_succ]
      refine take_at (i := 18) (v := ?_) rfl rfl (by kernel_rfl) (by kernel_rfl) (by kernel_rfl) (fun _ _ _ h => h) (Or.inl ⟨by rfl, ?_⟩) (by assumption) ?_
      rotate_left
      · intro w hSw; (try dsimp only at hSw); go_simp; try with_reducible rfl
      try simp only [Act.put, List.setIfInBounds_toArray, List.set_cons_zero, List.set_cons_succ]
      refine take_at (i := 19) (v := ?_) rfl rfl (by kernel_rfl) (by kernel_rfl) (by kernel_rfl) (fun _ _ _ h => h) (Or.inl ⟨by rfl, ?_⟩) (by assumption) ?_
      rotate_left
      · intro w hSw; (try dsimp only at hSw); go_simp; try with_reducible rfl
      try simp only [Act.put, List.setIfInBounds_toArray, List.set_cons_zero, List.set_cons_succ]
      refine wpAnyH_done (by kernel_rfl) (NoPanic.normal ?_) _
      go_wp2
      go_ret
      exact ⟨rfl, hB4⟩
  · go_simp
    refine hK.out _ _ trivial (fun hHeld => ?_)
    clear hK K
    refine wpAnyH_ready (rs := [3]) (by kernel_rfl) (by simp) ?_
    refine AllReadyH.cons rfl (fun K hK => ?_) AllReadyH.nil
    go_simp
    refine (CF.out _).mono ?_
    rintro e w2 ⟨rfl, rfl⟩
    clear CF
    refine hK.out _ _ trivial (fun hHeld => ?_)
    clear hK K
    refine wpAnyH_ready (rs := [5]) (by kernel_rfl) (by simp) ?_
    refine AllReadyH.cons rfl (fun K hK => ?_) AllReadyH.nil
    go_simp
    refine (CG.out _).mono ?_
    rintro e w2 ⟨rfl, rfl⟩
    clear CG
    refine hK.out _ _ trivial (fun hHeld => ?_)
    clear hK K
    refine take_at (i := 6) (v := ?_) rfl rfl (by kernel_rfl) (by kernel_rfl) (by kernel_rfl) (fun _ _ _ h => h) (Or.inl ⟨by rfl, ?_⟩) (by assumption) ?_
    rotate_left
    · intro w hSw; (try dsimp only at hSw); go_simp; try with_reducible rfl
    try simp only [Act.put, List.setIfInBounds_toArray, List.set_cons_zero, List.set_cons_succ]
    refine wpAnyH_ready (rs := [12]) (by kernel_rfl) (by simp) ?_
    refine AllReadyH.cons rfl (fun K hK => ?_) AllReadyH.nil
    go_simp
    refine (CL.out _ _ hI).mono ?_
    rintro e w3 ⟨rfl, hb3⟩
    have hB3 := below_step hBn (Nat.le_refl _) hb3
    clear CL hb3 hI hBn
    refine hK.out _ _ trivial (fun hHeld => ?_)
    clear hK K
    refine take_at (i := 13) (v := ?_) rfl rfl (by kernel_rfl) (by kernel_rfl) (by kernel_rfl) (fun _ _ _ h => h) (Or.inl ⟨by rfl, ?_⟩) (by assumption) ?_
    rotate_left
    · intro w hSw; (try dsimp only at hSw); go_simp; try with_reducible rfl
    try simp only [Act.put, List.setIfInBounds_toArray, List.set_cons_zero, List.set_cons_succ]
    refine wpAnyH_ready (rs := [14]) (by kernel_rfl) (by simp) ?_
    refine AllReadyH.cons rfl (fun K hK => ?_) AllReadyH.nil
    go_simp
    refine (CM.out _).mono ?_
    rintro e w4 ⟨rfl, hb4⟩
    have hB4 := below_step hB3 (Nat.le_refl _) hb4
    clear CM hb4 hB3
    refine hK.out _ _ trivial (fun hHeld => ?_)
    clear hK K
    refine take_at (i := 15) (v := ?_) rfl rfl (by kernel_rfl) (by kernel_rfl) (by kernel_rfl) (fun _ _ _ h => h) (Or.inl ⟨by rfl, ?_⟩) (by assumption) ?_
    rotate_left
    · intro w hSw; (try dsimp only at hSw); go_simp; try with_reducible rfl
    try simp only [Act.put, List.setIfInBounds_toArray, List.set_cons_zero, List.set_cons_succ]
    refine take_at (i := 16) (v := ?_) rfl rfl (by kernel_rfl) (by kernel_rfl) (by kernel_rfl) (fun _ _ _ h => h) (Or.inl ⟨by rfl, ?_⟩) (by assumption) ?_
    rotate_left
    · intro w hSw; (try dsimp only at hSw); go_simp; try with_reducible rfl
    try simp only [Act.put, List.setIfInBounds_toArray, List.set_cons_zero, List.set_cons_succ]
    refine take_at (i := 17) (v := ?_) rfl rfl (by kernel_rfl) (by kernel_rfl) (by kernel_rfl) (fun _ _ _ h => h) (Or.inl ⟨by rfl, ?_⟩) (by assumption) ?_
    rotate_left
    · intro w hSw; (try dsimp only at hSw); go_simp; try with_reducible rfl
    try simp only [Act.put, List.setIfInBounds_toArray, List.set_cons_zero, List.set_cons_succ]
    refine take_at (i := 18) (v := ?_) rfl rfl (by kernel_rfl) (by kernel_rfl) (by kernel_rfl) (fun _ _ _ h => h) (Or.inl ⟨by rfl, ?_⟩) (by assumption) ?_
    rotate_left
    · intro w hSw; (try dsimp only at hSw); go_simp; try with_reducible rfl
    try simp only [Act.put, List.setIfInBounds_toArray, List.set_cons_zero, List.set_cons_succ]
    refine take_at (i := 19) (v := ?_) rfl rfl (by kernel_rfl) (by kernel_rfl) (by kernel_rfl) (fun _ _ _ h => h) (Or.inl ⟨by rfl, ?_⟩) (by assumption) ?_
    rotate_left
    · intro w hSw; (try dsimp only at hSw); go_simp; try with_reducible rfl
    try simp only [Act.put, List.setIfInBounds_toArray, List.set_cons_zero, List.set_cons_succ]
    refine wpAnyH_done (by kernel_rfl) (NoPanic.normal ?_) _
    go_wp2
    go_ret
    exact ⟨rfl, hB4⟩
end Go.Proofs.YtglgppeloolbhaaGreatDoor

/- The document's Seal. -/
namespace Go.Proofs.YtglgppeloolbhaaGreatDoor
open Go.RowKit
set_option maxRecDepth 100000
set_option linter.unusedSimpArgs false

theorem rmay_yes (key nonce : ByteArray) (a b : Nat) (w : World) (ha : a ≤ 4503599627370496) (hb : b ≤ 4503599627370496) (h : MayA key nonce a b) :
    Calls Tryz.prog 14 #[.string key, .string nonce, .int .i64 (a : Int), .int .i64 (b : Int)] w fun e w' => e = .returned (.bool true) ∧ w' = w := by
  refine (rmay_any key nonce a b w ha hb).mono ?_
  rintro e w' ⟨t, rfl, ht, rfl⟩
  rw [ht.2 h]; exact ⟨rfl, rfl⟩
theorem rmay_no (key nonce : ByteArray) (a b : Nat) (w : World) (ha : a ≤ 4503599627370496) (hb : b ≤ 4503599627370496) (h : ¬ MayA key nonce a b) :
    Calls Tryz.prog 14 #[.string key, .string nonce, .int .i64 (a : Int), .int .i64 (b : Int)] w fun e w' => e = .returned (.bool false) ∧ w' = w := by
  refine (rmay_any key nonce a b w ha hb).mono ?_
  rintro e w' ⟨t, rfl, ht, rfl⟩
  cases t with
  | true => exact absurd (ht.1 rfl) h
  | false => exact ⟨rfl, rfl⟩

set_option maxHeartbeats 1000000 in
theorem rseal_no (key nonce b s : ByteArray) (w : World) (hb : b.size ≤ 4503599627370496) (hs : s.size ≤ 4503599627370496) (h : ¬ MayA key nonce b.size s.size) :
    Calls Tryz.prog 5 #[.string key, .string nonce, .string b, .string s] w fun e w' => e = .returned (.tuple #[.string ⟨#[]⟩, .int .i64 1]) ∧ Below w.heap.size w w' := by
  have C : Hid (∀ w, _) := fun w => rmay_no key nonce b.size s.size w hb hs h
  go_enter Tryz.func5, Tryz.ntmps5
  go_wp2_with fail
  refine (C.out _).mono ?_
  rintro e w1 ⟨rfl, rfl⟩
  go_wp2_with fail
  go_ret2
  exact ⟨rfl, Below.refl _ _⟩

set_option maxHeartbeats 1000000 in
theorem rseal_yes (key nonce b s : ByteArray) (w : World) (h : MayA key nonce b.size s.size) :
    Calls Tryz.prog 5 #[.string key, .string nonce, .string b, .string s] w fun e w' => e = .returned (.tuple #[.string (sealB key nonce b s), .int .i64 0]) ∧ Below w.heap.size w w' := by
  have hm := h.2.2
  have C : Hid (∀ w, _) := fun w => rmay_yes key nonce b.size s.size w (by omega) (by omega) h
  obtain ⟨S, HS⟩ : ∃ S, Hid (S = streamB key nonce 1 s) := ⟨_, rfl⟩
  have hSs : S.size = s.size := by rw [HS.out]; exact streamB_size _ _ _ _
  have CS' := fun w => rstream_yes key nonce 1 s w (h.fits 1 (by decide)) (by omega) (by omega)
  rw [← HS.out] at CS'
  have CS : Hid (∀ w, _) := CS'
  have CT' := fun w => rtag_yes key nonce b S w h.1 h.2.1 (by omega)
  obtain ⟨T, HT⟩ : ∃ T, Hid (T = tagA key nonce b S) := ⟨_, rfl⟩
  have hTs : T.size = 16 := by rw [HT.out]; exact tagA_size _ _ _ _
  rw [← HT.out] at CT'
  have CT : Hid (∀ w, _) := CT'
  obtain ⟨E, hE⟩ : ∃ E, S ++ T = E := ⟨_, rfl⟩
  have e : sealB key nonce b s = E := by rw [← hE, HT.out, HS.out]; rfl
  rw [e]
  have hsum : ¬ (9223372036854775807 < s.size + 16) := by omega
  clear CS' CT' HS HT e h
  go_enter Tryz.func5, Tryz.ntmps5
  go_wp2_with fail
  refine (C.out _).mono ?_
  rintro e w1 ⟨rfl, rfl⟩
  clear C
  go_wp2_with fail
  refine (CS.out _).mono ?_
  rintro e w2 ⟨rfl, hb2⟩
  clear CS
  go_wp2_with fail
  refine (CT.out _).mono ?_
  rintro e w3 ⟨rfl, hb3⟩
  have hB3 := below_step hb2 (Nat.le_refl _) hb3
  clear CT hb2 hb3
  go_wp2_with fail
  go_ret2
  exact ⟨rfl, hB3⟩
end Go.Proofs.YtglgppeloolbhaaGreatDoor

/- The document's Open. -/
namespace Go.Proofs.YtglgppeloolbhaaGreatDoor
open Go.RowKit
set_option maxRecDepth 100000
set_option linter.unusedSimpArgs false

end Go.Proofs.YtglgppeloolbhaaGreatDoor

/- The document's Open, of a text that has a tag. -/
namespace Go.Proofs.YtglgppeloolbhaaGreatDoor
open Go.RowKit
set_option maxRecDepth 100000
set_option linter.unusedSimpArgs false

end Go.Proofs.YtglgppeloolbhaaGreatDoor
