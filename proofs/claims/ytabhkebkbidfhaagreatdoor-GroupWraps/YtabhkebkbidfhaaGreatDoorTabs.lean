import Derived.Maps.RangeWalk
import Derived.Test.YtabhkebkbidfhaaGreatDoorR5
import Derived.Test.YtabhkebkbidfhaaGreatDoorR6
import Derived.BigQuiet
import Derived.Shelf.Strings.Builder1
import Derived.Test.YtabhkebkbidfhaaGreatDoorShelfV
import Derived.Test.YtabhkebkbidfhaaGreatDoorShelfK
import Derived.Test.YtabhkebkbidfhaaGreatDoorL1
import Derived.Test.YtabhkebkbidfhaaGreatDoorG
import Derived.Test.YtabhkebkbidfhaaGreatDoorL6
import Derived.Test.YtabhkebkbidfhaaGreatDoorBA
import Derived.Test.YtabhkebkbidfhaaGreatDoorZer
import Derived.Deep.RegionWith
import Derived.Test.YtabhkebkbidfhaaGreatDoorL4
namespace Go.Proofs.YtabhkebkbidfhaaGreatDoor
open Go.RowKit
set_option maxRecDepth 100000
set_option linter.unusedSimpArgs false
def fillA (n : Nat) : Nat := (16 - n % 16) % 16
def fillB (s : ByteArray) : ByteArray := s ++ zeroB (fillA s.size)
theorem fillB_size (s : ByteArray) : (fillB s).size = s.size + fillA s.size := by
  unfold fillB; rw [ByteArray.size_append, zeroB_size]
theorem fillA_lt (n : Nat) : fillA n < 16 := Nat.mod_lt _ (by decide)
theorem zeroB_snoc (k : Nat) : zeroB k ++ ⟨#[0]⟩ = zeroB (k + 1) := by
  apply bytes_ext
  unfold zeroB
  rw [ByteArray.data_append, Array.toList_append, List.toList_toArray, List.toList_toArray, List.replicate_succ']
theorem fill_more (s : ByteArray) (k : Nat) : (s ++ zeroB k) ++ ⟨#[0]⟩ = s ++ zeroB (k + 1) := by
  rw [ByteArray.append_assoc, zeroB_snoc]
theorem zeroB_none (s : ByteArray) : s ++ zeroB 0 = s := by
  apply bytes_ext
  rw [ByteArray.data_append, Array.toList_append]
  show s.data.toList ++ [] = _
  rw [List.append_nil]
def lensB (a b : Nat) : ByteArray := ⟨(putL [(a : Int), 0, (b : Int), 0] ssh).toArray⟩
theorem lensB_size (a b : Nat) : (lensB a b).size = 16 := by unfold lensB; rw [put_size]; rfl
def macText (b c : ByteArray) : ByteArray := (fillB b ++ fillB c) ++ lensB b.size c.size
theorem macText_size (b c : ByteArray) : (macText b c).size = b.size + fillA b.size + (c.size + fillA c.size) + 16 := by
  unfold macText; rw [ByteArray.size_append, ByteArray.size_append, fillB_size, fillB_size, lensB_size]
theorem macText_le (b c : ByteArray) (h : b.size + c.size ≤ 65000) : (macText b c).size ≤ 65536 := by
  rw [macText_size]
  have h1 := fillA_lt b.size
  have h2 := fillA_lt c.size
  omega
def keyA (key nonce : ByteArray) : ByteArray := (blockB key nonce 0).extract 0 32
theorem keyA_size (key nonce : ByteArray) : (keyA key nonce).size = 32 := by unfold keyA; rw [ByteArray.size_extract, blockB_size]; rfl
def tagA (key nonce b c : ByteArray) : ByteArray := tagB (keyA key nonce) (macText b c)
theorem tagA_size (key nonce b c : ByteArray) : (tagA key nonce b c).size = 16 := tagB_size _ _
def sealB (key nonce b s : ByteArray) : ByteArray := streamB key nonce 1 s ++ tagA key nonce b (streamB key nonce 1 s)
theorem sealB_size (key nonce b s : ByteArray) : (sealB key nonce b s).size = s.size + 16 := by
  unfold sealB; rw [ByteArray.size_append, streamB_size, tagA_size]
theorem extract_front (a b : ByteArray) (n : Nat) (h : a.size = n) : (a ++ b).extract 0 n = a := by
  have e : ((a ++ b).extract 0 n).size = a.size := by rw [ByteArray.size_extract, ByteArray.size_append]; omega
  refine bt_ext _ _ e (fun i hi => ?_)
  rw [e] at hi
  rw [bt_extract _ 0 n i (by omega) (by rw [ByteArray.size_append]; omega), Nat.zero_add, bt_append_left _ _ _ hi]
theorem extract_back (a b : ByteArray) (n m : Nat) (h : a.size = n) (hm : m = n + b.size) : (a ++ b).extract n m = b := by
  have e : ((a ++ b).extract n m).size = b.size := by rw [ByteArray.size_extract, ByteArray.size_append]; omega
  refine bt_ext _ _ e (fun i hi => ?_)
  rw [e] at hi
  rw [bt_extract _ n m i (by omega) (by rw [ByteArray.size_append]; omega), ← h, bt_append_right]
def MayA (key nonce : ByteArray) (a b : Nat) : Prop := key.size = 32 ∧ nonce.size = 12 ∧ a + b ≤ 32768
theorem MayA.fits {key nonce : ByteArray} {a b : Nat} (h : MayA key nonce a b) (c : Nat) (hc : c < 4294967296) : Fits key nonce (c : Int) := ⟨h.1, h.2.1, by omega, by omega⟩
def cutA (t : ByteArray) : Nat := t.size - 16
def OpensA (key nonce b t : ByteArray) : Prop := 16 ≤ t.size ∧ tagA key nonce b (t.extract 0 (cutA t)) = t.extract (cutA t) t.size
theorem opens_seal (key nonce b s : ByteArray) : OpensA key nonce b (sealB key nonce b s) ∧ streamB key nonce 1 ((sealB key nonce b s).extract 0 (cutA (sealB key nonce b s))) = s := by
  have hz := sealB_size key nonce b s
  have hc : cutA (sealB key nonce b s) = s.size := by unfold cutA; omega
  have h1 : (sealB key nonce b s).extract 0 s.size = streamB key nonce 1 s := extract_front _ _ _ (streamB_size _ _ _ _)
  have h2 : (sealB key nonce b s).extract s.size (sealB key nonce b s).size = tagA key nonce b (streamB key nonce 1 s) := extract_back _ _ _ _ (streamB_size _ _ _ _) (by rw [hz, tagA_size])
  unfold OpensA
  rw [hc, h1, h2, streamB_back]
  exact ⟨⟨by omega, rfl⟩, rfl⟩
def sizeOfV : Value → Nat
  | .string s => s.size
  | _ => 0
set_option maxHeartbeats 1000000 in
theorem rfilled_any (s : ByteArray) (w : World) (hs : s.size ≤ 1048576) :
    Calls Tryz.prog 100 #[.string s] w fun e w' => e = .returned (.string (fillB s)) ∧ w' = w := by
  obtain ⟨E, HE⟩ : ∃ E, Hid (E = fillB s) := ⟨_, rfl⟩
  have H0 : Hid (s ++ zeroB 0 = s) := zeroB_none s
  rw [← HE.out]
  go_enter Tryz.func100, Tryz.ntmps100
  go_wp2_with fail
  go_loopw [0] (fun v wr => ∃ k : Nat, ∃ t : ByteArray, k ≤ fillA s.size ∧ v = .string t ∧ Hid (t = s ++ zeroB k) ∧ wr = w) (fun v _ => fillA (sizeOfV v))
  case atStart => exact ⟨0, s, Nat.zero_le _, rfl, H0.out.symm, rfl⟩
  case round =>
    obtain ⟨k, t, hk, rfl, Ht, rfl⟩ := hrel
    have ht : t.size = s.size + k := by rw [Ht.out, ByteArray.size_append, zeroB_size]
    have hlt16 := fillA_lt s.size
    by_cases hm : t.size % 16 = 0
    · have g0 : (((t.size : Int) % 16 != 0)) = false := by rw [bne_eq_false_iff_eq]; omega
      have hkk : k = fillA s.size := by
        have : fillA s.size = (16 - s.size % 16) % 16 := rfl
        omega
      have hE : t = E := by rw [Ht.out, hkk, HE.out]; rfl
      subst hE
      clear Ht
      go_wp2
      go_ret
      exact ⟨rfl, rfl⟩
    · have g0 : (((t.size : Int) % 16 != 0)) = true := by rw [bne_iff_ne]; omega
      obtain ⟨u, hu⟩ : ∃ u, t ++ ⟨#[0]⟩ = u := ⟨_, rfl⟩
      have Hu : Hid (u = s ++ zeroB (k + 1)) := by show _ = _; rw [← hu, Ht.out, fill_more]
      have hus : u.size = t.size + 1 := by rw [← hu, ByteArray.size_append]; rfl
      have hsum : ¬ (9223372036854775807 < t.size + 1) := by omega
      have hk1 : k + 1 ≤ fillA s.size := by
        have : fillA s.size = (16 - s.size % 16) % 16 := rfl
        omega
      have hmeas : fillA u.size < fillA t.size := by
        have e1 : fillA u.size = (16 - u.size % 16) % 16 := rfl
        have e2 : fillA t.size = (16 - t.size % 16) % 16 := rfl
        omega
      clear hus Ht
      go_wp2
      refine ⟨⟨k + 1, u, hk1, rfl, Hu, by first | rfl | trivial⟩, ?_⟩
      exact hmeas
set_option maxHeartbeats 1000000 in
theorem rmay_any (key nonce : ByteArray) (a b : Nat) (w : World) (ha : a ≤ 4503599627370496) (hb : b ≤ 4503599627370496) :
    Calls Tryz.prog 69 #[.string key, .string nonce, .int .i64 (a : Int), .int .i64 (b : Int)] w fun e w' => ∃ t, e = .returned (.bool t) ∧ (t = true ↔ MayA key nonce a b) ∧ w' = w := by
  by_cases h1 : key.size = 32
  · have g1 : (((key.size : Int) == 32)) = true := by rw [beq_iff_eq]; omega
    by_cases h2 : nonce.size = 12
    · have g2 : (((nonce.size : Int) == 12)) = true := by rw [beq_iff_eq]; omega
      by_cases h3 : a ≤ 32768
      · have g3 : decide ((a : Int) ≤ 32768) = true := by simp; omega
        by_cases h4 : a + b ≤ 32768
        · have g4 : decide ((b : Int) ≤ 32768 - (a : Int)) = true := by simp; omega
          have hM : MayA key nonce a b := ⟨h1, h2, h4⟩
          go_enter Tryz.func69, Tryz.ntmps69
          go_wp2
          go_ret
          exact ⟨true, rfl, ⟨fun _ => hM, fun _ => rfl⟩, rfl⟩
        · have g4 : decide ((b : Int) ≤ 32768 - (a : Int)) = false := by simp; omega
          have hM : ¬ MayA key nonce a b := fun h => h4 h.2.2
          go_enter Tryz.func69, Tryz.ntmps69
          go_wp2
          go_ret
          exact ⟨false, rfl, ⟨fun h => (by cases h), fun h => absurd h hM⟩, rfl⟩
      · have g3 : decide ((a : Int) ≤ 32768) = false := by simp; omega
        have hM : ¬ MayA key nonce a b := fun h => h3 (by have := h.2.2; omega)
        go_enter Tryz.func69, Tryz.ntmps69
        go_wp2
        go_ret
        exact ⟨false, rfl, ⟨fun h => (by cases h), fun h => absurd h hM⟩, rfl⟩
    · have g2 : (((nonce.size : Int) == 12)) = false := by rw [beq_eq_false_iff_ne]; omega
      have hM : ¬ MayA key nonce a b := fun h => h2 h.2.1
      go_enter Tryz.func69, Tryz.ntmps69
      go_wp2
      go_ret
      exact ⟨false, rfl, ⟨fun h => (by cases h), fun h => absurd h hM⟩, rfl⟩
  · have g1 : (((key.size : Int) == 32)) = false := by rw [beq_eq_false_iff_ne]; omega
    have hM : ¬ MayA key nonce a b := fun h => h1 h.1
    go_enter Tryz.func69, Tryz.ntmps69
    go_wp2
    go_ret
    exact ⟨false, rfl, ⟨fun h => (by cases h), fun h => absurd h hM⟩, rfl⟩
set_option maxRecDepth 100000 in
set_option maxHeartbeats 4000000 in
theorem rtag_yes (key nonce b c : ByteArray) (w : World) (hk : key.size = 32) (hn : nonce.size = 12) (hs : b.size + c.size ≤ 65000) :
    Calls Tryz.prog 71 #[.string key, .string nonce, .string b, .string c] w fun e w' => e = .returned (.string (tagA key nonce b c)) ∧ Below w.heap.size w w' := by
  obtain ⟨B, HB⟩ : ∃ B, Hid (B = blockB key nonce 0) := ⟨_, rfl⟩
  have hBs : B.size = 64 := by rw [HB.out]; exact blockB_size _ _ _
  have CB' := fun w => rblock_yes key nonce 0 w ⟨hk, hn, by decide, by decide⟩
  rw [← HB.out] at CB'
  have CB : Hid (∀ w, _) := CB'
  obtain ⟨K, hK⟩ : ∃ K, B.extract 0 32 = K := ⟨_, rfl⟩
  have hKs : K.size = 32 := by rw [← hK, ByteArray.size_extract, hBs]; rfl
  obtain ⟨F, HF⟩ : ∃ F, Hid (F = fillB b) := ⟨_, rfl⟩
  obtain ⟨G, HG⟩ : ∃ G, Hid (G = fillB c) := ⟨_, rfl⟩
  have hFs : F.size ≤ 65536 := by rw [HF.out, fillB_size]; have := fillA_lt b.size; omega
  have hGs : G.size ≤ 65536 := by rw [HG.out, fillB_size]; have := fillA_lt c.size; omega
  have CF' := fun w => rfilled_any b w (by omega)
  rw [← HF.out] at CF'
  have CF : Hid (∀ w, _) := CF'
  have CG' := fun w => rfilled_any c w (by omega)
  rw [← HG.out] at CG'
  have CG : Hid (∀ w, _) := CG'
  obtain ⟨M, hM⟩ : ∃ M, F ++ G = M := ⟨_, rfl⟩
  have hMs : M.size ≤ 131072 := by rw [← hM, ByteArray.size_append]; omega
  obtain ⟨L, HL⟩ : ∃ L, Hid (L = lensB b.size c.size) := ⟨_, rfl⟩
  have hLs : L.size = 16 := by rw [HL.out]; exact lensB_size _ _
  have CL' := fun w a h => rputSmall_any a 4 4 [(b.size : Int), 0, (c.size : Int), 0] w (by omega) h
  rw [show (⟨(putL [(b.size : Int), 0, (c.size : Int), 0] ssh).toArray⟩ : ByteArray) = L by rw [HL.out]; rfl] at CL'
  have CL : Hid (∀ w a, IntsAt w .i64 a 4 [(b.size : Int), 0, (c.size : Int), 0] → _) := CL'
  obtain ⟨T, hT⟩ : ∃ T, M ++ L = T := ⟨_, rfl⟩
  have hTe : T = macText b c := by rw [← hT, ← hM, HF.out, HG.out, HL.out]; rfl
  have hTs : T.size ≤ 65536 := by rw [hTe]; exact macText_le b c hs
  obtain ⟨E, HE⟩ : ∃ E, Hid (E = tagA key nonce b c) := ⟨_, rfl⟩
  have CM' := fun w => rmac_yes K T w hKs hTs
  rw [show tagB K T = E by rw [HE.out, ← hK, HB.out, hTe]; rfl] at CM'
  have CM : Hid (∀ w, _) := CM'
  rw [← HE.out]
  have hsum1 : ¬ (9223372036854775807 < F.size + G.size) := by omega
  have hsum2 : ¬ (9223372036854775807 < M.size + 16) := by omega
  have g0 : (((B.size : Int) != 64)) = false := by rw [bne_eq_false_iff_eq]; omega
  clear CB' CF' CG' CL' CM' HB HF HG HL HE hTe
  go_enter Tryz.func71, Tryz.ntmps71
  go_wp2_with fail
  refine (CB.out _).mono ?_
  rintro e w1 ⟨rfl, hb1⟩
  clear CB
  go_wp2_with fail
  have hI : IntsAt (w1.alloc (.cells #[.int .i64 (b.size : Int), .int .i64 0, .int .i64 (c.size : Int), .int .i64 0] 3)).drew .i64 (some ⟨w1.heap.size, 0, none⟩) 4 [(b.size : Int), 0, (c.size : Int), 0] := ints_alloc w1 [(b.size : Int), 0, (c.size : Int), 0] 3 4 _ rfl rfl
  have hBn : Below w.heap.size w (w1.alloc (.cells #[.int .i64 (b.size : Int), .int .i64 0, .int .i64 (c.size : Int), .int .i64 0] 3)).drew := (hb1.alloc hb1.size _).drew
  clear hb1
  refine wp_region_noPanic ?_
  refine wp_region_held_drew (S := fun _ => True) (by kernel_rfl) (by first | exact trivial | assumption | exact ⟨by assumption, by assumption⟩) (fun hHeld => ?_)
  refine take_at (i := 0) (v := ?_) rfl rfl (by kernel_rfl) (by kernel_rfl) (by kernel_rfl) (fun _ _ _ h => h) (Or.inl ⟨by rfl, ?_⟩) (by assumption) ?_
  rotate_left
  · intro w hSw; (try dsimp only at hSw); go_simp; try with_reducible rfl
  try go_frame
  refine take_at (i := 1) (v := ?_) rfl rfl (by kernel_rfl) (by kernel_rfl) (by kernel_rfl) (fun _ _ _ h => h) (Or.inl ⟨by rfl, ?_⟩) (by assumption) ?_
  rotate_left
  · intro w hSw; (try dsimp only at hSw); go_simp; try with_reducible rfl
  try go_frame
  refine take_at (i := 2) (v := ?_) rfl rfl (by kernel_rfl) (by kernel_rfl) (by kernel_rfl) (fun _ _ _ h => h) (Or.inl ⟨by rfl, ?_⟩) (by assumption) ?_
  rotate_left
  · intro w hSw; (try dsimp only at hSw); go_simp; try with_reducible rfl
  try go_frame
  refine take_at (i := 4) (v := ?_) rfl rfl (by kernel_rfl) (by kernel_rfl) (by kernel_rfl) (fun _ _ _ h => h) (Or.inl ⟨by rfl, ?_⟩) (by assumption) ?_
  rotate_left
  · intro w hSw; (try dsimp only at hSw); go_simp; try with_reducible rfl
  try go_frame
  refine take_at (i := 7) (v := ?_) rfl rfl (by kernel_rfl) (by kernel_rfl) (by kernel_rfl) (fun _ _ _ h => h) (Or.inl ⟨by rfl, ?_⟩) (by assumption) ?_
  rotate_left
  · intro w hSw; (try dsimp only at hSw); go_simp; try with_reducible rfl
  try go_frame
  refine take_at (i := 8) (v := ?_) rfl rfl (by kernel_rfl) (by kernel_rfl) (by kernel_rfl) (fun _ _ _ h => h) (Or.inl ⟨by rfl, ?_⟩) (by assumption) ?_
  rotate_left
  · intro w hSw; (try dsimp only at hSw); go_simp; try with_reducible rfl
  try go_frame
  refine take_at (i := 9) (v := ?_) rfl rfl (by kernel_rfl) (by kernel_rfl) (by kernel_rfl) (fun _ _ _ h => h) (Or.inl ⟨by rfl, ?_⟩) (by assumption) ?_
  rotate_left
  · intro w hSw; (try dsimp only at hSw); go_simp; try with_reducible rfl
  try go_frame
  refine take_at (i := 10) (v := ?_) rfl rfl (by kernel_rfl) (by kernel_rfl) (by kernel_rfl) (fun _ _ _ h => h) (Or.inl ⟨by rfl, ?_⟩) (by assumption) ?_
  rotate_left
  · intro w hSw; (try dsimp only at hSw); go_simp; try with_reducible rfl
  try go_frame
  refine wpAnyH_ready (rs := [3, 11]) (by kernel_rfl) (by simp) ?_
  refine AllReadyH.cons rfl (fun K hK => ?_) (AllReadyH.cons rfl (fun K hK => ?_) AllReadyH.nil)
  · go_simp
    refine (CF.out _).mono ?_
    rintro e w2 ⟨rfl, rfl⟩
    clear CF
    refine hK.out _ _ trivial (fun hHeld => ?_)
    clear hK K
    refine wpAnyH_ready (rs := [5, 11]) (by kernel_rfl) (by simp) ?_
    refine AllReadyH.cons rfl (fun K hK => ?_) (AllReadyH.cons rfl (fun K hK => ?_) AllReadyH.nil)
    · go_simp
      refine (CG.out _).mono ?_
      rintro e w2 ⟨rfl, rfl⟩
      clear CG
      refine hK.out _ _ trivial (fun hHeld => ?_)
      clear hK K
      refine take_at (i := 6) (v := ?_) rfl rfl (by kernel_rfl) (by kernel_rfl) (by kernel_rfl) (fun _ _ _ h => h) (Or.inl ⟨by rfl, ?_⟩) (by assumption) ?_
      rotate_left
      · intro w hSw; (try dsimp only at hSw); go_simp; try with_reducible rfl
      try go_frame
      refine wpAnyH_ready (rs := [11]) (by kernel_rfl) (by simp) ?_
      refine AllReadyH.cons rfl (fun K hK => ?_) AllReadyH.nil
      go_simp
      refine hK.out _ _ trivial (fun hHeld => ?_)
      clear hK K
      refine wpAnyH_ready (rs := [12]) (by kernel_rfl) (by simp) ?_
      refine AllReadyH.cons rfl (fun K hK => ?_) AllReadyH.nil
      go_simp
      refine (CL.out _ _ hI).mono ?_
      rintro e w3 ⟨rfl, hb3⟩
      have hB3 := below_step hBn (Nat.le_refl _) hb3
      clear CL hb3 hI hBn
      refine hK.out _ _ trivial (fun hHeld => ?_)
      clear hK K
      refine take_at (i := 13) (v := ?_) rfl rfl (by kernel_rfl) (by kernel_rfl) (by kernel_rfl) (fun _ _ _ h => h) (Or.inl ⟨by rfl, ?_⟩) (by assumption) ?_
      rotate_left
      · intro w hSw; (try dsimp only at hSw); go_simp; try with_reducible rfl
      try go_frame
      refine wpAnyH_ready (rs := [14]) (by kernel_rfl) (by simp) ?_
      refine AllReadyH.cons rfl (fun K hK => ?_) AllReadyH.nil
      go_simp
      refine (CM.out _).mono ?_
      rintro e w4 ⟨rfl, hb4⟩
      have hB4 := below_step hB3 (Nat.le_refl _) hb4
      clear CM hb4 hB3
      refine hK.out _ _ trivial (fun hHeld => ?_)
      clear hK K
      refine take_at (i := 15) (v := ?_) rfl rfl (by kernel_rfl) (by kernel_rfl) (by kernel_rfl) (fun _ _ _ h => h) (Or.inl ⟨by rfl, ?_⟩) (by assumption) ?_
      rotate_left
      · intro w hSw; (try dsimp only at hSw); go_simp; try with_reducible rfl
      try go_frame
      refine take_at (i := 16) (v := ?_) rfl rfl (by kernel_rfl) (by kernel_rfl) (by kernel_rfl) (fun _ _ _ h => h) (Or.inl ⟨by rfl, ?_⟩) (by assumption) ?_
      rotate_left
      · intro w hSw; (try dsimp only at hSw); go_simp; try with_reducible rfl
      try go_frame
      refine take_at (i := 17) (v := ?_) rfl rfl (by kernel_rfl) (by kernel_rfl) (by kernel_rfl) (fun _ _ _ h => h) (Or.inl ⟨by rfl, ?_⟩) (by assumption) ?_
      rotate_left
      · intro w hSw; (try dsimp only at hSw); go_simp; try with_reducible rfl
      try go_frame
      refine take_at (i := 18) (v := ?_) rfl rfl (by kernel_rfl) (by kernel_rfl) (by kernel_rfl) (fun _ _ _ h => h) (Or.inl ⟨by rfl, ?_⟩) (by assumption) ?_
      rotate_left
      · intro w hSw; (try dsimp only at hSw); go_simp; try with_reducible rfl
      try go_frame
      refine take_at (i := 19) (v := ?_) rfl rfl (by kernel_rfl) (by kernel_rfl) (by kernel_rfl) (fun _ _ _ h => h) (Or.inl ⟨by rfl, ?_⟩) (by assumption) ?_
      rotate_left
      · intro w hSw; (try dsimp only at hSw); go_simp; try with_reducible rfl
      try go_frame
      refine wpAnyH_done (by kernel_rfl) (NoPanic.normal ?_) _
      go_wp2
      go_ret
      exact ⟨rfl, hB4⟩
    · go_simp
      refine hK.out _ _ trivial (fun hHeld => ?_)
      clear hK K
      refine wpAnyH_ready (rs := [5]) (by kernel_rfl) (by simp) ?_
      refine AllReadyH.cons rfl (fun K hK => ?_) AllReadyH.nil
      go_simp
      refine (CG.out _).mono ?_
      rintro e w2 ⟨rfl, rfl⟩
      clear CG
      refine hK.out _ _ trivial (fun hHeld => ?_)
      clear hK K
      refine take_at (i := 6) (v := ?_) rfl rfl (by kernel_rfl) (by kernel_rfl) (by kernel_rfl) (fun _ _ _ h => h) (Or.inl ⟨by rfl, ?_⟩) (by assumption) ?_
      rotate_left
      · intro w hSw; (try dsimp only at hSw); go_simp; try with_reducible rfl
      try go_frame
      refine wpAnyH_ready (rs := [12]) (by kernel_rfl) (by simp) ?_
      refine AllReadyH.cons rfl (fun K hK => ?_) AllReadyH.nil
      go_simp
      refine (CL.out _ _ hI).mono ?_
      rintro e w3 ⟨rfl, hb3⟩
      have hB3 := below_step hBn (Nat.le_refl _) hb3
      clear CL hb3 hI hBn
      refine hK.out _ _ trivial (fun hHeld => ?_)
      clear hK K
      refine take_at (i := 13) (v := ?_) rfl rfl (by kernel_rfl) (by kernel_rfl) (by kernel_rfl) (fun _ _ _ h => h) (Or.inl ⟨by rfl, ?_⟩) (by assumption) ?_
      rotate_left
      · intro w hSw; (try dsimp only at hSw); go_simp; try with_reducible rfl
      try go_frame
      refine wpAnyH_ready (rs := [14]) (by kernel_rfl) (by simp) ?_
      refine AllReadyH.cons rfl (fun K hK => ?_) AllReadyH.nil
      go_simp
      refine (CM.out _).mono ?_
      rintro e w4 ⟨rfl, hb4⟩
      have hB4 := below_step hB3 (Nat.le_refl _) hb4
      clear CM hb4 hB3
      refine hK.out _ _ trivial (fun hHeld => ?_)
      clear hK K
      refine take_at (i := 15) (v := ?_) rfl rfl (by kernel_rfl) (by kernel_rfl) (by kernel_rfl) (fun _ _ _ h => h) (Or.inl ⟨by rfl, ?_⟩) (by assumption) ?_
      rotate_left
      · intro w hSw; (try dsimp only at hSw); go_simp; try with_reducible rfl
      try go_frame
      refine take_at (i := 16) (v := ?_) rfl rfl (by kernel_rfl) (by kernel_rfl) (by kernel_rfl) (fun _ _ _ h => h) (Or.inl ⟨by rfl, ?_⟩) (by assumption) ?_
      rotate_left
      · intro w hSw; (try dsimp only at hSw); go_simp; try with_reducible rfl
      try go_frame
      refine take_at (i := 17) (v := ?_) rfl rfl (by kernel_rfl) (by kernel_rfl) (by kernel_rfl) (fun _ _ _ h => h) (Or.inl ⟨by rfl, ?_⟩) (by assumption) ?_
      rotate_left
      · intro w hSw; (try dsimp only at hSw); go_simp; try with_reducible rfl
      try go_frame
      refine take_at (i := 18) (v := ?_) rfl rfl (by kernel_rfl) (by kernel_rfl) (by kernel_rfl) (fun _ _ _ h => h) (Or.inl ⟨by rfl, ?_⟩) (by assumption) ?_
      rotate_left
      · intro w hSw; (try dsimp only at hSw); go_simp; try with_reducible rfl
      try go_frame
      refine take_at (i := 19) (v := ?_) rfl rfl (by kernel_rfl) (by kernel_rfl) (by kernel_rfl) (fun _ _ _ h => h) (Or.inl ⟨by rfl, ?_⟩) (by assumption) ?_
      rotate_left
      · intro w hSw; (try dsimp only at hSw); go_simp; try with_reducible rfl
      try go_frame
      refine wpAnyH_done (by kernel_rfl) (NoPanic.normal ?_) _
      go_wp2
      go_ret
      exact ⟨rfl, hB4⟩
  · go_simp
    refine hK.out _ _ trivial (fun hHeld => ?_)
    clear hK K
    refine wpAnyH_ready (rs := [3]) (by kernel_rfl) (by simp) ?_
    refine AllReadyH.cons rfl (fun K hK => ?_) AllReadyH.nil
    go_simp
    refine (CF.out _).mono ?_
    rintro e w2 ⟨rfl, rfl⟩
    clear CF
    refine hK.out _ _ trivial (fun hHeld => ?_)
    clear hK K
    refine wpAnyH_ready (rs := [5]) (by kernel_rfl) (by simp) ?_
    refine AllReadyH.cons rfl (fun K hK => ?_) AllReadyH.nil
    go_simp
    refine (CG.out _).mono ?_
    rintro e w2 ⟨rfl, rfl⟩
    clear CG
    refine hK.out _ _ trivial (fun hHeld => ?_)
    clear hK K
    refine take_at (i := 6) (v := ?_) rfl rfl (by kernel_rfl) (by kernel_rfl) (by kernel_rfl) (fun _ _ _ h => h) (Or.inl ⟨by rfl, ?_⟩) (by assumption) ?_
    rotate_left
    · intro w hSw; (try dsimp only at hSw); go_simp; try with_reducible rfl
    try go_frame
    refine wpAnyH_ready (rs := [12]) (by kernel_rfl) (by simp) ?_
    refine AllReadyH.cons rfl (fun K hK => ?_) AllReadyH.nil
    go_simp
    refine (CL.out _ _ hI).mono ?_
    rintro e w3 ⟨rfl, hb3⟩
    have hB3 := below_step hBn (Nat.le_refl _) hb3
    clear CL hb3 hI hBn
    refine hK.out _ _ trivial (fun hHeld => ?_)
    clear hK K
    refine take_at (i := 13) (v := ?_) rfl rfl (by kernel_rfl) (by kernel_rfl) (by kernel_rfl) (fun _ _ _ h => h) (Or.inl ⟨by rfl, ?_⟩) (by assumption) ?_
    rotate_left
    · intro w hSw; (try dsimp only at hSw); go_simp; try with_reducible rfl
    try go_frame
    refine wpAnyH_ready (rs := [14]) (by kernel_rfl) (by simp) ?_
    refine AllReadyH.cons rfl (fun K hK => ?_) AllReadyH.nil
    go_simp
    refine (CM.out _).mono ?_
    rintro e w4 ⟨rfl, hb4⟩
    have hB4 := below_step hB3 (Nat.le_refl _) hb4
    clear CM hb4 hB3
    refine hK.out _ _ trivial (fun hHeld => ?_)
    clear hK K
    refine take_at (i := 15) (v := ?_) rfl rfl (by kernel_rfl) (by kernel_rfl) (by kernel_rfl) (fun _ _ _ h => h) (Or.inl ⟨by rfl, ?_⟩) (by assumption) ?_
    rotate_left
    · intro w hSw; (try dsimp only at hSw); go_simp; try with_reducible rfl
    try go_frame
    refine take_at (i := 16) (v := ?_) rfl rfl (by kernel_rfl) (by kernel_rfl) (by kernel_rfl) (fun _ _ _ h => h) (Or.inl ⟨by rfl, ?_⟩) (by assumption) ?_
    rotate_left
    · intro w hSw; (try dsimp only at hSw); go_simp; try with_reducible rfl
    try go_frame
    refine take_at (i := 17) (v := ?_) rfl rfl (by kernel_rfl) (by kernel_rfl) (by kernel_rfl) (fun _ _ _ h => h) (Or.inl ⟨by rfl, ?_⟩) (by assumption) ?_
    rotate_left
    · intro w hSw; (try dsimp only at hSw); go_simp; try with_reducible rfl
    try go_frame
    refine take_at (i := 18) (v := ?_) rfl rfl (by kernel_rfl) (by kernel_rfl) (by kernel_rfl) (fun _ _ _ h => h) (Or.inl ⟨by rfl, ?_⟩) (by assumption) ?_
    rotate_left
    · intro w hSw; (try dsimp only at hSw); go_simp; try with_reducible rfl
    try go_frame
    refine take_at (i := 19) (v := ?_) rfl rfl (by kernel_rfl) (by kernel_rfl) (by kernel_rfl) (fun _ _ _ h => h) (Or.inl ⟨by rfl, ?_⟩) (by assumption) ?_
    rotate_left
    · intro w hSw; (try dsimp only at hSw); go_simp; try with_reducible rfl
    try go_frame
    refine wpAnyH_done (by kernel_rfl) (NoPanic.normal ?_) _
    go_wp2
    go_ret
    exact ⟨rfl, hB4⟩
theorem rmay_yes (key nonce : ByteArray) (a b : Nat) (w : World) (ha : a ≤ 4503599627370496) (hb : b ≤ 4503599627370496) (h : MayA key nonce a b) :
    Calls Tryz.prog 69 #[.string key, .string nonce, .int .i64 (a : Int), .int .i64 (b : Int)] w fun e w' => e = .returned (.bool true) ∧ w' = w := by
  refine (rmay_any key nonce a b w ha hb).mono ?_
  rintro e w' ⟨t, rfl, ht, rfl⟩
  rw [ht.2 h]; exact ⟨rfl, rfl⟩
set_option maxHeartbeats 1000000 in
theorem rseal_yes (key nonce b s : ByteArray) (w : World) (h : MayA key nonce b.size s.size) :
    Calls Tryz.prog 46 #[.string key, .string nonce, .string b, .string s] w fun e w' => e = .returned (.tuple #[.string (sealB key nonce b s), .int .i64 0]) ∧ Below w.heap.size w w' := by
  have hm := h.2.2
  have C : Hid (∀ w, _) := fun w => rmay_yes key nonce b.size s.size w (by omega) (by omega) h
  obtain ⟨S, HS⟩ : ∃ S, Hid (S = streamB key nonce 1 s) := ⟨_, rfl⟩
  have hSs : S.size = s.size := by rw [HS.out]; exact streamB_size _ _ _ _
  have CS' := fun w => rstream_yes key nonce 1 s w (h.fits 1 (by decide)) (by omega) (by omega)
  rw [← HS.out] at CS'
  have CS : Hid (∀ w, _) := CS'
  have CT' := fun w => rtag_yes key nonce b S w h.1 h.2.1 (by omega)
  obtain ⟨T, HT⟩ : ∃ T, Hid (T = tagA key nonce b S) := ⟨_, rfl⟩
  have hTs : T.size = 16 := by rw [HT.out]; exact tagA_size _ _ _ _
  rw [← HT.out] at CT'
  have CT : Hid (∀ w, _) := CT'
  obtain ⟨E, hE⟩ : ∃ E, S ++ T = E := ⟨_, rfl⟩
  have e : sealB key nonce b s = E := by rw [← hE, HT.out, HS.out]; rfl
  rw [e]
  have hsum : ¬ (9223372036854775807 < s.size + 16) := by omega
  clear CS' CT' HS HT e h
  go_enter Tryz.func46, Tryz.ntmps46
  go_wp2_with fail
  refine (C.out _).mono ?_
  rintro e w1 ⟨rfl, rfl⟩
  clear C
  go_wp2_with fail
  refine (CS.out _).mono ?_
  rintro e w2 ⟨rfl, hb2⟩
  clear CS
  go_wp2_with fail
  refine (CT.out _).mono ?_
  rintro e w3 ⟨rfl, hb3⟩
  have hB3 := below_step hb2 (Nat.le_refl _) hb3
  clear CT hb2 hb3
  go_wp2_with fail
  go_ret2
  exact ⟨rfl, hB3⟩
end Go.Proofs.YtabhkebkbidfhaaGreatDoor

namespace Go.Proofs.YtabhkebkbidfhaaGreatDoor
open Go.RowKit
set_option maxRecDepth 100000
set_option linter.unusedSimpArgs false
theorem Tryz.bsize : (Tryz.prog.info? 129).map (·.size) = some 2 := by kernel_rfl
theorem Tryz.blies : liesAt Tryz.prog Tryz.prog.depth 129 (2 / Tryz.prog.cellsOf 129) 0 129 1 = true := by kernel_rfl
def Bld (B b : Nat) (s : ByteArray) (w : World) : Prop := Lib.IsBuilder 129 5 B b (Lib.strCells s) w
set_option maxHeartbeats 1000000 in
set_option maxRecDepth 100000 in
theorem bcheck_used (b : Nat) (w : World) (h0 : w.cell? ⟨b, 0, none⟩ = some (.pointer (some ⟨b, 0, none⟩))) :
    Calls Tryz.prog 135 #[.pointer (some ⟨b, 0, none⟩)] w fun e w' => e = .returned (.tuple #[]) ∧ w' = w := by
  obtain ⟨j, hj, _⟩ := Option.map_eq_some_iff.1 Tryz.bsize
  go_enter Tryz.func135, Tryz.ntmps135
  go_wp2
  rw [Lib.run_neq_ptr_same w _ Tryz.underlying127 hj]
  go_wp2
  go_end0
  exact ⟨rfl, rfl⟩
theorem conv_bare {P : Program} {w : World} {src dst t e : TypeId} {j : TypeInfo} {cells : Nat} (a : Addr) (hs : P.underlying src = some (.pointer t)) (hd : P.underlying dst = some .unsafePointer) (ht : P.info? t = some j) (hj : j.size ≠ 0)
    (hsh : w.shape? a.block = some (e, cells)) (hoff : a.off < cells) : (convert src dst (.pointer (some a))).run P w = .ok (.pointer (some a)) w := by
  simp [convert, run_underlying hs, run_underlying hd, Conv.unsafePointer, Conv.seenAt, viewAt, cellsIn, hsh, sizeOf, typeInfo, ht, hj]
  intro h
  omega
theorem conv_back {P : Program} {w : World} {src dst u e : TypeId} {j : TypeInfo} {cells : Nat} (a : Addr) (hs : P.underlying src = some .unsafePointer) (hd : P.underlying dst = some (.pointer u)) (hu : P.info? u = some j)
    (hsh : w.shape? a.block = some (e, cells)) (hlies : liesAt P P.depth e (cells / P.cellsOf e) a.off u 1 = true) : (convert src dst (.pointer (some a))).run P w = .ok (.pointer (some a)) w := by
  simp [convert, run_underlying hs, run_underlying hd, Conv.unsafePointer, Conv.seenAt, viewAt, hsh, variablesAt, hlies, sizeOf, typeInfo, hu]
set_option maxHeartbeats 1000000 in
set_option maxRecDepth 100000 in
theorem bcheck_fresh (b : Nat) (w : World) (h0 : w.cell? ⟨b, 0, none⟩ = some (.pointer none)) (hsh : w.shape? b = some (129, 2)) (hfz : w.frozen? ⟨b, 0, none⟩ = false) :
    Calls Tryz.prog 135 #[.pointer (some ⟨b, 0, none⟩)] w fun e w' => e = .returned (.tuple #[]) ∧ w' = w.setCell ⟨b, 0, none⟩ (.pointer (some ⟨b, 0, none⟩)) := by
  obtain ⟨j, hj, hjs⟩ := Option.map_eq_some_iff.1 Tryz.bsize
  go_enter Tryz.func135, Tryz.ntmps135
  go_wp2
  rw [conv_bare ⟨b, 0, none⟩ Tryz.underlying127 Tryz.underlying169 hj (by rw [hjs]; decide) hsh (Nat.zero_lt_succ 1)]
  simp only [Result.andThen]
  rw [Oper.upon_value]
  go_wp2
  rw [run_callFunc_extern Tryz.func159 (by kernel_rfl) (by kernel_rfl) (by kernel_rfl) (e := Extern.AbiNoEscape.same) (by kernel_rfl)]
  rw [Lib.run_noEscape]
  simp only [Result.andThen]
  rw [Oper.upon_value]
  go_wp2
  rw [conv_back ⟨b, 0, none⟩ Tryz.underlying169 Tryz.underlying127 hj hsh Tryz.blies]
  simp only [Result.andThen]
  rw [Oper.upon_value]
  go_wp2
  go_end0
  exact ⟨rfl, rfl⟩
theorem bcheck_any (B b : Nat) (bs : List Value) (w : World) (h : Lib.IsBuilder 129 5 B b bs w) :
    Calls Tryz.prog 135 #[.pointer (some ⟨b, 0, none⟩)] w fun e w' => e = .returned (.tuple #[]) ∧ Lib.BuilderAt 129 5 B b (.pointer (some ⟨b, 0, none⟩)) bs w' ∧ Below B w w' := by
  rcases h with h | h
  · refine (bcheck_fresh b w h.cell0 h.shape h.frozen0).mono ?_
    rintro e w' ⟨rfl, rfl⟩
    exact ⟨rfl, h.used _, (Below.refl B w).setCell (p := ⟨b, 0, none⟩) h.1 _⟩
  · refine (bcheck_used b w h.cell0).mono ?_
    rintro e w' ⟨rfl, rfl⟩
    exact ⟨rfl, h, Below.refl B _⟩
set_option maxHeartbeats 2000000 in
set_option maxRecDepth 100000 in
theorem bwrite_any (B b : Nat) (a s : ByteArray) (w : World) (h : Bld B b a w) (hlen : a.size + s.size ≤ 140737488355328) (hBw : B ≤ w.heap.size) :
    Calls Tryz.prog 106 #[.pointer (some ⟨b, 0, none⟩), .string s] w fun e w' => e = .returned (.tuple #[.int .i64 s.size, .nilIface]) ∧ Bld B b (a ++ s) w' ∧ Below B w w' := by
  obtain ⟨i0, hi, hz0, hz1, hz2⟩ := info_parts Tryz.info5
  unfold Bld at h
  obtain ⟨bs, hbs⟩ : ∃ bs, bs = Lib.strCells a := ⟨_, rfl⟩
  have hbl : bs.length = a.size := by rw [hbs, Lib.strCells_length]
  have Hab : Hid (Lib.strCells (a ++ s) = bs ++ Lib.strCells s) := by
    show _ = _
    rw [hbs]
    unfold Lib.strCells
    rw [ByteArray.data_append, Array.toList_append, List.map_append]
  rw [← hbs] at h
  clear hbs
  go_enter Tryz.func106, Tryz.ntmps106
  go_wp2_with (go_at_call 135; refine (bcheck_any B b bs _ h).mono ?_)
  rintro e w1 ⟨rfl, h1, hb1⟩
  obtain ⟨hB, v, hbk, hown, hne⟩ := h1
  have c0 : w1.cell? ⟨b, 0, none⟩ = some (.pointer (some ⟨b, 0, none⟩)) := by rw [Lib.cell_of_heap hbk]; rfl
  have c1 : w1.cell? ⟨b, 1, none⟩ = some v := by rw [Lib.cell_of_heap hbk]; rfl
  go_wp2_with (at_builtin; refine Lib.wpList_append_own_string _ rfl _ _ 68 9 rfl B 5 i0 Tryz.underlying68 Tryz.underlying9 hi hz0 hz1 hz2 _ _ _ rfl hown s rfl ?c3 ?c4 ?c5 ?_)
  case c3 => unfold maxLen; omega
  case c4 => omega
  case c5 => have := hb1.size; omega
  intro v' w2 hown' hgrow _
  have hlt : b < w1.heap.size := by
    rcases Nat.lt_or_ge b w1.heap.size with h' | h'
    · exact h'
    · simp [Array.getElem?_eq_none h'] at hbk
  have hb2 : w2.heap[b]? = some (.cells #[.pointer (some ⟨b, 0, none⟩), v] 129 (0, 0)) := by
    rw [hgrow.block b hlt (fun e => hne e.symm)]
    exact hbk
  have d0 : w2.cell? ⟨b, 0, none⟩ = some (.pointer (some ⟨b, 0, none⟩)) := by rw [Lib.cell_of_heap hb2]; rfl
  have d1 : w2.cell? ⟨b, 1, none⟩ = some v := by rw [Lib.cell_of_heap hb2]; rfl
  have f1 : w2.frozen? ⟨b, 1, none⟩ = false := Lib.frozen_of_heap hb2 1
  obtain ⟨ao, n', cap, rfl⟩ : ∃ ao n' cap, v' = .slice ao n' cap := by
    rcases hown'.2 with ⟨hv, _⟩ | ⟨g, cap, cur, hv, _⟩
    · exact ⟨_, _, _, hv⟩
    · exact ⟨_, _, _, hv⟩
  go_wp2
  go_ret2
  refine ⟨rfl, ?_, ?_⟩
  · unfold Bld
    rw [Hab.out]
    exact Or.inr (Lib.BuilderAt.put (T := 129) (e := 5) hB hb2 (bs' := bs ++ Lib.strCells s) (by simpa [Lib.strCells_length, hbl] using hown') (by decide))
  · exact (hb1.grown hgrow (by have := hb1.size; omega) (fun k hk => (hown.lt k hk).1)).setCell (p := ⟨b, 1, none⟩) hB _
theorem bstring_any (B b : Nat) (a : ByteArray) (w : World) (h : Bld B b a w) (hBw : B ≤ w.heap.size) :
    Calls Tryz.prog 107 #[.pointer (some ⟨b, 0, none⟩)] w fun e w' => e = .returned (.string a) ∧ Below B w w' := by
  have h' : Lib.IsBuilder 129 5 B b (Lib.byteCells a.data.toList) w := h
  refine (Tryz.Builder_String_any B b a.data.toList w h' hBw).mono ?_
  rintro e w' ⟨rfl, hb⟩
  exact ⟨rfl, hb⟩
theorem bld_new (w : World) : Bld w.heap.size w.heap.size ByteArray.empty (w.alloc (.cells #[.pointer none, .slice none 0 0] 129)) := Lib.fresh_isBuilder _ _ w
end Go.Proofs.YtabhkebkbidfhaaGreatDoor

namespace Go.Proofs.YtabhkebkbidfhaaGreatDoor
open Go.RowKit
set_option maxRecDepth 100000
set_option linter.unusedSimpArgs false
set_option maxHeartbeats 1000000 in
theorem afit_any (key nonce : ByteArray) (a b : Nat) (w : World) (hs : a + b ≤ 4503599627370496) :
    Calls Tryz.prog 52 #[.string key, .string nonce, .int .i64 ((a : Int) + (b : Int))] w fun e w' => ∃ t, e = .returned (.bool t) ∧ (t = true ↔ MayA key nonce a b) ∧ w' = w := by
  obtain ⟨n, hn⟩ : ∃ n : Nat, n = a + b := ⟨_, rfl⟩
  rw [show (a : Int) + (b : Int) = (n : Int) by omega]
  by_cases h1 : key.size = 32
  · have g1 : (((key.size : Int) == 32)) = true := by rw [beq_iff_eq]; omega
    by_cases h2 : nonce.size = 12
    · have g2 : (((nonce.size : Int) == 12)) = true := by rw [beq_iff_eq]; omega
      by_cases h3 : n ≤ 32768
      · have g3 : decide ((n : Int) ≤ 32768) = true := by simp; omega
        have hM : MayA key nonce a b := ⟨h1, h2, by omega⟩
        clear hn
        go_enter Tryz.func52, Tryz.ntmps52
        go_wp2
        go_ret
        exact ⟨true, rfl, ⟨fun _ => hM, fun _ => rfl⟩, rfl⟩
      · have g3 : decide ((n : Int) ≤ 32768) = false := by simp; omega
        have hM : ¬ MayA key nonce a b := fun h => h3 (by have := h.2.2; omega)
        clear hn
        go_enter Tryz.func52, Tryz.ntmps52
        go_wp2
        go_ret
        exact ⟨false, rfl, ⟨fun h => (by cases h), fun h => absurd h hM⟩, rfl⟩
    · have g2 : (((nonce.size : Int) == 12)) = false := by rw [beq_eq_false_iff_ne]; omega
      have hM : ¬ MayA key nonce a b := fun h => h2 h.2.1
      clear hn
      go_enter Tryz.func52, Tryz.ntmps52
      go_wp2
      go_ret
      exact ⟨false, rfl, ⟨fun h => (by cases h), fun h => absurd h hM⟩, rfl⟩
  · have g1 : (((key.size : Int) == 32)) = false := by rw [beq_eq_false_iff_ne]; omega
    have hM : ¬ MayA key nonce a b := fun h => h1 h.1
    clear hn
    go_enter Tryz.func52, Tryz.ntmps52
    go_wp2
    go_ret
    exact ⟨false, rfl, ⟨fun h => (by cases h), fun h => absurd h hM⟩, rfl⟩
theorem afit_yes (key nonce : ByteArray) (a b : Nat) (w : World) (h : MayA key nonce a b) :
    Calls Tryz.prog 52 #[.string key, .string nonce, .int .i64 ((a : Int) + (b : Int))] w fun e w' => e = .returned (.bool true) ∧ w' = w := by
  refine (afit_any key nonce a b w (by have := h.2.2; omega)).mono ?_
  rintro e w' ⟨t, rfl, ht, rfl⟩
  rw [ht.2 h]; exact ⟨rfl, rfl⟩
set_option maxHeartbeats 1000000 in
theorem aturned_any (key nonce s : ByteArray) (w : World) (hk : key.size = 32) (hn : nonce.size = 12) (hs : s.size ≤ 65536) (hP : GlobP w) :
    Calls Tryz.prog 56 #[.string key, .string nonce, .string s] w fun e w' => e = .returned (.string (streamB key nonce 1 s)) ∧ Below w.heap.size w w' := by
  have C : Hid (Calls _ _ _ _ _) := stream_yes key nonce 1 s w ⟨hk, hn, by decide, by decide⟩ hs (by omega) hP
  clear hP
  go_enter Tryz.func56, Tryz.ntmps56
  go_wp2_with fail
  refine C.out.mono ?_
  rintro e w1 ⟨rfl, hb1⟩
  clear C
  go_wp2_with fail
  go_ret
  exact ⟨rfl, hb1⟩
set_option maxHeartbeats 1000000 in
theorem aonce_any (key nonce : ByteArray) (w : World) (hk : key.size = 32) (hn : nonce.size = 12) (hP : GlobP w) :
    Calls Tryz.prog 54 #[.string key, .string nonce] w fun e w' => e = .returned (.string (keyA key nonce)) ∧ Below w.heap.size w w' := by
  obtain ⟨B, HB⟩ : ∃ B, Hid (B = blockB key nonce 0) := ⟨_, rfl⟩
  have hBs : B.size = 64 := by rw [HB.out]; exact blockB_size _ _ _
  have C' := cblock_yes key nonce 0 w ⟨hk, hn, by decide, by decide⟩ hP
  rw [← HB.out] at C'
  have C : Hid (Calls _ _ _ _ _) := C'
  have e : keyA key nonce = B.extract 0 32 := by rw [HB.out]; rfl
  rw [e]
  clear C' e HB hP
  go_enter Tryz.func54, Tryz.ntmps54
  go_wp2_with fail
  refine C.out.mono ?_
  rintro e w1 ⟨rfl, hb1⟩
  clear C
  go_wp2_with fail
  go_ret
  exact ⟨rfl, hb1⟩
def fillsB (l : List ByteArray) : Nat → ByteArray
  | 0 => ByteArray.empty
  | k + 1 => (fillsB l k ++ strL l k) ++ zeroB (fillA (strL l k).size)
theorem fillsB_le (l : List ByteArray) (m : Nat) (h : ∀ i, (strL l i).size ≤ m) (k : Nat) : (fillsB l k).size ≤ k * (m + 16) := by
  induction k with
  | zero => exact Nat.zero_le _
  | succ k ih =>
    show ((fillsB l k ++ strL l k) ++ zeroB _).size ≤ _
    rw [ByteArray.size_append, ByteArray.size_append, zeroB_size, Nat.add_mul, Nat.one_mul]
    have h1 := h k
    have h2 := fillA_lt (strL l k).size
    generalize k * (m + 16) = K at *
    omega
theorem i64_and15 (n : Int) : bits .and .i64 n 15 = n % 16 := i64_mask n 4 (by decide) 15 (by decide)
theorem fillA_int (n : Nat) : (-(n : Int)) % 16 = (fillA n : Int) := by
  have : fillA n = (16 - n % 16) % 16 := rfl
  omega
theorem noughts_take (f : Nat) (h : f ≤ 15) : (⟨#[0, 0, 0, 0, 0, 0, 0, 0, 0, 0, 0, 0, 0, 0, 0]⟩ : ByteArray).extract 0 f = zeroB f :=
  (show ∀ f, f < 16 → (⟨#[0, 0, 0, 0, 0, 0, 0, 0, 0, 0, 0, 0, 0, 0, 0]⟩ : ByteArray).extract 0 f = zeroB f by decide +kernel) f (by omega)
set_option maxRecDepth 100000 in
set_option maxHeartbeats 4000000 in
theorem afilled_any (a : Option Addr) (n c : Nat) (l : List ByteArray) (w : World) (hS : StrsAt w a n l) (hn : n ≤ 1000) (hsz : ∀ i, (strL l i).size ≤ 1048576) :
    Calls Tryz.prog 78 #[.slice a n c] w fun e w' => e = .returned (.string (fillsB l n)) ∧ Below w.heap.size w w' := by
  have HS : Hid (StrsAt w a n l) := hS
  have HL : Hid (∀ k, (fillsB l k).size ≤ k * (1048576 + 16)) := fillsB_le l _ hsz
  clear hS
  go_enter Tryz.func78, Tryz.ntmps78
  go_wp2_with fail
  go_loopw [8] (fun i wr => ∃ k : Nat, k ≤ n ∧ i = .int .i64 k ∧ Bld w.heap.size w.heap.size (fillsB l k) wr ∧ Below w.heap.size w wr) (fun i _ => n - (intOf i).toNat)
  case atStart => exact ⟨0, Nat.zero_le _, rfl, bld_new w, below_new w _⟩
  case round =>
    obtain ⟨k, hk, rfl, hbd, hbl⟩ := hrel
    by_cases hlt : k < n
    · obtain ⟨b, off, rfl, hcl⟩ := HS.out.some (by omega)
      have c0' := hcl k hlt
      have c0 : wr.cell? ⟨b, off + k, none⟩ = some (.string (strL l k)) := by
        rw [hbl.cell (p := ⟨b, off + k, none⟩) (World.block_lt_of_cell? w _ c0')]; exact c0'
      have b0 : (k : Int) < (n : Int) := by omega
      have hX := hsz k
      obtain ⟨f, Hf⟩ : ∃ f, Hid (f = fillA (strL l k).size) := ⟨_, rfl⟩
      have hf : f ≤ 15 := by rw [Hf.out]; have := fillA_lt (strL l k).size; omega
      have hbits : bits .and .i64 (-((strL l k).size : Int)) 15 = (f : Int) := by rw [i64_and15, fillA_int, ← Hf.out]
      have HF : Hid (fillsB l (k + 1) = (fillsB l k ++ strL l k) ++ zeroB f) := by show _ = _; rw [Hf.out]; rfl
      have hFk : (fillsB l k).size ≤ 1048592000 := by
        refine Nat.le_trans (HL.out k) ?_
        refine Nat.le_trans (Nat.mul_le_mul_right _ (by omega : k ≤ 1000)) ?_
        decide
      have hB0 := hbl.size
      clear hcl c0' hsz HL Hf
      obtain ⟨F1, HF1⟩ : ∃ F1, Hid (F1 = fillsB l (k + 1)) := ⟨_, rfl⟩
      rw [← HF1.out] at HF
      generalize fillsB l k = F0 at *
      generalize strL l k = X at *
      have C1 : Hid (Calls _ _ _ _ _) := bwrite_any w.heap.size w.heap.size F0 X wr hbd (by omega) hB0
      clear hbd
      go_wp2_with fail
      refine C1.out.mono ?_
      rintro e w1 ⟨rfl, hbd1, hb1⟩
      clear C1
      have hB1 := hb1.size
      have C2' := bwrite_any w.heap.size w.heap.size (F0 ++ X) (zeroB f) w1 hbd1 (by rw [ByteArray.size_append, zeroB_size]; omega) (by omega)
      rw [← HF.out, ← noughts_take f hf] at C2'
      have C2 : Hid (Calls _ _ _ _ _) := C2'
      clear hbd1 C2'
      go_wp2_with fail
      refine C2.out.mono ?_
      rintro e w2 ⟨rfl, hbd2, hb2⟩
      clear C2
      have hbl2 : Below w.heap.size w w2 := (hbl.trans hb1).trans hb2
      clear hbl hb1 hb2
      go_wp2_with fail
      rw [HF1.out] at hbd2
      refine ⟨⟨k + 1, by omega, by go_num, hbd2, hbl2⟩, ?_⟩
      simp [intOf]; omega
    · have hk' : k = n := by omega
      subst hk'
      have C : Hid (Calls _ _ _ _ _) := bstring_any w.heap.size w.heap.size (fillsB l k) wr hbd hbl.size
      clear hbd
      go_wp2_with fail
      refine C.out.mono ?_
      rintro e w1 ⟨rfl, hb1⟩
      clear C
      have hbl1 := hbl.trans hb1
      clear hbl hb1
      go_wp2_with fail
      go_ret
      exact ⟨rfl, hbl1⟩
theorem cell_two_new (w : World) (x y : Value) (e : TypeId) : ∀ (j : Nat) (u : Value), [x, y][j]? = some u → (w.alloc (.cells #[x, y] e)).cell? ((⟨w.heap.size, 0, none⟩ : Addr).add j) = some u := by
  intro j u hj
  match j, hj with
  | 0, hj => simp at hj; subst hj; simp [Addr.add]
  | 1, hj => simp at hj; subst hj; simp [Addr.add]
theorem wpList_app2 {P : Program} {ops : Array Oper} {rest : List Oper} {o : Oper} {a : Act} {Q : Exit → Act → World → Prop} (hgd : o.guard = none) (s x : Operand) (t : TypeId)
    (ho : o.op = .call { callee := .builtin .append, args := #[s, x], argTypes := #[t, t] })
    (B : Nat) (e : TypeId) (i : TypeInfo) (K : IntKind) (bytes : Nat) (ht : P.underlying t = some (.slice e)) (hi : P.info? e = some i) (hz : i.zero = some (.int K 0)) (hsize : i.size = 1) (hby : i.bytes = bytes)
    (W : World) (v : Value) (n : Nat) (l : List Int) (hs : a.eval s = v) (hown : OwnV W B e K v n l) (y z : Int) (hx : a.eval x = .slice (some ⟨W.heap.size, 0, none⟩) 2 2)
    (hn : (n + 2) * bytes ≤ 140737488355328) (hn' : n + 2 ≤ 9223372036854775807) (hB : B ≤ W.heap.size)
    (h : ∀ v' w', OwnV w' B e K v' (n + 2) (l ++ [y, z]) → Below B W w' → wpList P ops Q rest (a.put o.dst v') w') :
    wpList P ops Q (o :: rest) a (W.alloc (.cells #[.int K y, .int K z] e)) := by
  refine wpList_append_own _ hgd s x t ho B e i (.int K 0) 1 bytes ht hi hz hsize hby rfl (by decide) v n _ hs (World.ownsRow.alloc hown _) ⟨W.heap.size, 0, none⟩ 2 2 [.int K y, .int K z] hx rfl (cell_two_new _ _ _ _) ?_ (by unfold maxLen; omega) hn (by simp; omega) ?_
  · intro u hu; simp at hu; rcases hu with rfl | rfl <;> rfl
  · intro v' w' h1 h2 _
    refine h v' w' (by unfold OwnV; rw [List.map_append]; exact h1) ?_
    exact ((Below.refl B W).alloc hB _).grown h2 (by simp; omega) (fun k hk => (World.ownsRow.lt hown k hk).1)
def lensI (l : List ByteArray) : Nat → List Int
  | 0 => []
  | k + 1 => lensI l k ++ [((strL l k).size : Int), 0]
set_option maxRecDepth 100000 in
set_option maxHeartbeats 4000000 in
theorem alengths_any (a : Option Addr) (n c : Nat) (l : List ByteArray) (w : World) (hS : StrsAt w a n l) (hn : n ≤ 1000) (hsz : ∀ i, (strL l i).size ≤ 1048576) :
    Calls Tryz.prog 79 #[.slice a n c] w fun e w' => e = .returned (.string ⟨(putL (lensI l n) ssh).toArray⟩) ∧ Below w.heap.size w w' := by
  obtain ⟨i0, hi, hz0, hz1, hz2⟩ := info_parts Tryz.info3
  have HS : Hid (StrsAt w a n l) := hS
  clear hS
  go_enter Tryz.func79, Tryz.ntmps79
  go_wp2_with fail
  go_loopw [3, 8] (fun v i wr => ∃ k : Nat, k ≤ n ∧ i = .int .i64 k ∧ OwnV wr w.heap.size 3 .i64 v (2 * k) (lensI l k) ∧ Below w.heap.size w wr) (fun _ i _ => n - (intOf i).toNat)
  case atStart => exact ⟨0, Nat.zero_le _, rfl, World.ownsRow_nil _ _ _ _, Below.refl _ _⟩
  case round =>
    obtain ⟨k, hk, rfl, hown, hbl⟩ := hrel
    by_cases hlt : k < n
    · obtain ⟨b, off, rfl, hcl⟩ := HS.out.some (by omega)
      have c0' := hcl k hlt
      have c0 : wr.cell? ⟨b, off + k, none⟩ = some (.string (strL l k)) := by
        rw [hbl.cell (p := ⟨b, off + k, none⟩) (World.block_lt_of_cell? w _ c0')]; exact c0'
      have b0 : (k : Int) < (n : Int) := by omega
      have hX := hsz k
      have HF : Hid (lensI l (k + 1) = lensI l k ++ [((strL l k).size : Int), 0]) := rfl
      have hB0 := hbl.size
      clear hcl c0' hsz
      generalize lensI l k = F0 at *
      generalize strL l k = X at *
      go_wp2_with (at_builtin; refine wpList_app2 rfl (.tmp 12) (.tmp 15) 123 rfl w.heap.size 3 i0 .i64 8 Tryz.underlying123 hi hz0 hz1 hz2 wr u3 (2 * k) F0 rfl hown (X.size : Int) 0 rfl (by omega) (by omega) hB0 ?_)
      intro v' w' hown' hb'
      have hbl' := hbl.trans hb'
      clear hbl hb' hown
      go_wp2_with fail
      refine ⟨⟨k + 1, by omega, by go_num, by rw [HF.out]; exact hown', hbl'⟩, ?_⟩
      simp [intOf]; omega
    · have hk' : k = n := by omega
      subst hk'
      obtain ⟨a', c', rfl, hI⟩ := hown.ints
      have C : Hid (Calls _ _ _ _ _) := putSmall_any a' (2 * k) c' (lensI l k) wr (by omega) hI
      clear hown hI
      go_wp2_with fail
      refine C.out.mono ?_
      rintro e w1 ⟨rfl, hb1⟩
      clear C
      have hbl1 := below_step hbl (Nat.le_refl _) hb1
      clear hbl hb1
      go_wp2_with fail
      go_ret
      exact ⟨rfl, hbl1⟩
theorem strs_two (w : World) (x y : ByteArray) (e : TypeId) : StrsAt (w.alloc (.cells #[.string x, .string y] e)) (some ⟨w.heap.size, 0, none⟩) 2 [x, y] := by
  refine ⟨rfl, .inr ⟨w.heap.size, 0, rfl, fun i hi => ?_⟩⟩
  match i, hi with
  | 0, _ => simp [strL]
  | 1, _ => simp [strL]
theorem strs_three (w : World) (x y z : ByteArray) (e : TypeId) : StrsAt (w.alloc (.cells #[.string x, .string y, .string z] e)) (some ⟨w.heap.size, 0, none⟩) 3 [x, y, z] := by
  refine ⟨rfl, .inr ⟨w.heap.size, 0, rfl, fun i hi => ?_⟩⟩
  match i, hi with
  | 0, _ => simp [strL]
  | 1, _ => simp [strL]
  | 2, _ => simp [strL]
theorem strL_le (l : List ByteArray) (m : Nat) (h : ∀ s ∈ l, s.size ≤ m) (i : Nat) : (strL l i).size ≤ m := by
  unfold strL
  by_cases hi : i < l.length
  · rw [List.getD_eq_getElem?_getD, List.getElem?_eq_getElem hi]
    exact h _ (List.getElem_mem hi)
  · rw [List.getD_eq_getElem?_getD, List.getElem?_eq_none (by omega)]
    exact Nat.zero_le _
theorem empty_front (s : ByteArray) : ByteArray.empty ++ s = s := by
  apply bytes_ext
  rw [ByteArray.data_append, Array.toList_append]
  rfl
theorem fills_mac (b c : ByteArray) : fillsB [b, c, lensB b.size c.size] 3 = macText b c := by
  show ((((((ByteArray.empty ++ b) ++ zeroB (fillA b.size)) ++ c) ++ zeroB (fillA c.size)) ++ lensB b.size c.size) ++ zeroB (fillA (lensB b.size c.size).size)) = _
  rw [lensB_size, show fillA 16 = 0 from rfl, zeroB_none, empty_front]
  unfold macText fillB
  rw [ByteArray.append_assoc (a := b ++ zeroB (fillA b.size)) (b := c)]
set_option maxRecDepth 100000 in
set_option maxHeartbeats 4000000 in
theorem atagged_any (b c : ByteArray) (w : World) (hs : b.size + c.size ≤ 65000) :
    Calls Tryz.prog 55 #[.string b, .string c] w fun e w' => e = .returned (.string (macText b c)) ∧ Below w.heap.size w w' := by
  obtain ⟨L, hL⟩ : ∃ L, lensB b.size c.size = L := ⟨_, rfl⟩
  have hLs : L.size = 16 := by rw [← hL]; exact lensB_size _ _
  obtain ⟨M, hM⟩ : ∃ M, macText b c = M := ⟨_, rfl⟩
  have hF : fillsB [b, c, L] 3 = M := by rw [← hL, ← hM]; exact fills_mac b c
  rw [hM]
  have C1' := alengths_any (some ⟨w.heap.size, 0, none⟩) 2 2 [b, c] _ (strs_two w b c 9) (by decide) (strL_le _ _ (by intro s h; simp at h; rcases h with rfl | rfl <;> omega))
  rw [show (⟨(putL (lensI [b, c] 2) ssh).toArray⟩ : ByteArray) = L from hL] at C1'
  have C1 : Hid (Calls _ _ _ _ _) := C1'
  have C2' := fun w : World => afilled_any (some ⟨w.heap.size, 0, none⟩) 3 3 [b, c, L] _ (strs_three w b c L 9) (by decide) (strL_le _ _ (by intro s h; simp at h; rcases h with rfl | rfl | rfl <;> omega))
  rw [hF] at C2'
  have C2 : Hid (∀ w : World, _) := C2'
  clear C1' C2' hF hM hL
  go_enter Tryz.func55, Tryz.ntmps55
  go_wp2_with fail
  refine C1.out.mono ?_
  rintro e w1 ⟨rfl, hb1⟩
  have hB1 := below_step (below_new w _) (Nat.le_refl _) hb1
  clear C1 hb1
  go_wp2_with fail
  refine (C2.out _).mono ?_
  rintro e w2 ⟨rfl, hb2⟩
  have hB2 := below_step (below_step hB1 (Nat.le_refl _) (below_new w1 _)) (Nat.le_refl _) hb2
  clear C2 hb2
  go_wp2_with fail
  go_ret
  exact ⟨rfl, hB2⟩
set_option maxRecDepth 100000 in
set_option maxHeartbeats 4000000 in
theorem aseal_yes (key nonce b s : ByteArray) (w : World) (h : MayA key nonce b.size s.size) (hP : GlobP w) (hY : GlobY w) :
    Calls Tryz.prog 42 #[.string key, .string nonce, .string b, .string s] w fun e w' => e = .returned (.tuple #[.string (sealB key nonce b s), .int .i64 0]) ∧ Below w.heap.size w w' := by
  have hm := h.2.2
  have C : Hid (∀ w, _) := fun w => afit_yes key nonce b.size s.size w h
  obtain ⟨S, HS⟩ : ∃ S, Hid (S = streamB key nonce 1 s) := ⟨_, rfl⟩
  have hSs : S.size = s.size := by rw [HS.out]; exact streamB_size _ _ _ _
  have CS' := aturned_any key nonce s w h.1 h.2.1 (by omega) hP
  rw [← HS.out] at CS'
  have CS : Hid (Calls _ _ _ _ _) := CS'
  obtain ⟨K, HK⟩ : ∃ K, Hid (K = keyA key nonce) := ⟨_, rfl⟩
  have hKs : K.size = 32 := by rw [HK.out]; exact keyA_size _ _
  have CK' := fun (w' : World) (hb : Below w.heap.size w w') => aonce_any key nonce w' h.1 h.2.1 (hP.below hb)
  rw [← HK.out] at CK'
  have CK : Hid (∀ (w' : World) (hb : Below w.heap.size w w'), _) := CK'
  obtain ⟨M, HM⟩ : ∃ M, Hid (M = macText b S) := ⟨_, rfl⟩
  have hMs : M.size ≤ 65536 := by rw [HM.out]; exact macText_le _ _ (by omega)
  have CM' := fun w' => atagged_any b S w' (by omega)
  rw [← HM.out] at CM'
  have CM : Hid (∀ w, _) := CM'
  obtain ⟨T, HT⟩ : ∃ T, Hid (T = tagB K M) := ⟨_, rfl⟩
  have hTs : T.size = 16 := by rw [HT.out]; exact tagB_size _ _
  have CT' := fun (w' : World) (hb : Below w.heap.size w w') => mac_on K M w w' hY hb hKs hMs
  rw [← HT.out] at CT'
  have CT : Hid (∀ (w' : World) (hb : Below w.heap.size w w'), _) := CT'
  obtain ⟨E, hE⟩ : ∃ E, S ++ T = E := ⟨_, rfl⟩
  have e : sealB key nonce b s = E := by
    rw [← hE, HT.out, HK.out, HM.out, HS.out]; rfl
  rw [e]
  have hsum : ¬ (9223372036854775807 < s.size + 16) := by omega
  clear CS' CK' CM' CT' HS HK HM HT e h hP hY
  go_enter Tryz.func42, Tryz.ntmps42
  go_wp2_with fail
  refine (C.out _).mono ?_
  rintro e w1 ⟨rfl, rfl⟩
  clear C
  go_wp2_with fail
  refine CS.out.mono ?_
  rintro e w2 ⟨rfl, hb2⟩
  clear CS
  go_wp2_with fail
  refine (CK.out _ hb2).mono ?_
  rintro e w3 ⟨rfl, hb3⟩
  have hB3 := below_step hb2 (Nat.le_refl _) hb3
  clear CK hb2 hb3
  go_wp2_with fail
  refine (CM.out _).mono ?_
  rintro e w4 ⟨rfl, hb4⟩
  have hB4 := below_step hB3 (Nat.le_refl _) hb4
  clear CM hB3 hb4
  go_wp2_with fail
  refine (CT.out _ hB4).mono ?_
  rintro e w5 ⟨rfl, hB5⟩
  clear CT hB4
  go_wp2_with fail
  go_ret2
  exact ⟨rfl, hB5⟩
theorem afit_yes0 (key nonce : ByteArray) (a : Nat) (w : World) (h : MayA key nonce a 0) :
    Calls Tryz.prog 52 #[.string key, .string nonce, .int .i64 (a : Int)] w fun e w' => e = .returned (.bool true) ∧ w' = w := by
  have := afit_yes key nonce a 0 w h
  rwa [show (a : Int) + ((0 : Nat) : Int) = (a : Int) by omega] at this
set_option maxRecDepth 100000 in
set_option maxHeartbeats 4000000 in
theorem aopen_long (key nonce b t A R : ByteArray) (n : Nat) (q : Bool) (w : World) (hk : key.size = 32) (hc : nonce.size = 12) (hs : b.size + n ≤ 32768) (hn : t.size = n + 16) (hn0 : 0 < n)
    (hA : t.extract 0 n = A) (hR : t.extract n t.size = R) (hq : ((tagA key nonce b A).toList == R.toList) = q) (hP : GlobP w) (hY : GlobY w) :
    Calls Tryz.prog 22 #[.string key, .string nonce, .string b, .string t] w fun e w' => e = .returned (if q then .tuple #[.string (streamB key nonce 1 A), .int .i64 0] else .tuple #[.string ⟨#[]⟩, .int .i64 70]) ∧ Below w.heap.size w w' := by
  have hAs : A.size = n := by rw [← hA, ByteArray.size_extract]; omega
  have C : Hid (∀ w, _) := fun w => afit_yes key nonce b.size n w ⟨hk, hc, hs⟩
  obtain ⟨K, HK⟩ : ∃ K, Hid (K = keyA key nonce) := ⟨_, rfl⟩
  have hKs : K.size = 32 := by rw [HK.out]; exact keyA_size _ _
  have CK' := fun (w' : World) (hb : Below w.heap.size w w') => aonce_any key nonce w' hk hc (hP.below hb)
  rw [← HK.out] at CK'
  have CK : Hid (∀ (w' : World) (hb : Below w.heap.size w w'), _) := CK'
  obtain ⟨M, HM⟩ : ∃ M, Hid (M = macText b A) := ⟨_, rfl⟩
  have hMs : M.size ≤ 65536 := by rw [HM.out]; exact macText_le _ _ (by omega)
  have CM' := fun w' => atagged_any b A w' (by omega)
  rw [← HM.out] at CM'
  have CM : Hid (∀ w, _) := CM'
  have CT' := fun (w' : World) (hb : Below w.heap.size w w') => check_on K M R w w' hY hb hKs hMs
  rw [show ((tagB K M).toList == R.toList) = q by rw [HK.out, HM.out]; exact hq] at CT'
  have CT : Hid (∀ (w' : World) (hb : Below w.heap.size w w'), _) := CT'
  obtain ⟨S, HS⟩ : ∃ S, Hid (S = streamB key nonce 1 A) := ⟨_, rfl⟩
  have CS' := fun (w' : World) (hb : Below w.heap.size w w') => aturned_any key nonce A w' hk hc (by omega) (hP.below hb)
  rw [← HS.out] at CS'
  have CS : Hid (∀ (w' : World) (hb : Below w.heap.size w w'), _) := CS'
  rw [← HS.out]
  have i0 : (0 : Int) ≤ (n : Int) := by omega
  have i1 : (n : Int) ≤ (t.size : Int) := by omega
  have i2 : n ≤ t.size := by omega
  have tl : t.size ≤ 40000 := by omega
  have nl : n ≤ 40000 := by omega
  have bl : b.size ≤ 40000 := by omega
  have hm : (t.size : Int) - 16 = (n : Int) := by omega
  have m0 : (0 : Int) < (n : Int) := by omega
  have m1 : ¬ ((n : Int) ≤ 0) := by omega
  clear CK' CM' CT' CS' HK HM HS hP hY hq hn hs hAs
  cases q
  · skip
    go_enter Tryz.func22, Tryz.ntmps22
    go_wp2_with fail
    refine (C.out _).mono ?_
    rintro e w1 ⟨rfl, rfl⟩
    clear C
    go_wp2_with fail
    go_quiet (fail)
    go_wp2_with fail
    refine (CK.out _ (below_drewN (Below.refl _ _) _)).mono ?_
    rintro e w2 ⟨rfl, hb2⟩
    have hB2 : Below w1.heap.size w1 w2 := below_step (below_drewN (Below.refl _ _) _) (Nat.le_refl _) hb2
    clear CK hb2
    go_wp2_with fail
    refine (CM.out _).mono ?_
    rintro e w3 ⟨rfl, hb3⟩
    have hB3 := below_step hB2 (Nat.le_refl _) hb3
    clear CM hb3 hB2
    go_wp2_with fail
    refine (CT.out _ hB3).mono ?_
    rintro e w4 ⟨rfl, hB4⟩
    clear CT hB3
    go_wp2_with fail
    go_ret2
    exact ⟨rfl, hB4⟩
  · skip
    go_enter Tryz.func22, Tryz.ntmps22
    go_wp2_with fail
    refine (C.out _).mono ?_
    rintro e w1 ⟨rfl, rfl⟩
    clear C
    go_wp2_with fail
    go_quiet (fail)
    go_wp2_with fail
    refine (CK.out _ (below_drewN (Below.refl _ _) _)).mono ?_
    rintro e w2 ⟨rfl, hb2⟩
    have hB2 : Below w1.heap.size w1 w2 := below_step (below_drewN (Below.refl _ _) _) (Nat.le_refl _) hb2
    clear CK hb2
    go_wp2_with fail
    refine (CM.out _).mono ?_
    rintro e w3 ⟨rfl, hb3⟩
    have hB3 := below_step hB2 (Nat.le_refl _) hb3
    clear CM hb3 hB2
    go_wp2_with fail
    refine (CT.out _ hB3).mono ?_
    rintro e w4 ⟨rfl, hB4⟩
    clear CT hB3
    go_wp2_with fail
    refine (CS.out _ hB4).mono ?_
    rintro e w5 ⟨rfl, hb5⟩
    have hB5 := below_step hB4 (Nat.le_refl _) hb5
    clear CS hb5 hB4
    go_wp2_with fail
    go_ret2
    exact ⟨rfl, hB5⟩
set_option maxRecDepth 100000 in
set_option maxHeartbeats 4000000 in
theorem aopen_short (key nonce b t : ByteArray) (q : Bool) (w : World) (hk : key.size = 32) (hc : nonce.size = 12) (hs : b.size ≤ 32768) (hn : t.size ≤ 16)
    (hq : ((tagA key nonce b ByteArray.empty).toList == t.toList) = q) (hP : GlobP w) (hY : GlobY w) :
    Calls Tryz.prog 22 #[.string key, .string nonce, .string b, .string t] w fun e w' => e = .returned (if q then .tuple #[.string (streamB key nonce 1 ByteArray.empty), .int .i64 0] else .tuple #[.string ⟨#[]⟩, .int .i64 70]) ∧ Below w.heap.size w w' := by
  have C : Hid (∀ w, _) := fun w => afit_yes0 key nonce b.size w ⟨hk, hc, by omega⟩
  obtain ⟨A, hA⟩ : ∃ A, A = ByteArray.empty := ⟨_, rfl⟩
  obtain ⟨R, hR⟩ : ∃ R, R = t := ⟨_, rfl⟩
  have hAs : A.size = 0 := by rw [hA]; rfl
  rw [← hA, ← hR] at hq
  rw [← hA]
  obtain ⟨K, HK⟩ : ∃ K, Hid (K = keyA key nonce) := ⟨_, rfl⟩
  have hKs : K.size = 32 := by rw [HK.out]; exact keyA_size _ _
  have CK' := fun (w' : World) (hb : Below w.heap.size w w') => aonce_any key nonce w' hk hc (hP.below hb)
  rw [← HK.out] at CK'
  have CK : Hid (∀ (w' : World) (hb : Below w.heap.size w w'), _) := CK'
  obtain ⟨M, HM⟩ : ∃ M, Hid (M = macText b A) := ⟨_, rfl⟩
  have hMs : M.size ≤ 65536 := by rw [HM.out]; exact macText_le _ _ (by omega)
  have CM' := fun w' => atagged_any b A w' (by omega)
  rw [← HM.out] at CM'
  have CM : Hid (∀ w, _) := CM'
  have CT' := fun (w' : World) (hb : Below w.heap.size w w') => check_on K M R w w' hY hb hKs hMs
  rw [show ((tagB K M).toList == R.toList) = q by rw [HK.out, HM.out]; exact hq] at CT'
  have CT : Hid (∀ (w' : World) (hb : Below w.heap.size w w'), _) := CT'
  obtain ⟨S, HS⟩ : ∃ S, Hid (S = streamB key nonce 1 A) := ⟨_, rfl⟩
  have CS' := fun (w' : World) (hb : Below w.heap.size w w') => aturned_any key nonce A w' hk hc (by omega) (hP.below hb)
  rw [← HS.out] at CS'
  have CS : Hid (∀ (w' : World) (hb : Below w.heap.size w w'), _) := CS'
  rw [← HS.out]
  have tl : t.size ≤ 40000 := by omega
  have bl : b.size ≤ 40000 := by omega
  have m0 : (t.size : Int) - 16 ≤ 0 := by omega
  have m1 : ¬ ((0 : Int) < (t.size : Int) - 16) := by omega
  have m2 : max ((t.size : Int) - 16) 0 = 0 := by omega
  clear CK' CM' CT' CS' HK HM HS hP hY hq hn hs hAs
  subst hA hR
  cases q
  · skip
    go_enter Tryz.func22, Tryz.ntmps22
    go_wp2_with fail
    refine (C.out _).mono ?_
    rintro e w1 ⟨rfl, rfl⟩
    clear C
    go_wp2_with fail
    go_quiet (fail)
    go_wp2_with fail
    refine (CK.out _ (below_drewN (Below.refl _ _) _)).mono ?_
    rintro e w2 ⟨rfl, hb2⟩
    have hB2 : Below w1.heap.size w1 w2 := below_step (below_drewN (Below.refl _ _) _) (Nat.le_refl _) hb2
    clear CK hb2
    go_wp2_with fail
    refine (CM.out _).mono ?_
    rintro e w3 ⟨rfl, hb3⟩
    have hB3 := below_step hB2 (Nat.le_refl _) hb3
    clear CM hb3 hB2
    go_wp2_with fail
    refine (CT.out _ hB3).mono ?_
    rintro e w4 ⟨rfl, hB4⟩
    clear CT hB3
    go_wp2_with fail
    go_ret2
    exact ⟨rfl, hB4⟩
  · skip
    go_enter Tryz.func22, Tryz.ntmps22
    go_wp2_with fail
    refine (C.out _).mono ?_
    rintro e w1 ⟨rfl, rfl⟩
    clear C
    go_wp2_with fail
    go_quiet (fail)
    go_wp2_with fail
    refine (CK.out _ (below_drewN (Below.refl _ _) _)).mono ?_
    rintro e w2 ⟨rfl, hb2⟩
    have hB2 : Below w1.heap.size w1 w2 := below_step (below_drewN (Below.refl _ _) _) (Nat.le_refl _) hb2
    clear CK hb2
    go_wp2_with fail
    refine (CM.out _).mono ?_
    rintro e w3 ⟨rfl, hb3⟩
    have hB3 := below_step hB2 (Nat.le_refl _) hb3
    clear CM hb3 hB2
    go_wp2_with fail
    refine (CT.out _ hB3).mono ?_
    rintro e w4 ⟨rfl, hB4⟩
    clear CT hB3
    go_wp2_with fail
    refine (CS.out _ hB4).mono ?_
    rintro e w5 ⟨rfl, hb5⟩
    have hB5 := below_step hB4 (Nat.le_refl _) hb5
    clear CS hb5 hB4
    go_wp2_with fail
    go_ret2
    exact ⟨rfl, hB5⟩
theorem bytes_beq (a b : ByteArray) : (a.toList == b.toList) = decide (a = b) := by
  by_cases h : a = b
  · subst h; simp
  · have : ¬ a.toList = b.toList := fun e => h (bytes_ext (by rw [toList_data, toList_data] at e; exact e))
    simp [h, this]
theorem extract_no_a (t : ByteArray) : t.extract 0 0 = ByteArray.empty := by
  apply bytes_ext
  have h0 : (t.extract 0 0).data.size = 0 := by show (t.extract 0 0).size = 0; rw [ByteArray.size_extract]; omega
  rw [Array.eq_empty_of_size_eq_zero h0]; rfl
theorem extract_all_a (t : ByteArray) : t.extract 0 t.size = t :=
  bt_ext _ _ (by rw [ByteArray.size_extract]; omega) (fun i hi => by
    rw [ByteArray.size_extract] at hi
    rw [bt_extract _ 0 t.size i (by omega) (by omega), Nat.zero_add])
theorem aopen_both (key nonce b t : ByteArray) (w : World) (h : MayA key nonce b.size (cutA t)) (hP : GlobP w) (hY : GlobY w) :
    Calls Tryz.prog 22 #[.string key, .string nonce, .string b, .string t] w fun e w' =>
      (OpensA key nonce b t → e = .returned (.tuple #[.string (streamB key nonce 1 (t.extract 0 (cutA t))), .int .i64 0])) ∧ (¬ OpensA key nonce b t → e = .returned (.tuple #[.string ⟨#[]⟩, .int .i64 70])) ∧ Below w.heap.size w w' := by
  by_cases h16 : 16 < t.size
  · have hcut : cutA t = t.size - 16 := rfl
    refine (aopen_long key nonce b t _ _ (cutA t) _ w h.1 h.2.1 h.2.2 (by omega) (by omega) rfl rfl rfl hP hY).mono ?_
    rintro e w' ⟨rfl, hb⟩
    rw [bytes_beq]
    refine ⟨fun ho => ?_, fun ho => ?_, hb⟩
    · rw [decide_eq_true ho.2]; rfl
    · rw [decide_eq_false (fun e => ho ⟨by omega, e⟩)]; rfl
  · have h0 : cutA t = 0 := by unfold cutA; omega
    refine (aopen_short key nonce b t _ w h.1 h.2.1 (by have := h.2.2; omega) (by omega) rfl hP hY).mono ?_
    rintro e w' ⟨rfl, hb⟩
    rw [bytes_beq]
    unfold OpensA
    rw [h0, extract_no_a, extract_all_a]
    refine ⟨fun ho => ?_, fun ho => ?_, hb⟩
    · rw [decide_eq_true ho.2]; rfl
    · rw [decide_eq_false (fun e => ho ⟨by rw [← e, tagA_size]; decide, e⟩)]; rfl
theorem open_on (key nonce b t S : ByteArray) (hS : streamB key nonce 1 (t.extract 0 (cutA t)) = S) (w w' : World) (hP : GlobP w) (hY : GlobY w) (hb : Below w.heap.size w w') (h : MayA key nonce b.size (cutA t)) (ho : OpensA key nonce b t) :
    Calls Tryz.prog 22 #[.string key, .string nonce, .string b, .string t] w' fun e w'' => e = .returned (.tuple #[.string S, .int .i64 0]) ∧ Below w.heap.size w w'' := by
  subst hS
  refine (aopen_both key nonce b t w' h (hP.below hb) (hY.below hb)).mono ?_
  rintro e w'' ⟨h1, _, hb2⟩
  exact ⟨h1 ho, below_step hb (Nat.le_refl _) hb2⟩
end Go.Proofs.YtabhkebkbidfhaaGreatDoor

namespace Go.Proofs.YtabhkebkbidfhaaGreatDoor
open Go.RowKit
set_option maxRecDepth 100000
def Tabs (w : World) : Prop := (GlobB w ∧ GlobK w) ∧ GlobP w ∧ GlobY w
theorem Tabs.below {w w' : World} (h : Tabs w) (hb : Below w.heap.size w w') : Tabs w' := ⟨⟨h.1.1.below hb, h.1.2.below hb⟩, h.2.1.below hb, h.2.2.below hb⟩
end Go.Proofs.YtabhkebkbidfhaaGreatDoor
