/- A text padded and unpadded, on plain data (layer 14). -/
import Derived.Test.YtjijkhahmgikoaaDoorRPdC
namespace Go.Proofs.YtjijkhahmgikoaaDoor
open Go.RowKit
set_option linter.unusedSimpArgs false

theorem lastF_zero (s : ByteArray) : ∀ (k j : Nat), lastF s k ≤ j → j < k → bt s j = 0 := by
  intro k
  induction k with
  | zero => intro j _ h; omega
  | succ k ih =>
    intro j h1 h2
    unfold lastF at h1
    by_cases hb : bt s k = 0
    · rw [if_pos hb] at h1
      by_cases e : j = k
      · rw [e]; exact hb
      · exact ih j h1 (by omega)
    · rw [if_neg hb] at h1; omega

theorem lastF_le (s : ByteArray) : ∀ k, lastF s k ≤ k := by
  intro k
  induction k with
  | zero => exact Nat.le_refl _
  | succ k ih =>
    unfold lastF
    split
    · omega
    · omega

theorem lastF_at (s : ByteArray) (n : Nat) (hn : bt s n ≠ 0) (h0 : ∀ j, n < j → bt s j = 0) : ∀ i, lastF s (n + 1 + i) = n + 1 := by
  intro i
  induction i with
  | zero => show (if bt s n = 0 then lastF s n else n + 1) = _; rw [if_neg hn]
  | succ i ih =>
    show (if bt s (n + 1 + i) = 0 then lastF s (n + 1 + i) else n + 1 + i + 1) = _
    rw [if_pos (h0 _ (by omega)), ih]

theorem pad_size (s : ByteArray) (h : s.size < 16384) : ((s ++ (⟨#[128]⟩ : ByteArray)) ++ zeroB (sizeN s.size - 1 - s.size)).size = sizeN s.size := by
  have := sizeN_is s.size h
  rw [ByteArray.size_append, ByteArray.size_append, zeroB_size]
  show s.size + 1 + _ = _
  omega

theorem bt_one : bt (⟨#[128]⟩ : ByteArray) 0 = 128 := rfl

theorem bt_pad (s : ByteArray) (m j : Nat) : bt ((s ++ (⟨#[128]⟩ : ByteArray)) ++ zeroB m) j = if j < s.size then bt s j else if j = s.size then 128 else 0 := by
  have hz : (s ++ (⟨#[128]⟩ : ByteArray)).size = s.size + 1 := by rw [ByteArray.size_append]; rfl
  by_cases h1 : j < s.size
  · rw [if_pos h1, bt_append_left _ _ _ (by omega), bt_append_left _ _ _ h1]
  · rw [if_neg h1]
    by_cases h2 : j = s.size
    · rw [if_pos h2, bt_append_left _ _ _ (by omega)]
      have := bt_append_right s (⟨#[128]⟩ : ByteArray) 0
      rw [Nat.add_zero] at this
      rw [h2, this]
      exact bt_one
    · rw [if_neg h2]
      obtain ⟨d, hd⟩ : ∃ d, j = s.size + 1 + d := ⟨j - (s.size + 1), by omega⟩
      have := bt_append_right (s ++ (⟨#[128]⟩ : ByteArray)) (zeroB m) d
      rw [hz] at this
      rw [hd, this, bt_zeroB]

theorem sizeE_of (n : Nat) (h : n < 16384) : sizeE (n : Int) = ((sizeN n : Int), 0) := by unfold sizeE; rw [if_pos (by omega), Int.toNat_natCast]

/-- What is padded is unpadded as it was. -/
theorem unpad_pad (s : ByteArray) (h : s.size < 16384) : padP s = ((s ++ ⟨#[128]⟩) ++ zeroB (sizeN s.size - 1 - s.size), 0) ∧ unpadP (padP s).1 = (s, 0) := by
  have hp : padP s = ((s ++ ⟨#[128]⟩) ++ zeroB (sizeN s.size - 1 - s.size), 0) := by unfold padP; rw [if_pos h]
  refine ⟨hp, ?_⟩
  rw [hp]
  simp only
  have hsz := pad_size s h
  have hN := sizeN_is s.size h
  have hbt := bt_pad s (sizeN s.size - 1 - s.size)
  generalize hA : (s ++ (⟨#[128]⟩ : ByteArray)) ++ zeroB (sizeN s.size - 1 - s.size) = A at *
  have h8 : bt A s.size = 128 := by rw [hbt, if_neg (by omega), if_pos rfl]
  have hl : lastF A A.size = s.size + 1 := by
    rw [hsz, show sizeN s.size = s.size + 1 + (sizeN s.size - 1 - s.size) by omega]
    exact lastF_at A s.size (by omega) (fun j hj => by rw [hbt, if_neg (by omega), if_neg (by omega)]) _
  unfold unpadP
  rw [hl, show s.size + 1 - 1 = s.size by omega, if_neg (by rw [h8]; simp), sizeE_of _ h, hsz, if_neg (by simp)]
  congr 1
  refine bt_ext _ _ (by rw [ByteArray.size_extract]; omega) (fun j hj => ?_)
  have hj' : j < s.size := by rw [ByteArray.size_extract] at hj; omega
  rw [bt_extract A 0 s.size j (by omega) (by omega), Nat.zero_add, hbt, if_pos hj']

/-- What is unpadded is padded as the same. -/
theorem pad_unpad (t s : ByteArray) (h : unpadP t = (s, 0)) : padP s = (t, 0) ∧ s.size < 16384 := by
  unfold unpadP at h
  obtain ⟨L, hL⟩ : ∃ L, lastF t t.size = L := ⟨_, rfl⟩
  have hle := lastF_le t t.size
  have hz := lastF_zero t t.size
  rw [hL] at h hle hz
  by_cases h1 : L = 0 ∨ bt t (L - 1) ≠ 128
  · rw [if_pos h1] at h; cases h
  · rw [if_neg h1] at h
    by_cases h2 : (sizeE ((L - 1 : Nat) : Int)).2 ≠ 0 ∨ (sizeE ((L - 1 : Nat) : Int)).1 ≠ (t.size : Int)
    · rw [if_pos h2] at h; cases h
    · rw [if_neg h2] at h
      have hs : t.extract 0 (L - 1) = s := congrArg Prod.fst h
      have h0 : L ≠ 0 := fun e => h1 (.inl e)
      have h8 : bt t (L - 1) = 128 := Classical.byContradiction fun e => h1 (.inr e)
      have he : (sizeE ((L - 1 : Nat) : Int)).2 = 0 := Classical.byContradiction fun e => h2 (.inl e)
      have ha : (sizeE ((L - 1 : Nat) : Int)).1 = (t.size : Int) := Classical.byContradiction fun e => h2 (.inr e)
      have hlt : L - 1 < 16384 := by
        rcases Nat.lt_or_ge (L - 1) 16384 with k | k
        · exact k
        · unfold sizeE at he
          rw [if_neg (by omega)] at he
          cases he
      rw [sizeE_of _ hlt] at ha
      have ha' : sizeN (L - 1) = t.size := by have k : ((sizeN (L - 1) : Nat) : Int) = (t.size : Int) := ha; omega
      have hss : s.size = L - 1 := by rw [← hs, ByteArray.size_extract]; omega
      refine ⟨?_, by omega⟩
      have hp : padP s = ((s ++ ⟨#[128]⟩) ++ zeroB (sizeN (L - 1) - 1 - (L - 1)), 0) := by unfold padP; rw [hss, if_pos hlt]
      rw [hp]
      refine Prod.ext ?_ rfl
      refine bt_ext _ _ (by have := pad_size s (by omega); rw [hss] at this; rw [this, ha']) (fun j hj => ?_)
      rw [bt_pad]
      by_cases k1 : j < s.size
      · rw [if_pos k1, ← hs, bt_extract t 0 (L - 1) j (by omega) (by omega), Nat.zero_add]
      · rw [if_neg k1]
        by_cases k2 : j = s.size
        · rw [if_pos k2, k2, hss, h8]
        · rw [if_neg k2]
          have hj2 : j < t.size := by
            have := pad_size s (by omega)
            rw [hss] at this
            rw [this] at hj
            omega
          exact (hz j (by omega) hj2).symm

theorem upS_ge (n : Nat) : ∀ (f s : Nat), s ≤ upS f s n := by
  intro f
  induction f with
  | zero => intro s; exact Nat.le_refl _
  | succ f ih =>
    intro s
    unfold upS
    split
    · have := ih (2 * s); omega
    · exact Nat.le_refl _

theorem upS_mono (a b : Nat) (h : a ≤ b) : ∀ (f s : Nat), upS f s a ≤ upS f s b := by
  intro f
  induction f with
  | zero => intro s; exact Nat.le_refl _
  | succ f ih =>
    intro s
    unfold upS
    by_cases h1 : s ≤ a
    · rw [if_pos h1, if_pos (by omega)]; exact ih _
    · rw [if_neg h1]
      split
      · have := upS_ge b f (2 * s); omega
      · exact Nat.le_refl _

theorem sizeN_mono (a b : Nat) (h : a ≤ b) : sizeN a ≤ sizeN b := upS_mono a b h 9 64

theorem sizeN_one (n : Nat) (h : n < 16384) : sizeN n = 64 ∨ sizeN n = 128 ∨ sizeN n = 256 ∨ sizeN n = 512 ∨ sizeN n = 1024 ∨ sizeN n = 2048 ∨ sizeN n = 4096 ∨ sizeN n = 8192 ∨ sizeN n = 16384 := by
  unfold sizeN
  simp only [upS]
  repeat' split
  all_goals omega

/-- Texts that are padded alike are the same. -/
theorem pad_inj (a b : ByteArray) (ha : a.size < 16384) (hb : b.size < 16384) (h : (padP a).1 = (padP b).1) : a = b := by
  have h1 := (unpad_pad a ha).2
  have h2 := (unpad_pad b hb).2
  rw [h, h2] at h1
  exact (congrArg Prod.fst h1).symm

theorem pad_full (s : ByteArray) (h : ¬ s.size < 16384) : padP s = (⟨#[]⟩, 2) := by unfold padP; rw [if_neg h]
end Go.Proofs.YtjijkhahmgikoaaDoor
