/- A tag of which a bit is another one: plain facts. -/
import Derived.Test.YtjjafkjjehphjaaDoorL7
namespace Go.Proofs.YtjjafkjjehphjaaDoor
open Go.RowKit
set_option linter.unusedSimpArgs false

theorem xor_lt_a (a b : Nat) (ha : a < 256) (hb : b < 256) : a ^^^ b < 256 := Nat.xor_lt_two_pow (n := 8) ha hb
/-- A byte of M, turned. -/
def bentA (M : ByteArray) (j x i : Nat) : Nat := if i = j then x else bt M i
def bentB (M : ByteArray) (k c : Nat) : ByteArray := ⟨(bytesOf M.size (bentA M k (bt M k ^^^ c))).toArray⟩
theorem bentA_lt (M : ByteArray) (k c : Nat) (hc : c < 256) (i : Nat) : bentA M k (bt M k ^^^ c) i < 256 := by
  unfold bentA
  by_cases e : i = k
  · rw [if_pos e]; exact xor_lt_a _ _ (bt_lt M k) hc
  · rw [if_neg e]; exact bt_lt M i
theorem bentB_size (M : ByteArray) (k c : Nat) : (bentB M k c).size = M.size := by
  unfold bentB
  show (bytesOf M.size _).toArray.size = _
  rw [List.size_toArray, bytesOf_length]
theorem bt_bentB (M : ByteArray) (k c : Nat) (hc : c < 256) (i : Nat) (hi : i < M.size) : bt (bentB M k c) i = bentA M k (bt M k ^^^ c) i :=
  bt_bytesOf _ _ _ hi (bentA_lt M k c hc i)
theorem xor_self_a (a c : Nat) (h : a = a ^^^ c) : c = 0 := by
  have : a ^^^ a = a ^^^ (a ^^^ c) := by rw [← h]
  rw [Nat.xor_self, ← Nat.xor_assoc, Nat.xor_self, Nat.zero_xor] at this
  exact this.symm
theorem opens_bent (key nonce b s : ByteArray) (i c : Nat) (hi : i < 16) (hc : c < 256) (h0 : c ≠ 0) : ¬ OpensA key nonce b (bentB (sealB key nonce b s) (s.size + i) c) := by
  rintro ⟨_, h⟩
  obtain ⟨S, hS⟩ : ∃ S, S = sealB key nonce b s := ⟨_, rfl⟩
  have hSs : S.size = s.size + 16 := by rw [hS]; exact sealB_size _ _ _ _
  have ho := (opens_seal key nonce b s).1
  rw [← hS] at h ho
  have hcut : cutA S = s.size := by unfold cutA; omega
  have hcut2 : cutA (bentB S (s.size + i) c) = s.size := by unfold cutA; rw [bentB_size]; omega
  have h2 := ho.2
  rw [hcut2, bentB_size] at h
  rw [hcut] at h2
  have he : (bentB S (s.size + i) c).extract 0 s.size = S.extract 0 s.size := by
    refine bt_ext _ _ (by rw [ByteArray.size_extract, ByteArray.size_extract, bentB_size]) (fun j hj => ?_)
    rw [ByteArray.size_extract, bentB_size] at hj
    rw [bt_extract _ 0 s.size j (by omega) (by rw [bentB_size]; omega), bt_extract _ 0 s.size j (by omega) (by omega), Nat.zero_add, bt_bentB _ _ _ hc _ (by omega)]
    unfold bentA
    rw [if_neg (by omega)]
  rw [he, h2] at h
  have h4 : bt (S.extract s.size S.size) i = bt ((bentB S (s.size + i) c).extract s.size S.size) i := by rw [h]
  rw [bt_extract _ s.size S.size i (by omega) (by omega), bt_extract _ s.size S.size i (by omega) (by rw [bentB_size]; omega), bt_bentB _ _ _ hc _ (by omega)] at h4
  unfold bentA at h4
  rw [if_pos rfl] at h4
  exact h0 (xor_self_a _ _ h4)
theorem opens_less (key nonce b t : ByteArray) (h : t.size < 16) : ¬ OpensA key nonce b t := by
  rintro ⟨h1, _⟩
  omega
end Go.Proofs.YtjjafkjjehphjaaDoor
