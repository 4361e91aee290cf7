/- StoreSpoilt: plain facts. -/
import Derived.Test.YtaakmcihpdbilaaGreatDoorSdC
namespace Go.Proofs.YtaakmcihpdbilaaGreatDoor
open Go.RowKit
set_option maxRecDepth 100000
set_option linter.unusedSimpArgs false
set_option linter.unusedVariables false
set_option maxRecDepth 100000

theorem xor_lt_s (a b : Nat) (ha : a < 256) (hb : b < 256) : a ^^^ b < 256 := Nat.xor_lt_two_pow (n := 8) ha hb
theorem u8_xor_s (a b : Nat) (ha : a < 256) (hb : b < 256) : bits .xor .u8 (a : Int) (b : Int) = ((a ^^^ b : Nat) : Int) := by
  have h := xor_lt_s a b ha hb
  have e1 := bits_xor_byte (UInt8.ofNat a) (UInt8.ofNat b)
  rw [UInt8.toNat_xor] at e1
  simp only [UInt8.toNat_ofNat'] at e1
  rw [Nat.mod_eq_of_lt (by omega), Nat.mod_eq_of_lt (by omega)] at e1
  exact e1
theorem bit_s (j : Nat) (h : j < 8) : 2 ^ j < 256 ∧ 2 ^ j ≠ 0 ∧ IntKind.u8.wrap ((2 : Int) ^ j) = ((2 ^ j : Nat) : Int) :=
  (show ∀ j : Fin 8, 2 ^ j.1 < 256 ∧ 2 ^ j.1 ≠ 0 ∧ IntKind.u8.wrap ((2 : Int) ^ j.1) = ((2 ^ j.1 : Nat) : Int) by decide) ⟨j, h⟩
theorem xor_self_s (a c : Nat) (h : a = a ^^^ c) : c = 0 := by
  have : a ^^^ a = a ^^^ (a ^^^ c) := by rw [← h]
  rw [Nat.xor_self, ← Nat.xor_assoc, Nat.xor_self, Nat.zero_xor] at this
  exact this.symm
/-- A byte of M, turned. -/
def bentF (M : ByteArray) (j x i : Nat) : Nat := if i = j then x else bt M i
def bentS (M : ByteArray) (k c : Nat) : ByteArray := ⟨(bytesOf M.size (bentF M k (bt M k ^^^ c))).toArray⟩
theorem bentF_lt (M : ByteArray) (k c : Nat) (hc : c < 256) (i : Nat) : bentF M k (bt M k ^^^ c) i < 256 := by
  unfold bentF
  by_cases e : i = k
  · rw [if_pos e]; exact xor_lt_s _ _ (bt_lt M k) hc
  · rw [if_neg e]; exact bt_lt M i
theorem bentS_size (M : ByteArray) (k c : Nat) : (bentS M k c).size = M.size := by
  unfold bentS
  show (bytesOf M.size _).toArray.size = _
  rw [List.size_toArray, bytesOf_length]
theorem bt_bentS (M : ByteArray) (k c : Nat) (hc : c < 256) (i : Nat) (hi : i < M.size) : bt (bentS M k c) i = bentF M k (bt M k ^^^ c) i :=
  bt_bytesOf _ _ _ hi (bentF_lt M k c hc i)

theorem lay_onD (D : DevT) (X : StoT) (t : ByteArray) (h : OnD D) : OnD (layS D X t).1 := by
  unfold layS
  split
  · exact h
  · simp only
    split
    · exact (writesP_on _ _ _ _ h).2
    · exact (writesP_on _ _ _ _ h).2

/-- What a store of eight blocks has behind Lay. -/
theorem spoilt_lay (D : DevT) (X : StoT) (t : ByteArray) (D1 : DevT) (X1 : StoT) (hl8 : D.1.length = 8) (h0 : 0 ≤ X.2.2.1) (hq : layS D X t = (D1, X1, 0)) :
    ∃ turn : Nat, X1 = (t, [], (turn : Int), txB t) ∧ 1 ≤ turn ∧ turn ≤ 1099511627775 ∧ (txB t).size ≤ 192 ∧ strL D1.1 (turn % 2 * 4) = hdB (turn : Int) (txB t) ∧ ∀ i, i < (txB t).size → bt (strL D1.1 (turn % 2 * 4 + 1 + i / 64)) (i % 64) = bt (txB t) i := by
  unfold layS at hq
  split at hq
  · cases hq
  · rename_i hc
    simp only at hq
    split at hq
    · rename_i hz
      have hr : (t.size + 2 + 63) / 64 + 1 ≤ D.1.length / 2 := by
        rcases Nat.lt_or_ge (D.1.length / 2) ((t.size + 2 + 63) / 64 + 1) with h | h
        · exact absurd (.inr (.inr (by omega))) hc
        · exact h
      have ht : ¬ 1099511627775 ≤ X.2.2.1 := fun e => hc (.inr (.inl e))
      obtain ⟨turn, htn⟩ : ∃ turn, (X.2.2.1 + 1).toNat = turn := ⟨_, rfl⟩
      rw [htn] at hz hq
      have hsz := txB_size t
      have h9 := (writesP_list D turn 0 (txB t) (Nat.zero_le _) (by rw [hsz]; exact hr)).1 hz
      injection hq with hq1 hq2
      injection hq2 with hq2 _
      rw [hq1, hl8] at h9
      rw [hl8] at hr
      refine ⟨turn, ?_, by omega, by omega, by rw [hsz]; omega, ?_, fun i hi => ?_⟩
      · rw [← hq2, show X.2.2.1 + 1 = (turn : Int) by omega]
      · rw [h9, if_pos rfl]
      · rw [h9, if_neg (by omega), if_pos (by rw [hsz] at hi ⊢; omega), show turn % 2 * 4 + 1 + i / 64 - (turn % 2 * (8 / 2) + 1) = i / 64 by omega, blkB_bt (txB t) (i / 64) (i % 64) (by omega) (by rw [filB_size]; omega), filB_bt _ _ (by omega), show 64 * (i / 64) + i % 64 = i by omega]
    · rename_i hz
      injection hq with _ hq2
      injection hq2 with _ hq3
      exact absurd hq3 hz

/-- With a byte of its last head another one, the turn is none. -/
theorem spoilt_open (L : List ByteArray) (turn j c : Nat) (t : ByteArray) (hl8 : L.length = 8) (h64 : AllB L) (h1 : 1 ≤ turn) (hs : (txB t).size ≤ 192) (hd : strL L (turn % 2 * 4) = hdB (turn : Int) (txB t)) (hb : ∀ i, i < (txB t).size → bt (strL L (turn % 2 * 4 + 1 + i / 64)) (i % 64) = bt (txB t) i) (hj : j < 6 ∨ (12 ≤ j ∧ j < 20)) (hc : c < 256) (hc0 : c ≠ 0) :
    (openP (L.set (turn % 2 * 4) (bentS (hdB (turn : Int) (txB t)) j c))).2.2.1 ≠ (turn : Int) := by
  have hsz : (hdB (turn : Int) (txB t)).size = 64 := hdB_size _ _
  have hk : turn % 2 * 4 < L.length := by omega
  have hl : (L.set (turn % 2 * 4) (bentS (hdB (turn : Int) (txB t)) j c)).length = 8 := by rw [List.length_set]; exact hl8
  refine spoilt18 (wh := turn % 2) (j := j) (T := txB t) (H' := bentS (hdB (turn : Int) (txB t)) j c) (by omega) (by omega) (fun i hi => ?_) h1 rfl (by omega) ?_ (fun i hi => ?_) hj ?_ (fun i hi hij => ?_)
  · rw [strL_set18 _ _ _ _ hk]
    rw [hl] at hi
    split
    · rw [bentS_size]; exact hsz
    · exact h64 i (by omega)
  · rw [hl, strL_set18 _ _ _ _ hk]
    exact if_pos rfl
  · rw [hl, strL_set18 _ _ _ _ hk, if_neg (by omega)]
    exact hb i hi
  · rw [bt_bentS _ _ _ hc _ (by omega)]
    unfold bentF
    rw [if_pos rfl]
    exact fun e => hc0 (xor_self_s _ _ e.symm)
  · rw [bt_bentS _ _ _ hc _ (by omega)]
    unfold bentF
    rw [if_neg hij]

end Go.Proofs.YtaakmcihpdbilaaGreatDoor
