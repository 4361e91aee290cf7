import Derived.Test.YtfajkkjppelgcaaL3
import Derived.Test.YtfajkkjppelgcaaG
import Derived.Room.AppendFits
/- Noughts behind a key; a long key's sum: plain facts. -/
namespace Go.Proofs.Ytfajkkjppelgcaa
open Go.RowKit
set_option maxRecDepth 100000
set_option linter.unusedSectionVars false
variable [Inhabited TabZ]

theorem bt_padded (key : ByteArray) (n : Nat) : bt (key ++ zeroB n) = bt key := by
  funext i
  by_cases h : i < key.size
  · exact bt_append_left _ _ i h
  · have e : i = key.size + (i - key.size) := by omega
    rw [e, bt_append_right, bt_zeroB, bt_out key _ (by omega)]
theorem macB_padded (key s : ByteArray) (n : Nat) (h : key.size + n ≤ 64) : macB (key ++ zeroB n) s = macB key s := by
  unfold macB
  rw [keyOf_short (key ++ zeroB n) (by rw [ByteArray.size_append, zeroB_size]; omega), keyOf_short key (by omega), bt_padded]
theorem macB_long (key s : ByteArray) (h : 64 < key.size) : macB (ofN (sumN key)) s = macB key s := by
  unfold macB
  rw [keyOf_short (ofN (sumN key)) (by rw [sumB_size]; omega), keyOf_long key h]
end Go.Proofs.Ytfajkkjppelgcaa

/- HKDF on plain texts: the parts, one behind the other. -/
namespace Go.Proofs.Ytfajkkjppelgcaa
open Go.RowKit
set_option maxRecDepth 100000
set_option linter.unusedSimpArgs false
set_option linter.unusedSectionVars false
variable [Inhabited TabZ]

/-- Part i; part 0 is empty. -/
def partB (key p : ByteArray) : Nat → ByteArray
  | 0 => ⟨#[]⟩
  | i + 1 => macB key (partB key p i ++ p ++ oneByte (i + 1))
/-- The first i parts. -/
def partsB (key p : ByteArray) : Nat → ByteArray
  | 0 => ⟨#[]⟩
  | i + 1 => partsB key p i ++ partB key p (i + 1)
def expandB (key p : ByteArray) (n : Nat) : ByteArray := (partsB key p ((n + 31) / 32)).extract 0 n

theorem partB_succ (key p : ByteArray) (i : Nat) : partB key p (i + 1) = macB key (partB key p i ++ p ++ oneByte (i + 1)) := rfl
theorem partsB_succ (key p : ByteArray) (i : Nat) : partsB key p (i + 1) = partsB key p i ++ partB key p (i + 1) := rfl
theorem partB_size (key p : ByteArray) (i : Nat) : (partB key p (i + 1)).size = 32 := macB_size _ _
theorem partB_le (key p : ByteArray) (i : Nat) : (partB key p i).size ≤ 32 := by
  cases i with
  | zero => exact Nat.zero_le _
  | succ i => rw [partB_size]; omega
theorem partsB_size (key p : ByteArray) (i : Nat) : (partsB key p i).size = 32 * i := by
  induction i with
  | zero => rfl
  | succ i ih => rw [partsB_succ, ByteArray.size_append, ih, partB_size]; omega
theorem expandB_size (key p : ByteArray) (n : Nat) : (expandB key p n).size = n := by
  unfold expandB; rw [ByteArray.size_extract, partsB_size]; omega

theorem bt_parts (key p : ByteArray) (i j : Nat) (h : j < 32 * i) : bt (partsB key p i) j = bt (partB key p (j / 32 + 1)) (j % 32) := by
  induction i with
  | zero => omega
  | succ i ih =>
    rw [partsB_succ]
    by_cases h1 : j < 32 * i
    · rw [bt_append_left _ _ _ (by rw [partsB_size]; exact h1), ih h1]
    · have e : j = (partsB key p i).size + (j - 32 * i) := by rw [partsB_size]; omega
      rw [e, bt_append_right, ← e, show j / 32 = i by omega, show j - 32 * i = j % 32 by omega]
theorem bt_expand (key p : ByteArray) (n j : Nat) (h : j < n) : bt (expandB key p n) j = bt (partB key p (j / 32 + 1)) (j % 32) := by
  unfold expandB
  rw [bt_extract _ 0 n j (by omega) (by rw [partsB_size]; omega), Nat.zero_add, bt_parts _ _ _ _ (by omega)]
/-- Fewer bytes are the first ones of more. -/
theorem expand_fewer (key p : ByteArray) (n m : Nat) (h : n ≤ m) : (expandB key p m).extract 0 n = expandB key p n := by
  apply bt_ext
  · rw [ByteArray.size_extract, expandB_size, expandB_size]; omega
  · intro i hi
    have hi' : i < n := by rw [ByteArray.size_extract, expandB_size] at hi; omega
    rw [bt_extract _ 0 n i (by omega) (by rw [expandB_size]; exact h), Nat.zero_add, bt_expand _ _ _ _ (by omega), bt_expand _ _ _ _ hi']
/-- A part of them. -/
theorem expand_part (key p : ByteArray) (n i : Nat) (h : 32 * i + 32 ≤ n) : (expandB key p n).extract (32 * i) (32 * i + 32) = partB key p (i + 1) := by
  apply bt_ext
  · rw [ByteArray.size_extract, expandB_size, partB_size]; omega
  · intro j hj
    have hj' : j < 32 := by rw [ByteArray.size_extract, expandB_size] at hj; omega
    rw [bt_extract _ (32 * i) (32 * i + 32) j (by omega) (by rw [expandB_size]; exact h), bt_expand _ _ _ _ (by omega), show (32 * i + j) / 32 = i by omega, show (32 * i + j) % 32 = j by omega]
/-! ### A row of bytes that the call appends texts to, within its room. -/

end Go.Proofs.Ytfajkkjppelgcaa

/- hkdf.Expand. -/
namespace Go.Proofs.Ytfajkkjppelgcaa
open Go.RowKit
set_option maxRecDepth 100000
set_option linter.unusedSimpArgs false
set_option linter.unusedSectionVars false
variable [Inhabited TabZ]

set_option maxHeartbeats 4000000 in
theorem expand_not (key p : ByteArray) (n : Int) (w : World) (hn : n < 0 ∨ 8160 < n) :
    Calls Try.prog 38 #[.string key, .string p, .int .i64 n] w fun e w' => e = .returned (.tuple #[.string ⟨#[]⟩, .int .i64 1]) ∧ Below w.heap.size w w' := by
  rcases hn with h | h
  · have g0 : decide (n < 0) = true := by simp; omega
    clear h
    go_enter Try.func38, Try.ntmps38
    go_wp2_with fail
    go_ret2
    exact ⟨rfl, Below.refl _ _⟩
  · have g0 : decide (n < 0) = false := by simp; omega
    have g1 : decide (8160 < n) = true := by simp; omega
    clear h
    go_enter Try.func38, Try.ntmps38
    go_wp2_with fail
    go_ret2
    exact ⟨rfl, Below.refl _ _⟩

set_option maxRecDepth 100000 in
set_option maxHeartbeats 4000000 in
theorem expand_ok (key p : ByteArray) (n : Nat) (w : World) (hk' : key.size ≤ 65536) (hp : p.size ≤ 65000) (hn : n ≤ 8160) (hB : GlobB w) (hK : GlobK w) :
    Calls Try.prog 38 #[.string key, .string p, .int .i64 (n : Int)] w fun e w' => e = .returned (.tuple #[.string (expandB key p n), .int .i64 0]) ∧ Below w.heap.size w w' := by
  have HB : Hid (GlobB w) := hB
  have HK : Hid (GlobK w) := hK
  obtain ⟨i0, hi, hz0, hz1, hz2⟩ := info_parts Try.info5
  obtain ⟨m, Hm⟩ : ∃ m, Hid (m = (n + 31) / 32) := ⟨_, rfl⟩
  have hm : m ≤ 255 := by rw [Hm.out]; omega
  have hnm : n ≤ 32 * m := by rw [Hm.out]; omega
  have hq : Int.tdiv ((n : Int) + 32 - 1) 32 = (m : Int) := by rw [Hm.out, Int.tdiv_eq_ediv_of_nonneg (by omega)]; omega
  have g0 : decide ((n : Int) < 0) = false := by simp
  have g1 : decide ((8160 : Int) < (n : Int)) = false := by simp; omega
  obtain ⟨E, HE⟩ : ∃ E, Hid (E = expandB key p n) := ⟨_, rfl⟩
  rw [← HE.out]
  clear hB hK
  go_enter Try.func38, Try.ntmps38
  go_wp2_with (at_make; refine wpList_make_own _ rfl _ _ 31 rfl w.heap.size 5 i0 (.int .u8 0) 1 Try.underlying31 hi hz0 hz1 _ _ _ (32 * m) rfl rfl ?b5 ?b1 ?b2 ?b3 ?_)
  case b5 => omega
  case b1 => rw [hz2]; omega
  case b2 => unfold maxLen; omega
  case b3 => omega
  intro w1 hown0 hgrow
  have hbl0 : Below w.heap.size w w1 := (Below.refl _ _).grown hgrow (Nat.le_refl _) (fun k hk => by cases hk)
  have HX : Hid (∀ k, (partB key p k).size ≤ 32) := partB_le key p
  clear hgrow
  go_wp2
  go_loopw [9, 10, 26] (fun a l i wr => ∃ k : Nat, k ≤ m ∧ i = .int .i64 k ∧ l = .string (partB key p k) ∧ a = .slice (some ⟨w.heap.size, 0, none⟩) (32 * k) (32 * m) ∧ wr.ownsRow w.heap.size 5 1 (.slice (some ⟨w.heap.size, 0, none⟩) (32 * k) (32 * m)) (32 * k) (Lib.strCells (partsB key p k)) ∧ Below w.heap.size w wr) (fun _ _ i _ => m - (intOf i).toNat)
  case atStart => exact ⟨0, Nat.zero_le _, rfl, rfl, rfl, hown0, hbl0⟩
  case round =>
    clear hown0 hbl0
    obtain ⟨k, hk, rfl, rfl, rfl, hown, hbl⟩ := hrel
    by_cases hlt : k < m
    · obtain ⟨T, hT⟩ : ∃ T, T = partB key p k := ⟨_, rfl⟩
      have hTs : T.size ≤ 32 := by rw [hT]; exact HX.out k
      have hcv : ∀ w : World, (convert 31 9 (.slice (some ⟨w.heap.size, 0, none⟩) 1 1)).run Try.prog (w.alloc (.cells #[.int .u8 ((k : Int) + 1)] 5)) = .ok (.string (oneByte (k + 1))) (w.alloc (.cells #[.int .u8 ((k : Int) + 1)] 5)) :=
        fun w => one_conv w (k + 1) (by omega) 5 31 9 Try.underlying31 Try.underlying5 Try.underlying9
      obtain ⟨U, hU⟩ : ∃ U, T ++ p = U := ⟨_, rfl⟩
      have hUs : U.size = T.size + p.size := by rw [← hU, ByteArray.size_append]
      obtain ⟨O, hO⟩ : ∃ O, O = oneByte (k + 1) := ⟨_, rfl⟩
      have hOs : O.size = 1 := by rw [hO]; rfl
      obtain ⟨V, hV⟩ : ∃ V, U ++ O = V := ⟨_, rfl⟩
      have hVs : V.size = U.size + O.size := by rw [← hV, ByteArray.size_append]
      have C : Hid (∀ w, GlobB w → GlobK w → _) := fun w => mac_any key V w hk' (by omega)
      obtain ⟨T', hT'⟩ : ∃ T', Hid (T' = partB key p (k + 1)) := ⟨_, rfl⟩
      have eT : macB key V = T' := by rw [hT'.out, partB_succ, ← hT, hU, ← hO, hV]
      have hTs' : T'.size = 32 := by rw [hT'.out]; exact partB_size _ _ _
      rw [eT] at C
      rw [← hO] at hcv
      have hsum1 : ¬ (9223372036854775807 < T.size + p.size) := by omega
      have hsum2 : ¬ (9223372036854775807 < U.size + O.size) := by omega
      rw [← hT]
      clear hO eT hT hVs hOs hUs
      go_wp2_with fail
      have hsz := hbl.size
      have hbx : Below w.heap.size w (wr.alloc (.cells #[.int .u8 ((k : Int) + 1)] 5)) := hbl.alloc hsz _
      have hox := World.ownsRow.alloc hown (.cells #[.int .u8 ((k : Int) + 1)] 5)
      generalize wr.alloc _ = wx at *
      clear hown hbl hsz
      refine (C.out _ (HB.out.below hbx) (HK.out.below hbx)).mono ?_
      rintro e w2 ⟨rfl, hb2⟩
      have hB2 := below_step hbx (Nat.le_refl _) hb2
      have ho2 := owns_below hox hb2 (Nat.lt_of_lt_of_le (owns_lt hox) (Nat.le_refl _))
      clear hox hbx hb2 C hcv
      go_wp2_with (at_builtin; refine Lib.wpList_append_fits_string _ rfl _ _ 31 9 rfl w.heap.size 5 i0 Try.underlying31 Try.underlying9 hi hz1 _ _ _ _ rfl ho2 T' rfl (by omega) (by omega) ?_)
      intro w3 ho3 hg3
      have hB3 : Below w.heap.size w w3 := hB2.grown hg3 hB2.size (fun k hk => by cases hk; exact Nat.le_refl _)
      rw [← strCells_append, show 32 * k + 32 = 32 * (k + 1) by omega] at ho3
      rw [show 32 * k + 32 = 32 * (k + 1) by omega]
      clear ho2 hB2 hg3
      go_wp2
      go_roundw
      case rel => exact ⟨k + 1, by omega, by go_num, by rw [hT'.out], rfl, by rw [partsB_succ, ← hT'.out]; exact ho3, hB3⟩
      case measure => simp [intOf]; omega
    · have hk' : k = m := by omega
      subst hk'
      have hcv := (row_of_owns hown).conv (P := Try.prog) (bt_lt _) n (32 * k) (by rw [partsB_size]; exact hnm) 31 9 Try.underlying31 Try.underlying5 Try.underlying9
      rw [bytesOf_extract _ n (by rw [partsB_size]; exact hnm), Hm.out] at hcv
      have hcv' : _ = Result.ok (Value.string (expandB key p n)) wr := hcv
      rw [← Hm.out, ← HE.out] at hcv'
      clear hcv
      clear hown
      go_wp2
      go_ret2
      exact ⟨rfl, hbl⟩
end Go.Proofs.Ytfajkkjppelgcaa

/- The reference's Expand and Extract; hkdf's Extract and Derive. -/
namespace Go.Proofs.Ytfajkkjppelgcaa
open Go.RowKit
set_option maxRecDepth 100000
set_option linter.unusedSimpArgs false
set_option linter.unusedSectionVars false
variable [Inhabited TabZ]

set_option maxHeartbeats 4000000 in
theorem extract_any (salt s : ByteArray) (w : World) (hk : salt.size ≤ 65536) (hs : s.size ≤ 65472) (hB : GlobB w) (hK : GlobK w) :
    Calls Try.prog 39 #[.string salt, .string s] w fun e w' => e = .returned (.string (macB salt s)) ∧ Below w.heap.size w w' := by
  have C1 : Hid (Calls _ _ _ _ _) := mac_any salt s w hk hs hB hK
  generalize macB salt s = M at *
  clear hB hK
  go_enter Try.func39, Try.ntmps39
  go_wp2_with fail
  refine C1.out.mono ?_
  rintro e w1 ⟨rfl, hb1⟩
  go_wp2_with fail
  go_ret
  exact ⟨rfl, hb1⟩

set_option maxHeartbeats 4000000 in
theorem derive_ok (salt s p : ByteArray) (n : Nat) (w : World) (hk : salt.size ≤ 65536) (hs : s.size ≤ 65472) (hp : p.size ≤ 65000) (hn : n ≤ 8160) (hB : GlobB w) (hK : GlobK w) :
    Calls Try.prog 35 #[.string salt, .string s, .string p, .int .i64 (n : Int)] w fun e w' => e = .returned (.tuple #[.string (expandB (macB salt s) p n), .int .i64 0]) ∧ Below w.heap.size w w' := by
  have HB : Hid (GlobB w) := hB
  have HK : Hid (GlobK w) := hK
  have C1 : Hid (Calls _ _ _ _ _) := extract_any salt s w hk hs hB hK
  have C2 : Hid (∀ w, GlobB w → GlobK w → _) := fun w => expand_ok (macB salt s) p n w (by rw [macB_size]; omega) hp hn
  generalize macB salt s = M at *
  generalize expandB M p n = E at *
  clear hB hK
  go_enter Try.func35, Try.ntmps35
  go_wp2_with fail
  refine C1.out.mono ?_
  rintro e w1 ⟨rfl, hb1⟩
  go_wp2_with fail
  refine (C2.out _ (HB.out.below hb1) (HK.out.below hb1)).mono ?_
  rintro e w2 ⟨rfl, hb2⟩
  have hB2 := below_step hb1 (Nat.le_refl _) hb2
  go_wp2_with fail
  go_ret2
  exact ⟨rfl, hB2⟩

theorem empty_append (s : ByteArray) : (⟨#[]⟩ : ByteArray) ++ s = s := by apply bytes_ext; simp
theorem macB_empty (s : ByteArray) : macB (zeroB 32) s = macB ⟨#[]⟩ s := by
  have h := macB_padded ⟨#[]⟩ s 32 (by decide)
  rwa [empty_append] at h
theorem size_nil (s : ByteArray) (h : s.size = 0) : s = ⟨#[]⟩ := by
  apply bytes_ext
  have h' : s.data.size = 0 := h
  rw [Array.eq_empty_of_size_eq_zero h']

end Go.Proofs.Ytfajkkjppelgcaa
