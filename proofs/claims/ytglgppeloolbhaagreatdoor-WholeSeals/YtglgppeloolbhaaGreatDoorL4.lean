import Derived.Test.YtglgppeloolbhaaGreatDoorL3
import Derived.Test.YtglgppeloolbhaaGreatDoorG
import Derived.Room.AppendFits
/- Noughts behind a key; a long key's sum: plain facts. -/
namespace Go.Proofs.YtglgppeloolbhaaGreatDoor
open Go.RowKit
set_option maxRecDepth 100000

theorem bt_padded (key : ByteArray) (n : Nat) : bt (key ++ zeroB n) = bt key := by
  funext i
  by_cases h : i < key.size
  · exact bt_append_left _ _ i h
  · have e : i = key.size + (i - key.size) := by omega
    rw [e, bt_append_right, bt_zeroB, bt_out key _ (by omega)]
theorem macB_padded (key s : ByteArray) (n : Nat) (h : key.size + n ≤ 64) : macB (key ++ zeroB n) s = macB key s := by
  unfold macB
  rw [keyOf_short (key ++ zeroB n) (by rw [ByteArray.size_append, zeroB_size]; omega), keyOf_short key (by omega), bt_padded]
end Go.Proofs.YtglgppeloolbhaaGreatDoor

/- HKDF on plain texts: the parts, one behind the other. -/
namespace Go.Proofs.YtglgppeloolbhaaGreatDoor
open Go.RowKit
set_option maxRecDepth 100000
set_option linter.unusedSimpArgs false

/-- Part i; part 0 is empty. -/
def partB (key p : ByteArray) : Nat → ByteArray
  | 0 => ⟨#[]⟩
  | i + 1 => macB key (partB key p i ++ p ++ oneByte (i + 1))
/-- The first i parts. -/
def partsB (key p : ByteArray) : Nat → ByteArray
  | 0 => ⟨#[]⟩
  | i + 1 => partsB key p i ++ partB key p (i + 1)
def expandB (key p : ByteArray) (n : Nat) : ByteArray := (partsB key p ((n + 31) / 32)).extract 0 n

theorem partB_succ (key p : ByteArray) (i : Nat) : partB key p (i + 1) = macB key (partB key p i ++ p ++ oneByte (i + 1)) := rfl
theorem partsB_succ (key p : ByteArray) (i : Nat) : partsB key p (i + 1) = partsB key p i ++ partB key p (i + 1) := rfl
theorem partB_size (key p : ByteArray) (i : Nat) : (partB key p (i + 1)).size = 32 := macB_size _ _
theorem partB_le (key p : ByteArray) (i : Nat) : (partB key p i).size ≤ 32 := by
  cases i with
  | zero => exact Nat.zero_le _
  | succ i => rw [partB_size]; omega
theorem partsB_size (key p : ByteArray) (i : Nat) : (partsB key p i).size = 32 * i := by
  induction i with
  | zero => rfl
  | succ i ih => rw [partsB_succ, ByteArray.size_append, ih, partB_size]; omega
theorem expandB_size (key p : ByteArray) (n : Nat) : (expandB key p n).size = n := by
  unfold expandB; rw [ByteArray.size_extract, partsB_size]; omega

/-! ### A row of bytes that the call appends texts to, within its room. -/

end Go.Proofs.YtglgppeloolbhaaGreatDoor

/- hkdf.Expand. -/
namespace Go.Proofs.YtglgppeloolbhaaGreatDoor
open Go.RowKit
set_option maxRecDepth 100000
set_option linter.unusedSimpArgs false

set_option maxRecDepth 100000 in
set_option maxHeartbeats 4000000 in
theorem expand_ok (key p : ByteArray) (n : Nat) (w : World) (hk' : key.size ≤ 65536) (hp : p.size ≤ 65000) (hn : n ≤ 8160) (hB : GlobB w) (hK : GlobK w) :
    Calls Tryz.prog 8 #[.string key, .string p, .int .i64 (n : Int)] w fun e w' => e = .returned (.tuple #[.string (expandB key p n), .int .i64 0]) ∧ Below w.heap.size w w' := by
  have HB : Hid (GlobB w) := hB
  have HK : Hid (GlobK w) := hK
  obtain ⟨i0, hi, hz0, hz1, hz2⟩ := info_parts Tryz.info5
  obtain ⟨m, Hm⟩ : ∃ m, Hid (m = (n + 31) / 32) := ⟨_, rfl⟩
  have hm : m ≤ 255 := by rw [Hm.out]; omega
  have hnm : n ≤ 32 * m := by rw [Hm.out]; omega
  have hq : Int.tdiv ((n : Int) + 32 - 1) 32 = (m : Int) := by rw [Hm.out, Int.tdiv_eq_ediv_of_nonneg (by omega)]; omega
  have g0 : decide ((n : Int) < 0) = false := by simp
  have g1 : decide ((8160 : Int) < (n : Int)) = false := by simp; omega
  obtain ⟨E, HE⟩ : ∃ E, Hid (E = expandB key p n) := ⟨_, rfl⟩
  rw [← HE.out]
  clear hB hK
  go_enter Tryz.func8, Tryz.ntmps8
  go_wp2_with (at_make; refine wpList_make_own _ rfl _ _ 35 rfl w.heap.size 5 i0 (.int .u8 0) 1 Tryz.underlying35 hi hz0 hz1 _ _ _ (32 * m) rfl rfl ?b5 ?b1 ?b2 ?b3 ?_)
  case b5 => omega
  case b1 => rw [hz2]; omega
  case b2 => unfold maxLen; omega
  case b3 => omega
  intro w1 hown0 hgrow
  have hbl0 : Below w.heap.size w w1 := (Below.refl _ _).grown hgrow (Nat.le_refl _) (fun k hk => by cases hk)
  have HX : Hid (∀ k, (partB key p k).size ≤ 32) := partB_le key p
  clear hgrow
  go_wp2
  go_loopw [9, 10, 26] (fun a l i wr => ∃ k : Nat, k ≤ m ∧ i = .int .i64 k ∧ l = .string (partB key p k) ∧ a = .slice (some ⟨w.heap.size, 0, none⟩) (32 * k) (32 * m) ∧ wr.ownsRow w.heap.size 5 1 (.slice (some ⟨w.heap.size, 0, none⟩) (32 * k) (32 * m)) (32 * k) (Lib.strCells (partsB key p k)) ∧ Below w.heap.size w wr) (fun _ _ i _ => m - (intOf i).toNat)
  case atStart => exact ⟨0, Nat.zero_le _, rfl, rfl, rfl, hown0, hbl0⟩
  case round =>
    clear hown0 hbl0
    obtain ⟨k, hk, rfl, rfl, rfl, hown, hbl⟩ := hrel
    by_cases hlt : k < m
    · obtain ⟨T, hT⟩ : ∃ T, T = partB key p k := ⟨_, rfl⟩
      have hTs : T.size ≤ 32 := by rw [hT]; exact HX.out k
      have hcv : ∀ w : World, (convert 35 9 (.slice (some ⟨w.heap.size, 0, none⟩) 1 1)).run Tryz.prog (w.alloc (.cells #[.int .u8 ((k : Int) + 1)] 5)) = .ok (.string (oneByte (k + 1))) (w.alloc (.cells #[.int .u8 ((k : Int) + 1)] 5)) :=
        fun w => one_conv w (k + 1) (by omega) 5 35 9 Tryz.underlying35 Tryz.underlying5 Tryz.underlying9
      obtain ⟨U, hU⟩ : ∃ U, T ++ p = U := ⟨_, rfl⟩
      have hUs : U.size = T.size + p.size := by rw [← hU, ByteArray.size_append]
      obtain ⟨O, hO⟩ : ∃ O, O = oneByte (k + 1) := ⟨_, rfl⟩
      have hOs : O.size = 1 := by rw [hO]; rfl
      obtain ⟨V, hV⟩ : ∃ V, U ++ O = V := ⟨_, rfl⟩
      have hVs : V.size = U.size + O.size := by rw [← hV, ByteArray.size_append]
      have C : Hid (∀ w, GlobB w → GlobK w → _) := fun w => mac_any key V w hk' (by omega)
      obtain ⟨T', hT'⟩ : ∃ T', Hid (T' = partB key p (k + 1)) := ⟨_, rfl⟩
      have eT : macB key V = T' := by rw [hT'.out, partB_succ, ← hT, hU, ← hO, hV]
      have hTs' : T'.size = 32 := by rw [hT'.out]; exact partB_size _ _ _
      rw [eT] at C
      rw [← hO] at hcv
      have hsum1 : ¬ (9223372036854775807 < T.size + p.size) := by omega
      have hsum2 : ¬ (9223372036854775807 < U.size + O.size) := by omega
      rw [← hT]
      clear hO eT hT hVs hOs hUs
      go_wp2_with fail
      have hsz := hbl.size
      have hbx : Below w.heap.size w (wr.alloc (.cells #[.int .u8 ((k : Int) + 1)] 5)) := hbl.alloc hsz _
      have hox := World.ownsRow.alloc hown (.cells #[.int .u8 ((k : Int) + 1)] 5)
      generalize wr.alloc _ = wx at *
      clear hown hbl hsz
      refine (C.out _ (HB.out.below hbx) (HK.out.below hbx)).mono ?_
      rintro e w2 ⟨rfl, hb2⟩
      have hB2 := below_step hbx (Nat.le_refl _) hb2
      have ho2 := owns_below hox hb2 (Nat.lt_of_lt_of_le (owns_lt hox) (Nat.le_refl _))
      clear hox hbx hb2 C hcv
      go_wp2_with (at_builtin; refine Lib.wpList_append_fits_string _ rfl _ _ 35 9 rfl w.heap.size 5 i0 Tryz.underlying35 Tryz.underlying9 hi hz1 _ _ _ _ rfl ho2 T' rfl (by omega) (by omega) ?_)
      intro w3 ho3 hg3
      have hB3 : Below w.heap.size w w3 := hB2.grown hg3 hB2.size (fun k hk => by cases hk; exact Nat.le_refl _)
      rw [← strCells_append, show 32 * k + 32 = 32 * (k + 1) by omega] at ho3
      rw [show 32 * k + 32 = 32 * (k + 1) by omega]
      clear ho2 hB2 hg3
      go_wp2
      go_roundw
      case rel => exact ⟨k + 1, by omega, by go_num, by rw [hT'.out], rfl, by rw [partsB_succ, ← hT'.out]; exact ho3, hB3⟩
      case measure => simp [intOf]; omega
    · have hk' : k = m := by omega
      subst hk'
      have hcv := (row_of_owns hown).conv (P := Tryz.prog) (bt_lt _) n (32 * k) (by rw [partsB_size]; exact hnm) 35 9 Tryz.underlying35 Tryz.underlying5 Tryz.underlying9
      rw [bytesOf_extract _ n (by rw [partsB_size]; exact hnm), Hm.out] at hcv
      have hcv' : _ = Result.ok (Value.string (expandB key p n)) wr := hcv
      rw [← Hm.out, ← HE.out] at hcv'
      clear hcv
      clear hown
      go_wp2
      go_ret2
      exact ⟨rfl, hbl⟩
end Go.Proofs.YtglgppeloolbhaaGreatDoor

/- The reference's Expand and Extract; hkdf's Extract and Derive. -/
namespace Go.Proofs.YtglgppeloolbhaaGreatDoor
open Go.RowKit
set_option maxRecDepth 100000
set_option linter.unusedSimpArgs false

set_option maxRecDepth 100000 in
set_option maxHeartbeats 4000000 in
theorem rexpand_ok (key p : ByteArray) (n : Nat) (w : World) (hk' : key.size ≤ 65536) (hp : p.size ≤ 65000) (hn : n ≤ 8160) :
    Calls Tryz.prog 18 #[.string key, .string p, .int .i64 (n : Int)] w fun e w' => e = .returned (.tuple #[.string (expandB key p n), .int .i64 0]) ∧ Below w.heap.size w w' := by
  obtain ⟨m, Hm⟩ : ∃ m, Hid (m = (n + 31) / 32) := ⟨_, rfl⟩
  have hm : m ≤ 255 := by rw [Hm.out]; omega
  have hnm : n ≤ 32 * m := by rw [Hm.out]; omega
  have g0 : decide ((n : Int) < 0) = false := by simp
  have g1 : decide ((8160 : Int) < (n : Int)) = false := by simp; omega
  obtain ⟨E, HE⟩ : ∃ E, Hid (E = expandB key p n) := ⟨_, rfl⟩
  rw [← HE.out]
  have HX : Hid (∀ k, (partB key p k).size ≤ 32) := partB_le key p
  go_enter Tryz.func18, Tryz.ntmps18
  go_wp2
  go_loopw [8, 9, 10] (fun a l i wr => ∃ k : Nat, k ≤ m ∧ i = .int .i64 ((k : Int) + 1) ∧ l = .string (partB key p k) ∧ a = .string (partsB key p k) ∧ Below w.heap.size w wr) (fun _ _ i _ => m + 1 - (intOf i).toNat)
  case atStart => exact ⟨0, Nat.zero_le _, rfl, rfl, rfl, Below.refl _ _⟩
  case round =>
    obtain ⟨k, hk, rfl, rfl, rfl, hbl⟩ := hrel
    obtain ⟨X, HX'⟩ : ∃ X, Hid (X = partsB key p k) := ⟨_, rfl⟩
    have hXs : X.size = 32 * k := by rw [HX'.out]; exact partsB_size _ _ _
    rw [← HX'.out]
    by_cases hlt : k < m
    · have g2 : decide (X.size < n) = true := by simp; have := Hm.out; omega
      obtain ⟨T, hT⟩ : ∃ T, T = partB key p k := ⟨_, rfl⟩
      have hTs : T.size ≤ 32 := by rw [hT]; exact HX.out k
      have hcv : ∀ w : World, (convert 35 9 (.slice (some ⟨w.heap.size, 0, none⟩) 1 1)).run Tryz.prog (w.alloc (.cells #[.int .u8 ((k : Int) + 1)] 5)) = .ok (.string (oneByte (k + 1))) (w.alloc (.cells #[.int .u8 ((k : Int) + 1)] 5)) :=
        fun w => one_conv w (k + 1) (by omega) 5 35 9 Tryz.underlying35 Tryz.underlying5 Tryz.underlying9
      obtain ⟨U, hU⟩ : ∃ U, T ++ p = U := ⟨_, rfl⟩
      have hUs : U.size = T.size + p.size := by rw [← hU, ByteArray.size_append]
      obtain ⟨O, hO⟩ : ∃ O, O = oneByte (k + 1) := ⟨_, rfl⟩
      have hOs : O.size = 1 := by rw [hO]; rfl
      obtain ⟨V, hV⟩ : ∃ V, U ++ O = V := ⟨_, rfl⟩
      have hVs : V.size = U.size + O.size := by rw [← hV, ByteArray.size_append]
      have C : Hid (∀ w, _) := fun w => rmac_any key V w hk' (by omega)
      obtain ⟨T', hT'⟩ : ∃ T', Hid (T' = partB key p (k + 1)) := ⟨_, rfl⟩
      have eT : macB key V = T' := by rw [hT'.out, partB_succ, ← hT, hU, ← hO, hV]
      have hTs' : T'.size = 32 := by rw [hT'.out]; exact partB_size _ _ _
      rw [eT] at C
      rw [← hO] at hcv
      have hsum1 : ¬ (9223372036854775807 < T.size + p.size) := by omega
      have hsum2 : ¬ (9223372036854775807 < U.size + O.size) := by omega
      have hsum3 : ¬ (9223372036854775807 < X.size + T'.size) := by omega
      rw [← hT]
      clear hO eT hT hVs hOs hUs hXs
      go_wp2_with fail
      have hbx : Below w.heap.size w (wr.alloc (.cells #[.int .u8 ((k : Int) + 1)] 5)) := hbl.alloc hbl.size _
      generalize wr.alloc _ = wx at *
      clear hbl
      refine (C.out _).mono ?_
      rintro e w2 ⟨rfl, hb2⟩
      have hB2 := below_step hbx (Nat.le_refl _) hb2
      clear hbx hb2 C hcv
      go_wp2
      go_roundw
      case rel => exact ⟨k + 1, by omega, by go_num, by rw [hT'.out], by rw [partsB_succ, ← hT'.out, ← HX'.out], hB2⟩
      case measure => simp [intOf]; omega
    · have hk' : k = m := by omega
      subst hk'
      have g2 : decide (X.size < n) = false := by simp; omega
      have hex : X.extract 0 n = E := by rw [HE.out, HX'.out, Hm.out]; rfl
      have hle : n ≤ X.size := by omega
      clear hXs
      go_wp2
      go_ret2
      exact ⟨rfl, hbl⟩

set_option maxHeartbeats 4000000 in
theorem extract_any (salt s : ByteArray) (w : World) (hk : salt.size ≤ 65536) (hs : s.size ≤ 65472) (hB : GlobB w) (hK : GlobK w) :
    Calls Tryz.prog 17 #[.string salt, .string s] w fun e w' => e = .returned (.string (macB salt s)) ∧ Below w.heap.size w w' := by
  have C1 : Hid (Calls _ _ _ _ _) := mac_any salt s w hk hs hB hK
  generalize macB salt s = M at *
  clear hB hK
  go_enter Tryz.func17, Tryz.ntmps17
  go_wp2_with fail
  refine C1.out.mono ?_
  rintro e w1 ⟨rfl, hb1⟩
  go_wp2_with fail
  go_ret
  exact ⟨rfl, hb1⟩

set_option maxHeartbeats 4000000 in
theorem derive_ok (salt s p : ByteArray) (n : Nat) (w : World) (hk : salt.size ≤ 65536) (hs : s.size ≤ 65472) (hp : p.size ≤ 65000) (hn : n ≤ 8160) (hB : GlobB w) (hK : GlobK w) :
    Calls Tryz.prog 6 #[.string salt, .string s, .string p, .int .i64 (n : Int)] w fun e w' => e = .returned (.tuple #[.string (expandB (macB salt s) p n), .int .i64 0]) ∧ Below w.heap.size w w' := by
  have HB : Hid (GlobB w) := hB
  have HK : Hid (GlobK w) := hK
  have C1 : Hid (Calls _ _ _ _ _) := extract_any salt s w hk hs hB hK
  have C2 : Hid (∀ w, GlobB w → GlobK w → _) := fun w => expand_ok (macB salt s) p n w (by rw [macB_size]; omega) hp hn
  generalize macB salt s = M at *
  generalize expandB M p n = E at *
  clear hB hK
  go_enter Tryz.func6, Tryz.ntmps6
  go_wp2_with fail
  refine C1.out.mono ?_
  rintro e w1 ⟨rfl, hb1⟩
  go_wp2_with fail
  refine (C2.out _ (HB.out.below hb1) (HK.out.below hb1)).mono ?_
  rintro e w2 ⟨rfl, hb2⟩
  have hB2 := below_step hb1 (Nat.le_refl _) hb2
  go_wp2_with fail
  go_ret2
  exact ⟨rfl, hB2⟩

theorem empty_append (s : ByteArray) : (⟨#[]⟩ : ByteArray) ++ s = s := by apply bytes_ext; simp
theorem macB_empty (s : ByteArray) : macB (zeroB 32) s = macB ⟨#[]⟩ s := by
  have h := macB_padded ⟨#[]⟩ s 32 (by decide)
  rwa [empty_append] at h
theorem size_nil (s : ByteArray) (h : s.size = 0) : s = ⟨#[]⟩ := by
  apply bytes_ext
  have h' : s.data.size = 0 := h
  rw [Array.eq_empty_of_size_eq_zero h']

set_option maxHeartbeats 4000000 in
theorem rextract_some (salt s : ByteArray) (w : World) (h0 : 0 < salt.size) (hk : salt.size ≤ 65536) (hs : s.size ≤ 65472) :
    Calls Tryz.prog 19 #[.string salt, .string s] w fun e w' => e = .returned (.string (macB salt s)) ∧ Below w.heap.size w w' := by
  have C1 : Hid (Calls _ _ _ _ _) := rmac_any salt s w hk hs
  generalize macB salt s = M at *
  have g0 : salt.toList.isEmpty = false := by
    rw [toList_data]
    cases h : salt.data.toList with
    | nil =>
      have h2 : salt.data.toList.length = 0 := by rw [h]; rfl
      rw [Array.length_toList] at h2
      have h3 : salt.data.size = salt.size := rfl
      omega
    | cons a l => rfl
  clear h0 hk hs
  go_enter Tryz.func19, Tryz.ntmps19
  go_wp2_with fail
  refine C1.out.mono ?_
  rintro e w1 ⟨rfl, hb1⟩
  go_wp2_with fail
  go_ret
  exact ⟨rfl, hb1⟩

set_option maxHeartbeats 4000000 in
theorem rextract_none (s : ByteArray) (w : World) (hs : s.size ≤ 65472) :
    Calls Tryz.prog 19 #[.string ⟨#[]⟩, .string s] w fun e w' => e = .returned (.string (macB ⟨#[]⟩ s)) ∧ Below w.heap.size w w' := by
  obtain ⟨i0, hi, hz0, hz1, hz2⟩ := info_parts Tryz.info5
  have C1 : Hid (∀ w, _) := fun w => rmac_any (zeroB 32) s w (by decide) hs
  rw [macB_empty] at C1
  generalize macB _ s = M at *
  obtain ⟨Z, HZ⟩ : ∃ Z, Hid (Z = zeroB 32) := ⟨_, rfl⟩
  rw [← HZ.out] at C1
  clear hs
  go_enter Tryz.func19, Tryz.ntmps19
  go_wp2_with (at_make; refine wpList_make_full _ rfl _ _ 35 rfl w.heap.size 5 i0 (.int .u8 0) 1 Tryz.underlying35 hi hz0 hz1 _ _ _ _ 32 rfl rfl rfl rfl ?b1 ?b2 ?b3 ?_)
  case b1 => rw [hz2]; decide
  case b2 => decide
  case b3 => omega
  intro w1 hown0 hgrow
  have hbl : Below w.heap.size w w1 := (Below.refl _ _).grown hgrow (Nat.le_refl _) (fun k hk => by cases hk)
  have hcv : (convert 35 9 (.slice (some ⟨w.heap.size, 0, none⟩) 32 32)).run Tryz.prog w1 = .ok (.string Z) w1 := by
    rw [HZ.out]; exact zeros_conv hown0 35 9 Tryz.underlying35 Tryz.underlying5 Tryz.underlying9
  clear hown0 hgrow hi hz0 hz1 hz2
  go_wp2_with fail
  refine (C1.out _).mono ?_
  rintro e w2 ⟨rfl, hb2⟩
  have hB2 := below_step hbl (Nat.le_refl _) hb2
  go_wp2_with fail
  go_ret
  exact ⟨rfl, hB2⟩
theorem rextract_any (salt s : ByteArray) (w : World) (hk : salt.size ≤ 65536) (hs : s.size ≤ 65472) :
    Calls Tryz.prog 19 #[.string salt, .string s] w fun e w' => e = .returned (.string (macB salt s)) ∧ Below w.heap.size w w' := by
  by_cases h : salt.size = 0
  · rw [size_nil salt h]; exact rextract_none s w hs
  · exact rextract_some salt s w (by omega) hk hs
end Go.Proofs.YtglgppeloolbhaaGreatDoor

/- The chapter's example, computed by the kernel. -/
namespace Go.Proofs.YtglgppeloolbhaaGreatDoor
open Go.RowKit
set_option maxRecDepth 100000

end Go.Proofs.YtglgppeloolbhaaGreatDoor

/- light, one. -/
namespace Go.Proofs.YtglgppeloolbhaaGreatDoor
open Go.RowKit
set_option maxRecDepth 100000
set_option linter.unusedSimpArgs false

end Go.Proofs.YtglgppeloolbhaaGreatDoor
