import Derived.Test.YtabhkebkbidfhaaGreatDoorL3
import Derived.Test.YtabhkebkbidfhaaGreatDoorG
import Derived.Room.AppendFits
/- Noughts behind a key; a long key's sum: plain facts. -/
namespace Go.Proofs.YtabhkebkbidfhaaGreatDoor
open Go.RowKit
set_option maxRecDepth 100000

end Go.Proofs.YtabhkebkbidfhaaGreatDoor

/- HKDF on plain texts: the parts, one behind the other. -/
namespace Go.Proofs.YtabhkebkbidfhaaGreatDoor
open Go.RowKit
set_option maxRecDepth 100000
set_option linter.unusedSimpArgs false

/-- Part i; part 0 is empty. -/
def partB (key p : ByteArray) : Nat → ByteArray
  | 0 => ⟨#[]⟩
  | i + 1 => macB key (partB key p i ++ p ++ oneByte (i + 1))
/-- The first i parts. -/
def partsB (key p : ByteArray) : Nat → ByteArray
  | 0 => ⟨#[]⟩
  | i + 1 => partsB key p i ++ partB key p (i + 1)
def expandB (key p : ByteArray) (n : Nat) : ByteArray := (partsB key p ((n + 31) / 32)).extract 0 n

theorem partB_succ (key p : ByteArray) (i : Nat) : partB key p (i + 1) = macB key (partB key p i ++ p ++ oneByte (i + 1)) := rfl
theorem partsB_succ (key p : ByteArray) (i : Nat) : partsB key p (i + 1) = partsB key p i ++ partB key p (i + 1) := rfl
theorem partB_size (key p : ByteArray) (i : Nat) : (partB key p (i + 1)).size = 32 := macB_size _ _
theorem partB_le (key p : ByteArray) (i : Nat) : (partB key p i).size ≤ 32 := by
  cases i with
  | zero => exact Nat.zero_le _
  | succ i => rw [partB_size]; omega
theorem partsB_size (key p : ByteArray) (i : Nat) : (partsB key p i).size = 32 * i := by
  induction i with
  | zero => rfl
  | succ i ih => rw [partsB_succ, ByteArray.size_append, ih, partB_size]; omega
theorem expandB_size (key p : ByteArray) (n : Nat) : (expandB key p n).size = n := by
  unfold expandB; rw [ByteArray.size_extract, partsB_size]; omega

/-! ### A row of bytes that the call appends texts to, within its room. -/

end Go.Proofs.YtabhkebkbidfhaaGreatDoor

/- hkdf.Expand. -/
namespace Go.Proofs.YtabhkebkbidfhaaGreatDoor
open Go.RowKit
set_option maxRecDepth 100000
set_option linter.unusedSimpArgs false

set_option maxRecDepth 100000 in
set_option maxHeartbeats 4000000 in
theorem expand_ok (key p : ByteArray) (n : Nat) (w : World) (hk' : key.size ≤ 65536) (hp : p.size ≤ 65000) (hn : n ≤ 8160) (hB : GlobB w) (hK : GlobK w) :
    Calls Tryz.prog 49 #[.string key, .string p, .int .i64 (n : Int)] w fun e w' => e = .returned (.tuple #[.string (expandB key p n), .int .i64 0]) ∧ Below w.heap.size w w' := by
  have HB : Hid (GlobB w) := hB
  have HK : Hid (GlobK w) := hK
  obtain ⟨i0, hi, hz0, hz1, hz2⟩ := info_parts Tryz.info5
  obtain ⟨m, Hm⟩ : ∃ m, Hid (m = (n + 31) / 32) := ⟨_, rfl⟩
  have hm : m ≤ 255 := by rw [Hm.out]; omega
  have hnm : n ≤ 32 * m := by rw [Hm.out]; omega
  have hq : Int.tdiv ((n : Int) + 32 - 1) 32 = (m : Int) := by rw [Hm.out, Int.tdiv_eq_ediv_of_nonneg (by omega)]; omega
  have g0 : decide ((n : Int) < 0) = false := by simp
  have g1 : decide ((8160 : Int) < (n : Int)) = false := by simp; omega
  obtain ⟨E, HE⟩ : ∃ E, Hid (E = expandB key p n) := ⟨_, rfl⟩
  rw [← HE.out]
  clear hB hK
  go_enter Tryz.func49, Tryz.ntmps49
  go_wp2_with (at_make; refine wpList_make_own _ rfl _ _ 68 rfl w.heap.size 5 i0 (.int .u8 0) 1 Tryz.underlying68 hi hz0 hz1 _ _ _ (32 * m) rfl rfl ?b5 ?b1 ?b2 ?b3 ?_)
  case b5 => omega
  case b1 => rw [hz2]; omega
  case b2 => unfold maxLen; omega
  case b3 => omega
  intro w1 hown0 hgrow
  have hbl0 : Below w.heap.size w w1 := (Below.refl _ _).grown hgrow (Nat.le_refl _) (fun k hk => by cases hk)
  have HX : Hid (∀ k, (partB key p k).size ≤ 32) := partB_le key p
  clear hgrow
  go_wp2
  go_loopw [9, 10, 26] (fun a l i wr => ∃ k : Nat, k ≤ m ∧ i = .int .i64 k ∧ l = .string (partB key p k) ∧ a = .slice (some ⟨w.heap.size, 0, none⟩) (32 * k) (32 * m) ∧ wr.ownsRow w.heap.size 5 1 (.slice (some ⟨w.heap.size, 0, none⟩) (32 * k) (32 * m)) (32 * k) (Lib.strCells (partsB key p k)) ∧ Below w.heap.size w wr) (fun _ _ i _ => m - (intOf i).toNat)
  case atStart => exact ⟨0, Nat.zero_le _, rfl, rfl, rfl, hown0, hbl0⟩
  case round =>
    clear hown0 hbl0
    obtain ⟨k, hk, rfl, rfl, rfl, hown, hbl⟩ := hrel
    by_cases hlt : k < m
    · obtain ⟨T, hT⟩ : ∃ T, T = partB key p k := ⟨_, rfl⟩
      have hTs : T.size ≤ 32 := by rw [hT]; exact HX.out k
      have hcv : ∀ w : World, (convert 68 9 (.slice (some ⟨w.heap.size, 0, none⟩) 1 1)).run Tryz.prog (w.alloc (.cells #[.int .u8 ((k : Int) + 1)] 5)) = .ok (.string (oneByte (k + 1))) (w.alloc (.cells #[.int .u8 ((k : Int) + 1)] 5)) :=
        fun w => one_conv w (k + 1) (by omega) 5 68 9 Tryz.underlying68 Tryz.underlying5 Tryz.underlying9
      obtain ⟨U, hU⟩ : ∃ U, T ++ p = U := ⟨_, rfl⟩
      have hUs : U.size = T.size + p.size := by rw [← hU, ByteArray.size_append]
      obtain ⟨O, hO⟩ : ∃ O, O = oneByte (k + 1) := ⟨_, rfl⟩
      have hOs : O.size = 1 := by rw [hO]; rfl
      obtain ⟨V, hV⟩ : ∃ V, U ++ O = V := ⟨_, rfl⟩
      have hVs : V.size = U.size + O.size := by rw [← hV, ByteArray.size_append]
      have C : Hid (∀ w, GlobB w → GlobK w → _) := fun w => mac_any key V w hk' (by omega)
      obtain ⟨T', hT'⟩ : ∃ T', Hid (T' = partB key p (k + 1)) := ⟨_, rfl⟩
      have eT : macB key V = T' := by rw [hT'.out, partB_succ, ← hT, hU, ← hO, hV]
      have hTs' : T'.size = 32 := by rw [hT'.out]; exact partB_size _ _ _
      rw [eT] at C
      rw [← hO] at hcv
      have hsum1 : ¬ (9223372036854775807 < T.size + p.size) := by omega
      have hsum2 : ¬ (9223372036854775807 < U.size + O.size) := by omega
      rw [← hT]
      clear hO eT hT hVs hOs hUs
      go_wp2_with fail
      have hsz := hbl.size
      have hbx : Below w.heap.size w (wr.alloc (.cells #[.int .u8 ((k : Int) + 1)] 5)) := hbl.alloc hsz _
      have hox := World.ownsRow.alloc hown (.cells #[.int .u8 ((k : Int) + 1)] 5)
      generalize wr.alloc _ = wx at *
      clear hown hbl hsz
      refine (C.out _ (HB.out.below hbx) (HK.out.below hbx)).mono ?_
      rintro e w2 ⟨rfl, hb2⟩
      have hB2 := below_step hbx (Nat.le_refl _) hb2
      have ho2 := owns_below hox hb2 (Nat.lt_of_lt_of_le (owns_lt hox) (Nat.le_refl _))
      clear hox hbx hb2 C hcv
      go_wp2_with (at_builtin; refine Lib.wpList_append_fits_string _ rfl _ _ 68 9 rfl w.heap.size 5 i0 Tryz.underlying68 Tryz.underlying9 hi hz1 _ _ _ _ rfl ho2 T' rfl (by omega) (by omega) ?_)
      intro w3 ho3 hg3
      have hB3 : Below w.heap.size w w3 := hB2.grown hg3 hB2.size (fun k hk => by cases hk; exact Nat.le_refl _)
      rw [← strCells_append, show 32 * k + 32 = 32 * (k + 1) by omega] at ho3
      rw [show 32 * k + 32 = 32 * (k + 1) by omega]
      clear ho2 hB2 hg3
      go_wp2
      go_roundw
      case rel => exact ⟨k + 1, by omega, by go_num, by rw [hT'.out], rfl, by rw [partsB_succ, ← hT'.out]; exact ho3, hB3⟩
      case measure => simp [intOf]; omega
    · have hk' : k = m := by omega
      subst hk'
      have hcv := (row_of_owns hown).conv (P := Tryz.prog) (bt_lt _) n (32 * k) (by rw [partsB_size]; exact hnm) 68 9 Tryz.underlying68 Tryz.underlying5 Tryz.underlying9
      rw [bytesOf_extract _ n (by rw [partsB_size]; exact hnm), Hm.out] at hcv
      have hcv' : _ = Result.ok (Value.string (expandB key p n)) wr := hcv
      rw [← Hm.out, ← HE.out] at hcv'
      clear hcv
      clear hown
      go_wp2
      go_ret2
      exact ⟨rfl, hbl⟩
end Go.Proofs.YtabhkebkbidfhaaGreatDoor

/- The reference's Expand and Extract; hkdf's Extract and Derive. -/
namespace Go.Proofs.YtabhkebkbidfhaaGreatDoor
open Go.RowKit
set_option maxRecDepth 100000
set_option linter.unusedSimpArgs false

set_option maxRecDepth 100000 in
set_option maxHeartbeats 4000000 in
theorem rexpand_ok (key p : ByteArray) (n : Nat) (w : World) (hk' : key.size ≤ 65536) (hp : p.size ≤ 65000) (hn : n ≤ 8160) :
    Calls Tryz.prog 44 #[.string key, .string p, .int .i64 (n : Int)] w fun e w' => e = .returned (.tuple #[.string (expandB key p n), .int .i64 0]) ∧ Below w.heap.size w w' := by
  obtain ⟨m, Hm⟩ : ∃ m, Hid (m = (n + 31) / 32) := ⟨_, rfl⟩
  have hm : m ≤ 255 := by rw [Hm.out]; omega
  have hnm : n ≤ 32 * m := by rw [Hm.out]; omega
  have g0 : decide ((n : Int) < 0) = false := by simp
  have g1 : decide ((8160 : Int) < (n : Int)) = false := by simp; omega
  obtain ⟨E, HE⟩ : ∃ E, Hid (E = expandB key p n) := ⟨_, rfl⟩
  rw [← HE.out]
  have HX : Hid (∀ k, (partB key p k).size ≤ 32) := partB_le key p
  go_enter Tryz.func44, Tryz.ntmps44
  go_wp2
  go_loopw [8, 9, 10] (fun a l i wr => ∃ k : Nat, k ≤ m ∧ i = .int .i64 ((k : Int) + 1) ∧ l = .string (partB key p k) ∧ a = .string (partsB key p k) ∧ Below w.heap.size w wr) (fun _ _ i _ => m + 1 - (intOf i).toNat)
  case atStart => exact ⟨0, Nat.zero_le _, rfl, rfl, rfl, Below.refl _ _⟩
  case round =>
    obtain ⟨k, hk, rfl, rfl, rfl, hbl⟩ := hrel
    obtain ⟨X, HX'⟩ : ∃ X, Hid (X = partsB key p k) := ⟨_, rfl⟩
    have hXs : X.size = 32 * k := by rw [HX'.out]; exact partsB_size _ _ _
    rw [← HX'.out]
    by_cases hlt : k < m
    · have g2 : decide (X.size < n) = true := by simp; have := Hm.out; omega
      obtain ⟨T, hT⟩ : ∃ T, T = partB key p k := ⟨_, rfl⟩
      have hTs : T.size ≤ 32 := by rw [hT]; exact HX.out k
      have hcv : ∀ w : World, (convert 68 9 (.slice (some ⟨w.heap.size, 0, none⟩) 1 1)).run Tryz.prog (w.alloc (.cells #[.int .u8 ((k : Int) + 1)] 5)) = .ok (.string (oneByte (k + 1))) (w.alloc (.cells #[.int .u8 ((k : Int) + 1)] 5)) :=
        fun w => one_conv w (k + 1) (by omega) 5 68 9 Tryz.underlying68 Tryz.underlying5 Tryz.underlying9
      obtain ⟨U, hU⟩ : ∃ U, T ++ p = U := ⟨_, rfl⟩
      have hUs : U.size = T.size + p.size := by rw [← hU, ByteArray.size_append]
      obtain ⟨O, hO⟩ : ∃ O, O = oneByte (k + 1) := ⟨_, rfl⟩
      have hOs : O.size = 1 := by rw [hO]; rfl
      obtain ⟨V, hV⟩ : ∃ V, U ++ O = V := ⟨_, rfl⟩
      have hVs : V.size = U.size + O.size := by rw [← hV, ByteArray.size_append]
      have C : Hid (∀ w, _) := fun w => rmac_any key V w hk' (by omega)
      obtain ⟨T', hT'⟩ : ∃ T', Hid (T' = partB key p (k + 1)) := ⟨_, rfl⟩
      have eT : macB key V = T' := by rw [hT'.out, partB_succ, ← hT, hU, ← hO, hV]
      have hTs' : T'.size = 32 := by rw [hT'.out]; exact partB_size _ _ _
      rw [eT] at C
      rw [← hO] at hcv
      have hsum1 : ¬ (9223372036854775807 < T.size + p.size) := by omega
      have hsum2 : ¬ (9223372036854775807 < U.size + O.size) := by omega
      have hsum3 : ¬ (9223372036854775807 < X.size + T'.size) := by omega
      rw [← hT]
      clear hO eT hT hVs hOs hUs hXs
      go_wp2_with fail
      have hbx : Below w.heap.size w (wr.alloc (.cells #[.int .u8 ((k : Int) + 1)] 5)) := hbl.alloc hbl.size _
      generalize wr.alloc _ = wx at *
      clear hbl
      refine (C.out _).mono ?_
      rintro e w2 ⟨rfl, hb2⟩
      have hB2 := below_step hbx (Nat.le_refl _) hb2
      clear hbx hb2 C hcv
      go_wp2
      go_roundw
      case rel => exact ⟨k + 1, by omega, by go_num, by rw [hT'.out], by rw [partsB_succ, ← hT'.out, ← HX'.out], hB2⟩
      case measure => simp [intOf]; omega
    · have hk' : k = m := by omega
      subst hk'
      have g2 : decide (X.size < n) = false := by simp; omega
      have hex : X.extract 0 n = E := by rw [HE.out, HX'.out, Hm.out]; rfl
      have hle : n ≤ X.size := by omega
      clear hXs
      go_wp2
      go_ret2
      exact ⟨rfl, hbl⟩

theorem empty_append (s : ByteArray) : (⟨#[]⟩ : ByteArray) ++ s = s := by apply bytes_ext; simp
end Go.Proofs.YtabhkebkbidfhaaGreatDoor

/- The chapter's example, computed by the kernel. -/
namespace Go.Proofs.YtabhkebkbidfhaaGreatDoor
open Go.RowKit
set_option maxRecDepth 100000

end Go.Proofs.YtabhkebkbidfhaaGreatDoor

/- light, one. -/
namespace Go.Proofs.YtabhkebkbidfhaaGreatDoor
open Go.RowKit
set_option maxRecDepth 100000
set_option linter.unusedSimpArgs false

end Go.Proofs.YtabhkebkbidfhaaGreatDoor
