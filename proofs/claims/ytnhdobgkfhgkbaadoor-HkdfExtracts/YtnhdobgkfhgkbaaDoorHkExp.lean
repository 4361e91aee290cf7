/- hkdf.Expand. -/
import Derived.Test.YtnhdobgkfhgkbaaDoorHk
namespace Go.Proofs.YtnhdobgkfhgkbaaDoor
open Go.RowKit
set_option linter.unusedSimpArgs false

set_option maxHeartbeats 4000000 in
theorem expand_not (key p : ByteArray) (n : Int) (w : World) (hn : n < 0 ∨ 8160 < n) :
    Calls Tryd.prog 10 #[.string key, .string p, .int .i64 n] w fun e w' => e = .returned (.tuple #[.string ⟨#[]⟩, .int .i64 1]) ∧ Below w.heap.size w w' := by
  rcases hn with h | h
  · have g0 : decide (n < 0) = true := by simp; omega
    clear h
    go_enter Tryd.func10, Tryd.ntmps10
    go_wp2_with fail
    go_ret2
    exact ⟨rfl, Below.refl _ _⟩
  · have g0 : decide (n < 0) = false := by simp; omega
    have g1 : decide (8160 < n) = true := by simp; omega
    clear h
    go_enter Tryd.func10, Tryd.ntmps10
    go_wp2_with fail
    go_ret2
    exact ⟨rfl, Below.refl _ _⟩

set_option maxRecDepth 100000 in
set_option maxHeartbeats 4000000 in
theorem expand_ok (key p : ByteArray) (n : Nat) (w : World) (hk' : key.size ≤ 65536) (hp : p.size ≤ 65000) (hn : n ≤ 8160) (hB : GlobB w) (hK : GlobK w) :
    Calls Tryd.prog 10 #[.string key, .string p, .int .i64 (n : Int)] w fun e w' => e = .returned (.tuple #[.string (expandB key p n), .int .i64 0]) ∧ Below w.heap.size w w' := by
  have HB : Hid (GlobB w) := hB
  have HK : Hid (GlobK w) := hK
  obtain ⟨i0, hi, hz0, hz1, hz2⟩ := info_parts Tryd.info5
  obtain ⟨m, Hm⟩ : ∃ m, Hid (m = (n + 31) / 32) := ⟨_, rfl⟩
  have hm : m ≤ 255 := by rw [Hm.out]; omega
  have hnm : n ≤ 32 * m := by rw [Hm.out]; omega
  have hq : Int.tdiv ((n : Int) + 32 - 1) 32 = (m : Int) := by rw [Hm.out, Int.tdiv_eq_ediv_of_nonneg (by omega)]; omega
  have g0 : decide ((n : Int) < 0) = false := by simp
  have g1 : decide ((8160 : Int) < (n : Int)) = false := by simp; omega
  obtain ⟨E, HE⟩ : ∃ E, Hid (E = expandB key p n) := ⟨_, rfl⟩
  rw [← HE.out]
  clear hB hK
  go_enter Tryd.func10, Tryd.ntmps10
  go_wp2_with (at_make; refine wpList_make_own _ rfl _ _ 29 rfl w.heap.size 5 i0 (.int .u8 0) 1 Tryd.underlying29 hi hz0 hz1 _ _ _ (32 * m) rfl rfl ?b5 ?b1 ?b2 ?b3 ?_)
  case b5 => omega
  case b1 => rw [hz2]; omega
  case b2 => unfold maxLen; omega
  case b3 => omega
  intro w1 hown0 hgrow
  have hbl0 : Below w.heap.size w w1 := (Below.refl _ _).grown hgrow (Nat.le_refl _) (fun k hk => by cases hk)
  have HX : Hid (∀ k, (partB key p k).size ≤ 32) := partB_le key p
  clear hgrow
  go_wp2
  go_loopw [9, 10, 26] (fun a l i wr => ∃ k : Nat, k ≤ m ∧ i = .int .i64 k ∧ l = .string (partB key p k) ∧ a = .slice (some ⟨w.heap.size, 0, none⟩) (32 * k) (32 * m) ∧ wr.ownsRow w.heap.size 5 1 (.slice (some ⟨w.heap.size, 0, none⟩) (32 * k) (32 * m)) (32 * k) (Lib.strCells (partsB key p k)) ∧ Below w.heap.size w wr) (fun _ _ i _ => m - (intOf i).toNat)
  case atStart => exact ⟨0, Nat.zero_le _, rfl, rfl, rfl, hown0, hbl0⟩
  case round =>
    clear hown0 hbl0
    obtain ⟨k, hk, rfl, rfl, rfl, hown, hbl⟩ := hrel
    by_cases hlt : k < m
    · obtain ⟨T, hT⟩ : ∃ T, T = partB key p k := ⟨_, rfl⟩
      have hTs : T.size ≤ 32 := by rw [hT]; exact HX.out k
      have hcv : ∀ w : World, (convert 29 9 (.slice (some ⟨w.heap.size, 0, none⟩) 1 1)).run Tryd.prog (w.alloc (.cells #[.int .u8 ((k : Int) + 1)] 5)) = .ok (.string (oneByte (k + 1))) (w.alloc (.cells #[.int .u8 ((k : Int) + 1)] 5)) :=
        fun w => one_conv w (k + 1) (by omega) 5 29 9 Tryd.underlying29 Tryd.underlying5 Tryd.underlying9
      obtain ⟨U, hU⟩ : ∃ U, T ++ p = U := ⟨_, rfl⟩
      have hUs : U.size = T.size + p.size := by rw [← hU, ByteArray.size_append]
      obtain ⟨O, hO⟩ : ∃ O, O = oneByte (k + 1) := ⟨_, rfl⟩
      have hOs : O.size = 1 := by rw [hO]; rfl
      obtain ⟨V, hV⟩ : ∃ V, U ++ O = V := ⟨_, rfl⟩
      have hVs : V.size = U.size + O.size := by rw [← hV, ByteArray.size_append]
      have C : Hid (∀ w, GlobB w → GlobK w → _) := fun w => mac_any key V w hk' (by omega)
      obtain ⟨T', hT'⟩ : ∃ T', Hid (T' = partB key p (k + 1)) := ⟨_, rfl⟩
      have eT : macB key V = T' := by rw [hT'.out, partB_succ, ← hT, hU, ← hO, hV]
      have hTs' : T'.size = 32 := by rw [hT'.out]; exact partB_size _ _ _
      rw [eT] at C
      rw [← hO] at hcv
      have hsum1 : ¬ (9223372036854775807 < T.size + p.size) := by omega
      have hsum2 : ¬ (9223372036854775807 < U.size + O.size) := by omega
      rw [← hT]
      clear hO eT hT hVs hOs hUs
      go_wp2_with fail
      have hsz := hbl.size
      have hbx : Below w.heap.size w (wr.alloc (.cells #[.int .u8 ((k : Int) + 1)] 5)) := hbl.alloc hsz _
      have hox := World.ownsRow.alloc hown (.cells #[.int .u8 ((k : Int) + 1)] 5)
      generalize wr.alloc _ = wx at *
      clear hown hbl hsz
      refine (C.out _ (HB.out.below hbx) (HK.out.below hbx)).mono ?_
      rintro e w2 ⟨rfl, hb2⟩
      have hB2 := below_step hbx (Nat.le_refl _) hb2
      have ho2 := owns_below hox hb2 (Nat.lt_of_lt_of_le (owns_lt hox) (Nat.le_refl _))
      clear hox hbx hb2 C hcv
      go_wp2_with (at_builtin; refine Lib.wpList_append_fits_string _ rfl _ _ 29 9 rfl w.heap.size 5 i0 Tryd.underlying29 Tryd.underlying9 hi hz1 _ _ _ _ rfl ho2 T' rfl (by omega) (by omega) ?_)
      intro w3 ho3 hg3
      have hB3 : Below w.heap.size w w3 := hB2.grown hg3 hB2.size (fun k hk => by cases hk; exact Nat.le_refl _)
      rw [← strCells_append, show 32 * k + 32 = 32 * (k + 1) by omega] at ho3
      rw [show 32 * k + 32 = 32 * (k + 1) by omega]
      clear ho2 hB2 hg3
      go_wp2
      go_roundw
      case rel => exact ⟨k + 1, by omega, by go_num, by rw [hT'.out], rfl, by rw [partsB_succ, ← hT'.out]; exact ho3, hB3⟩
      case measure => simp [intOf]; omega
    · have hk' : k = m := by omega
      subst hk'
      have hcv := (row_of_owns hown).conv (P := Tryd.prog) (bt_lt _) n (32 * k) (by rw [partsB_size]; exact hnm) 29 9 Tryd.underlying29 Tryd.underlying5 Tryd.underlying9
      rw [bytesOf_extract _ n (by rw [partsB_size]; exact hnm), Hm.out] at hcv
      have hcv' : _ = Result.ok (Value.string (expandB key p n)) wr := hcv
      rw [← Hm.out, ← HE.out] at hcv'
      clear hcv
      clear hown
      go_wp2
      go_ret2
      exact ⟨rfl, hbl⟩
end Go.Proofs.YtnhdobgkfhgkbaaDoor
