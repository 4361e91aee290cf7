import Derived.Test.YtfbgofbjbfidoaaDoorMacSumsWalk
import Derived.Test.YtfbgofbjbfidoaaDoorL3
namespace Go.Proofs.YtfbgofbjbfidoaaDoor
open Go.RowKit
set_option linter.unusedSimpArgs false

theorem xor_self_left (a c : Nat) (h : a = a ^^^ c) : c = 0 := by
  have : a ^^^ a = a ^^^ (a ^^^ c) := by rw [← h]
  rw [Nat.xor_self, ← Nat.xor_assoc, Nat.xor_self, Nat.zero_xor] at this
  exact this.symm
/-- A byte of M, turned. -/
def bentN (M : ByteArray) (j x i : Nat) : Nat := if i = j then x else bt M i
theorem bent_same (M : ByteArray) (j c : Nat) (hM : M.size = 32) (hj : j < 32) (hc : c < 256) :
    (M.toList == (⟨(bytesOf 32 (bentN M j (bt M j ^^^ c))).toArray⟩ : ByteArray).toList) = ((c : Int) == 0) := by
  by_cases h : c = 0
  · subst h
    have e : bentN M j (bt M j ^^^ 0) = bt M := by
      funext i; unfold bentN
      by_cases e : i = j
      · rw [if_pos e, e, Nat.xor_zero]
      · rw [if_neg e]
    rw [e, bytesOf_bt M 32 hM]; simp
  · have h2 : ((c : Int) == 0) = false := by rw [beq_eq_false_iff_ne]; omega
    rw [h2, beq_eq_false_iff_ne]
    intro h1
    rw [toList_data, toList_data] at h1
    have h3 := bytes_ext h1
    have h4 : bt M j = bt _ j := congrArg (fun s => bt s j) h3
    have hx := xor_lt8 (bt M j) c (bt_lt M j) hc
    rw [bt_bytesOf 32 _ j hj (by unfold bentN; rw [if_pos rfl]; exact hx)] at h4
    unfold bentN at h4
    rw [if_pos rfl] at h4
    exact h (xor_self_left _ _ h4)
theorem bent_short (M : ByteArray) (f : Nat → Nat) (hM : M.size = 32) : (M.toList == (⟨(bytesOf 31 f).toArray⟩ : ByteArray).toList) = false := by
  rw [beq_eq_false_iff_ne]
  intro h1
  rw [toList_data, toList_data] at h1
  have h2 := congrArg List.length h1
  rw [Array.length_toList] at h2
  simp [bytesOf_length] at h2
  have h3 : M.data.size = 32 := hM
  omega

set_option maxRecDepth 100000 in
set_option maxHeartbeats 4000000 in
theorem hmacTells_short (key s : ByteArray) (x y : Int) (w : World) (hk : key.size ≤ 1024) (hs : s.size ≤ 1024) (hB : GlobB w) (hK : GlobK w) :
    Calls Tryd.prog 5 #[.string key, .string s, .agg #[.int .i64 x, .int .i64 y]] w fun e w' => e = .returned (.bool true) ∧ Below w.heap.size w w' := by
  have HB : Hid (GlobB w) := hB
  have HK : Hid (GlobK w) := hK
  obtain ⟨c, hc, ec⟩ : ∃ c : Nat, c < 256 ∧ y % 256 = (c : Int) := ⟨(y % 256).toNat, by omega, by omega⟩
  have hand : bits .and .i64 y 255 = (c : Int) := by rw [i64_and255, ec]
  obtain ⟨j, hj, ej⟩ : ∃ j : Nat, j < 32 ∧ x % 32 = (j : Int) := ⟨(x % 32).toNat, by omega, by omega⟩
  have hand2 : bits .and .i64 x 31 = (j : Int) := by rw [i64_and31, ej]
  have hwr : IntKind.u8.wrap (c : Int) = (c : Int) := by rw [IntKind.wrap_u8']; omega
  have g0 : decide ((1024 : Int) < (key.size : Int)) = false := by simp; omega
  have g1 : decide ((1024 : Int) < (s.size : Int)) = false := by simp; omega
  obtain ⟨M, HM⟩ : ∃ M, Hid (M = macB key s) := ⟨_, rfl⟩
  have hM : M.size = 32 := by rw [HM.out]; exact macB_size _ _
  have C1 : Hid (∀ w, GlobB w → GlobK w → _) := fun w => mac_any key s w (by omega) (by omega)
  obtain ⟨B1, HB1⟩ : ∃ B : ByteArray, Hid (B = ⟨(bytesOf 32 (bentN M j (bt M j ^^^ c))).toArray⟩) := ⟨_, rfl⟩
  obtain ⟨B2, HB2⟩ : ∃ B : ByteArray, Hid (B = ⟨(bytesOf 31 (bentN M j (bt M j ^^^ c))).toArray⟩) := ⟨_, rfl⟩
  have C2 : Hid (∀ w, GlobB w → GlobK w → _) := fun w => check_any key s B1 w (by omega) (by omega)
  have C3 : Hid (∀ w, GlobB w → GlobK w → _) := fun w => check_any key s B2 w (by omega) (by omega)
  rw [← HM.out, HB1.out, bent_same M j c hM hj hc, ← HB1.out] at C2
  rw [← HM.out, HB2.out, bent_short M _ hM, ← HB2.out] at C3
  rw [← HM.out] at C1
  have HC : Hid (c < 256) := hc
  clear hB hK ec ej HM hc
  go_enter Tryd.func5, Tryd.ntmps5
  go_wp2_with fail
  go_quiet (fail)
  generalize hq : World.drewN _ nq = w0
  have hb0 : Below w.heap.size w w0 := by rw [← hq]; exact below_drewN (below_new w _) _
  have C1' : Hid (Calls _ _ _ _ _) := C1.out w0 (HB.out.below hb0) (HK.out.below hb0)
  clear hq C1
  go_wp2_with fail
  refine C1'.out.mono ?_
  rintro e w1 ⟨rfl, hb1⟩
  have hB1 := below_step hb0 (Nat.le_refl _) hb1
  obtain ⟨cp, w2, hcv, hcp, R2, hb2⟩ := bytes_new (P := Tryd.prog) w1 9 26 5 M Tryd.underlying9 Tryd.underlying26 Tryd.underlying5
  rw [hM] at hcv hcp R2
  have hB2 := below_step hB1 (Nat.le_refl _) hb2
  obtain ⟨g, hg⟩ : ∃ g, g = w1.heap.size := ⟨_, rfl⟩
  have hgB : w.heap.size ≤ g := by rw [hg]; exact hB1.size
  rw [← hg] at hcv R2
  have c2 := R2.cell j hj
  have f2 := R2.free j hj
  have R3 : Row8 _ g 32 (bentN M j (bt M j ^^^ c)) := R2.set j (bt M j ^^^ c)
  obtain ⟨X, hX⟩ : ∃ X, X = bt M j := ⟨_, rfl⟩
  have hxr : bits .xor .u8 (X : Int) (c : Int) = ((X ^^^ c : Nat) : Int) := u8_xor_nat X c (by rw [hX]; exact bt_lt M j) HC.out
  have hbent : Hid (∀ i, bentN M j (bt M j ^^^ c) i < 256) := by
    show ∀ i, _
    intro i; unfold bentN
    by_cases e : i = j
    · rw [if_pos e]; exact xor_lt8 _ _ (bt_lt M j) HC.out
    · rw [if_neg e]; exact bt_lt M i
  have k1 := Row8.conv (P := Tryd.prog) R3 hbent.out 32 cp (by omega) 26 9 Tryd.underlying26 Tryd.underlying5 Tryd.underlying9
  rw [← HB1.out] at k1
  have hX' : bentN M j (X ^^^ c) = bentN M j (bt M j ^^^ c) := by rw [hX]
  rw [← hX] at k1 c2 R3
  have hB3 : Below w.heap.size w (w2.setCell ⟨g, j, none⟩ (.int .u8 ((X ^^^ c : Nat) : Int))) := hB2.setCell hgB _
  have b1 : (j : Int) < 32 := by omega
  have HR3 : Hid (Row8 _ g 32 _) := R3
  clear R2 R3 hg hb0 hb1 hB1 hb2 hB2 hX
  go_wp2_with fail
  refine (C2.out _ (HB.out.below hB3) (HK.out.below hB3)).mono ?_
  rintro e w4 ⟨rfl, hb4⟩
  have R4 := HR3.out.below hb4 HR3.out.lt
  have hB4 := below_step hB3 (Nat.le_refl _) hb4
  have k2 := Row8.conv (P := Tryd.prog) R4 (by rw [hX']; exact hbent.out) 31 cp (by omega) 26 9 Tryd.underlying26 Tryd.underlying5 Tryd.underlying9
  rw [hX', ← HB2.out] at k2
  have b2 : (31 : Int) ≤ (cp : Int) := by omega
  clear R4 HR3 hb4 hB3 k1 c2 f2 hX' hcv
  go_wp2_with fail
  refine (C3.out _ (HB.out.below hB4) (HK.out.below hB4)).mono ?_
  rintro e w5 ⟨rfl, hb5⟩
  have hB5 := below_step hB4 (Nat.le_refl _) hb5
  go_wp2_with fail
  refine (jefe_any _ (HB.out.below hB5) (HK.out.below hB5)).mono ?_
  rintro e w6 ⟨rfl, hb6⟩
  have hB6 := below_step hB5 (Nat.le_refl _) hb6
  go_wp2_with fail
  go_ret
  exact ⟨rfl, hB6⟩

set_option maxHeartbeats 4000000 in
theorem hmacTells_walk (key s : ByteArray) (x y : Int) (w : World) (hB : GlobB w) (hK : GlobK w) :
    Calls Tryd.prog 5 #[.string key, .string s, .agg #[.int .i64 x, .int .i64 y]] w fun e w' => e = .returned (.bool true) ∧ Below w.heap.size w w' := by
  have HB : Hid (GlobB w) := hB
  have HK : Hid (GlobK w) := hK
  obtain ⟨c, hc, ec⟩ : ∃ c : Nat, c < 256 ∧ y % 256 = (c : Int) := ⟨(y % 256).toNat, by omega, by omega⟩
  have hand : bits .and .i64 y 255 = (c : Int) := by rw [i64_and255, ec]
  have hwr : IntKind.u8.wrap (c : Int) = (c : Int) := by rw [IntKind.wrap_u8']; omega
  clear hB hK ec
  by_cases h0 : key.size ≤ 1024
  · by_cases h1 : s.size ≤ 1024
    · exact hmacTells_short key s x y w h0 h1 HB.out HK.out
    · have g0 : decide ((1024 : Int) < (key.size : Int)) = false := by simp; omega
      have g1 : decide ((1024 : Int) < (s.size : Int)) = true := by simp; omega
      clear h0 h1
      go_enter Tryd.func5, Tryd.ntmps5
      go_wp2_with fail
      go_quiet (fail)
      generalize hq : World.drewN _ nq = w0
      have hb0 : Below w.heap.size w w0 := by rw [← hq]; exact below_drewN (below_new w _) _
      clear hq
      go_wp2_with fail
      refine (jefe_any _ (HB.out.below hb0) (HK.out.below hb0)).mono ?_
      rintro e w3 ⟨rfl, hb3⟩
      have hB3 := below_step hb0 (Nat.le_refl _) hb3
      go_wp2_with fail
      go_ret
      exact ⟨rfl, hB3⟩
  · have g0 : decide ((1024 : Int) < (key.size : Int)) = true := by simp; omega
    clear h0
    go_enter Tryd.func5, Tryd.ntmps5
    go_wp2_with fail
    go_quiet (fail)
    generalize hq : World.drewN _ nq = w0
    have hb0 : Below w.heap.size w w0 := by rw [← hq]; exact below_drewN (below_new w _) _
    clear hq
    go_wp2_with fail
    refine (jefe_any _ (HB.out.below hb0) (HK.out.below hb0)).mono ?_
    rintro e w3 ⟨rfl, hb3⟩
    have hB3 := below_step hb0 (Nat.le_refl _) hb3
    go_wp2_with fail
    go_ret
    exact ⟨rfl, hB3⟩
end Go.Proofs.YtfbgofbjbfidoaaDoor
