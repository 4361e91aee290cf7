/- VaultNobody, walked. -/
import Derived.Test.YtfajkkjppelgcaaDoorVtF
namespace Go.Proofs.YtfajkkjppelgcaaDoor
open Go.RowKit
set_option maxRecDepth 100000
set_option linter.unusedSimpArgs false
set_option linter.unusedSectionVars false
variable [Inhabited TabZ]

set_option maxHeartbeats 8000000 in
theorem vaultNobody_walk (a b : ByteArray) (n : Int) (w : World) (hh : Hsh w) :
    Calls Tryd.prog 5 #[.string a, .string b, .int .i64 n] w fun e w' => e = .returned (.bool true) ∧ Below w.heap.size w w' := by
  have HH : Hid (Hsh w) := hh
  clear hh
  go_enter Tryd.func5, Tryd.ntmps5
  go_wp2_with fail
  go_loopw [8] (fun c wr => ∃ k : Nat, k ≤ 2 ∧ c = .int .i64 k ∧ Hid (Blk wr 37 w.heap.size #[.pointer none, .nilIface]) ∧ Hid (Blk wr 24 (w.heap.size + 1) #[.pointer none, .pointer (some ⟨w.heap.size, 0, none⟩)]) ∧ Hid (Below w.heap.size w wr)) (fun c _ => 2 - (intOf c).toNat)
  case atStart => exact ⟨0, Nat.zero_le _, rfl, (Blk.new w _ _).alloc _, Blk.new' _ _ _ _ (by simp), (below_new w _).alloc (by simp) _⟩
  case round =>
    obtain ⟨k, hk, rfl, HA, HB, HW⟩ := hrel
    by_cases hlt : k < 2
    · obtain ⟨p, hc, HP⟩ : ∃ p, wr.cell? ⟨w.heap.size + 1, k, none⟩ = some p ∧ Hid (NoSlr wr p) := by
        have h1 := HB.out.cell k
        match k, hlt, h1 with
        | 0, _, h1 => exact ⟨.pointer none, h1, .inl rfl⟩
        | 1, _, h1 => exact ⟨_, h1, .inr ⟨_, rfl, HA.out⟩⟩
      have b0 : (k : Int) < 2 := by omega
      go_wp2_with fail
      refine (vseal_no p a b a b _ HP.out).mono ?_
      rintro e w1 ⟨rfl, hw1⟩
      subst hw1
      go_wp2_with fail
      refine (vopen_no p a b a b _ HP.out).mono ?_
      rintro e w2 ⟨rfl, hw2⟩
      subst hw2
      go_wp2_with fail
      refine (vmany_no p _ HP.out).mono ?_
      rintro e w3 ⟨rfl, hw3⟩
      subst hw3
      go_wp2_with fail
      refine (vdrawn_no p n _ HP.out).mono ?_
      rintro e w4 ⟨rfl, hb4⟩
      have HA4 : Hid (Blk w4 37 w.heap.size #[.pointer none, .nilIface]) := HA.out.on hb4
      have HB4 : Hid (Blk w4 24 (w.heap.size + 1) #[.pointer none, .pointer (some ⟨w.heap.size, 0, none⟩)]) := HB.out.on hb4
      have HW4 : Hid (Below w.heap.size w w4) := below_step HW.out (Nat.le_refl _) hb4
      clear HA HB HW hb4 HP hc
      go_wp2_with fail
      refine ⟨⟨k + 1, by omega, by go_num, HA4, HB4, HW4⟩, ?_⟩
      simp [intOf]; omega
    · have hk' : k = 2 := by omega
      subst hk'
      go_wp2_with fail
      refine (awake16_on w _ HH.out HW.out).mono ?_
      rintro e w1 ⟨rfl, hb1⟩
      go_wp2_with fail
      go_ret
      exact ⟨rfl, hb1⟩

end Go.Proofs.YtfajkkjppelgcaaDoor
