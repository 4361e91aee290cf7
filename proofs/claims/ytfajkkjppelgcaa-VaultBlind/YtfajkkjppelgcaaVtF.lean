/- awake of layer 16. -/
import Derived.Test.YtfajkkjppelgcaaVtE
import Derived.Test.YtfajkkjppelgcaaZer
namespace Go.Proofs.Ytfajkkjppelgcaa
open Go.RowKit
set_option maxRecDepth 100000
set_option linter.unusedSimpArgs false
set_option linter.unusedSectionVars false
variable [Inhabited TabZ]

def seedT : ByteArray := ⟨#[115, 101, 101, 100]⟩

/-- What awake asks of an ideal sealer, call by call: the sealer at g, its way at i, its table at m. -/
theorem awake_seal (g i m : Nat) (Z Y : ByteArray) (hZ : Z.size = 32) (hY : Y.size = 12) (w : World) (hh : Hsh w) (h : SlrAt w g i m seedT 0 []) :
    Calls Try.prog 6 #[.pointer (some ⟨g, 0, none⟩), .string Z, .string Y, .string ⟨#[98]⟩, .string ⟨#[116, 101, 120, 116]⟩] w fun e w' => ∃ D : ByteArray, D.size = 20 ∧ e = .returned (.tuple #[.string D, .int .i64 0]) ∧ SlrAt w' g i m seedT 1 [(D, entV Z Y ⟨#[98]⟩ ⟨#[116, 101, 120, 116]⟩)] ∧ Kept2 i (some m) w w' := by
  refine (vseal_ideal g i m 0 seedT Z Y ⟨#[98]⟩ ⟨#[116, 101, 120, 116]⟩ [] w hh h ⟨hZ, hY, by decide⟩ (by decide) (by decide)).mono ?_
  rintro e w' ⟨rfl, h1, h2⟩
  exact ⟨_, drawV_size _ _ _, rfl, h1, h2⟩

theorem look_one (D : ByteArray) (v : Value) : lookX [(D, v)] D = some v := by rw [lookX_cons, if_pos rfl]

theorem awake_open (g i m : Nat) (Z Y D : ByteArray) (hZ : Z.size = 32) (hY : Y.size = 12) (hD : D.size = 20) (w : World) (h : SlrAt w g i m seedT 1 [(D, entV Z Y ⟨#[98]⟩ ⟨#[116, 101, 120, 116]⟩)]) :
    Calls Try.prog 7 #[.pointer (some ⟨g, 0, none⟩), .string Z, .string Y, .string ⟨#[98]⟩, .string D] w fun e w' => e = .returned (.tuple #[.string ⟨#[116, 101, 120, 116]⟩, .int .i64 0]) ∧ Below w.heap.size w w' :=
  vopen_lift g i m 1 seedT Z Y ⟨#[98]⟩ D _ 0 _ w h (iopen_yes i m 1 seedT Z Y ⟨#[98]⟩ D _ _ w h.2 ⟨hZ, hY, by unfold cutA; rw [hD]; decide⟩ (look_one D _))

theorem awake_other (g i m : Nat) (Z Y D : ByteArray) (hZ : Z.size = 32) (hY : Y.size = 12) (hD : D.size = 20) (w : World) (h : SlrAt w g i m seedT 1 [(D, entV Z Y ⟨#[98]⟩ ⟨#[116, 101, 120, 116]⟩)]) :
    Calls Try.prog 7 #[.pointer (some ⟨g, 0, none⟩), .string Z, .string Y, .string ⟨#[99]⟩, .string D] w fun e w' => e = .returned (.tuple #[.string ⟨#[]⟩, .int .i64 70]) ∧ Below w.heap.size w w' :=
  vopen_lift g i m 1 seedT Z Y ⟨#[99]⟩ D _ 70 _ w h (iopen_other i m 1 seedT Z Y ⟨#[99]⟩ D _ _ _ _ _ w h.2 ⟨hZ, hY, by unfold cutA; rw [hD]; decide⟩ (look_one D _) (fun hc => absurd hc.2.2 (by decide)))

set_option maxHeartbeats 8000000 in
theorem awake16 (w : World) (hh : Hsh w) :
    Calls Try.prog 4 #[] w fun e w' => e = .returned (.bool true) ∧ Below w.heap.size w w' := by
  obtain ⟨Z, HZ⟩ : ∃ Z, Hid (Z = zeroB 32) := ⟨_, rfl⟩
  obtain ⟨Y, HY⟩ : ∃ Y, Hid (Y = zeroB 12) := ⟨_, rfl⟩
  have HZs : Hid (Z.size = 32) := by show _ = _; rw [HZ.out]; exact zeroB_size _
  have HYs : Hid (Y.size = 12) := by show _ = _; rw [HY.out]; exact zeroB_size _
  have HH : Hid (Hsh w) := hh
  have m1 := fun w => make_zeros 32 32 rfl (by decide) w
  have m2 := fun w => make_zeros 12 12 rfl (by decide) w
  have v1 : (convert 31 9 (.slice (some ⟨w.heap.size, 0, none⟩) 32 32)).run Try.prog (w.alloc (.cells (zcells 32) 5)).drew = .ok (.string Z) (w.alloc (.cells (zcells 32) 5)).drew := by
    rw [HZ.out]; exact conv_zeros (row_zeros 32 w)
  have v2 : (convert 31 9 (.slice (some ⟨w.heap.size, 0, none⟩) 32 32)).run Try.prog ((w.alloc (.cells (zcells 32) 5)).alloc (.cells (zcells 12) 5)).drew = .ok (.string Z) ((w.alloc (.cells (zcells 32) 5)).alloc (.cells (zcells 12) 5)).drew := by
    rw [HZ.out]; exact conv_zeros ((row_zeros 32 w).alloc _)
  have v3 : (convert 31 9 (.slice (some ⟨w.heap.size + 1, 0, none⟩) 12 12)).run Try.prog ((w.alloc (.cells (zcells 32) 5)).alloc (.cells (zcells 12) 5)).drew = .ok (.string Y) ((w.alloc (.cells (zcells 32) 5)).alloc (.cells (zcells 12) 5)).drew := by
    rw [HY.out]; exact conv_zeros (row_zeros' 12 (w.alloc (.cells (zcells 32) 5)) (w.heap.size + 1) (by simp))
  have v4 : (convert 31 9 (.slice (some ⟨w.heap.size, 0, none⟩) 12 12)).run Try.prog (w.alloc (.cells (zcells 12) 5)).drew = .ok (.string Y) (w.alloc (.cells (zcells 12) 5)).drew := by
    rw [HY.out]; exact conv_zeros (row_zeros 12 w)
  have v5 : (convert 31 9 (.slice (some ⟨w.heap.size, 0, none⟩) 12 12)).run Try.prog ((w.alloc (.cells (zcells 12) 5)).alloc (.cells (zcells 32) 5)).drew = .ok (.string Y) ((w.alloc (.cells (zcells 12) 5)).alloc (.cells (zcells 32) 5)).drew := by
    rw [HY.out]; exact conv_zeros ((row_zeros 12 w).alloc _)
  have v6 : (convert 31 9 (.slice (some ⟨w.heap.size + 1, 0, none⟩) 32 32)).run Try.prog ((w.alloc (.cells (zcells 12) 5)).alloc (.cells (zcells 32) 5)).drew = .ok (.string Z) ((w.alloc (.cells (zcells 12) 5)).alloc (.cells (zcells 32) 5)).drew := by
    rw [HZ.out]; exact conv_zeros (row_zeros' 32 (w.alloc (.cells (zcells 12) 5)) (w.heap.size + 1) (by simp))
  clear hh HZ HY
  go_enter Try.func4, Try.ntmps4
  go_wp2_with fail
  go_region
  all_goals clear m1 m2 v1 v2 v3 v4 v5 v6
  all_goals go_wp2_with fail
  all_goals
    refine (videal_any seedT _).mono ?_
    rintro e w1 ⟨g, i, m, rfl, h1, ⟨hg, hi, hm⟩, hb1⟩
    have HB1 : Hid (Below w.heap.size w w1) := below_step (((below_new w _).alloc (by simp) _).drew) (Nat.le_refl _) hb1
    have X1 : Hid (SlrAt w1 g i m seedT 0 []) := h1
    have HM : Hid (w.heap.size ≤ i ∧ w.heap.size ≤ m) := by
      simp only [World.size_drew, World.size_alloc] at hi hm
      exact ⟨by omega, by omega⟩
    clear h1 hg hi hm hb1
    go_wp2_with fail
    refine (awake_seal g i m Z Y HZs.out HYs.out _ (HH.out.below HB1.out) X1.out).mono ?_
    rintro e w2 ⟨D, hD, rfl, h2, k2⟩
    have X2 : Hid (SlrAt w2 g i m seedT 1 [(D, entV Z Y ⟨#[98]⟩ ⟨#[116, 101, 120, 116]⟩)]) := h2
    have HB2 : Hid (Below w.heap.size w w2) := HB1.out.trans (k2.below w.heap.size HB1.out.size HM.out.1 (fun k hk => by cases hk; exact HM.out.2))
    clear h2 k2 X1 HB1
    go_wp2_with fail
    refine (awake_open g i m Z Y D HZs.out HYs.out hD _ X2.out).mono ?_
    rintro e w3 ⟨rfl, hb3⟩
    have X3 : Hid (SlrAt w3 g i m seedT 1 [(D, entV Z Y ⟨#[98]⟩ ⟨#[116, 101, 120, 116]⟩)]) := X2.out.on hb3
    have HB3 : Hid (Below w.heap.size w w3) := below_step HB2.out (Nat.le_refl _) hb3
    clear hb3 X2 HB2
    go_wp2_with fail
    refine (awake_other g i m Z Y D HZs.out HYs.out hD _ X3.out).mono ?_
    rintro e w4 ⟨rfl, hb4⟩
    have X4 : Hid (SlrAt w4 g i m seedT 1 [(D, entV Z Y ⟨#[98]⟩ ⟨#[116, 101, 120, 116]⟩)]) := X3.out.on hb4
    have HB4 : Hid (Below w.heap.size w w4) := below_step HB3.out (Nat.le_refl _) hb4
    clear hb4 X3 HB3
    go_wp2_with fail
    refine (vmany_ideal g i m 1 seedT _ _ X4.out).mono ?_
    rintro e w5 ⟨rfl, hw5⟩
    subst hw5
    go_wp2_with fail
    refine (vreal_any _).mono ?_
    rintro e w6 ⟨rfl, h6, hb6⟩
    have X6 : Hid (RealAt w6 w5.heap.size) := h6
    have HB6 : Hid (Below w.heap.size w w6) := below_step HB4.out (Nat.le_refl _) hb6
    clear h6 hb6 X4 HB4
    go_wp2_with fail
    refine (vmany_real w5.heap.size _ X6.out).mono ?_
    rintro e w7 ⟨rfl, hw7⟩
    subst hw7
    go_wp2_with fail
    go_ret
    exact ⟨rfl, HB6.out⟩

theorem awake16_on (w w' : World) (hh : Hsh w) (hb : Below w.heap.size w w') :
    Calls Try.prog 4 #[] w' fun e w'' => e = .returned (.bool true) ∧ Below w.heap.size w w'' := by
  refine (awake16 w' (hh.below hb)).mono ?_
  rintro e w'' ⟨rfl, hb2⟩
  exact ⟨rfl, below_step hb (Nat.le_refl _) hb2⟩

end Go.Proofs.Ytfajkkjppelgcaa
