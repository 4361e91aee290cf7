/- The walk of KeysWraps. -/
import Derived.Test.YthfhhfpgmecjcaaGreatDoorKyE
import Derived.Test.YthfhhfpgmecjcaaGreatDoorRKyB
import Derived.Test.YthfhhfpgmecjcaaGreatDoorOpen2
namespace Go.Proofs.YthfhhfpgmecjcaaGreatDoor
open Go.RowKit
set_option maxRecDepth 100000
set_option linter.unusedSimpArgs false

theorem on_world2 {f : Nat} {args : Array Value} {v : Value} (h : ∀ w, Tabs w → Calls Tryz.prog f args w fun e w' => e = .returned v ∧ Below w.heap.size w w') (w : World) (hT : Tabs w) :
    ∀ w', Below w.heap.size w w' → Calls Tryz.prog f args w' fun e w'' => e = .returned v ∧ Below w.heap.size w w'' := fun w' hb => by
  refine (h w' (hT.below hb)).mono ?_
  rintro e w'' ⟨rfl, hb2⟩
  exact ⟨rfl, below_step hb (Nat.le_refl _) hb2⟩


set_option maxHeartbeats 4000000 in
set_option maxRecDepth 100000 in
theorem keysWraps_light (own key : ByteArray) (x y : Int) (w : World) (hl : own.size ≤ 256 ∧ key.size ≤ 256) (hT : Tabs w) :
    Calls Tryz.prog 4 #[.string own, .string key, .agg #[.int .i64 x, .int .i64 y]] w fun e w' => e = .returned (.bool true) ∧ Below w.heap.size w w' := by
  have CL : Hid (∀ w, _) := fun w => light15_any own key w true (by rw [decide_eq_true hl])
  by_cases hm : MayW own x y ∧ key.size = 32
  · obtain ⟨S, HS⟩ : ∃ S, Hid (S = wrapB own x y key) := ⟨_, rfl⟩
    go_enter Tryz.func4, Tryz.ntmps4
    go_wp2_with fail
    obtain ⟨w0, hq⟩ : ∃ w0, w.alloc (.cells #[.int .i64 x, .int .i64 y] 29) = w0 := ⟨_, rfl⟩
    have hb0 : Below w.heap.size w w0 := by rw [← hq]; exact below_new w _
    have c0 : ∀ w', Below w0.heap.size w0 w' → w'.cell? ⟨w.heap.size, 0, none⟩ = some (.int .i64 x) := fun w' hb => by rw [hb.cell (p := ⟨w.heap.size, 0, none⟩) (by rw [← hq]; simp), ← hq]; simp
    have c1 : ∀ w', Below w0.heap.size w0 w' → w'.cell? ⟨w.heap.size, 1, none⟩ = some (.int .i64 y) := fun w' hb => by rw [hb.cell (p := ⟨w.heap.size, 1, none⟩) (by rw [← hq]; simp), ← hq]; simp
    rw [hq]
    have hT0 : Tabs w0 := hT.below hb0
    have CW : Hid (∀ w', Below w0.heap.size w0 w' → _) := fun w' hb => awake15_on w0 w' hT0 hb
    have HQ : Hid (Below w.heap.size w w0) := hb0
    have hr0 : Below w0.heap.size w0 w0 := Below.refl _ _
    clear hq hb0 hT
    refine (CL.out w0).mono ?_
    rintro e wl ⟨rfl, hwl⟩
    rw [hwl]
    clear hwl wl
    have hcut : cutA S ≤ 32764 := by rw [HS.out, wrapB_cut]; omega
    have hop : opensW own x y S ∧ textW own x y S = key := by rw [HS.out]; exact unwrap_back own key x y
    have C3' := on_world2 (fun w h => kunwrap_yes own S x y w h hm.1 hcut hop.1 (by rw [hop.2]; exact hm.2)) w0 hT0
    rw [hop.2] at C3'
    have C3 : Hid (∀ w', Below w0.heap.size w0 w' → _) := C3'
    have C1 : Hid (∀ w', Below w0.heap.size w0 w' → Calls Tryz.prog 13 #[.string own, .int .i64 x, .int .i64 y, .string key] w' fun e w'' => e = .returned (.tuple #[.string S, .int .i64 0]) ∧ Below w0.heap.size w0 w'') := by rw [HS.out]; exact on_world2 (fun w h => kwrap_yes own key x y w h hm.1 hm.2) w0 hT0
    have C2 : Hid (∀ w', Below w0.heap.size w0 w' → Calls Tryz.prog 14 #[.string own, .int .i64 x, .int .i64 y, .string key] w' fun e w'' => e = .returned (.tuple #[.string S, .int .i64 0]) ∧ Below w0.heap.size w0 w'') := by rw [HS.out]; exact on_world2 (fun w _ => rwrap_yes own key x y w hm.1 hm.2) w0 hT0
    clear hcut hop C3' HS hm hl hT0
    go_wp2_with fail
    refine (C1.out w0 hr0).mono ?_
    rintro e w1 ⟨rfl, hb1⟩
    go_wp2_with fail
    refine (C2.out w1 hb1).mono ?_
    rintro e w2 ⟨rfl, hb2⟩
    go_wp2_with fail
    refine (C3.out w2 hb2).mono ?_
    rintro e w3 ⟨rfl, hbz⟩
    go_wp2_with fail
    refine (CW.out _ hbz).mono ?_
    rintro e w6 ⟨rfl, hb6⟩
    go_wp2_with fail
    go_ret
    exact ⟨rfl, below_step HQ.out (Nat.le_refl _) hb6⟩
  · skip
    go_enter Tryz.func4, Tryz.ntmps4
    go_wp2_with fail
    obtain ⟨w0, hq⟩ : ∃ w0, w.alloc (.cells #[.int .i64 x, .int .i64 y] 29) = w0 := ⟨_, rfl⟩
    have hb0 : Below w.heap.size w w0 := by rw [← hq]; exact below_new w _
    have c0 : ∀ w', Below w0.heap.size w0 w' → w'.cell? ⟨w.heap.size, 0, none⟩ = some (.int .i64 x) := fun w' hb => by rw [hb.cell (p := ⟨w.heap.size, 0, none⟩) (by rw [← hq]; simp), ← hq]; simp
    have c1 : ∀ w', Below w0.heap.size w0 w' → w'.cell? ⟨w.heap.size, 1, none⟩ = some (.int .i64 y) := fun w' hb => by rw [hb.cell (p := ⟨w.heap.size, 1, none⟩) (by rw [← hq]; simp), ← hq]; simp
    rw [hq]
    have hT0 : Tabs w0 := hT.below hb0
    have CW : Hid (∀ w', Below w0.heap.size w0 w' → _) := fun w' hb => awake15_on w0 w' hT0 hb
    have HQ : Hid (Below w.heap.size w w0) := hb0
    have hr0 : Below w0.heap.size w0 w0 := Below.refl _ _
    clear hq hb0 hT
    refine (CL.out w0).mono ?_
    rintro e wl ⟨rfl, hwl⟩
    rw [hwl]
    clear hwl wl
    have C1 : Hid (∀ w', Below w0.heap.size w0 w' → _) := on_world2 (fun w _ => kwrap_not own key x y w hm) w0 hT0
    have C2 : Hid (∀ w', Below w0.heap.size w0 w' → _) := on_world2 (fun w _ => rwrap_not own key x y w hm) w0 hT0
    clear hm hl hT0
    go_wp2_with fail
    refine (C1.out w0 hr0).mono ?_
    rintro e w1 ⟨rfl, hb1⟩
    go_wp2_with fail
    refine (C2.out w1 hb1).mono ?_
    rintro e w2 ⟨rfl, hbz⟩
    go_wp2_with fail
    refine (CW.out _ hbz).mono ?_
    rintro e w6 ⟨rfl, hb6⟩
    go_wp2_with fail
    go_ret
    exact ⟨rfl, below_step HQ.out (Nat.le_refl _) hb6⟩

set_option maxHeartbeats 1000000 in
theorem keysWraps_walk (own key : ByteArray) (x y : Int) (w : World) (hT : Tabs w) :
    Calls Tryz.prog 4 #[.string own, .string key, .agg #[.int .i64 x, .int .i64 y]] w fun e w' => e = .returned (.bool true) ∧ Below w.heap.size w w' := by
  by_cases hl : own.size ≤ 256 ∧ key.size ≤ 256
  · exact keysWraps_light own key x y w hl hT
  · have CL : Hid (∀ w, _) := fun w => light15_any own key w false (by rw [decide_eq_false hl])
    clear hl
    go_enter Tryz.func4, Tryz.ntmps4
    go_wp2_with fail
    obtain ⟨w0, hq⟩ : ∃ w0, w.alloc (.cells #[.int .i64 x, .int .i64 y] 29) = w0 := ⟨_, rfl⟩
    have hb0 : Below w.heap.size w w0 := by rw [← hq]; exact below_new w _
    have c0 : ∀ w', Below w0.heap.size w0 w' → w'.cell? ⟨w.heap.size, 0, none⟩ = some (.int .i64 x) := fun w' hb => by rw [hb.cell (p := ⟨w.heap.size, 0, none⟩) (by rw [← hq]; simp), ← hq]; simp
    have c1 : ∀ w', Below w0.heap.size w0 w' → w'.cell? ⟨w.heap.size, 1, none⟩ = some (.int .i64 y) := fun w' hb => by rw [hb.cell (p := ⟨w.heap.size, 1, none⟩) (by rw [← hq]; simp), ← hq]; simp
    rw [hq]
    have hT0 : Tabs w0 := hT.below hb0
    have CW : Hid (∀ w', Below w0.heap.size w0 w' → _) := fun w' hb => awake15_on w0 w' hT0 hb
    have HQ : Hid (Below w.heap.size w w0) := hb0
    have hr0 : Below w0.heap.size w0 w0 := Below.refl _ _
    clear hq hb0 hT
    refine (CL.out w0).mono ?_
    rintro e wl ⟨rfl, hwl⟩
    rw [hwl]
    clear hwl wl
    have hbz := hr0
    go_wp2_with fail
    refine (CW.out _ hbz).mono ?_
    rintro e w6 ⟨rfl, hb6⟩
    go_wp2_with fail
    go_ret
    exact ⟨rfl, below_step HQ.out (Nat.le_refl _) hb6⟩
end Go.Proofs.YthfhhfpgmecjcaaGreatDoor
