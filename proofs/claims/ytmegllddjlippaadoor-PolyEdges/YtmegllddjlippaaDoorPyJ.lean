/- The program's Check; awake. -/
import Derived.Test.YtmegllddjlippaaDoorPyI
namespace Go.Proofs.YtmegllddjlippaaDoor
open Go.RowKit
set_option linter.unusedSimpArgs false

set_option maxHeartbeats 1000000 in
theorem check_yes (key s t : ByteArray) (w : World) (hk : key.size = 32) (hs : s.size ≤ 65536) (hY : GlobY w) :
    Calls Tryd.prog 11 #[.string key, .string s, .string t] w fun e w' => e = .returned (.bool ((tagB key s).toList == t.toList)) ∧ Below w.heap.size w w' := by
  have C1 : Hid (Calls _ _ _ _ _) := mac_yes key s w hk hs hY
  have C2 : Hid (∀ w, _) := fun w => same_any (tagB key s) t w (by rw [tagB_size]; unfold maxLen; omega)
  generalize tagB key s = M at *
  generalize (M.toList == t.toList) = b at *
  clear hY
  go_enter Tryd.func11, Tryd.ntmps11
  go_wp2_with fail
  refine C1.out.mono ?_
  rintro e w1 ⟨rfl, hb1⟩
  go_wp2_with fail
  refine (C2.out _).mono ?_
  rintro e w2 ⟨rfl, hb2⟩
  have hB2 := below_step hb1 (Nat.le_refl _) hb2
  go_wp2_with fail
  go_ret
  exact ⟨rfl, hB2⟩

set_option maxHeartbeats 1000000 in
theorem check_no (key s t : ByteArray) (w : World) (h : ¬ (key.size = 32 ∧ s.size ≤ 65536)) :
    Calls Tryd.prog 11 #[.string key, .string s, .string t] w fun e w' => e = .returned (.bool false) ∧ Below w.heap.size w w' := by
  have C : Hid (∀ w, _) := fun w => mac_no key s w h
  go_enter Tryd.func11, Tryd.ntmps11
  go_wp2_with fail
  refine (C.out _).mono ?_
  rintro e w1 ⟨rfl, hb1⟩
  go_wp2_with fail
  go_ret
  exact ⟨rfl, hb1⟩

/-! ### The chapter's example, computed by the kernel. -/
def knownK : ByteArray := ⟨#[133, 214, 190, 120, 87, 85, 109, 51, 127, 68, 82, 254, 66, 213, 6, 168, 1, 3, 128, 138, 251, 13, 178, 253, 74, 191, 246, 175, 65, 73, 245, 27]⟩
def knownT : ByteArray := ⟨#[67, 114, 121, 112, 116, 111, 103, 114, 97, 112, 104, 105, 99, 32, 70, 111, 114, 117, 109, 32, 82, 101, 115, 101, 97, 114, 99, 104, 32, 71, 114, 111, 117, 112]⟩
def knownG : ByteArray := ⟨#[168, 6, 29, 193, 48, 81, 54, 198, 194, 43, 139, 175, 12, 1, 39, 169]⟩
theorem known_list : knownG.toList = [168, 6, 29, 193, 48, 81, 54, 198, 194, 43, 139, 175, 12, 1, 39, 169] := by decide +kernel
theorem known_tag : tagB knownK knownT = knownG := by decide +kernel

set_option maxHeartbeats 1000000 in
theorem awake_any (w : World) (hY : GlobY w) :
    Calls Tryd.prog 8 #[] w fun e w' => e = .returned (.bool true) ∧ Below w.heap.size w w' := by
  have C1' := mac_yes knownK knownT w (by decide) (by decide) hY
  have C2' := fun w hY => check_yes knownK knownT knownG w (by decide) (by decide) hY
  rw [known_tag] at C1' C2'
  rw [show (knownG.toList == knownG.toList) = true by simp] at C2'
  have HY : Hid (GlobY w) := hY
  have hG : knownG.toList = [168, 6, 29, 193, 48, 81, 54, 198, 194, 43, 139, 175, 12, 1, 39, 169] := known_list
  have C1 : Hid (Calls _ _ _ _ _) := C1'
  have C2 : Hid (∀ w, GlobY w → _) := C2'
  clear C1' C2' hY
  go_enter Tryd.func8, Tryd.ntmps8
  go_wp2_with fail
  refine C1.out.mono ?_
  rintro e w1 ⟨rfl, hb1⟩
  have hY1 := HY.out.below hb1
  go_wp2_with fail
  refine (C2.out _ hY1).mono ?_
  rintro e w2 ⟨rfl, hb2⟩
  have hB2 := below_step hb1 (Nat.le_refl _) hb2
  clear hY1
  go_wp2_with fail
  go_ret
  exact ⟨rfl, hB2⟩

/-- The same from a world behind the first one. -/
theorem awake_on (w w' : World) (hY : GlobY w) (hb : Below w.heap.size w w') :
    Calls Tryd.prog 8 #[] w' fun e w'' => e = .returned (.bool true) ∧ Below w.heap.size w w'' := by
  refine (awake_any w' (hY.below hb)).mono ?_
  rintro e w'' ⟨rfl, hb2⟩
  exact ⟨rfl, below_step hb (Nat.le_refl _) hb2⟩
theorem mac_on (key s : ByteArray) (w w' : World) (hY : GlobY w) (hb : Below w.heap.size w w') (hk : key.size = 32) (hs : s.size ≤ 65536) :
    Calls Tryd.prog 9 #[.string key, .string s] w' fun e w'' => e = .returned (.tuple #[.string (tagB key s), .int .i64 0]) ∧ Below w.heap.size w w'' := by
  refine (mac_yes key s w' hk hs (hY.below hb)).mono ?_
  rintro e w'' ⟨rfl, hb2⟩
  exact ⟨rfl, below_step hb (Nat.le_refl _) hb2⟩
end Go.Proofs.YtmegllddjlippaaDoor
