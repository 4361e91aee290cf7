/- awake of layer 15; light. -/
import Derived.Test.YthfhhfpgmecjcaaDoorKyK
import Derived.Test.YthfhhfpgmecjcaaDoorZer
namespace Go.Proofs.YthfhhfpgmecjcaaDoor
open Go.RowKit
set_option maxRecDepth 100000
set_option linter.unusedSimpArgs false

set_option maxHeartbeats 4000000 in
set_option maxRecDepth 100000 in
theorem awake15 (w : World) (hT : Tabs w) :
    Calls Tryd.prog 6 #[] w fun e w' => e = .returned (.bool true) ∧ Below w.heap.size w w' := by
  obtain ⟨Z, HZ⟩ : ∃ Z, Hid (Z = zeroB 32) := ⟨_, rfl⟩
  obtain ⟨S, HS⟩ : ∃ S, Hid (S = kyS) := ⟨_, rfl⟩
  have hSs : S.size = 48 := by rw [HS.out]; rfl
  have mayZ : ∀ n : Int, 1 ≤ n → n ≤ 1000 → MayW (zeroB 32) 2 n := fun n h1 h2 => ⟨zeroB_size _, ⟨by decide, by decide⟩, h1, by omega⟩
  have C1 : Hid (∀ w', Below w.heap.size w w' → Calls Tryd.prog 12 #[.string Z, .int .i64 2, .int .i64 7, .string ⟨#[48, 49, 50, 51, 52, 53, 54, 55, 56, 57, 97, 98, 99, 100, 101, 102, 48, 49, 50, 51, 52, 53, 54, 55, 56, 57, 97, 98, 99, 100, 101, 102]⟩] w' fun e w'' => e = .returned (.tuple #[.string S, .int .i64 0]) ∧ Below w.heap.size w w'') := by
    intro w' hb
    rw [HZ.out, HS.out, ← ky_wrap]
    refine (kwrap_yes (zeroB 32) kyT 2 7 w' (hT.below hb) (mayZ 7 (by decide) (by decide)) rfl).mono ?_
    rintro e w'' ⟨rfl, hb2⟩
    exact ⟨rfl, below_step hb (Nat.le_refl _) hb2⟩
  have C2 : Hid (∀ w', Below w.heap.size w w' → Calls Tryd.prog 13 #[.string Z, .int .i64 2, .int .i64 7, .string S] w' fun e w'' => e = .returned (.tuple #[.string ⟨#[48, 49, 50, 51, 52, 53, 54, 55, 56, 57, 97, 98, 99, 100, 101, 102, 48, 49, 50, 51, 52, 53, 54, 55, 56, 57, 97, 98, 99, 100, 101, 102]⟩, .int .i64 0]) ∧ Below w.heap.size w w'') := by
    intro w' hb
    rw [HZ.out, HS.out]
    have h := kunwrap_yes (zeroB 32) kyS 2 7 w' (hT.below hb) (mayZ 7 (by decide) (by decide)) kyS_cut ky_opens.1 (by rw [ky_opens.2]; rfl)
    rw [ky_opens.2] at h
    refine h.mono ?_
    rintro e w'' ⟨rfl, hb2⟩
    exact ⟨rfl, below_step hb (Nat.le_refl _) hb2⟩
  have C3 : Hid (∀ w', Below w.heap.size w w' → Calls Tryd.prog 13 #[.string Z, .int .i64 2, .int .i64 8, .string S] w' fun e w'' => e = .returned (.tuple #[.string ⟨#[]⟩, .int .i64 70]) ∧ Below w.heap.size w w'') := by
    intro w' hb
    rw [HZ.out, HS.out]
    refine (kunwrap_bad (zeroB 32) kyS 2 8 w' (hT.below hb) (mayZ 8 (by decide) (by decide)) kyS_cut ky_not).mono ?_
    rintro e w'' ⟨rfl, hb2⟩
    exact ⟨rfl, below_step hb (Nat.le_refl _) hb2⟩
  have C4 : Hid (∀ w', Below w.heap.size w w' → Calls Tryd.prog 4 #[.int .i64 2, .int .i64 258] w' fun e w'' => e = .returned (.tuple #[.string ⟨#[2, 0, 0, 0, 0, 0, 0, 0, 0, 0, 1, 2]⟩, .int .i64 0]) ∧ Below w.heap.size w w'') := by
    intro w' hb
    rw [← ky_told]
    refine (knonce_yes 2 258 w' ⟨by decide, by decide, by decide⟩ (by decide)).mono ?_
    rintro e w'' ⟨rfl, hb2⟩
    exact ⟨rfl, below_step hb (Nat.le_refl _) hb2⟩
  have m1 := make_zeros 32 32 rfl (by decide) w
  have v1 : (convert 31 9 (.slice (some ⟨w.heap.size, 0, none⟩) 32 32)).run Tryd.prog (w.alloc (.cells (zcells 32) 5)) = .ok (.string Z) (w.alloc (.cells (zcells 32) 5)) := by
    rw [HZ.out]; exact conv_zeros (row_zeros 32 w)
  clear hT HZ HS mayZ
  go_enter Tryd.func6, Tryd.ntmps6
  go_wp2_with fail
  refine (C1.out _ (below_new w _)).mono ?_
  rintro e w1 ⟨rfl, hb1⟩
  clear m1 v1
  go_wp2_with fail
  refine (C2.out _ hb1).mono ?_
  rintro e w2 ⟨rfl, hb2⟩
  go_wp2_with fail
  refine (C3.out _ hb2).mono ?_
  rintro e w3 ⟨rfl, hb3⟩
  go_wp2_with fail
  refine (C4.out _ hb3).mono ?_
  rintro e w4 ⟨rfl, hb4⟩
  go_wp2_with fail
  go_ret
  exact ⟨rfl, hb4⟩

theorem awake15_on (w w' : World) (hT : Tabs w) (hb : Below w.heap.size w w') :
    Calls Tryd.prog 6 #[] w' fun e w'' => e = .returned (.bool true) ∧ Below w.heap.size w w'' := by
  refine (awake15 w' (hT.below hb)).mono ?_
  rintro e w'' ⟨rfl, hb2⟩
  exact ⟨rfl, below_step hb (Nat.le_refl _) hb2⟩

end Go.Proofs.YthfhhfpgmecjcaaDoor
