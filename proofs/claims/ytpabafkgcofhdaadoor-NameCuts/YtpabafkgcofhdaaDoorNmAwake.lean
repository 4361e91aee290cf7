/- awake of layer 8. -/
import Derived.Test.YtpabafkgcofhdaaDoorL8
namespace Go.Proofs.YtpabafkgcofhdaaDoor
open Go.RowKit
set_option linter.unusedSimpArgs false

theorem ncheck_yes (s : ByteArray) (w : World) (hs : s.size ≤ 1048576) (hG : Glob8 w) (h : NameP s) :
    Calls Tryd.prog 10 #[.string s] w fun e w' => e = .returned (.int .i64 0) ∧ Below w.heap.size w w' := by
  refine (ncheck_any s w hs hG).mono ?_
  rintro e w' ⟨x, rfl, hx, hb⟩
  rcases hx with ⟨rfl, _⟩ | ⟨_, h2⟩
  · exact ⟨rfl, hb⟩
  · exact absurd h h2
theorem ncheck_no (s : ByteArray) (w : World) (hs : s.size ≤ 1048576) (hG : Glob8 w) (h : ¬ NameP s) :
    Calls Tryd.prog 10 #[.string s] w fun e w' => e = .returned (.int .i64 80) ∧ Below w.heap.size w w' := by
  refine (ncheck_any s w hs hG).mono ?_
  rintro e w' ⟨x, rfl, hx, hb⟩
  rcases hx with ⟨_, h2⟩ | ⟨rfl, _⟩
  · exact absurd h2 h
  · exact ⟨rfl, hb⟩
theorem strs_abc (w : World) (x y z : ByteArray) (e : TypeId) : StrsAt (w.alloc (.cells #[.string x, .string y, .string z] e)) (some ⟨w.heap.size, 0, none⟩) 3 [x, y, z] := by
  refine ⟨rfl, .inr ⟨w.heap.size, 0, rfl, fun i hi => ?_⟩⟩
  match i, hi with
  | 0, _ => simp [strL]
  | 1, _ => simp [strL]
  | 2, _ => simp [strL]

def etT : ByteArray := ⟨#[195, 169, 116, 195, 169]⟩
theorem et_count : countR etT = 3 := by decide +kernel
theorem et_name : NameP etT := by
  refine ⟨⟨?_, ?_, by decide, by decide +kernel, by decide +kernel⟩, fun k hk => ?_, by rw [et_count]; decide⟩
  · rw [toList_data]; decide
  · rw [toList_data]; decide
  · rw [et_count] at hk
    unfold goodX
    match k, hk with
    | 0, _ => decide +kernel
    | 1, _ => decide +kernel
    | 2, _ => decide +kernel
theorem ab_count : countR ⟨#[97, 47, 98]⟩ = 3 := by decide +kernel
theorem ab_not : ¬ NameP ⟨#[97, 47, 98]⟩ := by
  rintro ⟨_, h, _⟩
  have h1 := h 1 (by rw [ab_count]; decide)
  unfold goodX at h1
  revert h1
  decide +kernel
theorem et_cut : cutR etT 2 = ⟨#[195, 169, 116]⟩ := by decide +kernel
theorem abz_fold : foldB ⟨#[65, 66, 122]⟩ = ⟨#[97, 98, 122]⟩ := by decide +kernel
theorem aba_dist : distF [⟨#[97]⟩, ⟨#[98]⟩, ⟨#[97]⟩] 3 = [⟨#[97]⟩, ⟨#[98]⟩, ⟨#[97, 126, 50]⟩] := by decide +kernel

set_option maxRecDepth 100000 in
set_option maxHeartbeats 4000000 in
theorem awake8 (w : World) (hG : Glob8 w) :
    Calls Tryd.prog 9 #[] w fun e w' => e = .returned (.bool true) ∧ Below w.heap.size w w' := by
  have C1 : Hid (Calls Tryd.prog 10 #[.string ⟨#[195, 169, 116, 195, 169]⟩] w fun e w' => e = .returned (.int .i64 0) ∧ Below w.heap.size w w') := ncheck_yes etT w (by decide) hG et_name
  have C2 : Hid (∀ w1, Below w.heap.size w w1 → Calls Tryd.prog 10 #[.string ⟨#[97, 47, 98]⟩] w1 fun e w' => e = .returned (.int .i64 80) ∧ Below w1.heap.size w1 w') := fun w1 hb => ncheck_no ⟨#[97, 47, 98]⟩ w1 (by decide) (hG.below hb) ab_not
  have C3 : Hid (∀ w, Calls Tryd.prog 12 #[.string ⟨#[195, 169, 116, 195, 169]⟩] w fun e w' => e = .returned (.int .i64 3) ∧ Below w.heap.size w w') := by
    intro w; have := ncount_any etT w (by decide); rw [et_count] at this; exact this
  have C4 : Hid (∀ w, Calls Tryd.prog 14 #[.string ⟨#[195, 169, 116, 195, 169]⟩, .int .i64 2] w fun e w' => e = .returned (.string ⟨#[195, 169, 116]⟩) ∧ Below w.heap.size w w') := by
    intro w; have := ncut_any etT 2 w (by decide) (by decide); rw [show cutR etT (2 : Int).toNat = ⟨#[195, 169, 116]⟩ from et_cut] at this; exact this
  have C5 : Hid (∀ w, Calls Tryd.prog 16 #[.string ⟨#[65, 66, 122]⟩] w fun e w' => e = .returned (.string ⟨#[97, 98, 122]⟩) ∧ Below w.heap.size w w') := by
    intro w; have := nfold_any ⟨#[65, 66, 122]⟩ w (by decide); rw [abz_fold] at this; exact this
  have C6 : Hid (∀ w : World, Calls Tryd.prog 20 #[.slice (some ⟨w.heap.size, 0, none⟩) 3 3] (w.alloc (.cells #[.string ⟨#[97]⟩, .string ⟨#[98]⟩, .string ⟨#[97]⟩] 9)) fun e w' => ∃ a c, e = .returned (.slice a 3 c) ∧ StrsAt w' a 3 [⟨#[97]⟩, ⟨#[98]⟩, ⟨#[97, 126, 50]⟩] ∧ Below w.heap.size w w') := by
    intro w
    have := ndistinct_any [⟨#[97]⟩, ⟨#[98]⟩, ⟨#[97]⟩] (some ⟨w.heap.size, 0, none⟩) 3 3 _ (by decide) (fun i hi => by match i, hi with | 0, _ => decide | 1, _ => decide | 2, _ => decide) (strs_abc w ⟨#[97]⟩ ⟨#[98]⟩ ⟨#[97]⟩ 9)
    refine this.mono ?_
    rintro e w' ⟨a, c, rfl, hS, hb⟩
    rw [aba_dist] at hS
    exact ⟨a, c, rfl, hS, below_step (below_new w _) (Nat.le_refl _) hb⟩
  clear hG
  go_enter Tryd.func9, Tryd.ntmps9
  go_wp2_with fail
  refine C1.out.mono ?_
  rintro e w1 ⟨rfl, hb1⟩
  clear C1
  go_wp2_with fail
  refine (C2.out _ hb1).mono ?_
  rintro e w2 ⟨rfl, hb2⟩
  have hB2 := below_step hb1 (Nat.le_refl _) hb2
  clear C2 hb1 hb2
  go_wp2_with fail
  refine (C3.out _).mono ?_
  rintro e w3 ⟨rfl, hb3⟩
  have hB3 := below_step hB2 (Nat.le_refl _) hb3
  clear C3 hB2 hb3
  go_wp2_with fail
  refine (C4.out _).mono ?_
  rintro e w4 ⟨rfl, hb4⟩
  have hB4 := below_step hB3 (Nat.le_refl _) hb4
  clear C4 hB3 hb4
  go_wp2_with fail
  refine (C5.out _).mono ?_
  rintro e w5 ⟨rfl, hb5⟩
  have hB5 := below_step hB4 (Nat.le_refl _) hb5
  clear C5 hB4 hb5
  go_wp2_with fail
  refine (C6.out _).mono ?_
  rintro e w6 ⟨a, c, rfl, hS, hb6⟩
  have hB6 := below_step hB5 (Nat.le_refl _) hb6
  have C7 : Hid (∀ x y z, StrsAt (w6.alloc (.cells #[.string x, .string y, .string z] 9)) (some ⟨w6.heap.size, 0, none⟩) 3 [x, y, z] → Calls Tryd.prog 19 #[.slice a 3 c, .slice (some ⟨w6.heap.size, 0, none⟩) 3 3] (w6.alloc (.cells #[.string x, .string y, .string z] 9)) fun e w' => e = .returned (.bool (decide ([⟨#[97]⟩, ⟨#[98]⟩, ⟨#[97, 126, 50]⟩] = [x, y, z]))) ∧ Below w6.heap.size w6 w') := by
    intro x y z h
    refine (rsame_any _ _ a _ 3 3 c 3 _ (by decide) (by decide) (hS.below (below_new w6 _)) h).mono ?_
    rintro e w' ⟨rfl, hb⟩
    exact ⟨rfl, below_step (below_new w6 _) (Nat.le_refl _) hb⟩
  clear C6 hB5 hb6 hS
  go_wp2_with fail
  refine (C7.out _ _ _ (strs_abc w6 _ _ _ _)).mono ?_
  rintro e w7 ⟨rfl, hb7⟩
  have hB7 := below_step hB6 (Nat.le_refl _) hb7
  clear C7 hB6 hb7
  go_wp2_with fail
  go_ret
  exact ⟨by rfl, hB7⟩
theorem awake8_on (w w' : World) (hG : Glob8 w) (hb : Below w.heap.size w w') :
    Calls Tryd.prog 9 #[] w' fun e w'' => e = .returned (.bool true) ∧ Below w.heap.size w w'' := by
  refine (awake8 w' (hG.below hb)).mono ?_
  rintro e w'' ⟨rfl, hb2⟩
  exact ⟨rfl, below_step hb (Nat.le_refl _) hb2⟩
end Go.Proofs.YtpabafkgcofhdaaDoor
