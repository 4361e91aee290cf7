/- The walk of KeysFresh. -/
import Derived.Test.YthfhhfpgmecjcaaGreatDoorKySendWalk
namespace Go.Proofs.YthfhhfpgmecjcaaGreatDoor
open Go.RowKit
set_option maxRecDepth 100000
set_option linter.unusedSimpArgs false

theorem freshP_cases (seed : ByteArray) (n : Int) : ((freshP seed n).2 = 0 ∧ (freshP seed n).1.size = 32) ∨ freshP seed n = (⟨#[]⟩, 1) := by
  unfold freshP
  by_cases h : seed.size ≤ 64 ∧ 1 ≤ n ∧ n ≤ 1099511627775
  · rw [if_pos h]; exact .inl ⟨rfl, expandB_size _ _ _⟩
  · rw [if_neg h]; exact .inr rfl


set_option maxHeartbeats 4000000 in
set_option maxRecDepth 100000 in
theorem keysFresh_light (seed : ByteArray) (a b : Int) (w : World) (hl : seed.size ≤ 256) (hT : Tabs w) :
    Calls Tryz.prog 6 #[.string seed, .int .i64 a, .int .i64 b] w fun e w' => e = .returned (.bool true) ∧ Below w.heap.size w w' := by
  have CL : Hid (∀ w, Calls Tryz.prog 7 #[.string seed, .string ⟨#[]⟩] w fun e w' => e = .returned (.bool true) ∧ w' = w) := fun w => light15_any seed ⟨#[]⟩ w true (by rw [decide_eq_true ⟨hl, by decide⟩])
  have CW : Hid (∀ w', Below w.heap.size w w' → _) := fun w' hb => awake15_on w w' hT hb
  have C1' := on_world (fun w h => kfresh_any seed a w h) w hT
  have C2' := on_world (fun w _ => rfresh_any seed a w) w hT
  have C3' := on_world (fun w h => kfresh_any seed b w h) w hT
  obtain ⟨A, ea, hA⟩ : ∃ A ea, freshP seed a = (A, ea) := ⟨_, _, rfl⟩
  obtain ⟨X, ex, hX⟩ : ∃ X ex, freshP seed b = (X, ex) := ⟨_, _, rfl⟩
  have hs := freshP_cases seed a
  have hsame : a = b → A = X ∧ ea = ex := fun e => by subst e; rw [hA] at hX; exact ⟨congrArg Prod.fst hX, congrArg Prod.snd hX⟩
  rw [hA] at C1' C2' hs
  rw [hX] at C3'
  have C1 : Hid (∀ w', Below w.heap.size w w' → Calls Tryz.prog 17 #[.string seed, .int .i64 a] w' fun e w'' => e = .returned (.tuple #[.string A, .int .i64 ea]) ∧ Below w.heap.size w w'') := C1'
  have C2 : Hid (∀ w', Below w.heap.size w w' → Calls Tryz.prog 18 #[.string seed, .int .i64 a] w' fun e w'' => e = .returned (.tuple #[.string A, .int .i64 ea]) ∧ Below w.heap.size w w'') := C2'
  have C3 : Hid (∀ w', Below w.heap.size w w' → Calls Tryz.prog 17 #[.string seed, .int .i64 b] w' fun e w'' => e = .returned (.tuple #[.string X, .int .i64 ex]) ∧ Below w.heap.size w w'') := C3'
  clear C1' C2' C3' hA hX hl hT
  rcases hs with ⟨h1, h2⟩ | hs
  · have h1' : ea = 0 := h1
    have h2' : A.size = 32 := h2
    by_cases hwo : a = b
    · obtain ⟨e1, e2⟩ := hsame hwo
      subst e1 e2 hwo
      subst h1'
      clear hsame h1 h2
      go_enter Tryz.func6, Tryz.ntmps6
      go_wp2_with fail
      refine (CL.out w).mono ?_
      rintro e w0 ⟨rfl, hw0⟩
      rw [hw0]
      clear hw0 w0
      go_wp2_with fail
      refine (C1.out w (Below.refl _ _)).mono ?_
      rintro e w1 ⟨rfl, hb1⟩
      go_wp2_with fail
      refine (C2.out w1 hb1).mono ?_
      rintro e w2 ⟨rfl, hb2⟩
      clear hb1
      go_wp2_with fail
      refine (C3.out w2 hb2).mono ?_
      rintro e w3 ⟨rfl, hb3⟩
      clear hb2
      go_wp2_with fail
      refine (CW.out w3 hb3).mono ?_
      rintro e w6 ⟨rfl, hb6⟩
      go_wp2_with fail
      go_ret
      exact ⟨rfl, hb6⟩
    · have hwo2 : (a == b) = false := by simp [hwo]
      subst h1'
      clear hsame h1 h2
      go_enter Tryz.func6, Tryz.ntmps6
      go_wp2_with fail
      refine (CL.out w).mono ?_
      rintro e w0 ⟨rfl, hw0⟩
      rw [hw0]
      clear hw0 w0
      go_wp2_with fail
      refine (C1.out w (Below.refl _ _)).mono ?_
      rintro e w1 ⟨rfl, hb1⟩
      go_wp2_with fail
      refine (C2.out w1 hb1).mono ?_
      rintro e w2 ⟨rfl, hb2⟩
      clear hb1
      go_wp2_with fail
      refine (C3.out w2 hb2).mono ?_
      rintro e w3 ⟨rfl, hb3⟩
      clear hb2
      go_wp2_with fail
      refine (CW.out w3 hb3).mono ?_
      rintro e w6 ⟨rfl, hb6⟩
      go_wp2_with fail
      go_ret
      exact ⟨rfl, hb6⟩
  · have h1' : ea = 1 := congrArg Prod.snd hs
    subst h1'
    clear hsame hs
    go_enter Tryz.func6, Tryz.ntmps6
    go_wp2_with fail
    refine (CL.out w).mono ?_
    rintro e w0 ⟨rfl, hw0⟩
    rw [hw0]
    clear hw0 w0
    go_wp2_with fail
    refine (C1.out w (Below.refl _ _)).mono ?_
    rintro e w1 ⟨rfl, hb1⟩
    go_wp2_with fail
    refine (C2.out w1 hb1).mono ?_
    rintro e w2 ⟨rfl, hb2⟩
    clear hb1
    go_wp2_with fail
    refine (C3.out w2 hb2).mono ?_
    rintro e w3 ⟨rfl, hb3⟩
    clear hb2
    go_wp2_with fail
    refine (CW.out w3 hb3).mono ?_
    rintro e w6 ⟨rfl, hb6⟩
    go_wp2_with fail
    go_ret
    exact ⟨rfl, hb6⟩

set_option maxHeartbeats 1000000 in
theorem keysFresh_walk (seed : ByteArray) (a b : Int) (w : World) (hT : Tabs w) :
    Calls Tryz.prog 6 #[.string seed, .int .i64 a, .int .i64 b] w fun e w' => e = .returned (.bool true) ∧ Below w.heap.size w w' := by
  by_cases hl : seed.size ≤ 256
  · exact keysFresh_light seed a b w hl hT
  · have CL : Hid (∀ w, Calls Tryz.prog 7 #[.string seed, .string ⟨#[]⟩] w fun e w' => e = .returned (.bool false) ∧ w' = w) := fun w => light15_any seed ⟨#[]⟩ w false (by rw [decide_eq_false (fun h => hl h.1)])
    have CW : Hid (∀ w', Below w.heap.size w w' → _) := fun w' hb => awake15_on w w' hT hb
    clear hT hl
    go_enter Tryz.func6, Tryz.ntmps6
    go_wp2_with fail
    refine (CL.out w).mono ?_
    rintro e w0 ⟨rfl, hw0⟩
    rw [hw0]
    clear hw0 w0
    go_wp2_with fail
    refine (CW.out w (Below.refl _ _)).mono ?_
    rintro e w6 ⟨rfl, hb6⟩
    go_wp2_with fail
    go_ret
    exact ⟨rfl, hb6⟩
end Go.Proofs.YthfhhfpgmecjcaaGreatDoor
