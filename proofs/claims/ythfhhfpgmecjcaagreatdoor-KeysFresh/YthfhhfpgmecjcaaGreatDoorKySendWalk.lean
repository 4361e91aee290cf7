/- The walk of KeysSend. -/
import Derived.Test.YthfhhfpgmecjcaaGreatDoorKyE
import Derived.Test.YthfhhfpgmecjcaaGreatDoorRKyB
namespace Go.Proofs.YthfhhfpgmecjcaaGreatDoor
open Go.RowKit
set_option maxRecDepth 100000
set_option linter.unusedSimpArgs false

theorem sendP_cases (key : ByteArray) (who : Int) : (key.size = 32 ∧ (sendP key who).2 = 0 ∧ (sendP key who).1.size = 32) ∨ sendP key who = (⟨#[]⟩, 1) := by
  unfold sendP
  by_cases h : key.size = 32 ∧ 1 ≤ who ∧ who ≤ 6
  · rw [if_pos h]; exact .inl ⟨h.1, rfl, expandB_size _ _ _⟩
  · rw [if_neg h]; exact .inr rfl
theorem keepP_yes (key : ByteArray) (h : key.size = 32) : (keepP key).1.size = 32 := by unfold keepP; rw [if_pos h]; exact expandB_size _ _ _


theorem on_world {f : Nat} {args : Array Value} {v : Value} (h : ∀ w, Tabs w → Calls Tryz.prog f args w fun e w' => e = .returned v ∧ Below w.heap.size w w') (w : World) (hT : Tabs w) :
    ∀ w', Below w.heap.size w w' → Calls Tryz.prog f args w' fun e w'' => e = .returned v ∧ Below w.heap.size w w'' := fun w' hb => by
  refine (h w' (hT.below hb)).mono ?_
  rintro e w'' ⟨rfl, hb2⟩
  exact ⟨rfl, below_step hb (Nat.le_refl _) hb2⟩

set_option maxHeartbeats 4000000 in
set_option maxRecDepth 100000 in
theorem keysSend_light (epoch : ByteArray) (who other : Int) (w : World) (hl : epoch.size ≤ 256) (hT : Tabs w) :
    Calls Tryz.prog 3 #[.string epoch, .int .i64 who, .int .i64 other] w fun e w' => e = .returned (.bool true) ∧ Below w.heap.size w w' := by
  have CL : Hid (∀ w, Calls Tryz.prog 7 #[.string epoch, .string ⟨#[]⟩] w fun e w' => e = .returned (.bool true) ∧ w' = w) := fun w => light15_any epoch ⟨#[]⟩ w true (by rw [decide_eq_true ⟨hl, by decide⟩])
  have CW : Hid (∀ w', Below w.heap.size w w' → _) := fun w' hb => awake15_on w w' hT hb
  have C1' := on_world (fun w h => ksend_any epoch who w h) w hT
  have C2' := on_world (fun w _ => rsend_any epoch who w) w hT
  have C3' := on_world (fun w h => kkeep_any epoch w h) w hT
  have C4' := on_world (fun w _ => rkeep_any epoch w) w hT
  have C5' := on_world (fun w h => ksend_any epoch other w h) w hT
  obtain ⟨A, ea, hA⟩ : ∃ A ea, sendP epoch who = (A, ea) := ⟨_, _, rfl⟩
  obtain ⟨X, ex, hX⟩ : ∃ X ex, sendP epoch other = (X, ex) := ⟨_, _, rfl⟩
  obtain ⟨C, ec, hC⟩ : ∃ C ec, keepP epoch = (C, ec) := ⟨_, _, rfl⟩
  have hs := sendP_cases epoch who
  have hx := sendP_cases epoch other
  have hc := keepP_yes epoch
  have hsame : who = other → A = X := fun e => by subst e; rw [hA] at hX; exact congrArg Prod.fst hX
  rw [hA] at C1' C2' hs
  rw [hX] at C5' hx
  rw [hC] at C3' C4' hc
  have C1 : Hid (∀ w', Below w.heap.size w w' → Calls Tryz.prog 9 #[.string epoch, .int .i64 who] w' fun e w'' => e = .returned (.tuple #[.string A, .int .i64 ea]) ∧ Below w.heap.size w w'') := C1'
  have C2 : Hid (∀ w', Below w.heap.size w w' → Calls Tryz.prog 10 #[.string epoch, .int .i64 who] w' fun e w'' => e = .returned (.tuple #[.string A, .int .i64 ea]) ∧ Below w.heap.size w w'') := C2'
  have C3 : Hid (∀ w', Below w.heap.size w w' → Calls Tryz.prog 11 #[.string epoch] w' fun e w'' => e = .returned (.tuple #[.string C, .int .i64 ec]) ∧ Below w.heap.size w w'') := C3'
  have C4 : Hid (∀ w', Below w.heap.size w w' → Calls Tryz.prog 12 #[.string epoch] w' fun e w'' => e = .returned (.tuple #[.string C, .int .i64 ec]) ∧ Below w.heap.size w w'') := C4'
  have C5 : Hid (∀ w', Below w.heap.size w w' → Calls Tryz.prog 9 #[.string epoch, .int .i64 other] w' fun e w'' => e = .returned (.tuple #[.string X, .int .i64 ex]) ∧ Below w.heap.size w w'') := C5'
  clear C1' C2' C3' C4' C5' hA hX hC hl hT
  rcases hs with ⟨hk, h1, h2⟩ | hs
  · have h1' : ea = 0 := h1
    have h2' : A.size = 32 := h2
    subst h1'
    rcases hx with ⟨_, h3, h4⟩ | hx
    · have h3' : ex = 0 := h3
      have hC32 : C.size = 32 := hc hk
      subst h3'
      by_cases hwo : who = other
      · have := hsame hwo
        subst this
        subst hwo
        clear hsame hc hk h1 h2 h3 h4
        go_enter Tryz.func3, Tryz.ntmps3
        go_wp2_with fail
        refine (CL.out w).mono ?_
        rintro e w0 ⟨rfl, hw0⟩
        rw [hw0]
        clear hw0 w0
        go_wp2_with fail
        refine (C1.out w (Below.refl _ _)).mono ?_
        rintro e w1 ⟨rfl, hb1⟩
        go_wp2_with fail
        refine (C2.out w1 hb1).mono ?_
        rintro e w2 ⟨rfl, hb2⟩
        clear hb1
        go_wp2_with fail
        refine (C3.out w2 hb2).mono ?_
        rintro e w3 ⟨rfl, hb3⟩
        clear hb2
        go_wp2_with fail
        refine (C4.out w3 hb3).mono ?_
        rintro e w4 ⟨rfl, hb4⟩
        clear hb3
        go_wp2_with fail
        refine (C5.out w4 hb4).mono ?_
        rintro e w5 ⟨rfl, hb5⟩
        clear hb4
        go_wp2_with fail
        refine (CW.out w5 hb5).mono ?_
        rintro e w6 ⟨rfl, hb6⟩
        go_wp2_with fail
        go_ret
        exact ⟨rfl, hb6⟩
      · have hwo2 : (who == other) = false := by simp [hwo]
        clear hsame hc hk h1 h2 h3 h4
        go_enter Tryz.func3, Tryz.ntmps3
        go_wp2_with fail
        refine (CL.out w).mono ?_
        rintro e w0 ⟨rfl, hw0⟩
        rw [hw0]
        clear hw0 w0
        go_wp2_with fail
        refine (C1.out w (Below.refl _ _)).mono ?_
        rintro e w1 ⟨rfl, hb1⟩
        go_wp2_with fail
        refine (C2.out w1 hb1).mono ?_
        rintro e w2 ⟨rfl, hb2⟩
        clear hb1
        go_wp2_with fail
        refine (C3.out w2 hb2).mono ?_
        rintro e w3 ⟨rfl, hb3⟩
        clear hb2
        go_wp2_with fail
        refine (C4.out w3 hb3).mono ?_
        rintro e w4 ⟨rfl, hb4⟩
        clear hb3
        go_wp2_with fail
        refine (C5.out w4 hb4).mono ?_
        rintro e w5 ⟨rfl, hb5⟩
        clear hb4
        go_wp2_with fail
        refine (CW.out w5 hb5).mono ?_
        rintro e w6 ⟨rfl, hb6⟩
        go_wp2_with fail
        go_ret
        exact ⟨rfl, hb6⟩
    · have h3' : ex = 1 := congrArg Prod.snd hx
      subst h3'
      clear hsame hc hk h1 h2 hx
      go_enter Tryz.func3, Tryz.ntmps3
      go_wp2_with fail
      refine (CL.out w).mono ?_
      rintro e w0 ⟨rfl, hw0⟩
      rw [hw0]
      clear hw0 w0
      go_wp2_with fail
      refine (C1.out w (Below.refl _ _)).mono ?_
      rintro e w1 ⟨rfl, hb1⟩
      go_wp2_with fail
      refine (C2.out w1 hb1).mono ?_
      rintro e w2 ⟨rfl, hb2⟩
      clear hb1
      go_wp2_with fail
      refine (C3.out w2 hb2).mono ?_
      rintro e w3 ⟨rfl, hb3⟩
      clear hb2
      go_wp2_with fail
      refine (C4.out w3 hb3).mono ?_
      rintro e w4 ⟨rfl, hb4⟩
      clear hb3
      go_wp2_with fail
      refine (C5.out w4 hb4).mono ?_
      rintro e w5 ⟨rfl, hb5⟩
      clear hb4
      go_wp2_with fail
      refine (CW.out w5 hb5).mono ?_
      rintro e w6 ⟨rfl, hb6⟩
      go_wp2_with fail
      go_ret
      exact ⟨rfl, hb6⟩
  · have h1' : ea = 1 := congrArg Prod.snd hs
    subst h1'
    clear hsame hc hs hx
    go_enter Tryz.func3, Tryz.ntmps3
    go_wp2_with fail
    refine (CL.out w).mono ?_
    rintro e w0 ⟨rfl, hw0⟩
    rw [hw0]
    clear hw0 w0
    go_wp2_with fail
    refine (C1.out w (Below.refl _ _)).mono ?_
    rintro e w1 ⟨rfl, hb1⟩
    go_wp2_with fail
    refine (C2.out w1 hb1).mono ?_
    rintro e w2 ⟨rfl, hb2⟩
    clear hb1
    go_wp2_with fail
    refine (C3.out w2 hb2).mono ?_
    rintro e w3 ⟨rfl, hb3⟩
    clear hb2
    go_wp2_with fail
    refine (C4.out w3 hb3).mono ?_
    rintro e w4 ⟨rfl, hb4⟩
    clear hb3
    go_wp2_with fail
    refine (C5.out w4 hb4).mono ?_
    rintro e w5 ⟨rfl, hb5⟩
    clear hb4
    go_wp2_with fail
    refine (CW.out w5 hb5).mono ?_
    rintro e w6 ⟨rfl, hb6⟩
    go_wp2_with fail
    go_ret
    exact ⟨rfl, hb6⟩

set_option maxHeartbeats 1000000 in
theorem keysSend_walk (epoch : ByteArray) (who other : Int) (w : World) (hT : Tabs w) :
    Calls Tryz.prog 3 #[.string epoch, .int .i64 who, .int .i64 other] w fun e w' => e = .returned (.bool true) ∧ Below w.heap.size w w' := by
  by_cases hl : epoch.size ≤ 256
  · exact keysSend_light epoch who other w hl hT
  · have CL : Hid (∀ w, Calls Tryz.prog 7 #[.string epoch, .string ⟨#[]⟩] w fun e w' => e = .returned (.bool false) ∧ w' = w) := fun w => light15_any epoch ⟨#[]⟩ w false (by rw [decide_eq_false (fun h => hl h.1)])
    have CW : Hid (∀ w', Below w.heap.size w w' → _) := fun w' hb => awake15_on w w' hT hb
    clear hT hl
    go_enter Tryz.func3, Tryz.ntmps3
    go_wp2_with fail
    refine (CL.out w).mono ?_
    rintro e w0 ⟨rfl, hw0⟩
    rw [hw0]
    clear hw0 w0
    go_wp2_with fail
    refine (CW.out w (Below.refl _ _)).mono ?_
    rintro e w6 ⟨rfl, hb6⟩
    go_wp2_with fail
    go_ret
    exact ⟨rfl, hb6⟩
end Go.Proofs.YthfhhfpgmecjcaaGreatDoor
