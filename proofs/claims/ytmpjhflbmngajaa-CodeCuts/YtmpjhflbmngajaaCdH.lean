/- The code's In (layer 9): bytes taken; the number that bytes are; numbers read. -/
import Derived.Test.YtmpjhflbmngajaaCdG
namespace Go.Proofs.Ytmpjhflbmngajaa
open Go.RowKit
set_option linter.unusedSimpArgs false

set_option maxRecDepth 100000 in
set_option maxHeartbeats 2000000 in
theorem cread_any (S : ByteArray) (w : World) (hs : S.size ≤ 6) :
    Calls Try.prog 31 #[.string S] w fun x w' => x = .returned (.int .i64 (accB S S.size : Int)) ∧ w' = w := by
  have HL : Hid (∀ k, k ≤ 6 → accB S k < 281474976710656) := fun k hk => Nat.lt_of_le_of_lt (Nat.le_refl _) (Nat.lt_of_lt_of_le (accB_lt S k) (Nat.le_trans (Nat.pow_le_pow_right (by decide) hk) (by decide)))
  have HA : Hid (∀ k, accB S (k + 1) = accB S k * 256 + bt S k) := fun k => rfl
  have H0 : Hid (accB S 0 = 0) := rfl
  obtain ⟨f, Hf⟩ : ∃ f, Hid (f = accB S) := ⟨_, rfl⟩
  rw [← Hf.out] at HL HA H0
  rw [← Hf.out]
  obtain ⟨V, HV⟩ : ∃ V, Hid (V = f S.size) := ⟨_, rfl⟩
  rw [← HV.out]
  clear Hf
  go_enter Try.func31, Try.ntmps31
  go_wp2_with fail
  go_loopw [3, 7] (fun x k wr => ∃ j X : Nat, j ≤ S.size ∧ k = .int .i64 j ∧ x = .int .i64 (X : Int) ∧ Hid (X = f j) ∧ wr = w) (fun _ k _ => S.size - (intOf k).toNat)
  case atStart => exact ⟨0, 0, Nat.zero_le _, rfl, rfl, H0.out.symm, rfl⟩
  case round =>
    obtain ⟨j, X, hj, rfl, rfl, HX, rfl⟩ := hrel
    by_cases hlt : j < S.size
    · have bk := bt_get S j hlt
      have lb := bt_lt S j
      have lX : X < 281474976710656 := by rw [HX.out]; exact HL.out j (by omega)
      have HN : Hid (X * 256 + bt S j = f (j + 1)) := by show _ = _; rw [HA.out, HX.out]
      have v2 := or256 X (bt S j) lX lb
      generalize bt S j = y at *
      obtain ⟨U, hU⟩ : ∃ U, U = X * 256 + y := ⟨_, rfl⟩
      rw [← hU] at v2 HN
      clear hU HX
      go_wp2
      refine ⟨⟨j + 1, U, by omega, by go_num, rfl, HN, by first | rfl | trivial⟩, ?_⟩
      simp [intOf]; omega
    · have hjm : j = S.size := by omega
      subst hjm
      have hX : X = V := by rw [HX.out, HV.out]
      subst hX
      clear HX HV
      go_wp2
      go_ret
      exact ⟨rfl, rfl⟩

/-- What n bytes are, that are taken, and what is left. -/
def takeS (i : ByteArray × Int) (n : Nat) : ByteArray := if i.2 ≠ 0 ∨ i.1.size < n then ⟨#[]⟩ else i.1.extract 0 n
def takeI (i : ByteArray × Int) (n : Nat) : ByteArray × Int := if i.2 ≠ 0 ∨ i.1.size < n then wrongP i 90 else (i.1.extract n i.1.size, i.2)
set_option maxRecDepth 100000 in
set_option maxHeartbeats 2000000 in
theorem itake_any (g : Nat) (i : ByteArray × Int) (n : Nat) (w : World) (h : InAt w g i) (hn : n ≤ 1048576) :
    Calls Try.prog 32 #[.pointer (some ⟨g, 0, none⟩), .int .i64 (n : Int)] w fun e w' => e = .returned (.string (takeS i n)) ∧ InTo w g (takeI i n) w' := by
  obtain ⟨S, c⟩ := i
  have HR : Hid (∀ w', w' = w → Calls Try.prog 19 #[.pointer (some ⟨g, 0, none⟩)] w' fun e w'' => e = .returned (.int .i64 (S.size : Int)) ∧ w'' = w') := fun w' e => by subst e; exact irest_any g _ _ h
  have HF : Hid (∀ w', w' = w → Calls Try.prog 33 #[.pointer (some ⟨g, 0, none⟩), .int .i64 90] w' fun e w'' => e = .returned (.tuple #[]) ∧ InTo w' g (wrongP (S, c) 90) w'') := fun w' e => by subst e; exact ifail_any g _ 90 _ h
  have HD : Hid (decide ((wrongP (S, c) 90).2 = 0) = false) := by
    show _ = _
    rw [decide_eq_false_iff_not]
    show ¬ (if c = 0 then (90 : Int) else c) = 0
    split <;> omega
  have hS : S.size ≤ 1048576 := h.2.2
  have hI : Hid (InAt w g (S, c)) := h
  have c1 : w.cell? ⟨g, 1, none⟩ = some (.string S) := h.1.cell 1
  have f1 := h.1.free 1
  clear h
  by_cases hc : c = 0
  · by_cases hz : S.size < n
    · have e1 : takeS (S, c) n = ⟨#[]⟩ := by unfold takeS; rw [if_pos (Or.inr hz)]
      have e2 : takeI (S, c) n = wrongP (S, c) 90 := by unfold takeI; rw [if_pos (Or.inr hz)]
      rw [e1, e2]
      clear e1 e2 hc
      go_enter Try.func32, Try.ntmps32
      go_wp2_with fail
      refine (HR.out _ rfl).mono ?_
      rintro e w1 ⟨rfl, rfl⟩
      go_wp2_with fail
      refine (HF.out _ rfl).mono ?_
      rintro e w2 ⟨rfl, h2⟩
      have H2 : Hid (InTo w1 g (wrongP (S, c) 90) w2) := h2
      clear h2
      go_wp2_with fail
      refine (iwell_any g _ _ H2.out.1).mono ?_
      rintro e w3 ⟨rfl, rfl⟩
      have hd : decide ((wrongP (S, c) 90).2 = 0) = false := HD.out
      go_wp2
      go_ret
      exact ⟨rfl, H2.out⟩
    · have e1 : takeS (S, c) n = S.extract 0 n := by unfold takeS; rw [if_neg (fun h => h.elim (fun h => h hc) hz)]
      have e2 : takeI (S, c) n = (S.extract n S.size, c) := by unfold takeI; rw [if_neg (fun h => h.elim (fun h => h hc) hz)]
      rw [e1, e2]
      clear e1 e2
      have HW : Hid (∀ w', w' = w → Calls Try.prog 34 #[.pointer (some ⟨g, 0, none⟩)] w' fun e w'' => e = .returned (.bool true) ∧ w'' = w') := fun w' e => by
        subst e
        have := iwell_any g (S, c) _ hI.out
        rw [show decide ((S, c).2 = 0) = true from decide_eq_true hc] at this
        exact this
      have HC : Hid (c = 0) := hc
      clear hc
      have i1 : (n : Int) ≤ (S.size : Int) := by omega
      have i2 : n ≤ S.size := by omega
      obtain ⟨A, hA⟩ : ∃ A, S.extract 0 n = A := ⟨_, rfl⟩
      obtain ⟨T, hT⟩ : ∃ T, S.extract n S.size = T := ⟨_, rfl⟩
      have HT : Hid (T.size ≤ 1048576) := by show _ ≤ _; rw [← hT, ByteArray.size_extract]; omega
      rw [hA, hT]
      go_enter Try.func32, Try.ntmps32
      go_wp2_with fail
      refine (HR.out _ rfl).mono ?_
      rintro e w1 ⟨rfl, rfl⟩
      go_wp2_with fail
      refine (HW.out _ rfl).mono ?_
      rintro e w2 ⟨rfl, rfl⟩
      go_wp2
      go_ret
      exact ⟨rfl, ⟨hI.out.1.setAt 1 _, fun h => absurd HC.out h, HT.out⟩, (Kept2.refl g none _).setCell ⟨g, 1, none⟩ rfl _⟩
  · have e1 : takeS (S, c) n = ⟨#[]⟩ := by unfold takeS; rw [if_pos (Or.inl hc)]
    have e2 : takeI (S, c) n = wrongP (S, c) 90 := by unfold takeI; rw [if_pos (Or.inl hc)]
    rw [e1, e2]
    clear e1 e2
    by_cases hz : S.size < n
    · clear hc
      go_enter Try.func32, Try.ntmps32
      go_wp2_with fail
      refine (HR.out _ rfl).mono ?_
      rintro e w1 ⟨rfl, rfl⟩
      go_wp2_with fail
      refine (HF.out _ rfl).mono ?_
      rintro e w2 ⟨rfl, h2⟩
      have H2 : Hid (InTo w1 g (wrongP (S, c) 90) w2) := h2
      clear h2
      go_wp2_with fail
      refine (iwell_any g _ _ H2.out.1).mono ?_
      rintro e w3 ⟨rfl, rfl⟩
      have hd : decide ((wrongP (S, c) 90).2 = 0) = false := HD.out
      go_wp2
      go_ret
      exact ⟨rfl, H2.out⟩
    · have e3 : wrongP (S, c) 90 = (S, c) := by
        have hw : S = ⟨#[]⟩ := hI.out.2.1 hc
        unfold wrongP; rw [if_neg hc, hw]
      have HW : Hid (∀ w', w' = w → Calls Try.prog 34 #[.pointer (some ⟨g, 0, none⟩)] w' fun e w'' => e = .returned (.bool false) ∧ w'' = w') := fun w' e => by
        subst e
        have := iwell_any g (S, c) _ hI.out
        rw [show decide ((S, c).2 = 0) = false from decide_eq_false hc] at this
        exact this
      rw [e3]
      clear e3 hc HD
      go_enter Try.func32, Try.ntmps32
      go_wp2_with fail
      refine (HR.out _ rfl).mono ?_
      rintro e w1 ⟨rfl, rfl⟩
      go_wp2_with fail
      refine (HW.out _ rfl).mono ?_
      rintro e w2 ⟨rfl, rfl⟩
      go_wp2
      go_ret
      exact ⟨rfl, InTo.same hI.out⟩
end Go.Proofs.Ytmpjhflbmngajaa
