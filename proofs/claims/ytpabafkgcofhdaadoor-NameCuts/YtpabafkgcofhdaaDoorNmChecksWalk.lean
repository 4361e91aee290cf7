/- The walk of NameChecks. -/
import Derived.Test.YtpabafkgcofhdaaDoorNmAwake
namespace Go.Proofs.YtpabafkgcofhdaaDoor
open Go.RowKit
set_option linter.unusedSimpArgs false

/-- Whether a text is a name, from a world behind the first one. -/
theorem ncheck_on (s : ByteArray) (x : Int) (hx : NameE s x) (w w' : World) (hG : Glob8 w) (hb : Below w.heap.size w w') (hs : s.size ≤ 1048576) :
    Calls Tryd.prog 10 #[.string s] w' fun e w'' => e = .returned (.int .i64 x) ∧ Below w.heap.size w w'' := by
  refine (ncheck_any s w' hs (hG.below hb)).mono ?_
  rintro e w'' ⟨y, rfl, hy, hb2⟩
  rw [NameE.uniq hy hx]
  exact ⟨rfl, below_step hb (Nat.le_refl _) hb2⟩
theorem rcheck_on (s : ByteArray) (x : Int) (hx : NameE s x) (w w' : World) (hb : Below w.heap.size w w') (hs : s.size ≤ 1048576) :
    Calls Tryd.prog 11 #[.string s] w' fun e w'' => e = .returned (.int .i64 x) ∧ Below w.heap.size w w'' := by
  refine (rcheckN_any s w' hs).mono ?_
  rintro e w'' ⟨y, rfl, hy, rfl⟩
  rw [NameE.uniq hy hx]
  exact ⟨rfl, hb⟩
theorem ncount_on (s : ByteArray) (n : Nat) (hn : countR s = n) (w w' : World) (hb : Below w.heap.size w w') (hs : s.size ≤ 1048576) :
    Calls Tryd.prog 12 #[.string s] w' fun e w'' => e = .returned (.int .i64 (n : Int)) ∧ Below w.heap.size w w'' := by
  subst hn
  refine (ncount_any s w' hs).mono ?_
  rintro e w'' ⟨rfl, hb2⟩
  exact ⟨rfl, below_step hb (Nat.le_refl _) hb2⟩
theorem ncut_on (s : ByteArray) (n : Int) (t : ByteArray) (ht : cutR s n.toNat = t) (w w' : World) (hb : Below w.heap.size w w') (hs : s.size ≤ 1048576) (hn : n ≤ 9223372036854775807) :
    Calls Tryd.prog 14 #[.string s, .int .i64 n] w' fun e w'' => e = .returned (.string t) ∧ Below w.heap.size w w'' := by
  subst ht
  refine (ncut_any s n w' hs hn).mono ?_
  rintro e w'' ⟨rfl, hb2⟩
  exact ⟨rfl, below_step hb (Nat.le_refl _) hb2⟩
theorem nfold_on (s t : ByteArray) (ht : foldB s = t) (w w' : World) (hb : Below w.heap.size w w') (hs : s.size ≤ 1048576) :
    Calls Tryd.prog 16 #[.string s] w' fun e w'' => e = .returned (.string t) ∧ Below w.heap.size w w'' := by
  subst ht
  refine (nfold_any s w' hs).mono ?_
  rintro e w'' ⟨rfl, hb2⟩
  exact ⟨rfl, below_step hb (Nat.le_refl _) hb2⟩
theorem nameE_is (s : ByteArray) : ∃ x, NameE s x := by
  by_cases h : NameP s
  · exact ⟨0, .inl ⟨rfl, h⟩⟩
  · exact ⟨80, .inr ⟨rfl, h⟩⟩

set_option maxHeartbeats 2000000 in
theorem nameChecks_walk (s : ByteArray) (w : World) (hG : Glob8 w) :
    Calls Tryd.prog 3 #[.string s] w fun e w' => e = .returned (.bool true) ∧ Below w.heap.size w w' := by
  have C : Hid (∀ w', Below w.heap.size w w' → _) := fun w' hb => awake8_on w w' hG hb
  by_cases hs : s.size ≤ 1024
  · have g0 : decide ((1024 : Int) < (s.size : Int)) = false := by simp; omega
    obtain ⟨x, hx⟩ := nameE_is s
    obtain ⟨n, hn⟩ : ∃ n, countR s = n := ⟨_, rfl⟩
    have C1 : Hid (∀ w', Below w.heap.size w w' → _) := fun w' hb => ncheck_on s x hx w w' hG hb (by omega)
    have C2 : Hid (∀ w', Below w.heap.size w w' → _) := fun w' hb => rcheck_on s x hx w w' hb (by omega)
    have C3 : Hid (∀ w', Below w.heap.size w w' → _) := fun w' hb => ncount_on s n hn w w' hb (by omega)
    have C4' := fun w => rcount_any s w (by omega)
    rw [hn] at C4'
    have C4 : Hid (∀ w, _) := C4'
    clear hx hn C4' hs hG
    go_enter Tryd.func3, Tryd.ntmps3
    go_wp2_with fail
    refine (C1.out _ (Below.refl _ _)).mono ?_
    rintro e w1 ⟨rfl, hb1⟩
    clear C1
    go_wp2_with fail
    refine (C2.out _ hb1).mono ?_
    rintro e w2 ⟨rfl, hb2⟩
    clear C2 hb1
    go_wp2_with fail
    refine (C3.out _ hb2).mono ?_
    rintro e w3 ⟨rfl, hb3⟩
    clear C3 hb2
    go_wp2_with fail
    refine (C4.out _).mono ?_
    rintro e w4 ⟨rfl, rfl⟩
    clear C4
    go_wp2_with fail
    refine (C.out _ hb3).mono ?_
    rintro e w5 ⟨rfl, hb5⟩
    go_wp2_with fail
    go_ret
    exact ⟨rfl, hb5⟩
  · have g0 : decide ((1024 : Int) < (s.size : Int)) = true := by simp; omega
    clear hs hG
    go_enter Tryd.func3, Tryd.ntmps3
    go_wp2_with fail
    refine (C.out _ (Below.refl _ _)).mono ?_
    rintro e w5 ⟨rfl, hb5⟩
    go_wp2_with fail
    go_ret
    exact ⟨rfl, hb5⟩
end Go.Proofs.YtpabafkgcofhdaaDoor
