/- Layer 9's laws: awake. -/
import Derived.Test.YtmpjhflbmngajaaCdK
namespace Go.Proofs.Ytmpjhflbmngajaa
open Go.RowKit
set_option linter.unusedSimpArgs false

/-- What an Out of the call's own, and its row, leave below B as it was. -/
theorem OutTo.below {w w' : World} {g : Nat} {v : Value} {o : ByteArray × Bool} (h : OutTo w g v o w') (B : Nat) (hB : B ≤ w.heap.size) (hg : B ≤ g) (hr : ∀ k, v.ownBlock = some k → B ≤ k) :
    ∃ v', OutAt w' g v' o ∧ Below B w w' ∧ ∀ k, v'.ownBlock = some k → B ≤ k := by
  obtain ⟨v', a, k, n⟩ := h
  refine ⟨v', a, k.below B hB hg hr, fun j hj => ?_⟩
  rcases n j hj with h' | h'
  · exact hr j h'
  · omega
theorem InTo.below {w w' : World} {g : Nat} {i : ByteArray × Int} (h : InTo w g i w') (B : Nat) (hB : B ≤ w.heap.size) (hg : B ≤ g) : Below B w w' := h.2.below B hB hg (fun k hk => by cases hk)
theorem OutAt.kept {w w' : World} {g g' : Nat} {v : Value} {o : ByteArray × Bool} (h : OutAt w g v o) (k : Kept2 g' none w w') (hg : g ≠ g') (hv : v.ownBlock ≠ some g') : OutAt w' g v o := by
  obtain ⟨S, b⟩ := o
  cases b with
  | true => exact OutAt.bad.2 ⟨Blk.kept (OutAt.bad.1 h).1 k hg (by simp), (OutAt.bad.1 h).2⟩
  | false =>
    obtain ⟨h1, h2, h3⟩ := OutAt.ok.1 h
    exact OutAt.ok.2 ⟨h1.kept k hg (by simp), h2.kept k hv (by
      cases hq : v.ownBlock with
      | none => exact Or.inl rfl
      | some x => exact Or.inr (by simp)), h3⟩
theorem InAt.kept {w w' : World} {g g' : Nat} {r : Option Nat} {i : ByteArray × Int} (h : InAt w g i) (k : Kept2 g' r w w') (hg : g ≠ g') (hr : some g ≠ r) : InAt w' g i := ⟨h.1.kept k hg hr, h.2⟩

theorem aout1 : numP (ByteArray.empty, false) 258 6 1099511627775 = (⟨#[0, 0, 0, 0, 1, 2]⟩, false) := by decide +kernel
theorem aout2 : textP (⟨#[0, 0, 0, 0, 1, 2]⟩, false) ⟨#[97, 98]⟩ = (⟨#[0, 0, 0, 0, 1, 2, 0, 2, 97, 98]⟩, false) := by decide +kernel
theorem ain1 : inNumP (⟨#[0, 0, 0, 0, 1, 2, 0, 2, 97, 98]⟩, 0) = ((⟨#[0, 2, 97, 98]⟩, 0), 258) := by decide +kernel
theorem ain2 : inTextC (⟨#[0, 2, 97, 98]⟩, 0) 2 = ((⟨#[]⟩, 0), ⟨#[97, 98]⟩) := by decide +kernel

set_option maxHeartbeats 4000000 in
set_option maxRecDepth 100000 in
theorem awake9 (w : World) : Calls Try.prog 10 #[] w fun e w' => e = .returned (.bool true) ∧ Below w.heap.size w w' := by
  go_enter Try.func10, Try.ntmps10
  go_wp2_with fail
  refine (newOut_any _).mono ?_
  rintro e w1 ⟨rfl, h1, b1⟩
  have H1 : Hid (OutAt w1 w.heap.size (.slice none 0 0) (ByteArray.empty, false)) := OutAt.ok.2 h1
  have B1 : Hid (Below w.heap.size w w1) := b1
  have l1 := b1.size
  clear h1 b1
  go_wp2_with fail
  have C1 := onum_any w.heap.size (.slice none 0 0) _ 258 _ H1.out
  rw [aout1] at C1
  refine C1.mono ?_
  clear C1
  rintro e w2 ⟨rfl, h2⟩
  obtain ⟨v2, a2, b2, r2⟩ := h2.below w.heap.size l1 (Nat.le_refl _) (fun k hk => by simp [Value.ownBlock] at hk)
  have H2 : Hid (OutAt w2 w.heap.size v2 (⟨#[0, 0, 0, 0, 1, 2]⟩, false)) := a2
  have B2 : Hid (Below w.heap.size w w2) := B1.out.trans b2
  have R2 : Hid (∀ k, v2.ownBlock = some k → w.heap.size ≤ k) := r2
  have l2 := B2.out.size
  clear h2 a2 b2 r2
  go_wp2_with fail
  have C1 := otext_any w.heap.size v2 _ ⟨#[97, 98]⟩ _ H2.out
  rw [aout2] at C1
  refine C1.mono ?_
  clear C1
  rintro e w3 ⟨rfl, h3⟩
  obtain ⟨v3, a3, b3, r3⟩ := h3.below w.heap.size l2 (Nat.le_refl _) R2.out
  have H3 : Hid (OutAt w3 w.heap.size v3 (⟨#[0, 0, 0, 0, 1, 2, 0, 2, 97, 98]⟩, false)) := a3
  have B3 : Hid (Below w.heap.size w w3) := B2.out.trans b3
  have l3 := B3.out.size
  clear h3 a3 b3 r3
  go_wp2_with fail
  refine (odone_any w.heap.size v3 _ _ H3.out).mono ?_
  rintro e w4 ⟨rfl, hw4⟩
  subst hw4
  have hdn : doneP (⟨#[0, 0, 0, 0, 1, 2, 0, 2, 97, 98]⟩, false) = .tuple #[.string ⟨#[0, 0, 0, 0, 1, 2, 0, 2, 97, 98]⟩, .int .i64 0] := rfl
  rw [hdn]
  clear hdn
  go_wp2_with fail
  refine (newIn_any _ _ (by decide)).mono ?_
  rintro e w5 ⟨rfl, h5, b5⟩
  have H5 : Hid (InAt w5 w4.heap.size (⟨#[0, 0, 0, 0, 1, 2, 0, 2, 97, 98]⟩, 0)) := h5
  have B5 : Hid (Below w.heap.size w w5) := below_step B3.out (Nat.le_refl _) b5
  have l5 := B5.out.size
  clear h5 b5
  go_wp2_with fail
  have C1 := inum_any w4.heap.size _ _ H5.out
  rw [ain1] at C1
  refine C1.mono ?_
  clear C1
  rintro e w6 ⟨rfl, h6⟩
  have H6 : Hid (InAt w6 w4.heap.size (⟨#[0, 2, 97, 98]⟩, 0)) := h6.1
  have B6 : Hid (Below w.heap.size w w6) := B5.out.trans (h6.below w.heap.size l5 l3)
  have l6 := B6.out.size
  clear h6
  go_wp2_with fail
  have C1 := itext_any w4.heap.size _ 2 _ H6.out
  rw [ain2] at C1
  refine C1.mono ?_
  clear C1
  rintro e w7 ⟨rfl, h7⟩
  have H7 : Hid (InAt w7 w4.heap.size (⟨#[]⟩, 0)) := h7.1
  have B7 : Hid (Below w.heap.size w w7) := B6.out.trans (h7.below w.heap.size l6 l3)
  clear h7
  go_wp2_with fail
  have C1 := idone_any w4.heap.size _ _ H7.out
  rw [show inDoneP (⟨#[]⟩, 0) = 0 from rfl] at C1
  refine C1.mono ?_
  clear C1
  rintro e w8 ⟨rfl, hw8⟩
  subst hw8
  go_wp2
  go_ret
  exact ⟨rfl, B7.out⟩
end Go.Proofs.Ytmpjhflbmngajaa
