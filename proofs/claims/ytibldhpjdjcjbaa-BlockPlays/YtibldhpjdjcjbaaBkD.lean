/- Layer 17: awake. -/
import Derived.Test.YtibldhpjdjcjbaaBkC
import Derived.Test.YtibldhpjdjcjbaaBdF
namespace Go.Proofs.Ytibldhpjdjcjbaa
open Go.RowKit
set_option maxRecDepth 100000
set_option linter.unusedSimpArgs false
set_option maxRecDepth 100000

theorem DevTo.trans {a b c : World} {g r : Nat} {D D' : DevT} (h1 : DevTo a g r D b) (h2 : DevTo b g r D' c) : DevTo a g r D' c := ⟨h2.1, h1.2.trans h2.2 (Nx.refl _ _)⟩
/-- A device at g, b, both of the call's own (from h on). -/
def DevB (w : World) (h : World) (g b : Nat) (D : DevT) : Prop := DevAt h g b D ∧ w.heap.size ≤ g ∧ w.heap.size ≤ b ∧ Below w.heap.size w h
theorem DevB.to {w h h' : World} {g b : Nat} {D D' : DevT} (a : DevB w h g b D) (t : DevTo h g b D' h') : DevB w h' g b D' :=
  ⟨t.1, a.2.1, a.2.2.1, a.2.2.2.trans (t.below _ a.2.2.2.size a.2.1 a.2.2.1)⟩
theorem DevB.on {w h h' : World} {g b : Nat} {D : DevT} (a : DevB w h g b D) (t : Below h.heap.size h h') : DevB w h' g b D :=
  ⟨a.1.on t, a.2.1, a.2.2.1, below_step a.2.2.2 (Nat.le_refl _) t⟩

theorem d17_1 : fuseB (newB 2) 1 = ([zeroB 64, zeroB 64], 1, false, 0) := rfl
theorem d17_2 (s : ByteArray) : (writeB ([zeroB 64, zeroB 64], 1, false, 0) 0 s).1 = ([s, zeroB 64], 0, false, 1) := rfl
theorem d17_3 (s t : ByteArray) : offB ([s, t], 0, false, 1) = ([s, t], -1, true, 1) := rfl
theorem d17_4 (s t : ByteArray) : onB ([s, t], -1, true, 1) = ([s, t], -1, false, 1) := rfl

set_option maxHeartbeats 4000000 in
theorem awake17_any (w : World) : Calls Try.prog 10 #[] w fun e w' => e = .returned (.bool true) ∧ Below w.heap.size w w' := by
  have CN := dnew_any 2 w ⟨by decide, by decide⟩
  go_enter Try.func10, Try.ntmps10
  go_wp2_with fail
  refine CN.mono ?_
  rintro e w1 ⟨g, b, rfl, hd, hg, hb, hB⟩
  have A1 : Hid (DevB w w1 g b (newB 2)) := ⟨hd, hg, hb, hB⟩
  clear CN hd hg hb hB
  go_wp2_with fail
  refine (dsize_any g b _ _ A1.out.1).mono ?_
  rintro e w2 ⟨rfl, hw⟩
  subst hw
  rw [show ((newB 2).1.length : Int) = 2 from rfl]
  go_wp2_with fail
  refine (dfuse_any g b _ 1 _ A1.out.1 (by decide)).mono ?_
  rintro e w3 ⟨rfl, hd⟩
  rw [d17_1] at hd
  have A2 : Hid (DevB w w3 g b ([zeroB 64, zeroB 64], 1, false, 0)) := A1.out.to hd
  clear A1 hd
  go_wp2_with fail
  refine (filled_any 97 _ (by decide)).mono ?_
  rintro e w4 ⟨rfl, hb⟩
  have A3 : Hid (DevB w w4 g b ([zeroB 64, zeroB 64], 1, false, 0)) := A2.out.on hb
  clear A2 hb
  go_wp2_with fail
  refine (dwrite_yes g b _ 0 _ _ A3.out.1 (by decide) (filledB_size _) rfl (by decide) ⟨by decide, by decide⟩).mono ?_
  rintro e w5 ⟨rfl, hd⟩
  rw [d17_2] at hd
  have A4 : Hid (DevB w w5 g b ([filledB 97, zeroB 64], 0, false, 1)) := A3.out.to hd
  clear A3 hd
  go_wp2_with fail
  refine (filled_any 98 _ (by decide)).mono ?_
  rintro e w6 ⟨rfl, hb⟩
  have A5 : Hid (DevB w w6 g b ([filledB 97, zeroB 64], 0, false, 1)) := A4.out.on hb
  clear A4 hb
  go_wp2_with fail
  refine (dwrite_off g b _ 1 _ _ A5.out.1 (by decide) (filledB_size _) (Or.inr rfl)).mono ?_
  rintro e w7 ⟨rfl, hd⟩
  rw [d17_3] at hd
  have A6 : Hid (DevB w w7 g b ([filledB 97, zeroB 64], -1, true, 1)) := A5.out.to hd
  clear A5 hd
  go_wp2_with fail
  refine (doff_any g b _ _ A6.out.1).mono ?_
  rintro e w8 ⟨rfl, hw⟩
  subst hw
  go_wp2_with fail
  refine (don_any g b _ _ A6.out.1).mono ?_
  rintro e w9 ⟨rfl, hd⟩
  rw [d17_4] at hd
  have A7 : Hid (DevB w w9 g b ([filledB 97, zeroB 64], -1, false, 1)) := A6.out.to hd
  clear A6 hd
  go_wp2_with fail
  refine (dread_any g b _ 0 _ A7.out.1 (by decide)).mono ?_
  rintro e w10 ⟨rfl, hw⟩
  subst hw
  rw [show readB ([filledB 97, zeroB 64], -1, false, 1) 0 = (filledB 97, 0) from rfl]
  go_wp2_with fail
  refine (dread_any g b _ 1 _ A7.out.1 (by decide)).mono ?_
  rintro e w10 ⟨rfl, hw⟩
  subst hw
  rw [show readB ([filledB 97, zeroB 64], -1, false, 1) 1 = (zeroB 64, 0) from rfl]
  have C97 := filled_any 97
  have C0 := filled_any 0
  rw [filledB_zero] at C0
  generalize filledB 97 = A at *
  generalize zeroB 64 = Z at *
  go_wp2_with fail
  refine (C97 _ (by decide)).mono ?_
  rintro e w11 ⟨rfl, hb⟩
  have A8 : Hid (DevB w w11 g b ([A, Z], -1, false, 1)) := A7.out.on hb
  clear A7 hb
  have qA : (A.toList == A.toList) = true := by simp
  have qZ : (Z.toList == Z.toList) = true := by simp
  go_wp2_with fail
  refine (C0 _ (by decide)).mono ?_
  rintro e w12 ⟨rfl, hb⟩
  have A9 : Hid (DevB w w12 g b ([A, Z], -1, false, 1)) := A8.out.on hb
  clear A8 hb
  go_wp2_with fail
  refine (dwrites_any g b _ _ A9.out.1).mono ?_
  rintro e w13 ⟨rfl, hw⟩
  subst hw
  go_wp2
  go_ret
  exact ⟨rfl, A9.out.2.2.2⟩

theorem awake17_on {w w1 : World} (hb : Below w.heap.size w w1) : Calls Try.prog 10 #[] w1 fun e w' => e = .returned (.bool true) ∧ Below w.heap.size w w' :=
  (awake17_any w1).mono fun _ _ h => ⟨h.1, below_step hb (Nat.le_refl _) h.2⟩

end Go.Proofs.Ytibldhpjdjcjbaa
