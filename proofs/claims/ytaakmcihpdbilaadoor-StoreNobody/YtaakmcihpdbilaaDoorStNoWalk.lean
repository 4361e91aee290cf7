/- StoreNobody, walked. -/
import Derived.Test.YtaakmcihpdbilaaDoorSN
namespace Go.Proofs.YtaakmcihpdbilaaDoor
open Go.RowKit
set_option maxRecDepth 100000
set_option linter.unusedSimpArgs false
set_option maxRecDepth 100000

set_option maxHeartbeats 1000000 in
theorem open18_no (p : Value) (w : World) (h : NoDev w p) :
    Calls Tryd.prog 7 #[p] w fun e w' => e = .returned (.tuple #[.pointer none, .int .i64 1]) ∧ w' = w := by
  have C1 : Hid (∀ W, W = w → Calls Tryd.prog 17 #[p] W fun e w'' => e = .returned (.int .i64 0) ∧ w'' = W) := fun W e => by subst e; exact dsize_no p _ h
  clear h
  go_enter Tryd.func7, Tryd.ntmps7
  go_wp2_with fail
  refine (C1.out _ rfl).mono ?_
  rintro e w1 ⟨rfl, hw1⟩
  subst hw1
  go_wp2
  go_ret2
  exact ⟨rfl, rfl⟩
set_option maxHeartbeats 1000000 in
theorem open18_few (g b : Nat) (D : DevT) (w : World) (h : DevAt w g b D) (h2 : D.1.length < 2) :
    Calls Tryd.prog 7 #[.pointer (some ⟨g, 0, none⟩)] w fun e w' => e = .returned (.tuple #[.pointer none, .int .i64 1]) ∧ w' = w := by
  have C1 : Hid (∀ W, W = w → Calls Tryd.prog 17 #[.pointer (some ⟨g, 0, none⟩)] W fun e w'' => e = .returned (.int .i64 (D.1.length : Int)) ∧ w'' = W) := fun W e => by subst e; exact dsize_any g b D _ h
  obtain ⟨n, hn⟩ : ∃ n, D.1.length = n := ⟨_, rfl⟩
  rw [hn] at C1 h2
  have q0 : (n : Int) < 2 := by omega
  clear h hn
  go_enter Tryd.func7, Tryd.ntmps7
  go_wp2_with fail
  refine (C1.out _ rfl).mono ?_
  rintro e w1 ⟨rfl, hw1⟩
  subst hw1
  go_wp2
  go_ret2
  exact ⟨rfl, rfl⟩


set_option maxHeartbeats 8000000 in
theorem storeNobody_walk (s : ByteArray) (w : World) (hG : GlobB w ∧ GlobK w) :
    Calls Tryd.prog 5 #[.string s] w fun e w' => e = .returned (.bool true) ∧ Below w.heap.size w w' := by
  have HG : Hid (Sto18 StC w) := stC_sto w hG.1 hG.2
  clear hG
  have N1 : Hid (NoDev (w.alloc (.cells #[.pointer none, .slice none 0 0, .bool false, .int .i64 0, .int .i64 0] 43)) (.pointer (some ⟨w.heap.size, 0, none⟩))) := .inr ⟨_, rfl, Blk.new _ _ _⟩
  go_enter Tryd.func5, Tryd.ntmps5
  go_wp2_with fail
  refine (open18_no (.pointer none) w (.inl rfl)).mono ?_
  rintro e w1 ⟨rfl, hw1⟩
  subst hw1
  go_wp2_with fail
  refine (open18_no _ _ N1.out).mono ?_
  rintro e w2 ⟨rfl, hw2⟩
  have B2 : Hid (Below w1.heap.size w1 w2) := by rw [hw2]; exact below_new w1 _
  clear N1 hw2
  go_wp2_with fail
  refine (dnew_any 1 w2 ⟨by decide, by decide⟩).mono ?_
  rintro e w3 ⟨g, b, rfl, hd, _, _, hb3⟩
  have B3 : Hid (Below w1.heap.size w1 w3) := below_step B2.out (Nat.le_refl _) hb3
  clear B2 hb3
  go_wp2_with fail
  refine (open18_few g b _ _ hd (by decide)).mono ?_
  rintro e w4 ⟨rfl, hw4⟩
  subst hw4
  clear hd
  go_wp2_with fail
  obtain ⟨h4, hh4⟩ : ∃ h4, w4.heap.size = h4 := ⟨_, rfl⟩
  rw [hh4]
  have X4 := B3.out.size
  go_loopw [12] (fun c wr => ∃ k : Nat, k ≤ 2 ∧ c = .int .i64 k ∧ Hid (StBad wr h4) ∧ Hid (Blk wr 28 (h4 + 1) #[.pointer none, .pointer (some ⟨h4, 0, none⟩)]) ∧ Hid (Below w1.heap.size w1 wr)) (fun c _ => 2 - (intOf c).toNat)
  case atStart =>
    subst hh4
    exact ⟨0, Nat.zero_le _, rfl, (Blk.new w4 _ _).alloc _, Blk.new' _ _ _ _ (by simp), (B3.out.alloc (by omega) _).alloc (by simp; omega) _⟩
  case round =>
    obtain ⟨k, hk, rfl, HA, HB, HW⟩ := hrel
    by_cases hlt : k < 2
    · obtain ⟨p, hc, HP⟩ : ∃ p, wr.cell? ⟨h4 + 1, k, none⟩ = some p ∧ Hid (NoSto wr p) := by
        have h1 := HB.out.cell k
        match k, hlt, h1 with
        | 0, _, h1 => exact ⟨.pointer none, h1, .inl rfl⟩
        | 1, _, h1 => exact ⟨_, h1, .inr ⟨_, rfl, HA.out⟩⟩
      have b0 : (k : Int) < 2 := by omega
      go_wp2_with fail
      refine (sbase_no p _ HP.out).mono ?_
      rintro e w5 ⟨rfl, hw5⟩
      subst hw5
      go_wp2_with fail
      refine (sbehind_no p _ HP.out).mono ?_
      rintro e w5 ⟨rfl, hw5⟩
      subst hw5
      go_wp2_with fail
      refine (sadd_no p s _ HP.out).mono ?_
      rintro e w5 ⟨rfl, hw5⟩
      subst hw5
      go_wp2_with fail
      refine (slay_no p s _ HP.out).mono ?_
      rintro e w5 ⟨rfl, hw5⟩
      subst hw5
      go_wp2_with fail
      refine (sturn_no p _ HP.out).mono ?_
      rintro e w5 ⟨rfl, hw5⟩
      subst hw5
      go_wp2_with fail
      refine ⟨⟨k + 1, by omega, by go_num, HA, HB, HW⟩, ?_⟩
      simp [intOf]; omega
    · obtain rfl : k = 2 := by omega
      go_wp2_with fail
      refine (awake18_any _ (HG.out.move HW.out)).mono ?_
      rintro e w2 ⟨rfl, hb2⟩
      have hB := below_step HW.out (Nat.le_refl _) hb2
      go_wp2
      go_ret
      exact ⟨rfl, hB⟩

end Go.Proofs.YtaakmcihpdbilaaDoor
