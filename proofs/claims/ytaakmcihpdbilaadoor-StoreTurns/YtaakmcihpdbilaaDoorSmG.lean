/- Layer 18, the code's: Open. -/
import Derived.Test.YtaakmcihpdbilaaDoorSmF
namespace Go.Proofs.YtaakmcihpdbilaaDoor
open Go.RowKit
set_option maxRecDepth 100000
set_option linter.unusedSimpArgs false
set_option linter.unusedVariables false
set_option maxRecDepth 100000

/-- What Open has behind so many halves. -/
def opS (L : List ByteArray) : Nat → Int × ByteArray
  | 0 => (0, ⟨#[]⟩)
  | k + 1 => if (opS L k).1 < (wholeC L k).1 then wholeC L k else opS L k
theorem opS_two (L : List ByteArray) (h2 : 2 ≤ L.length) (h64 : AllB L) : opS L 2 = ((openP L).2.2.1, (openP L).2.2.2) := by
  have e0 := whole_is L 0 h2 h64 (by decide)
  have e1 := whole_is L 1 h2 h64 (by decide)
  show (if (opS L 1).1 < (wholeC L 1).1 then wholeC L 1 else opS L 1) = _
  rw [show opS L 1 = if (0 : Int) < (wholeC L 0).1 then wholeC L 0 else (0, ⟨#[]⟩) from rfl, e0, e1]
  unfold openP
  cases h0 : halfP L 0 with
  | none =>
    rw [whole_none h0, if_neg (show ¬ ((0 : Int) < 0) by decide)]
    cases h1 : halfP L 1 with
    | none => rw [whole_none h1]; rfl
    | some Y =>
      obtain ⟨a1, a2, _⟩ := half_some h1
      rw [whole_some h1, if_pos (show (0 : Int) < Y.2.2.1 by omega), if_pos ⟨rfl, .inl rfl⟩]; rfl
  | some X =>
    obtain ⟨a1, a2, _⟩ := half_some h0
    rw [whole_some h0, if_pos (show (0 : Int) < X.2.2.1 by omega)]
    cases h1 : halfP L 1 with
    | none =>
      rw [whole_none h1, if_neg (show ¬ (X.2.2.1 < 0) by omega), if_neg (fun h => by cases h.1)]; rfl
    | some Y =>
      rw [whole_some h1]
      simp only [Option.isSome_some, Option.getD_some, Bool.true_eq_false, false_or, true_and]
      by_cases hc : X.2.2.1 < Y.2.2.1
      · rw [if_pos hc, if_pos hc]
      · rw [if_neg hc, if_neg hc]
theorem wholeC_small (L : List ByteArray) (wh : Nat) : 0 ≤ (wholeC L wh).1 ∧ (wholeC L wh).1 ≤ 1099511627775 := by
  unfold wholeC
  simp only
  split
  · exact ⟨Int.le_refl _, by decide⟩
  · split
    · exact ⟨Int.le_refl _, by decide⟩
    · refine ⟨Int.natCast_nonneg _, ?_⟩
      have := inNumP_small (strL L (wh * (L.length / 2)), 0)
      unfold hf1
      show ((inNumP (strL L (wh * (L.length / 2)), 0)).2 : Int) ≤ _
      omega
theorem stW_open (L : List ByteArray) (h2 : 2 ≤ L.length) (h3 : L.length ≤ 2048) (h64 : AllB L) : StW (openP L) := by
  have hM := stM_open L h2 h64
  refine ⟨?_, hM.t1, by have := hM.b; omega⟩
  have hh : ∀ wh X, halfP L wh = some X → 1 ≤ X.2.2.1 ∧ txsP X.2.2.2 = some (X.1 :: X.2.1) := fun wh X h => by
    obtain ⟨a1, a2, _, _, _, a6, _⟩ := half_some h
    exact ⟨by rw [a1]; omega, a6⟩
  unfold openP
  split
  · rename_i hc
    cases h1 : halfP L 1 with
    | none => rw [h1] at hc; cases hc.1
    | some Y => exact .inr (hh 1 Y h1)
  · cases h0 : halfP L 0 with
    | none => exact .inl rfl
    | some Y => exact .inr (hh 0 Y h0)

/-- The store while it is opened, of the call's own. -/
structure OpS (w W : World) (gs g : Nat) (Z : Int × ByteArray) : Prop where
  a : Blk W 45 gs #[.pointer (some ⟨gs, 0, none⟩), .pointer (some ⟨g, 0, none⟩), .int .i64 Z.1, .string Z.2]
  b : Below w.heap.size w W
  k : w.heap.size ≤ gs
theorem OpS.on {w W W' : World} {gs g : Nat} {Z : Int × ByteArray} (h : OpS w W gs g Z) (hb : Below W.heap.size W W') : OpS w W' gs g Z := ⟨h.a.on hb, below_step h.b (Nat.le_refl _) hb, h.k⟩

set_option maxHeartbeats 400000 in
theorem open18_any (g b : Nat) (D : DevT) (w : World) (h : DevAt w g b D) (h2 : 2 ≤ D.1.length) (hl : D.1.length ≤ 2048) (ho : D.2.2.1 = false) (hB : GlobB w) (hK : GlobK w) :
    Calls Tryd.prog 7 #[.pointer (some ⟨g, 0, none⟩)] w fun e w' => ∃ gs S, e = .returned (.tuple #[.pointer (some ⟨gs, 0, none⟩), .int .i64 0]) ∧ StC w' S gs g (openP D.1) ∧ (∀ k, S k → w.heap.size ≤ k) ∧ Below w.heap.size w w' := by
  have hA : AllB D.1 := by obtain ⟨F, _, _, _, h4, _⟩ := h; exact h4
  have E9 : Hid (opS D.1 2 = ((openP D.1).2.2.1, (openP D.1).2.2.2)) := opS_two D.1 h2 hA
  have W9 : Hid (StW (openP D.1)) := stW_open D.1 h2 hl hA
  have C1 : Hid (∀ W, W = w → Calls Tryd.prog 17 #[.pointer (some ⟨g, 0, none⟩)] W fun e w'' => e = .returned (.int .i64 (D.1.length : Int)) ∧ w'' = W) := fun W e => by subst e; exact dsize_any g b D _ h
  have C2 : Hid (∀ W, W = w → Calls Tryd.prog 18 #[.pointer (some ⟨g, 0, none⟩)] W fun e w'' => e = .returned (.bool false) ∧ w'' = W) := fun W e => by
    subst e
    have := doff_any g b D _ h
    rw [ho] at this
    exact this
  have C3 : Hid (∀ W (k : Nat), k < 2 → Below w.heap.size w W → Calls Tryd.prog 19 #[.pointer (some ⟨g, 0, none⟩), .int .i64 (k : Int)] W fun e w' => e = .returned (.tuple #[.int .i64 (wholeC D.1 k).1, .string (wholeC D.1 k).2]) ∧ Below W.heap.size W w') := fun W k hk e => whole18_any g b D k W (h.on e) ho h2 hl hk (hB.below e) (hK.below e)
  obtain ⟨X, hX⟩ : ∃ X, openP D.1 = X := ⟨_, rfl⟩
  rw [hX] at E9 W9 ⊢
  clear hX
  obtain ⟨n, hn⟩ : ∃ n, D.1.length = n := ⟨_, rfl⟩
  rw [hn] at C1 h2 hl
  have q0 : ¬ ((n : Int) < 2) := by omega
  have A0 : Hid (OpS w (w.alloc (.cells #[.pointer (some ⟨w.heap.size, 0, none⟩), .pointer (some ⟨g, 0, none⟩), .int .i64 0, .string ⟨#[]⟩] 45)) w.heap.size g (opS D.1 0)) := ⟨Blk.new _ _ _, below_new w _, Nat.le_refl _⟩
  have A1 : Blk (w.alloc (.cells #[.pointer none, .pointer (some ⟨g, 0, none⟩), .int .i64 0, .string ⟨#[]⟩] 45)) 45 w.heap.size #[.pointer none, .pointer (some ⟨g, 0, none⟩), .int .i64 0, .string ⟨#[]⟩] := Blk.new _ _ _
  have c0 : (w.alloc (.cells #[.pointer none, .pointer (some ⟨g, 0, none⟩), .int .i64 0, .string ⟨#[]⟩] 45)).cell? ⟨w.heap.size, 0, none⟩ = some (.pointer none) := A1.cell 0
  have f0 := A1.free 0
  clear A1 h hA hn hB hK
  go_enter Tryd.func7, Tryd.ntmps7
  go_wp2_with fail
  refine (C1.out _ rfl).mono ?_
  rintro e w1 ⟨rfl, hw1⟩
  subst hw1
  go_wp2_with fail
  refine (C2.out _ rfl).mono ?_
  rintro e w2 ⟨rfl, hw2⟩
  subst hw2
  go_wp2_with fail
  obtain ⟨gs, hgs⟩ : ∃ gs, w2.heap.size = gs := ⟨_, rfl⟩
  obtain ⟨W0, hW0⟩ : ∃ W0, w2.alloc (.cells #[.pointer (some ⟨w2.heap.size, 0, none⟩), .pointer (some ⟨g, 0, none⟩), .int .i64 0, .string ⟨#[]⟩] 45) = W0 := ⟨_, rfl⟩
  rw [hW0] at A0 ⊢
  rw [hgs] at A0 ⊢
  have HG : Hid (w2.heap.size = gs) := hgs
  clear hgs hW0 C1 C2
  go_loopw [20] (fun i wr => ∃ k : Nat, k ≤ 2 ∧ i = .int .i64 k ∧ Hid (OpS w2 wr gs g (opS D.1 k))) (fun i _ => 2 - (intOf i).toNat)
  case atStart => exact ⟨0, by decide, rfl, A0⟩
  case round =>
    clear A0
    obtain ⟨k, hk, rfl, HO⟩ := hrel
    by_cases hlt : k < 2
    · have d0 : (k : Int) < 2 := by omega
      have C3' : Hid (∀ W, Below w2.heap.size w2 W → _) := fun W e => C3.out W k hlt e
      have Hs : Hid (opS D.1 (k + 1) = if (opS D.1 k).1 < (wholeC D.1 k).1 then wholeC D.1 k else opS D.1 k) := rfl
      obtain ⟨⟨t, T⟩, hq⟩ : ∃ z, wholeC D.1 k = z := ⟨_, rfl⟩
      obtain ⟨⟨u, U⟩, hr⟩ : ∃ z, opS D.1 k = z := ⟨_, rfl⟩
      rw [hq] at C3' Hs
      rw [hr] at HO Hs
      simp only at C3'
      clear hq hr C3
      go_wp2_with fail
      refine (C3'.out _ HO.out.b).mono ?_
      rintro e W1 ⟨rfl, hb1⟩
      have HO1 : Hid (OpS w2 W1 gs g (u, U)) := HO.out.on hb1
      have k2 : W1.cell? ⟨gs, 2, none⟩ = some (.int .i64 u) := HO1.out.a.cell 2
      have f2 := HO1.out.a.free 2
      have f3 := HO1.out.a.free 3
      have k3 : W1.cell? ⟨gs, 3, none⟩ = some (.string U) := HO1.out.a.cell 3
      clear HO hb1 C3'
      by_cases hc : u < t
      · have HO2 : Hid (OpS w2 ((W1.setCell ⟨gs, 2, none⟩ (.int .i64 t)).setCell ⟨gs, 3, none⟩ (.string T)) gs g (opS D.1 (k + 1))) := by
          show OpS _ _ _ _ _
          rw [Hs.out, if_pos hc]
          exact ⟨(HO1.out.a.setAt 2 _).setAt 3 _, (HO1.out.b.setCell (p := ⟨gs, 2, none⟩) HO1.out.k _).setCell (p := ⟨gs, 3, none⟩) HO1.out.k _, HO1.out.k⟩
        clear HO1 Hs
        go_wp2_with fail
        refine ⟨⟨k + 1, by omega, by rfl, HO2⟩, ?_⟩
        show 2 - (k + 1) < 2 - k
        omega
      · have HO2 : Hid (OpS w2 W1 gs g (opS D.1 (k + 1))) := by
          show OpS _ _ _ _ _
          rw [Hs.out, if_neg hc]
          exact HO1.out
        clear HO1 Hs
        go_wp2_with fail
        refine ⟨⟨k + 1, by omega, by rfl, HO2⟩, ?_⟩
        show 2 - (k + 1) < 2 - k
        omega
    · have d0 : ¬ ((k : Int) < 2) := by omega
      obtain rfl : k = 2 := by omega
      rw [E9.out] at HO
      go_wp2_with fail
      go_ret2
      exact ⟨gs, rfl, fun j => j = gs, ⟨HO.out.a, fun _ => Iff.rfl, W9.out⟩, fun j hj => by cases hj; exact HO.out.k, HO.out.b⟩

end Go.Proofs.YtaakmcihpdbilaaDoor
