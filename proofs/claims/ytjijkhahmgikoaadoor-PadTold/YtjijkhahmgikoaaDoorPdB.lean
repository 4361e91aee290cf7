/- The code's layer 14: Size. -/
import Derived.Test.YtjijkhahmgikoaaDoorPdA
namespace Go.Proofs.YtjijkhahmgikoaaDoor
open Go.RowKit
set_option linter.unusedSimpArgs false

/-- Size's three boxes. -/
def SzB (W : World) (b : Nat) (n r e : Int) : Prop := Boxed W b 3 (.int .i64 n) ∧ Boxed W (b + 1) 3 (.int .i64 r) ∧ Boxed W (b + 1 + 1) 22 (.int .i64 e)

theorem SzB.own (b : Nat) (n r e : Int) {X Y : World} {row : Option Nat} (h : SzB X b n r e) (hg : X.grownBy Y row) (hr : ∀ k, row = some k → ∃ o : Obj, X.heap[k]? = some o ∧ o.isCells = false) : SzB Y b n r e :=
  ⟨boxed_own b _ (fun _ : Unit => _) () X Y row h.1 hg hr, boxed_own (b + 1) _ (fun _ : Unit => _) () X Y row h.2.1 hg hr, boxed_own (b + 1 + 1) _ (fun _ : Unit => _) () X Y row h.2.2 hg hr⟩

theorem SzB.new (w : World) (n : Int) : SzB (((w.alloc (.cells #[.int .i64 n] 3)).alloc (.cells #[.int .i64 0] 3)).alloc (.cells #[.int .i64 0] 22)) w.heap.size n 0 0 := by
  refine ⟨((Boxed.new w _ _).alloc _).alloc _, ?_, ?_⟩
  · have h := (Boxed.new (w.alloc (.cells #[.int .i64 n] 3)) 3 (.int .i64 0)).alloc (.cells #[.int .i64 0] 22)
    rwa [World.size_alloc] at h
  · have h := Boxed.new ((w.alloc (.cells #[.int .i64 n] 3)).alloc (.cells #[.int .i64 0] 3)) 22 (.int .i64 0)
    rwa [World.size_alloc, World.size_alloc] at h

theorem SzB.set {W : World} {b : Nat} {n r e : Int} (h : SzB W b n r e) (x y : Int) : SzB ((W.setCell ⟨b + 1, 0, none⟩ (.int .i64 x)).setCell ⟨b + 1 + 1, 0, none⟩ (.int .i64 y)) b n x y :=
  ⟨(h.1.other (by omega) _).other (by omega) _, (h.2.1.set _).other (by omega) _, (h.2.2.other (by omega) _).set _⟩

set_option maxRecDepth 100000 in
set_option maxHeartbeats 2000000 in
theorem size_any (N : Int) (w : World) : Calls Tryd.prog 9 #[.int .i64 N] w fun e w' => e = .returned (.tuple #[.int .i64 (sizeE N).1, .int .i64 (sizeE N).2]) ∧ Below w.heap.size w w' := by
  refine (callsIn_wide (n := 6)).1 ?_
  obtain ⟨⟨a, c⟩, hR⟩ : ∃ R, sizeE N = R := ⟨_, rfl⟩
  have HR : Hid (sizeE N = (a, c)) := hR
  rw [hR]
  simp only
  clear hR
  have S0 := SzB.new w N
  obtain ⟨W0, hW0⟩ : ∃ W0, ((w.alloc (.cells #[.int .i64 N] 3)).alloc (.cells #[.int .i64 0] 3)).alloc (.cells #[.int .i64 0] 22) = W0 := ⟨_, rfl⟩
  have hs0 : w.heap.size + 3 ≤ W0.heap.size := by rw [← hW0]; simp
  have hB0 : Below w.heap.size w W0 := by rw [← hW0]; exact (((Below.refl _ w).alloc (Nat.le_refl _) _).alloc (by simp) _).alloc (by simp; omega) _
  rw [hW0] at S0
  have c0 := S0.1.cell
  have c1 := S0.2.1.cell
  have c2 := S0.2.2.cell
  have f1 := S0.2.1.frozen
  have f2 := S0.2.2.frozen
  refine callsIn_of_wp_marks Tryd.func9 rfl trivial ?_ rfl
  simp only [Tryd.ntmps9, List.size_toArray, List.length_cons, List.length_nil, Nat.reduceAdd, Nat.reduceSub, Array.replicate_succ, Array.replicate_zero, List.push_toArray, List.append_toArray, List.nil_append, List.cons_append]
  by_cases hN : N < 0
  · obtain ⟨rfl, rfl⟩ : (0 : Int) = a ∧ (2 : Int) = c := by
      have h := HR.out
      unfold sizeE at h
      rw [if_neg (by omega)] at h
      cases h
      exact ⟨rfl, rfl⟩
    gi_wp2
    have S1 := S0.set 0 2
    have r1 := S1.2.1.cell
    have r2 := S1.2.2.cell
    refine ⟨.tuple #[.int .i64 0, .int .i64 2], ?_, rfl, (hB0.setCell (p := ⟨w.heap.size + 1, 0, none⟩) (by show w.heap.size ≤ w.heap.size + 1; omega) _).setCell (p := ⟨w.heap.size + 1 + 1, 0, none⟩) (by show w.heap.size ≤ w.heap.size + 1 + 1; omega) _⟩
    simp [results, Tryd.f9, go_sem, r1, r2]
  · gi_wp2
    refine ⟨trivial, ?_⟩
    refine (callsIn_wide.2 (rising_any _)).mono ?_
    rintro e w' ⟨rfl, rfl⟩
    gi_wp2
    clear hW0
    refine wpIn_rangeFunc_ownF rfl (by omega) (gf := 24) (lb := #[]) rfl trivial (enters_of Tryd.func24 (by kernel_rfl) rfl) (rising_gives (6 - 1) (by omega) w') walksK_t (fun W l o o' hl ho hc hw => KeepsWalks.putObj _ ho hw) (Below.refl _ _) (fun _ => rfl)
      (fun pre W => ((∀ y ∈ pre, y ≤ N) ∧ SzB W w.heap.size N 0 0) ∧ Below w.heap.size w W)
      (fun q pre W => (q = .ret ∧ ∃ pre' x, pre = pre' ++ [x] ∧ (∀ y ∈ pre', y ≤ N) ∧ N < x ∧ SzB W w.heap.size N x 0) ∧ Below w.heap.size w W)
      (OwnFrom.and (fun s X Y row hs hg hr => ⟨hs.1, hs.2.own _ _ _ _ hg (fun r e => (hr r e).2)⟩) (ownFrom_below (Nat.le_refl _) (by omega)))
      (fun q => OwnFrom.and (fun s X Y row hs hg hr => by
        obtain ⟨h1, p', x, h2, h3, h4, h5⟩ := hs
        exact ⟨h1, p', x, h2, h3, h4, h5.own _ _ _ _ hg (fun r e => (hr r e).2)⟩) (ownFrom_below (Nat.le_refl _) (by omega)))
      ⟨⟨by simp, S0⟩, hB0⟩
      (fun x => { tmps := #[.int .i64 N, .pointer (some ⟨w.heap.size, 0, none⟩), .pointer (some ⟨w.heap.size + 1, 0, none⟩), .pointer (some ⟨w.heap.size + 1 + 1, 0, none⟩), .int .i64 x, .int .i64 N, .bool false, .func (.func 24) #[] #[], .int .i64 x, undef, undef, undef, undef], defers := [] })
      ?assign ?body ?done ?stop
    case assign =>
      intro l x W K hK
      gi_wp2_with (rw [Oper.semAt_eq _ _ _ (fun c h => by cases h)]; go_simp)
      exact hK
    case body =>
      rintro l pre x W ⟨⟨hp, hS⟩, hB⟩ hlt
      have d0 := hS.1.cell
      have d1 := hS.2.1.cell
      have d2 := hS.2.2.cell
      have g1 := hS.2.1.frozen
      have g2 := hS.2.2.frozen
      have hsW := hB.size
      have HS : Hid (SzB W w.heap.size N 0 0) := hS
      have HB : Hid (Below w.heap.size w W) := hB
      have HP : Hid (∀ y ∈ pre, y ≤ N) := hp
      clear hS hB hp c0 c1 c2 f1 f2
      by_cases hx : N < x
      · gi_wp2_with (rw [Oper.semAt_eq _ _ _ (fun c h => by cases h)]; go_simp)
        refine ⟨(KeepsOthers.setCell _ _ _).trans (KeepsOthers.setCell _ _ _), ⟨rfl, pre, x, rfl, HP.out, hx, HS.out.set x 0⟩, (HB.out.setCell (p := ⟨w.heap.size + 1, 0, none⟩) (by show w.heap.size ≤ w.heap.size + 1; omega) _).setCell (p := ⟨w.heap.size + 1 + 1, 0, none⟩) (by show w.heap.size ≤ w.heap.size + 1 + 1; omega) _⟩
      · gi_wp2_with (rw [Oper.semAt_eq _ _ _ (fun c h => by cases h)]; go_simp)
        exact ⟨KeepsOthers.refl _, KeepsWalks.refl _, ⟨fun y hy => (List.mem_append.1 hy).elim (HP.out y) (fun e => by simp at e; omega), HS.out⟩, HB.out⟩
    case done =>
      rintro D xs W hD rfl ⟨⟨hp, hS⟩, hB⟩ hK
      obtain ⟨M, rfl⟩ : ∃ M : Nat, N = (M : Int) := ⟨N.toNat, by omega⟩
      obtain ⟨rfl, rfl⟩ : (0 : Int) = a ∧ (2 : Int) = c := by
        have h := HR.out
        rw [none_above M hp] at h
        cases h
        exact ⟨rfl, rfl⟩
      have d1 := hS.2.1.cell
      have d2 := hS.2.2.cell
      have g1 := hS.2.1.frozen
      have g2 := hS.2.2.frozen
      have HS : Hid (SzB W w.heap.size M 0 0) := hS
      have HB : Hid (Below w.heap.size w W) := hB
      clear hS hB hp c0 c1 c2 f1 f2
      gi_wp2
      have hK' := (KeepsOthers.setCell (W.setCell ⟨w.heap.size + 1, 0, none⟩ (.int .i64 0)) ⟨w.heap.size + 1 + 1, 0, none⟩ (.int .i64 2)).same D _ ((KeepsOthers.setCell W ⟨w.heap.size + 1, 0, none⟩ (.int .i64 0)).same D _ hK rfl) rfl
      have S2 := (HS.out.set 0 2).own _ _ _ _ (grownBy_putObj' _ D (.deferred none)) (fun r e => by cases e; exact ⟨_, hK', rfl⟩)
      have B2 := ((HB.out.setCell (p := ⟨w.heap.size + 1, 0, none⟩) (by show w.heap.size ≤ w.heap.size + 1; omega) (.int .i64 0)).setCell (p := ⟨w.heap.size + 1 + 1, 0, none⟩) (by show w.heap.size ≤ w.heap.size + 1 + 1; omega) (.int .i64 2)).grown (grownBy_putObj' _ D (.deferred none)) (by have := HB.out.size; simp; omega) (fun k e => by cases e; omega)
      have r1 := S2.2.1.cell
      have r2 := S2.2.2.cell
      refine ⟨by simp, .inl ⟨_, _, rfl, run_takeDeferred hK', ?_⟩⟩
      refine ⟨.tuple #[.int .i64 0, .int .i64 2], ?_, rfl, B2⟩
      simp [results, Tryd.f9, go_sem, r1, r2]
    case stop =>
      rintro D q pre W hD ⟨k, hk, hpre⟩ ⟨⟨rfl, pre', x, hpx, hp, hx, hS⟩, hB⟩ hK
      obtain ⟨M, rfl⟩ : ∃ M : Nat, N = (M : Int) := ⟨N.toNat, by omega⟩
      rw [sizes_next k hk, hpx] at hpre
      obtain ⟨e1, e2⟩ := List.append_inj' hpre rfl
      cases e2
      rw [e1] at hp
      obtain ⟨rfl, rfl⟩ : ((64 * 2 ^ k : Nat) : Int) = a ∧ (0 : Int) = c := by
        have h := HR.out
        rw [first_above M k hk hp hx] at h
        cases h
        exact ⟨rfl, rfl⟩
      have S2 := hS.own _ _ _ _ (grownBy_putObj' _ D (.deferred none)) (fun r e => by cases e; exact ⟨_, hK, rfl⟩)
      have B2 := hB.grown (grownBy_putObj' _ D (.deferred none)) (by have := hB.size; omega) (fun k e => by cases e; omega)
      have r1 := S2.2.1.cell
      have r2 := S2.2.2.cell
      clear c0 c1 c2 f1 f2
      gi_wp2
      refine ⟨by simp, .inl ⟨_, _, rfl, run_takeDeferred hK, ?_⟩⟩
      generalize ((64 * 2 ^ k : Nat) : Int) = Z at *
      refine ⟨.tuple #[.int .i64 Z, .int .i64 0], ?_, rfl, B2⟩
      simp [results, Tryd.f9, go_sem, r1, r2]
end Go.Proofs.YtjijkhahmgikoaaDoor
