/- Layer 18, the code's: into, and the closure that blocks are told to. -/
import Derived.Test.YtaakmcihpdbilaaDoorSmG
namespace Go.Proofs.YtaakmcihpdbilaaDoor
open Go.RowKit
set_option maxRecDepth 100000
set_option linter.unusedSimpArgs false
set_option linter.unusedVariables false
set_option maxRecDepth 100000

theorem dwriteB_any (g b : Nat) (D : DevT) (n : Nat) (c : Int) (k : Nat) (s : ByteArray) (w : World) (h : DevAt w g b D) (hD : DvO n c D) (hc : c < 1152921504606846976) (hk : k < n) (hs : s.size = 64) :
    Calls Tryd.prog 34 #[.pointer (some ⟨g, 0, none⟩), .int .i64 (k : Int), .string s] w fun e w' => e = .returned (.int .i64 (writeB D k s).2) ∧ DevTo w g b (writeB D k s).1 w' := by
  have hk2 : k < D.1.length := by rw [hD.len]; exact hk
  by_cases ho : D.2.2.1 = true ∨ D.2.1 = 0
  · have e : writeB D k s = (offB D, 170) := by unfold writeB; rw [if_pos ho]
    rw [e]
    exact dwrite_off g b D k s w h hk2 hs ho
  · have h1 : D.2.2.1 = false := Bool.eq_false_iff.2 (fun e => ho (.inl e))
    have h2 : D.2.1 ≠ 0 := fun e => ho (.inr e)
    have e : (writeB D k s).2 = 0 := by
      unfold writeB
      rw [if_neg ho]
    rw [e]
    exact dwrite_yes g b D k s w h hk2 hs h1 h2 ⟨hD.n0, by have := hD.n1; omega⟩

/-- The variables that the closure holds. -/
structure TelS (W : World) (cw cf g p : Nat) : Prop where
  w : Blk W 60 cw #[.func (.func 34) #[.pointer (some ⟨g, 0, none⟩)] #[]]
  f : Blk W 3 cf #[.int .i64 (p : Int)]
theorem TelS.on {W W' : World} {cw cf g p : Nat} (h : TelS W cw cf g p) (hb : Below W.heap.size W W') : TelS W' cw cf g p := ⟨h.w.on hb, h.f.on hb⟩
theorem TelS.kept {W W' : World} {cw cf g p g' b' : Nat} (h : TelS W cw cf g p) (hk : Kept2 g' (some b') W W') (h1 : cw ≠ g') (h2 : cw ≠ b') (h3 : cf ≠ g') (h4 : cf ≠ b') : TelS W' cw cf g p :=
  ⟨h.w.kept hk h1 (fun e => h2 (by cases e; rfl)), h.f.kept hk h3 (fun e => h4 (by cases e; rfl))⟩

set_option maxHeartbeats 2000000 in
theorem into18_any (p g : Nat) (w : World) :
    Calls Tryd.prog 33 #[.int .i64 (p : Int), .func (.func 34) #[.pointer (some ⟨g, 0, none⟩)] #[]] w fun e w' => ∃ cw cf, e = .returned (.func (.func 52) #[] #[.pointer (some ⟨cw, 0, none⟩), .pointer (some ⟨cf, 0, none⟩)]) ∧ TelS w' cw cf g p ∧ w.heap.size ≤ cw ∧ w.heap.size ≤ cf ∧ Below w.heap.size w w' := by
  have hmf : ∀ (fn : Fn) (first cap : Array Value) (w : World), (Instr.makeFunc fn first cap).run Tryd.prog w = .ok (.func fn first cap) w := fun _ _ _ _ => rfl
  go_enter Tryd.func33, Tryd.ntmps33
  go_wp2
  go_ret
  exact ⟨_, _, rfl, ⟨Blk.new' _ _ _ _ (by simp), (Blk.new w _ _).alloc _⟩, by omega, Nat.le_refl _, (below_new w _).alloc (by simp) _⟩

set_option maxHeartbeats 400000 in
theorem tellw18_any (cw cf p g b : Nat) (D : DevT) (n : Nat) (c : Int) (k : Nat) (s : ByteArray) (w : World) (ht : TelS w cw cf g p) (hx : cw ≠ g ∧ cw ≠ b ∧ cf ≠ g ∧ cf ≠ b) (h : DevAt w g b D) (hD : DvO n c D) (hn : n ≤ 4096) (hc : c < 1152921504606846976) (hk : p + k < n) (hs : s.size ≤ 64) :
    Calls Tryd.prog 52 #[.int .i64 (k : Int), .string s, .pointer (some ⟨cw, 0, none⟩), .pointer (some ⟨cf, 0, none⟩)] w fun e w' => e = .returned (.int .i64 (writeB D (p + k) (fl18 s)).2) ∧ DevTo w g b (writeB D (p + k) (fl18 s)).1 w' := by
  have hS0 : w.drew.cell? ⟨cw, 0, none⟩ = some (.func (.func 34) #[.pointer (some ⟨g, 0, none⟩)] #[]) ∧ w.drew.cell? ⟨cf, 0, none⟩ = some (.int .i64 (p : Int)) := ⟨(ht.on (Below.refl _ _).drew).w.cell 0, (ht.on (Below.refl _ _).drew).f.cell 0⟩
  have C1 : Hid (∀ W, Calls Tryd.prog 30 #[.string s] W fun e w' => e = .returned (.string (fl18 s)) ∧ Below W.heap.size W w') := fun W => filled18_any s W hs
  have C2 : Hid (∀ W, Below w.heap.size w W → Calls Tryd.prog 34 #[.pointer (some ⟨g, 0, none⟩), .int .i64 (IntKind.i64.wrap ((p : Int) + (k : Int))), .string (fl18 s)] W fun e w' => e = .returned (.int .i64 (writeB D (p + k) (fl18 s)).2) ∧ DevTo w g b (writeB D (p + k) (fl18 s)).1 w') := fun W e => by
    rw [show IntKind.i64.wrap ((p : Int) + (k : Int)) = ((p + k : Nat) : Int) by rw [IntKind.wrap_i64]; omega]
    refine (dwriteB_any g b D n c (p + k) (fl18 s) W (h.on e) hD hc hk (fl18_size s hs)).mono ?_
    rintro x w' ⟨h1, h2⟩
    exact ⟨h1, h2.1, Kept2.behind e h2.2⟩
  have HT : Hid (∀ W, DevTo w g b (writeB D (p + k) (fl18 s)).1 W → W.cell? ⟨cw, 0, none⟩ = some (.func (.func 34) #[.pointer (some ⟨g, 0, none⟩)] #[]) ∧ W.cell? ⟨cf, 0, none⟩ = some (.int .i64 (p : Int))) := fun W e => ⟨(ht.kept e.2 hx.1 hx.2.1 hx.2.2.1 hx.2.2.2).w.cell 0, (ht.kept e.2 hx.1 hx.2.1 hx.2.2.1 hx.2.2.2).f.cell 0⟩
  have HT1 : Hid (∀ W, Below w.heap.size w W → W.cell? ⟨cw, 0, none⟩ = some (.func (.func 34) #[.pointer (some ⟨g, 0, none⟩)] #[]) ∧ W.cell? ⟨cf, 0, none⟩ = some (.int .i64 (p : Int))) := fun W e => ⟨(ht.on e).w.cell 0, (ht.on e).f.cell 0⟩
  obtain ⟨R, hR⟩ : ∃ R, writeB D (p + k) (fl18 s) = R := ⟨_, rfl⟩
  obtain ⟨F, hF⟩ : ∃ F, fl18 s = F := ⟨_, rfl⟩
  rw [hF] at C1
  rw [hR] at C2 HT ⊢
  rw [hF] at C2
  have hpk : p + k < 4096 := by omega
  clear ht h hD hR hF hx
  go_enter Tryd.func52, Tryd.ntmps52
  go_wp2_with fail
  refine wp_region_noPanic ?_
  refine wp_region_held_drew (S := fun W => W.cell? ⟨cw, 0, none⟩ = some (.func (.func 34) #[.pointer (some ⟨g, 0, none⟩)] #[]) ∧ W.cell? ⟨cf, 0, none⟩ = some (.int .i64 (p : Int))) (by kernel_rfl) (by first | exact trivial | assumption | exact ⟨by assumption, by assumption⟩) (fun hHeld => ?_)
  refine take_at (i := 0) (v := ?_) rfl rfl (by kernel_rfl) (by kernel_rfl) (by kernel_rfl) (fun _ _ _ h => h) (Or.inl ⟨by rfl, ?_⟩) (by assumption) ?_
  rotate_left
  · intro w hSw; (try dsimp only at hSw); go_simp; try with_reducible rfl
  try simp only [Act.put, List.setIfInBounds_toArray, List.set_cons_zero, List.set_cons_succ]
  refine take_at (i := 1) (v := ?_) rfl rfl (by kernel_rfl) (by kernel_rfl) (by kernel_rfl) (fun _ _ _ h => h) (Or.inl ⟨by rfl, ?_⟩) (by assumption) ?_
  rotate_left
  · intro w hSw; (try dsimp only at hSw); go_simp; try with_reducible rfl
  try simp only [Act.put, List.setIfInBounds_toArray, List.set_cons_zero, List.set_cons_succ]
  refine take_at (i := 2) (v := ?_) rfl rfl (by kernel_rfl) (by kernel_rfl) (by kernel_rfl) (fun _ _ _ h => h) (Or.inl ⟨by rfl, ?_⟩) (by assumption) ?_
  rotate_left
  · intro w hSw; (try dsimp only at hSw); go_simp; try with_reducible rfl
  try simp only [Act.put, List.setIfInBounds_toArray, List.set_cons_zero, List.set_cons_succ]
  refine take_at (i := 3) (v := ?_) rfl rfl (by kernel_rfl) (by kernel_rfl) (by kernel_rfl) (fun _ _ _ h => h) (Or.inl ⟨by rfl, ?_⟩) (by assumption) ?_
  rotate_left
  · intro w hSw; (try dsimp only at hSw); go_simp; try with_reducible rfl
  try simp only [Act.put, List.setIfInBounds_toArray, List.set_cons_zero, List.set_cons_succ]
  refine take_at (i := 4) (v := ?_) rfl rfl (by kernel_rfl) (by kernel_rfl) (by kernel_rfl) (fun _ _ _ h => h) (Or.inl ⟨by rfl, ?_⟩) (by assumption) ?_
  rotate_left
  · intro w hSw; (try dsimp only at hSw); go_simp; try with_reducible rfl
  try simp only [Act.put, List.setIfInBounds_toArray, List.set_cons_zero, List.set_cons_succ]
  refine wpAnyH_ready (rs := [5]) (by kernel_rfl) (by simp) ?_
  refine AllReadyH.cons rfl (fun K hK => ?_) AllReadyH.nil
  go_simp
  refine (C1.out _).mono ?_
  rintro e w1 ⟨rfl, hb1⟩
  have HB1 : Hid (Below w.heap.size w w1) := below_step (Below.refl _ _).drew (Nat.le_refl _) hb1
  clear hb1
  refine hK.out _ _ (HT1.out _ HB1.out) (fun hHeld => ?_)
  clear hK K
  refine wpAnyH_ready (rs := [6]) (by kernel_rfl) (by simp) ?_
  refine AllReadyH.cons rfl (fun K hK => ?_) AllReadyH.nil
  go_simp
  refine (C2.out _ HB1.out).mono ?_
  rintro e w2 ⟨rfl, h2⟩
  have H2 : Hid (DevTo w g b R.1 w2) := h2
  have hS2 : w2.cell? ⟨cw, 0, none⟩ = some (.func (.func 34) #[.pointer (some ⟨g, 0, none⟩)] #[]) ∧ w2.cell? ⟨cf, 0, none⟩ = some (.int .i64 (p : Int)) := HT.out w2 h2
  clear h2 HB1
  refine hK.out _ _ hS2 (fun hHeld => ?_)
  clear hK K
  refine take_at (i := 7) (v := ?_) rfl rfl (by kernel_rfl) (by kernel_rfl) (by kernel_rfl) (fun _ _ _ h => h) (Or.inl ⟨by rfl, ?_⟩) (by assumption) ?_
  rotate_left
  · intro w hSw; (try dsimp only at hSw); go_simp; try with_reducible rfl
  try simp only [Act.put, List.setIfInBounds_toArray, List.set_cons_zero, List.set_cons_succ]
  refine wpAnyH_done (by kernel_rfl) (NoPanic.normal ?_) _
  go_wp2_with fail
  go_ret
  exact ⟨rfl, H2.out⟩

end Go.Proofs.YtaakmcihpdbilaaDoor
