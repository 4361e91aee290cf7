/- Layer 20, the code's: do. -/
import Derived.Test.YtkmdajenbidaaaaDoorGpD
namespace Go.Proofs.YtkmdajenbidaaaaDoor
open Go.RowKit
set_option maxRecDepth 100000
set_option linter.unusedSimpArgs false
set_option linter.unusedVariables false
set_option maxRecDepth 100000

/-- The record's box, the group's, its members. -/
structure GdoF (w W : World) (g b c : Nat) (Ep Op : Int) (l : List MemT) (R : Array Value) : Prop where
  rr : Blk W 35 w.heap.size R
  gg : Blk W 26 g #[.int .i64 Ep, .slice (some ⟨b, 0, none⟩) 6 c, .int .i64 Op]
  mm : RowM W b c l
  kk : Kept2 g (some b) w W
  nn : g < w.heap.size ∧ b < w.heap.size ∧ g ≠ b
theorem GdoF.on {w W W' : World} {g b c : Nat} {Ep Op : Int} {l : List MemT} {R : Array Value} (h : GdoF w W g b c Ep Op l R) (hb : Below W.heap.size W W') : GdoF w W' g b c Ep Op l R := ⟨h.rr.on hb, h.gg.on hb, h.mm.on hb, h.kk.on hb, h.nn⟩
theorem GdoF.setE {w W : World} {g b c : Nat} {Ep Op : Int} {l : List MemT} {R : Array Value} (h : GdoF w W g b c Ep Op l R) (E' : Int) : GdoF w (W.setCell ⟨g, 0, none⟩ (.int .i64 E')) g b c E' Op l R :=
  ⟨h.rr.other ⟨g, 0, none⟩ (by have := h.nn.1; show w.heap.size ≠ g; omega) _, h.gg.setAt 0 _, h.mm.other ⟨g, 0, none⟩ (by have := h.nn.2.2; show b ≠ g; omega) _, h.kk.setCell ⟨g, 0, none⟩ rfl _, h.nn⟩
theorem GdoF.setO {w W : World} {g b c : Nat} {Ep Op : Int} {l : List MemT} {R : Array Value} (h : GdoF w W g b c Ep Op l R) (O' : Int) : GdoF w (W.setCell ⟨g, 2, none⟩ (.int .i64 O')) g b c Ep O' l R :=
  ⟨h.rr.other ⟨g, 2, none⟩ (by have := h.nn.1; show w.heap.size ≠ g; omega) _, h.gg.setAt 2 _, h.mm.other ⟨g, 2, none⟩ (by have := h.nn.2.2; show b ≠ g; omega) _, h.kk.setCell ⟨g, 2, none⟩ rfl _, h.nn⟩
theorem kept_row {g b : Nat} {w W : World} (h : Kept2 g (some b) w W) (p : Addr) (hp : p.block = b) (u : Value) : Kept2 g (some b) w (W.setCell p u) :=
  ⟨h.os, h.tape, h.output, by have := h.size; simpa [World.setCell] using this, fun k hk h1 h2 => by rw [Below.heap_setCell W p u k (fun e => h2 (by rw [e, hp]))]; exact h.block k hk h1 h2⟩
theorem GdoF.setI {w W : World} {g b c : Nat} {Ep Op : Int} {l : List MemT} {R : Array Value} (h : GdoF w W g b c Ep Op l R) (k : Nat) (hk : k < 6) (y : Bool) : GdoF w (W.setCell ⟨b, k * 3 + 2, none⟩ (.bool y)) g b c Ep Op (l.set k ((mmL l k).1, (mmL l k).2.1, y)) R :=
  ⟨h.rr.other ⟨b, k * 3 + 2, none⟩ (by have := h.nn.2.1; show w.heap.size ≠ b; omega) _, h.gg.other ⟨b, k * 3 + 2, none⟩ (by have := h.nn.2.2; show g ≠ b; omega) _, h.mm.setI k hk y, kept_row h.kk ⟨b, k * 3 + 2, none⟩ rfl _, h.nn⟩
theorem GdoF.drew {w W : World} {g b c : Nat} {Ep Op : Int} {l : List MemT} {R : Array Value} (h : GdoF w W g b c Ep Op l R) : GdoF w W.drew g b c Ep Op l R := h.on (Below.refl _ _).drew

/-- A group behind what a record that counts does. -/
def gdoP (G : GrpT) (Kd q : Int) : GrpT :=
  if Kd = 1 then (G.1, G.2.1, G.2.2 + 1) else if Kd = 4 then (G.1 + 1, G.2.1, G.2.2)
  else (G.1 + 1, G.2.1.set (q - 1).toNat ((mmL G.2.1 (q - 1).toNat).1, (mmL G.2.1 (q - 1).toNat).2.1, decide (Kd = 2)), G.2.2)

set_option maxHeartbeats 4000000 in
theorem do20_any (Ep Op : Int) (Kd F C S : Int) (H : ByteArray) (k0 k1 k2 k3 k4 k5 k6 : Int) (s7 s8 : ByteArray) (q : Int) (ar : Option Addr) (nr cr : Nat) (l : List MemT) (g b c : Nat) (w : World) (RE RO : Int) (Rl : List MemT) (hR : gdoP (Ep, l, Op) Kd q = (RE, Rl, RO)) (hE : 0 ≤ Ep ∧ Ep ≤ 1099511627775) (hO : 0 ≤ Op ∧ Op ≤ 500) (hKd : 1 ≤ Kd ∧ Kd ≤ 4) (hq : Kd = 2 ∨ Kd = 3 → 1 ≤ q ∧ q ≤ 6) (hW : ∀ i, i < 6 → (mmL l i).1 = (i : Int) + 1)
    (hG : Blk w 26 g #[.int .i64 Ep, .slice (some ⟨b, 0, none⟩) 6 c, .int .i64 Op]) (hM : RowM w b c l) (hne : g ≠ b) :
    Calls Tryd.prog 20 #[.pointer (some ⟨g, 0, none⟩), .agg #[.int .i64 Kd, .int .i64 F, .int .i64 C, .int .i64 S, .string H, .int .i64 k0, .int .i64 k1, .int .i64 k2, .int .i64 k3, .int .i64 k4, .int .i64 k5, .int .i64 k6, .string s7, .string s8, .int .i64 q, .slice ar nr cr]] w fun e w' => e = .returned (.tuple #[]) ∧ Blk w' 26 g #[.int .i64 RE, .slice (some ⟨b, 0, none⟩) 6 c, .int .i64 RO] ∧ RowM w' b c Rl ∧ Kept2 g (some b) w w' := by
  have HR : Hid (gdoP (Ep, l, Op) Kd q = (RE, Rl, RO)) := hR
  have HQ : Hid (Kd = 2 ∨ Kd = 3 → 1 ≤ q ∧ q ≤ 6) := hq
  have n0 := below_new w (.cells #[.int .i64 Kd, .int .i64 F, .int .i64 C, .int .i64 S, .string H, .int .i64 k0, .int .i64 k1, .int .i64 k2, .int .i64 k3, .int .i64 k4, .int .i64 k5, .int .i64 k6, .string s7, .string s8, .int .i64 q, .slice ar nr cr] 35)
  have HW : Hid (∀ i, i < 6 → (mmL l i).1 = (i : Int) + 1) := hW
  obtain ⟨w0, hw0⟩ : ∃ w0, w.alloc (.cells #[.int .i64 Kd, .int .i64 F, .int .i64 C, .int .i64 S, .string H, .int .i64 k0, .int .i64 k1, .int .i64 k2, .int .i64 k3, .int .i64 k4, .int .i64 k5, .int .i64 k6, .string s7, .string s8, .int .i64 q, .slice ar nr cr] 35) = w0 := ⟨_, rfl⟩
  have HS0 : Hid (GdoF w w0 g b c Ep Op l #[.int .i64 Kd, .int .i64 F, .int .i64 C, .int .i64 S, .string H, .int .i64 k0, .int .i64 k1, .int .i64 k2, .int .i64 k3, .int .i64 k4, .int .i64 k5, .int .i64 k6, .string s7, .string s8, .int .i64 q, .slice ar nr cr]) := by
    rw [← hw0]
    exact ⟨Blk.new w _ _, hG.on n0, hM.on n0, (Kept2.refl _ _ _).on n0, hG.lt, hM.lt, hne⟩
  have HW0 : Hid (w.alloc (.cells #[.int .i64 Kd, .int .i64 F, .int .i64 C, .int .i64 S, .string H, .int .i64 k0, .int .i64 k1, .int .i64 k2, .int .i64 k3, .int .i64 k4, .int .i64 k5, .int .i64 k6, .string s7, .string s8, .int .i64 q, .slice ar nr cr] 35) = w0) := hw0
  clear hR hq n0 hW hG hM hne
  have r0 : w0.cell? ⟨w.heap.size, 0, none⟩ = some (.int .i64 Kd) := HS0.out.rr.cell 0
  rw [← hw0] at r0
  clear hw0
  by_cases hK1 : Kd = 1
  · have e' : gdoP (Ep, l, Op) Kd q = (Ep, l, Op + 1) := by unfold gdoP; rw [if_pos hK1]
    rw [HR.out] at e'
    cases e'
    have bK : (Kd == 1) = true := by simp [hK1]
    have o2 : w0.cell? ⟨g, 2, none⟩ = some (.int .i64 Op) := HS0.out.gg.cell 2
    have o3 : w0.frozen? ⟨g, 2, none⟩ = false := HS0.out.gg.free 2
    rw [← HW0.out] at o2 o3
    clear hK1 hKd
    go_enter Tryd.func20, Tryd.ntmps20
    go_wp2_with fail
    rw [HW0.out]
    refine bodyPost_ret (results_none rfl _ _ _) rfl ?_
    exact ⟨rfl, (HS0.out.setO (Op + 1)).gg, (HS0.out.setO (Op + 1)).mm, (HS0.out.setO (Op + 1)).kk⟩
  have bK : (Kd == 1) = false := by simp [hK1]
  have HS1 : Hid (GdoF w (w0.setCell ⟨g, 0, none⟩ (.int .i64 (Ep + 1))) g b c (Ep + 1) Op l #[.int .i64 Kd, .int .i64 F, .int .i64 C, .int .i64 S, .string H, .int .i64 k0, .int .i64 k1, .int .i64 k2, .int .i64 k3, .int .i64 k4, .int .i64 k5, .int .i64 k6, .string s7, .string s8, .int .i64 q, .slice ar nr cr]) := HS0.out.setE (Ep + 1)
  obtain ⟨w1, hw1⟩ : ∃ w1, w0.setCell ⟨g, 0, none⟩ (.int .i64 (Ep + 1)) = w1 := ⟨_, rfl⟩
  rw [hw1] at HS1
  have o2 : w0.cell? ⟨g, 0, none⟩ = some (.int .i64 Ep) := HS0.out.gg.cell 0
  have o3 : w0.frozen? ⟨g, 0, none⟩ = false := HS0.out.gg.free 0
  have r1 : w1.cell? ⟨w.heap.size, 0, none⟩ = some (.int .i64 Kd) := HS1.out.rr.cell 0
  rw [← hw1, ← HW0.out] at r1
  rw [← HW0.out] at o2 o3 hw1
  have HW1 : Hid ((w.alloc (.cells #[.int .i64 Kd, .int .i64 F, .int .i64 C, .int .i64 S, .string H, .int .i64 k0, .int .i64 k1, .int .i64 k2, .int .i64 k3, .int .i64 k4, .int .i64 k5, .int .i64 k6, .string s7, .string s8, .int .i64 q, .slice ar nr cr] 35)).setCell ⟨g, 0, none⟩ (.int .i64 (Ep + 1)) = w1) := hw1
  clear HS0 HW0 hw1
  by_cases hK4 : Kd = 4
  · have e' : gdoP (Ep, l, Op) Kd q = (Ep + 1, l, Op) := by unfold gdoP; rw [if_neg hK1, if_pos hK4]
    rw [HR.out] at e'
    cases e'
    have bK4 : (Kd != 4) = false := by simp [hK4]
    clear hK1 hK4 hKd
    go_enter Tryd.func20, Tryd.ntmps20
    go_wp2_with fail
    rw [HW1.out]
    go_end0
    exact ⟨rfl, HS1.out.gg, HS1.out.mm, HS1.out.kk⟩
  have bK4 : (Kd != 4) = true := by simp [hK4]
  have hq6 := HQ.out (by omega)
  obtain ⟨k, hk⟩ : ∃ k : Nat, q = (k : Int) + 1 := ⟨(q - 1).toNat, by omega⟩
  have hk6 : k < 6 := by omega
  obtain ⟨Z, hZ⟩ : ∃ Z, (Kd == 2) = Z := ⟨_, rfl⟩
  have e' : gdoP (Ep, l, Op) Kd q = (Ep + 1, l.set k ((mmL l k).1, (mmL l k).2.1, Z), Op) := by
    unfold gdoP
    rw [if_neg hK1, if_neg hK4, show (q - 1).toNat = k by omega, show decide (Kd = 2) = Z by rw [← hZ]; by_cases e : Kd = 2 <;> simp [e]]
  rw [HR.out] at e'
  obtain ⟨p1, p23⟩ := Prod.mk.inj e'
  obtain ⟨p2, p3⟩ := Prod.mk.inj p23
  clear p23
  subst p1
  replace p3 := p3.symm
  subst p3
  have HRl : Hid (Rl = l.set k ((mmL l k).1, (mmL l k).2.1, Z)) := p2
  have CB : Hid (∀ W, RowM W b c l → Calls Tryd.prog 9 #[.slice (some ⟨b, 0, none⟩) 6 c, .int .i64 q] W fun e w' => e = .returned (.pointer (some ⟨b, k * 3, none⟩)) ∧ Below W.heap.size W w') := fun W hW => byWhoR_any l b c k q W hW hk6 HW.out hk
  have HK6 : Hid (k < 6) := hk6
  obtain ⟨o, ho⟩ : ∃ o, k * 3 = o := ⟨_, rfl⟩
  rw [ho] at CB
  have HO3 : Hid (k * 3 = o) := ho
  clear hK1 hK4 hKd hq6 hk hk6 e' p2 HR HQ ho HW
  go_enter Tryd.func20, Tryd.ntmps20
  go_wp2_with fail
  rw [HW1.out]
  clear o2 o3 r0 r1 HW1
  have hS0 : w1.drew.cell? ⟨g, 1, none⟩ = some (.slice (some ⟨b, 0, none⟩) 6 c) ∧ w1.drew.cell? ⟨w.heap.size, 14, none⟩ = some (.int .i64 q) ∧ w1.drew.cell? ⟨w.heap.size, 0, none⟩ = some (.int .i64 Kd) := ⟨HS1.out.drew.gg.cell 1, HS1.out.drew.rr.cell 14, HS1.out.drew.rr.cell 0⟩
  refine wp_region_noPanic ?_
  refine wp_region_held_drew (S := fun w' => w'.cell? ⟨g, 1, none⟩ = some (.slice (some ⟨b, 0, none⟩) 6 c) ∧ w'.cell? ⟨w.heap.size, 14, none⟩ = some (.int .i64 q) ∧ w'.cell? ⟨w.heap.size, 0, none⟩ = some (.int .i64 Kd)) (by kernel_rfl) (by first | exact trivial | assumption | exact ⟨by assumption, by assumption⟩) (fun hHeld => ?_)
  refine take_at (i := 0) (v := ?_) rfl rfl (by kernel_rfl) (by kernel_rfl) (by kernel_rfl) (fun _ _ _ h => h) (Or.inl ⟨by rfl, ?_⟩) (by assumption) ?_
  rotate_left
  · intro w hSw; (try dsimp only at hSw); go_simp; try with_reducible rfl
  try simp only [Act.put, List.setIfInBounds_toArray, List.set_cons_zero, List.set_cons_succ]
  refine take_at (i := 1) (v := ?_) rfl rfl (by kernel_rfl) (by kernel_rfl) (by kernel_rfl) (fun _ _ _ h => h) (Or.inl ⟨by rfl, ?_⟩) (by assumption) ?_
  rotate_left
  · intro w hSw; (try dsimp only at hSw); go_simp; try with_reducible rfl
  try simp only [Act.put, List.setIfInBounds_toArray, List.set_cons_zero, List.set_cons_succ]
  refine take_at (i := 2) (v := ?_) rfl rfl (by kernel_rfl) (by kernel_rfl) (by kernel_rfl) (fun _ _ _ h => h) (Or.inl ⟨by rfl, ?_⟩) (by assumption) ?_
  rotate_left
  · intro w hSw; (try dsimp only at hSw); go_simp; try with_reducible rfl
  try simp only [Act.put, List.setIfInBounds_toArray, List.set_cons_zero, List.set_cons_succ]
  refine take_at (i := 3) (v := ?_) rfl rfl (by kernel_rfl) (by kernel_rfl) (by kernel_rfl) (fun _ _ _ h => h) (Or.inl ⟨by rfl, ?_⟩) (by assumption) ?_
  rotate_left
  · intro w hSw; (try dsimp only at hSw); go_simp; try with_reducible rfl
  try simp only [Act.put, List.setIfInBounds_toArray, List.set_cons_zero, List.set_cons_succ]
  refine take_at (i := 4) (v := ?_) rfl rfl (by kernel_rfl) (by kernel_rfl) (by kernel_rfl) (fun _ _ _ h => h) (Or.inl ⟨by rfl, ?_⟩) (by assumption) ?_
  rotate_left
  · intro w hSw; (try dsimp only at hSw); go_simp; try with_reducible rfl
  try simp only [Act.put, List.setIfInBounds_toArray, List.set_cons_zero, List.set_cons_succ]
  refine take_at (i := 5) (v := ?_) rfl rfl (by kernel_rfl) (by kernel_rfl) (by kernel_rfl) (fun _ _ _ h => h) (Or.inl ⟨by rfl, ?_⟩) (by assumption) ?_
  rotate_left
  · intro w hSw; (try dsimp only at hSw); go_simp; try with_reducible rfl
  try simp only [Act.put, List.setIfInBounds_toArray, List.set_cons_zero, List.set_cons_succ]
  refine take_at (i := 7) (v := ?_) rfl rfl (by kernel_rfl) (by kernel_rfl) (by kernel_rfl) (fun _ _ _ h => h) (Or.inl ⟨by rfl, ?_⟩) (by assumption) ?_
  rotate_left
  · intro w hSw; (try dsimp only at hSw); go_simp; try with_reducible rfl
  try simp only [Act.put, List.setIfInBounds_toArray, List.set_cons_zero, List.set_cons_succ]
  refine take_at (i := 8) (v := ?_) rfl rfl (by kernel_rfl) (by kernel_rfl) (by kernel_rfl) (fun _ _ _ h => h) (Or.inl ⟨by rfl, ?_⟩) (by assumption) ?_
  rotate_left
  · intro w hSw; (try dsimp only at hSw); go_simp; try with_reducible rfl
  try simp only [Act.put, List.setIfInBounds_toArray, List.set_cons_zero, List.set_cons_succ]
  refine take_at (i := 9) (v := ?_) rfl rfl (by kernel_rfl) (by kernel_rfl) (by kernel_rfl) (fun _ _ _ h => h) (Or.inl ⟨by rfl, ?_⟩) (by assumption) ?_
  rotate_left
  · intro w hSw; (try dsimp only at hSw); go_simp; try with_reducible rfl
  try simp only [Act.put, List.setIfInBounds_toArray, List.set_cons_zero, List.set_cons_succ]
  clear hS0
  refine wpAnyH_ready (rs := [6]) (by kernel_rfl) (by simp) ?_
  refine AllReadyH.cons rfl (fun K hK => ?_) AllReadyH.nil
  go_simp
  refine (CB.out _ HS1.out.drew.mm).mono ?_
  rintro e v1 ⟨rfl, hb1⟩
  have HS2 : Hid (GdoF w v1 g b c (Ep + 1) Op l #[.int .i64 Kd, .int .i64 F, .int .i64 C, .int .i64 S, .string H, .int .i64 k0, .int .i64 k1, .int .i64 k2, .int .i64 k3, .int .i64 k4, .int .i64 k5, .int .i64 k6, .string s7, .string s8, .int .i64 q, .slice ar nr cr]) := HS1.out.drew.on hb1
  clear HS1 hb1 CB
  refine hK.out _ _ ⟨HS2.out.gg.cell 1, HS2.out.rr.cell 14, HS2.out.rr.cell 0⟩ (fun hHeld => ?_)
  clear hK K
  refine take_at (i := 10) (v := ?_) rfl rfl (by kernel_rfl) (by kernel_rfl) (by kernel_rfl) (fun _ _ _ h => h) (Or.inl ⟨by rfl, ?_⟩) (by assumption) ?_
  rotate_left
  · intro w hSw; (try dsimp only at hSw); go_simp; try with_reducible rfl
  try simp only [Act.put, List.setIfInBounds_toArray, List.set_cons_zero, List.set_cons_succ]
  refine take_at (i := 11) (v := ?_) rfl rfl (by kernel_rfl) (by kernel_rfl) (by kernel_rfl) (fun _ _ _ h => h) (Or.inl ⟨by rfl, ?_⟩) (by assumption) ?_
  rotate_left
  · intro w hSw; (try dsimp only at hSw); go_simp; try with_reducible rfl
  try simp only [Act.put, List.setIfInBounds_toArray, List.set_cons_zero, List.set_cons_succ]
  refine wpAnyH_ready (rs := [12]) (by kernel_rfl) (by simp) ?_
  refine AllReadyH.cons rfl (fun K hK => ?_) AllReadyH.nil
  have HS3 : Hid (GdoF w (v1.setCell ⟨b, k * 3 + 2, none⟩ (.bool Z)) g b c (Ep + 1) Op _ #[.int .i64 Kd, .int .i64 F, .int .i64 C, .int .i64 S, .string H, .int .i64 k0, .int .i64 k1, .int .i64 k2, .int .i64 k3, .int .i64 k4, .int .i64 k5, .int .i64 k6, .string s7, .string s8, .int .i64 q, .slice ar nr cr]) := HS2.out.setI k HK6.out Z
  rw [HO3.out] at HS3
  obtain ⟨y2, hy2⟩ : ∃ y2, v1.cell? ⟨b, o + 2, none⟩ = some (.bool y2) := by
    obtain ⟨_, _, _, cur, hb, _, hc⟩ := HS2.out.mm
    exact ⟨_, by rw [← HO3.out, hb.cell]; exact (hc k HK6.out).2.2⟩
  have hf2 : v1.frozen? ⟨b, o + 2, none⟩ = false := HS2.out.mm.free _
  go_simp
  refine hK.out _ _ ⟨HS3.out.gg.cell 1, HS3.out.rr.cell 14, HS3.out.rr.cell 0⟩ (fun hHeld => ?_)
  clear hK K
  refine wpAnyH_done (by kernel_rfl) (NoPanic.normal ?_) _
  go_wp2_with fail
  go_end0
  exact ⟨rfl, HS3.out.gg, by rw [HRl.out]; exact HS3.out.mm, HS3.out.kk⟩

end Go.Proofs.YtkmdajenbidaaaaDoor
