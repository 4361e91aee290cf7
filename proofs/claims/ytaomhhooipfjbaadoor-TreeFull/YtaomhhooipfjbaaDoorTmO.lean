/- The code's order, and the comparisons that it hands to the library (layer 11). -/
import Derived.Test.YtaomhhooipfjbaaDoorTmA
import Derived.Test.YtaomhhooipfjbaaDoorTrS
namespace Go.Proofs.YtaomhhooipfjbaaDoor
open Go.RowKit Go.Sort
set_option linter.unusedSimpArgs false

/-- A world with draws, and new blocks, behind another. -/
def Grew (w w' : World) : Prop := ∃ q os, w' = grow (w.drewN q) os

theorem Grew.refl (w : World) : Grew w w := ⟨0, #[], by simp [World.drewN]⟩

theorem Grew.trans {a b c : World} (h : Grew a b) (k : Grew b c) : Grew a c := by
  obtain ⟨q, os, rfl⟩ := h
  obtain ⟨q', os', rfl⟩ := k
  refine ⟨q + q', os ++ os', ?_⟩
  show grow (grow ((a.drewN q).drewN q') os) os' = _
  rw [grow_grow, World.drewN_drewN]

theorem Grew.alloc {a b : World} (h : Grew a b) (o : Obj) : Grew a (b.alloc o) := h.trans ⟨0, #[o], by rw [alloc_eq_grow]; rfl⟩

theorem Grew.below {a b : World} (h : Grew a b) : Below a.heap.size a b := by
  obtain ⟨q, os, rfl⟩ := h
  refine ⟨rfl, rfl, rfl, by simp [grow, World.drewN], fun k hk => ?_⟩
  show (a.heap ++ os)[k]? = _
  rw [Array.getElem?_append_left hk]


set_option maxRecDepth 100000 in
set_option maxHeartbeats 2000000 in
theorem less_grew (a b : Int × Int) (w : World) :
    Calls Tryd.prog 25 #[stampV a, stampV b] w fun e w' => e = .returned (.bool (decide (LessS a b))) ∧ Grew w w' := by
  obtain ⟨t, u⟩ := a
  obtain ⟨x, y⟩ := b
  obtain ⟨D, hD'⟩ : ∃ D, decide (LessS (t, u) (x, y)) = D := ⟨_, rfl⟩
  rw [hD']
  show Calls Tryd.prog _ #[.agg #[.int .i64 t, .int .i64 u], .agg #[.int .i64 x, .int .i64 y]] w _
  by_cases h2 : t = x
  · subst h2
    by_cases h3 : u < y
    · have g3 : decide (u < y) = true := by simp; omega
      have hD : D = true := by rw [← hD']; exact decide_eq_true (.inr ⟨rfl, h3⟩)
      subst hD
      clear hD'
      go_enter Tryd.func25, Tryd.ntmps25
      go_wp2
      go_ret
      exact ⟨rfl, ((Grew.refl w).alloc _).alloc _⟩
    · have g3 : decide (u < y) = false := by simp; omega
      have hD : D = false := by rw [← hD']; exact decide_eq_false (fun h => h.elim (fun h => absurd h (Int.lt_irrefl _)) (fun h => h3 h.2))
      subst hD
      clear hD'
      go_enter Tryd.func25, Tryd.ntmps25
      go_wp2
      go_ret
      exact ⟨rfl, ((Grew.refl w).alloc _).alloc _⟩
  · have g2 : (t == x) = false := by rw [beq_eq_false_iff_ne]; exact h2
    by_cases h1 : t < x
    · have g1 : decide (t < x) = true := by simp; omega
      have hD : D = true := by rw [← hD']; exact decide_eq_true (.inl h1)
      subst hD
      clear hD'
      go_enter Tryd.func25, Tryd.ntmps25
      go_wp2
      go_ret
      exact ⟨rfl, ((Grew.refl w).alloc _).alloc _⟩
    · have g1 : decide (t < x) = false := by simp; omega
      have hD : D = false := by rw [← hD']; exact decide_eq_false (fun h => h.elim h1 (fun h => h2 h.1))
      subst hD
      clear hD'
      go_enter Tryd.func25, Tryd.ntmps25
      go_wp2
      go_ret
      exact ⟨rfl, ((Grew.refl w).alloc _).alloc _⟩


set_option maxRecDepth 100000 in
set_option maxHeartbeats 2000000 in
theorem order_grew (a b : Int × Int) (w : World) :
    Calls Tryd.prog 38 #[stampV a, stampV b] w fun e w' => e = .returned (.int .i64 (ordS a b)) ∧ Grew w w' := by
  have C1' := fun w => less_grew a b w
  have C2' := fun w => less_grew b a w
  obtain ⟨E, hE⟩ : ∃ E, ordS a b = E := ⟨_, rfl⟩
  rw [hE]
  obtain ⟨t, u⟩ := a
  obtain ⟨x, y⟩ := b
  show Calls Tryd.prog _ #[.agg #[.int .i64 t, .int .i64 u], .agg #[.int .i64 x, .int .i64 y]] w _
  by_cases h1 : LessS (t, u) (x, y)
  · obtain rfl : E = -1 := by rw [← hE]; exact if_pos h1
    rw [decide_eq_true h1] at C1'
    have C1 : Hid (∀ w, Calls Tryd.prog 25 #[.agg #[.int .i64 t, .int .i64 u], .agg #[.int .i64 x, .int .i64 y]] w fun e w' => e = .returned (.bool true) ∧ Grew w w') := C1'
    clear C1' C2' h1 hE
    go_enter Tryd.func38, Tryd.ntmps38
    go_wp2_with fail
    refine (C1.out _).mono ?_
    rintro e w1 ⟨rfl, hg1⟩
    have hb1 := hg1.below
    have c0 : w1.cell? ⟨w.heap.size, 0, none⟩ = some (.int .i64 t) := by rw [hb1.cell (p := ⟨w.heap.size, 0, none⟩) (by simp; try omega)]; simp
    have c1 : w1.cell? ⟨w.heap.size, 1, none⟩ = some (.int .i64 u) := by rw [hb1.cell (p := ⟨w.heap.size, 1, none⟩) (by simp; try omega)]; simp
    have d0 : w1.cell? ⟨w.heap.size + 1, 0, none⟩ = some (.int .i64 x) := by rw [hb1.cell (p := ⟨w.heap.size + 1, 0, none⟩) (by simp; try omega)]; simp
    have d1 : w1.cell? ⟨w.heap.size + 1, 1, none⟩ = some (.int .i64 y) := by rw [hb1.cell (p := ⟨w.heap.size + 1, 1, none⟩) (by simp; try omega)]; simp
    have HG1 : Hid (Grew w w1) := (((Grew.refl w).alloc _).alloc _).trans hg1
    clear C1 hb1 hg1
    go_wp2_with fail
    go_ret
    exact ⟨rfl, HG1.out⟩
  · rw [decide_eq_false h1] at C1'
    have C1 : Hid (∀ w, Calls Tryd.prog 25 #[.agg #[.int .i64 t, .int .i64 u], .agg #[.int .i64 x, .int .i64 y]] w fun e w' => e = .returned (.bool false) ∧ Grew w w') := C1'
    by_cases h2 : LessS (x, y) (t, u)
    · obtain rfl : E = 1 := by rw [← hE]; exact (if_neg h1).trans (if_pos h2)
      rw [decide_eq_true h2] at C2'
      have C2 : Hid (∀ w, Calls Tryd.prog 25 #[.agg #[.int .i64 x, .int .i64 y], .agg #[.int .i64 t, .int .i64 u]] w fun e w' => e = .returned (.bool true) ∧ Grew w w') := C2'
      clear C1' C2' h1 h2 hE
      go_enter Tryd.func38, Tryd.ntmps38
      go_wp2_with fail
      refine (C1.out _).mono ?_
      rintro e w1 ⟨rfl, hg1⟩
      have hb1 := hg1.below
      have c0 : w1.cell? ⟨w.heap.size, 0, none⟩ = some (.int .i64 t) := by rw [hb1.cell (p := ⟨w.heap.size, 0, none⟩) (by simp; try omega)]; simp
      have c1 : w1.cell? ⟨w.heap.size, 1, none⟩ = some (.int .i64 u) := by rw [hb1.cell (p := ⟨w.heap.size, 1, none⟩) (by simp; try omega)]; simp
      have d0 : w1.cell? ⟨w.heap.size + 1, 0, none⟩ = some (.int .i64 x) := by rw [hb1.cell (p := ⟨w.heap.size + 1, 0, none⟩) (by simp; try omega)]; simp
      have d1 : w1.cell? ⟨w.heap.size + 1, 1, none⟩ = some (.int .i64 y) := by rw [hb1.cell (p := ⟨w.heap.size + 1, 1, none⟩) (by simp; try omega)]; simp
      have HG1 : Hid (Grew w w1) := (((Grew.refl w).alloc _).alloc _).trans hg1
      clear C1 hb1 hg1
      go_wp2_with fail
      refine (C2.out _).mono ?_
      rintro e w2 ⟨rfl, hg2⟩
      have HG2 : Hid (Grew w w2) := HG1.out.trans hg2
      clear C2 hg2 HG1 c0 c1 d0 d1
      go_wp2_with fail
      go_ret
      exact ⟨rfl, HG2.out⟩
    · obtain rfl : E = 0 := by rw [← hE]; exact (if_neg h1).trans (if_neg h2)
      rw [decide_eq_false h2] at C2'
      have C2 : Hid (∀ w, Calls Tryd.prog 25 #[.agg #[.int .i64 x, .int .i64 y], .agg #[.int .i64 t, .int .i64 u]] w fun e w' => e = .returned (.bool false) ∧ Grew w w') := C2'
      clear C1' C2' h1 h2 hE
      go_enter Tryd.func38, Tryd.ntmps38
      go_wp2_with fail
      refine (C1.out _).mono ?_
      rintro e w1 ⟨rfl, hg1⟩
      have hb1 := hg1.below
      have c0 : w1.cell? ⟨w.heap.size, 0, none⟩ = some (.int .i64 t) := by rw [hb1.cell (p := ⟨w.heap.size, 0, none⟩) (by simp; try omega)]; simp
      have c1 : w1.cell? ⟨w.heap.size, 1, none⟩ = some (.int .i64 u) := by rw [hb1.cell (p := ⟨w.heap.size, 1, none⟩) (by simp; try omega)]; simp
      have d0 : w1.cell? ⟨w.heap.size + 1, 0, none⟩ = some (.int .i64 x) := by rw [hb1.cell (p := ⟨w.heap.size + 1, 0, none⟩) (by simp; try omega)]; simp
      have d1 : w1.cell? ⟨w.heap.size + 1, 1, none⟩ = some (.int .i64 y) := by rw [hb1.cell (p := ⟨w.heap.size + 1, 1, none⟩) (by simp; try omega)]; simp
      have HG1 : Hid (Grew w w1) := (((Grew.refl w).alloc _).alloc _).trans hg1
      clear C1 hb1 hg1
      go_wp2_with fail
      refine (C2.out _).mono ?_
      rintro e w2 ⟨rfl, hg2⟩
      have HG2 : Hid (Grew w w2) := HG1.out.trans hg2
      clear C2 hg2 HG1 c0 c1 d0 d1
      go_wp2_with fail
      go_ret
      exact ⟨rfl, HG2.out⟩

set_option maxRecDepth 100000 in
set_option maxHeartbeats 2000000 in
/-- How an operation stands to a stamp. -/
theorem place1_grew (o : Int × (Int × Int) × (Int × Int) × (Int × Int) × ByteArray × ByteArray) (s : Int × Int) (w : World) :
    Calls Tryd.prog 37 #[.agg (opA o), stampV s] w fun e w' => e = .returned (.int .i64 (ordS o.2.1 s)) ∧ Grew w w' := by
  have C' := fun w => order_grew o.2.1 s w
  obtain ⟨E, hE⟩ : ∃ E, ordS o.2.1 s = E := ⟨_, rfl⟩
  rw [hE] at C' ⊢
  obtain ⟨k0, ⟨k1, k2⟩, ⟨k3, k4⟩, ⟨k5, k6⟩, s7, s8⟩ := o
  obtain ⟨x, y⟩ := s
  have C : Hid (∀ w, Calls Tryd.prog 38 #[.agg #[.int .i64 k1, .int .i64 k2], .agg #[.int .i64 x, .int .i64 y]] w fun e w' => e = .returned (.int .i64 E) ∧ Grew w w') := C'
  show Calls Tryd.prog _ #[.agg #[.int .i64 k0, .int .i64 k1, .int .i64 k2, .int .i64 k3, .int .i64 k4, .int .i64 k5, .int .i64 k6, .string s7, .string s8], .agg #[.int .i64 x, .int .i64 y]] w _
  clear C' hE
  go_enter Tryd.func37, Tryd.ntmps37
  go_wp2_with fail
  refine (C.out _).mono ?_
  rintro e w1 ⟨rfl, hg1⟩
  have HG1 : Hid (Grew w w1) := (((Grew.refl w).alloc _).alloc _).trans hg1
  clear C hg1
  go_wp2_with fail
  go_ret
  exact ⟨rfl, HG1.out⟩

set_option maxRecDepth 100000 in
set_option maxHeartbeats 2000000 in
/-- How two nodes stand. -/
theorem list1_grew (n m : NodeT) (w : World) :
    Calls Tryd.prog 45 #[.agg (nodeA n), .agg (nodeA m)] w fun e w' => e = .returned (.int .i64 (cmpN n m)) ∧ Grew w w' := by
  have C' := fun w => order_grew n.1 m.1 w
  unfold cmpN
  obtain ⟨E, hE⟩ : ∃ E, ordS n.1 m.1 = E := ⟨_, rfl⟩
  rw [hE] at C' ⊢
  obtain ⟨⟨k1, k2⟩, ⟨k3, k4⟩, k5, k6⟩ := n
  obtain ⟨⟨x, y⟩, ⟨q3, q4⟩, q5, q6⟩ := m
  have C : Hid (∀ w, Calls Tryd.prog 38 #[.agg #[.int .i64 k1, .int .i64 k2], .agg #[.int .i64 x, .int .i64 y]] w fun e w' => e = .returned (.int .i64 E) ∧ Grew w w') := C'
  show Calls Tryd.prog _ #[.agg #[.int .i64 k1, .int .i64 k2, .int .i64 k3, .int .i64 k4, .string k5, .string k6], .agg #[.int .i64 x, .int .i64 y, .int .i64 q3, .int .i64 q4, .string q5, .string q6]] w _
  clear C' hE
  go_enter Tryd.func45, Tryd.ntmps45
  go_wp2_with fail
  refine (C.out _).mono ?_
  rintro e w1 ⟨rfl, hg1⟩
  have HG1 : Hid (Grew w w1) := (((Grew.refl w).alloc _).alloc _).trans hg1
  clear C hg1
  go_wp2_with fail
  go_ret
  exact ⟨rfl, HG1.out⟩
end Go.Proofs.YtaomhhooipfjbaaDoor
