import Derived.Test.YtogbkfakihnbdaaGreatDoorRT
import Derived.Shelf.SlSortCmp.Insertion
import Derived.Shelf.GgSortFunc.RowK
import Derived.Shelf.GgSortFunc.InsertionK
import Derived.Sort.Statements
import Derived.Test.YtogbkfakihnbdaaGreatDoorTA
import Derived.RangeFuncNested
import Derived.RangeFuncLeaves
import Derived.RangeFuncBox
import Derived.Maps.AppendAt
import Derived.Shelf.AbstractIn
import Derived.OwnWalkIn
import Derived.TacticsInMore
import Derived.RegionIn
import Derived.LoopNIn
import Derived.LoopIn
import Derived.Test.YtogbkfakihnbdaaGreatDoorTX
/- Layer 11 on plain data: nodes sorted by their numbers. -/
namespace Go.Proofs.YtogbkfakihnbdaaGreatDoor
open Go.RowKit Go.Sort
set_option linter.unusedSimpArgs false

/-- How two stamps stand. -/
def ordS (a b : Int × Int) : Int := if LessS a b then -1 else if LessS b a then 1 else 0

theorem ordS_lt (a b : Int × Int) : ordS a b < 0 ↔ LessS a b := by
  unfold ordS
  by_cases h : LessS a b
  · rw [if_pos h]; exact ⟨fun _ => h, fun _ => by decide⟩
  · rw [if_neg h]
    by_cases k : LessS b a
    · rw [if_pos k]; exact ⟨fun h => absurd h (by decide), fun h2 => absurd h2 h⟩
    · rw [if_neg k]; exact ⟨fun h => absurd h (by decide), fun h2 => absurd h2 h⟩

theorem ordS_eq (a b : Int × Int) : ordS a b = 0 ↔ a = b := by
  unfold ordS
  by_cases h : LessS a b
  · rw [if_pos h]; exact ⟨fun h => absurd h (by decide), fun e => by rw [e] at h; exact absurd h (lessS_self _)⟩
  · rw [if_neg h]
    by_cases k : LessS b a
    · rw [if_pos k]; exact ⟨fun h => absurd h (by decide), fun e => by rw [e] at k; exact absurd k (lessS_self _)⟩
    · rw [if_neg k]
      refine ⟨fun _ => ?_, fun _ => rfl⟩
      by_cases e : a = b
      · exact e
      · exact absurd (lessS_or _ _ h e) k

end Go.Proofs.YtogbkfakihnbdaaGreatDoor

/- The code's order, and the comparisons that it hands to the library (layer 11). -/
namespace Go.Proofs.YtogbkfakihnbdaaGreatDoor
open Go.RowKit Go.Sort
set_option linter.unusedSimpArgs false

/-- A world with draws, and new blocks, behind another. -/
def Grew (w w' : World) : Prop := ∃ q os, w' = grow (w.drewN q) os

theorem Grew.refl (w : World) : Grew w w := ⟨0, #[], by simp [World.drewN]⟩

theorem Grew.trans {a b c : World} (h : Grew a b) (k : Grew b c) : Grew a c := by
  obtain ⟨q, os, rfl⟩ := h
  obtain ⟨q', os', rfl⟩ := k
  refine ⟨q + q', os ++ os', ?_⟩
  show grow (grow ((a.drewN q).drewN q') os) os' = _
  rw [grow_grow, World.drewN_drewN]

theorem Grew.alloc {a b : World} (h : Grew a b) (o : Obj) : Grew a (b.alloc o) := h.trans ⟨0, #[o], by rw [alloc_eq_grow]; rfl⟩

theorem Grew.below {a b : World} (h : Grew a b) : Below a.heap.size a b := by
  obtain ⟨q, os, rfl⟩ := h
  refine ⟨rfl, rfl, rfl, by simp [grow, World.drewN], fun k hk => ?_⟩
  show (a.heap ++ os)[k]? = _
  rw [Array.getElem?_append_left hk]

set_option maxRecDepth 100000 in
set_option maxHeartbeats 2000000 in
theorem less_grew (a b : Int × Int) (w : World) :
    Calls Tryz.prog 57 #[stampV a, stampV b] w fun e w' => e = .returned (.bool (decide (LessS a b))) ∧ Grew w w' := by
  obtain ⟨t, u⟩ := a
  obtain ⟨x, y⟩ := b
  obtain ⟨D, hD'⟩ : ∃ D, decide (LessS (t, u) (x, y)) = D := ⟨_, rfl⟩
  rw [hD']
  show Calls Tryz.prog _ #[.agg #[.int .i64 t, .int .i64 u], .agg #[.int .i64 x, .int .i64 y]] w _
  by_cases h2 : t = x
  · subst h2
    by_cases h3 : u < y
    · have g3 : decide (u < y) = true := by simp; omega
      have hD : D = true := by rw [← hD']; exact decide_eq_true (.inr ⟨rfl, h3⟩)
      subst hD
      clear hD'
      go_enter Tryz.func57, Tryz.ntmps57
      go_wp2
      go_ret
      exact ⟨rfl, ((Grew.refl w).alloc _).alloc _⟩
    · have g3 : decide (u < y) = false := by simp; omega
      have hD : D = false := by rw [← hD']; exact decide_eq_false (fun h => h.elim (fun h => absurd h (Int.lt_irrefl _)) (fun h => h3 h.2))
      subst hD
      clear hD'
      go_enter Tryz.func57, Tryz.ntmps57
      go_wp2
      go_ret
      exact ⟨rfl, ((Grew.refl w).alloc _).alloc _⟩
  · have g2 : (t == x) = false := by rw [beq_eq_false_iff_ne]; exact h2
    by_cases h1 : t < x
    · have g1 : decide (t < x) = true := by simp; omega
      have hD : D = true := by rw [← hD']; exact decide_eq_true (.inl h1)
      subst hD
      clear hD'
      go_enter Tryz.func57, Tryz.ntmps57
      go_wp2
      go_ret
      exact ⟨rfl, ((Grew.refl w).alloc _).alloc _⟩
    · have g1 : decide (t < x) = false := by simp; omega
      have hD : D = false := by rw [← hD']; exact decide_eq_false (fun h => h.elim h1 (fun h => h2 h.1))
      subst hD
      clear hD'
      go_enter Tryz.func57, Tryz.ntmps57
      go_wp2
      go_ret
      exact ⟨rfl, ((Grew.refl w).alloc _).alloc _⟩

set_option maxRecDepth 100000 in
set_option maxHeartbeats 2000000 in
theorem order_grew (a b : Int × Int) (w : World) :
    Calls Tryz.prog 89 #[stampV a, stampV b] w fun e w' => e = .returned (.int .i64 (ordS a b)) ∧ Grew w w' := by
  have C1' := fun w => less_grew a b w
  have C2' := fun w => less_grew b a w
  obtain ⟨E, hE⟩ : ∃ E, ordS a b = E := ⟨_, rfl⟩
  rw [hE]
  obtain ⟨t, u⟩ := a
  obtain ⟨x, y⟩ := b
  show Calls Tryz.prog _ #[.agg #[.int .i64 t, .int .i64 u], .agg #[.int .i64 x, .int .i64 y]] w _
  by_cases h1 : LessS (t, u) (x, y)
  · obtain rfl : E = -1 := by rw [← hE]; exact if_pos h1
    rw [decide_eq_true h1] at C1'
    have C1 : Hid (∀ w, Calls Tryz.prog 57 #[.agg #[.int .i64 t, .int .i64 u], .agg #[.int .i64 x, .int .i64 y]] w fun e w' => e = .returned (.bool true) ∧ Grew w w') := C1'
    clear C1' C2' h1 hE
    go_enter Tryz.func89, Tryz.ntmps89
    go_wp2_with fail
    refine (C1.out _).mono ?_
    rintro e w1 ⟨rfl, hg1⟩
    have hb1 := hg1.below
    have c0 : w1.cell? ⟨w.heap.size, 0, none⟩ = some (.int .i64 t) := by rw [hb1.cell (p := ⟨w.heap.size, 0, none⟩) (by simp; try omega)]; simp
    have c1 : w1.cell? ⟨w.heap.size, 1, none⟩ = some (.int .i64 u) := by rw [hb1.cell (p := ⟨w.heap.size, 1, none⟩) (by simp; try omega)]; simp
    have d0 : w1.cell? ⟨w.heap.size + 1, 0, none⟩ = some (.int .i64 x) := by rw [hb1.cell (p := ⟨w.heap.size + 1, 0, none⟩) (by simp; try omega)]; simp
    have d1 : w1.cell? ⟨w.heap.size + 1, 1, none⟩ = some (.int .i64 y) := by rw [hb1.cell (p := ⟨w.heap.size + 1, 1, none⟩) (by simp; try omega)]; simp
    have HG1 : Hid (Grew w w1) := (((Grew.refl w).alloc _).alloc _).trans hg1
    clear C1 hb1 hg1
    go_wp2_with fail
    go_ret
    exact ⟨rfl, HG1.out⟩
  · rw [decide_eq_false h1] at C1'
    have C1 : Hid (∀ w, Calls Tryz.prog 57 #[.agg #[.int .i64 t, .int .i64 u], .agg #[.int .i64 x, .int .i64 y]] w fun e w' => e = .returned (.bool false) ∧ Grew w w') := C1'
    by_cases h2 : LessS (x, y) (t, u)
    · obtain rfl : E = 1 := by rw [← hE]; exact (if_neg h1).trans (if_pos h2)
      rw [decide_eq_true h2] at C2'
      have C2 : Hid (∀ w, Calls Tryz.prog 57 #[.agg #[.int .i64 x, .int .i64 y], .agg #[.int .i64 t, .int .i64 u]] w fun e w' => e = .returned (.bool true) ∧ Grew w w') := C2'
      clear C1' C2' h1 h2 hE
      go_enter Tryz.func89, Tryz.ntmps89
      go_wp2_with fail
      refine (C1.out _).mono ?_
      rintro e w1 ⟨rfl, hg1⟩
      have hb1 := hg1.below
      have c0 : w1.cell? ⟨w.heap.size, 0, none⟩ = some (.int .i64 t) := by rw [hb1.cell (p := ⟨w.heap.size, 0, none⟩) (by simp; try omega)]; simp
      have c1 : w1.cell? ⟨w.heap.size, 1, none⟩ = some (.int .i64 u) := by rw [hb1.cell (p := ⟨w.heap.size, 1, none⟩) (by simp; try omega)]; simp
      have d0 : w1.cell? ⟨w.heap.size + 1, 0, none⟩ = some (.int .i64 x) := by rw [hb1.cell (p := ⟨w.heap.size + 1, 0, none⟩) (by simp; try omega)]; simp
      have d1 : w1.cell? ⟨w.heap.size + 1, 1, none⟩ = some (.int .i64 y) := by rw [hb1.cell (p := ⟨w.heap.size + 1, 1, none⟩) (by simp; try omega)]; simp
      have HG1 : Hid (Grew w w1) := (((Grew.refl w).alloc _).alloc _).trans hg1
      clear C1 hb1 hg1
      go_wp2_with fail
      refine (C2.out _).mono ?_
      rintro e w2 ⟨rfl, hg2⟩
      have HG2 : Hid (Grew w w2) := HG1.out.trans hg2
      clear C2 hg2 HG1 c0 c1 d0 d1
      go_wp2_with fail
      go_ret
      exact ⟨rfl, HG2.out⟩
    · obtain rfl : E = 0 := by rw [← hE]; exact (if_neg h1).trans (if_neg h2)
      rw [decide_eq_false h2] at C2'
      have C2 : Hid (∀ w, Calls Tryz.prog 57 #[.agg #[.int .i64 x, .int .i64 y], .agg #[.int .i64 t, .int .i64 u]] w fun e w' => e = .returned (.bool false) ∧ Grew w w') := C2'
      clear C1' C2' h1 h2 hE
      go_enter Tryz.func89, Tryz.ntmps89
      go_wp2_with fail
      refine (C1.out _).mono ?_
      rintro e w1 ⟨rfl, hg1⟩
      have hb1 := hg1.below
      have c0 : w1.cell? ⟨w.heap.size, 0, none⟩ = some (.int .i64 t) := by rw [hb1.cell (p := ⟨w.heap.size, 0, none⟩) (by simp; try omega)]; simp
      have c1 : w1.cell? ⟨w.heap.size, 1, none⟩ = some (.int .i64 u) := by rw [hb1.cell (p := ⟨w.heap.size, 1, none⟩) (by simp; try omega)]; simp
      have d0 : w1.cell? ⟨w.heap.size + 1, 0, none⟩ = some (.int .i64 x) := by rw [hb1.cell (p := ⟨w.heap.size + 1, 0, none⟩) (by simp; try omega)]; simp
      have d1 : w1.cell? ⟨w.heap.size + 1, 1, none⟩ = some (.int .i64 y) := by rw [hb1.cell (p := ⟨w.heap.size + 1, 1, none⟩) (by simp; try omega)]; simp
      have HG1 : Hid (Grew w w1) := (((Grew.refl w).alloc _).alloc _).trans hg1
      clear C1 hb1 hg1
      go_wp2_with fail
      refine (C2.out _).mono ?_
      rintro e w2 ⟨rfl, hg2⟩
      have HG2 : Hid (Grew w w2) := HG1.out.trans hg2
      clear C2 hg2 HG1 c0 c1 d0 d1
      go_wp2_with fail
      go_ret
      exact ⟨rfl, HG2.out⟩

set_option maxRecDepth 100000 in
set_option maxHeartbeats 2000000 in
/-- How an operation stands to a stamp. -/
theorem place1_grew (o : Int × (Int × Int) × (Int × Int) × (Int × Int) × ByteArray × ByteArray) (s : Int × Int) (w : World) :
    Calls Tryz.prog 88 #[.agg (opA o), stampV s] w fun e w' => e = .returned (.int .i64 (ordS o.2.1 s)) ∧ Grew w w' := by
  have C' := fun w => order_grew o.2.1 s w
  obtain ⟨E, hE⟩ : ∃ E, ordS o.2.1 s = E := ⟨_, rfl⟩
  rw [hE] at C' ⊢
  obtain ⟨k0, ⟨k1, k2⟩, ⟨k3, k4⟩, ⟨k5, k6⟩, s7, s8⟩ := o
  obtain ⟨x, y⟩ := s
  have C : Hid (∀ w, Calls Tryz.prog 89 #[.agg #[.int .i64 k1, .int .i64 k2], .agg #[.int .i64 x, .int .i64 y]] w fun e w' => e = .returned (.int .i64 E) ∧ Grew w w') := C'
  show Calls Tryz.prog _ #[.agg #[.int .i64 k0, .int .i64 k1, .int .i64 k2, .int .i64 k3, .int .i64 k4, .int .i64 k5, .int .i64 k6, .string s7, .string s8], .agg #[.int .i64 x, .int .i64 y]] w _
  clear C' hE
  go_enter Tryz.func88, Tryz.ntmps88
  go_wp2_with fail
  refine (C.out _).mono ?_
  rintro e w1 ⟨rfl, hg1⟩
  have HG1 : Hid (Grew w w1) := (((Grew.refl w).alloc _).alloc _).trans hg1
  clear C hg1
  go_wp2_with fail
  go_ret
  exact ⟨rfl, HG1.out⟩

end Go.Proofs.YtogbkfakihnbdaaGreatDoor

/- The library's maps.Copy at nodes (layer 11). -/
namespace Go.Proofs.YtogbkfakihnbdaaGreatDoor
open Go.RowKit
set_option linter.unusedSimpArgs false

theorem MapR.grown {w w' : World} {row : Option Nat} {r it : Nat} {ns rest : List NodeT} (h : MapR w r it ns rest) (hg : w.grownBy w' row) (h1 : some r ≠ row) (h2 : some it ≠ row) : MapR w' r it ns rest :=
  h.block (hg.block r h.map.lt h1) (hg.block it h.lt h2)

theorem MapR.on {w w' : World} {r it : Nat} {ns rest : List NodeT} (h : MapR w r it ns rest) (hb : Below w.heap.size w w') : MapR w' r it ns rest :=
  h.block (hb.block r h.map.lt) (hb.block it h.lt)

theorem MapR.left {w : World} {r it : Nat} {ns rest : List NodeT} (h : MapR w r it ns rest) : w.rangeLeft r it = rest.length := by
  obtain ⟨_, l, _, rl, h2, rfl⟩ := h
  obtain ⟨es, clock, since, seen, c0, k1, _, _, k4, _, _, _, k8⟩ := h2
  simp only [World.rangeLeft, k1, k4]
  have := congrArg List.length k8
  simpa using this

end Go.Proofs.YtogbkfakihnbdaaGreatDoor

/- The library's maps.Values, slices.Collect at nodes (layer 11). -/
namespace Go.Proofs.YtogbkfakihnbdaaGreatDoor
open Go.RowKit
set_option linter.unusedSimpArgs false

end Go.Proofs.YtogbkfakihnbdaaGreatDoor

/- The library's slices.SortFunc, SortedFunc at nodes; the code's list (layer 11). -/
namespace Go.Proofs.YtogbkfakihnbdaaGreatDoor
open Go.RowKit Go.Sort
set_option linter.unusedSimpArgs false

end Go.Proofs.YtogbkfakihnbdaaGreatDoor

/- The library's slices.BinarySearchFunc at operations (layer 11). -/
namespace Go.Proofs.YtogbkfakihnbdaaGreatDoor
open Go.RowKit
set_option linter.unusedSimpArgs false

/-- How many operations stand ahead of a stamp. -/
def lowO (s : Int × Int) (ops : List OpT) : Nat := ops.findIdx (fun x => decide (¬ LessS x.2.1 s))

theorem lowO_le (s : Int × Int) (ops : List OpT) : lowO s ops ≤ ops.length := List.findIdx_le_length

theorem oL_get (ops : List OpT) (i : Nat) (h : i < ops.length) : oL ops i = ops[i] := by
  unfold oL; rw [List.getD_eq_getElem?_getD, List.getElem?_eq_getElem h]; rfl

theorem sortO_at {ops : List OpT} (h : SortO ops) {i j : Nat} (hij : i < j) (hj : j < ops.length) : LessS (oL ops i).2.1 (oL ops j).2.1 := by
  unfold SortO at h
  rw [List.pairwise_iff_getElem] at h
  rw [oL_get ops i (by omega), oL_get ops j hj]
  exact h i j (by omega) hj hij

theorem lowO_at (s : Int × Int) (ops : List OpT) (i : Nat) (hi : i ≤ ops.length) (h1 : ∀ k, k < i → LessS (oL ops k).2.1 s) (h2 : i < ops.length → ¬ LessS (oL ops i).2.1 s) : lowO s ops = i := by
  unfold lowO
  by_cases hl : i < ops.length
  · rw [List.findIdx_eq hl]
    refine ⟨by rw [← oL_get ops i hl]; exact decide_eq_true (h2 hl), fun j hj => ?_⟩
    rw [← oL_get ops j (by omega)]; exact decide_eq_false (fun k => k (h1 j hj))
  · have : i = ops.length := by omega
    rw [this, List.findIdx_eq_length]
    intro x hx
    obtain ⟨k, hk, rfl⟩ := List.getElem_of_mem hx
    rw [← oL_get ops k hk]; exact decide_eq_false (fun q => q (h1 k (by omega)))

theorem lowO_below {s : Int × Int} {ops : List OpT} {k : Nat} (h : k < lowO s ops) : LessS (oL ops k).2.1 s := by
  have hk : k < ops.length := Nat.lt_of_lt_of_le h (lowO_le s ops)
  have := List.not_of_lt_findIdx (p := fun x : OpT => decide (¬ LessS x.2.1 s)) (xs := ops) h
  rw [oL_get ops k hk]
  by_cases hh : LessS ops[k].2.1 s
  · exact hh
  · exact absurd hh (of_decide_eq_false (by first | exact this | simpa only [Bool.not_eq_true] using this))

theorem lowO_there {s : Int × Int} {ops : List OpT} (h : lowO s ops < ops.length) : ¬ LessS (oL ops (lowO s ops)).2.1 s := by
  have := List.findIdx_getElem (p := fun x : OpT => decide (¬ LessS x.2.1 s)) (xs := ops) (w := h)
  rw [oL_get ops _ h]
  exact of_decide_eq_true this

/-- Is there an operation with a stamp? -/
theorem dup_low {s : Int × Int} {ops : List OpT} (hs : SortO ops) : dupO s ops = true ↔ (lowO s ops < ops.length ∧ (oL ops (lowO s ops)).2.1 = s) := by
  rw [dupO_iff]
  constructor
  · rintro ⟨x, hx, e⟩
    obtain ⟨k, hk, rfl⟩ := List.getElem_of_mem hx
    have hk2 := oL_get ops k hk
    have h1 : ¬ k < lowO s ops := fun h => by
      have := lowO_below h
      rw [hk2, e] at this
      exact lessS_self _ this
    have h2 : lowO s ops < ops.length := by omega
    refine ⟨h2, ?_⟩
    by_cases h3 : lowO s ops = k
    · rw [h3, hk2, e]
    · have h4 := sortO_at hs (show lowO s ops < k by omega) hk
      rw [hk2, e] at h4
      exact absurd h4 (lowO_there h2)
  · rintro ⟨h1, h2⟩
    exact ⟨oL ops (lowO s ops), by rw [oL_get ops _ h1]; exact List.getElem_mem h1, h2⟩

/-- How many do not stand behind it. -/
theorem pos_low {s : Int × Int} {ops : List OpT} (hs : SortO ops) : posO s ops = lowO s ops + (if dupO s ops = true then 1 else 0) := by
  by_cases hd : dupO s ops = true
  · rw [if_pos hd]
    obtain ⟨h1, h2⟩ := (dup_low hs).1 hd
    by_cases hl : lowO s ops + 1 < ops.length
    · refine posO_at s ops _ hl (fun i hi => ?_) ?_
      · by_cases e : i = lowO s ops
        · rw [e, h2]; exact lessS_self _
        · exact lessS_not _ _ (lowO_below (by omega))
      · have := sortO_at hs (Nat.lt_succ_self _) hl
        rw [h2] at this; exact this
    · rw [show lowO s ops + 1 = ops.length by omega]
      refine posO_all s ops (fun i hi => ?_)
      by_cases e : i = lowO s ops
      · rw [e, h2]; exact lessS_self _
      · exact lessS_not _ _ (lowO_below (by omega))
  · rw [if_neg hd, Nat.add_zero]
    by_cases hl : lowO s ops < ops.length
    · refine posO_at s ops _ hl (fun i hi => lessS_not _ _ (lowO_below hi)) ?_
      have h1 := lowO_there hl
      exact lessS_or _ _ h1 (fun e => hd ((dup_low hs).2 ⟨hl, e⟩))
    · rw [show lowO s ops = ops.length by have := lowO_le s ops; omega]
      exact posO_all s ops (fun i hi => lessS_not _ _ (lowO_below (by omega)))

set_option maxRecDepth 100000 in
set_option maxHeartbeats 8000000 in
theorem search_any (ops : List OpT) (s : Int × Int) (a : Option Addr) (n c : Nat) (w : World) (hn : n ≤ 1048576) (hs : SortO ops) (hO : OpsAt w a n ops) :
    Calls Tryz.prog 87 #[.slice a n c, stampV s, .func (.func 88) #[] #[]] w fun e w' => e = .returned (.tuple #[.int .i64 (lowO s ops : Int), .bool (dupO s ops)]) ∧ Below w.heap.size w w' := by
  have hl := hO.1
  obtain ⟨E, HE⟩ : ∃ E, Hid (E = lowO s ops) := ⟨_, rfl⟩
  obtain ⟨D, HD⟩ : ∃ D, Hid (D = dupO s ops) := ⟨_, rfl⟩
  rw [← HE.out, ← HD.out]
  have HS : Hid (SortO ops) := hs
  have HO : Hid (OpsAt w a n ops) := hO
  have CP : Hid (∀ (o : OpT) (w : World), Calls Tryz.prog 88 #[.agg (opA o), stampV s] w fun e w' => e = .returned (.int .i64 (ordS o.2.1 s)) ∧ Below w.heap.size w w') := fun o w => (place1_grew o s w).mono fun _ _ h => ⟨h.1, h.2.below⟩
  clear hs hO
  obtain ⟨x, y⟩ := s
  show Calls Tryz.prog _ #[_, .agg #[.int .i64 x, .int .i64 y], _] w _
  have A1 : Hid (Blk (w.alloc (.cells #[.int .i64 x, .int .i64 y] 26)) 26 w.heap.size #[.int .i64 x, .int .i64 y]) := Blk.new _ _ _
  have hmix : Tryz.prog.follows .mixedOrders = true := by kernel_rfl
  go_enter Tryz.func87, Tryz.ntmps87
  go_wp2_with fail
  go_loopw [9, 10] (fun i j wr => ∃ (p q : Nat), p ≤ q ∧ q ≤ n ∧ i = .int .i64 p ∧ j = .int .i64 q ∧ Hid (∀ k, k < p → LessS (oL ops k).2.1 (x, y)) ∧ Hid (∀ k, q ≤ k → k < n → ¬ LessS (oL ops k).2.1 (x, y)) ∧ Hid (Blk wr 26 w.heap.size #[.int .i64 x, .int .i64 y]) ∧ Below w.heap.size w wr) (fun i j _ => (intOf j).toNat - (intOf i).toNat)
  case atStart => exact ⟨0, n, Nat.zero_le _, Nat.le_refl _, rfl, rfl, fun k hk => absurd hk (Nat.not_lt_zero _), fun k h1 h2 => absurd h1 (by omega), A1, below_new w _⟩
  case round =>
    clear A1
    obtain ⟨p, q, hpq, hqn, rfl, rfl, HP, HQ, B1, hbl⟩ := hrel
    have c0 : wr.cell? ⟨w.heap.size, 0, none⟩ = some (.int .i64 x) := B1.out.cell 0
    have c1 : wr.cell? ⟨w.heap.size, 1, none⟩ = some (.int .i64 y) := B1.out.cell 1
    by_cases hlt : p < q
    · have b0 : (p : Int) < (q : Int) := by omega
      obtain ⟨m, hm⟩ : ∃ m, m = (p + q) / 2 := ⟨_, rfl⟩
      have hme : Hid (((p : Int) + (q : Int)) / 2 = (m : Int)) := by show _ = _; omega
      have hmn : m < n := by omega
      have hpm : p ≤ m := by omega
      have hmq : m < q := by omega
      have HOr := HO.out.below hbl
      obtain ⟨b, off, rfl, _⟩ := HOr.2.some (by omega)
      have HX : Hid (∀ p : Beh wr, OpsAt p.w' (some ⟨b, off, none⟩) n ops) := fun p => HOr.below p.h
      have C1 := fun w => CP.out (oL ops m) w
      have HLs : Hid (ordS (oL ops m).2.1 (x, y) < 0 ↔ LessS (oL ops m).2.1 (x, y)) := ordS_lt _ _
      obtain ⟨r, hr⟩ : ∃ r, r = ordS (oL ops m).2.1 (x, y) := ⟨_, rfl⟩
      rw [← hr] at C1 HLs
      have x0 := fun p => ((HX.out p).cells m hmn).1
      have x1 := fun p => ((HX.out p).cells m hmn).2.1
      have x2 := fun p => ((HX.out p).cells m hmn).2.2.1
      have x3 := fun p => ((HX.out p).cells m hmn).2.2.2.1
      have x4 := fun p => ((HX.out p).cells m hmn).2.2.2.2.1
      have x5 := fun p => ((HX.out p).cells m hmn).2.2.2.2.2.1
      have x6 := fun p => ((HX.out p).cells m hmn).2.2.2.2.2.2.1
      have x7 := fun p => ((HX.out p).cells m hmn).2.2.2.2.2.2.2.1
      have x8 := fun p => ((HX.out p).cells m hmn).2.2.2.2.2.2.2.2
      have HA : Hid (LessS (oL ops m).2.1 (x, y) → ∀ k, k < m + 1 → LessS (oL ops k).2.1 (x, y)) := fun h k hk => by
        by_cases e : k = m
        · rw [e]; exact h
        · exact lessS_trans _ _ _ (sortO_at HS.out (by omega) (by omega)) h
      have HB : Hid (¬ LessS (oL ops m).2.1 (x, y) → ∀ k, m ≤ k → k < n → ¬ LessS (oL ops k).2.1 (x, y)) := fun h k h1 h2 => by
        by_cases e : k = m
        · rw [e]; exact h
        · exact fun h3 => h (lessS_trans _ _ _ (sortO_at HS.out (by omega) (by omega)) h3)
      obtain ⟨⟨k0, ⟨k1, k2⟩, ⟨k3, k4⟩, ⟨k5, k6⟩, k7, k8⟩, hk⟩ : ∃ s, s = oL ops m := ⟨_, rfl⟩
      rw [← hk] at x0 x1 x2 x3 x4 x5 x6 x7 x8 C1 HLs HA HB
      simp only [opA, stampV] at C1
      have C : Hid (∀ w, _) := C1
      have d0 : ∀ p : Beh wr, p.w'.cell? ⟨w.heap.size, 0, none⟩ = some (.int .i64 x) := fun p => p.cell c0
      have d1 : ∀ p : Beh wr, p.w'.cell? ⟨w.heap.size, 1, none⟩ = some (.int .i64 y) := fun p => p.cell c1
      clear hr hk C1 HOr hm
      have m0 : (m : Int) < (n : Int) := by omega
      go_wp2_with fail
      rw [hme.out]
      have hne_ : Nonempty (Beh wr) := ⟨⟨_, Below.refl _ _⟩⟩
      refine wp_region_quiet_beh (by kernel_rfl) (by kernel_rfl) ?_
      repeat (quiet_step (first | (go_at_call 88; refine Calls.beh_of (C.out _))))
      refine wpQuiet_nil ?_
      intro wq hw_
      obtain ⟨⟨wz_, hbq⟩, hw_⟩ := hw_
      subst hw_
      try dsimp only
      clear hne_
      have hBq := below_step hbl (Nat.le_refl _) hbq
      have Bq := B1.out.on hbq
      clear x0 x1 x2 x3 x4 x5 x6 x7 x8 d0 d1 C HX hbl hbq B1 c0 c1
      by_cases hr0 : r < 0
      · have g0 : decide (r < 0) = true := decide_eq_true hr0
        have hA := HA.out (HLs.out.1 hr0)
        have HA' : Hid (∀ k, k < m + 1 → LessS (oL ops k).2.1 (x, y)) := hA
        clear HA HB hA HLs
        go_wp2_with fail
        refine ⟨⟨m + 1, q, by omega, hqn, by go_num, rfl, HA', HQ, Bq, hBq⟩, ?_⟩
        simp [intOf]; omega
      · have g0 : decide (r < 0) = false := decide_eq_false hr0
        have hB' := HB.out (fun h => hr0 (HLs.out.2 h))
        have HB' : Hid (∀ k, m ≤ k → k < n → ¬ LessS (oL ops k).2.1 (x, y)) := hB'
        clear HA HB hB' HLs
        go_wp2_with fail
        refine ⟨⟨p, m, hpm, by omega, rfl, rfl, HP, HB', Bq, hBq⟩, ?_⟩
        simp [intOf]; omega
    · obtain rfl : p = q := by omega
      have b0 : ¬ ((p : Int) < (p : Int)) := by omega
      have hE : E = p := by
        rw [HE.out]
        exact lowO_at (x, y) ops p (by omega) HP.out (fun h => HQ.out p (Nat.le_refl _) (by omega))
      have HDD : Hid (D = true ↔ (p < n ∧ (oL ops p).2.1 = (x, y))) := by
        show _ ↔ _
        rw [HD.out, dup_low HS.out, ← HE.out, hE, hl]
      subst hE
      clear HE HD HP HQ
      by_cases hpn : E < n
      · have b1 : (E : Int) < (n : Int) := by omega
        have HOr := HO.out.below hbl
        obtain ⟨b, off, rfl, _⟩ := HOr.2.some (by omega)
        have C1 := fun w => CP.out (oL ops E) w
        have HLs : Hid (ordS (oL ops E).2.1 (x, y) = 0 ↔ (oL ops E).2.1 = (x, y)) := ordS_eq _ _
        obtain ⟨r, hr⟩ : ∃ r, r = ordS (oL ops E).2.1 (x, y) := ⟨_, rfl⟩
        rw [← hr] at C1 HLs
        have hD : (r == 0) = D := by
          cases D with
          | true => rw [beq_iff_eq]; exact HLs.out.2 (HDD.out.1 rfl).2
          | false => rw [beq_eq_false_iff_ne]; exact fun e => (by cases HDD.out.2 ⟨hpn, HLs.out.1 e⟩)
        have HS2 : Hid (∀ W, Below wr.heap.size wr W → _) := fun W hW => (HOr.below hW).cells E hpn
        obtain ⟨⟨k0, ⟨k1, k2⟩, ⟨k3, k4⟩, ⟨k5, k6⟩, k7, k8⟩, hk⟩ : ∃ s, s = oL ops E := ⟨_, rfl⟩
        rw [← hk] at C1 HS2
        simp only [opA, stampV] at C1
        have C : Hid (∀ w, _) := C1
        have HS3 : Hid (∀ W, Below wr.heap.size wr W → (W.cell? ⟨w.heap.size, 0, none⟩ = some (.int .i64 x) ∧ W.cell? ⟨w.heap.size, 1, none⟩ = some (.int .i64 y)) ∧ (W.cell? ⟨b, off + E * 9, none⟩ = some (.int .i64 k0) ∧ W.cell? ⟨b, off + E * 9 + 1, none⟩ = some (.int .i64 k1) ∧ W.cell? ⟨b, off + E * 9 + 2, none⟩ = some (.int .i64 k2) ∧ W.cell? ⟨b, off + E * 9 + 3, none⟩ = some (.int .i64 k3) ∧ W.cell? ⟨b, off + E * 9 + 4, none⟩ = some (.int .i64 k4) ∧ W.cell? ⟨b, off + E * 9 + 5, none⟩ = some (.int .i64 k5) ∧ W.cell? ⟨b, off + E * 9 + 6, none⟩ = some (.int .i64 k6) ∧ W.cell? ⟨b, off + E * 9 + 7, none⟩ = some (.string k7) ∧ W.cell? ⟨b, off + E * 9 + 8, none⟩ = some (.string k8))) := fun W hW => ⟨⟨(hW.cell (World.block_lt_of_cell? wr _ c0)).trans c0, (hW.cell (World.block_lt_of_cell? wr _ c1)).trans c1⟩, HS2.out W hW⟩
        have hS0 := HS3.out wr (Below.refl _ _)
        clear hr hk C1 HOr HLs HDD HS2 c0 c1
        go_wp2_with fail
        refine wp_region_noPanic ?_
        refine wp_region_held_drew (S := fun W => (W.cell? ⟨w.heap.size, 0, none⟩ = some (.int .i64 x) ∧ W.cell? ⟨w.heap.size, 1, none⟩ = some (.int .i64 y)) ∧ (W.cell? ⟨b, off + E * 9, none⟩ = some (.int .i64 k0) ∧ W.cell? ⟨b, off + E * 9 + 1, none⟩ = some (.int .i64 k1) ∧ W.cell? ⟨b, off + E * 9 + 2, none⟩ = some (.int .i64 k2) ∧ W.cell? ⟨b, off + E * 9 + 3, none⟩ = some (.int .i64 k3) ∧ W.cell? ⟨b, off + E * 9 + 4, none⟩ = some (.int .i64 k4) ∧ W.cell? ⟨b, off + E * 9 + 5, none⟩ = some (.int .i64 k5) ∧ W.cell? ⟨b, off + E * 9 + 6, none⟩ = some (.int .i64 k6) ∧ W.cell? ⟨b, off + E * 9 + 7, none⟩ = some (.string k7) ∧ W.cell? ⟨b, off + E * 9 + 8, none⟩ = some (.string k8))) (by kernel_rfl) (by first | exact trivial | assumption | exact ⟨by assumption, by assumption⟩) (fun hHeld => ?_)
        refine tk 0 (v := ?_) rfl rfl ?_ ?_
        rotate_left
        · intro w hSw; (try dsimp only at hSw); go_simp; try with_reducible rfl
        try simp only [Act.put, za, zb, zc]
        refine tk 1 (v := ?_) rfl rfl ?_ ?_
        rotate_left
        · intro w hSw; (try dsimp only at hSw); go_simp; try with_reducible rfl
        try simp only [Act.put, za, zb, zc]
        refine tk 2 (v := ?_) rfl rfl ?_ ?_
        rotate_left
        · intro w hSw; (try dsimp only at hSw); go_simp; try with_reducible rfl
        try simp only [Act.put, za, zb, zc]
        refine tk 3 (v := ?_) rfl rfl ?_ ?_
        rotate_left
        · intro w hSw; (try dsimp only at hSw); go_simp; try with_reducible rfl
        try simp only [Act.put, za, zb, zc]
        refine tk 4 (v := ?_) rfl rfl ?_ ?_
        rotate_left
        · intro w hSw; (try dsimp only at hSw); go_simp; try with_reducible rfl
        try simp only [Act.put, za, zb, zc]
        refine tk 5 (v := ?_) rfl rfl ?_ ?_
        rotate_left
        · intro w hSw; (try dsimp only at hSw); go_simp; try with_reducible rfl
        try simp only [Act.put, za, zb, zc]
        refine tk 6 (v := ?_) rfl rfl ?_ ?_
        rotate_left
        · intro w hSw; (try dsimp only at hSw); go_simp; try with_reducible rfl
        try simp only [Act.put, za, zb, zc]
        refine tk 7 (v := ?_) rfl rfl ?_ ?_
        rotate_left
        · intro w hSw; (try dsimp only at hSw); go_simp; try with_reducible rfl
        try simp only [Act.put, za, zb, zc]
        refine tk 8 (v := ?_) rfl rfl ?_ ?_
        rotate_left
        · intro w hSw; (try dsimp only at hSw); go_simp; try with_reducible rfl
        try simp only [Act.put, za, zb, zc]
        refine tk 9 (v := ?_) rfl rfl ?_ ?_
        rotate_left
        · intro w hSw; (try dsimp only at hSw); go_simp; try with_reducible rfl
        try simp only [Act.put, za, zb, zc]
        refine tk 10 (v := ?_) rfl rfl ?_ ?_
        rotate_left
        · intro w hSw; (try dsimp only at hSw); go_simp; try with_reducible rfl
        try simp only [Act.put, za, zb, zc]
        refine wpAnyH_ready (rs := [11]) (by kernel_rfl) (by simp) ?_
        refine AllReadyH.cons rfl (fun K hK => ?_) AllReadyH.nil
        go_simp
        refine (C.out _).mono ?_
        rintro e w1 ⟨rfl, hb1⟩
        have hbq := below_step (Below.refl wr.heap.size wr).drew (Nat.le_refl _) hb1
        refine hK.out _ _ (HS3.out _ hbq) (fun hHeld => ?_)
        clear hK K
        refine tk 12 (v := ?_) rfl rfl ?_ ?_
        rotate_left
        · intro w hSw; (try dsimp only at hSw); go_simp; try with_reducible rfl
        try simp only [Act.put, za, zb, zc]
        refine tk 13 (v := ?_) rfl rfl ?_ ?_
        rotate_left
        · intro w hSw; (try dsimp only at hSw); go_simp; try with_reducible rfl
        try simp only [Act.put, za, zb, zc]
        refine tk 14 (v := ?_) rfl rfl ?_ ?_
        rotate_left
        · intro w hSw; (try dsimp only at hSw); go_simp; try with_reducible rfl
        try simp only [Act.put, za, zb, zc]
        refine tk 15 (v := ?_) rfl rfl ?_ ?_
        rotate_left
        · intro w hSw; (try dsimp only at hSw); go_simp; try with_reducible rfl
        try simp only [Act.put, za, zb, zc]
        refine wpAnyH_done (by kernel_rfl) (NoPanic.normal ?_) _
        have hBq := below_step hbl (Nat.le_refl _) hbq
        clear C hbl hbq hb1 B1 hS0 HS3
        go_wp2_with fail
        go_ret2
        exact ⟨rfl, hBq⟩
      · have b1 : ¬ ((E : Int) < (n : Int)) := by omega
        obtain rfl : D = false := by
          cases D with
          | false => rfl
          | true => exact absurd (HDD.out.1 rfl).1 hpn
        clear HDD HO CP
        go_wp2_with fail
        refine wp_region_noPanic ?_
        refine wp_region_held_drew (S := fun _ => True) (by kernel_rfl) (by first | exact trivial | assumption | exact ⟨by assumption, by assumption⟩) (fun hHeld => ?_)
        refine tk 0 (v := ?_) rfl rfl ?_ ?_
        rotate_left
        · intro w hSw; (try dsimp only at hSw); go_simp; try with_reducible rfl
        try simp only [Act.put, za, zb, zc]
        refine tk 1 (v := ?_) rfl rfl ?_ ?_
        rotate_left
        · intro w hSw; (try dsimp only at hSw); go_simp; try with_reducible rfl
        try simp only [Act.put, za, zb, zc]
        refine tk 2 (v := ?_) rfl rfl ?_ ?_
        rotate_left
        · intro w hSw; (try dsimp only at hSw); go_simp; try with_reducible rfl
        try simp only [Act.put, za, zb, zc]
        refine tk 3 (v := ?_) rfl rfl ?_ ?_
        rotate_left
        · intro w hSw; (try dsimp only at hSw); go_simp; try with_reducible rfl
        try simp only [Act.put, za, zb, zc]
        refine tk 4 (v := ?_) rfl rfl ?_ ?_
        rotate_left
        · intro w hSw; (try dsimp only at hSw); go_simp; try with_reducible rfl
        try simp only [Act.put, za, zb, zc]
        refine tn 5 rfl rfl ?_
        try simp only [Act.put, za, zb, zc]
        refine tn 6 rfl rfl ?_
        try simp only [Act.put, za, zb, zc]
        refine tn 7 rfl rfl ?_
        try simp only [Act.put, za, zb, zc]
        refine tn 8 rfl rfl ?_
        try simp only [Act.put, za, zb, zc]
        refine tn 9 rfl rfl ?_
        try simp only [Act.put, za, zb, zc]
        refine tn 10 rfl rfl ?_
        try simp only [Act.put, za, zb, zc]
        refine tn 11 rfl rfl ?_
        try simp only [Act.put, za, zb, zc]
        refine tn 12 rfl rfl ?_
        try simp only [Act.put, za, zb, zc]
        refine tk 13 (v := ?_) rfl rfl ?_ ?_
        rotate_left
        · intro w hSw; (try dsimp only at hSw); go_simp; try with_reducible rfl
        try simp only [Act.put, za, zb, zc]
        refine tk 14 (v := ?_) rfl rfl ?_ ?_
        rotate_left
        · intro w hSw; (try dsimp only at hSw); go_simp; try with_reducible rfl
        try simp only [Act.put, za, zb, zc]
        refine tk 15 (v := ?_) rfl rfl ?_ ?_
        rotate_left
        · intro w hSw; (try dsimp only at hSw); go_simp; try with_reducible rfl
        try simp only [Act.put, za, zb, zc]
        refine wpAnyH_done (by kernel_rfl) (NoPanic.normal ?_) _
        have hBq := hbl.drew
        clear hbl B1 c0 c1
        go_wp2_with fail
        go_ret2
        exact ⟨rfl, hBq⟩
end Go.Proofs.YtogbkfakihnbdaaGreatDoor
