import Derived.Test.YtjmbnoacbmmcdaaGreatDoorRT
import Derived.Shelf.SlSortCmp.WholeK
import Derived.Test.YtjmbnoacbmmcdaaGreatDoorTA
import Derived.RangeFuncNested
import Derived.RangeFuncLeaves
import Derived.RangeFuncBox
import Derived.Maps.AppendAt
import Derived.Shelf.AbstractIn
import Derived.OwnWalkIn
import Derived.TacticsInMore
import Derived.RegionIn
import Derived.LoopNIn
import Derived.LoopIn
import Derived.Test.YtjmbnoacbmmcdaaGreatDoorShelfS
import Derived.Test.YtjmbnoacbmmcdaaGreatDoorTX
/- Layer 11 on plain data: nodes sorted by their numbers. -/
namespace Go.Proofs.YtjmbnoacbmmcdaaGreatDoor
open Go.RowKit Go.Sort
set_option linter.unusedSimpArgs false

theorem sortN_perm {l m : List NodeT} (hl : SortN l) (hm : SortN m) (h : l.Perm m) : l = m := by
  refine sortN_ext hl hm (fun id => ?_)
  cases k : look l id with
  | some x =>
    obtain ⟨h1, h2⟩ := look_mem k
    rw [← h2]; exact (look_is hm (h.subset h1)).symm
  | none =>
    refine (look_none.2 (fun x hx => look_none.1 k x (h.symm.subset hx))).symm

/-- How two stamps stand. -/
def ordS (a b : Int × Int) : Int := if LessS a b then -1 else if LessS b a then 1 else 0

theorem ordS_lt (a b : Int × Int) : ordS a b < 0 ↔ LessS a b := by
  unfold ordS
  by_cases h : LessS a b
  · rw [if_pos h]; exact ⟨fun _ => h, fun _ => by decide⟩
  · rw [if_neg h]
    by_cases k : LessS b a
    · rw [if_pos k]; exact ⟨fun h => absurd h (by decide), fun h2 => absurd h2 h⟩
    · rw [if_neg k]; exact ⟨fun h => absurd h (by decide), fun h2 => absurd h2 h⟩

theorem ordS_eq (a b : Int × Int) : ordS a b = 0 ↔ a = b := by
  unfold ordS
  by_cases h : LessS a b
  · rw [if_pos h]; exact ⟨fun h => absurd h (by decide), fun e => by rw [e] at h; exact absurd h (lessS_self _)⟩
  · rw [if_neg h]
    by_cases k : LessS b a
    · rw [if_pos k]; exact ⟨fun h => absurd h (by decide), fun e => by rw [e] at k; exact absurd k (lessS_self _)⟩
    · rw [if_neg k]
      refine ⟨fun _ => ?_, fun _ => rfl⟩
      by_cases e : a = b
      · exact e
      · exact absurd (lessS_or _ _ h e) k

def cmpN (x y : NodeT) : Int := ordS x.1 y.1

theorem ltN (x y : NodeT) : ltOf cmpN x y = decide (LessS x.1 y.1) := by
  unfold ltOf cmpN
  by_cases h : LessS x.1 y.1
  · rw [decide_eq_true h, decide_eq_true ((ordS_lt _ _).2 h)]
  · rw [decide_eq_false h, decide_eq_false (fun k => h ((ordS_lt _ _).1 k))]

theorem swoN : SWO (ltOf cmpN) where
  irrefl x := by rw [ltN]; exact decide_eq_false (lessS_self _)
  trans x y z h1 h2 := by
    rw [ltN, decide_eq_true_eq] at *
    exact lessS_trans _ _ _ h1 h2
  ntrans x y z h1 h2 := by
    rw [ltN, decide_eq_false_iff_not] at *
    intro h
    by_cases e : y.1 = x.1
    · rw [e] at h2; exact h2 h
    · have h3 := lessS_or _ _ h1 (fun k => e k.symm)
      exact h2 (lessS_trans _ _ _ h3 h)

theorem sorted_nodes {d d' : Array NodeT} {ns : List NodeT} (hs : SortN ns) (hp : d.toList.Perm ns) (h1 : PermIn 0 d.size d d') (h2 : SortedIn (ltOf cmpN) 0 d.size d') : d'.toList = ns := by
  obtain ⟨k1, _, k3⟩ := h1
  rw [← k1] at k3 h2
  rw [Array.extract_size, show d.extract 0 d'.size = d by rw [k1, Array.extract_size]] at k3
  have hp' : d'.toList.Perm ns := k3.trans hp
  refine sortN_perm ?_ hs hp'
  have hn : (d'.toList.map (fun n => n.1)).Nodup := by
    refine (hp'.map (fun n : NodeT => n.1)).nodup_iff.2 ?_
    unfold SortN at hs
    rw [List.nodup_iff_pairwise_ne, List.pairwise_map]
    exact hs.imp (fun hl e => by rw [e] at hl; exact lessS_self _ hl)
  unfold SortN
  rw [List.pairwise_iff_getElem]
  intro i j hi hj hij
  have hi' : i < d'.size := by simpa using hi
  have hj' : j < d'.size := by simpa using hj
  have h := h2 i j (Nat.zero_le _) hij hj'
  rw [ltN, decide_eq_false_iff_not, getElem!_pos d' j hj', getElem!_pos d' i hi'] at h
  rw [Array.getElem_toList, Array.getElem_toList]
  refine lessS_or _ _ h (fun e => ?_)
  rw [List.nodup_iff_pairwise_ne, List.pairwise_map, List.pairwise_iff_getElem] at hn
  have := hn i j hi hj hij
  rw [Array.getElem_toList, Array.getElem_toList] at this
  exact this e.symm

end Go.Proofs.YtjmbnoacbmmcdaaGreatDoor

/- The code's order, and the comparisons that it hands to the library (layer 11). -/
namespace Go.Proofs.YtjmbnoacbmmcdaaGreatDoor
open Go.RowKit Go.Sort
set_option linter.unusedSimpArgs false

/-- A world with draws, and new blocks, behind another. -/
def Grew (w w' : World) : Prop := ∃ q os, w' = grow (w.drewN q) os

theorem Grew.refl (w : World) : Grew w w := ⟨0, #[], by simp [World.drewN]⟩

theorem Grew.trans {a b c : World} (h : Grew a b) (k : Grew b c) : Grew a c := by
  obtain ⟨q, os, rfl⟩ := h
  obtain ⟨q', os', rfl⟩ := k
  refine ⟨q + q', os ++ os', ?_⟩
  show grow (grow ((a.drewN q).drewN q') os) os' = _
  rw [grow_grow, World.drewN_drewN]

theorem Grew.alloc {a b : World} (h : Grew a b) (o : Obj) : Grew a (b.alloc o) := h.trans ⟨0, #[o], by rw [alloc_eq_grow]; rfl⟩

theorem Grew.below {a b : World} (h : Grew a b) : Below a.heap.size a b := by
  obtain ⟨q, os, rfl⟩ := h
  refine ⟨rfl, rfl, rfl, by simp [grow, World.drewN], fun k hk => ?_⟩
  show (a.heap ++ os)[k]? = _
  rw [Array.getElem?_append_left hk]

set_option maxRecDepth 100000 in
set_option maxHeartbeats 2000000 in
theorem less_grew (a b : Int × Int) (w : World) :
    Calls Tryz.prog 32 #[stampV a, stampV b] w fun e w' => e = .returned (.bool (decide (LessS a b))) ∧ Grew w w' := by
  obtain ⟨t, u⟩ := a
  obtain ⟨x, y⟩ := b
  obtain ⟨D, hD'⟩ : ∃ D, decide (LessS (t, u) (x, y)) = D := ⟨_, rfl⟩
  rw [hD']
  show Calls Tryz.prog _ #[.agg #[.int .i64 t, .int .i64 u], .agg #[.int .i64 x, .int .i64 y]] w _
  by_cases h2 : t = x
  · subst h2
    by_cases h3 : u < y
    · have g3 : decide (u < y) = true := by simp; omega
      have hD : D = true := by rw [← hD']; exact decide_eq_true (.inr ⟨rfl, h3⟩)
      subst hD
      clear hD'
      go_enter Tryz.func32, Tryz.ntmps32
      go_wp2
      go_ret
      exact ⟨rfl, ((Grew.refl w).alloc _).alloc _⟩
    · have g3 : decide (u < y) = false := by simp; omega
      have hD : D = false := by rw [← hD']; exact decide_eq_false (fun h => h.elim (fun h => absurd h (Int.lt_irrefl _)) (fun h => h3 h.2))
      subst hD
      clear hD'
      go_enter Tryz.func32, Tryz.ntmps32
      go_wp2
      go_ret
      exact ⟨rfl, ((Grew.refl w).alloc _).alloc _⟩
  · have g2 : (t == x) = false := by rw [beq_eq_false_iff_ne]; exact h2
    by_cases h1 : t < x
    · have g1 : decide (t < x) = true := by simp; omega
      have hD : D = true := by rw [← hD']; exact decide_eq_true (.inl h1)
      subst hD
      clear hD'
      go_enter Tryz.func32, Tryz.ntmps32
      go_wp2
      go_ret
      exact ⟨rfl, ((Grew.refl w).alloc _).alloc _⟩
    · have g1 : decide (t < x) = false := by simp; omega
      have hD : D = false := by rw [← hD']; exact decide_eq_false (fun h => h.elim h1 (fun h => h2 h.1))
      subst hD
      clear hD'
      go_enter Tryz.func32, Tryz.ntmps32
      go_wp2
      go_ret
      exact ⟨rfl, ((Grew.refl w).alloc _).alloc _⟩

set_option maxRecDepth 100000 in
set_option maxHeartbeats 2000000 in
theorem order_grew (a b : Int × Int) (w : World) :
    Calls Tryz.prog 57 #[stampV a, stampV b] w fun e w' => e = .returned (.int .i64 (ordS a b)) ∧ Grew w w' := by
  have C1' := fun w => less_grew a b w
  have C2' := fun w => less_grew b a w
  obtain ⟨E, hE⟩ : ∃ E, ordS a b = E := ⟨_, rfl⟩
  rw [hE]
  obtain ⟨t, u⟩ := a
  obtain ⟨x, y⟩ := b
  show Calls Tryz.prog _ #[.agg #[.int .i64 t, .int .i64 u], .agg #[.int .i64 x, .int .i64 y]] w _
  by_cases h1 : LessS (t, u) (x, y)
  · obtain rfl : E = -1 := by rw [← hE]; exact if_pos h1
    rw [decide_eq_true h1] at C1'
    have C1 : Hid (∀ w, Calls Tryz.prog 32 #[.agg #[.int .i64 t, .int .i64 u], .agg #[.int .i64 x, .int .i64 y]] w fun e w' => e = .returned (.bool true) ∧ Grew w w') := C1'
    clear C1' C2' h1 hE
    go_enter Tryz.func57, Tryz.ntmps57
    go_wp2_with fail
    refine (C1.out _).mono ?_
    rintro e w1 ⟨rfl, hg1⟩
    have hb1 := hg1.below
    have c0 : w1.cell? ⟨w.heap.size, 0, none⟩ = some (.int .i64 t) := by rw [hb1.cell (p := ⟨w.heap.size, 0, none⟩) (by simp; try omega)]; simp
    have c1 : w1.cell? ⟨w.heap.size, 1, none⟩ = some (.int .i64 u) := by rw [hb1.cell (p := ⟨w.heap.size, 1, none⟩) (by simp; try omega)]; simp
    have d0 : w1.cell? ⟨w.heap.size + 1, 0, none⟩ = some (.int .i64 x) := by rw [hb1.cell (p := ⟨w.heap.size + 1, 0, none⟩) (by simp; try omega)]; simp
    have d1 : w1.cell? ⟨w.heap.size + 1, 1, none⟩ = some (.int .i64 y) := by rw [hb1.cell (p := ⟨w.heap.size + 1, 1, none⟩) (by simp; try omega)]; simp
    have HG1 : Hid (Grew w w1) := (((Grew.refl w).alloc _).alloc _).trans hg1
    clear C1 hb1 hg1
    go_wp2_with fail
    go_ret
    exact ⟨rfl, HG1.out⟩
  · rw [decide_eq_false h1] at C1'
    have C1 : Hid (∀ w, Calls Tryz.prog 32 #[.agg #[.int .i64 t, .int .i64 u], .agg #[.int .i64 x, .int .i64 y]] w fun e w' => e = .returned (.bool false) ∧ Grew w w') := C1'
    by_cases h2 : LessS (x, y) (t, u)
    · obtain rfl : E = 1 := by rw [← hE]; exact (if_neg h1).trans (if_pos h2)
      rw [decide_eq_true h2] at C2'
      have C2 : Hid (∀ w, Calls Tryz.prog 32 #[.agg #[.int .i64 x, .int .i64 y], .agg #[.int .i64 t, .int .i64 u]] w fun e w' => e = .returned (.bool true) ∧ Grew w w') := C2'
      clear C1' C2' h1 h2 hE
      go_enter Tryz.func57, Tryz.ntmps57
      go_wp2_with fail
      refine (C1.out _).mono ?_
      rintro e w1 ⟨rfl, hg1⟩
      have hb1 := hg1.below
      have c0 : w1.cell? ⟨w.heap.size, 0, none⟩ = some (.int .i64 t) := by rw [hb1.cell (p := ⟨w.heap.size, 0, none⟩) (by simp; try omega)]; simp
      have c1 : w1.cell? ⟨w.heap.size, 1, none⟩ = some (.int .i64 u) := by rw [hb1.cell (p := ⟨w.heap.size, 1, none⟩) (by simp; try omega)]; simp
      have d0 : w1.cell? ⟨w.heap.size + 1, 0, none⟩ = some (.int .i64 x) := by rw [hb1.cell (p := ⟨w.heap.size + 1, 0, none⟩) (by simp; try omega)]; simp
      have d1 : w1.cell? ⟨w.heap.size + 1, 1, none⟩ = some (.int .i64 y) := by rw [hb1.cell (p := ⟨w.heap.size + 1, 1, none⟩) (by simp; try omega)]; simp
      have HG1 : Hid (Grew w w1) := (((Grew.refl w).alloc _).alloc _).trans hg1
      clear C1 hb1 hg1
      go_wp2_with fail
      refine (C2.out _).mono ?_
      rintro e w2 ⟨rfl, hg2⟩
      have HG2 : Hid (Grew w w2) := HG1.out.trans hg2
      clear C2 hg2 HG1 c0 c1 d0 d1
      go_wp2_with fail
      go_ret
      exact ⟨rfl, HG2.out⟩
    · obtain rfl : E = 0 := by rw [← hE]; exact (if_neg h1).trans (if_neg h2)
      rw [decide_eq_false h2] at C2'
      have C2 : Hid (∀ w, Calls Tryz.prog 32 #[.agg #[.int .i64 x, .int .i64 y], .agg #[.int .i64 t, .int .i64 u]] w fun e w' => e = .returned (.bool false) ∧ Grew w w') := C2'
      clear C1' C2' h1 h2 hE
      go_enter Tryz.func57, Tryz.ntmps57
      go_wp2_with fail
      refine (C1.out _).mono ?_
      rintro e w1 ⟨rfl, hg1⟩
      have hb1 := hg1.below
      have c0 : w1.cell? ⟨w.heap.size, 0, none⟩ = some (.int .i64 t) := by rw [hb1.cell (p := ⟨w.heap.size, 0, none⟩) (by simp; try omega)]; simp
      have c1 : w1.cell? ⟨w.heap.size, 1, none⟩ = some (.int .i64 u) := by rw [hb1.cell (p := ⟨w.heap.size, 1, none⟩) (by simp; try omega)]; simp
      have d0 : w1.cell? ⟨w.heap.size + 1, 0, none⟩ = some (.int .i64 x) := by rw [hb1.cell (p := ⟨w.heap.size + 1, 0, none⟩) (by simp; try omega)]; simp
      have d1 : w1.cell? ⟨w.heap.size + 1, 1, none⟩ = some (.int .i64 y) := by rw [hb1.cell (p := ⟨w.heap.size + 1, 1, none⟩) (by simp; try omega)]; simp
      have HG1 : Hid (Grew w w1) := (((Grew.refl w).alloc _).alloc _).trans hg1
      clear C1 hb1 hg1
      go_wp2_with fail
      refine (C2.out _).mono ?_
      rintro e w2 ⟨rfl, hg2⟩
      have HG2 : Hid (Grew w w2) := HG1.out.trans hg2
      clear C2 hg2 HG1 c0 c1 d0 d1
      go_wp2_with fail
      go_ret
      exact ⟨rfl, HG2.out⟩

set_option maxRecDepth 100000 in
set_option maxHeartbeats 2000000 in
/-- How an operation stands to a stamp. -/
theorem place1_grew (o : Int × (Int × Int) × (Int × Int) × (Int × Int) × ByteArray × ByteArray) (s : Int × Int) (w : World) :
    Calls Tryz.prog 56 #[.agg (opA o), stampV s] w fun e w' => e = .returned (.int .i64 (ordS o.2.1 s)) ∧ Grew w w' := by
  have C' := fun w => order_grew o.2.1 s w
  obtain ⟨E, hE⟩ : ∃ E, ordS o.2.1 s = E := ⟨_, rfl⟩
  rw [hE] at C' ⊢
  obtain ⟨k0, ⟨k1, k2⟩, ⟨k3, k4⟩, ⟨k5, k6⟩, s7, s8⟩ := o
  obtain ⟨x, y⟩ := s
  have C : Hid (∀ w, Calls Tryz.prog 57 #[.agg #[.int .i64 k1, .int .i64 k2], .agg #[.int .i64 x, .int .i64 y]] w fun e w' => e = .returned (.int .i64 E) ∧ Grew w w') := C'
  show Calls Tryz.prog _ #[.agg #[.int .i64 k0, .int .i64 k1, .int .i64 k2, .int .i64 k3, .int .i64 k4, .int .i64 k5, .int .i64 k6, .string s7, .string s8], .agg #[.int .i64 x, .int .i64 y]] w _
  clear C' hE
  go_enter Tryz.func56, Tryz.ntmps56
  go_wp2_with fail
  refine (C.out _).mono ?_
  rintro e w1 ⟨rfl, hg1⟩
  have HG1 : Hid (Grew w w1) := (((Grew.refl w).alloc _).alloc _).trans hg1
  clear C hg1
  go_wp2_with fail
  go_ret
  exact ⟨rfl, HG1.out⟩

set_option maxRecDepth 100000 in
set_option maxHeartbeats 2000000 in
/-- How two nodes stand. -/
theorem list1_grew (n m : NodeT) (w : World) :
    Calls Tryz.prog 75 #[.agg (nodeA n), .agg (nodeA m)] w fun e w' => e = .returned (.int .i64 (cmpN n m)) ∧ Grew w w' := by
  have C' := fun w => order_grew n.1 m.1 w
  unfold cmpN
  obtain ⟨E, hE⟩ : ∃ E, ordS n.1 m.1 = E := ⟨_, rfl⟩
  rw [hE] at C' ⊢
  obtain ⟨⟨k1, k2⟩, ⟨k3, k4⟩, k5, k6⟩ := n
  obtain ⟨⟨x, y⟩, ⟨q3, q4⟩, q5, q6⟩ := m
  have C : Hid (∀ w, Calls Tryz.prog 57 #[.agg #[.int .i64 k1, .int .i64 k2], .agg #[.int .i64 x, .int .i64 y]] w fun e w' => e = .returned (.int .i64 E) ∧ Grew w w') := C'
  show Calls Tryz.prog _ #[.agg #[.int .i64 k1, .int .i64 k2, .int .i64 k3, .int .i64 k4, .string k5, .string k6], .agg #[.int .i64 x, .int .i64 y, .int .i64 q3, .int .i64 q4, .string q5, .string q6]] w _
  clear C' hE
  go_enter Tryz.func75, Tryz.ntmps75
  go_wp2_with fail
  refine (C.out _).mono ?_
  rintro e w1 ⟨rfl, hg1⟩
  have HG1 : Hid (Grew w w1) := (((Grew.refl w).alloc _).alloc _).trans hg1
  clear C hg1
  go_wp2_with fail
  go_ret
  exact ⟨rfl, HG1.out⟩
end Go.Proofs.YtjmbnoacbmmcdaaGreatDoor

/- The library's maps.Copy at nodes (layer 11). -/
namespace Go.Proofs.YtjmbnoacbmmcdaaGreatDoor
open Go.RowKit
set_option linter.unusedSimpArgs false

theorem MapR.grown {w w' : World} {row : Option Nat} {r it : Nat} {ns rest : List NodeT} (h : MapR w r it ns rest) (hg : w.grownBy w' row) (h1 : some r ≠ row) (h2 : some it ≠ row) : MapR w' r it ns rest :=
  h.block (hg.block r h.map.lt h1) (hg.block it h.lt h2)

theorem MapR.on {w w' : World} {r it : Nat} {ns rest : List NodeT} (h : MapR w r it ns rest) (hb : Below w.heap.size w w') : MapR w' r it ns rest :=
  h.block (hb.block r h.map.lt) (hb.block it h.lt)

/-- What is still to come, put beside what was put, is all that there is. -/
theorem copy_step {ns m rest rest' : List NodeT} {n : NodeT} (hs : SortN ns) (h : (m ++ rest).Perm ns) (hr : rest.Perm (n :: rest')) : (withR n m ++ rest').Perm ns := by
  have hn : ((m ++ n :: rest').map (fun x => x.1)).Nodup := by
    refine ((((List.Perm.refl m).append hr).symm.trans h).map (fun x : NodeT => x.1)).nodup_iff.2 ?_
    unfold SortN at hs
    rw [List.nodup_iff_pairwise_ne, List.pairwise_map]
    exact hs.imp (fun hl e => by rw [e] at hl; exact lessS_self _ hl)
  have hf : m.filter (fun z => decide (z.1 ≠ n.1)) = m := List.filter_eq_self.2 (fun z hz => by
    rw [List.map_append, List.nodup_append] at hn
    have := hn.2.2 z.1 (List.mem_map.2 ⟨z, hz, rfl⟩) n.1 (by simp)
    simpa using this)
  have h1 := withR_perm n m
  rw [hf] at h1
  refine (h1.append (List.Perm.refl rest')).trans (.trans ?_ (((List.Perm.refl m).append hr).symm.trans h))
  exact (List.perm_middle (a := n) (l₁ := m) (l₂ := rest')).symm

theorem MapR.left {w : World} {r it : Nat} {ns rest : List NodeT} (h : MapR w r it ns rest) : w.rangeLeft r it = rest.length := by
  obtain ⟨_, l, _, rl, h2, rfl⟩ := h
  obtain ⟨es, clock, since, seen, c0, k1, _, _, k4, _, _, _, k8⟩ := h2
  simp only [World.rangeLeft, k1, k4]
  have := congrArg List.length k8
  simpa using this

theorem next_all {w : World} {it : Nat} {v : Value} {w' : World} (h : (Instr.next (.pointer (some ⟨it, 0, none⟩)) false 0).run Tryz.prog w = .ok v w') : ∀ ty, (Instr.next (.pointer (some ⟨it, 0, none⟩)) false ty).run Tryz.prog w = .ok v w' := fun _ => h

set_option maxRecDepth 100000 in
set_option maxHeartbeats 4000000 in
theorem copy_any (ns : List NodeT) (bd bs : Nat) (w : World) (hne : bd ≠ bs) (hD : MapN w bd []) (hS : MapN w bs ns) :
    Calls Tryz.prog 69 #[.map (some bd), .map (some bs)] w fun e w' => e = .returned (.tuple #[]) ∧ MapN w' bd ns ∧ w.grownBy w' (some bd) := by
  obtain ⟨w0, all, hrun, hall, hR0, hg0, hsz0⟩ := hS.range
  have hdl := hD.lt
  have hsl := hS.lt
  have HD0 : Hid (MapN w0 bd []) := hD.grown hg0 (by simp)
  have HR0 : Hid (MapR w0 bs w.heap.size ns all) := hR0
  have HA : Hid (all.Perm ns) := hall
  have HG0 : Hid (w.grownBy w0 none) := hg0
  have HSN : Hid (SortN ns) := hS.sort
  clear hR0 hall hg0 hD hS
  go_enter Tryz.func69, Tryz.ntmps69
  go_wp2_with fail
  go_loopw [4] (fun _ wr => ∃ (m rest : List NodeT), Hid (MapR wr bs w.heap.size ns rest) ∧ Hid (MapN wr bd m) ∧ Hid ((m ++ rest).Perm ns) ∧ Hid (w.grownBy wr (some bd))) (fun _ wr => wr.rangeLeft bs w.heap.size)
  case atStart => exact ⟨[], all, HR0, HD0, HA, HG0.out.but _⟩
  case round =>
    clear HR0 HD0 HA HG0 hrun
    obtain ⟨m, rest, HR, HD, HP, HG⟩ := hrel
    rcases HR.out.next 0 with ⟨h0, hnx⟩ | ⟨n, rest', w2, hp, hnx, hR2, hg2, hs2, hen⟩
    · have hnx' := next_all hnx
      have HE : Hid (m = ns) := by
        have h1 := HP.out
        rw [h0, List.append_nil] at h1
        exact sortN_perm HD.out.sort HSN.out h1
      clear hnx h0
      go_wp2_with fail
      go_end0
      exact ⟨rfl, by rw [← HE.out]; exact HD.out, HG.out⟩
    · have hnx' := next_all hnx
      have hil := hR2.lt
      have hits := hR2.ne
      have hitw : w.heap.size ≤ w.heap.size := Nat.le_refl _
      have hD2 : MapN w2 bd m := HD.out.grown hg2 (by simp; omega)
      have HG2 : Hid (w.grownBy w2 (some bd)) := HG.out.andThen hg2 (fun j hj => .inl (by cases hj; exact Nat.le_refl _))
      have HP2 : Hid ((withR n m ++ rest').Perm ns) := copy_step HSN.out HP.out hp
      have hlen : rest'.length < rest.length := by have := hp.length_eq; simp at this; omega
      have HLr : Hid (wr.rangeLeft bs w.heap.size = rest.length) := HR.out.left
      obtain ⟨⟨n1, n2⟩, ⟨n3, n4⟩, n5, n6⟩ := n
      simp only [keyV, nodeV, nodeA] at hnx' hen
      have hbb := (below_new w2 (.cells #[.int .i64 n1, .int .i64 n2] 25)).alloc (by simp) (.cells #[.int .i64 n1, .int .i64 n2, .int .i64 n3, .int .i64 n4, .string n5, .string n6] 44)
      obtain ⟨w4, hput, hM4, hg4⟩ := (hD2.on hbb).put ((n1, n2), (n3, n4), n5, n6)
      simp only [keyV, nodeV, nodeA] at hput
      have HR4 : Hid (MapR w4 bs w.heap.size ns rest') := (hR2.on hbb).grown hg4 (by simp; omega) (by simp; omega)
      have HG4 : Hid (w.grownBy w4 (some bd)) := (HG2.out.andThen (grown_of_below hbb none) (fun j hj => by cases hj)).andThen hg4 (fun j hj => .inr hj)
      have HM4 : Hid (MapN w4 bd (withR ((n1, n2), (n3, n4), n5, n6) m)) := hM4
      clear hnx HR HD HP HG hR2 hg2 hs2 hD2 HG2 hM4 hg4 hbb hp
      go_wp2_with fail
      go_roundw
      case rel => exact ⟨_, rest', HR4, HM4, HP2, HG4⟩
      case measure => rw [HR4.out.left, HLr.out]; exact hlen
end Go.Proofs.YtjmbnoacbmmcdaaGreatDoor

/- The library's maps.Values, slices.Collect at nodes (layer 11). -/
namespace Go.Proofs.YtjmbnoacbmmcdaaGreatDoor
open Go.RowKit
set_option linter.unusedSimpArgs false

theorem MapR.walks {w w' : World} {r it : Nat} {ns rest : List NodeT} (h : MapR w r it ns rest) (hk : KeepsWalks w w') : MapR w' r it ns rest := by
  obtain ⟨h0, l, h1, rl, h2, h3⟩ := h
  obtain ⟨es, clock, since, seen, c0, k1, k2, k3, k4, k5⟩ := h2
  exact ⟨h0, l, h1, rl, ⟨es, clock, since, seen, c0, hk.same r _ k1 rfl, k2, k3, hk.same it _ k4 rfl, k5⟩, h3⟩

set_option maxRecDepth 100000 in
set_option maxHeartbeats 2000000 in
/-- The nodes of a map come, each once, in some order. -/
theorem values1_in (n : Nat) (hn : 1 ≤ n) (l Bm b : Nat) (ns : List NodeT) (J Jx : List NodeT → World → Prop)
    (hY : ∀ pre x W, J pre W → pre.length < ns.length → YieldAt Fence.wide (n - 1) Tryz.prog l #[nodeV x] W fun e W' => (e = .returned (.bool true) ∧ J (pre ++ [x]) W' ∧ KeepsWalks W W') ∨ (e = .returned (.bool false) ∧ Jx (pre ++ [x]) W'))
    (W : World) (hJ : AbidesFrom W.heap.size J) (hm : W.cell? ⟨Bm, 0, none⟩ = some (.map (some b))) (hM : MapN W b ns) (h0 : J [] W) :
    CallsIn Fence.wide n Tryz.prog 84 #[.func (.yield l) #[] #[], .pointer (some ⟨Bm, 0, none⟩)] W fun e W' => (∃ v, e = .returned v) ∧ ((∃ xs : List NodeT, xs.Perm ns ∧ J xs W') ∨ (∃ pre : List NodeT, True ∧ Jx pre W')) := by
  obtain ⟨w0, all, hrun, hall, hR0, hg0, hsz0⟩ := hM.range
  have HY : Hid (∀ pre x W, _) := hY
  have HJ : Hid (AbidesFrom W.heap.size J) := hJ
  have HR0 : Hid (MapR w0 b W.heap.size ns all) := hR0
  have HA : Hid (all.Perm ns) := hall
  have HJ0 : Hid (J [] w0) := hJ [] W w0 none h0 hg0 (fun r e => by cases e)
  clear hY hJ hR0 hall hg0 hM h0
  refine callsIn_of_wp Tryz.func84 rfl trivial ?_ rfl
  simp only [Tryz.ntmps84, List.size_toArray, List.length_cons, List.length_nil, Nat.reduceAdd, Nat.reduceSub, Array.replicate_succ, Array.replicate_zero, List.push_toArray, List.append_toArray, List.nil_append, List.cons_append]
  gi_wp2
  (try go_frame)
  gi_loopw [4] (fun _ wr => ∃ (done rest : List NodeT), Hid (MapR wr b W.heap.size ns rest) ∧ Hid ((done ++ rest).Perm ns) ∧ Hid (J done wr)) (fun _ wr => wr.rangeLeft b W.heap.size)
  case atStart => exact ⟨[], all, HR0, HA, HJ0⟩
  case round =>
    clear HR0 HA HJ0 hrun
    obtain ⟨done, rest, HR, HP, HD⟩ := hrel
    rcases HR.out.next 0 with ⟨h0, hnx⟩ | ⟨m, rest', w2, hp, hnx, hR2, hg2, hs2, hen⟩
    · have hnx' := next_all hnx
      have HE : Hid (done.Perm ns) := by
        have h1 := HP.out
        rw [h0, List.append_nil] at h1
        exact h1
      clear hnx h0
      gi_wp2
      go_end0
      exact ⟨⟨_, rfl⟩, .inl ⟨done, HE.out, HD.out⟩⟩
    · have hnx' := next_all hnx
      have hJ2 : J done w2 := HJ.out done wr w2 (some W.heap.size) HD.out hg2 (fun r e => by cases e; exact ⟨Nat.le_refl _, HR.out.walk⟩)
      have HLr : Hid (wr.rangeLeft b W.heap.size = rest.length) := HR.out.left
      have hlen : rest'.length < rest.length := by have := hp.length_eq; simp at this; omega
      have hlen2 : done.length < ns.length := by have h1 := HP.out.length_eq; rw [List.length_append] at h1; omega
      have HP2 : Hid (((done ++ [m]) ++ rest').Perm ns) := by
        show List.Perm _ _
        rw [List.append_assoc]
        exact ((List.Perm.refl done).append hp.symm).trans HP.out
      obtain ⟨w3, hw3⟩ : ∃ w3, w2.alloc (.cells (nodeA m) 44) = w3 := ⟨_, rfl⟩
      have hJ3 : J done w3 := by rw [← hw3]; exact HJ.out done w2 _ none hJ2 (World.grownBy_alloc w2 _ none) (fun r e => by cases e)
      have HR3 : Hid (MapR w3 b W.heap.size ns rest') := by show MapR w3 b W.heap.size ns rest'; rw [← hw3]; exact hR2.on (below_new w2 _)
      obtain ⟨fn, tmps, assign, body, hy, hR⟩ := HY.out done m w3 hJ3 hlen2
      have HRd : Hid (RoundIn _ _ _ _ _ _ _ _ _ _) := hR
      subst hw3
      have hk0 : KeepsWalks wr wr := KeepsWalks.refl _
      obtain ⟨⟨m1, m2⟩, ⟨m3, m4⟩, m5, m6⟩ := m
      simp only [keyV, nodeV, nodeA] at hnx' hen hy
      clear hnx HR HP HD hR2 hg2 hs2 hJ2 hJ3 hp hR
      gi_wp2
      refine HRd.out.mono ?_
      rintro e w4 (⟨rfl, hJ4, hk4⟩ | ⟨rfl, hJ4⟩)
      · have HJ4 : Hid (J (done ++ [((m1, m2), (m3, m4), m5, m6)]) w4) := hJ4
        have HR4 : Hid (MapR w4 b W.heap.size ns rest') := HR3.out.walks hk4
        clear hJ4 hk4 HR3 HRd hy
        gi_wp2
        go_roundw
        case rel => exact ⟨_, rest', HR4, HP2, HJ4⟩
        case measure => rw [HR4.out.left, HLr.out]; exact hlen
      · have HJ4 : Hid (Jx (done ++ [((m1, m2), (m3, m4), m5, m6)]) w4) := hJ4
        clear hJ4 HR3 HRd hy
        gi_wp2
        refine bodyPost_ret (results_none rfl _ _ _) rfl ?_
        exact ⟨⟨_, rfl⟩, .inr ⟨_, trivial, HJ4.out⟩⟩

/-- maps.Values hands back an iterator over a map's nodes. -/
theorem values_gives (n : Nat) (hn : 1 ≤ n) (Bm b : Nat) (ns : List NodeT) (w : World) (hBm : Bm < w.heap.size) (hm : w.cell? ⟨Bm, 0, none⟩ = some (.map (some b))) (hM : MapN w b ns) :
    SeqStopsK Fence.wide n Tryz.prog 84 #[.pointer (some ⟨Bm, 0, none⟩)] (fun x => #[nodeV x]) KeepsWalks (fun xs => xs.Perm ns) (fun _ => True) ns.length w := fun l J Jx W hW hJ _ hY h0 =>
  values1_in n hn l Bm b ns J Jx hY W hJ ((hW.cell (p := ⟨Bm, 0, none⟩) hBm).trans hm) (hM.on hW) h0

theorem Tryz.infoNodeI : (Tryz.prog.info? 44).map (fun i => (i.zero, i.size, i.bytes)) = some (some (.agg #[.int .i64 0, .int .i64 0, .int .i64 0, .int .i64 0, .string ⟨#[]⟩, .string ⟨#[]⟩]), 6, 64) := by kernel_rfl

theorem nodeA_oneI (x : NodeT) : ∀ u ∈ (nodeA x).toList, u.oneCell' = true := by
  intro u hu
  simp [nodeA] at hu
  rcases hu with rfl | rfl | rfl | rfl | rfl | rfl <;> rfl

theorem blk_ownI (B : Nat) (t : TypeId) (cs : Array Value) {X Y : World} {row : Option Nat} (h : Blk X t B cs) (hg : X.grownBy Y row) (hr : ∀ r, row = some r → ∃ o : Obj, X.heap[r]? = some o ∧ o.isCells = false) : Blk Y t B cs := by
  refine h.grown hg (fun e => ?_)
  obtain ⟨o, h1, h2⟩ := hr B e.symm
  rw [show X.heap[B]? = _ from h] at h1
  cases h1; cases h2

set_option maxRecDepth 100000 in
set_option maxHeartbeats 4000000 in
theorem appendSeq_in (n : Nat) (hn : 3 ≤ n) (gf : Nat) (lb : Array Value) (eg : ∀ args w, (callFunc gf args).run Tryz.prog w = .ok (.enter gf args) w) (ns : List NodeT) (hN : ns.length ≤ 1048576) (w : World)
    (hseq : SeqStopsK Fence.wide (n - 1) Tryz.prog gf lb (fun x => #[nodeV x]) KeepsWalks (fun xs => xs.Perm ns) (fun _ => True) ns.length w) :
    CallsIn Fence.wide n Tryz.prog 91 #[.slice none 0 0, .func (.func gf) #[] lb] w fun e w' => ∃ v xs, e = .returned v ∧ xs.Perm ns ∧ OwnN w' w.heap.size v xs ∧ Below w.heap.size w w' := by
  obtain ⟨i0, hi, hz0, hz1, hz2⟩ := info_parts Tryz.infoNodeI
  have h1 : 1 ≤ n := by omega
  refine callsIn_of_wp_marks Tryz.func91 rfl trivial ?_ rfl
  simp only [Tryz.ntmps91, List.size_toArray, List.length_cons, List.length_nil, Nat.reduceAdd, Nat.reduceSub, Array.replicate_succ, Array.replicate_zero, List.push_toArray, List.append_toArray, List.nil_append, List.cons_append]
  gi_wp2
  have bS := Boxed.new w 30 (.slice none 0 0)
  have hB0 : Below w.heap.size w (w.alloc (.cells #[.slice none 0 0] 30)) := below_new w _
  have hsz : (w.alloc (.cells #[.slice none 0 0] 30)).heap.size = w.heap.size + 1 := by simp
  obtain ⟨W0, hW0⟩ : ∃ W0, w.alloc (.cells #[.slice none 0 0] 30) = W0 := ⟨_, rfl⟩
  rw [hW0] at bS hB0 hsz ⊢
  clear hW0
  refine wpIn_rangeFunc_ownH rfl h1 (gf := gf) (lb := lb) rfl trivial eg hseq walksK_t (fun W l o o' hl ho hc hw => KeepsWalks.putObj _ ho hw) hB0 (fun _ => rfl)
    (fun pre W => (∃ v, Boxed W w.heap.size 30 v ∧ W.ownsRow w.heap.size 44 6 v pre.length (cellsN pre) ∧ True) ∧ Below w.heap.size w W)
    (fun _ _ _ => False)
    (OwnFrom.and (Own.from (holdsRow_own w.heap.size w.heap.size 30 44 6 (fun pre => pre.length) cellsN (fun _ _ => True)) _) (ownFrom_below (Nat.le_refl _) (by omega)))
    (fun _ _ _ _ _ hs _ _ => hs)
    ⟨⟨_, bS, World.ownsRow_nil _ _ _ _, trivial⟩, hB0⟩
    (fun x a' W => ∃ Bx, w.heap.size < Bx ∧ Blk W 44 Bx (nodeA x) ∧ a' = { tmps := #[.slice none 0 0, .func (.func gf) #[] lb, .pointer (some ⟨w.heap.size, 0, none⟩), undef, .slice none 0 0, .pointer (some ⟨Bx, 0, none⟩), .func (.func gf) #[] lb, nodeV x, undef, undef, undef, undef, undef], defers := [] })
    (fun x a' _ X Y row hs hg hr => by obtain ⟨Bx, q1, q2, q3⟩ := hs; exact ⟨Bx, q1, blk_ownI Bx _ _ q2 hg (fun r e => (hr r e).2), q3⟩)
    ?assign ?body ?done ?stop
  case assign =>
    rintro l pre x W K ⟨⟨v, bS1, hrow, _⟩, hB1⟩ hK
    obtain ⟨⟨m1, m2⟩, ⟨m3, m4⟩, m5, m6⟩ := x
    simp only [nodeV, nodeA] at hK ⊢
    gi_wp2_with (rw [Oper.semAt_eq _ _ _ (fun c h => by cases h)]; go_simp)
    exact hK _ _ ((KeepsOthers.alloc _ _).from _) (KeepsWalks.alloc _ _) ⟨⟨v, bS1.alloc _, hrow.alloc _, trivial⟩, hB1.alloc hB1.size _⟩ ⟨W.heap.size, bS1.lt, Blk.new _ _ _, rfl⟩
  case body =>
    rintro l pre x a' W hl ⟨r, hr⟩ ⟨⟨v, bS1, hrow, _⟩, hB1⟩ ⟨Bx, hBx, kX, rfl⟩ hlt
    obtain ⟨⟨m1, m2⟩, ⟨m3, m4⟩, m5, m6⟩ := x
    have x0 : W.cell? ⟨Bx, 0, none⟩ = some (.int .i64 m1) := kX.cell 0
    have x1 : W.cell? ⟨Bx, 1, none⟩ = some (.int .i64 m2) := kX.cell 1
    have x2 : W.cell? ⟨Bx, 2, none⟩ = some (.int .i64 m3) := kX.cell 2
    have x3 : W.cell? ⟨Bx, 3, none⟩ = some (.int .i64 m4) := kX.cell 3
    have x4 : W.cell? ⟨Bx, 4, none⟩ = some (.string m5) := kX.cell 4
    have x5 : W.cell? ⟨Bx, 5, none⟩ = some (.string m6) := kX.cell 5
    have cS := bS1.cell
    have hsW := hB1.size
    have hcell : ∀ j u, (nodeA ((m1, m2), (m3, m4), m5, m6)).toList[j]? = some u → (W.alloc (.cells (nodeA ((m1, m2), (m3, m4), m5, m6)) 44)).cell? ((⟨W.heap.size, 0, none⟩ : Addr).add j) = some u := fun j u hj => by
      rw [Go.WideShapes.add_plain, Nat.zero_add, cell_of_row _ _ _ _ 44 (0, 0) (heap_alloc_last W _)]
      simpa using hj
    have HC : Hid (∀ j u, _) := hcell
    have HB1 : Hid (Below w.heap.size w W) := hB1
    have HR : Hid (W.ownsRow w.heap.size 44 6 v pre.length (cellsN pre)) := hrow
    have HS : Hid (Boxed W w.heap.size 30 v) := bS1
    have HI : Hid (Tryz.prog.info? 44 = some i0 ∧ i0.zero = some (.agg #[.int .i64 0, .int .i64 0, .int .i64 0, .int .i64 0, .string ⟨#[]⟩, .string ⟨#[]⟩]) ∧ i0.size = 6 ∧ i0.bytes = 64) := ⟨hi, hz0, hz1, hz2⟩
    clear hcell hB1 hrow bS1 hi hz0 hz1 hz2 kX hr
    simp only [nodeV, nodeA]
    gi_wp2_with (first
      | (gi_at_builtin
         refine wpListIn_append_own _ rfl _ _ 30 rfl w.heap.size 44 i0 _ 6 64 Tryz.underlying30 HI.out.1 HI.out.2.1 HI.out.2.2.1 HI.out.2.2.2 rfl (by decide) _ _ _ rfl (HR.out.alloc _) ⟨W.heap.size, 0, none⟩ 1 1 (nodeA ((m1, m2), (m3, m4), m5, m6)).toList rfl rfl HC.out (nodeA_oneI _) (by unfold maxLen; omega) (by omega) (by simp; omega) ?_
         intro v' w1 hown' hgrow _
         obtain ⟨g', cap', rfl⟩ := ownsRow_succ hown'
         obtain ⟨hv1, hv2, hr2, hk2, hb2⟩ := HS.out.appended (by decide) HR.out hsW (Nat.le_refl _) hown' hgrow
         have hc1 := hv1.cell
         have hf1 := hv1.frozen)
      | (rw [Oper.semAt_eq _ _ _ (fun c h => by cases h)]; go_simp))
    refine ⟨hk2.from _, ⟨hk2.size, fun k o h hw => hk2.same k o h (by cases o <;> first | rfl | cases hw)⟩, ⟨_, hv2, ?_, trivial⟩, HB1.out.trans hb2⟩
    rw [List.length_append, cellsN_snoc]
    exact hr2
  case done =>
    rintro D xs W hD hS ⟨⟨v, bS1, hrow, _⟩, hB1⟩ hK
    have cS := bS1.cell
    have HR : Hid (W.ownsRow w.heap.size 44 6 v xs.length (cellsN xs)) := hrow
    have HB1 : Hid (Below w.heap.size w W) := hB1
    clear hrow hB1 bS1
    gi_wp2
    refine ⟨by simp, .inl ⟨_, _, rfl, run_takeDeferred hK, ?_⟩⟩
    refine ⟨_, results_tmp rfl _ _ _, v, xs, rfl, hS, owns_same HR.out (fun k hk => World.putObj_heap_other (fun e => ?_)), HB1.out.grown (grownBy_putObj' W D _) HB1.out.size (fun k e => by cases e; omega)⟩
    subst e
    rcases HR.out.2 with ⟨rfl, _⟩ | ⟨g, cap, cur, rfl, _, hgb, _⟩
    · cases hk
    · cases hk
      rw [hK] at hgb; cases hgb
  case stop =>
    rintro D c pre W _ _ h _
    exact h.elim

set_option maxRecDepth 100000 in
set_option maxHeartbeats 2000000 in
theorem collect_in (n : Nat) (hn : 4 ≤ n) (gf : Nat) (lb : Array Value) (eg : ∀ args w, (callFunc gf args).run Tryz.prog w = .ok (.enter gf args) w) (ns : List NodeT) (hN : ns.length ≤ 1048576) (w : World)
    (hseq : SeqStopsK Fence.wide (n - 1 - 1) Tryz.prog gf lb (fun x => #[nodeV x]) KeepsWalks (fun xs => xs.Perm ns) (fun _ => True) ns.length w) :
    CallsIn Fence.wide n Tryz.prog 82 #[.func (.func gf) #[] lb] w fun e w' => ∃ v xs, e = .returned v ∧ xs.Perm ns ∧ OwnN w' w.heap.size v xs ∧ Below w.heap.size w w' := by
  have cA := appendSeq_in (n - 1) (by omega) gf lb eg ns hN w hseq
  have hfS : Fence.wide.fn 91 := trivial
  have h1 : 1 ≤ n := by omega
  refine callsIn_of_wp Tryz.func82 rfl trivial ?_ rfl
  simp only [Tryz.ntmps82, List.size_toArray, List.length_cons, List.length_nil, Nat.reduceAdd, Nat.reduceSub, Array.replicate_succ, Array.replicate_zero, List.push_toArray, List.append_toArray, List.nil_append, List.cons_append]
  gi_wp2_with (gi_at_call 91; refine cA.mono ?_; rintro e w' ⟨v, xs, rfl, q1, q2, q3⟩)
  go_ret
  exact ⟨v, xs, rfl, q1, q2, q3⟩

set_option maxHeartbeats 1000000 in
theorem values_any (b : Nat) (w : World) :
    Calls Tryz.prog 74 #[.map (some b)] w fun e w' => e = .returned (.func (.func 84) #[] #[.pointer (some ⟨w.heap.size, 0, none⟩)]) ∧ w' = w.alloc (.cells #[.map (some b)] 60) := by
  go_enter Tryz.func74, Tryz.ntmps74
  go_wp2
  go_ret
  exact ⟨rfl, rfl⟩

/-- slices.Collect(maps.Values(m)). -/
theorem collect_any (b : Nat) (ns : List NodeT) (hN : ns.length ≤ 1048576) (w : World) (hM : MapN w b ns) :
    Calls Tryz.prog 82 #[.func (.func 84) #[] #[.pointer (some ⟨w.heap.size, 0, none⟩)]] (w.alloc (.cells #[.map (some b)] 60)) fun e w' => ∃ v xs, e = .returned v ∧ xs.Perm ns ∧ OwnN w' (w.heap.size + 1) v xs ∧ Below (w.heap.size + 1) (w.alloc (.cells #[.map (some b)] 60)) w' := by
  have h := collect_in 6 (by omega) 84 #[.pointer (some ⟨w.heap.size, 0, none⟩)] (enters_of Tryz.func84 (by kernel_rfl) rfl) ns hN (w.alloc (.cells #[.map (some b)] 60))
    (values_gives _ (by omega) w.heap.size b ns _ (by simp) (by simp) (hM.on (below_new w _)))
  rw [World.size_alloc] at h
  exact callsIn_wide.1 h
end Go.Proofs.YtjmbnoacbmmcdaaGreatDoor

/- The library's slices.SortFunc, SortedFunc at nodes; the code's list (layer 11). -/
namespace Go.Proofs.YtjmbnoacbmmcdaaGreatDoor
open Go.RowKit Go.Sort
set_option linter.unusedSimpArgs false

def encN (x : NodeT) : List Value := (nodeA x).toList

theorem cellsN_len (l : List NodeT) : (cellsN l).length = l.length * 6 := by
  induction l with
  | nil => rfl
  | cons x l ih =>
    show ((nodeA x).toList ++ cellsN l).length = _
    rw [List.length_append, ih, List.length_cons]
    show 6 + _ = _
    omega

theorem flat_cells (d : Array NodeT) : (flatK encN 6 d).toList = cellsN d.toList := by
  apply List.ext_getElem?
  intro t
  by_cases ht : t < d.size * 6
  · have hi : t / 6 < d.toList.length := by rw [Array.length_toList]; omega
    obtain ⟨u, h1, h2⟩ := cellsN_at d.toList (t / 6) hi (t % 6) (by omega)
    rw [show t / 6 * 6 + t % 6 = t by omega] at h2
    rw [h2, Array.getElem?_toList, Array.getElem?_eq_getElem (by rw [size_flatK]; exact ht)]
    have h3 := get_flatK encN 6 d t ht
    rw [getElem!_pos _ t (by rw [size_flatK]; exact ht)] at h3
    rw [h3]
    have hd : d[t / 6]! = nL d.toList (t / 6) := by
      have hlt : t / 6 < d.size := by omega
      rw [getElem!_pos d (t / 6) hlt]
      unfold nL
      rw [List.getD_eq_getElem?_getD, List.getElem?_eq_getElem hi, Array.getElem_toList]; rfl
    rw [hd]
    have hj : t % 6 < (encN (nL d.toList (t / 6))).length := by show t % 6 < 6; omega
    rw [getElem!_pos (encN (nL d.toList (t / 6))) (t % 6) hj]
    have h4 : (encN (nL d.toList (t / 6)))[t % 6]? = some u := by
      show ((nodeA (nL d.toList (t / 6))).toList)[t % 6]? = _
      rw [Array.getElem?_toList]; exact h1
    rw [List.getElem?_eq_getElem hj] at h4
    exact h4
  · rw [List.getElem?_eq_none (by rw [Array.length_toList, size_flatK]; omega), List.getElem?_eq_none (by rw [cellsN_len, Array.length_toList]; omega)]

theorem holds_nodes {w : World} {B g cap : Nat} {l : List NodeT} (h : OwnN w B (.slice (some ⟨g, 0, none⟩) l.length cap) l) : HoldsK encN 6 w g 0 l.toArray := by
  intro j hj
  have hj' : j < l.length * 6 := by rw [size_flatK] at hj; simpa using hj
  rcases h.2 with ⟨h0, _⟩ | ⟨g', cap', cur, hv, hB, hgb, h1, h2, h3, h4⟩
  · cases h0
  · cases hv
    refine ⟨?_, by simp [World.frozen?, hgb]⟩
    rw [Nat.zero_add, World.ownsRow.cellAt h j hj']
    show (cellsN l)[j]? = some (flatK encN 6 l.toArray)[j]!
    have hf := flat_cells l.toArray
    rw [List.toList_toArray] at hf
    rw [← hf, getElem!_pos _ j hj, Array.getElem?_toList, Array.getElem?_eq_getElem hj]

theorem owns_sorted {w : World} {B g cap n : Nat} {os : Array Obj} {l : List NodeT} {d' : Array NodeT} (h : OwnN w B (.slice (some ⟨g, 0, none⟩) l.length cap) l) (hd : d'.size = l.length) :
    OwnN (sortWorldK encN 6 w g 0 n d' os) B (.slice (some ⟨g, 0, none⟩) l.length cap) d'.toList ∧ w.grownBy (sortWorldK encN 6 w g 0 n d' os) (some g) := by
  rcases h.2 with ⟨h0, _⟩ | ⟨g', cap', cur, hv, hB, hgb, h1, h2, h3, h4⟩
  · cases h0
  · cases hv
    have hg : g < w.heap.size := (Array.getElem?_eq_some_iff.1 hgb).1
    have hlen : d'.toList.length = l.length := by rw [Array.length_toList, hd]
    refine ⟨?_, ?_⟩
    · unfold OwnN
      rw [hlen]
      refine ⟨by rw [cellsN_len, hlen], .inr ⟨g, cap, putCells id 0 (flatK encN 6 d') cur, rfl, hB, ?_, h1, h2, ?_, ?_⟩⟩
      · unfold sortWorldK putRowK
        rw [heap_grow_old _ _ (by simpa [putRow, mapBlock, Sort.ahead] using hg)]
        simp [putRow, mapBlock, Sort.ahead, Array.getElem?_modify, hgb, onCells]
      · simp [putCells, h3]
      · have hsz : (flatK encN 6 d').size = l.length * 6 := by rw [size_flatK, hd]
        rw [← flat_cells d']
        apply List.ext_getElem?
        intro j
        by_cases hj : j < l.length * 6
        · have hjc : j < cur.size := by
            rw [h3]
            have := Nat.mul_le_mul_right 6 h1
            omega
          rw [List.getElem?_take_of_lt hj, Array.getElem?_toList, Array.getElem?_toList, Array.getElem?_eq_getElem (show j < (flatK encN 6 d').size by rw [hsz]; exact hj)]
          simp [putCells, hsz, hj, hjc]
        · rw [List.getElem?_take_eq_none (by omega), List.getElem?_eq_none (by rw [Array.length_toList, hsz]; omega)]
    · refine ⟨rfl, rfl, rfl, by simp [sortWorldK, putRowK, grow, putRow, mapBlock, Sort.ahead], fun k hk hne => ?_⟩
      have : g ≠ k := fun e => hne (by rw [e])
      unfold sortWorldK putRowK
      rw [heap_grow_old _ _ (by simpa [putRow, mapBlock, Sort.ahead] using hk)]
      simp [putRow, mapBlock, Sort.ahead, Array.getElem?_modify, this]

theorem cmp_lays (blk off size : Nat) (w : World) : CmpLays Tryz.prog 75 #[] encN 6 cmpN blk off size w :=
  fun _ _ _ _ x y => list1_grew x y _

set_option maxHeartbeats 1000000 in
/-- Nodes of the call's own, sorted. -/
theorem sort_some (B g cap : Nat) (xs ns : List NodeT) (w : World) (hN : ns.length ≤ 1048576) (hp : xs.Perm ns) (hs : SortN ns) (h : OwnN w B (.slice (some ⟨g, 0, none⟩) xs.length cap) xs) :
    Calls Tryz.prog 83 #[.slice (some ⟨g, 0, none⟩) xs.length cap, .func (.func 75) #[] #[]] w fun e w' => e = .returned (.tuple #[]) ∧ OwnN w' B (.slice (some ⟨g, 0, none⟩) xs.length cap) ns ∧ w.grownBy w' (some g) := by
  have hlen := hp.length_eq
  have hcon := AnyQ.slices_SortFunc Tryz.sortS 6 Tryz.isAgg44 Tryz.sizeOf44 encN (fun _ => rfl) (fun x => nodeA_oneI x) cmpN swoN 75 #[] g 0 cap xs.toArray w (enters_of Tryz.func75 (by kernel_rfl) rfl) (cmp_lays _ _ _ _) (holds_nodes h) (World.ownsRow.lt h g rfl).2 (by simp; omega)
  rw [List.size_toArray] at hcon
  change Calls Tryz.prog 83 _ _ _ at hcon
  refine hcon.mono ?_
  rintro e w' ⟨rfl, d', n, os, q1, q2, rfl⟩
  have hd : d'.toList = ns := sorted_nodes (d := xs.toArray) hs hp (by rw [List.size_toArray]; exact q1) (by rw [List.size_toArray]; exact q2)
  have hsz : d'.size = xs.length := by rw [← Array.length_toList, hd, hlen]
  obtain ⟨k1, k2⟩ := owns_sorted (n := n) (os := os) h hsz
  rw [hd] at k1
  exact ⟨rfl, k1, k2⟩

set_option maxHeartbeats 2000000 in
theorem insertionSort_none (p : Option Addr) (cap : Nat) (fv : Value) (w : World) :
    Calls Tryz.prog 97 #[.slice p 0 cap, .int .i64 0, .int .i64 0, fv] w fun e w' => e = .returned (.tuple #[]) ∧ w' = w := by
  go_enter Tryz.func97, Tryz.ntmps97
  go_wp2
  refine wp_loop_rounds 1 ?_
  rw [rounds_succ]
  go_wp2
  go_end0
  exact ⟨rfl, rfl⟩

set_option maxHeartbeats 2000000 in
theorem pdqsort_none (p : Option Addr) (cap : Nat) (lim : Int) (fv : Value) (w : World) :
    Calls Tryz.prog 92 #[.slice p 0 cap, .int .i64 0, .int .i64 0, .int .i64 lim, fv] w fun e w' => e = .returned (.tuple #[]) ∧ w' = w := by
  have hi := fun W => insertionSort_none p cap fv W
  go_enter Tryz.func92, Tryz.ntmps92
  go_wp2
  refine wp_loop_rounds 1 ?_
  rw [rounds_succ]
  go_wp2_with (go_at_call 97; refine (hi _).mono ?_; rintro e w' ⟨rfl, rfl⟩)
  (try simp only [Exit.inBlock, Exit.then]); refine bodyPost_ret (results_none rfl _ _ _) rfl ?_
  exact ⟨rfl, rfl⟩

set_option maxHeartbeats 2000000 in
theorem sort_none (p : Option Addr) (cap : Nat) (fv : Value) (w : World) :
    Calls Tryz.prog 83 #[.slice p 0 cap, fv] w fun e w' => e = .returned (.tuple #[]) ∧ w' = w := by
  have hp := fun lim W => pdqsort_none p cap lim fv W
  have hl : ∀ W, Calls Tryz.prog 93 #[.int .u64 0] W fun e w' => e = .returned (.int .i64 (Lib.bitLen 0 : Nat)) ∧ w' = W := fun W => by
    have h := Any.bits_Len (SlLaysF0.n15.bits (P := Tryz.prog) (ρ := Tryz.sortS_ren) { Tryz.sortS with }) 0 W (by omega) (by omega)
    exact h
  go_enter Tryz.func83, Tryz.ntmps83
  go_wp2_with (first | (go_at_call 93; refine (hl _).mono ?_; rintro e w' ⟨rfl, rfl⟩) | (go_at_call 92; refine (hp _ _).mono ?_; rintro e w' ⟨rfl, rfl⟩))
  go_end0
  exact ⟨rfl, rfl⟩

set_option maxRecDepth 100000 in
set_option maxHeartbeats 2000000 in
/-- The nodes of a map, by their numbers. -/
theorem list_any (b : Nat) (ns : List NodeT) (hN : ns.length ≤ 1048576) (w : World) (hM : MapN w b ns) :
    Calls Tryz.prog 47 #[.map (some b)] w fun e w' => ∃ v, e = .returned v ∧ OwnN w' w.heap.size v ns ∧ Below w.heap.size w w' := by
  have CS : Hid (Calls Tryz.prog 73 #[.func (.func 84) #[] #[.pointer (some ⟨w.heap.size, 0, none⟩)], .func (.func 75) #[] #[]] (w.alloc (.cells #[.map (some b)] 60)) fun e w' => ∃ v, e = .returned v ∧ OwnN w' w.heap.size v ns ∧ Below w.heap.size w w') := by
    have CC : Hid (Calls _ _ _ _ _) := collect_any b ns hN w hM
    have hB0 : Below w.heap.size w (w.alloc (.cells #[.map (some b)] 60)) := below_new w _
    show Calls _ _ _ _ _
    go_enter Tryz.func73, Tryz.ntmps73
    go_wp2_with fail
    refine CC.out.mono ?_
    rintro e w1 ⟨v, xs, rfl, hp, ho, hb⟩
    have hB1 : Below w.heap.size w w1 := hB0.trans (hb.mono (by omega))
    have hlen := hp.length_eq
    rcases ho.2 with ⟨rfl, h0⟩ | ⟨g, cap, cur, rfl, hBg, _⟩
    · have hns : ns = [] := List.length_eq_zero_iff.1 (by omega)
      have HE : Hid (OwnN w1 w.heap.size (.slice none 0 0) ns) := by show OwnN _ _ _ _; rw [hns]; exact OwnN.nil _ _
      clear CC hb ho hp
      go_wp2_with (go_at_call 83; refine (sort_none _ _ _ _).mono ?_; rintro e w' ⟨rfl, rfl⟩)
      go_ret
      exact ⟨_, rfl, HE.out, hB1⟩
    · have CT : Hid (Calls _ _ _ _ _) := sort_some (w.heap.size + 1) g cap xs ns w1 hN hp hM.sort ho
      clear CC hb ho hp hlen
      go_wp2_with fail
      refine CT.out.mono ?_
      rintro e w2 ⟨rfl, ho2, hg2⟩
      have HO : Hid (OwnN w2 w.heap.size _ ns) := own_less ho2 (by omega)
      have HB : Hid (Below w.heap.size w w2) := hB1.grown hg2 hB1.size (fun k e => by cases e; omega)
      clear CT ho2 hg2
      go_wp2_with fail
      go_ret
      exact ⟨_, rfl, HO.out, HB.out⟩
  clear hM
  go_enter Tryz.func47, Tryz.ntmps47
  go_wp2_with fail
  refine (values_any b w).mono ?_
  rintro e w1 ⟨rfl, rfl⟩
  go_wp2_with fail
  refine CS.out.mono ?_
  rintro e w2 ⟨v, rfl, ho, hb⟩
  go_wp2_with fail
  go_ret
  exact ⟨v, rfl, ho, hb⟩
end Go.Proofs.YtjmbnoacbmmcdaaGreatDoor

/- The library's slices.BinarySearchFunc at operations (layer 11). -/
namespace Go.Proofs.YtjmbnoacbmmcdaaGreatDoor
open Go.RowKit
set_option linter.unusedSimpArgs false

/-- How many operations stand ahead of a stamp. -/
def lowO (s : Int × Int) (ops : List OpT) : Nat := ops.findIdx (fun x => decide (¬ LessS x.2.1 s))

theorem lowO_le (s : Int × Int) (ops : List OpT) : lowO s ops ≤ ops.length := List.findIdx_le_length

theorem oL_get (ops : List OpT) (i : Nat) (h : i < ops.length) : oL ops i = ops[i] := by
  unfold oL; rw [List.getD_eq_getElem?_getD, List.getElem?_eq_getElem h]; rfl

theorem sortO_at {ops : List OpT} (h : SortO ops) {i j : Nat} (hij : i < j) (hj : j < ops.length) : LessS (oL ops i).2.1 (oL ops j).2.1 := by
  unfold SortO at h
  rw [List.pairwise_iff_getElem] at h
  rw [oL_get ops i (by omega), oL_get ops j hj]
  exact h i j (by omega) hj hij

theorem lowO_at (s : Int × Int) (ops : List OpT) (i : Nat) (hi : i ≤ ops.length) (h1 : ∀ k, k < i → LessS (oL ops k).2.1 s) (h2 : i < ops.length → ¬ LessS (oL ops i).2.1 s) : lowO s ops = i := by
  unfold lowO
  by_cases hl : i < ops.length
  · rw [List.findIdx_eq hl]
    refine ⟨by rw [← oL_get ops i hl]; exact decide_eq_true (h2 hl), fun j hj => ?_⟩
    rw [← oL_get ops j (by omega)]; exact decide_eq_false (fun k => k (h1 j hj))
  · have : i = ops.length := by omega
    rw [this, List.findIdx_eq_length]
    intro x hx
    obtain ⟨k, hk, rfl⟩ := List.getElem_of_mem hx
    rw [← oL_get ops k hk]; exact decide_eq_false (fun q => q (h1 k (by omega)))

theorem lowO_below {s : Int × Int} {ops : List OpT} {k : Nat} (h : k < lowO s ops) : LessS (oL ops k).2.1 s := by
  have hk : k < ops.length := Nat.lt_of_lt_of_le h (lowO_le s ops)
  have := List.not_of_lt_findIdx (p := fun x : OpT => decide (¬ LessS x.2.1 s)) (xs := ops) h
  rw [oL_get ops k hk]
  by_cases hh : LessS ops[k].2.1 s
  · exact hh
  · exact absurd hh (of_decide_eq_false (by first | exact this | simpa only [Bool.not_eq_true] using this))

theorem lowO_there {s : Int × Int} {ops : List OpT} (h : lowO s ops < ops.length) : ¬ LessS (oL ops (lowO s ops)).2.1 s := by
  have := List.findIdx_getElem (p := fun x : OpT => decide (¬ LessS x.2.1 s)) (xs := ops) (w := h)
  rw [oL_get ops _ h]
  exact of_decide_eq_true this

/-- Is there an operation with a stamp? -/
theorem dup_low {s : Int × Int} {ops : List OpT} (hs : SortO ops) : dupO s ops = true ↔ (lowO s ops < ops.length ∧ (oL ops (lowO s ops)).2.1 = s) := by
  rw [dupO_iff]
  constructor
  · rintro ⟨x, hx, e⟩
    obtain ⟨k, hk, rfl⟩ := List.getElem_of_mem hx
    have hk2 := oL_get ops k hk
    have h1 : ¬ k < lowO s ops := fun h => by
      have := lowO_below h
      rw [hk2, e] at this
      exact lessS_self _ this
    have h2 : lowO s ops < ops.length := by omega
    refine ⟨h2, ?_⟩
    by_cases h3 : lowO s ops = k
    · rw [h3, hk2, e]
    · have h4 := sortO_at hs (show lowO s ops < k by omega) hk
      rw [hk2, e] at h4
      exact absurd h4 (lowO_there h2)
  · rintro ⟨h1, h2⟩
    exact ⟨oL ops (lowO s ops), by rw [oL_get ops _ h1]; exact List.getElem_mem h1, h2⟩

/-- How many do not stand behind it. -/
theorem pos_low {s : Int × Int} {ops : List OpT} (hs : SortO ops) : posO s ops = lowO s ops + (if dupO s ops = true then 1 else 0) := by
  by_cases hd : dupO s ops = true
  · rw [if_pos hd]
    obtain ⟨h1, h2⟩ := (dup_low hs).1 hd
    by_cases hl : lowO s ops + 1 < ops.length
    · refine posO_at s ops _ hl (fun i hi => ?_) ?_
      · by_cases e : i = lowO s ops
        · rw [e, h2]; exact lessS_self _
        · exact lessS_not _ _ (lowO_below (by omega))
      · have := sortO_at hs (Nat.lt_succ_self _) hl
        rw [h2] at this; exact this
    · rw [show lowO s ops + 1 = ops.length by omega]
      refine posO_all s ops (fun i hi => ?_)
      by_cases e : i = lowO s ops
      · rw [e, h2]; exact lessS_self _
      · exact lessS_not _ _ (lowO_below (by omega))
  · rw [if_neg hd, Nat.add_zero]
    by_cases hl : lowO s ops < ops.length
    · refine posO_at s ops _ hl (fun i hi => lessS_not _ _ (lowO_below hi)) ?_
      have h1 := lowO_there hl
      exact lessS_or _ _ h1 (fun e => hd ((dup_low hs).2 ⟨hl, e⟩))
    · rw [show lowO s ops = ops.length by have := lowO_le s ops; omega]
      exact posO_all s ops (fun i hi => lessS_not _ _ (lowO_below (by omega)))

set_option maxRecDepth 100000 in
set_option maxHeartbeats 8000000 in
theorem search_any (ops : List OpT) (s : Int × Int) (a : Option Addr) (n c : Nat) (w : World) (hn : n ≤ 1048576) (hs : SortO ops) (hO : OpsAt w a n ops) :
    Calls Tryz.prog 55 #[.slice a n c, stampV s, .func (.func 56) #[] #[]] w fun e w' => e = .returned (.tuple #[.int .i64 (lowO s ops : Int), .bool (dupO s ops)]) ∧ Below w.heap.size w w' := by
  have hl := hO.1
  obtain ⟨E, HE⟩ : ∃ E, Hid (E = lowO s ops) := ⟨_, rfl⟩
  obtain ⟨D, HD⟩ : ∃ D, Hid (D = dupO s ops) := ⟨_, rfl⟩
  rw [← HE.out, ← HD.out]
  have HS : Hid (SortO ops) := hs
  have HO : Hid (OpsAt w a n ops) := hO
  have CP : Hid (∀ (o : OpT) (w : World), Calls Tryz.prog 56 #[.agg (opA o), stampV s] w fun e w' => e = .returned (.int .i64 (ordS o.2.1 s)) ∧ Below w.heap.size w w') := fun o w => (place1_grew o s w).mono fun _ _ h => ⟨h.1, h.2.below⟩
  clear hs hO
  obtain ⟨x, y⟩ := s
  show Calls Tryz.prog _ #[_, .agg #[.int .i64 x, .int .i64 y], _] w _
  have A1 : Hid (Blk (w.alloc (.cells #[.int .i64 x, .int .i64 y] 25)) 25 w.heap.size #[.int .i64 x, .int .i64 y]) := Blk.new _ _ _
  have hmix : Tryz.prog.follows .mixedOrders = true := by kernel_rfl
  go_enter Tryz.func55, Tryz.ntmps55
  go_wp2_with fail
  go_loopw [9, 10] (fun i j wr => ∃ (p q : Nat), p ≤ q ∧ q ≤ n ∧ i = .int .i64 p ∧ j = .int .i64 q ∧ Hid (∀ k, k < p → LessS (oL ops k).2.1 (x, y)) ∧ Hid (∀ k, q ≤ k → k < n → ¬ LessS (oL ops k).2.1 (x, y)) ∧ Hid (Blk wr 25 w.heap.size #[.int .i64 x, .int .i64 y]) ∧ Below w.heap.size w wr) (fun i j _ => (intOf j).toNat - (intOf i).toNat)
  case atStart => exact ⟨0, n, Nat.zero_le _, Nat.le_refl _, rfl, rfl, fun k hk => absurd hk (Nat.not_lt_zero _), fun k h1 h2 => absurd h1 (by omega), A1, below_new w _⟩
  case round =>
    clear A1
    obtain ⟨p, q, hpq, hqn, rfl, rfl, HP, HQ, B1, hbl⟩ := hrel
    have c0 : wr.cell? ⟨w.heap.size, 0, none⟩ = some (.int .i64 x) := B1.out.cell 0
    have c1 : wr.cell? ⟨w.heap.size, 1, none⟩ = some (.int .i64 y) := B1.out.cell 1
    by_cases hlt : p < q
    · have b0 : (p : Int) < (q : Int) := by omega
      obtain ⟨m, hm⟩ : ∃ m, m = (p + q) / 2 := ⟨_, rfl⟩
      have hme : Hid (((p : Int) + (q : Int)) / 2 = (m : Int)) := by show _ = _; omega
      have hmn : m < n := by omega
      have hpm : p ≤ m := by omega
      have hmq : m < q := by omega
      have HOr := HO.out.below hbl
      obtain ⟨b, off, rfl, _⟩ := HOr.2.some (by omega)
      have HX : Hid (∀ p : Beh wr, OpsAt p.w' (some ⟨b, off, none⟩) n ops) := fun p => HOr.below p.h
      have C1 := fun w => CP.out (oL ops m) w
      have HLs : Hid (ordS (oL ops m).2.1 (x, y) < 0 ↔ LessS (oL ops m).2.1 (x, y)) := ordS_lt _ _
      obtain ⟨r, hr⟩ : ∃ r, r = ordS (oL ops m).2.1 (x, y) := ⟨_, rfl⟩
      rw [← hr] at C1 HLs
      have x0 := fun p => ((HX.out p).cells m hmn).1
      have x1 := fun p => ((HX.out p).cells m hmn).2.1
      have x2 := fun p => ((HX.out p).cells m hmn).2.2.1
      have x3 := fun p => ((HX.out p).cells m hmn).2.2.2.1
      have x4 := fun p => ((HX.out p).cells m hmn).2.2.2.2.1
      have x5 := fun p => ((HX.out p).cells m hmn).2.2.2.2.2.1
      have x6 := fun p => ((HX.out p).cells m hmn).2.2.2.2.2.2.1
      have x7 := fun p => ((HX.out p).cells m hmn).2.2.2.2.2.2.2.1
      have x8 := fun p => ((HX.out p).cells m hmn).2.2.2.2.2.2.2.2
      have HA : Hid (LessS (oL ops m).2.1 (x, y) → ∀ k, k < m + 1 → LessS (oL ops k).2.1 (x, y)) := fun h k hk => by
        by_cases e : k = m
        · rw [e]; exact h
        · exact lessS_trans _ _ _ (sortO_at HS.out (by omega) (by omega)) h
      have HB : Hid (¬ LessS (oL ops m).2.1 (x, y) → ∀ k, m ≤ k → k < n → ¬ LessS (oL ops k).2.1 (x, y)) := fun h k h1 h2 => by
        by_cases e : k = m
        · rw [e]; exact h
        · exact fun h3 => h (lessS_trans _ _ _ (sortO_at HS.out (by omega) (by omega)) h3)
      obtain ⟨⟨k0, ⟨k1, k2⟩, ⟨k3, k4⟩, ⟨k5, k6⟩, k7, k8⟩, hk⟩ : ∃ s, s = oL ops m := ⟨_, rfl⟩
      rw [← hk] at x0 x1 x2 x3 x4 x5 x6 x7 x8 C1 HLs HA HB
      simp only [opA, stampV] at C1
      have C : Hid (∀ w, _) := C1
      have d0 : ∀ p : Beh wr, p.w'.cell? ⟨w.heap.size, 0, none⟩ = some (.int .i64 x) := fun p => p.cell c0
      have d1 : ∀ p : Beh wr, p.w'.cell? ⟨w.heap.size, 1, none⟩ = some (.int .i64 y) := fun p => p.cell c1
      clear hr hk C1 HOr hm
      have m0 : (m : Int) < (n : Int) := by omega
      go_wp2_with fail
      rw [hme.out]
      have hne_ : Nonempty (Beh wr) := ⟨⟨_, Below.refl _ _⟩⟩
      refine wp_region_quiet_beh (by kernel_rfl) (by kernel_rfl) ?_
      repeat (quiet_step (first | (go_at_call 56; refine Calls.beh_of (C.out _))))
      refine wpQuiet_nil ?_
      intro wq hw_
      obtain ⟨⟨wz_, hbq⟩, hw_⟩ := hw_
      subst hw_
      try dsimp only
      clear hne_
      have hBq := below_step hbl (Nat.le_refl _) hbq
      have Bq := B1.out.on hbq
      clear x0 x1 x2 x3 x4 x5 x6 x7 x8 d0 d1 C HX hbl hbq B1 c0 c1
      by_cases hr0 : r < 0
      · have g0 : decide (r < 0) = true := decide_eq_true hr0
        have hA := HA.out (HLs.out.1 hr0)
        have HA' : Hid (∀ k, k < m + 1 → LessS (oL ops k).2.1 (x, y)) := hA
        clear HA HB hA HLs
        go_wp2_with fail
        refine ⟨⟨m + 1, q, by omega, hqn, by go_num, rfl, HA', HQ, Bq, hBq⟩, ?_⟩
        simp [intOf]; omega
      · have g0 : decide (r < 0) = false := decide_eq_false hr0
        have hB' := HB.out (fun h => hr0 (HLs.out.2 h))
        have HB' : Hid (∀ k, m ≤ k → k < n → ¬ LessS (oL ops k).2.1 (x, y)) := hB'
        clear HA HB hB' HLs
        go_wp2_with fail
        refine ⟨⟨p, m, hpm, by omega, rfl, rfl, HP, HB', Bq, hBq⟩, ?_⟩
        simp [intOf]; omega
    · obtain rfl : p = q := by omega
      have b0 : ¬ ((p : Int) < (p : Int)) := by omega
      have hE : E = p := by
        rw [HE.out]
        exact lowO_at (x, y) ops p (by omega) HP.out (fun h => HQ.out p (Nat.le_refl _) (by omega))
      have HDD : Hid (D = true ↔ (p < n ∧ (oL ops p).2.1 = (x, y))) := by
        show _ ↔ _
        rw [HD.out, dup_low HS.out, ← HE.out, hE, hl]
      subst hE
      clear HE HD HP HQ
      by_cases hpn : E < n
      · have b1 : (E : Int) < (n : Int) := by omega
        have HOr := HO.out.below hbl
        obtain ⟨b, off, rfl, _⟩ := HOr.2.some (by omega)
        have C1 := fun w => CP.out (oL ops E) w
        have HLs : Hid (ordS (oL ops E).2.1 (x, y) = 0 ↔ (oL ops E).2.1 = (x, y)) := ordS_eq _ _
        obtain ⟨r, hr⟩ : ∃ r, r = ordS (oL ops E).2.1 (x, y) := ⟨_, rfl⟩
        rw [← hr] at C1 HLs
        have hD : (r == 0) = D := by
          cases D with
          | true => rw [beq_iff_eq]; exact HLs.out.2 (HDD.out.1 rfl).2
          | false => rw [beq_eq_false_iff_ne]; exact fun e => (by cases HDD.out.2 ⟨hpn, HLs.out.1 e⟩)
        have HS2 : Hid (∀ W, Below wr.heap.size wr W → _) := fun W hW => (HOr.below hW).cells E hpn
        obtain ⟨⟨k0, ⟨k1, k2⟩, ⟨k3, k4⟩, ⟨k5, k6⟩, k7, k8⟩, hk⟩ : ∃ s, s = oL ops E := ⟨_, rfl⟩
        rw [← hk] at C1 HS2
        simp only [opA, stampV] at C1
        have C : Hid (∀ w, _) := C1
        have HS3 : Hid (∀ W, Below wr.heap.size wr W → (W.cell? ⟨w.heap.size, 0, none⟩ = some (.int .i64 x) ∧ W.cell? ⟨w.heap.size, 1, none⟩ = some (.int .i64 y)) ∧ (W.cell? ⟨b, off + E * 9, none⟩ = some (.int .i64 k0) ∧ W.cell? ⟨b, off + E * 9 + 1, none⟩ = some (.int .i64 k1) ∧ W.cell? ⟨b, off + E * 9 + 2, none⟩ = some (.int .i64 k2) ∧ W.cell? ⟨b, off + E * 9 + 3, none⟩ = some (.int .i64 k3) ∧ W.cell? ⟨b, off + E * 9 + 4, none⟩ = some (.int .i64 k4) ∧ W.cell? ⟨b, off + E * 9 + 5, none⟩ = some (.int .i64 k5) ∧ W.cell? ⟨b, off + E * 9 + 6, none⟩ = some (.int .i64 k6) ∧ W.cell? ⟨b, off + E * 9 + 7, none⟩ = some (.string k7) ∧ W.cell? ⟨b, off + E * 9 + 8, none⟩ = some (.string k8))) := fun W hW => ⟨⟨(hW.cell (World.block_lt_of_cell? wr _ c0)).trans c0, (hW.cell (World.block_lt_of_cell? wr _ c1)).trans c1⟩, HS2.out W hW⟩
        have hS0 := HS3.out wr (Below.refl _ _)
        clear hr hk C1 HOr HLs HDD HS2 c0 c1
        go_wp2_with fail
        refine wp_region_noPanic ?_
        refine wp_region_held_drew (S := fun W => (W.cell? ⟨w.heap.size, 0, none⟩ = some (.int .i64 x) ∧ W.cell? ⟨w.heap.size, 1, none⟩ = some (.int .i64 y)) ∧ (W.cell? ⟨b, off + E * 9, none⟩ = some (.int .i64 k0) ∧ W.cell? ⟨b, off + E * 9 + 1, none⟩ = some (.int .i64 k1) ∧ W.cell? ⟨b, off + E * 9 + 2, none⟩ = some (.int .i64 k2) ∧ W.cell? ⟨b, off + E * 9 + 3, none⟩ = some (.int .i64 k3) ∧ W.cell? ⟨b, off + E * 9 + 4, none⟩ = some (.int .i64 k4) ∧ W.cell? ⟨b, off + E * 9 + 5, none⟩ = some (.int .i64 k5) ∧ W.cell? ⟨b, off + E * 9 + 6, none⟩ = some (.int .i64 k6) ∧ W.cell? ⟨b, off + E * 9 + 7, none⟩ = some (.string k7) ∧ W.cell? ⟨b, off + E * 9 + 8, none⟩ = some (.string k8))) (by kernel_rfl) (by first | exact trivial | assumption | exact ⟨by assumption, by assumption⟩) (fun hHeld => ?_)
        refine tk 0 (v := ?_) rfl rfl ?_ ?_
        rotate_left
        · intro w hSw; (try dsimp only at hSw); go_simp; try with_reducible rfl
        try simp only [Act.put, za, zb, zc]
        refine tk 1 (v := ?_) rfl rfl ?_ ?_
        rotate_left
        · intro w hSw; (try dsimp only at hSw); go_simp; try with_reducible rfl
        try simp only [Act.put, za, zb, zc]
        refine tk 2 (v := ?_) rfl rfl ?_ ?_
        rotate_left
        · intro w hSw; (try dsimp only at hSw); go_simp; try with_reducible rfl
        try simp only [Act.put, za, zb, zc]
        refine tk 3 (v := ?_) rfl rfl ?_ ?_
        rotate_left
        · intro w hSw; (try dsimp only at hSw); go_simp; try with_reducible rfl
        try simp only [Act.put, za, zb, zc]
        refine tk 4 (v := ?_) rfl rfl ?_ ?_
        rotate_left
        · intro w hSw; (try dsimp only at hSw); go_simp; try with_reducible rfl
        try simp only [Act.put, za, zb, zc]
        refine tk 5 (v := ?_) rfl rfl ?_ ?_
        rotate_left
        · intro w hSw; (try dsimp only at hSw); go_simp; try with_reducible rfl
        try simp only [Act.put, za, zb, zc]
        refine tk 6 (v := ?_) rfl rfl ?_ ?_
        rotate_left
        · intro w hSw; (try dsimp only at hSw); go_simp; try with_reducible rfl
        try simp only [Act.put, za, zb, zc]
        refine tk 7 (v := ?_) rfl rfl ?_ ?_
        rotate_left
        · intro w hSw; (try dsimp only at hSw); go_simp; try with_reducible rfl
        try simp only [Act.put, za, zb, zc]
        refine tk 8 (v := ?_) rfl rfl ?_ ?_
        rotate_left
        · intro w hSw; (try dsimp only at hSw); go_simp; try with_reducible rfl
        try simp only [Act.put, za, zb, zc]
        refine tk 9 (v := ?_) rfl rfl ?_ ?_
        rotate_left
        · intro w hSw; (try dsimp only at hSw); go_simp; try with_reducible rfl
        try simp only [Act.put, za, zb, zc]
        refine tk 10 (v := ?_) rfl rfl ?_ ?_
        rotate_left
        · intro w hSw; (try dsimp only at hSw); go_simp; try with_reducible rfl
        try simp only [Act.put, za, zb, zc]
        refine wpAnyH_ready (rs := [11]) (by kernel_rfl) (by simp) ?_
        refine AllReadyH.cons rfl (fun K hK => ?_) AllReadyH.nil
        go_simp
        refine (C.out _).mono ?_
        rintro e w1 ⟨rfl, hb1⟩
        have hbq := below_step (Below.refl wr.heap.size wr).drew (Nat.le_refl _) hb1
        refine hK.out _ _ (HS3.out _ hbq) (fun hHeld => ?_)
        clear hK K
        refine tk 12 (v := ?_) rfl rfl ?_ ?_
        rotate_left
        · intro w hSw; (try dsimp only at hSw); go_simp; try with_reducible rfl
        try simp only [Act.put, za, zb, zc]
        refine tk 13 (v := ?_) rfl rfl ?_ ?_
        rotate_left
        · intro w hSw; (try dsimp only at hSw); go_simp; try with_reducible rfl
        try simp only [Act.put, za, zb, zc]
        refine tk 14 (v := ?_) rfl rfl ?_ ?_
        rotate_left
        · intro w hSw; (try dsimp only at hSw); go_simp; try with_reducible rfl
        try simp only [Act.put, za, zb, zc]
        refine tk 15 (v := ?_) rfl rfl ?_ ?_
        rotate_left
        · intro w hSw; (try dsimp only at hSw); go_simp; try with_reducible rfl
        try simp only [Act.put, za, zb, zc]
        refine wpAnyH_done (by kernel_rfl) (NoPanic.normal ?_) _
        have hBq := below_step hbl (Nat.le_refl _) hbq
        clear C hbl hbq hb1 B1 hS0 HS3
        go_wp2_with fail
        go_ret2
        exact ⟨rfl, hBq⟩
      · have b1 : ¬ ((E : Int) < (n : Int)) := by omega
        obtain rfl : D = false := by
          cases D with
          | false => rfl
          | true => exact absurd (HDD.out.1 rfl).1 hpn
        clear HDD HO CP
        go_wp2_with fail
        refine wp_region_noPanic ?_
        refine wp_region_held_drew (S := fun _ => True) (by kernel_rfl) (by first | exact trivial | assumption | exact ⟨by assumption, by assumption⟩) (fun hHeld => ?_)
        refine tk 0 (v := ?_) rfl rfl ?_ ?_
        rotate_left
        · intro w hSw; (try dsimp only at hSw); go_simp; try with_reducible rfl
        try simp only [Act.put, za, zb, zc]
        refine tk 1 (v := ?_) rfl rfl ?_ ?_
        rotate_left
        · intro w hSw; (try dsimp only at hSw); go_simp; try with_reducible rfl
        try simp only [Act.put, za, zb, zc]
        refine tk 2 (v := ?_) rfl rfl ?_ ?_
        rotate_left
        · intro w hSw; (try dsimp only at hSw); go_simp; try with_reducible rfl
        try simp only [Act.put, za, zb, zc]
        refine tk 3 (v := ?_) rfl rfl ?_ ?_
        rotate_left
        · intro w hSw; (try dsimp only at hSw); go_simp; try with_reducible rfl
        try simp only [Act.put, za, zb, zc]
        refine tk 4 (v := ?_) rfl rfl ?_ ?_
        rotate_left
        · intro w hSw; (try dsimp only at hSw); go_simp; try with_reducible rfl
        try simp only [Act.put, za, zb, zc]
        refine tn 5 rfl rfl ?_
        try simp only [Act.put, za, zb, zc]
        refine tn 6 rfl rfl ?_
        try simp only [Act.put, za, zb, zc]
        refine tn 7 rfl rfl ?_
        try simp only [Act.put, za, zb, zc]
        refine tn 8 rfl rfl ?_
        try simp only [Act.put, za, zb, zc]
        refine tn 9 rfl rfl ?_
        try simp only [Act.put, za, zb, zc]
        refine tn 10 rfl rfl ?_
        try simp only [Act.put, za, zb, zc]
        refine tn 11 rfl rfl ?_
        try simp only [Act.put, za, zb, zc]
        refine tn 12 rfl rfl ?_
        try simp only [Act.put, za, zb, zc]
        refine tk 13 (v := ?_) rfl rfl ?_ ?_
        rotate_left
        · intro w hSw; (try dsimp only at hSw); go_simp; try with_reducible rfl
        try simp only [Act.put, za, zb, zc]
        refine tk 14 (v := ?_) rfl rfl ?_ ?_
        rotate_left
        · intro w hSw; (try dsimp only at hSw); go_simp; try with_reducible rfl
        try simp only [Act.put, za, zb, zc]
        refine tk 15 (v := ?_) rfl rfl ?_ ?_
        rotate_left
        · intro w hSw; (try dsimp only at hSw); go_simp; try with_reducible rfl
        try simp only [Act.put, za, zb, zc]
        refine wpAnyH_done (by kernel_rfl) (NoPanic.normal ?_) _
        have hBq := hbl.drew
        clear hbl B1 c0 c1
        go_wp2_with fail
        go_ret2
        exact ⟨rfl, hBq⟩
end Go.Proofs.YtjmbnoacbmmcdaaGreatDoor
