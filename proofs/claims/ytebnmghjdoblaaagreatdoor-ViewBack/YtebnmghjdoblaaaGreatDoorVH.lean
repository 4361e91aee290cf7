import Derived.Test.YtebnmghjdoblaaaGreatDoorRT
import Derived.Test.YtebnmghjdoblaaaGreatDoorTX
import Derived.Test.YtebnmghjdoblaaaGreatDoorBA
import Derived.Test.YtebnmghjdoblaaaGreatDoorTS
import Derived.Test.YtebnmghjdoblaaaGreatDoorTk
/- The document's Do (layer 11). Written by mkdo.py. -/
namespace Go.Proofs.YtebnmghjdoblaaaGreatDoor
open Go.RowKit
set_option linter.unusedSimpArgs false

/-- A slice of nodes: whoever made it. -/
def NodesV (w : World) (v : Value) (l : List NodeT) : Prop := ∃ a c, v = .slice a l.length c ∧ NodesAt w a l.length l

theorem NodesV.on {w w' : World} {v : Value} {l : List NodeT} (h : NodesV w v l) (hb : Below w.heap.size w w') : NodesV w' v l := by
  obtain ⟨a, c, e, h⟩ := h
  exact ⟨a, c, e, h.below hb⟩

theorem OwnN.v {w : World} {B : Nat} {v : Value} {l : List NodeT} (h : OwnN w B v l) : NodesV w v l := OwnN.nodes h

/-- A slice's block is that of an old one, or a new one. -/
def AdrV (a : Option Addr) (n0 B : Nat) (v : Value) : Prop := ∀ x n c, v = .slice (some x) n c → (∃ y, a = some y ∧ y.block = x.block ∧ n ≤ n0) ∨ B ≤ x.block

theorem adr_same {a : Option Addr} {B n c : Nat} : AdrV a n B (.slice a n c) := fun x m d e => by
  cases e
  exact .inl ⟨x, rfl, rfl, Nat.le_refl _⟩

theorem AdrV.less {a : Option Addr} {n0 B B' : Nat} {v : Value} (h : AdrV a n0 B' v) (hB : B ≤ B') : AdrV a n0 B v := fun x n c e => (h x n c e).imp id (fun k => Nat.le_trans hB k)

theorem adr_own {w : World} {a : Option Addr} {n0 B n c : Nat} {e : TypeId} {v : Value} {xs : List Value} (h : w.ownsRow B e c v n xs) : AdrV a n0 B v := fun x m d hv => by
  rcases h.2 with ⟨rfl, _⟩ | ⟨g, cap, cur, rfl, hB, _⟩
  · cases hv
  · cases hv; exact .inr hB

theorem rwithV (l : List NodeT) (nd : NodeT) (a : Option Addr) (n c : Nat) (w : World) (hn : n ≤ 65536) (hI : NodesAt w a n l) :
    Calls Tryz.prog 67 #[.slice a n c, .agg (nodeA nd)] w fun e w' => ∃ v, e = .returned v ∧ NodesV w' v (withP l nd) ∧ Below w.heap.size w w' ∧ AdrV a n w.heap.size v := by
  refine (rwith11_any l nd a n c w hn hI).mono ?_
  rintro e w' ⟨v, rfl, h, hb⟩
  exact ⟨v, rfl, h.v, hb, adr_own h⟩

set_option maxRecDepth 100000 in
set_option maxHeartbeats 4000000 in
theorem rdo_5no (l : List NodeT) (a1 a2 c1 c2 e1 e2 : Int) (s t : ByteArray) (a : Option Addr) (n c : Nat) (w : World) (hn : n ≤ 65535) (HI : Hid (NodesAt w a n l)) (HR : Hid (FindE l (c1, c2) (-1))) :
    Calls Tryz.prog 48 #[.slice a n c, .agg #[.int .i64 5, .int .i64 a1, .int .i64 a2, .int .i64 c1, .int .i64 c2, .int .i64 e1, .int .i64 e2, .string s, .string t]] w fun e w' => ∃ v, e = .returned v ∧ NodesV w' v (l) ∧ Below w.heap.size w w' ∧ AdrV a n w.heap.size v := by
  have hln : l.length = n := HI.out.1
  have HLN : Hid (l.length = n) := hln
  clear hln
  obtain ⟨L, HL⟩ : ∃ L, Hid (L = l) := ⟨_, rfl⟩
  show Calls _ _ _ _ fun e w' => ∃ v, e = .returned v ∧ NodesV w' v (l) ∧ Below w.heap.size w w' ∧ AdrV a n w.heap.size v
  rw [← HL.out]
  go_enter Tryz.func48, Tryz.ntmps48
  go_wp2_with fail
  generalize hq : World.alloc w _ = w0
  have hb0 : Hid (Below w.heap.size w w0) := by rw [← hq]; exact below_new w _
  have G0 : Hid (Blk w0 56 w.heap.size #[.int .i64 5, .int .i64 a1, .int .i64 a2, .int .i64 c1, .int .i64 c2, .int .i64 e1, .int .i64 e2, .string s, .string t]) := by show Blk _ _ _ _; rw [← hq]; exact Blk.new _ _ _
  have N0 : Hid (NodesAt w0 a n l) := HI.out.below hb0.out
  obtain ⟨g, hg⟩ : ∃ g, g = w.heap.size := ⟨_, rfl⟩
  rw [← hg] at G0 ⊢
  have LG : Hid (w.heap.size ≤ w.heap.size) := Nat.le_refl _
  clear hq HI hg
  refine (rfind_any l (c1, c2) (-1) HR.out a n c w0 (by omega) N0.out).mono ?_
  rintro e w1 ⟨rfl, hb1⟩
  have HB1 : Hid (Below w.heap.size w w1) := below_step hb0.out LG.out hb1
  have G1 : Hid (Blk w1 56 g #[.int .i64 5, .int .i64 a1, .int .i64 a2, .int .i64 c1, .int .i64 c2, .int .i64 e1, .int .i64 e2, .string s, .string t]) := G0.out.on hb1
  have N1 : Hid (NodesAt w1 a n l) := N0.out.below hb1
  clear hb1 hb0 G0 N0 HR
  have g5 : w1.cell? ⟨g, 5, none⟩ = some (.int .i64 e1) := G1.out.cell 5
  have g6 : w1.cell? ⟨g, 6, none⟩ = some (.int .i64 e2) := G1.out.cell 6
  have f0 : ∀ o, (w1.alloc o).cell? ⟨g, 0, none⟩ = some (.int .i64 5) := fun o => (G1.out.alloc o).cell 0
  have f3 : ∀ o, (w1.alloc o).cell? ⟨g, 3, none⟩ = some (.int .i64 c1) := fun o => (G1.out.alloc o).cell 3
  have f4 : ∀ o, (w1.alloc o).cell? ⟨g, 4, none⟩ = some (.int .i64 c2) := fun o => (G1.out.alloc o).cell 4
  have f7 : ∀ o, (w1.alloc o).cell? ⟨g, 7, none⟩ = some (.string s) := fun o => (G1.out.alloc o).cell 7
  have f8 : ∀ o, (w1.alloc o).cell? ⟨g, 8, none⟩ = some (.string t) := fun o => (G1.out.alloc o).cell 8
  have f0' : ∀ o o', ((w1.alloc o).alloc o').cell? ⟨g, 0, none⟩ = some (.int .i64 5) := fun o o' => ((G1.out.alloc o).alloc o').cell 0
  have f3' : ∀ o o', ((w1.alloc o).alloc o').cell? ⟨g, 3, none⟩ = some (.int .i64 c1) := fun o o' => ((G1.out.alloc o).alloc o').cell 3
  have f4' : ∀ o o', ((w1.alloc o).alloc o').cell? ⟨g, 4, none⟩ = some (.int .i64 c2) := fun o o' => ((G1.out.alloc o).alloc o').cell 4
  have f7' : ∀ o o', ((w1.alloc o).alloc o').cell? ⟨g, 7, none⟩ = some (.string s) := fun o o' => ((G1.out.alloc o).alloc o').cell 7
  have f8' : ∀ o o', ((w1.alloc o).alloc o').cell? ⟨g, 8, none⟩ = some (.string t) := fun o o' => ((G1.out.alloc o).alloc o').cell 8
  go_wp2
  go_ret
  exact ⟨.slice a n c, rfl, by rw [HL.out]; exact ⟨_, _, by rw [HLN.out], by rw [HLN.out]; exact N1.out.below (below_new w1 _)⟩, below_step HB1.out LG.out (below_new w1 _), adr_same⟩

set_option maxRecDepth 100000 in
set_option maxHeartbeats 4000000 in
theorem rdo_5un (l : List NodeT) (a1 a2 c1 c2 e1 e2 : Int) (s t : ByteArray) (a : Option Addr) (n c j : Nat) (w : World) (hn : n ≤ 65535) (HI : Hid (NodesAt w a n l)) (HR : Hid (FindE l (c1, c2) (j : Int))) (hj : j < n) (HU : Hid (underF l (c1, c2) (n + 1) (0, 1) = true)) :
    Calls Tryz.prog 48 #[.slice a n c, .agg #[.int .i64 5, .int .i64 a1, .int .i64 a2, .int .i64 c1, .int .i64 c2, .int .i64 e1, .int .i64 e2, .string s, .string t]] w fun e w' => ∃ v, e = .returned v ∧ NodesV w' v (l) ∧ Below w.heap.size w w' ∧ AdrV a n w.heap.size v := by
  have hln : l.length = n := HI.out.1
  have HLN : Hid (l.length = n) := hln
  clear hln
  have j0 : (j : Int) < (n : Int) := by omega
  have j1 : ¬ ((j : Int) < 0) := by omega
  have j2 : decide ((j : Int) < 0) = false := by simp
  have j3 : decide ((0 : Int) ≤ (j : Int)) = true := by simp
  obtain ⟨Y, hY⟩ : ∃ Y, Y = nL l j := ⟨_, rfl⟩
  obtain ⟨⟨m1, m2⟩, ⟨m3, m4⟩, m5, m6⟩ := Y
  obtain ⟨L, HL⟩ : ∃ L, Hid (L = l) := ⟨_, rfl⟩
  show Calls _ _ _ _ fun e w' => ∃ v, e = .returned v ∧ NodesV w' v (l) ∧ Below w.heap.size w w' ∧ AdrV a n w.heap.size v
  rw [← HL.out]
  have HYY : Hid (((m1, m2), (m3, m4), m5, m6) = nL l j) := hY
  clear hY
  go_enter Tryz.func48, Tryz.ntmps48
  go_wp2_with fail
  generalize hq : World.alloc w _ = w0
  have hb0 : Hid (Below w.heap.size w w0) := by rw [← hq]; exact below_new w _
  have G0 : Hid (Blk w0 56 w.heap.size #[.int .i64 5, .int .i64 a1, .int .i64 a2, .int .i64 c1, .int .i64 c2, .int .i64 e1, .int .i64 e2, .string s, .string t]) := by show Blk _ _ _ _; rw [← hq]; exact Blk.new _ _ _
  have N0 : Hid (NodesAt w0 a n l) := HI.out.below hb0.out
  obtain ⟨g, hg⟩ : ∃ g, g = w.heap.size := ⟨_, rfl⟩
  rw [← hg] at G0 ⊢
  have LG : Hid (w.heap.size ≤ w.heap.size) := Nat.le_refl _
  clear hq HI hg
  refine (rfind_any l (c1, c2) (j : Int) HR.out a n c w0 (by omega) N0.out).mono ?_
  rintro e w1 ⟨rfl, hb1⟩
  have HB1 : Hid (Below w.heap.size w w1) := below_step hb0.out LG.out hb1
  have G1 : Hid (Blk w1 56 g #[.int .i64 5, .int .i64 a1, .int .i64 a2, .int .i64 c1, .int .i64 c2, .int .i64 e1, .int .i64 e2, .string s, .string t]) := G0.out.on hb1
  have N1 : Hid (NodesAt w1 a n l) := N0.out.below hb1
  clear hb1 hb0 G0 N0 HR
  have g5 : w1.cell? ⟨g, 5, none⟩ = some (.int .i64 e1) := G1.out.cell 5
  have g6 : w1.cell? ⟨g, 6, none⟩ = some (.int .i64 e2) := G1.out.cell 6
  have f0 : ∀ o, (w1.alloc o).cell? ⟨g, 0, none⟩ = some (.int .i64 5) := fun o => (G1.out.alloc o).cell 0
  have f3 : ∀ o, (w1.alloc o).cell? ⟨g, 3, none⟩ = some (.int .i64 c1) := fun o => (G1.out.alloc o).cell 3
  have f4 : ∀ o, (w1.alloc o).cell? ⟨g, 4, none⟩ = some (.int .i64 c2) := fun o => (G1.out.alloc o).cell 4
  have f7 : ∀ o, (w1.alloc o).cell? ⟨g, 7, none⟩ = some (.string s) := fun o => (G1.out.alloc o).cell 7
  have f8 : ∀ o, (w1.alloc o).cell? ⟨g, 8, none⟩ = some (.string t) := fun o => (G1.out.alloc o).cell 8
  obtain ⟨b, off, rfl, _⟩ := N1.out.2.some (by omega)
  obtain ⟨q0, q1, q2, q3, q4, q5⟩ := N1.out.cells j hj
  rw [← HYY.out] at q0 q1 q2 q3 q4 q5
  have n0 : ∀ o, (w1.alloc o).cell? ⟨b, off + j * 6, none⟩ = some (.int .i64 m1) := fun o => by rw [(below_new w1 o).cell (World.block_lt_of_cell? w1 _ q0)]; exact q0
  have n1 : ∀ o, (w1.alloc o).cell? ⟨b, off + j * 6 + 1, none⟩ = some (.int .i64 m2) := fun o => by rw [(below_new w1 o).cell (World.block_lt_of_cell? w1 _ q1)]; exact q1
  have n2 : ∀ o, (w1.alloc o).cell? ⟨b, off + j * 6 + 2, none⟩ = some (.int .i64 m3) := fun o => by rw [(below_new w1 o).cell (World.block_lt_of_cell? w1 _ q2)]; exact q2
  have n3 : ∀ o, (w1.alloc o).cell? ⟨b, off + j * 6 + 3, none⟩ = some (.int .i64 m4) := fun o => by rw [(below_new w1 o).cell (World.block_lt_of_cell? w1 _ q3)]; exact q3
  have n4 : ∀ o, (w1.alloc o).cell? ⟨b, off + j * 6 + 4, none⟩ = some (.string m5) := fun o => by rw [(below_new w1 o).cell (World.block_lt_of_cell? w1 _ q4)]; exact q4
  have n5 : ∀ o, (w1.alloc o).cell? ⟨b, off + j * 6 + 5, none⟩ = some (.string m6) := fun o => by rw [(below_new w1 o).cell (World.block_lt_of_cell? w1 _ q5)]; exact q5
  have f0' : ∀ o o', ((w1.alloc o).alloc o').cell? ⟨g, 0, none⟩ = some (.int .i64 5) := fun o o' => ((G1.out.alloc o).alloc o').cell 0
  have f3' : ∀ o o', ((w1.alloc o).alloc o').cell? ⟨g, 3, none⟩ = some (.int .i64 c1) := fun o o' => ((G1.out.alloc o).alloc o').cell 3
  have f4' : ∀ o o', ((w1.alloc o).alloc o').cell? ⟨g, 4, none⟩ = some (.int .i64 c2) := fun o o' => ((G1.out.alloc o).alloc o').cell 4
  have f7' : ∀ o o', ((w1.alloc o).alloc o').cell? ⟨g, 7, none⟩ = some (.string s) := fun o o' => ((G1.out.alloc o).alloc o').cell 7
  have f8' : ∀ o o', ((w1.alloc o).alloc o').cell? ⟨g, 8, none⟩ = some (.string t) := fun o o' => ((G1.out.alloc o).alloc o').cell 8
  go_wp2_with fail
  have CU := runder_any l (0, 1) (c1, c2) (some ⟨b, off, none⟩) n c ((w1.alloc (.cells #[.int .i64 0, .int .i64 1] 36)).alloc (.cells #[.int .i64 m1, .int .i64 m2, .int .i64 m3, .int .i64 m4, .string m5, .string m6] 45)) (by omega) (N1.out.below (below_step (below_new w1 _) (Nat.le_refl _) (below_new _ _)))
  rw [HU.out] at CU
  refine CU.mono ?_
  clear CU
  rintro e w3 ⟨rfl, hb3⟩
  have hb13 : Hid (Below w1.heap.size w1 w3) := below_step (below_step (below_new w1 _) (Nat.le_refl _) (below_new _ _)) (Nat.le_refl _) hb3
  clear hb3
  go_wp2
  go_ret
  exact ⟨.slice (some ⟨b, off, none⟩) n c, rfl, by rw [HL.out]; exact ⟨_, _, by rw [HLN.out], by rw [HLN.out]; exact N1.out.below hb13.out⟩, below_step HB1.out LG.out hb13.out, adr_same⟩

set_option maxRecDepth 100000 in
set_option maxHeartbeats 4000000 in
theorem rdo_5mv (l : List NodeT) (a1 a2 c1 c2 e1 e2 : Int) (s t : ByteArray) (a : Option Addr) (n c j : Nat) (w : World) (hn : n ≤ 65535) (HI : Hid (NodesAt w a n l)) (HR : Hid (FindE l (c1, c2) (j : Int))) (hj : j < n) (HU : Hid (underF l (c1, c2) (n + 1) (0, 1) = false)) :
    Calls Tryz.prog 48 #[.slice a n c, .agg #[.int .i64 5, .int .i64 a1, .int .i64 a2, .int .i64 c1, .int .i64 c2, .int .i64 e1, .int .i64 e2, .string s, .string t]] w fun e w' => ∃ v, e = .returned v ∧ NodesV w' v (withP l ((nL l j).1, (0, 1), (nL l j).2.2.1, (nL l j).2.2.2)) ∧ Below w.heap.size w w' ∧ AdrV a n w.heap.size v := by
  have hln : l.length = n := HI.out.1
  have HLN : Hid (l.length = n) := hln
  clear hln
  have j0 : (j : Int) < (n : Int) := by omega
  have j1 : ¬ ((j : Int) < 0) := by omega
  have j2 : decide ((j : Int) < 0) = false := by simp
  have j3 : decide ((0 : Int) ≤ (j : Int)) = true := by simp
  obtain ⟨Y, hY⟩ : ∃ Y, Y = nL l j := ⟨_, rfl⟩
  rw [← hY]
  obtain ⟨⟨m1, m2⟩, ⟨m3, m4⟩, m5, m6⟩ := Y
  obtain ⟨L, HL⟩ : ∃ L, Hid (L = withP l ((m1, m2), (0, 1), m5, m6)) := ⟨_, rfl⟩
  show Calls _ _ _ _ fun e w' => ∃ v, e = .returned v ∧ NodesV w' v (withP l ((m1, m2), (0, 1), m5, m6)) ∧ Below w.heap.size w w' ∧ AdrV a n w.heap.size v
  rw [← HL.out]
  have HYY : Hid (((m1, m2), (m3, m4), m5, m6) = nL l j) := hY
  clear hY
  go_enter Tryz.func48, Tryz.ntmps48
  go_wp2_with fail
  generalize hq : World.alloc w _ = w0
  have hb0 : Hid (Below w.heap.size w w0) := by rw [← hq]; exact below_new w _
  have G0 : Hid (Blk w0 56 w.heap.size #[.int .i64 5, .int .i64 a1, .int .i64 a2, .int .i64 c1, .int .i64 c2, .int .i64 e1, .int .i64 e2, .string s, .string t]) := by show Blk _ _ _ _; rw [← hq]; exact Blk.new _ _ _
  have N0 : Hid (NodesAt w0 a n l) := HI.out.below hb0.out
  obtain ⟨g, hg⟩ : ∃ g, g = w.heap.size := ⟨_, rfl⟩
  rw [← hg] at G0 ⊢
  have LG : Hid (w.heap.size ≤ w.heap.size) := Nat.le_refl _
  clear hq HI hg
  refine (rfind_any l (c1, c2) (j : Int) HR.out a n c w0 (by omega) N0.out).mono ?_
  rintro e w1 ⟨rfl, hb1⟩
  have HB1 : Hid (Below w.heap.size w w1) := below_step hb0.out LG.out hb1
  have G1 : Hid (Blk w1 56 g #[.int .i64 5, .int .i64 a1, .int .i64 a2, .int .i64 c1, .int .i64 c2, .int .i64 e1, .int .i64 e2, .string s, .string t]) := G0.out.on hb1
  have N1 : Hid (NodesAt w1 a n l) := N0.out.below hb1
  clear hb1 hb0 G0 N0 HR
  have g5 : w1.cell? ⟨g, 5, none⟩ = some (.int .i64 e1) := G1.out.cell 5
  have g6 : w1.cell? ⟨g, 6, none⟩ = some (.int .i64 e2) := G1.out.cell 6
  have f0 : ∀ o, (w1.alloc o).cell? ⟨g, 0, none⟩ = some (.int .i64 5) := fun o => (G1.out.alloc o).cell 0
  have f3 : ∀ o, (w1.alloc o).cell? ⟨g, 3, none⟩ = some (.int .i64 c1) := fun o => (G1.out.alloc o).cell 3
  have f4 : ∀ o, (w1.alloc o).cell? ⟨g, 4, none⟩ = some (.int .i64 c2) := fun o => (G1.out.alloc o).cell 4
  have f7 : ∀ o, (w1.alloc o).cell? ⟨g, 7, none⟩ = some (.string s) := fun o => (G1.out.alloc o).cell 7
  have f8 : ∀ o, (w1.alloc o).cell? ⟨g, 8, none⟩ = some (.string t) := fun o => (G1.out.alloc o).cell 8
  obtain ⟨b, off, rfl, _⟩ := N1.out.2.some (by omega)
  obtain ⟨q0, q1, q2, q3, q4, q5⟩ := N1.out.cells j hj
  rw [← HYY.out] at q0 q1 q2 q3 q4 q5
  have n0 : ∀ o, (w1.alloc o).cell? ⟨b, off + j * 6, none⟩ = some (.int .i64 m1) := fun o => by rw [(below_new w1 o).cell (World.block_lt_of_cell? w1 _ q0)]; exact q0
  have n1 : ∀ o, (w1.alloc o).cell? ⟨b, off + j * 6 + 1, none⟩ = some (.int .i64 m2) := fun o => by rw [(below_new w1 o).cell (World.block_lt_of_cell? w1 _ q1)]; exact q1
  have n2 : ∀ o, (w1.alloc o).cell? ⟨b, off + j * 6 + 2, none⟩ = some (.int .i64 m3) := fun o => by rw [(below_new w1 o).cell (World.block_lt_of_cell? w1 _ q2)]; exact q2
  have n3 : ∀ o, (w1.alloc o).cell? ⟨b, off + j * 6 + 3, none⟩ = some (.int .i64 m4) := fun o => by rw [(below_new w1 o).cell (World.block_lt_of_cell? w1 _ q3)]; exact q3
  have n4 : ∀ o, (w1.alloc o).cell? ⟨b, off + j * 6 + 4, none⟩ = some (.string m5) := fun o => by rw [(below_new w1 o).cell (World.block_lt_of_cell? w1 _ q4)]; exact q4
  have n5 : ∀ o, (w1.alloc o).cell? ⟨b, off + j * 6 + 5, none⟩ = some (.string m6) := fun o => by rw [(below_new w1 o).cell (World.block_lt_of_cell? w1 _ q5)]; exact q5
  have f0' : ∀ o o', ((w1.alloc o).alloc o').cell? ⟨g, 0, none⟩ = some (.int .i64 5) := fun o o' => ((G1.out.alloc o).alloc o').cell 0
  have f3' : ∀ o o', ((w1.alloc o).alloc o').cell? ⟨g, 3, none⟩ = some (.int .i64 c1) := fun o o' => ((G1.out.alloc o).alloc o').cell 3
  have f4' : ∀ o o', ((w1.alloc o).alloc o').cell? ⟨g, 4, none⟩ = some (.int .i64 c2) := fun o o' => ((G1.out.alloc o).alloc o').cell 4
  have f7' : ∀ o o', ((w1.alloc o).alloc o').cell? ⟨g, 7, none⟩ = some (.string s) := fun o o' => ((G1.out.alloc o).alloc o').cell 7
  have f8' : ∀ o o', ((w1.alloc o).alloc o').cell? ⟨g, 8, none⟩ = some (.string t) := fun o o' => ((G1.out.alloc o).alloc o').cell 8
  go_wp2_with fail
  have CU := runder_any l (0, 1) (c1, c2) (some ⟨b, off, none⟩) n c ((w1.alloc (.cells #[.int .i64 0, .int .i64 1] 36)).alloc (.cells #[.int .i64 m1, .int .i64 m2, .int .i64 m3, .int .i64 m4, .string m5, .string m6] 45)) (by omega) (N1.out.below (below_step (below_new w1 _) (Nat.le_refl _) (below_new _ _)))
  rw [HU.out] at CU
  refine CU.mono ?_
  clear CU
  rintro e w3 ⟨rfl, hb3⟩
  have hb13 : Hid (Below w1.heap.size w1 w3) := below_step (below_step (below_new w1 _) (Nat.le_refl _) (below_new _ _)) (Nat.le_refl _) hb3
  obtain ⟨k2, hk2⟩ : ∃ k, k = (w1.alloc (.cells #[.int .i64 0, .int .i64 1] 36)).heap.size := ⟨_, rfl⟩
  have K3 : Hid (Blk w3 45 k2 #[.int .i64 m1, .int .i64 m2, .int .i64 m3, .int .i64 m4, .string m5, .string m6]) := (Blk.new' _ _ _ _ hk2.symm).on hb3
  have P3 : Hid (Blk w3 36 w1.heap.size #[.int .i64 0, .int .i64 1]) := ((Blk.new w1 _ _).alloc _).on hb3
  have Lk : Hid (w1.heap.size ≤ k2) := by show _ ≤ _; rw [hk2]; simp
  have hk3 : w1.heap.size + 1 = k2 := by rw [hk2]; simp
  try rw [hk3]
  clear hk3
  clear hk2 hb3
  have pp0 : w3.cell? ⟨w1.heap.size, 0, none⟩ = some (.int .i64 0) := P3.out.cell 0
  have pp1 : w3.cell? ⟨w1.heap.size, 1, none⟩ = some (.int .i64 1) := P3.out.cell 1
  have kc0 : w3.cell? ⟨k2, 0, none⟩ = some (.int .i64 m1) := K3.out.cell 0
  have kc1 : w3.cell? ⟨k2, 1, none⟩ = some (.int .i64 m2) := K3.out.cell 1
  have kc2 : w3.cell? ⟨k2, 2, none⟩ = some (.int .i64 m3) := K3.out.cell 2
  have kc3 : w3.cell? ⟨k2, 3, none⟩ = some (.int .i64 m4) := K3.out.cell 3
  have kc4 : w3.cell? ⟨k2, 4, none⟩ = some (.string m5) := K3.out.cell 4
  have kc5 : w3.cell? ⟨k2, 5, none⟩ = some (.string m6) := K3.out.cell 5
  have fz2 := K3.out.free 2
  have fz3 := K3.out.free 3
  go_wp2_with fail
  refine (rwithV l ((m1, m2), (0, 1), m5, m6) (some ⟨b, off, none⟩) n c _ (by omega) (N1.out.below ((hb13.out.setCell (p := ⟨k2, 2, none⟩) Lk.out _).setCell (p := ⟨k2, 3, none⟩) Lk.out _))).mono ?_
  rintro e w4 ⟨v, rfl, hv, hb4, ha4⟩
  have HV : Hid (NodesV w4 v L) := by rw [HL.out]; exact hv
  have B4 : Hid (Below w.heap.size w w4) := below_step (below_step HB1.out LG.out ((hb13.out.setCell (p := ⟨k2, 2, none⟩) Lk.out _).setCell (p := ⟨k2, 3, none⟩) Lk.out _)) LG.out hb4
  have HA : Hid (AdrV _ n w.heap.size v) := ha4.less (below_step HB1.out LG.out ((hb13.out.setCell (p := ⟨k2, 2, none⟩) Lk.out _).setCell (p := ⟨k2, 3, none⟩) Lk.out _)).size
  clear hv hb4 ha4
  go_wp2
  go_ret
  exact ⟨v, rfl, HV.out, B4.out, HA.out⟩

set_option maxRecDepth 100000 in
set_option maxHeartbeats 4000000 in
theorem rdo_1xy (l : List NodeT) (a1 a2 c1 c2 e2 : Int) (s t : ByteArray) (a : Option Addr) (n c j : Nat) (w : World) (hn : n ≤ 65535) (HI : Hid (NodesAt w a n l)) (HR : Hid (FindE l (c1, c2) (j : Int))) (hj : j < n) :
    Calls Tryz.prog 48 #[.slice a n c, .agg #[.int .i64 1, .int .i64 a1, .int .i64 a2, .int .i64 c1, .int .i64 c2, .int .i64 0, .int .i64 e2, .string s, .string t]] w fun e w' => ∃ v, e = .returned v ∧ NodesV w' v (l) ∧ Below w.heap.size w w' ∧ AdrV a n w.heap.size v := by
  have hln : l.length = n := HI.out.1
  have HLN : Hid (l.length = n) := hln
  clear hln
  have j0 : (j : Int) < (n : Int) := by omega
  have j1 : ¬ ((j : Int) < 0) := by omega
  have j2 : decide ((j : Int) < 0) = false := by simp
  have j3 : decide ((0 : Int) ≤ (j : Int)) = true := by simp
  obtain ⟨Y, hY⟩ : ∃ Y, Y = nL l j := ⟨_, rfl⟩
  obtain ⟨⟨m1, m2⟩, ⟨m3, m4⟩, m5, m6⟩ := Y
  obtain ⟨L, HL⟩ : ∃ L, Hid (L = l) := ⟨_, rfl⟩
  show Calls _ _ _ _ fun e w' => ∃ v, e = .returned v ∧ NodesV w' v (l) ∧ Below w.heap.size w w' ∧ AdrV a n w.heap.size v
  rw [← HL.out]
  have HYY : Hid (((m1, m2), (m3, m4), m5, m6) = nL l j) := hY
  clear hY
  go_enter Tryz.func48, Tryz.ntmps48
  go_wp2_with fail
  generalize hq : World.alloc w _ = w0
  have hb0 : Hid (Below w.heap.size w w0) := by rw [← hq]; exact below_new w _
  have G0 : Hid (Blk w0 56 w.heap.size #[.int .i64 1, .int .i64 a1, .int .i64 a2, .int .i64 c1, .int .i64 c2, .int .i64 0, .int .i64 e2, .string s, .string t]) := by show Blk _ _ _ _; rw [← hq]; exact Blk.new _ _ _
  have N0 : Hid (NodesAt w0 a n l) := HI.out.below hb0.out
  obtain ⟨g, hg⟩ : ∃ g, g = w.heap.size := ⟨_, rfl⟩
  rw [← hg] at G0 ⊢
  have LG : Hid (w.heap.size ≤ w.heap.size) := Nat.le_refl _
  clear hq HI hg
  refine (rfind_any l (c1, c2) (j : Int) HR.out a n c w0 (by omega) N0.out).mono ?_
  rintro e w1 ⟨rfl, hb1⟩
  have HB1 : Hid (Below w.heap.size w w1) := below_step hb0.out LG.out hb1
  have G1 : Hid (Blk w1 56 g #[.int .i64 1, .int .i64 a1, .int .i64 a2, .int .i64 c1, .int .i64 c2, .int .i64 0, .int .i64 e2, .string s, .string t]) := G0.out.on hb1
  have N1 : Hid (NodesAt w1 a n l) := N0.out.below hb1
  clear hb1 hb0 G0 N0 HR
  have g5 : w1.cell? ⟨g, 5, none⟩ = some (.int .i64 0) := G1.out.cell 5
  have g6 : w1.cell? ⟨g, 6, none⟩ = some (.int .i64 e2) := G1.out.cell 6
  have f0 : ∀ o, (w1.alloc o).cell? ⟨g, 0, none⟩ = some (.int .i64 1) := fun o => (G1.out.alloc o).cell 0
  have f3 : ∀ o, (w1.alloc o).cell? ⟨g, 3, none⟩ = some (.int .i64 c1) := fun o => (G1.out.alloc o).cell 3
  have f4 : ∀ o, (w1.alloc o).cell? ⟨g, 4, none⟩ = some (.int .i64 c2) := fun o => (G1.out.alloc o).cell 4
  have f7 : ∀ o, (w1.alloc o).cell? ⟨g, 7, none⟩ = some (.string s) := fun o => (G1.out.alloc o).cell 7
  have f8 : ∀ o, (w1.alloc o).cell? ⟨g, 8, none⟩ = some (.string t) := fun o => (G1.out.alloc o).cell 8
  obtain ⟨b, off, rfl, _⟩ := N1.out.2.some (by omega)
  obtain ⟨q0, q1, q2, q3, q4, q5⟩ := N1.out.cells j hj
  rw [← HYY.out] at q0 q1 q2 q3 q4 q5
  have n0 : ∀ o, (w1.alloc o).cell? ⟨b, off + j * 6, none⟩ = some (.int .i64 m1) := fun o => by rw [(below_new w1 o).cell (World.block_lt_of_cell? w1 _ q0)]; exact q0
  have n1 : ∀ o, (w1.alloc o).cell? ⟨b, off + j * 6 + 1, none⟩ = some (.int .i64 m2) := fun o => by rw [(below_new w1 o).cell (World.block_lt_of_cell? w1 _ q1)]; exact q1
  have n2 : ∀ o, (w1.alloc o).cell? ⟨b, off + j * 6 + 2, none⟩ = some (.int .i64 m3) := fun o => by rw [(below_new w1 o).cell (World.block_lt_of_cell? w1 _ q2)]; exact q2
  have n3 : ∀ o, (w1.alloc o).cell? ⟨b, off + j * 6 + 3, none⟩ = some (.int .i64 m4) := fun o => by rw [(below_new w1 o).cell (World.block_lt_of_cell? w1 _ q3)]; exact q3
  have n4 : ∀ o, (w1.alloc o).cell? ⟨b, off + j * 6 + 4, none⟩ = some (.string m5) := fun o => by rw [(below_new w1 o).cell (World.block_lt_of_cell? w1 _ q4)]; exact q4
  have n5 : ∀ o, (w1.alloc o).cell? ⟨b, off + j * 6 + 5, none⟩ = some (.string m6) := fun o => by rw [(below_new w1 o).cell (World.block_lt_of_cell? w1 _ q5)]; exact q5
  have f0' : ∀ o o', ((w1.alloc o).alloc o').cell? ⟨g, 0, none⟩ = some (.int .i64 1) := fun o o' => ((G1.out.alloc o).alloc o').cell 0
  have f3' : ∀ o o', ((w1.alloc o).alloc o').cell? ⟨g, 3, none⟩ = some (.int .i64 c1) := fun o o' => ((G1.out.alloc o).alloc o').cell 3
  have f4' : ∀ o o', ((w1.alloc o).alloc o').cell? ⟨g, 4, none⟩ = some (.int .i64 c2) := fun o o' => ((G1.out.alloc o).alloc o').cell 4
  have f7' : ∀ o o', ((w1.alloc o).alloc o').cell? ⟨g, 7, none⟩ = some (.string s) := fun o o' => ((G1.out.alloc o).alloc o').cell 7
  have f8' : ∀ o o', ((w1.alloc o).alloc o').cell? ⟨g, 8, none⟩ = some (.string t) := fun o o' => ((G1.out.alloc o).alloc o').cell 8
  go_wp2
  go_ret
  exact ⟨.slice (some ⟨b, off, none⟩) n c, rfl, by rw [HL.out]; exact ⟨_, _, by rw [HLN.out], by rw [HLN.out]; exact N1.out.below (below_new w1 _)⟩, below_step HB1.out LG.out (below_new w1 _), adr_same⟩

set_option maxRecDepth 100000 in
set_option maxHeartbeats 4000000 in
theorem rdo_1xn (l : List NodeT) (a1 a2 c1 c2 e2 : Int) (s t : ByteArray) (a : Option Addr) (n c : Nat) (w : World) (hn : n ≤ 65535) (HI : Hid (NodesAt w a n l)) (HR : Hid (FindE l (c1, c2) (-1))) :
    Calls Tryz.prog 48 #[.slice a n c, .agg #[.int .i64 1, .int .i64 a1, .int .i64 a2, .int .i64 c1, .int .i64 c2, .int .i64 0, .int .i64 e2, .string s, .string t]] w fun e w' => ∃ v, e = .returned v ∧ NodesV w' v (withP l ((c1, c2), (0, e2), s, ⟨#[]⟩)) ∧ Below w.heap.size w w' ∧ AdrV a n w.heap.size v := by
  have hln : l.length = n := HI.out.1
  have HLN : Hid (l.length = n) := hln
  clear hln
  obtain ⟨L, HL⟩ : ∃ L, Hid (L = withP l ((c1, c2), (0, e2), s, ⟨#[]⟩)) := ⟨_, rfl⟩
  show Calls _ _ _ _ fun e w' => ∃ v, e = .returned v ∧ NodesV w' v (withP l ((c1, c2), (0, e2), s, ⟨#[]⟩)) ∧ Below w.heap.size w w' ∧ AdrV a n w.heap.size v
  rw [← HL.out]
  go_enter Tryz.func48, Tryz.ntmps48
  go_wp2_with fail
  generalize hq : World.alloc w _ = w0
  have hb0 : Hid (Below w.heap.size w w0) := by rw [← hq]; exact below_new w _
  have G0 : Hid (Blk w0 56 w.heap.size #[.int .i64 1, .int .i64 a1, .int .i64 a2, .int .i64 c1, .int .i64 c2, .int .i64 0, .int .i64 e2, .string s, .string t]) := by show Blk _ _ _ _; rw [← hq]; exact Blk.new _ _ _
  have N0 : Hid (NodesAt w0 a n l) := HI.out.below hb0.out
  obtain ⟨g, hg⟩ : ∃ g, g = w.heap.size := ⟨_, rfl⟩
  rw [← hg] at G0 ⊢
  have LG : Hid (w.heap.size ≤ w.heap.size) := Nat.le_refl _
  clear hq HI hg
  refine (rfind_any l (c1, c2) (-1) HR.out a n c w0 (by omega) N0.out).mono ?_
  rintro e w1 ⟨rfl, hb1⟩
  have HB1 : Hid (Below w.heap.size w w1) := below_step hb0.out LG.out hb1
  have G1 : Hid (Blk w1 56 g #[.int .i64 1, .int .i64 a1, .int .i64 a2, .int .i64 c1, .int .i64 c2, .int .i64 0, .int .i64 e2, .string s, .string t]) := G0.out.on hb1
  have N1 : Hid (NodesAt w1 a n l) := N0.out.below hb1
  clear hb1 hb0 G0 N0 HR
  have g5 : w1.cell? ⟨g, 5, none⟩ = some (.int .i64 0) := G1.out.cell 5
  have g6 : w1.cell? ⟨g, 6, none⟩ = some (.int .i64 e2) := G1.out.cell 6
  have f0 : ∀ o, (w1.alloc o).cell? ⟨g, 0, none⟩ = some (.int .i64 1) := fun o => (G1.out.alloc o).cell 0
  have f3 : ∀ o, (w1.alloc o).cell? ⟨g, 3, none⟩ = some (.int .i64 c1) := fun o => (G1.out.alloc o).cell 3
  have f4 : ∀ o, (w1.alloc o).cell? ⟨g, 4, none⟩ = some (.int .i64 c2) := fun o => (G1.out.alloc o).cell 4
  have f7 : ∀ o, (w1.alloc o).cell? ⟨g, 7, none⟩ = some (.string s) := fun o => (G1.out.alloc o).cell 7
  have f8 : ∀ o, (w1.alloc o).cell? ⟨g, 8, none⟩ = some (.string t) := fun o => (G1.out.alloc o).cell 8
  have f0' : ∀ o o', ((w1.alloc o).alloc o').cell? ⟨g, 0, none⟩ = some (.int .i64 1) := fun o o' => ((G1.out.alloc o).alloc o').cell 0
  have f3' : ∀ o o', ((w1.alloc o).alloc o').cell? ⟨g, 3, none⟩ = some (.int .i64 c1) := fun o o' => ((G1.out.alloc o).alloc o').cell 3
  have f4' : ∀ o o', ((w1.alloc o).alloc o').cell? ⟨g, 4, none⟩ = some (.int .i64 c2) := fun o o' => ((G1.out.alloc o).alloc o').cell 4
  have f7' : ∀ o o', ((w1.alloc o).alloc o').cell? ⟨g, 7, none⟩ = some (.string s) := fun o o' => ((G1.out.alloc o).alloc o').cell 7
  have f8' : ∀ o o', ((w1.alloc o).alloc o').cell? ⟨g, 8, none⟩ = some (.string t) := fun o o' => ((G1.out.alloc o).alloc o').cell 8
  go_wp2_with fail
  refine (rwithV l ((c1, c2), (0, e2), s, ⟨#[]⟩) a n c _ (by omega) (N1.out.below (below_new w1 _))).mono ?_
  rintro e w3 ⟨v, rfl, hv, hb3, ha3⟩
  have HV : Hid (NodesV w3 v L) := by rw [HL.out]; exact hv
  have B3 : Hid (Below w.heap.size w w3) := below_step (below_step HB1.out LG.out (below_new w1 _)) LG.out hb3
  have HA : Hid (AdrV _ n w.heap.size v) := ha3.less (below_step HB1.out LG.out (below_new w1 _)).size
  clear hv hb3 ha3
  go_wp2
  go_ret
  exact ⟨v, rfl, HV.out, B3.out, HA.out⟩

set_option maxRecDepth 100000 in
set_option maxHeartbeats 4000000 in
theorem rdo_1py (l : List NodeT) (a1 a2 c1 c2 e1 e2 : Int) (s t : ByteArray) (a : Option Addr) (n c j : Nat) (w : World) (hn : n ≤ 65535) (HI : Hid (NodesAt w a n l)) (HR : Hid (FindE l (c1, c2) (j : Int))) (hj : j < n) (hx : ¬ e1 = 0) (r2 : Int) (HR2 : Hid (FindE l (e1, e2) r2)) :
    Calls Tryz.prog 48 #[.slice a n c, .agg #[.int .i64 1, .int .i64 a1, .int .i64 a2, .int .i64 c1, .int .i64 c2, .int .i64 e1, .int .i64 e2, .string s, .string t]] w fun e w' => ∃ v, e = .returned v ∧ NodesV w' v (l) ∧ Below w.heap.size w w' ∧ AdrV a n w.heap.size v := by
  have hln : l.length = n := HI.out.1
  have HLN : Hid (l.length = n) := hln
  clear hln
  have j0 : (j : Int) < (n : Int) := by omega
  have j1 : ¬ ((j : Int) < 0) := by omega
  have j2 : decide ((j : Int) < 0) = false := by simp
  have j3 : decide ((0 : Int) ≤ (j : Int)) = true := by simp
  have gx : (e1 == 0) = false := by rw [beq_eq_false_iff_ne]; exact hx
  obtain ⟨Y, hY⟩ : ∃ Y, Y = nL l j := ⟨_, rfl⟩
  obtain ⟨⟨m1, m2⟩, ⟨m3, m4⟩, m5, m6⟩ := Y
  obtain ⟨L, HL⟩ : ∃ L, Hid (L = l) := ⟨_, rfl⟩
  show Calls _ _ _ _ fun e w' => ∃ v, e = .returned v ∧ NodesV w' v (l) ∧ Below w.heap.size w w' ∧ AdrV a n w.heap.size v
  rw [← HL.out]
  have HYY : Hid (((m1, m2), (m3, m4), m5, m6) = nL l j) := hY
  clear hY
  go_enter Tryz.func48, Tryz.ntmps48
  go_wp2_with fail
  generalize hq : World.alloc w _ = w0
  have hb0 : Hid (Below w.heap.size w w0) := by rw [← hq]; exact below_new w _
  have G0 : Hid (Blk w0 56 w.heap.size #[.int .i64 1, .int .i64 a1, .int .i64 a2, .int .i64 c1, .int .i64 c2, .int .i64 e1, .int .i64 e2, .string s, .string t]) := by show Blk _ _ _ _; rw [← hq]; exact Blk.new _ _ _
  have N0 : Hid (NodesAt w0 a n l) := HI.out.below hb0.out
  obtain ⟨g, hg⟩ : ∃ g, g = w.heap.size := ⟨_, rfl⟩
  rw [← hg] at G0 ⊢
  have LG : Hid (w.heap.size ≤ w.heap.size) := Nat.le_refl _
  clear hq HI hg
  refine (rfind_any l (c1, c2) (j : Int) HR.out a n c w0 (by omega) N0.out).mono ?_
  rintro e w1 ⟨rfl, hb1⟩
  have HB1 : Hid (Below w.heap.size w w1) := below_step hb0.out LG.out hb1
  have G1 : Hid (Blk w1 56 g #[.int .i64 1, .int .i64 a1, .int .i64 a2, .int .i64 c1, .int .i64 c2, .int .i64 e1, .int .i64 e2, .string s, .string t]) := G0.out.on hb1
  have N1 : Hid (NodesAt w1 a n l) := N0.out.below hb1
  clear hb1 hb0 G0 N0 HR
  have g5 : w1.cell? ⟨g, 5, none⟩ = some (.int .i64 e1) := G1.out.cell 5
  have g6 : w1.cell? ⟨g, 6, none⟩ = some (.int .i64 e2) := G1.out.cell 6
  have f0 : ∀ o, (w1.alloc o).cell? ⟨g, 0, none⟩ = some (.int .i64 1) := fun o => (G1.out.alloc o).cell 0
  have f3 : ∀ o, (w1.alloc o).cell? ⟨g, 3, none⟩ = some (.int .i64 c1) := fun o => (G1.out.alloc o).cell 3
  have f4 : ∀ o, (w1.alloc o).cell? ⟨g, 4, none⟩ = some (.int .i64 c2) := fun o => (G1.out.alloc o).cell 4
  have f7 : ∀ o, (w1.alloc o).cell? ⟨g, 7, none⟩ = some (.string s) := fun o => (G1.out.alloc o).cell 7
  have f8 : ∀ o, (w1.alloc o).cell? ⟨g, 8, none⟩ = some (.string t) := fun o => (G1.out.alloc o).cell 8
  obtain ⟨b, off, rfl, _⟩ := N1.out.2.some (by omega)
  obtain ⟨q0, q1, q2, q3, q4, q5⟩ := N1.out.cells j hj
  rw [← HYY.out] at q0 q1 q2 q3 q4 q5
  have n0 : ∀ o, (w1.alloc o).cell? ⟨b, off + j * 6, none⟩ = some (.int .i64 m1) := fun o => by rw [(below_new w1 o).cell (World.block_lt_of_cell? w1 _ q0)]; exact q0
  have n1 : ∀ o, (w1.alloc o).cell? ⟨b, off + j * 6 + 1, none⟩ = some (.int .i64 m2) := fun o => by rw [(below_new w1 o).cell (World.block_lt_of_cell? w1 _ q1)]; exact q1
  have n2 : ∀ o, (w1.alloc o).cell? ⟨b, off + j * 6 + 2, none⟩ = some (.int .i64 m3) := fun o => by rw [(below_new w1 o).cell (World.block_lt_of_cell? w1 _ q2)]; exact q2
  have n3 : ∀ o, (w1.alloc o).cell? ⟨b, off + j * 6 + 3, none⟩ = some (.int .i64 m4) := fun o => by rw [(below_new w1 o).cell (World.block_lt_of_cell? w1 _ q3)]; exact q3
  have n4 : ∀ o, (w1.alloc o).cell? ⟨b, off + j * 6 + 4, none⟩ = some (.string m5) := fun o => by rw [(below_new w1 o).cell (World.block_lt_of_cell? w1 _ q4)]; exact q4
  have n5 : ∀ o, (w1.alloc o).cell? ⟨b, off + j * 6 + 5, none⟩ = some (.string m6) := fun o => by rw [(below_new w1 o).cell (World.block_lt_of_cell? w1 _ q5)]; exact q5
  go_wp2_with fail
  refine (rfind_any l (e1, e2) r2 HR2.out (some ⟨b, off, none⟩) n c _ (by omega) (N1.out.below (below_new _ _))).mono ?_
  rintro e w2 ⟨rfl, hb2⟩
  have hbw : Hid (Below w1.heap.size w1 w2) := below_step (below_new w1 _) (Nat.le_refl _) hb2
  have P2 : Hid (Blk w2 36 w1.heap.size #[.int .i64 e1, .int .i64 e2]) := (Blk.new w1 _ _).on hb2
  have G2 := G1.out.on hbw.out
  have f0' : w2.cell? ⟨g, 0, none⟩ = some (.int .i64 1) := G2.cell 0
  have f0'' : ∀ o, (w2.alloc o).cell? ⟨g, 0, none⟩ = some (.int .i64 1) := fun o => (G2.alloc o).cell 0
  have f3' : w2.cell? ⟨g, 3, none⟩ = some (.int .i64 c1) := G2.cell 3
  have f3'' : ∀ o, (w2.alloc o).cell? ⟨g, 3, none⟩ = some (.int .i64 c1) := fun o => (G2.alloc o).cell 3
  have f4' : w2.cell? ⟨g, 4, none⟩ = some (.int .i64 c2) := G2.cell 4
  have f4'' : ∀ o, (w2.alloc o).cell? ⟨g, 4, none⟩ = some (.int .i64 c2) := fun o => (G2.alloc o).cell 4
  have f7' : w2.cell? ⟨g, 7, none⟩ = some (.string s) := G2.cell 7
  have f7'' : ∀ o, (w2.alloc o).cell? ⟨g, 7, none⟩ = some (.string s) := fun o => (G2.alloc o).cell 7
  have f8' : w2.cell? ⟨g, 8, none⟩ = some (.string t) := G2.cell 8
  have f8'' : ∀ o, (w2.alloc o).cell? ⟨g, 8, none⟩ = some (.string t) := fun o => (G2.alloc o).cell 8
  have p0 : w2.cell? ⟨w1.heap.size, 0, none⟩ = some (.int .i64 e1) := P2.out.cell 0
  have p1 : w2.cell? ⟨w1.heap.size, 1, none⟩ = some (.int .i64 e2) := P2.out.cell 1
  have p0' : ∀ o, (w2.alloc o).cell? ⟨w1.heap.size, 0, none⟩ = some (.int .i64 e1) := fun o => (P2.out.alloc o).cell 0
  have p1' : ∀ o, (w2.alloc o).cell? ⟨w1.heap.size, 1, none⟩ = some (.int .i64 e2) := fun o => (P2.out.alloc o).cell 1
  have n0' : w2.cell? ⟨b, off + j * 6, none⟩ = some (.int .i64 m1) := by rw [hbw.out.cell (World.block_lt_of_cell? w1 _ q0)]; exact q0
  have n1' : w2.cell? ⟨b, off + j * 6 + 1, none⟩ = some (.int .i64 m2) := by rw [hbw.out.cell (World.block_lt_of_cell? w1 _ q1)]; exact q1
  have n2' : w2.cell? ⟨b, off + j * 6 + 2, none⟩ = some (.int .i64 m3) := by rw [hbw.out.cell (World.block_lt_of_cell? w1 _ q2)]; exact q2
  have n3' : w2.cell? ⟨b, off + j * 6 + 3, none⟩ = some (.int .i64 m4) := by rw [hbw.out.cell (World.block_lt_of_cell? w1 _ q3)]; exact q3
  have n4' : w2.cell? ⟨b, off + j * 6 + 4, none⟩ = some (.string m5) := by rw [hbw.out.cell (World.block_lt_of_cell? w1 _ q4)]; exact q4
  have n5' : w2.cell? ⟨b, off + j * 6 + 5, none⟩ = some (.string m6) := by rw [hbw.out.cell (World.block_lt_of_cell? w1 _ q5)]; exact q5
  clear hb2 G2
  go_wp2
  go_ret
  exact ⟨.slice (some ⟨b, off, none⟩) n c, rfl, by rw [HL.out]; exact ⟨_, _, by rw [HLN.out], by rw [HLN.out]; exact N1.out.below hbw.out⟩, below_step HB1.out LG.out hbw.out, adr_same⟩

set_option maxRecDepth 100000 in
set_option maxHeartbeats 4000000 in
theorem rdo_1pn (l : List NodeT) (a1 a2 c1 c2 e1 e2 : Int) (s t : ByteArray) (a : Option Addr) (n c : Nat) (w : World) (hn : n ≤ 65535) (HI : Hid (NodesAt w a n l)) (HR : Hid (FindE l (c1, c2) (-1))) (hx : ¬ e1 = 0) (r2 : Int) (HR2 : Hid (FindE l (e1, e2) r2)) (hr2 : 0 ≤ r2) :
    Calls Tryz.prog 48 #[.slice a n c, .agg #[.int .i64 1, .int .i64 a1, .int .i64 a2, .int .i64 c1, .int .i64 c2, .int .i64 e1, .int .i64 e2, .string s, .string t]] w fun e w' => ∃ v, e = .returned v ∧ NodesV w' v (withP l ((c1, c2), (e1, e2), s, ⟨#[]⟩)) ∧ Below w.heap.size w w' ∧ AdrV a n w.heap.size v := by
  have hln : l.length = n := HI.out.1
  have HLN : Hid (l.length = n) := hln
  clear hln
  have gx : (e1 == 0) = false := by rw [beq_eq_false_iff_ne]; exact hx
  have gr2 : decide (0 ≤ r2) = true := by simp; exact hr2
  obtain ⟨L, HL⟩ : ∃ L, Hid (L = withP l ((c1, c2), (e1, e2), s, ⟨#[]⟩)) := ⟨_, rfl⟩
  show Calls _ _ _ _ fun e w' => ∃ v, e = .returned v ∧ NodesV w' v (withP l ((c1, c2), (e1, e2), s, ⟨#[]⟩)) ∧ Below w.heap.size w w' ∧ AdrV a n w.heap.size v
  rw [← HL.out]
  go_enter Tryz.func48, Tryz.ntmps48
  go_wp2_with fail
  generalize hq : World.alloc w _ = w0
  have hb0 : Hid (Below w.heap.size w w0) := by rw [← hq]; exact below_new w _
  have G0 : Hid (Blk w0 56 w.heap.size #[.int .i64 1, .int .i64 a1, .int .i64 a2, .int .i64 c1, .int .i64 c2, .int .i64 e1, .int .i64 e2, .string s, .string t]) := by show Blk _ _ _ _; rw [← hq]; exact Blk.new _ _ _
  have N0 : Hid (NodesAt w0 a n l) := HI.out.below hb0.out
  obtain ⟨g, hg⟩ : ∃ g, g = w.heap.size := ⟨_, rfl⟩
  rw [← hg] at G0 ⊢
  have LG : Hid (w.heap.size ≤ w.heap.size) := Nat.le_refl _
  clear hq HI hg
  refine (rfind_any l (c1, c2) (-1) HR.out a n c w0 (by omega) N0.out).mono ?_
  rintro e w1 ⟨rfl, hb1⟩
  have HB1 : Hid (Below w.heap.size w w1) := below_step hb0.out LG.out hb1
  have G1 : Hid (Blk w1 56 g #[.int .i64 1, .int .i64 a1, .int .i64 a2, .int .i64 c1, .int .i64 c2, .int .i64 e1, .int .i64 e2, .string s, .string t]) := G0.out.on hb1
  have N1 : Hid (NodesAt w1 a n l) := N0.out.below hb1
  clear hb1 hb0 G0 N0 HR
  have g5 : w1.cell? ⟨g, 5, none⟩ = some (.int .i64 e1) := G1.out.cell 5
  have g6 : w1.cell? ⟨g, 6, none⟩ = some (.int .i64 e2) := G1.out.cell 6
  have f0 : ∀ o, (w1.alloc o).cell? ⟨g, 0, none⟩ = some (.int .i64 1) := fun o => (G1.out.alloc o).cell 0
  have f3 : ∀ o, (w1.alloc o).cell? ⟨g, 3, none⟩ = some (.int .i64 c1) := fun o => (G1.out.alloc o).cell 3
  have f4 : ∀ o, (w1.alloc o).cell? ⟨g, 4, none⟩ = some (.int .i64 c2) := fun o => (G1.out.alloc o).cell 4
  have f7 : ∀ o, (w1.alloc o).cell? ⟨g, 7, none⟩ = some (.string s) := fun o => (G1.out.alloc o).cell 7
  have f8 : ∀ o, (w1.alloc o).cell? ⟨g, 8, none⟩ = some (.string t) := fun o => (G1.out.alloc o).cell 8
  go_wp2_with fail
  refine (rfind_any l (e1, e2) r2 HR2.out a n c _ (by omega) (N1.out.below (below_new _ _))).mono ?_
  rintro e w2 ⟨rfl, hb2⟩
  have hbw : Hid (Below w1.heap.size w1 w2) := below_step (below_new w1 _) (Nat.le_refl _) hb2
  have P2 : Hid (Blk w2 36 w1.heap.size #[.int .i64 e1, .int .i64 e2]) := (Blk.new w1 _ _).on hb2
  have G2 := G1.out.on hbw.out
  have f0' : w2.cell? ⟨g, 0, none⟩ = some (.int .i64 1) := G2.cell 0
  have f0'' : ∀ o, (w2.alloc o).cell? ⟨g, 0, none⟩ = some (.int .i64 1) := fun o => (G2.alloc o).cell 0
  have f3' : w2.cell? ⟨g, 3, none⟩ = some (.int .i64 c1) := G2.cell 3
  have f3'' : ∀ o, (w2.alloc o).cell? ⟨g, 3, none⟩ = some (.int .i64 c1) := fun o => (G2.alloc o).cell 3
  have f4' : w2.cell? ⟨g, 4, none⟩ = some (.int .i64 c2) := G2.cell 4
  have f4'' : ∀ o, (w2.alloc o).cell? ⟨g, 4, none⟩ = some (.int .i64 c2) := fun o => (G2.alloc o).cell 4
  have f7' : w2.cell? ⟨g, 7, none⟩ = some (.string s) := G2.cell 7
  have f7'' : ∀ o, (w2.alloc o).cell? ⟨g, 7, none⟩ = some (.string s) := fun o => (G2.alloc o).cell 7
  have f8' : w2.cell? ⟨g, 8, none⟩ = some (.string t) := G2.cell 8
  have f8'' : ∀ o, (w2.alloc o).cell? ⟨g, 8, none⟩ = some (.string t) := fun o => (G2.alloc o).cell 8
  have p0 : w2.cell? ⟨w1.heap.size, 0, none⟩ = some (.int .i64 e1) := P2.out.cell 0
  have p1 : w2.cell? ⟨w1.heap.size, 1, none⟩ = some (.int .i64 e2) := P2.out.cell 1
  have p0' : ∀ o, (w2.alloc o).cell? ⟨w1.heap.size, 0, none⟩ = some (.int .i64 e1) := fun o => (P2.out.alloc o).cell 0
  have p1' : ∀ o, (w2.alloc o).cell? ⟨w1.heap.size, 1, none⟩ = some (.int .i64 e2) := fun o => (P2.out.alloc o).cell 1
  clear hb2 G2
  go_wp2_with fail
  refine (rwithV l ((c1, c2), (e1, e2), s, ⟨#[]⟩) a n c _ (by omega) (N1.out.below hbw.out)).mono ?_
  rintro e w3 ⟨v, rfl, hv, hb3, ha3⟩
  have HV : Hid (NodesV w3 v L) := by rw [HL.out]; exact hv
  have B3 : Hid (Below w.heap.size w w3) := below_step (below_step HB1.out LG.out hbw.out) LG.out hb3
  have HA : Hid (AdrV _ n w.heap.size v) := ha3.less (below_step HB1.out LG.out hbw.out).size
  clear hv hb3 ha3
  go_wp2
  go_ret
  exact ⟨v, rfl, HV.out, B3.out, HA.out⟩

set_option maxRecDepth 100000 in
set_option maxHeartbeats 4000000 in
theorem rdo_1pf (l : List NodeT) (a1 a2 c1 c2 e1 e2 : Int) (s t : ByteArray) (a : Option Addr) (n c : Nat) (w : World) (hn : n ≤ 65535) (HI : Hid (NodesAt w a n l)) (HR : Hid (FindE l (c1, c2) (-1))) (hx : ¬ e1 = 0) (r2 : Int) (HR2 : Hid (FindE l (e1, e2) r2)) (hr2 : r2 < 0) :
    Calls Tryz.prog 48 #[.slice a n c, .agg #[.int .i64 1, .int .i64 a1, .int .i64 a2, .int .i64 c1, .int .i64 c2, .int .i64 e1, .int .i64 e2, .string s, .string t]] w fun e w' => ∃ v, e = .returned v ∧ NodesV w' v (l) ∧ Below w.heap.size w w' ∧ AdrV a n w.heap.size v := by
  have hln : l.length = n := HI.out.1
  have HLN : Hid (l.length = n) := hln
  clear hln
  have gx : (e1 == 0) = false := by rw [beq_eq_false_iff_ne]; exact hx
  have gr2 : decide (0 ≤ r2) = false := by simp; exact hr2
  obtain ⟨L, HL⟩ : ∃ L, Hid (L = l) := ⟨_, rfl⟩
  show Calls _ _ _ _ fun e w' => ∃ v, e = .returned v ∧ NodesV w' v (l) ∧ Below w.heap.size w w' ∧ AdrV a n w.heap.size v
  rw [← HL.out]
  go_enter Tryz.func48, Tryz.ntmps48
  go_wp2_with fail
  generalize hq : World.alloc w _ = w0
  have hb0 : Hid (Below w.heap.size w w0) := by rw [← hq]; exact below_new w _
  have G0 : Hid (Blk w0 56 w.heap.size #[.int .i64 1, .int .i64 a1, .int .i64 a2, .int .i64 c1, .int .i64 c2, .int .i64 e1, .int .i64 e2, .string s, .string t]) := by show Blk _ _ _ _; rw [← hq]; exact Blk.new _ _ _
  have N0 : Hid (NodesAt w0 a n l) := HI.out.below hb0.out
  obtain ⟨g, hg⟩ : ∃ g, g = w.heap.size := ⟨_, rfl⟩
  rw [← hg] at G0 ⊢
  have LG : Hid (w.heap.size ≤ w.heap.size) := Nat.le_refl _
  clear hq HI hg
  refine (rfind_any l (c1, c2) (-1) HR.out a n c w0 (by omega) N0.out).mono ?_
  rintro e w1 ⟨rfl, hb1⟩
  have HB1 : Hid (Below w.heap.size w w1) := below_step hb0.out LG.out hb1
  have G1 : Hid (Blk w1 56 g #[.int .i64 1, .int .i64 a1, .int .i64 a2, .int .i64 c1, .int .i64 c2, .int .i64 e1, .int .i64 e2, .string s, .string t]) := G0.out.on hb1
  have N1 : Hid (NodesAt w1 a n l) := N0.out.below hb1
  clear hb1 hb0 G0 N0 HR
  have g5 : w1.cell? ⟨g, 5, none⟩ = some (.int .i64 e1) := G1.out.cell 5
  have g6 : w1.cell? ⟨g, 6, none⟩ = some (.int .i64 e2) := G1.out.cell 6
  have f0 : ∀ o, (w1.alloc o).cell? ⟨g, 0, none⟩ = some (.int .i64 1) := fun o => (G1.out.alloc o).cell 0
  have f3 : ∀ o, (w1.alloc o).cell? ⟨g, 3, none⟩ = some (.int .i64 c1) := fun o => (G1.out.alloc o).cell 3
  have f4 : ∀ o, (w1.alloc o).cell? ⟨g, 4, none⟩ = some (.int .i64 c2) := fun o => (G1.out.alloc o).cell 4
  have f7 : ∀ o, (w1.alloc o).cell? ⟨g, 7, none⟩ = some (.string s) := fun o => (G1.out.alloc o).cell 7
  have f8 : ∀ o, (w1.alloc o).cell? ⟨g, 8, none⟩ = some (.string t) := fun o => (G1.out.alloc o).cell 8
  go_wp2_with fail
  refine (rfind_any l (e1, e2) r2 HR2.out a n c _ (by omega) (N1.out.below (below_new _ _))).mono ?_
  rintro e w2 ⟨rfl, hb2⟩
  have hbw : Hid (Below w1.heap.size w1 w2) := below_step (below_new w1 _) (Nat.le_refl _) hb2
  have P2 : Hid (Blk w2 36 w1.heap.size #[.int .i64 e1, .int .i64 e2]) := (Blk.new w1 _ _).on hb2
  have G2 := G1.out.on hbw.out
  have f0' : w2.cell? ⟨g, 0, none⟩ = some (.int .i64 1) := G2.cell 0
  have f0'' : ∀ o, (w2.alloc o).cell? ⟨g, 0, none⟩ = some (.int .i64 1) := fun o => (G2.alloc o).cell 0
  have f3' : w2.cell? ⟨g, 3, none⟩ = some (.int .i64 c1) := G2.cell 3
  have f3'' : ∀ o, (w2.alloc o).cell? ⟨g, 3, none⟩ = some (.int .i64 c1) := fun o => (G2.alloc o).cell 3
  have f4' : w2.cell? ⟨g, 4, none⟩ = some (.int .i64 c2) := G2.cell 4
  have f4'' : ∀ o, (w2.alloc o).cell? ⟨g, 4, none⟩ = some (.int .i64 c2) := fun o => (G2.alloc o).cell 4
  have f7' : w2.cell? ⟨g, 7, none⟩ = some (.string s) := G2.cell 7
  have f7'' : ∀ o, (w2.alloc o).cell? ⟨g, 7, none⟩ = some (.string s) := fun o => (G2.alloc o).cell 7
  have f8' : w2.cell? ⟨g, 8, none⟩ = some (.string t) := G2.cell 8
  have f8'' : ∀ o, (w2.alloc o).cell? ⟨g, 8, none⟩ = some (.string t) := fun o => (G2.alloc o).cell 8
  have p0 : w2.cell? ⟨w1.heap.size, 0, none⟩ = some (.int .i64 e1) := P2.out.cell 0
  have p1 : w2.cell? ⟨w1.heap.size, 1, none⟩ = some (.int .i64 e2) := P2.out.cell 1
  have p0' : ∀ o, (w2.alloc o).cell? ⟨w1.heap.size, 0, none⟩ = some (.int .i64 e1) := fun o => (P2.out.alloc o).cell 0
  have p1' : ∀ o, (w2.alloc o).cell? ⟨w1.heap.size, 1, none⟩ = some (.int .i64 e2) := fun o => (P2.out.alloc o).cell 1
  clear hb2 G2
  go_wp2
  go_ret
  exact ⟨.slice a n c, rfl, by rw [HL.out]; exact ⟨_, _, by rw [HLN.out], by rw [HLN.out]; exact N1.out.below hbw.out⟩, below_step HB1.out LG.out hbw.out, adr_same⟩

set_option maxRecDepth 100000 in
set_option maxHeartbeats 4000000 in
theorem rdo_3xy (l : List NodeT) (a1 a2 c1 c2 e2 : Int) (s t : ByteArray) (a : Option Addr) (n c j : Nat) (w : World) (hn : n ≤ 65535) (HI : Hid (NodesAt w a n l)) (HR : Hid (FindE l (c1, c2) (j : Int))) (hj : j < n) :
    Calls Tryz.prog 48 #[.slice a n c, .agg #[.int .i64 3, .int .i64 a1, .int .i64 a2, .int .i64 c1, .int .i64 c2, .int .i64 0, .int .i64 e2, .string s, .string t]] w fun e w' => ∃ v, e = .returned v ∧ NodesV w' v (withP l ((nL l j).1, (nL l j).2.1, s, (nL l j).2.2.2)) ∧ Below w.heap.size w w' ∧ AdrV a n w.heap.size v := by
  have hln : l.length = n := HI.out.1
  have HLN : Hid (l.length = n) := hln
  clear hln
  have j0 : (j : Int) < (n : Int) := by omega
  have j1 : ¬ ((j : Int) < 0) := by omega
  have j2 : decide ((j : Int) < 0) = false := by simp
  have j3 : decide ((0 : Int) ≤ (j : Int)) = true := by simp
  obtain ⟨Y, hY⟩ : ∃ Y, Y = nL l j := ⟨_, rfl⟩
  rw [← hY]
  obtain ⟨⟨m1, m2⟩, ⟨m3, m4⟩, m5, m6⟩ := Y
  obtain ⟨L, HL⟩ : ∃ L, Hid (L = withP l ((m1, m2), (m3, m4), s, m6)) := ⟨_, rfl⟩
  show Calls _ _ _ _ fun e w' => ∃ v, e = .returned v ∧ NodesV w' v (withP l ((m1, m2), (m3, m4), s, m6)) ∧ Below w.heap.size w w' ∧ AdrV a n w.heap.size v
  rw [← HL.out]
  have HYY : Hid (((m1, m2), (m3, m4), m5, m6) = nL l j) := hY
  clear hY
  go_enter Tryz.func48, Tryz.ntmps48
  go_wp2_with fail
  generalize hq : World.alloc w _ = w0
  have hb0 : Hid (Below w.heap.size w w0) := by rw [← hq]; exact below_new w _
  have G0 : Hid (Blk w0 56 w.heap.size #[.int .i64 3, .int .i64 a1, .int .i64 a2, .int .i64 c1, .int .i64 c2, .int .i64 0, .int .i64 e2, .string s, .string t]) := by show Blk _ _ _ _; rw [← hq]; exact Blk.new _ _ _
  have N0 : Hid (NodesAt w0 a n l) := HI.out.below hb0.out
  obtain ⟨g, hg⟩ : ∃ g, g = w.heap.size := ⟨_, rfl⟩
  rw [← hg] at G0 ⊢
  have LG : Hid (w.heap.size ≤ w.heap.size) := Nat.le_refl _
  clear hq HI hg
  refine (rfind_any l (c1, c2) (j : Int) HR.out a n c w0 (by omega) N0.out).mono ?_
  rintro e w1 ⟨rfl, hb1⟩
  have HB1 : Hid (Below w.heap.size w w1) := below_step hb0.out LG.out hb1
  have G1 : Hid (Blk w1 56 g #[.int .i64 3, .int .i64 a1, .int .i64 a2, .int .i64 c1, .int .i64 c2, .int .i64 0, .int .i64 e2, .string s, .string t]) := G0.out.on hb1
  have N1 : Hid (NodesAt w1 a n l) := N0.out.below hb1
  clear hb1 hb0 G0 N0 HR
  have g5 : w1.cell? ⟨g, 5, none⟩ = some (.int .i64 0) := G1.out.cell 5
  have g6 : w1.cell? ⟨g, 6, none⟩ = some (.int .i64 e2) := G1.out.cell 6
  have f0 : ∀ o, (w1.alloc o).cell? ⟨g, 0, none⟩ = some (.int .i64 3) := fun o => (G1.out.alloc o).cell 0
  have f3 : ∀ o, (w1.alloc o).cell? ⟨g, 3, none⟩ = some (.int .i64 c1) := fun o => (G1.out.alloc o).cell 3
  have f4 : ∀ o, (w1.alloc o).cell? ⟨g, 4, none⟩ = some (.int .i64 c2) := fun o => (G1.out.alloc o).cell 4
  have f7 : ∀ o, (w1.alloc o).cell? ⟨g, 7, none⟩ = some (.string s) := fun o => (G1.out.alloc o).cell 7
  have f8 : ∀ o, (w1.alloc o).cell? ⟨g, 8, none⟩ = some (.string t) := fun o => (G1.out.alloc o).cell 8
  obtain ⟨b, off, rfl, _⟩ := N1.out.2.some (by omega)
  obtain ⟨q0, q1, q2, q3, q4, q5⟩ := N1.out.cells j hj
  rw [← HYY.out] at q0 q1 q2 q3 q4 q5
  have n0 : ∀ o, (w1.alloc o).cell? ⟨b, off + j * 6, none⟩ = some (.int .i64 m1) := fun o => by rw [(below_new w1 o).cell (World.block_lt_of_cell? w1 _ q0)]; exact q0
  have n1 : ∀ o, (w1.alloc o).cell? ⟨b, off + j * 6 + 1, none⟩ = some (.int .i64 m2) := fun o => by rw [(below_new w1 o).cell (World.block_lt_of_cell? w1 _ q1)]; exact q1
  have n2 : ∀ o, (w1.alloc o).cell? ⟨b, off + j * 6 + 2, none⟩ = some (.int .i64 m3) := fun o => by rw [(below_new w1 o).cell (World.block_lt_of_cell? w1 _ q2)]; exact q2
  have n3 : ∀ o, (w1.alloc o).cell? ⟨b, off + j * 6 + 3, none⟩ = some (.int .i64 m4) := fun o => by rw [(below_new w1 o).cell (World.block_lt_of_cell? w1 _ q3)]; exact q3
  have n4 : ∀ o, (w1.alloc o).cell? ⟨b, off + j * 6 + 4, none⟩ = some (.string m5) := fun o => by rw [(below_new w1 o).cell (World.block_lt_of_cell? w1 _ q4)]; exact q4
  have n5 : ∀ o, (w1.alloc o).cell? ⟨b, off + j * 6 + 5, none⟩ = some (.string m6) := fun o => by rw [(below_new w1 o).cell (World.block_lt_of_cell? w1 _ q5)]; exact q5
  have f0' : ∀ o o', ((w1.alloc o).alloc o').cell? ⟨g, 0, none⟩ = some (.int .i64 3) := fun o o' => ((G1.out.alloc o).alloc o').cell 0
  have f3' : ∀ o o', ((w1.alloc o).alloc o').cell? ⟨g, 3, none⟩ = some (.int .i64 c1) := fun o o' => ((G1.out.alloc o).alloc o').cell 3
  have f4' : ∀ o o', ((w1.alloc o).alloc o').cell? ⟨g, 4, none⟩ = some (.int .i64 c2) := fun o o' => ((G1.out.alloc o).alloc o').cell 4
  have f7' : ∀ o o', ((w1.alloc o).alloc o').cell? ⟨g, 7, none⟩ = some (.string s) := fun o o' => ((G1.out.alloc o).alloc o').cell 7
  have f8' : ∀ o o', ((w1.alloc o).alloc o').cell? ⟨g, 8, none⟩ = some (.string t) := fun o o' => ((G1.out.alloc o).alloc o').cell 8
  go_wp2_with fail
  refine (rwithV l ((m1, m2), (m3, m4), s, m6) (some ⟨b, off, none⟩) n c _ (by omega) (N1.out.below (below_step (below_new w1 _) (Nat.le_refl _) (below_new _ _)))).mono ?_
  rintro e w3 ⟨v, rfl, hv, hb3, ha3⟩
  have HV : Hid (NodesV w3 v L) := by rw [HL.out]; exact hv
  have B3 : Hid (Below w.heap.size w w3) := below_step (below_step HB1.out LG.out (below_step (below_new w1 _) (Nat.le_refl _) (below_new _ _))) LG.out hb3
  have HA : Hid (AdrV _ n w.heap.size v) := ha3.less (below_step HB1.out LG.out (below_step (below_new w1 _) (Nat.le_refl _) (below_new _ _))).size
  clear hv hb3 ha3
  go_wp2
  go_ret
  exact ⟨v, rfl, HV.out, B3.out, HA.out⟩

set_option maxRecDepth 100000 in
set_option maxHeartbeats 4000000 in
theorem rdo_3xn (l : List NodeT) (a1 a2 c1 c2 e2 : Int) (s t : ByteArray) (a : Option Addr) (n c : Nat) (w : World) (hn : n ≤ 65535) (HI : Hid (NodesAt w a n l)) (HR : Hid (FindE l (c1, c2) (-1))) :
    Calls Tryz.prog 48 #[.slice a n c, .agg #[.int .i64 3, .int .i64 a1, .int .i64 a2, .int .i64 c1, .int .i64 c2, .int .i64 0, .int .i64 e2, .string s, .string t]] w fun e w' => ∃ v, e = .returned v ∧ NodesV w' v (l) ∧ Below w.heap.size w w' ∧ AdrV a n w.heap.size v := by
  have hln : l.length = n := HI.out.1
  have HLN : Hid (l.length = n) := hln
  clear hln
  obtain ⟨L, HL⟩ : ∃ L, Hid (L = l) := ⟨_, rfl⟩
  show Calls _ _ _ _ fun e w' => ∃ v, e = .returned v ∧ NodesV w' v (l) ∧ Below w.heap.size w w' ∧ AdrV a n w.heap.size v
  rw [← HL.out]
  go_enter Tryz.func48, Tryz.ntmps48
  go_wp2_with fail
  generalize hq : World.alloc w _ = w0
  have hb0 : Hid (Below w.heap.size w w0) := by rw [← hq]; exact below_new w _
  have G0 : Hid (Blk w0 56 w.heap.size #[.int .i64 3, .int .i64 a1, .int .i64 a2, .int .i64 c1, .int .i64 c2, .int .i64 0, .int .i64 e2, .string s, .string t]) := by show Blk _ _ _ _; rw [← hq]; exact Blk.new _ _ _
  have N0 : Hid (NodesAt w0 a n l) := HI.out.below hb0.out
  obtain ⟨g, hg⟩ : ∃ g, g = w.heap.size := ⟨_, rfl⟩
  rw [← hg] at G0 ⊢
  have LG : Hid (w.heap.size ≤ w.heap.size) := Nat.le_refl _
  clear hq HI hg
  refine (rfind_any l (c1, c2) (-1) HR.out a n c w0 (by omega) N0.out).mono ?_
  rintro e w1 ⟨rfl, hb1⟩
  have HB1 : Hid (Below w.heap.size w w1) := below_step hb0.out LG.out hb1
  have G1 : Hid (Blk w1 56 g #[.int .i64 3, .int .i64 a1, .int .i64 a2, .int .i64 c1, .int .i64 c2, .int .i64 0, .int .i64 e2, .string s, .string t]) := G0.out.on hb1
  have N1 : Hid (NodesAt w1 a n l) := N0.out.below hb1
  clear hb1 hb0 G0 N0 HR
  have g5 : w1.cell? ⟨g, 5, none⟩ = some (.int .i64 0) := G1.out.cell 5
  have g6 : w1.cell? ⟨g, 6, none⟩ = some (.int .i64 e2) := G1.out.cell 6
  have f0 : ∀ o, (w1.alloc o).cell? ⟨g, 0, none⟩ = some (.int .i64 3) := fun o => (G1.out.alloc o).cell 0
  have f3 : ∀ o, (w1.alloc o).cell? ⟨g, 3, none⟩ = some (.int .i64 c1) := fun o => (G1.out.alloc o).cell 3
  have f4 : ∀ o, (w1.alloc o).cell? ⟨g, 4, none⟩ = some (.int .i64 c2) := fun o => (G1.out.alloc o).cell 4
  have f7 : ∀ o, (w1.alloc o).cell? ⟨g, 7, none⟩ = some (.string s) := fun o => (G1.out.alloc o).cell 7
  have f8 : ∀ o, (w1.alloc o).cell? ⟨g, 8, none⟩ = some (.string t) := fun o => (G1.out.alloc o).cell 8
  have f0' : ∀ o o', ((w1.alloc o).alloc o').cell? ⟨g, 0, none⟩ = some (.int .i64 3) := fun o o' => ((G1.out.alloc o).alloc o').cell 0
  have f3' : ∀ o o', ((w1.alloc o).alloc o').cell? ⟨g, 3, none⟩ = some (.int .i64 c1) := fun o o' => ((G1.out.alloc o).alloc o').cell 3
  have f4' : ∀ o o', ((w1.alloc o).alloc o').cell? ⟨g, 4, none⟩ = some (.int .i64 c2) := fun o o' => ((G1.out.alloc o).alloc o').cell 4
  have f7' : ∀ o o', ((w1.alloc o).alloc o').cell? ⟨g, 7, none⟩ = some (.string s) := fun o o' => ((G1.out.alloc o).alloc o').cell 7
  have f8' : ∀ o o', ((w1.alloc o).alloc o').cell? ⟨g, 8, none⟩ = some (.string t) := fun o o' => ((G1.out.alloc o).alloc o').cell 8
  go_wp2
  go_ret
  exact ⟨.slice a n c, rfl, by rw [HL.out]; exact ⟨_, _, by rw [HLN.out], by rw [HLN.out]; exact N1.out.below (below_new w1 _)⟩, below_step HB1.out LG.out (below_new w1 _), adr_same⟩

set_option maxRecDepth 100000 in
set_option maxHeartbeats 4000000 in
theorem rdo_3py (l : List NodeT) (a1 a2 c1 c2 e1 e2 : Int) (s t : ByteArray) (a : Option Addr) (n c j : Nat) (w : World) (hn : n ≤ 65535) (HI : Hid (NodesAt w a n l)) (HR : Hid (FindE l (c1, c2) (j : Int))) (hj : j < n) (hx : ¬ e1 = 0) (r2 : Int) (HR2 : Hid (FindE l (e1, e2) r2)) :
    Calls Tryz.prog 48 #[.slice a n c, .agg #[.int .i64 3, .int .i64 a1, .int .i64 a2, .int .i64 c1, .int .i64 c2, .int .i64 e1, .int .i64 e2, .string s, .string t]] w fun e w' => ∃ v, e = .returned v ∧ NodesV w' v (withP l ((nL l j).1, (nL l j).2.1, s, (nL l j).2.2.2)) ∧ Below w.heap.size w w' ∧ AdrV a n w.heap.size v := by
  have hln : l.length = n := HI.out.1
  have HLN : Hid (l.length = n) := hln
  clear hln
  have j0 : (j : Int) < (n : Int) := by omega
  have j1 : ¬ ((j : Int) < 0) := by omega
  have j2 : decide ((j : Int) < 0) = false := by simp
  have j3 : decide ((0 : Int) ≤ (j : Int)) = true := by simp
  have gx : (e1 == 0) = false := by rw [beq_eq_false_iff_ne]; exact hx
  obtain ⟨Y, hY⟩ : ∃ Y, Y = nL l j := ⟨_, rfl⟩
  rw [← hY]
  obtain ⟨⟨m1, m2⟩, ⟨m3, m4⟩, m5, m6⟩ := Y
  obtain ⟨L, HL⟩ : ∃ L, Hid (L = withP l ((m1, m2), (m3, m4), s, m6)) := ⟨_, rfl⟩
  show Calls _ _ _ _ fun e w' => ∃ v, e = .returned v ∧ NodesV w' v (withP l ((m1, m2), (m3, m4), s, m6)) ∧ Below w.heap.size w w' ∧ AdrV a n w.heap.size v
  rw [← HL.out]
  have HYY : Hid (((m1, m2), (m3, m4), m5, m6) = nL l j) := hY
  clear hY
  go_enter Tryz.func48, Tryz.ntmps48
  go_wp2_with fail
  generalize hq : World.alloc w _ = w0
  have hb0 : Hid (Below w.heap.size w w0) := by rw [← hq]; exact below_new w _
  have G0 : Hid (Blk w0 56 w.heap.size #[.int .i64 3, .int .i64 a1, .int .i64 a2, .int .i64 c1, .int .i64 c2, .int .i64 e1, .int .i64 e2, .string s, .string t]) := by show Blk _ _ _ _; rw [← hq]; exact Blk.new _ _ _
  have N0 : Hid (NodesAt w0 a n l) := HI.out.below hb0.out
  obtain ⟨g, hg⟩ : ∃ g, g = w.heap.size := ⟨_, rfl⟩
  rw [← hg] at G0 ⊢
  have LG : Hid (w.heap.size ≤ w.heap.size) := Nat.le_refl _
  clear hq HI hg
  refine (rfind_any l (c1, c2) (j : Int) HR.out a n c w0 (by omega) N0.out).mono ?_
  rintro e w1 ⟨rfl, hb1⟩
  have HB1 : Hid (Below w.heap.size w w1) := below_step hb0.out LG.out hb1
  have G1 : Hid (Blk w1 56 g #[.int .i64 3, .int .i64 a1, .int .i64 a2, .int .i64 c1, .int .i64 c2, .int .i64 e1, .int .i64 e2, .string s, .string t]) := G0.out.on hb1
  have N1 : Hid (NodesAt w1 a n l) := N0.out.below hb1
  clear hb1 hb0 G0 N0 HR
  have g5 : w1.cell? ⟨g, 5, none⟩ = some (.int .i64 e1) := G1.out.cell 5
  have g6 : w1.cell? ⟨g, 6, none⟩ = some (.int .i64 e2) := G1.out.cell 6
  have f0 : ∀ o, (w1.alloc o).cell? ⟨g, 0, none⟩ = some (.int .i64 3) := fun o => (G1.out.alloc o).cell 0
  have f3 : ∀ o, (w1.alloc o).cell? ⟨g, 3, none⟩ = some (.int .i64 c1) := fun o => (G1.out.alloc o).cell 3
  have f4 : ∀ o, (w1.alloc o).cell? ⟨g, 4, none⟩ = some (.int .i64 c2) := fun o => (G1.out.alloc o).cell 4
  have f7 : ∀ o, (w1.alloc o).cell? ⟨g, 7, none⟩ = some (.string s) := fun o => (G1.out.alloc o).cell 7
  have f8 : ∀ o, (w1.alloc o).cell? ⟨g, 8, none⟩ = some (.string t) := fun o => (G1.out.alloc o).cell 8
  obtain ⟨b, off, rfl, _⟩ := N1.out.2.some (by omega)
  obtain ⟨q0, q1, q2, q3, q4, q5⟩ := N1.out.cells j hj
  rw [← HYY.out] at q0 q1 q2 q3 q4 q5
  have n0 : ∀ o, (w1.alloc o).cell? ⟨b, off + j * 6, none⟩ = some (.int .i64 m1) := fun o => by rw [(below_new w1 o).cell (World.block_lt_of_cell? w1 _ q0)]; exact q0
  have n1 : ∀ o, (w1.alloc o).cell? ⟨b, off + j * 6 + 1, none⟩ = some (.int .i64 m2) := fun o => by rw [(below_new w1 o).cell (World.block_lt_of_cell? w1 _ q1)]; exact q1
  have n2 : ∀ o, (w1.alloc o).cell? ⟨b, off + j * 6 + 2, none⟩ = some (.int .i64 m3) := fun o => by rw [(below_new w1 o).cell (World.block_lt_of_cell? w1 _ q2)]; exact q2
  have n3 : ∀ o, (w1.alloc o).cell? ⟨b, off + j * 6 + 3, none⟩ = some (.int .i64 m4) := fun o => by rw [(below_new w1 o).cell (World.block_lt_of_cell? w1 _ q3)]; exact q3
  have n4 : ∀ o, (w1.alloc o).cell? ⟨b, off + j * 6 + 4, none⟩ = some (.string m5) := fun o => by rw [(below_new w1 o).cell (World.block_lt_of_cell? w1 _ q4)]; exact q4
  have n5 : ∀ o, (w1.alloc o).cell? ⟨b, off + j * 6 + 5, none⟩ = some (.string m6) := fun o => by rw [(below_new w1 o).cell (World.block_lt_of_cell? w1 _ q5)]; exact q5
  go_wp2_with fail
  refine (rfind_any l (e1, e2) r2 HR2.out (some ⟨b, off, none⟩) n c _ (by omega) (N1.out.below (below_new _ _))).mono ?_
  rintro e w2 ⟨rfl, hb2⟩
  have hbw : Hid (Below w1.heap.size w1 w2) := below_step (below_new w1 _) (Nat.le_refl _) hb2
  have P2 : Hid (Blk w2 36 w1.heap.size #[.int .i64 e1, .int .i64 e2]) := (Blk.new w1 _ _).on hb2
  have G2 := G1.out.on hbw.out
  have f0' : w2.cell? ⟨g, 0, none⟩ = some (.int .i64 3) := G2.cell 0
  have f0'' : ∀ o, (w2.alloc o).cell? ⟨g, 0, none⟩ = some (.int .i64 3) := fun o => (G2.alloc o).cell 0
  have f3' : w2.cell? ⟨g, 3, none⟩ = some (.int .i64 c1) := G2.cell 3
  have f3'' : ∀ o, (w2.alloc o).cell? ⟨g, 3, none⟩ = some (.int .i64 c1) := fun o => (G2.alloc o).cell 3
  have f4' : w2.cell? ⟨g, 4, none⟩ = some (.int .i64 c2) := G2.cell 4
  have f4'' : ∀ o, (w2.alloc o).cell? ⟨g, 4, none⟩ = some (.int .i64 c2) := fun o => (G2.alloc o).cell 4
  have f7' : w2.cell? ⟨g, 7, none⟩ = some (.string s) := G2.cell 7
  have f7'' : ∀ o, (w2.alloc o).cell? ⟨g, 7, none⟩ = some (.string s) := fun o => (G2.alloc o).cell 7
  have f8' : w2.cell? ⟨g, 8, none⟩ = some (.string t) := G2.cell 8
  have f8'' : ∀ o, (w2.alloc o).cell? ⟨g, 8, none⟩ = some (.string t) := fun o => (G2.alloc o).cell 8
  have p0 : w2.cell? ⟨w1.heap.size, 0, none⟩ = some (.int .i64 e1) := P2.out.cell 0
  have p1 : w2.cell? ⟨w1.heap.size, 1, none⟩ = some (.int .i64 e2) := P2.out.cell 1
  have p0' : ∀ o, (w2.alloc o).cell? ⟨w1.heap.size, 0, none⟩ = some (.int .i64 e1) := fun o => (P2.out.alloc o).cell 0
  have p1' : ∀ o, (w2.alloc o).cell? ⟨w1.heap.size, 1, none⟩ = some (.int .i64 e2) := fun o => (P2.out.alloc o).cell 1
  have n0' : w2.cell? ⟨b, off + j * 6, none⟩ = some (.int .i64 m1) := by rw [hbw.out.cell (World.block_lt_of_cell? w1 _ q0)]; exact q0
  have n1' : w2.cell? ⟨b, off + j * 6 + 1, none⟩ = some (.int .i64 m2) := by rw [hbw.out.cell (World.block_lt_of_cell? w1 _ q1)]; exact q1
  have n2' : w2.cell? ⟨b, off + j * 6 + 2, none⟩ = some (.int .i64 m3) := by rw [hbw.out.cell (World.block_lt_of_cell? w1 _ q2)]; exact q2
  have n3' : w2.cell? ⟨b, off + j * 6 + 3, none⟩ = some (.int .i64 m4) := by rw [hbw.out.cell (World.block_lt_of_cell? w1 _ q3)]; exact q3
  have n4' : w2.cell? ⟨b, off + j * 6 + 4, none⟩ = some (.string m5) := by rw [hbw.out.cell (World.block_lt_of_cell? w1 _ q4)]; exact q4
  have n5' : w2.cell? ⟨b, off + j * 6 + 5, none⟩ = some (.string m6) := by rw [hbw.out.cell (World.block_lt_of_cell? w1 _ q5)]; exact q5
  clear hb2 G2
  go_wp2_with fail
  refine (rwithV l ((m1, m2), (m3, m4), s, m6) (some ⟨b, off, none⟩) n c _ (by omega) (N1.out.below (below_step hbw.out (Nat.le_refl _) (below_new _ _)))).mono ?_
  rintro e w3 ⟨v, rfl, hv, hb3, ha3⟩
  have HV : Hid (NodesV w3 v L) := by rw [HL.out]; exact hv
  have B3 : Hid (Below w.heap.size w w3) := below_step (below_step HB1.out LG.out (below_step hbw.out (Nat.le_refl _) (below_new _ _))) LG.out hb3
  have HA : Hid (AdrV _ n w.heap.size v) := ha3.less (below_step HB1.out LG.out (below_step hbw.out (Nat.le_refl _) (below_new _ _))).size
  clear hv hb3 ha3
  go_wp2
  go_ret
  exact ⟨v, rfl, HV.out, B3.out, HA.out⟩

set_option maxRecDepth 100000 in
set_option maxHeartbeats 4000000 in
theorem rdo_3pn (l : List NodeT) (a1 a2 c1 c2 e1 e2 : Int) (s t : ByteArray) (a : Option Addr) (n c : Nat) (w : World) (hn : n ≤ 65535) (HI : Hid (NodesAt w a n l)) (HR : Hid (FindE l (c1, c2) (-1))) (hx : ¬ e1 = 0) (r2 : Int) (HR2 : Hid (FindE l (e1, e2) r2)) :
    Calls Tryz.prog 48 #[.slice a n c, .agg #[.int .i64 3, .int .i64 a1, .int .i64 a2, .int .i64 c1, .int .i64 c2, .int .i64 e1, .int .i64 e2, .string s, .string t]] w fun e w' => ∃ v, e = .returned v ∧ NodesV w' v (l) ∧ Below w.heap.size w w' ∧ AdrV a n w.heap.size v := by
  have hln : l.length = n := HI.out.1
  have HLN : Hid (l.length = n) := hln
  clear hln
  have gx : (e1 == 0) = false := by rw [beq_eq_false_iff_ne]; exact hx
  obtain ⟨L, HL⟩ : ∃ L, Hid (L = l) := ⟨_, rfl⟩
  show Calls _ _ _ _ fun e w' => ∃ v, e = .returned v ∧ NodesV w' v (l) ∧ Below w.heap.size w w' ∧ AdrV a n w.heap.size v
  rw [← HL.out]
  go_enter Tryz.func48, Tryz.ntmps48
  go_wp2_with fail
  generalize hq : World.alloc w _ = w0
  have hb0 : Hid (Below w.heap.size w w0) := by rw [← hq]; exact below_new w _
  have G0 : Hid (Blk w0 56 w.heap.size #[.int .i64 3, .int .i64 a1, .int .i64 a2, .int .i64 c1, .int .i64 c2, .int .i64 e1, .int .i64 e2, .string s, .string t]) := by show Blk _ _ _ _; rw [← hq]; exact Blk.new _ _ _
  have N0 : Hid (NodesAt w0 a n l) := HI.out.below hb0.out
  obtain ⟨g, hg⟩ : ∃ g, g = w.heap.size := ⟨_, rfl⟩
  rw [← hg] at G0 ⊢
  have LG : Hid (w.heap.size ≤ w.heap.size) := Nat.le_refl _
  clear hq HI hg
  refine (rfind_any l (c1, c2) (-1) HR.out a n c w0 (by omega) N0.out).mono ?_
  rintro e w1 ⟨rfl, hb1⟩
  have HB1 : Hid (Below w.heap.size w w1) := below_step hb0.out LG.out hb1
  have G1 : Hid (Blk w1 56 g #[.int .i64 3, .int .i64 a1, .int .i64 a2, .int .i64 c1, .int .i64 c2, .int .i64 e1, .int .i64 e2, .string s, .string t]) := G0.out.on hb1
  have N1 : Hid (NodesAt w1 a n l) := N0.out.below hb1
  clear hb1 hb0 G0 N0 HR
  have g5 : w1.cell? ⟨g, 5, none⟩ = some (.int .i64 e1) := G1.out.cell 5
  have g6 : w1.cell? ⟨g, 6, none⟩ = some (.int .i64 e2) := G1.out.cell 6
  have f0 : ∀ o, (w1.alloc o).cell? ⟨g, 0, none⟩ = some (.int .i64 3) := fun o => (G1.out.alloc o).cell 0
  have f3 : ∀ o, (w1.alloc o).cell? ⟨g, 3, none⟩ = some (.int .i64 c1) := fun o => (G1.out.alloc o).cell 3
  have f4 : ∀ o, (w1.alloc o).cell? ⟨g, 4, none⟩ = some (.int .i64 c2) := fun o => (G1.out.alloc o).cell 4
  have f7 : ∀ o, (w1.alloc o).cell? ⟨g, 7, none⟩ = some (.string s) := fun o => (G1.out.alloc o).cell 7
  have f8 : ∀ o, (w1.alloc o).cell? ⟨g, 8, none⟩ = some (.string t) := fun o => (G1.out.alloc o).cell 8
  go_wp2_with fail
  refine (rfind_any l (e1, e2) r2 HR2.out a n c _ (by omega) (N1.out.below (below_new _ _))).mono ?_
  rintro e w2 ⟨rfl, hb2⟩
  have hbw : Hid (Below w1.heap.size w1 w2) := below_step (below_new w1 _) (Nat.le_refl _) hb2
  have P2 : Hid (Blk w2 36 w1.heap.size #[.int .i64 e1, .int .i64 e2]) := (Blk.new w1 _ _).on hb2
  have G2 := G1.out.on hbw.out
  have f0' : w2.cell? ⟨g, 0, none⟩ = some (.int .i64 3) := G2.cell 0
  have f0'' : ∀ o, (w2.alloc o).cell? ⟨g, 0, none⟩ = some (.int .i64 3) := fun o => (G2.alloc o).cell 0
  have f3' : w2.cell? ⟨g, 3, none⟩ = some (.int .i64 c1) := G2.cell 3
  have f3'' : ∀ o, (w2.alloc o).cell? ⟨g, 3, none⟩ = some (.int .i64 c1) := fun o => (G2.alloc o).cell 3
  have f4' : w2.cell? ⟨g, 4, none⟩ = some (.int .i64 c2) := G2.cell 4
  have f4'' : ∀ o, (w2.alloc o).cell? ⟨g, 4, none⟩ = some (.int .i64 c2) := fun o => (G2.alloc o).cell 4
  have f7' : w2.cell? ⟨g, 7, none⟩ = some (.string s) := G2.cell 7
  have f7'' : ∀ o, (w2.alloc o).cell? ⟨g, 7, none⟩ = some (.string s) := fun o => (G2.alloc o).cell 7
  have f8' : w2.cell? ⟨g, 8, none⟩ = some (.string t) := G2.cell 8
  have f8'' : ∀ o, (w2.alloc o).cell? ⟨g, 8, none⟩ = some (.string t) := fun o => (G2.alloc o).cell 8
  have p0 : w2.cell? ⟨w1.heap.size, 0, none⟩ = some (.int .i64 e1) := P2.out.cell 0
  have p1 : w2.cell? ⟨w1.heap.size, 1, none⟩ = some (.int .i64 e2) := P2.out.cell 1
  have p0' : ∀ o, (w2.alloc o).cell? ⟨w1.heap.size, 0, none⟩ = some (.int .i64 e1) := fun o => (P2.out.alloc o).cell 0
  have p1' : ∀ o, (w2.alloc o).cell? ⟨w1.heap.size, 1, none⟩ = some (.int .i64 e2) := fun o => (P2.out.alloc o).cell 1
  clear hb2 G2
  go_wp2
  go_ret
  exact ⟨.slice a n c, rfl, by rw [HL.out]; exact ⟨_, _, by rw [HLN.out], by rw [HLN.out]; exact N1.out.below hbw.out⟩, below_step HB1.out LG.out hbw.out, adr_same⟩

set_option maxRecDepth 100000 in
set_option maxHeartbeats 4000000 in
theorem rdo_4xy (l : List NodeT) (a1 a2 c1 c2 e2 : Int) (s t : ByteArray) (a : Option Addr) (n c j : Nat) (w : World) (hn : n ≤ 65535) (HI : Hid (NodesAt w a n l)) (HR : Hid (FindE l (c1, c2) (j : Int))) (hj : j < n) :
    Calls Tryz.prog 48 #[.slice a n c, .agg #[.int .i64 4, .int .i64 a1, .int .i64 a2, .int .i64 c1, .int .i64 c2, .int .i64 0, .int .i64 e2, .string s, .string t]] w fun e w' => ∃ v, e = .returned v ∧ NodesV w' v (withP l ((nL l j).1, (nL l j).2.1, (nL l j).2.2.1, t)) ∧ Below w.heap.size w w' ∧ AdrV a n w.heap.size v := by
  have hln : l.length = n := HI.out.1
  have HLN : Hid (l.length = n) := hln
  clear hln
  have j0 : (j : Int) < (n : Int) := by omega
  have j1 : ¬ ((j : Int) < 0) := by omega
  have j2 : decide ((j : Int) < 0) = false := by simp
  have j3 : decide ((0 : Int) ≤ (j : Int)) = true := by simp
  obtain ⟨Y, hY⟩ : ∃ Y, Y = nL l j := ⟨_, rfl⟩
  rw [← hY]
  obtain ⟨⟨m1, m2⟩, ⟨m3, m4⟩, m5, m6⟩ := Y
  obtain ⟨L, HL⟩ : ∃ L, Hid (L = withP l ((m1, m2), (m3, m4), m5, t)) := ⟨_, rfl⟩
  show Calls _ _ _ _ fun e w' => ∃ v, e = .returned v ∧ NodesV w' v (withP l ((m1, m2), (m3, m4), m5, t)) ∧ Below w.heap.size w w' ∧ AdrV a n w.heap.size v
  rw [← HL.out]
  have HYY : Hid (((m1, m2), (m3, m4), m5, m6) = nL l j) := hY
  clear hY
  go_enter Tryz.func48, Tryz.ntmps48
  go_wp2_with fail
  generalize hq : World.alloc w _ = w0
  have hb0 : Hid (Below w.heap.size w w0) := by rw [← hq]; exact below_new w _
  have G0 : Hid (Blk w0 56 w.heap.size #[.int .i64 4, .int .i64 a1, .int .i64 a2, .int .i64 c1, .int .i64 c2, .int .i64 0, .int .i64 e2, .string s, .string t]) := by show Blk _ _ _ _; rw [← hq]; exact Blk.new _ _ _
  have N0 : Hid (NodesAt w0 a n l) := HI.out.below hb0.out
  obtain ⟨g, hg⟩ : ∃ g, g = w.heap.size := ⟨_, rfl⟩
  rw [← hg] at G0 ⊢
  have LG : Hid (w.heap.size ≤ w.heap.size) := Nat.le_refl _
  clear hq HI hg
  refine (rfind_any l (c1, c2) (j : Int) HR.out a n c w0 (by omega) N0.out).mono ?_
  rintro e w1 ⟨rfl, hb1⟩
  have HB1 : Hid (Below w.heap.size w w1) := below_step hb0.out LG.out hb1
  have G1 : Hid (Blk w1 56 g #[.int .i64 4, .int .i64 a1, .int .i64 a2, .int .i64 c1, .int .i64 c2, .int .i64 0, .int .i64 e2, .string s, .string t]) := G0.out.on hb1
  have N1 : Hid (NodesAt w1 a n l) := N0.out.below hb1
  clear hb1 hb0 G0 N0 HR
  have g5 : w1.cell? ⟨g, 5, none⟩ = some (.int .i64 0) := G1.out.cell 5
  have g6 : w1.cell? ⟨g, 6, none⟩ = some (.int .i64 e2) := G1.out.cell 6
  have f0 : ∀ o, (w1.alloc o).cell? ⟨g, 0, none⟩ = some (.int .i64 4) := fun o => (G1.out.alloc o).cell 0
  have f3 : ∀ o, (w1.alloc o).cell? ⟨g, 3, none⟩ = some (.int .i64 c1) := fun o => (G1.out.alloc o).cell 3
  have f4 : ∀ o, (w1.alloc o).cell? ⟨g, 4, none⟩ = some (.int .i64 c2) := fun o => (G1.out.alloc o).cell 4
  have f7 : ∀ o, (w1.alloc o).cell? ⟨g, 7, none⟩ = some (.string s) := fun o => (G1.out.alloc o).cell 7
  have f8 : ∀ o, (w1.alloc o).cell? ⟨g, 8, none⟩ = some (.string t) := fun o => (G1.out.alloc o).cell 8
  obtain ⟨b, off, rfl, _⟩ := N1.out.2.some (by omega)
  obtain ⟨q0, q1, q2, q3, q4, q5⟩ := N1.out.cells j hj
  rw [← HYY.out] at q0 q1 q2 q3 q4 q5
  have n0 : ∀ o, (w1.alloc o).cell? ⟨b, off + j * 6, none⟩ = some (.int .i64 m1) := fun o => by rw [(below_new w1 o).cell (World.block_lt_of_cell? w1 _ q0)]; exact q0
  have n1 : ∀ o, (w1.alloc o).cell? ⟨b, off + j * 6 + 1, none⟩ = some (.int .i64 m2) := fun o => by rw [(below_new w1 o).cell (World.block_lt_of_cell? w1 _ q1)]; exact q1
  have n2 : ∀ o, (w1.alloc o).cell? ⟨b, off + j * 6 + 2, none⟩ = some (.int .i64 m3) := fun o => by rw [(below_new w1 o).cell (World.block_lt_of_cell? w1 _ q2)]; exact q2
  have n3 : ∀ o, (w1.alloc o).cell? ⟨b, off + j * 6 + 3, none⟩ = some (.int .i64 m4) := fun o => by rw [(below_new w1 o).cell (World.block_lt_of_cell? w1 _ q3)]; exact q3
  have n4 : ∀ o, (w1.alloc o).cell? ⟨b, off + j * 6 + 4, none⟩ = some (.string m5) := fun o => by rw [(below_new w1 o).cell (World.block_lt_of_cell? w1 _ q4)]; exact q4
  have n5 : ∀ o, (w1.alloc o).cell? ⟨b, off + j * 6 + 5, none⟩ = some (.string m6) := fun o => by rw [(below_new w1 o).cell (World.block_lt_of_cell? w1 _ q5)]; exact q5
  have f0' : ∀ o o', ((w1.alloc o).alloc o').cell? ⟨g, 0, none⟩ = some (.int .i64 4) := fun o o' => ((G1.out.alloc o).alloc o').cell 0
  have f3' : ∀ o o', ((w1.alloc o).alloc o').cell? ⟨g, 3, none⟩ = some (.int .i64 c1) := fun o o' => ((G1.out.alloc o).alloc o').cell 3
  have f4' : ∀ o o', ((w1.alloc o).alloc o').cell? ⟨g, 4, none⟩ = some (.int .i64 c2) := fun o o' => ((G1.out.alloc o).alloc o').cell 4
  have f7' : ∀ o o', ((w1.alloc o).alloc o').cell? ⟨g, 7, none⟩ = some (.string s) := fun o o' => ((G1.out.alloc o).alloc o').cell 7
  have f8' : ∀ o o', ((w1.alloc o).alloc o').cell? ⟨g, 8, none⟩ = some (.string t) := fun o o' => ((G1.out.alloc o).alloc o').cell 8
  go_wp2_with fail
  refine (rwithV l ((m1, m2), (m3, m4), m5, t) (some ⟨b, off, none⟩) n c _ (by omega) (N1.out.below (below_step (below_new w1 _) (Nat.le_refl _) (below_new _ _)))).mono ?_
  rintro e w3 ⟨v, rfl, hv, hb3, ha3⟩
  have HV : Hid (NodesV w3 v L) := by rw [HL.out]; exact hv
  have B3 : Hid (Below w.heap.size w w3) := below_step (below_step HB1.out LG.out (below_step (below_new w1 _) (Nat.le_refl _) (below_new _ _))) LG.out hb3
  have HA : Hid (AdrV _ n w.heap.size v) := ha3.less (below_step HB1.out LG.out (below_step (below_new w1 _) (Nat.le_refl _) (below_new _ _))).size
  clear hv hb3 ha3
  go_wp2
  go_ret
  exact ⟨v, rfl, HV.out, B3.out, HA.out⟩

set_option maxRecDepth 100000 in
set_option maxHeartbeats 4000000 in
theorem rdo_4xn (l : List NodeT) (a1 a2 c1 c2 e2 : Int) (s t : ByteArray) (a : Option Addr) (n c : Nat) (w : World) (hn : n ≤ 65535) (HI : Hid (NodesAt w a n l)) (HR : Hid (FindE l (c1, c2) (-1))) :
    Calls Tryz.prog 48 #[.slice a n c, .agg #[.int .i64 4, .int .i64 a1, .int .i64 a2, .int .i64 c1, .int .i64 c2, .int .i64 0, .int .i64 e2, .string s, .string t]] w fun e w' => ∃ v, e = .returned v ∧ NodesV w' v (l) ∧ Below w.heap.size w w' ∧ AdrV a n w.heap.size v := by
  have hln : l.length = n := HI.out.1
  have HLN : Hid (l.length = n) := hln
  clear hln
  obtain ⟨L, HL⟩ : ∃ L, Hid (L = l) := ⟨_, rfl⟩
  show Calls _ _ _ _ fun e w' => ∃ v, e = .returned v ∧ NodesV w' v (l) ∧ Below w.heap.size w w' ∧ AdrV a n w.heap.size v
  rw [← HL.out]
  go_enter Tryz.func48, Tryz.ntmps48
  go_wp2_with fail
  generalize hq : World.alloc w _ = w0
  have hb0 : Hid (Below w.heap.size w w0) := by rw [← hq]; exact below_new w _
  have G0 : Hid (Blk w0 56 w.heap.size #[.int .i64 4, .int .i64 a1, .int .i64 a2, .int .i64 c1, .int .i64 c2, .int .i64 0, .int .i64 e2, .string s, .string t]) := by show Blk _ _ _ _; rw [← hq]; exact Blk.new _ _ _
  have N0 : Hid (NodesAt w0 a n l) := HI.out.below hb0.out
  obtain ⟨g, hg⟩ : ∃ g, g = w.heap.size := ⟨_, rfl⟩
  rw [← hg] at G0 ⊢
  have LG : Hid (w.heap.size ≤ w.heap.size) := Nat.le_refl _
  clear hq HI hg
  refine (rfind_any l (c1, c2) (-1) HR.out a n c w0 (by omega) N0.out).mono ?_
  rintro e w1 ⟨rfl, hb1⟩
  have HB1 : Hid (Below w.heap.size w w1) := below_step hb0.out LG.out hb1
  have G1 : Hid (Blk w1 56 g #[.int .i64 4, .int .i64 a1, .int .i64 a2, .int .i64 c1, .int .i64 c2, .int .i64 0, .int .i64 e2, .string s, .string t]) := G0.out.on hb1
  have N1 : Hid (NodesAt w1 a n l) := N0.out.below hb1
  clear hb1 hb0 G0 N0 HR
  have g5 : w1.cell? ⟨g, 5, none⟩ = some (.int .i64 0) := G1.out.cell 5
  have g6 : w1.cell? ⟨g, 6, none⟩ = some (.int .i64 e2) := G1.out.cell 6
  have f0 : ∀ o, (w1.alloc o).cell? ⟨g, 0, none⟩ = some (.int .i64 4) := fun o => (G1.out.alloc o).cell 0
  have f3 : ∀ o, (w1.alloc o).cell? ⟨g, 3, none⟩ = some (.int .i64 c1) := fun o => (G1.out.alloc o).cell 3
  have f4 : ∀ o, (w1.alloc o).cell? ⟨g, 4, none⟩ = some (.int .i64 c2) := fun o => (G1.out.alloc o).cell 4
  have f7 : ∀ o, (w1.alloc o).cell? ⟨g, 7, none⟩ = some (.string s) := fun o => (G1.out.alloc o).cell 7
  have f8 : ∀ o, (w1.alloc o).cell? ⟨g, 8, none⟩ = some (.string t) := fun o => (G1.out.alloc o).cell 8
  have f0' : ∀ o o', ((w1.alloc o).alloc o').cell? ⟨g, 0, none⟩ = some (.int .i64 4) := fun o o' => ((G1.out.alloc o).alloc o').cell 0
  have f3' : ∀ o o', ((w1.alloc o).alloc o').cell? ⟨g, 3, none⟩ = some (.int .i64 c1) := fun o o' => ((G1.out.alloc o).alloc o').cell 3
  have f4' : ∀ o o', ((w1.alloc o).alloc o').cell? ⟨g, 4, none⟩ = some (.int .i64 c2) := fun o o' => ((G1.out.alloc o).alloc o').cell 4
  have f7' : ∀ o o', ((w1.alloc o).alloc o').cell? ⟨g, 7, none⟩ = some (.string s) := fun o o' => ((G1.out.alloc o).alloc o').cell 7
  have f8' : ∀ o o', ((w1.alloc o).alloc o').cell? ⟨g, 8, none⟩ = some (.string t) := fun o o' => ((G1.out.alloc o).alloc o').cell 8
  go_wp2
  go_ret
  exact ⟨.slice a n c, rfl, by rw [HL.out]; exact ⟨_, _, by rw [HLN.out], by rw [HLN.out]; exact N1.out.below (below_new w1 _)⟩, below_step HB1.out LG.out (below_new w1 _), adr_same⟩

set_option maxRecDepth 100000 in
set_option maxHeartbeats 4000000 in
theorem rdo_4py (l : List NodeT) (a1 a2 c1 c2 e1 e2 : Int) (s t : ByteArray) (a : Option Addr) (n c j : Nat) (w : World) (hn : n ≤ 65535) (HI : Hid (NodesAt w a n l)) (HR : Hid (FindE l (c1, c2) (j : Int))) (hj : j < n) (hx : ¬ e1 = 0) (r2 : Int) (HR2 : Hid (FindE l (e1, e2) r2)) :
    Calls Tryz.prog 48 #[.slice a n c, .agg #[.int .i64 4, .int .i64 a1, .int .i64 a2, .int .i64 c1, .int .i64 c2, .int .i64 e1, .int .i64 e2, .string s, .string t]] w fun e w' => ∃ v, e = .returned v ∧ NodesV w' v (withP l ((nL l j).1, (nL l j).2.1, (nL l j).2.2.1, t)) ∧ Below w.heap.size w w' ∧ AdrV a n w.heap.size v := by
  have hln : l.length = n := HI.out.1
  have HLN : Hid (l.length = n) := hln
  clear hln
  have j0 : (j : Int) < (n : Int) := by omega
  have j1 : ¬ ((j : Int) < 0) := by omega
  have j2 : decide ((j : Int) < 0) = false := by simp
  have j3 : decide ((0 : Int) ≤ (j : Int)) = true := by simp
  have gx : (e1 == 0) = false := by rw [beq_eq_false_iff_ne]; exact hx
  obtain ⟨Y, hY⟩ : ∃ Y, Y = nL l j := ⟨_, rfl⟩
  rw [← hY]
  obtain ⟨⟨m1, m2⟩, ⟨m3, m4⟩, m5, m6⟩ := Y
  obtain ⟨L, HL⟩ : ∃ L, Hid (L = withP l ((m1, m2), (m3, m4), m5, t)) := ⟨_, rfl⟩
  show Calls _ _ _ _ fun e w' => ∃ v, e = .returned v ∧ NodesV w' v (withP l ((m1, m2), (m3, m4), m5, t)) ∧ Below w.heap.size w w' ∧ AdrV a n w.heap.size v
  rw [← HL.out]
  have HYY : Hid (((m1, m2), (m3, m4), m5, m6) = nL l j) := hY
  clear hY
  go_enter Tryz.func48, Tryz.ntmps48
  go_wp2_with fail
  generalize hq : World.alloc w _ = w0
  have hb0 : Hid (Below w.heap.size w w0) := by rw [← hq]; exact below_new w _
  have G0 : Hid (Blk w0 56 w.heap.size #[.int .i64 4, .int .i64 a1, .int .i64 a2, .int .i64 c1, .int .i64 c2, .int .i64 e1, .int .i64 e2, .string s, .string t]) := by show Blk _ _ _ _; rw [← hq]; exact Blk.new _ _ _
  have N0 : Hid (NodesAt w0 a n l) := HI.out.below hb0.out
  obtain ⟨g, hg⟩ : ∃ g, g = w.heap.size := ⟨_, rfl⟩
  rw [← hg] at G0 ⊢
  have LG : Hid (w.heap.size ≤ w.heap.size) := Nat.le_refl _
  clear hq HI hg
  refine (rfind_any l (c1, c2) (j : Int) HR.out a n c w0 (by omega) N0.out).mono ?_
  rintro e w1 ⟨rfl, hb1⟩
  have HB1 : Hid (Below w.heap.size w w1) := below_step hb0.out LG.out hb1
  have G1 : Hid (Blk w1 56 g #[.int .i64 4, .int .i64 a1, .int .i64 a2, .int .i64 c1, .int .i64 c2, .int .i64 e1, .int .i64 e2, .string s, .string t]) := G0.out.on hb1
  have N1 : Hid (NodesAt w1 a n l) := N0.out.below hb1
  clear hb1 hb0 G0 N0 HR
  have g5 : w1.cell? ⟨g, 5, none⟩ = some (.int .i64 e1) := G1.out.cell 5
  have g6 : w1.cell? ⟨g, 6, none⟩ = some (.int .i64 e2) := G1.out.cell 6
  have f0 : ∀ o, (w1.alloc o).cell? ⟨g, 0, none⟩ = some (.int .i64 4) := fun o => (G1.out.alloc o).cell 0
  have f3 : ∀ o, (w1.alloc o).cell? ⟨g, 3, none⟩ = some (.int .i64 c1) := fun o => (G1.out.alloc o).cell 3
  have f4 : ∀ o, (w1.alloc o).cell? ⟨g, 4, none⟩ = some (.int .i64 c2) := fun o => (G1.out.alloc o).cell 4
  have f7 : ∀ o, (w1.alloc o).cell? ⟨g, 7, none⟩ = some (.string s) := fun o => (G1.out.alloc o).cell 7
  have f8 : ∀ o, (w1.alloc o).cell? ⟨g, 8, none⟩ = some (.string t) := fun o => (G1.out.alloc o).cell 8
  obtain ⟨b, off, rfl, _⟩ := N1.out.2.some (by omega)
  obtain ⟨q0, q1, q2, q3, q4, q5⟩ := N1.out.cells j hj
  rw [← HYY.out] at q0 q1 q2 q3 q4 q5
  have n0 : ∀ o, (w1.alloc o).cell? ⟨b, off + j * 6, none⟩ = some (.int .i64 m1) := fun o => by rw [(below_new w1 o).cell (World.block_lt_of_cell? w1 _ q0)]; exact q0
  have n1 : ∀ o, (w1.alloc o).cell? ⟨b, off + j * 6 + 1, none⟩ = some (.int .i64 m2) := fun o => by rw [(below_new w1 o).cell (World.block_lt_of_cell? w1 _ q1)]; exact q1
  have n2 : ∀ o, (w1.alloc o).cell? ⟨b, off + j * 6 + 2, none⟩ = some (.int .i64 m3) := fun o => by rw [(below_new w1 o).cell (World.block_lt_of_cell? w1 _ q2)]; exact q2
  have n3 : ∀ o, (w1.alloc o).cell? ⟨b, off + j * 6 + 3, none⟩ = some (.int .i64 m4) := fun o => by rw [(below_new w1 o).cell (World.block_lt_of_cell? w1 _ q3)]; exact q3
  have n4 : ∀ o, (w1.alloc o).cell? ⟨b, off + j * 6 + 4, none⟩ = some (.string m5) := fun o => by rw [(below_new w1 o).cell (World.block_lt_of_cell? w1 _ q4)]; exact q4
  have n5 : ∀ o, (w1.alloc o).cell? ⟨b, off + j * 6 + 5, none⟩ = some (.string m6) := fun o => by rw [(below_new w1 o).cell (World.block_lt_of_cell? w1 _ q5)]; exact q5
  go_wp2_with fail
  refine (rfind_any l (e1, e2) r2 HR2.out (some ⟨b, off, none⟩) n c _ (by omega) (N1.out.below (below_new _ _))).mono ?_
  rintro e w2 ⟨rfl, hb2⟩
  have hbw : Hid (Below w1.heap.size w1 w2) := below_step (below_new w1 _) (Nat.le_refl _) hb2
  have P2 : Hid (Blk w2 36 w1.heap.size #[.int .i64 e1, .int .i64 e2]) := (Blk.new w1 _ _).on hb2
  have G2 := G1.out.on hbw.out
  have f0' : w2.cell? ⟨g, 0, none⟩ = some (.int .i64 4) := G2.cell 0
  have f0'' : ∀ o, (w2.alloc o).cell? ⟨g, 0, none⟩ = some (.int .i64 4) := fun o => (G2.alloc o).cell 0
  have f3' : w2.cell? ⟨g, 3, none⟩ = some (.int .i64 c1) := G2.cell 3
  have f3'' : ∀ o, (w2.alloc o).cell? ⟨g, 3, none⟩ = some (.int .i64 c1) := fun o => (G2.alloc o).cell 3
  have f4' : w2.cell? ⟨g, 4, none⟩ = some (.int .i64 c2) := G2.cell 4
  have f4'' : ∀ o, (w2.alloc o).cell? ⟨g, 4, none⟩ = some (.int .i64 c2) := fun o => (G2.alloc o).cell 4
  have f7' : w2.cell? ⟨g, 7, none⟩ = some (.string s) := G2.cell 7
  have f7'' : ∀ o, (w2.alloc o).cell? ⟨g, 7, none⟩ = some (.string s) := fun o => (G2.alloc o).cell 7
  have f8' : w2.cell? ⟨g, 8, none⟩ = some (.string t) := G2.cell 8
  have f8'' : ∀ o, (w2.alloc o).cell? ⟨g, 8, none⟩ = some (.string t) := fun o => (G2.alloc o).cell 8
  have p0 : w2.cell? ⟨w1.heap.size, 0, none⟩ = some (.int .i64 e1) := P2.out.cell 0
  have p1 : w2.cell? ⟨w1.heap.size, 1, none⟩ = some (.int .i64 e2) := P2.out.cell 1
  have p0' : ∀ o, (w2.alloc o).cell? ⟨w1.heap.size, 0, none⟩ = some (.int .i64 e1) := fun o => (P2.out.alloc o).cell 0
  have p1' : ∀ o, (w2.alloc o).cell? ⟨w1.heap.size, 1, none⟩ = some (.int .i64 e2) := fun o => (P2.out.alloc o).cell 1
  have n0' : w2.cell? ⟨b, off + j * 6, none⟩ = some (.int .i64 m1) := by rw [hbw.out.cell (World.block_lt_of_cell? w1 _ q0)]; exact q0
  have n1' : w2.cell? ⟨b, off + j * 6 + 1, none⟩ = some (.int .i64 m2) := by rw [hbw.out.cell (World.block_lt_of_cell? w1 _ q1)]; exact q1
  have n2' : w2.cell? ⟨b, off + j * 6 + 2, none⟩ = some (.int .i64 m3) := by rw [hbw.out.cell (World.block_lt_of_cell? w1 _ q2)]; exact q2
  have n3' : w2.cell? ⟨b, off + j * 6 + 3, none⟩ = some (.int .i64 m4) := by rw [hbw.out.cell (World.block_lt_of_cell? w1 _ q3)]; exact q3
  have n4' : w2.cell? ⟨b, off + j * 6 + 4, none⟩ = some (.string m5) := by rw [hbw.out.cell (World.block_lt_of_cell? w1 _ q4)]; exact q4
  have n5' : w2.cell? ⟨b, off + j * 6 + 5, none⟩ = some (.string m6) := by rw [hbw.out.cell (World.block_lt_of_cell? w1 _ q5)]; exact q5
  clear hb2 G2
  go_wp2_with fail
  refine (rwithV l ((m1, m2), (m3, m4), m5, t) (some ⟨b, off, none⟩) n c _ (by omega) (N1.out.below (below_step hbw.out (Nat.le_refl _) (below_new _ _)))).mono ?_
  rintro e w3 ⟨v, rfl, hv, hb3, ha3⟩
  have HV : Hid (NodesV w3 v L) := by rw [HL.out]; exact hv
  have B3 : Hid (Below w.heap.size w w3) := below_step (below_step HB1.out LG.out (below_step hbw.out (Nat.le_refl _) (below_new _ _))) LG.out hb3
  have HA : Hid (AdrV _ n w.heap.size v) := ha3.less (below_step HB1.out LG.out (below_step hbw.out (Nat.le_refl _) (below_new _ _))).size
  clear hv hb3 ha3
  go_wp2
  go_ret
  exact ⟨v, rfl, HV.out, B3.out, HA.out⟩

set_option maxRecDepth 100000 in
set_option maxHeartbeats 4000000 in
theorem rdo_4pn (l : List NodeT) (a1 a2 c1 c2 e1 e2 : Int) (s t : ByteArray) (a : Option Addr) (n c : Nat) (w : World) (hn : n ≤ 65535) (HI : Hid (NodesAt w a n l)) (HR : Hid (FindE l (c1, c2) (-1))) (hx : ¬ e1 = 0) (r2 : Int) (HR2 : Hid (FindE l (e1, e2) r2)) :
    Calls Tryz.prog 48 #[.slice a n c, .agg #[.int .i64 4, .int .i64 a1, .int .i64 a2, .int .i64 c1, .int .i64 c2, .int .i64 e1, .int .i64 e2, .string s, .string t]] w fun e w' => ∃ v, e = .returned v ∧ NodesV w' v (l) ∧ Below w.heap.size w w' ∧ AdrV a n w.heap.size v := by
  have hln : l.length = n := HI.out.1
  have HLN : Hid (l.length = n) := hln
  clear hln
  have gx : (e1 == 0) = false := by rw [beq_eq_false_iff_ne]; exact hx
  obtain ⟨L, HL⟩ : ∃ L, Hid (L = l) := ⟨_, rfl⟩
  show Calls _ _ _ _ fun e w' => ∃ v, e = .returned v ∧ NodesV w' v (l) ∧ Below w.heap.size w w' ∧ AdrV a n w.heap.size v
  rw [← HL.out]
  go_enter Tryz.func48, Tryz.ntmps48
  go_wp2_with fail
  generalize hq : World.alloc w _ = w0
  have hb0 : Hid (Below w.heap.size w w0) := by rw [← hq]; exact below_new w _
  have G0 : Hid (Blk w0 56 w.heap.size #[.int .i64 4, .int .i64 a1, .int .i64 a2, .int .i64 c1, .int .i64 c2, .int .i64 e1, .int .i64 e2, .string s, .string t]) := by show Blk _ _ _ _; rw [← hq]; exact Blk.new _ _ _
  have N0 : Hid (NodesAt w0 a n l) := HI.out.below hb0.out
  obtain ⟨g, hg⟩ : ∃ g, g = w.heap.size := ⟨_, rfl⟩
  rw [← hg] at G0 ⊢
  have LG : Hid (w.heap.size ≤ w.heap.size) := Nat.le_refl _
  clear hq HI hg
  refine (rfind_any l (c1, c2) (-1) HR.out a n c w0 (by omega) N0.out).mono ?_
  rintro e w1 ⟨rfl, hb1⟩
  have HB1 : Hid (Below w.heap.size w w1) := below_step hb0.out LG.out hb1
  have G1 : Hid (Blk w1 56 g #[.int .i64 4, .int .i64 a1, .int .i64 a2, .int .i64 c1, .int .i64 c2, .int .i64 e1, .int .i64 e2, .string s, .string t]) := G0.out.on hb1
  have N1 : Hid (NodesAt w1 a n l) := N0.out.below hb1
  clear hb1 hb0 G0 N0 HR
  have g5 : w1.cell? ⟨g, 5, none⟩ = some (.int .i64 e1) := G1.out.cell 5
  have g6 : w1.cell? ⟨g, 6, none⟩ = some (.int .i64 e2) := G1.out.cell 6
  have f0 : ∀ o, (w1.alloc o).cell? ⟨g, 0, none⟩ = some (.int .i64 4) := fun o => (G1.out.alloc o).cell 0
  have f3 : ∀ o, (w1.alloc o).cell? ⟨g, 3, none⟩ = some (.int .i64 c1) := fun o => (G1.out.alloc o).cell 3
  have f4 : ∀ o, (w1.alloc o).cell? ⟨g, 4, none⟩ = some (.int .i64 c2) := fun o => (G1.out.alloc o).cell 4
  have f7 : ∀ o, (w1.alloc o).cell? ⟨g, 7, none⟩ = some (.string s) := fun o => (G1.out.alloc o).cell 7
  have f8 : ∀ o, (w1.alloc o).cell? ⟨g, 8, none⟩ = some (.string t) := fun o => (G1.out.alloc o).cell 8
  go_wp2_with fail
  refine (rfind_any l (e1, e2) r2 HR2.out a n c _ (by omega) (N1.out.below (below_new _ _))).mono ?_
  rintro e w2 ⟨rfl, hb2⟩
  have hbw : Hid (Below w1.heap.size w1 w2) := below_step (below_new w1 _) (Nat.le_refl _) hb2
  have P2 : Hid (Blk w2 36 w1.heap.size #[.int .i64 e1, .int .i64 e2]) := (Blk.new w1 _ _).on hb2
  have G2 := G1.out.on hbw.out
  have f0' : w2.cell? ⟨g, 0, none⟩ = some (.int .i64 4) := G2.cell 0
  have f0'' : ∀ o, (w2.alloc o).cell? ⟨g, 0, none⟩ = some (.int .i64 4) := fun o => (G2.alloc o).cell 0
  have f3' : w2.cell? ⟨g, 3, none⟩ = some (.int .i64 c1) := G2.cell 3
  have f3'' : ∀ o, (w2.alloc o).cell? ⟨g, 3, none⟩ = some (.int .i64 c1) := fun o => (G2.alloc o).cell 3
  have f4' : w2.cell? ⟨g, 4, none⟩ = some (.int .i64 c2) := G2.cell 4
  have f4'' : ∀ o, (w2.alloc o).cell? ⟨g, 4, none⟩ = some (.int .i64 c2) := fun o => (G2.alloc o).cell 4
  have f7' : w2.cell? ⟨g, 7, none⟩ = some (.string s) := G2.cell 7
  have f7'' : ∀ o, (w2.alloc o).cell? ⟨g, 7, none⟩ = some (.string s) := fun o => (G2.alloc o).cell 7
  have f8' : w2.cell? ⟨g, 8, none⟩ = some (.string t) := G2.cell 8
  have f8'' : ∀ o, (w2.alloc o).cell? ⟨g, 8, none⟩ = some (.string t) := fun o => (G2.alloc o).cell 8
  have p0 : w2.cell? ⟨w1.heap.size, 0, none⟩ = some (.int .i64 e1) := P2.out.cell 0
  have p1 : w2.cell? ⟨w1.heap.size, 1, none⟩ = some (.int .i64 e2) := P2.out.cell 1
  have p0' : ∀ o, (w2.alloc o).cell? ⟨w1.heap.size, 0, none⟩ = some (.int .i64 e1) := fun o => (P2.out.alloc o).cell 0
  have p1' : ∀ o, (w2.alloc o).cell? ⟨w1.heap.size, 1, none⟩ = some (.int .i64 e2) := fun o => (P2.out.alloc o).cell 1
  clear hb2 G2
  go_wp2
  go_ret
  exact ⟨.slice a n c, rfl, by rw [HL.out]; exact ⟨_, _, by rw [HLN.out], by rw [HLN.out]; exact N1.out.below hbw.out⟩, below_step HB1.out LG.out hbw.out, adr_same⟩

set_option maxRecDepth 100000 in
set_option maxHeartbeats 4000000 in
theorem rdo_oxn (l : List NodeT) (kd a1 a2 c1 c2 e2 : Int) (s t : ByteArray) (a : Option Addr) (n c : Nat) (w : World) (hn : n ≤ 65535) (HI : Hid (NodesAt w a n l)) (HR : Hid (FindE l (c1, c2) (-1))) (k1 : ¬ kd = 1) (k3 : ¬ kd = 3) (k4 : ¬ kd = 4) (k5 : ¬ kd = 5) :
    Calls Tryz.prog 48 #[.slice a n c, .agg #[.int .i64 kd, .int .i64 a1, .int .i64 a2, .int .i64 c1, .int .i64 c2, .int .i64 0, .int .i64 e2, .string s, .string t]] w fun e w' => ∃ v, e = .returned v ∧ NodesV w' v (l) ∧ Below w.heap.size w w' ∧ AdrV a n w.heap.size v := by
  have hln : l.length = n := HI.out.1
  have HLN : Hid (l.length = n) := hln
  clear hln
  have gk1 : (kd == 1) = false := by rw [beq_eq_false_iff_ne]; exact k1
  have gk3 : (kd == 3) = false := by rw [beq_eq_false_iff_ne]; exact k3
  have gk4 : (kd == 4) = false := by rw [beq_eq_false_iff_ne]; exact k4
  have gk5 : (kd == 5) = false := by rw [beq_eq_false_iff_ne]; exact k5
  obtain ⟨L, HL⟩ : ∃ L, Hid (L = l) := ⟨_, rfl⟩
  show Calls _ _ _ _ fun e w' => ∃ v, e = .returned v ∧ NodesV w' v (l) ∧ Below w.heap.size w w' ∧ AdrV a n w.heap.size v
  rw [← HL.out]
  go_enter Tryz.func48, Tryz.ntmps48
  go_wp2_with fail
  generalize hq : World.alloc w _ = w0
  have hb0 : Hid (Below w.heap.size w w0) := by rw [← hq]; exact below_new w _
  have G0 : Hid (Blk w0 56 w.heap.size #[.int .i64 kd, .int .i64 a1, .int .i64 a2, .int .i64 c1, .int .i64 c2, .int .i64 0, .int .i64 e2, .string s, .string t]) := by show Blk _ _ _ _; rw [← hq]; exact Blk.new _ _ _
  have N0 : Hid (NodesAt w0 a n l) := HI.out.below hb0.out
  obtain ⟨g, hg⟩ : ∃ g, g = w.heap.size := ⟨_, rfl⟩
  rw [← hg] at G0 ⊢
  have LG : Hid (w.heap.size ≤ w.heap.size) := Nat.le_refl _
  clear hq HI hg
  refine (rfind_any l (c1, c2) (-1) HR.out a n c w0 (by omega) N0.out).mono ?_
  rintro e w1 ⟨rfl, hb1⟩
  have HB1 : Hid (Below w.heap.size w w1) := below_step hb0.out LG.out hb1
  have G1 : Hid (Blk w1 56 g #[.int .i64 kd, .int .i64 a1, .int .i64 a2, .int .i64 c1, .int .i64 c2, .int .i64 0, .int .i64 e2, .string s, .string t]) := G0.out.on hb1
  have N1 : Hid (NodesAt w1 a n l) := N0.out.below hb1
  clear hb1 hb0 G0 N0 HR
  have g5 : w1.cell? ⟨g, 5, none⟩ = some (.int .i64 0) := G1.out.cell 5
  have g6 : w1.cell? ⟨g, 6, none⟩ = some (.int .i64 e2) := G1.out.cell 6
  have f0 : ∀ o, (w1.alloc o).cell? ⟨g, 0, none⟩ = some (.int .i64 kd) := fun o => (G1.out.alloc o).cell 0
  have f3 : ∀ o, (w1.alloc o).cell? ⟨g, 3, none⟩ = some (.int .i64 c1) := fun o => (G1.out.alloc o).cell 3
  have f4 : ∀ o, (w1.alloc o).cell? ⟨g, 4, none⟩ = some (.int .i64 c2) := fun o => (G1.out.alloc o).cell 4
  have f7 : ∀ o, (w1.alloc o).cell? ⟨g, 7, none⟩ = some (.string s) := fun o => (G1.out.alloc o).cell 7
  have f8 : ∀ o, (w1.alloc o).cell? ⟨g, 8, none⟩ = some (.string t) := fun o => (G1.out.alloc o).cell 8
  have f0' : ∀ o o', ((w1.alloc o).alloc o').cell? ⟨g, 0, none⟩ = some (.int .i64 kd) := fun o o' => ((G1.out.alloc o).alloc o').cell 0
  have f3' : ∀ o o', ((w1.alloc o).alloc o').cell? ⟨g, 3, none⟩ = some (.int .i64 c1) := fun o o' => ((G1.out.alloc o).alloc o').cell 3
  have f4' : ∀ o o', ((w1.alloc o).alloc o').cell? ⟨g, 4, none⟩ = some (.int .i64 c2) := fun o o' => ((G1.out.alloc o).alloc o').cell 4
  have f7' : ∀ o o', ((w1.alloc o).alloc o').cell? ⟨g, 7, none⟩ = some (.string s) := fun o o' => ((G1.out.alloc o).alloc o').cell 7
  have f8' : ∀ o o', ((w1.alloc o).alloc o').cell? ⟨g, 8, none⟩ = some (.string t) := fun o o' => ((G1.out.alloc o).alloc o').cell 8
  go_wp2
  go_ret
  exact ⟨.slice a n c, rfl, by rw [HL.out]; exact ⟨_, _, by rw [HLN.out], by rw [HLN.out]; exact N1.out.below (below_new w1 _)⟩, below_step HB1.out LG.out (below_new w1 _), adr_same⟩

set_option maxRecDepth 100000 in
set_option maxHeartbeats 4000000 in
theorem rdo_oxu (l : List NodeT) (kd a1 a2 c1 c2 e2 : Int) (s t : ByteArray) (a : Option Addr) (n c j : Nat) (w : World) (hn : n ≤ 65535) (HI : Hid (NodesAt w a n l)) (HR : Hid (FindE l (c1, c2) (j : Int))) (k1 : ¬ kd = 1) (k3 : ¬ kd = 3) (k4 : ¬ kd = 4) (k5 : ¬ kd = 5) (hj : j < n) (HU : Hid (underF l (c1, c2) (n + 1) (0, e2) = true)) :
    Calls Tryz.prog 48 #[.slice a n c, .agg #[.int .i64 kd, .int .i64 a1, .int .i64 a2, .int .i64 c1, .int .i64 c2, .int .i64 0, .int .i64 e2, .string s, .string t]] w fun e w' => ∃ v, e = .returned v ∧ NodesV w' v (l) ∧ Below w.heap.size w w' ∧ AdrV a n w.heap.size v := by
  have hln : l.length = n := HI.out.1
  have HLN : Hid (l.length = n) := hln
  clear hln
  have j0 : (j : Int) < (n : Int) := by omega
  have j1 : ¬ ((j : Int) < 0) := by omega
  have j2 : decide ((j : Int) < 0) = false := by simp
  have j3 : decide ((0 : Int) ≤ (j : Int)) = true := by simp
  have gk1 : (kd == 1) = false := by rw [beq_eq_false_iff_ne]; exact k1
  have gk3 : (kd == 3) = false := by rw [beq_eq_false_iff_ne]; exact k3
  have gk4 : (kd == 4) = false := by rw [beq_eq_false_iff_ne]; exact k4
  have gk5 : (kd == 5) = false := by rw [beq_eq_false_iff_ne]; exact k5
  obtain ⟨Y, hY⟩ : ∃ Y, Y = nL l j := ⟨_, rfl⟩
  obtain ⟨⟨m1, m2⟩, ⟨m3, m4⟩, m5, m6⟩ := Y
  obtain ⟨L, HL⟩ : ∃ L, Hid (L = l) := ⟨_, rfl⟩
  show Calls _ _ _ _ fun e w' => ∃ v, e = .returned v ∧ NodesV w' v (l) ∧ Below w.heap.size w w' ∧ AdrV a n w.heap.size v
  rw [← HL.out]
  have HYY : Hid (((m1, m2), (m3, m4), m5, m6) = nL l j) := hY
  clear hY
  go_enter Tryz.func48, Tryz.ntmps48
  go_wp2_with fail
  generalize hq : World.alloc w _ = w0
  have hb0 : Hid (Below w.heap.size w w0) := by rw [← hq]; exact below_new w _
  have G0 : Hid (Blk w0 56 w.heap.size #[.int .i64 kd, .int .i64 a1, .int .i64 a2, .int .i64 c1, .int .i64 c2, .int .i64 0, .int .i64 e2, .string s, .string t]) := by show Blk _ _ _ _; rw [← hq]; exact Blk.new _ _ _
  have N0 : Hid (NodesAt w0 a n l) := HI.out.below hb0.out
  obtain ⟨g, hg⟩ : ∃ g, g = w.heap.size := ⟨_, rfl⟩
  rw [← hg] at G0 ⊢
  have LG : Hid (w.heap.size ≤ w.heap.size) := Nat.le_refl _
  clear hq HI hg
  refine (rfind_any l (c1, c2) (j : Int) HR.out a n c w0 (by omega) N0.out).mono ?_
  rintro e w1 ⟨rfl, hb1⟩
  have HB1 : Hid (Below w.heap.size w w1) := below_step hb0.out LG.out hb1
  have G1 : Hid (Blk w1 56 g #[.int .i64 kd, .int .i64 a1, .int .i64 a2, .int .i64 c1, .int .i64 c2, .int .i64 0, .int .i64 e2, .string s, .string t]) := G0.out.on hb1
  have N1 : Hid (NodesAt w1 a n l) := N0.out.below hb1
  clear hb1 hb0 G0 N0 HR
  have g5 : w1.cell? ⟨g, 5, none⟩ = some (.int .i64 0) := G1.out.cell 5
  have g6 : w1.cell? ⟨g, 6, none⟩ = some (.int .i64 e2) := G1.out.cell 6
  have f0 : ∀ o, (w1.alloc o).cell? ⟨g, 0, none⟩ = some (.int .i64 kd) := fun o => (G1.out.alloc o).cell 0
  have f3 : ∀ o, (w1.alloc o).cell? ⟨g, 3, none⟩ = some (.int .i64 c1) := fun o => (G1.out.alloc o).cell 3
  have f4 : ∀ o, (w1.alloc o).cell? ⟨g, 4, none⟩ = some (.int .i64 c2) := fun o => (G1.out.alloc o).cell 4
  have f7 : ∀ o, (w1.alloc o).cell? ⟨g, 7, none⟩ = some (.string s) := fun o => (G1.out.alloc o).cell 7
  have f8 : ∀ o, (w1.alloc o).cell? ⟨g, 8, none⟩ = some (.string t) := fun o => (G1.out.alloc o).cell 8
  obtain ⟨b, off, rfl, _⟩ := N1.out.2.some (by omega)
  obtain ⟨q0, q1, q2, q3, q4, q5⟩ := N1.out.cells j hj
  rw [← HYY.out] at q0 q1 q2 q3 q4 q5
  have n0 : ∀ o, (w1.alloc o).cell? ⟨b, off + j * 6, none⟩ = some (.int .i64 m1) := fun o => by rw [(below_new w1 o).cell (World.block_lt_of_cell? w1 _ q0)]; exact q0
  have n1 : ∀ o, (w1.alloc o).cell? ⟨b, off + j * 6 + 1, none⟩ = some (.int .i64 m2) := fun o => by rw [(below_new w1 o).cell (World.block_lt_of_cell? w1 _ q1)]; exact q1
  have n2 : ∀ o, (w1.alloc o).cell? ⟨b, off + j * 6 + 2, none⟩ = some (.int .i64 m3) := fun o => by rw [(below_new w1 o).cell (World.block_lt_of_cell? w1 _ q2)]; exact q2
  have n3 : ∀ o, (w1.alloc o).cell? ⟨b, off + j * 6 + 3, none⟩ = some (.int .i64 m4) := fun o => by rw [(below_new w1 o).cell (World.block_lt_of_cell? w1 _ q3)]; exact q3
  have n4 : ∀ o, (w1.alloc o).cell? ⟨b, off + j * 6 + 4, none⟩ = some (.string m5) := fun o => by rw [(below_new w1 o).cell (World.block_lt_of_cell? w1 _ q4)]; exact q4
  have n5 : ∀ o, (w1.alloc o).cell? ⟨b, off + j * 6 + 5, none⟩ = some (.string m6) := fun o => by rw [(below_new w1 o).cell (World.block_lt_of_cell? w1 _ q5)]; exact q5
  have f0' : ∀ o o', ((w1.alloc o).alloc o').cell? ⟨g, 0, none⟩ = some (.int .i64 kd) := fun o o' => ((G1.out.alloc o).alloc o').cell 0
  have f3' : ∀ o o', ((w1.alloc o).alloc o').cell? ⟨g, 3, none⟩ = some (.int .i64 c1) := fun o o' => ((G1.out.alloc o).alloc o').cell 3
  have f4' : ∀ o o', ((w1.alloc o).alloc o').cell? ⟨g, 4, none⟩ = some (.int .i64 c2) := fun o o' => ((G1.out.alloc o).alloc o').cell 4
  have f7' : ∀ o o', ((w1.alloc o).alloc o').cell? ⟨g, 7, none⟩ = some (.string s) := fun o o' => ((G1.out.alloc o).alloc o').cell 7
  have f8' : ∀ o o', ((w1.alloc o).alloc o').cell? ⟨g, 8, none⟩ = some (.string t) := fun o o' => ((G1.out.alloc o).alloc o').cell 8
  go_wp2_with fail
  have CU := runder_any l (0, e2) (c1, c2) (some ⟨b, off, none⟩) n c ((w1.alloc (.cells #[.int .i64 0, .int .i64 e2] 36)).alloc (.cells #[.int .i64 m1, .int .i64 m2, .int .i64 m3, .int .i64 m4, .string m5, .string m6] 45)) (by omega) (N1.out.below (below_step (below_new w1 _) (Nat.le_refl _) (below_new _ _)))
  rw [HU.out] at CU
  refine CU.mono ?_
  clear CU
  rintro e w3 ⟨rfl, hb3⟩
  have hb13 : Hid (Below w1.heap.size w1 w3) := below_step (below_step (below_new w1 _) (Nat.le_refl _) (below_new _ _)) (Nat.le_refl _) hb3
  clear hb3
  go_wp2
  go_ret
  exact ⟨.slice (some ⟨b, off, none⟩) n c, rfl, by rw [HL.out]; exact ⟨_, _, by rw [HLN.out], by rw [HLN.out]; exact N1.out.below hb13.out⟩, below_step HB1.out LG.out hb13.out, adr_same⟩

set_option maxRecDepth 100000 in
set_option maxHeartbeats 4000000 in
theorem rdo_oxm (l : List NodeT) (kd a1 a2 c1 c2 e2 : Int) (s t : ByteArray) (a : Option Addr) (n c j : Nat) (w : World) (hn : n ≤ 65535) (HI : Hid (NodesAt w a n l)) (HR : Hid (FindE l (c1, c2) (j : Int))) (k1 : ¬ kd = 1) (k3 : ¬ kd = 3) (k4 : ¬ kd = 4) (k5 : ¬ kd = 5) (hj : j < n) (HU : Hid (underF l (c1, c2) (n + 1) (0, e2) = false)) :
    Calls Tryz.prog 48 #[.slice a n c, .agg #[.int .i64 kd, .int .i64 a1, .int .i64 a2, .int .i64 c1, .int .i64 c2, .int .i64 0, .int .i64 e2, .string s, .string t]] w fun e w' => ∃ v, e = .returned v ∧ NodesV w' v (withP l ((nL l j).1, (0, e2), (nL l j).2.2.1, (nL l j).2.2.2)) ∧ Below w.heap.size w w' ∧ AdrV a n w.heap.size v := by
  have hln : l.length = n := HI.out.1
  have HLN : Hid (l.length = n) := hln
  clear hln
  have j0 : (j : Int) < (n : Int) := by omega
  have j1 : ¬ ((j : Int) < 0) := by omega
  have j2 : decide ((j : Int) < 0) = false := by simp
  have j3 : decide ((0 : Int) ≤ (j : Int)) = true := by simp
  have gk1 : (kd == 1) = false := by rw [beq_eq_false_iff_ne]; exact k1
  have gk3 : (kd == 3) = false := by rw [beq_eq_false_iff_ne]; exact k3
  have gk4 : (kd == 4) = false := by rw [beq_eq_false_iff_ne]; exact k4
  have gk5 : (kd == 5) = false := by rw [beq_eq_false_iff_ne]; exact k5
  obtain ⟨Y, hY⟩ : ∃ Y, Y = nL l j := ⟨_, rfl⟩
  rw [← hY]
  obtain ⟨⟨m1, m2⟩, ⟨m3, m4⟩, m5, m6⟩ := Y
  obtain ⟨L, HL⟩ : ∃ L, Hid (L = withP l ((m1, m2), (0, e2), m5, m6)) := ⟨_, rfl⟩
  show Calls _ _ _ _ fun e w' => ∃ v, e = .returned v ∧ NodesV w' v (withP l ((m1, m2), (0, e2), m5, m6)) ∧ Below w.heap.size w w' ∧ AdrV a n w.heap.size v
  rw [← HL.out]
  have HYY : Hid (((m1, m2), (m3, m4), m5, m6) = nL l j) := hY
  clear hY
  go_enter Tryz.func48, Tryz.ntmps48
  go_wp2_with fail
  generalize hq : World.alloc w _ = w0
  have hb0 : Hid (Below w.heap.size w w0) := by rw [← hq]; exact below_new w _
  have G0 : Hid (Blk w0 56 w.heap.size #[.int .i64 kd, .int .i64 a1, .int .i64 a2, .int .i64 c1, .int .i64 c2, .int .i64 0, .int .i64 e2, .string s, .string t]) := by show Blk _ _ _ _; rw [← hq]; exact Blk.new _ _ _
  have N0 : Hid (NodesAt w0 a n l) := HI.out.below hb0.out
  obtain ⟨g, hg⟩ : ∃ g, g = w.heap.size := ⟨_, rfl⟩
  rw [← hg] at G0 ⊢
  have LG : Hid (w.heap.size ≤ w.heap.size) := Nat.le_refl _
  clear hq HI hg
  refine (rfind_any l (c1, c2) (j : Int) HR.out a n c w0 (by omega) N0.out).mono ?_
  rintro e w1 ⟨rfl, hb1⟩
  have HB1 : Hid (Below w.heap.size w w1) := below_step hb0.out LG.out hb1
  have G1 : Hid (Blk w1 56 g #[.int .i64 kd, .int .i64 a1, .int .i64 a2, .int .i64 c1, .int .i64 c2, .int .i64 0, .int .i64 e2, .string s, .string t]) := G0.out.on hb1
  have N1 : Hid (NodesAt w1 a n l) := N0.out.below hb1
  clear hb1 hb0 G0 N0 HR
  have g5 : w1.cell? ⟨g, 5, none⟩ = some (.int .i64 0) := G1.out.cell 5
  have g6 : w1.cell? ⟨g, 6, none⟩ = some (.int .i64 e2) := G1.out.cell 6
  have f0 : ∀ o, (w1.alloc o).cell? ⟨g, 0, none⟩ = some (.int .i64 kd) := fun o => (G1.out.alloc o).cell 0
  have f3 : ∀ o, (w1.alloc o).cell? ⟨g, 3, none⟩ = some (.int .i64 c1) := fun o => (G1.out.alloc o).cell 3
  have f4 : ∀ o, (w1.alloc o).cell? ⟨g, 4, none⟩ = some (.int .i64 c2) := fun o => (G1.out.alloc o).cell 4
  have f7 : ∀ o, (w1.alloc o).cell? ⟨g, 7, none⟩ = some (.string s) := fun o => (G1.out.alloc o).cell 7
  have f8 : ∀ o, (w1.alloc o).cell? ⟨g, 8, none⟩ = some (.string t) := fun o => (G1.out.alloc o).cell 8
  obtain ⟨b, off, rfl, _⟩ := N1.out.2.some (by omega)
  obtain ⟨q0, q1, q2, q3, q4, q5⟩ := N1.out.cells j hj
  rw [← HYY.out] at q0 q1 q2 q3 q4 q5
  have n0 : ∀ o, (w1.alloc o).cell? ⟨b, off + j * 6, none⟩ = some (.int .i64 m1) := fun o => by rw [(below_new w1 o).cell (World.block_lt_of_cell? w1 _ q0)]; exact q0
  have n1 : ∀ o, (w1.alloc o).cell? ⟨b, off + j * 6 + 1, none⟩ = some (.int .i64 m2) := fun o => by rw [(below_new w1 o).cell (World.block_lt_of_cell? w1 _ q1)]; exact q1
  have n2 : ∀ o, (w1.alloc o).cell? ⟨b, off + j * 6 + 2, none⟩ = some (.int .i64 m3) := fun o => by rw [(below_new w1 o).cell (World.block_lt_of_cell? w1 _ q2)]; exact q2
  have n3 : ∀ o, (w1.alloc o).cell? ⟨b, off + j * 6 + 3, none⟩ = some (.int .i64 m4) := fun o => by rw [(below_new w1 o).cell (World.block_lt_of_cell? w1 _ q3)]; exact q3
  have n4 : ∀ o, (w1.alloc o).cell? ⟨b, off + j * 6 + 4, none⟩ = some (.string m5) := fun o => by rw [(below_new w1 o).cell (World.block_lt_of_cell? w1 _ q4)]; exact q4
  have n5 : ∀ o, (w1.alloc o).cell? ⟨b, off + j * 6 + 5, none⟩ = some (.string m6) := fun o => by rw [(below_new w1 o).cell (World.block_lt_of_cell? w1 _ q5)]; exact q5
  have f0' : ∀ o o', ((w1.alloc o).alloc o').cell? ⟨g, 0, none⟩ = some (.int .i64 kd) := fun o o' => ((G1.out.alloc o).alloc o').cell 0
  have f3' : ∀ o o', ((w1.alloc o).alloc o').cell? ⟨g, 3, none⟩ = some (.int .i64 c1) := fun o o' => ((G1.out.alloc o).alloc o').cell 3
  have f4' : ∀ o o', ((w1.alloc o).alloc o').cell? ⟨g, 4, none⟩ = some (.int .i64 c2) := fun o o' => ((G1.out.alloc o).alloc o').cell 4
  have f7' : ∀ o o', ((w1.alloc o).alloc o').cell? ⟨g, 7, none⟩ = some (.string s) := fun o o' => ((G1.out.alloc o).alloc o').cell 7
  have f8' : ∀ o o', ((w1.alloc o).alloc o').cell? ⟨g, 8, none⟩ = some (.string t) := fun o o' => ((G1.out.alloc o).alloc o').cell 8
  go_wp2_with fail
  have CU := runder_any l (0, e2) (c1, c2) (some ⟨b, off, none⟩) n c ((w1.alloc (.cells #[.int .i64 0, .int .i64 e2] 36)).alloc (.cells #[.int .i64 m1, .int .i64 m2, .int .i64 m3, .int .i64 m4, .string m5, .string m6] 45)) (by omega) (N1.out.below (below_step (below_new w1 _) (Nat.le_refl _) (below_new _ _)))
  rw [HU.out] at CU
  refine CU.mono ?_
  clear CU
  rintro e w3 ⟨rfl, hb3⟩
  have hb13 : Hid (Below w1.heap.size w1 w3) := below_step (below_step (below_new w1 _) (Nat.le_refl _) (below_new _ _)) (Nat.le_refl _) hb3
  obtain ⟨k2, hk2⟩ : ∃ k, k = (w1.alloc (.cells #[.int .i64 0, .int .i64 e2] 36)).heap.size := ⟨_, rfl⟩
  have K3 : Hid (Blk w3 45 k2 #[.int .i64 m1, .int .i64 m2, .int .i64 m3, .int .i64 m4, .string m5, .string m6]) := (Blk.new' _ _ _ _ hk2.symm).on hb3
  have P3 : Hid (Blk w3 36 w1.heap.size #[.int .i64 0, .int .i64 e2]) := ((Blk.new w1 _ _).alloc _).on hb3
  have Lk : Hid (w1.heap.size ≤ k2) := by show _ ≤ _; rw [hk2]; simp
  have hk3 : w1.heap.size + 1 = k2 := by rw [hk2]; simp
  try rw [hk3]
  clear hk3
  clear hk2 hb3
  have pp0 : w3.cell? ⟨w1.heap.size, 0, none⟩ = some (.int .i64 0) := P3.out.cell 0
  have pp1 : w3.cell? ⟨w1.heap.size, 1, none⟩ = some (.int .i64 e2) := P3.out.cell 1
  have kc0 : w3.cell? ⟨k2, 0, none⟩ = some (.int .i64 m1) := K3.out.cell 0
  have kc1 : w3.cell? ⟨k2, 1, none⟩ = some (.int .i64 m2) := K3.out.cell 1
  have kc2 : w3.cell? ⟨k2, 2, none⟩ = some (.int .i64 m3) := K3.out.cell 2
  have kc3 : w3.cell? ⟨k2, 3, none⟩ = some (.int .i64 m4) := K3.out.cell 3
  have kc4 : w3.cell? ⟨k2, 4, none⟩ = some (.string m5) := K3.out.cell 4
  have kc5 : w3.cell? ⟨k2, 5, none⟩ = some (.string m6) := K3.out.cell 5
  have fz2 := K3.out.free 2
  have fz3 := K3.out.free 3
  go_wp2_with fail
  refine (rwithV l ((m1, m2), (0, e2), m5, m6) (some ⟨b, off, none⟩) n c _ (by omega) (N1.out.below ((hb13.out.setCell (p := ⟨k2, 2, none⟩) Lk.out _).setCell (p := ⟨k2, 3, none⟩) Lk.out _))).mono ?_
  rintro e w4 ⟨v, rfl, hv, hb4, ha4⟩
  have HV : Hid (NodesV w4 v L) := by rw [HL.out]; exact hv
  have B4 : Hid (Below w.heap.size w w4) := below_step (below_step HB1.out LG.out ((hb13.out.setCell (p := ⟨k2, 2, none⟩) Lk.out _).setCell (p := ⟨k2, 3, none⟩) Lk.out _)) LG.out hb4
  have HA : Hid (AdrV _ n w.heap.size v) := ha4.less (below_step HB1.out LG.out ((hb13.out.setCell (p := ⟨k2, 2, none⟩) Lk.out _).setCell (p := ⟨k2, 3, none⟩) Lk.out _)).size
  clear hv hb4 ha4
  go_wp2
  go_ret
  exact ⟨v, rfl, HV.out, B4.out, HA.out⟩

set_option maxRecDepth 100000 in
set_option maxHeartbeats 4000000 in
theorem rdo_opn (l : List NodeT) (kd a1 a2 c1 c2 e1 e2 : Int) (s t : ByteArray) (a : Option Addr) (n c : Nat) (w : World) (hn : n ≤ 65535) (HI : Hid (NodesAt w a n l)) (HR : Hid (FindE l (c1, c2) (-1))) (k1 : ¬ kd = 1) (k3 : ¬ kd = 3) (k4 : ¬ kd = 4) (k5 : ¬ kd = 5) (hx : ¬ e1 = 0) (r2 : Int) (HR2 : Hid (FindE l (e1, e2) r2)) :
    Calls Tryz.prog 48 #[.slice a n c, .agg #[.int .i64 kd, .int .i64 a1, .int .i64 a2, .int .i64 c1, .int .i64 c2, .int .i64 e1, .int .i64 e2, .string s, .string t]] w fun e w' => ∃ v, e = .returned v ∧ NodesV w' v (l) ∧ Below w.heap.size w w' ∧ AdrV a n w.heap.size v := by
  have hln : l.length = n := HI.out.1
  have HLN : Hid (l.length = n) := hln
  clear hln
  have gx : (e1 == 0) = false := by rw [beq_eq_false_iff_ne]; exact hx
  have gk1 : (kd == 1) = false := by rw [beq_eq_false_iff_ne]; exact k1
  have gk3 : (kd == 3) = false := by rw [beq_eq_false_iff_ne]; exact k3
  have gk4 : (kd == 4) = false := by rw [beq_eq_false_iff_ne]; exact k4
  have gk5 : (kd == 5) = false := by rw [beq_eq_false_iff_ne]; exact k5
  obtain ⟨L, HL⟩ : ∃ L, Hid (L = l) := ⟨_, rfl⟩
  show Calls _ _ _ _ fun e w' => ∃ v, e = .returned v ∧ NodesV w' v (l) ∧ Below w.heap.size w w' ∧ AdrV a n w.heap.size v
  rw [← HL.out]
  go_enter Tryz.func48, Tryz.ntmps48
  go_wp2_with fail
  generalize hq : World.alloc w _ = w0
  have hb0 : Hid (Below w.heap.size w w0) := by rw [← hq]; exact below_new w _
  have G0 : Hid (Blk w0 56 w.heap.size #[.int .i64 kd, .int .i64 a1, .int .i64 a2, .int .i64 c1, .int .i64 c2, .int .i64 e1, .int .i64 e2, .string s, .string t]) := by show Blk _ _ _ _; rw [← hq]; exact Blk.new _ _ _
  have N0 : Hid (NodesAt w0 a n l) := HI.out.below hb0.out
  obtain ⟨g, hg⟩ : ∃ g, g = w.heap.size := ⟨_, rfl⟩
  rw [← hg] at G0 ⊢
  have LG : Hid (w.heap.size ≤ w.heap.size) := Nat.le_refl _
  clear hq HI hg
  refine (rfind_any l (c1, c2) (-1) HR.out a n c w0 (by omega) N0.out).mono ?_
  rintro e w1 ⟨rfl, hb1⟩
  have HB1 : Hid (Below w.heap.size w w1) := below_step hb0.out LG.out hb1
  have G1 : Hid (Blk w1 56 g #[.int .i64 kd, .int .i64 a1, .int .i64 a2, .int .i64 c1, .int .i64 c2, .int .i64 e1, .int .i64 e2, .string s, .string t]) := G0.out.on hb1
  have N1 : Hid (NodesAt w1 a n l) := N0.out.below hb1
  clear hb1 hb0 G0 N0 HR
  have g5 : w1.cell? ⟨g, 5, none⟩ = some (.int .i64 e1) := G1.out.cell 5
  have g6 : w1.cell? ⟨g, 6, none⟩ = some (.int .i64 e2) := G1.out.cell 6
  have f0 : ∀ o, (w1.alloc o).cell? ⟨g, 0, none⟩ = some (.int .i64 kd) := fun o => (G1.out.alloc o).cell 0
  have f3 : ∀ o, (w1.alloc o).cell? ⟨g, 3, none⟩ = some (.int .i64 c1) := fun o => (G1.out.alloc o).cell 3
  have f4 : ∀ o, (w1.alloc o).cell? ⟨g, 4, none⟩ = some (.int .i64 c2) := fun o => (G1.out.alloc o).cell 4
  have f7 : ∀ o, (w1.alloc o).cell? ⟨g, 7, none⟩ = some (.string s) := fun o => (G1.out.alloc o).cell 7
  have f8 : ∀ o, (w1.alloc o).cell? ⟨g, 8, none⟩ = some (.string t) := fun o => (G1.out.alloc o).cell 8
  go_wp2_with fail
  refine (rfind_any l (e1, e2) r2 HR2.out a n c _ (by omega) (N1.out.below (below_new _ _))).mono ?_
  rintro e w2 ⟨rfl, hb2⟩
  have hbw : Hid (Below w1.heap.size w1 w2) := below_step (below_new w1 _) (Nat.le_refl _) hb2
  have P2 : Hid (Blk w2 36 w1.heap.size #[.int .i64 e1, .int .i64 e2]) := (Blk.new w1 _ _).on hb2
  have G2 := G1.out.on hbw.out
  have f0' : w2.cell? ⟨g, 0, none⟩ = some (.int .i64 kd) := G2.cell 0
  have f0'' : ∀ o, (w2.alloc o).cell? ⟨g, 0, none⟩ = some (.int .i64 kd) := fun o => (G2.alloc o).cell 0
  have f3' : w2.cell? ⟨g, 3, none⟩ = some (.int .i64 c1) := G2.cell 3
  have f3'' : ∀ o, (w2.alloc o).cell? ⟨g, 3, none⟩ = some (.int .i64 c1) := fun o => (G2.alloc o).cell 3
  have f4' : w2.cell? ⟨g, 4, none⟩ = some (.int .i64 c2) := G2.cell 4
  have f4'' : ∀ o, (w2.alloc o).cell? ⟨g, 4, none⟩ = some (.int .i64 c2) := fun o => (G2.alloc o).cell 4
  have f7' : w2.cell? ⟨g, 7, none⟩ = some (.string s) := G2.cell 7
  have f7'' : ∀ o, (w2.alloc o).cell? ⟨g, 7, none⟩ = some (.string s) := fun o => (G2.alloc o).cell 7
  have f8' : w2.cell? ⟨g, 8, none⟩ = some (.string t) := G2.cell 8
  have f8'' : ∀ o, (w2.alloc o).cell? ⟨g, 8, none⟩ = some (.string t) := fun o => (G2.alloc o).cell 8
  have p0 : w2.cell? ⟨w1.heap.size, 0, none⟩ = some (.int .i64 e1) := P2.out.cell 0
  have p1 : w2.cell? ⟨w1.heap.size, 1, none⟩ = some (.int .i64 e2) := P2.out.cell 1
  have p0' : ∀ o, (w2.alloc o).cell? ⟨w1.heap.size, 0, none⟩ = some (.int .i64 e1) := fun o => (P2.out.alloc o).cell 0
  have p1' : ∀ o, (w2.alloc o).cell? ⟨w1.heap.size, 1, none⟩ = some (.int .i64 e2) := fun o => (P2.out.alloc o).cell 1
  clear hb2 G2
  go_wp2
  go_ret
  exact ⟨.slice a n c, rfl, by rw [HL.out]; exact ⟨_, _, by rw [HLN.out], by rw [HLN.out]; exact N1.out.below hbw.out⟩, below_step HB1.out LG.out hbw.out, adr_same⟩

set_option maxRecDepth 100000 in
set_option maxHeartbeats 4000000 in
theorem rdo_opf (l : List NodeT) (kd a1 a2 c1 c2 e1 e2 : Int) (s t : ByteArray) (a : Option Addr) (n c j : Nat) (w : World) (hn : n ≤ 65535) (HI : Hid (NodesAt w a n l)) (HR : Hid (FindE l (c1, c2) (j : Int))) (k1 : ¬ kd = 1) (k3 : ¬ kd = 3) (k4 : ¬ kd = 4) (k5 : ¬ kd = 5) (hj : j < n) (hx : ¬ e1 = 0) (r2 : Int) (HR2 : Hid (FindE l (e1, e2) r2)) (hr2 : r2 < 0) :
    Calls Tryz.prog 48 #[.slice a n c, .agg #[.int .i64 kd, .int .i64 a1, .int .i64 a2, .int .i64 c1, .int .i64 c2, .int .i64 e1, .int .i64 e2, .string s, .string t]] w fun e w' => ∃ v, e = .returned v ∧ NodesV w' v (l) ∧ Below w.heap.size w w' ∧ AdrV a n w.heap.size v := by
  have hln : l.length = n := HI.out.1
  have HLN : Hid (l.length = n) := hln
  clear hln
  have j0 : (j : Int) < (n : Int) := by omega
  have j1 : ¬ ((j : Int) < 0) := by omega
  have j2 : decide ((j : Int) < 0) = false := by simp
  have j3 : decide ((0 : Int) ≤ (j : Int)) = true := by simp
  have gx : (e1 == 0) = false := by rw [beq_eq_false_iff_ne]; exact hx
  have gr2 : decide (0 ≤ r2) = false := by simp; exact hr2
  have gk1 : (kd == 1) = false := by rw [beq_eq_false_iff_ne]; exact k1
  have gk3 : (kd == 3) = false := by rw [beq_eq_false_iff_ne]; exact k3
  have gk4 : (kd == 4) = false := by rw [beq_eq_false_iff_ne]; exact k4
  have gk5 : (kd == 5) = false := by rw [beq_eq_false_iff_ne]; exact k5
  obtain ⟨Y, hY⟩ : ∃ Y, Y = nL l j := ⟨_, rfl⟩
  obtain ⟨⟨m1, m2⟩, ⟨m3, m4⟩, m5, m6⟩ := Y
  obtain ⟨L, HL⟩ : ∃ L, Hid (L = l) := ⟨_, rfl⟩
  show Calls _ _ _ _ fun e w' => ∃ v, e = .returned v ∧ NodesV w' v (l) ∧ Below w.heap.size w w' ∧ AdrV a n w.heap.size v
  rw [← HL.out]
  have HYY : Hid (((m1, m2), (m3, m4), m5, m6) = nL l j) := hY
  clear hY
  go_enter Tryz.func48, Tryz.ntmps48
  go_wp2_with fail
  generalize hq : World.alloc w _ = w0
  have hb0 : Hid (Below w.heap.size w w0) := by rw [← hq]; exact below_new w _
  have G0 : Hid (Blk w0 56 w.heap.size #[.int .i64 kd, .int .i64 a1, .int .i64 a2, .int .i64 c1, .int .i64 c2, .int .i64 e1, .int .i64 e2, .string s, .string t]) := by show Blk _ _ _ _; rw [← hq]; exact Blk.new _ _ _
  have N0 : Hid (NodesAt w0 a n l) := HI.out.below hb0.out
  obtain ⟨g, hg⟩ : ∃ g, g = w.heap.size := ⟨_, rfl⟩
  rw [← hg] at G0 ⊢
  have LG : Hid (w.heap.size ≤ w.heap.size) := Nat.le_refl _
  clear hq HI hg
  refine (rfind_any l (c1, c2) (j : Int) HR.out a n c w0 (by omega) N0.out).mono ?_
  rintro e w1 ⟨rfl, hb1⟩
  have HB1 : Hid (Below w.heap.size w w1) := below_step hb0.out LG.out hb1
  have G1 : Hid (Blk w1 56 g #[.int .i64 kd, .int .i64 a1, .int .i64 a2, .int .i64 c1, .int .i64 c2, .int .i64 e1, .int .i64 e2, .string s, .string t]) := G0.out.on hb1
  have N1 : Hid (NodesAt w1 a n l) := N0.out.below hb1
  clear hb1 hb0 G0 N0 HR
  have g5 : w1.cell? ⟨g, 5, none⟩ = some (.int .i64 e1) := G1.out.cell 5
  have g6 : w1.cell? ⟨g, 6, none⟩ = some (.int .i64 e2) := G1.out.cell 6
  have f0 : ∀ o, (w1.alloc o).cell? ⟨g, 0, none⟩ = some (.int .i64 kd) := fun o => (G1.out.alloc o).cell 0
  have f3 : ∀ o, (w1.alloc o).cell? ⟨g, 3, none⟩ = some (.int .i64 c1) := fun o => (G1.out.alloc o).cell 3
  have f4 : ∀ o, (w1.alloc o).cell? ⟨g, 4, none⟩ = some (.int .i64 c2) := fun o => (G1.out.alloc o).cell 4
  have f7 : ∀ o, (w1.alloc o).cell? ⟨g, 7, none⟩ = some (.string s) := fun o => (G1.out.alloc o).cell 7
  have f8 : ∀ o, (w1.alloc o).cell? ⟨g, 8, none⟩ = some (.string t) := fun o => (G1.out.alloc o).cell 8
  obtain ⟨b, off, rfl, _⟩ := N1.out.2.some (by omega)
  obtain ⟨q0, q1, q2, q3, q4, q5⟩ := N1.out.cells j hj
  rw [← HYY.out] at q0 q1 q2 q3 q4 q5
  have n0 : ∀ o, (w1.alloc o).cell? ⟨b, off + j * 6, none⟩ = some (.int .i64 m1) := fun o => by rw [(below_new w1 o).cell (World.block_lt_of_cell? w1 _ q0)]; exact q0
  have n1 : ∀ o, (w1.alloc o).cell? ⟨b, off + j * 6 + 1, none⟩ = some (.int .i64 m2) := fun o => by rw [(below_new w1 o).cell (World.block_lt_of_cell? w1 _ q1)]; exact q1
  have n2 : ∀ o, (w1.alloc o).cell? ⟨b, off + j * 6 + 2, none⟩ = some (.int .i64 m3) := fun o => by rw [(below_new w1 o).cell (World.block_lt_of_cell? w1 _ q2)]; exact q2
  have n3 : ∀ o, (w1.alloc o).cell? ⟨b, off + j * 6 + 3, none⟩ = some (.int .i64 m4) := fun o => by rw [(below_new w1 o).cell (World.block_lt_of_cell? w1 _ q3)]; exact q3
  have n4 : ∀ o, (w1.alloc o).cell? ⟨b, off + j * 6 + 4, none⟩ = some (.string m5) := fun o => by rw [(below_new w1 o).cell (World.block_lt_of_cell? w1 _ q4)]; exact q4
  have n5 : ∀ o, (w1.alloc o).cell? ⟨b, off + j * 6 + 5, none⟩ = some (.string m6) := fun o => by rw [(below_new w1 o).cell (World.block_lt_of_cell? w1 _ q5)]; exact q5
  go_wp2_with fail
  refine (rfind_any l (e1, e2) r2 HR2.out (some ⟨b, off, none⟩) n c _ (by omega) (N1.out.below (below_new _ _))).mono ?_
  rintro e w2 ⟨rfl, hb2⟩
  have hbw : Hid (Below w1.heap.size w1 w2) := below_step (below_new w1 _) (Nat.le_refl _) hb2
  have P2 : Hid (Blk w2 36 w1.heap.size #[.int .i64 e1, .int .i64 e2]) := (Blk.new w1 _ _).on hb2
  have G2 := G1.out.on hbw.out
  have f0' : w2.cell? ⟨g, 0, none⟩ = some (.int .i64 kd) := G2.cell 0
  have f0'' : ∀ o, (w2.alloc o).cell? ⟨g, 0, none⟩ = some (.int .i64 kd) := fun o => (G2.alloc o).cell 0
  have f3' : w2.cell? ⟨g, 3, none⟩ = some (.int .i64 c1) := G2.cell 3
  have f3'' : ∀ o, (w2.alloc o).cell? ⟨g, 3, none⟩ = some (.int .i64 c1) := fun o => (G2.alloc o).cell 3
  have f4' : w2.cell? ⟨g, 4, none⟩ = some (.int .i64 c2) := G2.cell 4
  have f4'' : ∀ o, (w2.alloc o).cell? ⟨g, 4, none⟩ = some (.int .i64 c2) := fun o => (G2.alloc o).cell 4
  have f7' : w2.cell? ⟨g, 7, none⟩ = some (.string s) := G2.cell 7
  have f7'' : ∀ o, (w2.alloc o).cell? ⟨g, 7, none⟩ = some (.string s) := fun o => (G2.alloc o).cell 7
  have f8' : w2.cell? ⟨g, 8, none⟩ = some (.string t) := G2.cell 8
  have f8'' : ∀ o, (w2.alloc o).cell? ⟨g, 8, none⟩ = some (.string t) := fun o => (G2.alloc o).cell 8
  have p0 : w2.cell? ⟨w1.heap.size, 0, none⟩ = some (.int .i64 e1) := P2.out.cell 0
  have p1 : w2.cell? ⟨w1.heap.size, 1, none⟩ = some (.int .i64 e2) := P2.out.cell 1
  have p0' : ∀ o, (w2.alloc o).cell? ⟨w1.heap.size, 0, none⟩ = some (.int .i64 e1) := fun o => (P2.out.alloc o).cell 0
  have p1' : ∀ o, (w2.alloc o).cell? ⟨w1.heap.size, 1, none⟩ = some (.int .i64 e2) := fun o => (P2.out.alloc o).cell 1
  have n0' : w2.cell? ⟨b, off + j * 6, none⟩ = some (.int .i64 m1) := by rw [hbw.out.cell (World.block_lt_of_cell? w1 _ q0)]; exact q0
  have n1' : w2.cell? ⟨b, off + j * 6 + 1, none⟩ = some (.int .i64 m2) := by rw [hbw.out.cell (World.block_lt_of_cell? w1 _ q1)]; exact q1
  have n2' : w2.cell? ⟨b, off + j * 6 + 2, none⟩ = some (.int .i64 m3) := by rw [hbw.out.cell (World.block_lt_of_cell? w1 _ q2)]; exact q2
  have n3' : w2.cell? ⟨b, off + j * 6 + 3, none⟩ = some (.int .i64 m4) := by rw [hbw.out.cell (World.block_lt_of_cell? w1 _ q3)]; exact q3
  have n4' : w2.cell? ⟨b, off + j * 6 + 4, none⟩ = some (.string m5) := by rw [hbw.out.cell (World.block_lt_of_cell? w1 _ q4)]; exact q4
  have n5' : w2.cell? ⟨b, off + j * 6 + 5, none⟩ = some (.string m6) := by rw [hbw.out.cell (World.block_lt_of_cell? w1 _ q5)]; exact q5
  clear hb2 G2
  go_wp2
  go_ret
  exact ⟨.slice (some ⟨b, off, none⟩) n c, rfl, by rw [HL.out]; exact ⟨_, _, by rw [HLN.out], by rw [HLN.out]; exact N1.out.below (below_step hbw.out (Nat.le_refl _) (below_new _ _))⟩, below_step HB1.out LG.out (below_step hbw.out (Nat.le_refl _) (below_new _ _)), adr_same⟩

set_option maxRecDepth 100000 in
set_option maxHeartbeats 4000000 in
theorem rdo_opu (l : List NodeT) (kd a1 a2 c1 c2 e1 e2 : Int) (s t : ByteArray) (a : Option Addr) (n c j : Nat) (w : World) (hn : n ≤ 65535) (HI : Hid (NodesAt w a n l)) (HR : Hid (FindE l (c1, c2) (j : Int))) (k1 : ¬ kd = 1) (k3 : ¬ kd = 3) (k4 : ¬ kd = 4) (k5 : ¬ kd = 5) (hj : j < n) (hx : ¬ e1 = 0) (r2 : Int) (HR2 : Hid (FindE l (e1, e2) r2)) (hr2 : 0 ≤ r2) (HU : Hid (underF l (c1, c2) (n + 1) (e1, e2) = true)) :
    Calls Tryz.prog 48 #[.slice a n c, .agg #[.int .i64 kd, .int .i64 a1, .int .i64 a2, .int .i64 c1, .int .i64 c2, .int .i64 e1, .int .i64 e2, .string s, .string t]] w fun e w' => ∃ v, e = .returned v ∧ NodesV w' v (l) ∧ Below w.heap.size w w' ∧ AdrV a n w.heap.size v := by
  have hln : l.length = n := HI.out.1
  have HLN : Hid (l.length = n) := hln
  clear hln
  have j0 : (j : Int) < (n : Int) := by omega
  have j1 : ¬ ((j : Int) < 0) := by omega
  have j2 : decide ((j : Int) < 0) = false := by simp
  have j3 : decide ((0 : Int) ≤ (j : Int)) = true := by simp
  have gx : (e1 == 0) = false := by rw [beq_eq_false_iff_ne]; exact hx
  have gr2 : decide (0 ≤ r2) = true := by simp; exact hr2
  have gk1 : (kd == 1) = false := by rw [beq_eq_false_iff_ne]; exact k1
  have gk3 : (kd == 3) = false := by rw [beq_eq_false_iff_ne]; exact k3
  have gk4 : (kd == 4) = false := by rw [beq_eq_false_iff_ne]; exact k4
  have gk5 : (kd == 5) = false := by rw [beq_eq_false_iff_ne]; exact k5
  obtain ⟨Y, hY⟩ : ∃ Y, Y = nL l j := ⟨_, rfl⟩
  obtain ⟨⟨m1, m2⟩, ⟨m3, m4⟩, m5, m6⟩ := Y
  obtain ⟨L, HL⟩ : ∃ L, Hid (L = l) := ⟨_, rfl⟩
  show Calls _ _ _ _ fun e w' => ∃ v, e = .returned v ∧ NodesV w' v (l) ∧ Below w.heap.size w w' ∧ AdrV a n w.heap.size v
  rw [← HL.out]
  have HYY : Hid (((m1, m2), (m3, m4), m5, m6) = nL l j) := hY
  clear hY
  go_enter Tryz.func48, Tryz.ntmps48
  go_wp2_with fail
  generalize hq : World.alloc w _ = w0
  have hb0 : Hid (Below w.heap.size w w0) := by rw [← hq]; exact below_new w _
  have G0 : Hid (Blk w0 56 w.heap.size #[.int .i64 kd, .int .i64 a1, .int .i64 a2, .int .i64 c1, .int .i64 c2, .int .i64 e1, .int .i64 e2, .string s, .string t]) := by show Blk _ _ _ _; rw [← hq]; exact Blk.new _ _ _
  have N0 : Hid (NodesAt w0 a n l) := HI.out.below hb0.out
  obtain ⟨g, hg⟩ : ∃ g, g = w.heap.size := ⟨_, rfl⟩
  rw [← hg] at G0 ⊢
  have LG : Hid (w.heap.size ≤ w.heap.size) := Nat.le_refl _
  clear hq HI hg
  refine (rfind_any l (c1, c2) (j : Int) HR.out a n c w0 (by omega) N0.out).mono ?_
  rintro e w1 ⟨rfl, hb1⟩
  have HB1 : Hid (Below w.heap.size w w1) := below_step hb0.out LG.out hb1
  have G1 : Hid (Blk w1 56 g #[.int .i64 kd, .int .i64 a1, .int .i64 a2, .int .i64 c1, .int .i64 c2, .int .i64 e1, .int .i64 e2, .string s, .string t]) := G0.out.on hb1
  have N1 : Hid (NodesAt w1 a n l) := N0.out.below hb1
  clear hb1 hb0 G0 N0 HR
  have g5 : w1.cell? ⟨g, 5, none⟩ = some (.int .i64 e1) := G1.out.cell 5
  have g6 : w1.cell? ⟨g, 6, none⟩ = some (.int .i64 e2) := G1.out.cell 6
  have f0 : ∀ o, (w1.alloc o).cell? ⟨g, 0, none⟩ = some (.int .i64 kd) := fun o => (G1.out.alloc o).cell 0
  have f3 : ∀ o, (w1.alloc o).cell? ⟨g, 3, none⟩ = some (.int .i64 c1) := fun o => (G1.out.alloc o).cell 3
  have f4 : ∀ o, (w1.alloc o).cell? ⟨g, 4, none⟩ = some (.int .i64 c2) := fun o => (G1.out.alloc o).cell 4
  have f7 : ∀ o, (w1.alloc o).cell? ⟨g, 7, none⟩ = some (.string s) := fun o => (G1.out.alloc o).cell 7
  have f8 : ∀ o, (w1.alloc o).cell? ⟨g, 8, none⟩ = some (.string t) := fun o => (G1.out.alloc o).cell 8
  obtain ⟨b, off, rfl, _⟩ := N1.out.2.some (by omega)
  obtain ⟨q0, q1, q2, q3, q4, q5⟩ := N1.out.cells j hj
  rw [← HYY.out] at q0 q1 q2 q3 q4 q5
  have n0 : ∀ o, (w1.alloc o).cell? ⟨b, off + j * 6, none⟩ = some (.int .i64 m1) := fun o => by rw [(below_new w1 o).cell (World.block_lt_of_cell? w1 _ q0)]; exact q0
  have n1 : ∀ o, (w1.alloc o).cell? ⟨b, off + j * 6 + 1, none⟩ = some (.int .i64 m2) := fun o => by rw [(below_new w1 o).cell (World.block_lt_of_cell? w1 _ q1)]; exact q1
  have n2 : ∀ o, (w1.alloc o).cell? ⟨b, off + j * 6 + 2, none⟩ = some (.int .i64 m3) := fun o => by rw [(below_new w1 o).cell (World.block_lt_of_cell? w1 _ q2)]; exact q2
  have n3 : ∀ o, (w1.alloc o).cell? ⟨b, off + j * 6 + 3, none⟩ = some (.int .i64 m4) := fun o => by rw [(below_new w1 o).cell (World.block_lt_of_cell? w1 _ q3)]; exact q3
  have n4 : ∀ o, (w1.alloc o).cell? ⟨b, off + j * 6 + 4, none⟩ = some (.string m5) := fun o => by rw [(below_new w1 o).cell (World.block_lt_of_cell? w1 _ q4)]; exact q4
  have n5 : ∀ o, (w1.alloc o).cell? ⟨b, off + j * 6 + 5, none⟩ = some (.string m6) := fun o => by rw [(below_new w1 o).cell (World.block_lt_of_cell? w1 _ q5)]; exact q5
  go_wp2_with fail
  refine (rfind_any l (e1, e2) r2 HR2.out (some ⟨b, off, none⟩) n c _ (by omega) (N1.out.below (below_new _ _))).mono ?_
  rintro e w2 ⟨rfl, hb2⟩
  have hbw : Hid (Below w1.heap.size w1 w2) := below_step (below_new w1 _) (Nat.le_refl _) hb2
  have P2 : Hid (Blk w2 36 w1.heap.size #[.int .i64 e1, .int .i64 e2]) := (Blk.new w1 _ _).on hb2
  have G2 := G1.out.on hbw.out
  have f0' : w2.cell? ⟨g, 0, none⟩ = some (.int .i64 kd) := G2.cell 0
  have f0'' : ∀ o, (w2.alloc o).cell? ⟨g, 0, none⟩ = some (.int .i64 kd) := fun o => (G2.alloc o).cell 0
  have f3' : w2.cell? ⟨g, 3, none⟩ = some (.int .i64 c1) := G2.cell 3
  have f3'' : ∀ o, (w2.alloc o).cell? ⟨g, 3, none⟩ = some (.int .i64 c1) := fun o => (G2.alloc o).cell 3
  have f4' : w2.cell? ⟨g, 4, none⟩ = some (.int .i64 c2) := G2.cell 4
  have f4'' : ∀ o, (w2.alloc o).cell? ⟨g, 4, none⟩ = some (.int .i64 c2) := fun o => (G2.alloc o).cell 4
  have f7' : w2.cell? ⟨g, 7, none⟩ = some (.string s) := G2.cell 7
  have f7'' : ∀ o, (w2.alloc o).cell? ⟨g, 7, none⟩ = some (.string s) := fun o => (G2.alloc o).cell 7
  have f8' : w2.cell? ⟨g, 8, none⟩ = some (.string t) := G2.cell 8
  have f8'' : ∀ o, (w2.alloc o).cell? ⟨g, 8, none⟩ = some (.string t) := fun o => (G2.alloc o).cell 8
  have p0 : w2.cell? ⟨w1.heap.size, 0, none⟩ = some (.int .i64 e1) := P2.out.cell 0
  have p1 : w2.cell? ⟨w1.heap.size, 1, none⟩ = some (.int .i64 e2) := P2.out.cell 1
  have p0' : ∀ o, (w2.alloc o).cell? ⟨w1.heap.size, 0, none⟩ = some (.int .i64 e1) := fun o => (P2.out.alloc o).cell 0
  have p1' : ∀ o, (w2.alloc o).cell? ⟨w1.heap.size, 1, none⟩ = some (.int .i64 e2) := fun o => (P2.out.alloc o).cell 1
  have n0' : w2.cell? ⟨b, off + j * 6, none⟩ = some (.int .i64 m1) := by rw [hbw.out.cell (World.block_lt_of_cell? w1 _ q0)]; exact q0
  have n1' : w2.cell? ⟨b, off + j * 6 + 1, none⟩ = some (.int .i64 m2) := by rw [hbw.out.cell (World.block_lt_of_cell? w1 _ q1)]; exact q1
  have n2' : w2.cell? ⟨b, off + j * 6 + 2, none⟩ = some (.int .i64 m3) := by rw [hbw.out.cell (World.block_lt_of_cell? w1 _ q2)]; exact q2
  have n3' : w2.cell? ⟨b, off + j * 6 + 3, none⟩ = some (.int .i64 m4) := by rw [hbw.out.cell (World.block_lt_of_cell? w1 _ q3)]; exact q3
  have n4' : w2.cell? ⟨b, off + j * 6 + 4, none⟩ = some (.string m5) := by rw [hbw.out.cell (World.block_lt_of_cell? w1 _ q4)]; exact q4
  have n5' : w2.cell? ⟨b, off + j * 6 + 5, none⟩ = some (.string m6) := by rw [hbw.out.cell (World.block_lt_of_cell? w1 _ q5)]; exact q5
  clear hb2 G2
  go_wp2_with fail
  have CU := runder_any l (e1, e2) (c1, c2) (some ⟨b, off, none⟩) n c ((w2).alloc (.cells #[.int .i64 m1, .int .i64 m2, .int .i64 m3, .int .i64 m4, .string m5, .string m6] 45)) (by omega) (N1.out.below (below_step hbw.out (Nat.le_refl _) (below_new _ _)))
  rw [HU.out] at CU
  refine CU.mono ?_
  clear CU
  rintro e w3 ⟨rfl, hb3⟩
  have hb13 : Hid (Below w1.heap.size w1 w3) := below_step (below_step hbw.out (Nat.le_refl _) (below_new _ _)) (Nat.le_refl _) hb3
  clear hb3
  go_wp2
  go_ret
  exact ⟨.slice (some ⟨b, off, none⟩) n c, rfl, by rw [HL.out]; exact ⟨_, _, by rw [HLN.out], by rw [HLN.out]; exact N1.out.below hb13.out⟩, below_step HB1.out LG.out hb13.out, adr_same⟩

set_option maxRecDepth 100000 in
set_option maxHeartbeats 4000000 in
theorem rdo_opm (l : List NodeT) (kd a1 a2 c1 c2 e1 e2 : Int) (s t : ByteArray) (a : Option Addr) (n c j : Nat) (w : World) (hn : n ≤ 65535) (HI : Hid (NodesAt w a n l)) (HR : Hid (FindE l (c1, c2) (j : Int))) (k1 : ¬ kd = 1) (k3 : ¬ kd = 3) (k4 : ¬ kd = 4) (k5 : ¬ kd = 5) (hj : j < n) (hx : ¬ e1 = 0) (r2 : Int) (HR2 : Hid (FindE l (e1, e2) r2)) (hr2 : 0 ≤ r2) (HU : Hid (underF l (c1, c2) (n + 1) (e1, e2) = false)) :
    Calls Tryz.prog 48 #[.slice a n c, .agg #[.int .i64 kd, .int .i64 a1, .int .i64 a2, .int .i64 c1, .int .i64 c2, .int .i64 e1, .int .i64 e2, .string s, .string t]] w fun e w' => ∃ v, e = .returned v ∧ NodesV w' v (withP l ((nL l j).1, (e1, e2), (nL l j).2.2.1, (nL l j).2.2.2)) ∧ Below w.heap.size w w' ∧ AdrV a n w.heap.size v := by
  have hln : l.length = n := HI.out.1
  have HLN : Hid (l.length = n) := hln
  clear hln
  have j0 : (j : Int) < (n : Int) := by omega
  have j1 : ¬ ((j : Int) < 0) := by omega
  have j2 : decide ((j : Int) < 0) = false := by simp
  have j3 : decide ((0 : Int) ≤ (j : Int)) = true := by simp
  have gx : (e1 == 0) = false := by rw [beq_eq_false_iff_ne]; exact hx
  have gr2 : decide (0 ≤ r2) = true := by simp; exact hr2
  have gk1 : (kd == 1) = false := by rw [beq_eq_false_iff_ne]; exact k1
  have gk3 : (kd == 3) = false := by rw [beq_eq_false_iff_ne]; exact k3
  have gk4 : (kd == 4) = false := by rw [beq_eq_false_iff_ne]; exact k4
  have gk5 : (kd == 5) = false := by rw [beq_eq_false_iff_ne]; exact k5
  obtain ⟨Y, hY⟩ : ∃ Y, Y = nL l j := ⟨_, rfl⟩
  rw [← hY]
  obtain ⟨⟨m1, m2⟩, ⟨m3, m4⟩, m5, m6⟩ := Y
  obtain ⟨L, HL⟩ : ∃ L, Hid (L = withP l ((m1, m2), (e1, e2), m5, m6)) := ⟨_, rfl⟩
  show Calls _ _ _ _ fun e w' => ∃ v, e = .returned v ∧ NodesV w' v (withP l ((m1, m2), (e1, e2), m5, m6)) ∧ Below w.heap.size w w' ∧ AdrV a n w.heap.size v
  rw [← HL.out]
  have HYY : Hid (((m1, m2), (m3, m4), m5, m6) = nL l j) := hY
  clear hY
  go_enter Tryz.func48, Tryz.ntmps48
  go_wp2_with fail
  generalize hq : World.alloc w _ = w0
  have hb0 : Hid (Below w.heap.size w w0) := by rw [← hq]; exact below_new w _
  have G0 : Hid (Blk w0 56 w.heap.size #[.int .i64 kd, .int .i64 a1, .int .i64 a2, .int .i64 c1, .int .i64 c2, .int .i64 e1, .int .i64 e2, .string s, .string t]) := by show Blk _ _ _ _; rw [← hq]; exact Blk.new _ _ _
  have N0 : Hid (NodesAt w0 a n l) := HI.out.below hb0.out
  obtain ⟨g, hg⟩ : ∃ g, g = w.heap.size := ⟨_, rfl⟩
  rw [← hg] at G0 ⊢
  have LG : Hid (w.heap.size ≤ w.heap.size) := Nat.le_refl _
  clear hq HI hg
  refine (rfind_any l (c1, c2) (j : Int) HR.out a n c w0 (by omega) N0.out).mono ?_
  rintro e w1 ⟨rfl, hb1⟩
  have HB1 : Hid (Below w.heap.size w w1) := below_step hb0.out LG.out hb1
  have G1 : Hid (Blk w1 56 g #[.int .i64 kd, .int .i64 a1, .int .i64 a2, .int .i64 c1, .int .i64 c2, .int .i64 e1, .int .i64 e2, .string s, .string t]) := G0.out.on hb1
  have N1 : Hid (NodesAt w1 a n l) := N0.out.below hb1
  clear hb1 hb0 G0 N0 HR
  have g5 : w1.cell? ⟨g, 5, none⟩ = some (.int .i64 e1) := G1.out.cell 5
  have g6 : w1.cell? ⟨g, 6, none⟩ = some (.int .i64 e2) := G1.out.cell 6
  have f0 : ∀ o, (w1.alloc o).cell? ⟨g, 0, none⟩ = some (.int .i64 kd) := fun o => (G1.out.alloc o).cell 0
  have f3 : ∀ o, (w1.alloc o).cell? ⟨g, 3, none⟩ = some (.int .i64 c1) := fun o => (G1.out.alloc o).cell 3
  have f4 : ∀ o, (w1.alloc o).cell? ⟨g, 4, none⟩ = some (.int .i64 c2) := fun o => (G1.out.alloc o).cell 4
  have f7 : ∀ o, (w1.alloc o).cell? ⟨g, 7, none⟩ = some (.string s) := fun o => (G1.out.alloc o).cell 7
  have f8 : ∀ o, (w1.alloc o).cell? ⟨g, 8, none⟩ = some (.string t) := fun o => (G1.out.alloc o).cell 8
  obtain ⟨b, off, rfl, _⟩ := N1.out.2.some (by omega)
  obtain ⟨q0, q1, q2, q3, q4, q5⟩ := N1.out.cells j hj
  rw [← HYY.out] at q0 q1 q2 q3 q4 q5
  have n0 : ∀ o, (w1.alloc o).cell? ⟨b, off + j * 6, none⟩ = some (.int .i64 m1) := fun o => by rw [(below_new w1 o).cell (World.block_lt_of_cell? w1 _ q0)]; exact q0
  have n1 : ∀ o, (w1.alloc o).cell? ⟨b, off + j * 6 + 1, none⟩ = some (.int .i64 m2) := fun o => by rw [(below_new w1 o).cell (World.block_lt_of_cell? w1 _ q1)]; exact q1
  have n2 : ∀ o, (w1.alloc o).cell? ⟨b, off + j * 6 + 2, none⟩ = some (.int .i64 m3) := fun o => by rw [(below_new w1 o).cell (World.block_lt_of_cell? w1 _ q2)]; exact q2
  have n3 : ∀ o, (w1.alloc o).cell? ⟨b, off + j * 6 + 3, none⟩ = some (.int .i64 m4) := fun o => by rw [(below_new w1 o).cell (World.block_lt_of_cell? w1 _ q3)]; exact q3
  have n4 : ∀ o, (w1.alloc o).cell? ⟨b, off + j * 6 + 4, none⟩ = some (.string m5) := fun o => by rw [(below_new w1 o).cell (World.block_lt_of_cell? w1 _ q4)]; exact q4
  have n5 : ∀ o, (w1.alloc o).cell? ⟨b, off + j * 6 + 5, none⟩ = some (.string m6) := fun o => by rw [(below_new w1 o).cell (World.block_lt_of_cell? w1 _ q5)]; exact q5
  go_wp2_with fail
  refine (rfind_any l (e1, e2) r2 HR2.out (some ⟨b, off, none⟩) n c _ (by omega) (N1.out.below (below_new _ _))).mono ?_
  rintro e w2 ⟨rfl, hb2⟩
  have hbw : Hid (Below w1.heap.size w1 w2) := below_step (below_new w1 _) (Nat.le_refl _) hb2
  have P2 : Hid (Blk w2 36 w1.heap.size #[.int .i64 e1, .int .i64 e2]) := (Blk.new w1 _ _).on hb2
  have G2 := G1.out.on hbw.out
  have f0' : w2.cell? ⟨g, 0, none⟩ = some (.int .i64 kd) := G2.cell 0
  have f0'' : ∀ o, (w2.alloc o).cell? ⟨g, 0, none⟩ = some (.int .i64 kd) := fun o => (G2.alloc o).cell 0
  have f3' : w2.cell? ⟨g, 3, none⟩ = some (.int .i64 c1) := G2.cell 3
  have f3'' : ∀ o, (w2.alloc o).cell? ⟨g, 3, none⟩ = some (.int .i64 c1) := fun o => (G2.alloc o).cell 3
  have f4' : w2.cell? ⟨g, 4, none⟩ = some (.int .i64 c2) := G2.cell 4
  have f4'' : ∀ o, (w2.alloc o).cell? ⟨g, 4, none⟩ = some (.int .i64 c2) := fun o => (G2.alloc o).cell 4
  have f7' : w2.cell? ⟨g, 7, none⟩ = some (.string s) := G2.cell 7
  have f7'' : ∀ o, (w2.alloc o).cell? ⟨g, 7, none⟩ = some (.string s) := fun o => (G2.alloc o).cell 7
  have f8' : w2.cell? ⟨g, 8, none⟩ = some (.string t) := G2.cell 8
  have f8'' : ∀ o, (w2.alloc o).cell? ⟨g, 8, none⟩ = some (.string t) := fun o => (G2.alloc o).cell 8
  have p0 : w2.cell? ⟨w1.heap.size, 0, none⟩ = some (.int .i64 e1) := P2.out.cell 0
  have p1 : w2.cell? ⟨w1.heap.size, 1, none⟩ = some (.int .i64 e2) := P2.out.cell 1
  have p0' : ∀ o, (w2.alloc o).cell? ⟨w1.heap.size, 0, none⟩ = some (.int .i64 e1) := fun o => (P2.out.alloc o).cell 0
  have p1' : ∀ o, (w2.alloc o).cell? ⟨w1.heap.size, 1, none⟩ = some (.int .i64 e2) := fun o => (P2.out.alloc o).cell 1
  have n0' : w2.cell? ⟨b, off + j * 6, none⟩ = some (.int .i64 m1) := by rw [hbw.out.cell (World.block_lt_of_cell? w1 _ q0)]; exact q0
  have n1' : w2.cell? ⟨b, off + j * 6 + 1, none⟩ = some (.int .i64 m2) := by rw [hbw.out.cell (World.block_lt_of_cell? w1 _ q1)]; exact q1
  have n2' : w2.cell? ⟨b, off + j * 6 + 2, none⟩ = some (.int .i64 m3) := by rw [hbw.out.cell (World.block_lt_of_cell? w1 _ q2)]; exact q2
  have n3' : w2.cell? ⟨b, off + j * 6 + 3, none⟩ = some (.int .i64 m4) := by rw [hbw.out.cell (World.block_lt_of_cell? w1 _ q3)]; exact q3
  have n4' : w2.cell? ⟨b, off + j * 6 + 4, none⟩ = some (.string m5) := by rw [hbw.out.cell (World.block_lt_of_cell? w1 _ q4)]; exact q4
  have n5' : w2.cell? ⟨b, off + j * 6 + 5, none⟩ = some (.string m6) := by rw [hbw.out.cell (World.block_lt_of_cell? w1 _ q5)]; exact q5
  clear hb2 G2
  go_wp2_with fail
  have CU := runder_any l (e1, e2) (c1, c2) (some ⟨b, off, none⟩) n c ((w2).alloc (.cells #[.int .i64 m1, .int .i64 m2, .int .i64 m3, .int .i64 m4, .string m5, .string m6] 45)) (by omega) (N1.out.below (below_step hbw.out (Nat.le_refl _) (below_new _ _)))
  rw [HU.out] at CU
  refine CU.mono ?_
  clear CU
  rintro e w3 ⟨rfl, hb3⟩
  have hb13 : Hid (Below w1.heap.size w1 w3) := below_step (below_step hbw.out (Nat.le_refl _) (below_new _ _)) (Nat.le_refl _) hb3
  obtain ⟨k2, hk2⟩ : ∃ k, k = (w2).heap.size := ⟨_, rfl⟩
  have K3 : Hid (Blk w3 45 k2 #[.int .i64 m1, .int .i64 m2, .int .i64 m3, .int .i64 m4, .string m5, .string m6]) := (Blk.new' _ _ _ _ hk2.symm).on hb3
  have P3 : Hid (Blk w3 36 w1.heap.size #[.int .i64 e1, .int .i64 e2]) := (P2.out.alloc _).on hb3
  have Lk : Hid (w1.heap.size ≤ k2) := by rw [hk2]; exact hbw.out.size
  rw [← hk2]
  clear hk2 hb3
  have pp0 : w3.cell? ⟨w1.heap.size, 0, none⟩ = some (.int .i64 e1) := P3.out.cell 0
  have pp1 : w3.cell? ⟨w1.heap.size, 1, none⟩ = some (.int .i64 e2) := P3.out.cell 1
  have kc0 : w3.cell? ⟨k2, 0, none⟩ = some (.int .i64 m1) := K3.out.cell 0
  have kc1 : w3.cell? ⟨k2, 1, none⟩ = some (.int .i64 m2) := K3.out.cell 1
  have kc2 : w3.cell? ⟨k2, 2, none⟩ = some (.int .i64 m3) := K3.out.cell 2
  have kc3 : w3.cell? ⟨k2, 3, none⟩ = some (.int .i64 m4) := K3.out.cell 3
  have kc4 : w3.cell? ⟨k2, 4, none⟩ = some (.string m5) := K3.out.cell 4
  have kc5 : w3.cell? ⟨k2, 5, none⟩ = some (.string m6) := K3.out.cell 5
  have fz2 := K3.out.free 2
  have fz3 := K3.out.free 3
  go_wp2_with fail
  refine (rwithV l ((m1, m2), (e1, e2), m5, m6) (some ⟨b, off, none⟩) n c _ (by omega) (N1.out.below ((hb13.out.setCell (p := ⟨k2, 2, none⟩) Lk.out _).setCell (p := ⟨k2, 3, none⟩) Lk.out _))).mono ?_
  rintro e w4 ⟨v, rfl, hv, hb4, ha4⟩
  have HV : Hid (NodesV w4 v L) := by rw [HL.out]; exact hv
  have B4 : Hid (Below w.heap.size w w4) := below_step (below_step HB1.out LG.out ((hb13.out.setCell (p := ⟨k2, 2, none⟩) Lk.out _).setCell (p := ⟨k2, 3, none⟩) Lk.out _)) LG.out hb4
  have HA : Hid (AdrV _ n w.heap.size v) := ha4.less (below_step HB1.out LG.out ((hb13.out.setCell (p := ⟨k2, 2, none⟩) Lk.out _).setCell (p := ⟨k2, 3, none⟩) Lk.out _)).size
  clear hv hb4 ha4
  go_wp2
  go_ret
  exact ⟨v, rfl, HV.out, B4.out, HA.out⟩


theorem rdoR_any (l : List NodeT) (o : OpT) (a : Option Addr) (n c : Nat) (w : World) (hn : n ≤ 65535) (hI : NodesAt w a n l) :
    Calls Tryz.prog 48 #[.slice a n c, .agg (opA o)] w fun e w' => ∃ v, e = .returned v ∧ NodesV w' v (doP l o) ∧ Below w.heap.size w w' ∧ AdrV a n w.heap.size v := by
  obtain ⟨kd, ⟨a1, a2⟩, ⟨c1, c2⟩, ⟨e1, e2⟩, s, t⟩ := o
  have hln : l.length = n := hI.1
  have HR : FindE l (c1, c2) (findI l (c1, c2)) := findI_E l _
  have HR2 : FindE l (e1, e2) (findI l (e1, e2)) := findI_E l _
  show Calls _ _ #[.slice a n c, .agg #[.int .i64 kd, .int .i64 a1, .int .i64 a2, .int .i64 c1, .int .i64 c2, .int .i64 e1, .int .i64 e2, .string s, .string t]] _ _
  unfold doP thereP parO
  rw [hln]
  by_cases k5 : kd = 5
  · subst k5
    rcases findI_lt l (c1, c2) with hr | ⟨j, hr, hj, _⟩
    · rw [hr] at HR
      simp only [hr]
      exact rdo_5no l a1 a2 c1 c2 e1 e2 s t a n c w hn hI HR
    · rw [hr] at HR
      have n1 : ¬ ((j : Int) < 0) := by omega
      cases hU : underF l (c1, c2) (n + 1) (0, 1)
      · simp only [hr, hU, n1, if_true, if_false, Int.reduceEq, Bool.false_eq_true, Int.toNat_natCast]
        exact rdo_5mv l a1 a2 c1 c2 e1 e2 s t a n c j w hn hI HR (by omega) hU
      · simp only [hr, hU, n1, if_true, if_false, Int.reduceEq, Int.toNat_natCast]
        exact rdo_5un l a1 a2 c1 c2 e1 e2 s t a n c j w hn hI HR (by omega) hU
  · by_cases k1 : kd = 1
    · subst k1
      rcases findI_lt l (c1, c2) with hr | ⟨j, hr, hj, _⟩
      · rw [hr] at HR
        have n1 : ¬ ((0 : Int) ≤ -1) := by omega
        by_cases hx : e1 = 0
        · subst hx
          simp only [hr, n1, if_true, if_false, Int.reduceEq]
          exact rdo_1xn l a1 a2 c1 c2 e2 s t a n c w hn hI HR
        · by_cases h2 : 0 ≤ findI l (e1, e2)
          · simp only [hr, n1, if_true, if_false, Int.reduceEq, hx, h2, decide_true]
            exact rdo_1pn l a1 a2 c1 c2 e1 e2 s t a n c w hn hI HR hx _ HR2 h2
          · simp only [hr, n1, if_true, if_false, Int.reduceEq, hx, h2, decide_false, Bool.false_eq_true]
            exact rdo_1pf l a1 a2 c1 c2 e1 e2 s t a n c w hn hI HR hx _ HR2 (by omega)
      · rw [hr] at HR
        have n1 : (0 : Int) ≤ (j : Int) := by omega
        simp only [hr, n1, if_true]
        by_cases hx : e1 = 0
        · subst hx
          exact rdo_1xy l a1 a2 c1 c2 e2 s t a n c j w hn hI HR (by omega)
        · exact rdo_1py l a1 a2 c1 c2 e1 e2 s t a n c j w hn hI HR (by omega) hx _ HR2
    · rcases findI_lt l (c1, c2) with hr | ⟨j, hr, hj, _⟩
      · rw [hr] at HR
        have n1 : (-1 : Int) < 0 := by omega
        simp only [hr, k1, n1, if_true, if_false]
        by_cases hx : e1 = 0
        · subst hx
          by_cases k3 : kd = 3
          · subst k3; exact rdo_3xn l a1 a2 c1 c2 e2 s t a n c w hn hI HR
          · by_cases k4 : kd = 4
            · subst k4; exact rdo_4xn l a1 a2 c1 c2 e2 s t a n c w hn hI HR
            · exact rdo_oxn l kd a1 a2 c1 c2 e2 s t a n c w hn hI HR k1 k3 k4 k5
        · by_cases k3 : kd = 3
          · subst k3; exact rdo_3pn l a1 a2 c1 c2 e1 e2 s t a n c w hn hI HR hx _ HR2
          · by_cases k4 : kd = 4
            · subst k4; exact rdo_4pn l a1 a2 c1 c2 e1 e2 s t a n c w hn hI HR hx _ HR2
            · exact rdo_opn l kd a1 a2 c1 c2 e1 e2 s t a n c w hn hI HR k1 k3 k4 k5 hx _ HR2
      · rw [hr] at HR
        have n1 : ¬ ((j : Int) < 0) := by omega
        by_cases k3 : kd = 3
        · subst k3
          simp only [hr, n1, if_true, if_false, Int.reduceEq, Int.toNat_natCast]
          by_cases hx : e1 = 0
          · subst hx; exact rdo_3xy l a1 a2 c1 c2 e2 s t a n c j w hn hI HR (by omega)
          · exact rdo_3py l a1 a2 c1 c2 e1 e2 s t a n c j w hn hI HR (by omega) hx _ HR2
        · by_cases k4 : kd = 4
          · subst k4
            simp only [hr, n1, if_true, if_false, Int.reduceEq, Int.toNat_natCast]
            by_cases hx : e1 = 0
            · subst hx; exact rdo_4xy l a1 a2 c1 c2 e2 s t a n c j w hn hI HR (by omega)
            · exact rdo_4py l a1 a2 c1 c2 e1 e2 s t a n c j w hn hI HR (by omega) hx _ HR2
          · by_cases hx : e1 = 0
            · subst hx
              cases hU : underF l (c1, c2) (n + 1) (0, e2)
              · simp only [hr, hU, n1, k1, k3, k4, k5, if_true, if_false, Bool.false_eq_true, Int.toNat_natCast]
                exact rdo_oxm l kd a1 a2 c1 c2 e2 s t a n c j w hn hI HR k1 k3 k4 k5 (by omega) hU
              · simp only [hr, hU, n1, k1, k3, k4, k5, if_true, if_false, Int.toNat_natCast]
                exact rdo_oxu l kd a1 a2 c1 c2 e2 s t a n c j w hn hI HR k1 k3 k4 k5 (by omega) hU
            · by_cases h2 : 0 ≤ findI l (e1, e2)
              · cases hU : underF l (c1, c2) (n + 1) (e1, e2)
                · simp only [hr, hU, n1, k1, k3, k4, k5, hx, h2, decide_true, if_true, if_false, Bool.false_eq_true, Int.toNat_natCast]
                  exact rdo_opm l kd a1 a2 c1 c2 e1 e2 s t a n c j w hn hI HR k1 k3 k4 k5 (by omega) hx _ HR2 h2 hU
                · simp only [hr, hU, n1, k1, k3, k4, k5, hx, h2, decide_true, if_true, if_false, Int.toNat_natCast]
                  exact rdo_opu l kd a1 a2 c1 c2 e1 e2 s t a n c j w hn hI HR k1 k3 k4 k5 (by omega) hx _ HR2 h2 hU
              · simp only [hr, n1, k1, k3, k4, k5, hx, h2, decide_false, if_false, Bool.false_eq_true, Int.toNat_natCast]
                exact rdo_opf l kd a1 a2 c1 c2 e1 e2 s t a n c j w hn hI HR k1 k3 k4 k5 (by omega) hx _ HR2 (by omega)

theorem rdo_any (l : List NodeT) (o : OpT) (a : Option Addr) (n c : Nat) (w : World) (hn : n ≤ 65535) (hI : NodesAt w a n l) :
    Calls Tryz.prog 48 #[.slice a n c, .agg (opA o)] w fun e w' => ∃ v, e = .returned v ∧ NodesV w' v (doP l o) ∧ Below w.heap.size w w' :=
  (rdoR_any l o a n c w hn hI).mono fun _ _ ⟨v, h1, h2, h3, _⟩ => ⟨v, h1, h2, h3⟩

end Go.Proofs.YtebnmghjdoblaaaGreatDoor

/- The document's Nodes, Get (layer 11). -/
namespace Go.Proofs.YtebnmghjdoblaaaGreatDoor
open Go.RowKit
set_option linter.unusedSimpArgs false

def TreeV (w : World) (v : Value) (t : TreeT) : Prop := ∃ a1 c1 a2 c2, v = .agg #[.slice a1 t.1.length c1, .slice a2 t.2.1.length c2, .int .i64 t.2.2.1, .int .i64 t.2.2.2] ∧ NodesAt w a1 t.1.length t.1 ∧ OpsAt w a2 t.2.1.length t.2.1 ∧ SliceOk a2 t.2.1.length c2

/-- The rows of a tree's value are old ones, or new. -/
def RowsR (a1 : Option Addr) (n1 : Nat) (a2 : Option Addr) (n2 B : Nat) (v : Value) : Prop := ∃ s1 s2 x y, v = .agg #[s1, s2, x, y] ∧ AdrV a1 n1 B s1 ∧ AdrV a2 n2 B s2

theorem rows_same {a1 a2 : Option Addr} {B n1 c1 n2 c2 : Nat} {x y : Value} : RowsR a1 n1 a2 n2 B (.agg #[.slice a1 n1 c1, .slice a2 n2 c2, x, y]) := ⟨_, _, _, _, rfl, adr_same, adr_same⟩

def TreeW (a1 : Option Addr) (n1 : Nat) (a2 : Option Addr) (n2 B : Nat) (w : World) (v : Value) (t : TreeT) : Prop := TreeV w v t ∧ RowsR a1 n1 a2 n2 B v

theorem adr_trans {a a' : Option Addr} {B B' n0 n c : Nat} {v : Value} (h : AdrV a n0 B (.slice a' n c)) (k : AdrV a' n B' v) (hB : B ≤ B') : AdrV a n0 B v := fun x m d e => by
  rcases k x m d e with ⟨y, rfl, hy, hm⟩ | k
  · rcases h y n c rfl with ⟨z, hz, ez, hn⟩ | h
    · exact .inl ⟨z, hz, ez.trans hy, Nat.le_trans hm hn⟩
    · exact .inr (by omega)
  · exact .inr (Nat.le_trans hB k)

theorem TreeV.on {w w' : World} {v : Value} {t : TreeT} (h : TreeV w v t) (hb : Below w.heap.size w w') : TreeV w' v t := by
  obtain ⟨a1, c1, a2, c2, e, h1, h2, h3⟩ := h
  exact ⟨a1, c1, a2, c2, e, h1.below hb, h2.below hb, h3⟩

def treeA (a1 a2 : Option Addr) (c1 c2 : Nat) (t : TreeT) : Array Value := #[.slice a1 t.1.length c1, .slice a2 t.2.1.length c2, .int .i64 t.2.2.1, .int .i64 t.2.2.2]

set_option maxRecDepth 100000 in
set_option maxHeartbeats 4000000 in
theorem rnodes_any (t : TreeT) (v : Value) (w : World) (hn : t.1.length + t.2.1.length ≤ 60000) (hV : TreeV w v t) :
    Calls Tryz.prog 26 #[v] w fun e w' => ∃ v', e = .returned v' ∧ NodesV w' v' (nodesP t.1 t.2.1) ∧ Below w.heap.size w w' := by
  obtain ⟨fx, ops, b1, b2⟩ := t
  obtain ⟨a1, c1, a2, c2, rfl, h1, h2, h3⟩ := hV
  have H1 : Hid (NodesAt w a1 fx.length fx) := h1
  have H2 : Hid (OpsAt w a2 ops.length ops) := h2
  have hn' : fx.length + ops.length ≤ 60000 := hn
  clear h1 h2 h3 hn
  obtain ⟨g, hg⟩ : ∃ g, g = w.heap.size := ⟨_, rfl⟩
  obtain ⟨w0, hw0⟩ : ∃ w0, w0 = w.alloc (.cells #[.slice a1 fx.length c1, .slice a2 ops.length c2, .int .i64 b1, .int .i64 b2] 53) := ⟨_, rfl⟩
  have hb0 : Hid (Below w.heap.size w w0) := by rw [hw0]; exact below_new _ _
  have G0 : Hid (Blk w0 53 g #[.slice a1 fx.length c1, .slice a2 ops.length c2, .int .i64 b1, .int .i64 b2]) := by show Blk _ _ _ _; rw [hw0]; exact Blk.new' _ _ _ _ hg.symm
  have N0 : Hid (NodesV w0 (.slice a1 fx.length c1) (nodesP fx (ops.take 0))) := by
    rw [List.take_zero]
    exact ⟨a1, c1, rfl, H1.out.below hb0.out⟩
  have O0 : Hid (OpsAt w0 a2 ops.length ops) := H2.out.below hb0.out
  go_enter Tryz.func26, Tryz.ntmps26
  go_wp2_with fail
  try dsimp only
  rw [← hg, ← hw0]
  clear hg hw0 H1 H2
  go_loopw [3, 4] (fun v i wr => ∃ k : Nat, k ≤ ops.length ∧ i = .int .i64 k ∧ Hid (NodesV wr v (nodesP fx (ops.take k))) ∧ Hid (Below w0.heap.size w0 wr)) (fun _ i _ => ops.length - (intOf i).toNat)
  case atStart => exact ⟨0, Nat.zero_le _, rfl, N0, Below.refl _ _⟩
  case round =>
    clear N0
    obtain ⟨k, hk, rfl, N, B⟩ := hrel
    have g1 : wr.cell? ⟨g, 1, none⟩ = some (.slice a2 ops.length c2) := (G0.out.on B.out).cell 1
    by_cases hlt : k < ops.length
    · obtain ⟨b, off, rfl, _⟩ := O0.out.2.some (by omega)
      obtain ⟨q0, q1, q2, q3, q4, q5, q6, q7, q8⟩ := (O0.out.below B.out).cells k hlt
      have d0 : (k : Int) < (ops.length : Int) := by omega
      have d1 : ops.length ≤ 60000 := by omega
      obtain ⟨o, ho⟩ : ∃ o, o = oL ops k := ⟨_, rfl⟩
      have HS : Hid (nodesP fx (ops.take (k + 1)) = doP (nodesP fx (ops.take k)) o) := by rw [ho]; exact nodesP_step fx ops k hlt
      rw [← ho] at q0 q1 q2 q3 q4 q5 q6 q7 q8
      clear ho
      have hlen := nodesP_len fx (ops.take k)
      rw [List.length_take] at hlen
      obtain ⟨L, HL⟩ : ∃ L, Hid (L = nodesP fx (ops.take k)) := ⟨_, rfl⟩
      rw [← HL.out] at HS N hlen
      have hLl : L.length ≤ 65535 := by omega
      clear HL hlen
      obtain ⟨a3, c3, rfl, h3⟩ := N.out
      have C := rdo_any L o a3 L.length c3 wr hLl h3
      obtain ⟨k0, ⟨k1, k2⟩, ⟨k3, k4⟩, ⟨k5, k6⟩, s, t⟩ := o
      have HC : Hid (Calls Tryz.prog 48 #[.slice a3 L.length c3, .agg #[.int .i64 k0, .int .i64 k1, .int .i64 k2, .int .i64 k3, .int .i64 k4, .int .i64 k5, .int .i64 k6, .string s, .string t]] wr fun e w' => ∃ v, e = .returned v ∧ NodesV w' v (doP L (k0, (k1, k2), (k3, k4), (k5, k6), s, t)) ∧ Below wr.heap.size wr w') := C
      clear C h3 N
      go_wp2_with fail
      refine Calls.mono HC.out ?_
      rintro e w1 ⟨v1, rfl, hv1, hb1⟩
      have N1 : Hid (NodesV w1 v1 (nodesP fx (ops.take (k + 1)))) := by rw [HS.out]; exact hv1
      have B1 : Hid (Below w0.heap.size w0 w1) := below_step B.out (Nat.le_refl _) hb1
      clear HC hv1 hb1 B HS
      go_wp2
      refine ⟨⟨k + 1, by omega, by go_num, N1, B1⟩, ?_⟩
      simp [intOf]; omega
    · have hk' : k = ops.length := by omega
      subst hk'
      rw [List.take_length] at N
      go_wp2
      go_ret
      exact ⟨u3, rfl, N.out, below_step hb0.out (Nat.le_refl _) B.out⟩

end Go.Proofs.YtebnmghjdoblaaaGreatDoor

/- The document's Apply (layer 11): the walk. -/
namespace Go.Proofs.YtebnmghjdoblaaaGreatDoor
open Go.RowKit
set_option linter.unusedSimpArgs false

/-- What stands in the three blocks of Apply. -/
theorem apply_blocks (t : TreeT) (o : OpT) (a1 a2 : Option Addr) (c1 c2 : Nat) (w : World) :
    ∃ w0 g, g = w.heap.size ∧ w0 = ((w.alloc (.cells #[.slice a1 t.1.length c1, .slice a2 t.2.1.length c2, .int .i64 t.2.2.1, .int .i64 t.2.2.2] 53)).alloc (.cells #[.int .i64 o.1, .int .i64 o.2.1.1, .int .i64 o.2.1.2, .int .i64 o.2.2.1.1, .int .i64 o.2.2.1.2, .int .i64 o.2.2.2.1.1, .int .i64 o.2.2.2.1.2, .string o.2.2.2.2.1, .string o.2.2.2.2.2] 56)).alloc (.cells #[.slice none 0 0, .slice none 0 0, .int .i64 0, .int .i64 0] 53)
      ∧ Hid (Below w.heap.size w w0) ∧ Hid (Blk w0 53 g #[.slice a1 t.1.length c1, .slice a2 t.2.1.length c2, .int .i64 t.2.2.1, .int .i64 t.2.2.2]) ∧ Hid (Blk w0 56 (g + 1) (opA o)) ∧ Hid (Blk w0 53 (g + 2) #[.slice none 0 0, .slice none 0 0, .int .i64 0, .int .i64 0]) := by
  refine ⟨_, _, rfl, rfl, ?_, ?_, ?_, ?_⟩
  · exact ((below_new _ _).alloc (by simp) _).alloc (by simp; omega) _
  · exact ((Blk.new _ _ _).alloc _).alloc _
  · exact (Blk.new' _ _ _ _ (by simp)).alloc _
  · exact Blk.new' _ _ _ _ (by simp)




set_option maxRecDepth 100000 in
set_option maxHeartbeats 4000000 in
theorem rapply_arg (fx : List NodeT) (ops : List OpT) (b1 b2 k0 k1 k2 k3 k4 k5 k6 : Int) (s t : ByteArray) (a1 a2 : Option Addr) (c1 c2 : Nat) (w : World) (D : Bool) (hs : s.size ≤ 1048576) (ht : t.size ≤ 9223372036854775807)
    (H1 : Hid (NodesAt w a1 fx.length fx)) (H2 : Hid (OpsAt w a2 ops.length ops)) (H3 : Hid (SliceOk a2 ops.length c2)) (hD : D = true ↔ MayO (k0, (k1, k2), (k3, k4), (k5, k6), s, t)) (hA : D = false ∨ ¬ LessS (b1, b2) (k1, k2)) :
    Calls Tryz.prog 25 #[.agg #[.slice a1 fx.length c1, .slice a2 ops.length c2, .int .i64 b1, .int .i64 b2], .agg #[.int .i64 k0, .int .i64 k1, .int .i64 k2, .int .i64 k3, .int .i64 k4, .int .i64 k5, .int .i64 k6, .string s, .string t]] w fun e w' => ∃ v, e = .returned (.tuple #[v, .int .i64 1]) ∧ TreeW a1 fx.length a2 ops.length w.heap.size w' v (fx, ops, (b1, b2)) ∧ Below w.heap.size w w' := by
  obtain ⟨w0, g, hg, hw0, hb0, T0, O0, R0⟩ := apply_blocks (fx, ops, (b1, b2)) (k0, (k1, k2), (k3, k4), (k5, k6), s, t) a1 a2 c1 c2 w
  have CM : Hid (Calls Tryz.prog 46 #[.agg #[.int .i64 k0, .int .i64 k1, .int .i64 k2, .int .i64 k3, .int .i64 k4, .int .i64 k5, .int .i64 k6, .string s, .string t]] w0 fun e w' => e = .returned (.bool D) ∧ Below w0.heap.size w0 w') := rmayO_any (k0, (k1, k2), (k3, k4), (k5, k6), s, t) D hD w0 hs ht
  have Lg : Hid (w.heap.size ≤ g + 2) := by show _ ≤ _; omega
  clear hD
  cases D with
  | false =>
    clear hA
    go_enter Tryz.func25, Tryz.ntmps25
    go_wp2_with fail
    rw [← hg, ← hw0]
    clear hg hw0
    refine Calls.mono CM.out ?_
    rintro e w1 ⟨rfl, hb1⟩
    have T1 : Hid (Blk w1 53 g #[.slice a1 fx.length c1, .slice a2 ops.length c2, .int .i64 b1, .int .i64 b2]) := T0.out.on hb1
    have O1 : Hid (Blk w1 56 (g + 1) #[.int .i64 k0, .int .i64 k1, .int .i64 k2, .int .i64 k3, .int .i64 k4, .int .i64 k5, .int .i64 k6, .string s, .string t]) := O0.out.on hb1
    have R1 : Hid (Blk w1 53 (g + 2) #[.slice none 0 0, .slice none 0 0, .int .i64 0, .int .i64 0]) := R0.out.on hb1
    have B1 : Hid (Below w.heap.size w w1) := below_step hb0.out (Nat.le_refl _) hb1
    clear hb1 CM hb0 T0 O0 R0
    have TT := T1
    have RR := R1
    have BB := B1
    clear T1 R1 B1 O1
    have t0 : World.cell? _ ⟨g, 0, none⟩ = some (.slice a1 fx.length c1) := TT.out.cell 0
    have t1 : World.cell? _ ⟨g, 1, none⟩ = some (.slice a2 ops.length c2) := TT.out.cell 1
    have t2 : World.cell? _ ⟨g, 2, none⟩ = some (.int .i64 b1) := TT.out.cell 2
    have t3 : World.cell? _ ⟨g, 3, none⟩ = some (.int .i64 b2) := TT.out.cell 3
    have HTV : Hid (∀ w', Below w.heap.size w w' → TreeW a1 fx.length a2 ops.length w.heap.size w' (.agg #[.slice a1 fx.length c1, .slice a2 ops.length c2, .int .i64 b1, .int .i64 b2]) (fx, ops, (b1, b2))) := fun w' hb => ⟨⟨a1, c1, a2, c2, rfl, H1.out.below hb, H2.out.below hb, H3.out⟩, rows_same⟩
    go_wp2_with (with_reducible refine wpList_storeBlkH rfl 53 _ _ rfl (g + 2) #[.slice none 0 0, .slice none 0 0, .int .i64 0, .int .i64 0] #[.slice a1 fx.length c1, .slice a2 ops.length c2, .int .i64 b1, .int .i64 b2] ?hx ?hy RR.out rfl ?hi ?h1 ?_)
    case hx => rfl
    case hy => rfl
    case hi => kernel_rfl
    case h1 => simp [Value.oneCell']
    unfold Hid
    go_wp2
    exact bodyPost_rowTmp rfl (g + 2) #[.slice a1 fx.length c1, .slice a2 ops.length c2, .int .i64 b1, .int .i64 b2] _ rfl rfl rfl (RR.out.setRow _) _ Tryz.underlying53 rfl (by kernel_rfl) ⟨_, rfl, HTV.out _ (below_setRow BB.out Lg.out _), below_setRow BB.out Lg.out _⟩
  | true =>
    have hL : ¬ LessS (b1, b2) (k1, k2) := hA.elim (fun h => by cases h) id
    have CL : Hid (∀ w', Calls Tryz.prog 47 #[.agg #[.int .i64 b1, .int .i64 b2], .agg #[.int .i64 k1, .int .i64 k2]] w' fun e w'' => e = .returned (.bool false) ∧ Below w'.heap.size w' w'') := fun w' => by
      have := rless_any (b1, b2) (k1, k2) w'
      rw [decide_eq_false hL] at this; exact this
    clear hA hL
    go_enter Tryz.func25, Tryz.ntmps25
    go_wp2_with fail
    rw [← hg, ← hw0]
    clear hg hw0
    refine Calls.mono CM.out ?_
    rintro e w1 ⟨rfl, hb1⟩
    have T1 : Hid (Blk w1 53 g #[.slice a1 fx.length c1, .slice a2 ops.length c2, .int .i64 b1, .int .i64 b2]) := T0.out.on hb1
    have O1 : Hid (Blk w1 56 (g + 1) #[.int .i64 k0, .int .i64 k1, .int .i64 k2, .int .i64 k3, .int .i64 k4, .int .i64 k5, .int .i64 k6, .string s, .string t]) := O0.out.on hb1
    have R1 : Hid (Blk w1 53 (g + 2) #[.slice none 0 0, .slice none 0 0, .int .i64 0, .int .i64 0]) := R0.out.on hb1
    have B1 : Hid (Below w.heap.size w w1) := below_step hb0.out (Nat.le_refl _) hb1
    clear hb1 CM hb0 T0 O0 R0
    have TT := T1
    have t0 : World.cell? _ ⟨g, 0, none⟩ = some (.slice a1 fx.length c1) := TT.out.cell 0
    have t1 : World.cell? _ ⟨g, 1, none⟩ = some (.slice a2 ops.length c2) := TT.out.cell 1
    have t2 : World.cell? _ ⟨g, 2, none⟩ = some (.int .i64 b1) := TT.out.cell 2
    have t3 : World.cell? _ ⟨g, 3, none⟩ = some (.int .i64 b2) := TT.out.cell 3
    have o1 : World.cell? _ ⟨g + 1, 1, none⟩ = some (.int .i64 k1) := O1.out.cell 1
    have o2 : World.cell? _ ⟨g + 1, 2, none⟩ = some (.int .i64 k2) := O1.out.cell 2
    go_wp2_with fail
    refine (CL.out _).mono ?_
    rintro e w2 ⟨rfl, hb2⟩
    clear t0 t1 t2 t3 TT
    have TT : Hid (Blk w2 53 g #[.slice a1 fx.length c1, .slice a2 ops.length c2, .int .i64 b1, .int .i64 b2]) := T1.out.on hb2
    have RR : Hid (Blk w2 53 (g + 2) #[.slice none 0 0, .slice none 0 0, .int .i64 0, .int .i64 0]) := R1.out.on hb2
    have BB : Hid (Below w.heap.size w w2) := below_step B1.out (Nat.le_refl _) hb2
    clear hb2 T1 R1 B1 O1 CL o1 o2
    have t0 : World.cell? _ ⟨g, 0, none⟩ = some (.slice a1 fx.length c1) := TT.out.cell 0
    have t1 : World.cell? _ ⟨g, 1, none⟩ = some (.slice a2 ops.length c2) := TT.out.cell 1
    have t2 : World.cell? _ ⟨g, 2, none⟩ = some (.int .i64 b1) := TT.out.cell 2
    have t3 : World.cell? _ ⟨g, 3, none⟩ = some (.int .i64 b2) := TT.out.cell 3
    have HTV : Hid (∀ w', Below w.heap.size w w' → TreeW a1 fx.length a2 ops.length w.heap.size w' (.agg #[.slice a1 fx.length c1, .slice a2 ops.length c2, .int .i64 b1, .int .i64 b2]) (fx, ops, (b1, b2))) := fun w' hb => ⟨⟨a1, c1, a2, c2, rfl, H1.out.below hb, H2.out.below hb, H3.out⟩, rows_same⟩
    go_wp2_with (with_reducible refine wpList_storeBlkH rfl 53 _ _ rfl (g + 2) #[.slice none 0 0, .slice none 0 0, .int .i64 0, .int .i64 0] #[.slice a1 fx.length c1, .slice a2 ops.length c2, .int .i64 b1, .int .i64 b2] ?hx ?hy RR.out rfl ?hi ?h1 ?_)
    case hx => rfl
    case hy => rfl
    case hi => kernel_rfl
    case h1 => simp [Value.oneCell']
    unfold Hid
    go_wp2
    exact bodyPost_rowTmp rfl (g + 2) #[.slice a1 fx.length c1, .slice a2 ops.length c2, .int .i64 b1, .int .i64 b2] _ rfl rfl rfl (RR.out.setRow _) _ Tryz.underlying53 rfl (by kernel_rfl) ⟨_, rfl, HTV.out _ (below_setRow BB.out Lg.out _), below_setRow BB.out Lg.out _⟩

end Go.Proofs.YtebnmghjdoblaaaGreatDoor

/- The document's Apply (layer 11): an operation that may be, behind the base. -/
namespace Go.Proofs.YtebnmghjdoblaaaGreatDoor
open Go.RowKit
set_option linter.unusedSimpArgs false

theorem dupO_drop (s : Int × Int) (ops : List OpT) (m : Nat) (h : m < ops.length) (e : (oL ops m).2.1 = s) : dupO s ops = true := by
  unfold dupO
  rw [List.any_eq_true]
  refine ⟨oL ops m, ?_, decide_eq_true e⟩
  unfold oL
  rw [List.getD_eq_getElem?_getD, List.getElem?_eq_getElem h]
  exact List.getElem_mem h


























set_option maxRecDepth 100000 in
set_option maxHeartbeats 4000000 in
theorem rapply_on (fx : List NodeT) (ops : List OpT) (b1 b2 k0 k1 k2 k3 k4 k5 k6 R : Int) (s t : ByteArray) (a1 a2 : Option Addr) (c1 c2 : Nat) (w : World) (Tn : TreeT) (hlen : fx.length + ops.length ≤ 50000) (hs : s.size ≤ 1048576) (ht : t.size ≤ 9223372036854775807)
    (H1 : Hid (NodesAt w a1 fx.length fx)) (H2 : Hid (OpsAt w a2 ops.length ops)) (H3 : Hid (SliceOk a2 ops.length c2)) (hD : true = true ↔ MayO (k0, (k1, k2), (k3, k4), (k5, k6), s, t)) (hA : LessS (b1, b2) (k1, k2))
    (HE : Hid ((Tn, R) = if dupO (k1, k2) ops = true then ((fx, ops, (b1, b2)), 0) else if 512 ≤ ops.length ∨ (k0 = 1 ∧ 512 ≤ fx.length + creO ops) then ((fx, ops, (b1, b2)), 2) else ((fx, putO (k0, (k1, k2), (k3, k4), (k5, k6), s, t) ops, (b1, b2)), 0))) :
    Calls Tryz.prog 25 #[.agg #[.slice a1 fx.length c1, .slice a2 ops.length c2, .int .i64 b1, .int .i64 b2], .agg #[.int .i64 k0, .int .i64 k1, .int .i64 k2, .int .i64 k3, .int .i64 k4, .int .i64 k5, .int .i64 k6, .string s, .string t]] w fun e w' => ∃ v, e = .returned (.tuple #[v, .int .i64 R]) ∧ TreeW a1 fx.length a2 ops.length w.heap.size w' v Tn ∧ Below w.heap.size w w' := by
  obtain ⟨i0, hi, hz0, hz1, hz2⟩ := info_parts Tryz.infoOp
  obtain ⟨w0, g, hg, hw0, hb0, T0, O0, R0⟩ := apply_blocks (fx, ops, (b1, b2)) (k0, (k1, k2), (k3, k4), (k5, k6), s, t) a1 a2 c1 c2 w
  have CM : Hid (Calls Tryz.prog 46 #[.agg #[.int .i64 k0, .int .i64 k1, .int .i64 k2, .int .i64 k3, .int .i64 k4, .int .i64 k5, .int .i64 k6, .string s, .string t]] w0 fun e w' => e = .returned (.bool true) ∧ Below w0.heap.size w0 w') := rmayO_any (k0, (k1, k2), (k3, k4), (k5, k6), s, t) true hD w0 hs ht
  have Lg : Hid (w.heap.size ≤ g + 2) := by show _ ≤ _; omega
  have Lg0 : Hid (w.heap.size ≤ g) := by show _ ≤ _; omega
  have CL : Hid (∀ w', Calls Tryz.prog 47 #[.agg #[.int .i64 b1, .int .i64 b2], .agg #[.int .i64 k1, .int .i64 k2]] w' fun e w'' => e = .returned (.bool true) ∧ Below w'.heap.size w' w'') := fun w' => by
    have := rless_any (b1, b2) (k1, k2) w'
    rw [decide_eq_true hA] at this; exact this
  clear hD hA
  have hl1 : fx.length ≤ 50000 := by omega
  have hl2 : ops.length ≤ 50000 := by omega
  go_enter Tryz.func25, Tryz.ntmps25
  go_wp2_with fail
  rw [← hg, ← hw0]
  clear hg hw0
  refine Calls.mono CM.out ?_
  rintro e w1 ⟨rfl, hb1⟩
  have T1 : Hid (Blk w1 53 g #[.slice a1 fx.length c1, .slice a2 ops.length c2, .int .i64 b1, .int .i64 b2]) := T0.out.on hb1
  have O1 : Hid (Blk w1 56 (g + 1) #[.int .i64 k0, .int .i64 k1, .int .i64 k2, .int .i64 k3, .int .i64 k4, .int .i64 k5, .int .i64 k6, .string s, .string t]) := O0.out.on hb1
  have R1 : Hid (Blk w1 53 (g + 2) #[.slice none 0 0, .slice none 0 0, .int .i64 0, .int .i64 0]) := R0.out.on hb1
  have B1 : Hid (Below w.heap.size w w1) := below_step hb0.out (Nat.le_refl _) hb1
  clear hb1 CM hb0 T0 O0 R0
  have TT := T1
  have t0 : World.cell? _ ⟨g, 0, none⟩ = some (.slice a1 fx.length c1) := TT.out.cell 0
  have t1 : World.cell? _ ⟨g, 1, none⟩ = some (.slice a2 ops.length c2) := TT.out.cell 1
  have t2 : World.cell? _ ⟨g, 2, none⟩ = some (.int .i64 b1) := TT.out.cell 2
  have t3 : World.cell? _ ⟨g, 3, none⟩ = some (.int .i64 b2) := TT.out.cell 3
  have o1 : World.cell? _ ⟨g + 1, 1, none⟩ = some (.int .i64 k1) := O1.out.cell 1
  have o2 : World.cell? _ ⟨g + 1, 2, none⟩ = some (.int .i64 k2) := O1.out.cell 2
  go_wp2_with fail
  refine (CL.out _).mono ?_
  rintro e w2 ⟨rfl, hb2⟩
  clear t0 t1 t2 t3 TT
  have T2 : Hid (Blk w2 53 g #[.slice a1 fx.length c1, .slice a2 ops.length c2, .int .i64 b1, .int .i64 b2]) := T1.out.on hb2
  have O2 : Hid (Blk w2 56 (g + 1) #[.int .i64 k0, .int .i64 k1, .int .i64 k2, .int .i64 k3, .int .i64 k4, .int .i64 k5, .int .i64 k6, .string s, .string t]) := O1.out.on hb2
  have R2 : Hid (Blk w2 53 (g + 2) #[.slice none 0 0, .slice none 0 0, .int .i64 0, .int .i64 0]) := R1.out.on hb2
  have B2 : Hid (Below w.heap.size w w2) := below_step B1.out (Nat.le_refl _) hb2
  clear hb2 T1 R1 B1 O1 CL o1 o2
  have TT := T2
  have t0 : World.cell? _ ⟨g, 0, none⟩ = some (.slice a1 fx.length c1) := TT.out.cell 0
  have t1 : World.cell? _ ⟨g, 1, none⟩ = some (.slice a2 ops.length c2) := TT.out.cell 1
  have t2 : World.cell? _ ⟨g, 2, none⟩ = some (.int .i64 b1) := TT.out.cell 2
  have t3 : World.cell? _ ⟨g, 3, none⟩ = some (.int .i64 b2) := TT.out.cell 3
  go_wp2_with fail
  clear t0 t1 t2 t3 TT
  go_loopw [6, 7, 8] (fun cr kk i wr => ∃ m : Nat, m ≤ ops.length ∧ i = .int .i64 ((m : Int) - 1) ∧ cr = .int .i64 ((fx.length + creO (ops.drop m) : Nat) : Int) ∧ kk = .int .i64 ((m + posO (k1, k2) (ops.drop m) : Nat) : Int) ∧ Hid (dupO (k1, k2) (ops.drop m) = false) ∧ Hid (Below w2.heap.size w2 wr)) (fun _ _ i _ => (intOf i + 1).toNat)
  case atStart =>
    refine ⟨ops.length, Nat.le_refl _, ?_, ?_, ?_, ?_, Below.refl _ _⟩
    · first | rfl | go_num
    · rw [List.drop_length]; first | rfl | go_num
    · rw [List.drop_length]; first | rfl | go_num
    · rw [List.drop_length]; rfl
  case round =>
    obtain ⟨m, hm, rfl, rfl, rfl, HD, B⟩ := hrel
    have TT : Hid (Blk wr 53 g #[.slice a1 fx.length c1, .slice a2 ops.length c2, .int .i64 b1, .int .i64 b2]) := T2.out.on B.out
    have OO : Hid (Blk wr 56 (g + 1) #[.int .i64 k0, .int .i64 k1, .int .i64 k2, .int .i64 k3, .int .i64 k4, .int .i64 k5, .int .i64 k6, .string s, .string t]) := O2.out.on B.out
    have RR : Hid (Blk wr 53 (g + 2) #[.slice none 0 0, .slice none 0 0, .int .i64 0, .int .i64 0]) := R2.out.on B.out
    have BB : Hid (Below w.heap.size w wr) := below_step B2.out (Nat.le_refl _) B.out
    cases m with
    | succ m =>
      have hml : m < ops.length := by omega
      obtain ⟨b, off, rfl, _⟩ := H2.out.2.some (by omega)
      obtain ⟨q0, q1, q2, _⟩ := (H2.out.below BB.out).cells m hml
      have hdr := drop_oL ops m hml
      have hdup := dupO_drop (k1, k2) ops m hml
      obtain ⟨x, hx⟩ : ∃ x, x = oL ops m := ⟨_, rfl⟩
      rw [← hx] at q0 q1 q2 hdr hdup
      clear hx
      have HC : Hid (creO (ops.drop m) = creO (ops.drop (m + 1)) + if x.1 = 1 then 1 else 0) := by show _ = _; rw [hdr]; exact creO_cons _ _
      have HP : Hid (posO (k1, k2) (ops.drop m) = if LessS (k1, k2) x.2.1 then 0 else posO (k1, k2) (ops.drop (m + 1)) + 1) := by show _ = _; rw [hdr]; exact posO_cons _ _ _
      have HDD : Hid (dupO (k1, k2) (ops.drop m) = (decide (x.2.1 = (k1, k2)) || dupO (k1, k2) (ops.drop (m + 1)))) := by show _ = _; rw [hdr]; rfl
      have hC := creO_le (ops.drop (m + 1))
      have hP := posO_le (k1, k2) (ops.drop (m + 1))
      rw [List.length_drop] at hC hP
      obtain ⟨C, HCC⟩ : ∃ C, Hid (C = creO (ops.drop (m + 1))) := ⟨_, rfl⟩
      obtain ⟨P, HPP⟩ : ∃ P, Hid (P = posO (k1, k2) (ops.drop (m + 1))) := ⟨_, rfl⟩
      rw [← HCC.out] at HC hC ⊢
      rw [← HPP.out] at HP hP ⊢
      rw [show ((m + 1 : Nat) : Int) - 1 = (m : Int) by omega]
      clear hdr HCC HPP
      obtain ⟨x0, ⟨x1, x2⟩, xr⟩ := x
      have HS : Hid (∀ w', Below wr.heap.size wr w' → ((w'.cell? ⟨g, 1, none⟩ = some (.slice (some ⟨b, off, none⟩) ops.length c2) ∧ w'.cell? ⟨g + 1, 1, none⟩ = some (.int .i64 k1) ∧ w'.cell? ⟨g + 1, 2, none⟩ = some (.int .i64 k2)) ∧ w'.cell? ⟨b, off + m * 9 + 1, none⟩ = some (.int .i64 x1) ∧ w'.cell? ⟨b, off + m * 9 + 2, none⟩ = some (.int .i64 x2)) ∧ w'.cell? ⟨b, off + m * 9, none⟩ = some (.int .i64 x0)) := fun w' hb => ⟨⟨⟨(TT.out.on hb).cell 1, (OO.out.on hb).cell 1, (OO.out.on hb).cell 2⟩, by rw [hb.cell (World.block_lt_of_cell? wr _ q1)]; exact q1, by rw [hb.cell (World.block_lt_of_cell? wr _ q2)]; exact q2⟩, by rw [hb.cell (World.block_lt_of_cell? wr _ q0)]; exact q0⟩
      clear q0 q1 q2
      have d0 : (m : Int) < (ops.length : Int) := by omega
      have hS0 := (HS.out _ (Below.refl wr.heap.size wr).drew).1
      by_cases heq : (x1, x2) = (k1, k2)
      · have hEq := fun w => stampEq x1 x2 k1 k2 w
        rw [decide_eq_true heq] at hEq
        have he := HE.out
        rw [if_pos (hdup heq)] at he
        obtain ⟨rfl, rfl⟩ : Tn = (fx, ops, (b1, b2)) ∧ R = 0 := ⟨congrArg Prod.fst he, congrArg Prod.snd he⟩
        clear he hdup HC HP HDD heq HE
        go_wp2_with fail
        refine wp_region_noPanic ?_
        refine wp_region_held_drew (S := fun w' => (w'.cell? ⟨g, 1, none⟩ = some (.slice (some ⟨b, off, none⟩) ops.length c2) ∧ w'.cell? ⟨g + 1, 1, none⟩ = some (.int .i64 k1) ∧ w'.cell? ⟨g + 1, 2, none⟩ = some (.int .i64 k2)) ∧ w'.cell? ⟨b, off + m * 9 + 1, none⟩ = some (.int .i64 x1) ∧ w'.cell? ⟨b, off + m * 9 + 2, none⟩ = some (.int .i64 x2)) (by kernel_rfl) (by first | exact trivial | assumption | exact ⟨by assumption, by assumption⟩) (fun hHeld => ?_)
        refine tk 0 (v := ?_) rfl rfl ?_ ?_
        rotate_left
        · intro w hSw; (try dsimp only at hSw); go_simp; try with_reducible rfl
        try simp only [Act.put, za, zb, zc]
        refine tk 1 (v := ?_) rfl rfl ?_ ?_
        rotate_left
        · intro w hSw; (try dsimp only at hSw); go_simp; try with_reducible rfl
        try simp only [Act.put, za, zb, zc]
        refine tk 2 (v := ?_) rfl rfl ?_ ?_
        rotate_left
        · intro w hSw; (try dsimp only at hSw); go_simp; try with_reducible rfl
        try simp only [Act.put, za, zb, zc]
        refine tk 3 (v := ?_) rfl rfl ?_ ?_
        rotate_left
        · intro w hSw; (try dsimp only at hSw); go_simp; try with_reducible rfl
        try simp only [Act.put, za, zb, zc]
        refine tk 4 (v := ?_) rfl rfl ?_ ?_
        rotate_left
        · intro w hSw; (try dsimp only at hSw); go_simp; try with_reducible rfl
        try simp only [Act.put, za, zb, zc]
        refine tk 5 (v := ?_) rfl rfl ?_ ?_
        rotate_left
        · intro w hSw; (try dsimp only at hSw); go_simp; try with_reducible rfl
        try simp only [Act.put, za, zb, zc]
        refine tk 6 (v := ?_) rfl rfl ?_ ?_
        rotate_left
        · intro w hSw; (try dsimp only at hSw); go_simp; try with_reducible rfl
        try simp only [Act.put, za, zb, zc]
        refine tk 7 (v := ?_) rfl rfl ?_ ?_
        rotate_left
        · intro w hSw; (try dsimp only at hSw); go_simp; try with_reducible rfl
        try simp only [Act.put, za, zb, zc]
        refine tk 8 (v := ?_) rfl rfl ?_ ?_
        rotate_left
        · intro w hSw; (try dsimp only at hSw); go_simp; try with_reducible rfl
        try simp only [Act.put, za, zb, zc]
        refine wpAnyH_done (by kernel_rfl) (NoPanic.normal ?_) _
        have hdw : Hid (Below wr.heap.size wr wr.drew) := (Below.refl _ _).drew
        have T3 : Hid (Blk wr.drew 53 g #[.slice a1 fx.length c1, .slice (some ⟨b, off, none⟩) ops.length c2, .int .i64 b1, .int .i64 b2]) := TT.out.on hdw.out
        have R3 : Hid (Blk wr.drew 53 (g + 2) #[.slice none 0 0, .slice none 0 0, .int .i64 0, .int .i64 0]) := RR.out.on hdw.out
        have B3 : Hid (Below w.heap.size w wr.drew) := BB.out.drew
        clear TT RR BB hS0 HS hHeld
        have TT := T3
        have RR := R3
        have BB := B3
        clear T3 R3 B3
        have t0 : World.cell? _ ⟨g, 0, none⟩ = some (.slice a1 fx.length c1) := TT.out.cell 0
        have t1 : World.cell? _ ⟨g, 1, none⟩ = some (.slice (some ⟨b, off, none⟩) ops.length c2) := TT.out.cell 1
        have t2 : World.cell? _ ⟨g, 2, none⟩ = some (.int .i64 b1) := TT.out.cell 2
        have t3 : World.cell? _ ⟨g, 3, none⟩ = some (.int .i64 b2) := TT.out.cell 3
        have HTV : Hid (∀ w', Below w.heap.size w w' → TreeW a1 fx.length (some ⟨b, off, none⟩) ops.length w.heap.size w' (.agg #[.slice a1 fx.length c1, .slice (some ⟨b, off, none⟩) ops.length c2, .int .i64 b1, .int .i64 b2]) (fx, ops, (b1, b2))) := fun w' hb => ⟨⟨a1, c1, _, c2, rfl, H1.out.below hb, H2.out.below hb, H3.out⟩, rows_same⟩
        go_wp2_with (with_reducible refine wpList_storeBlkH rfl 53 _ _ rfl (g + 2) #[.slice none 0 0, .slice none 0 0, .int .i64 0, .int .i64 0] #[.slice a1 fx.length c1, .slice (some ⟨b, off, none⟩) ops.length c2, .int .i64 b1, .int .i64 b2] ?hx ?hy RR.out rfl ?hi ?h1 ?_)
        try (case hx => rfl)
        try (case hy => rfl)
        case hi => first | kernel_rfl | (refine Option.map_eq_some_iff.1 (?_ : (Tryz.prog.info? 53).map (·.size) = some 4); kernel_rfl)
        case h1 => simp [Value.oneCell']
        unfold Hid
        go_wp2
        exact bodyPost_rowTmp rfl (g + 2) #[.slice a1 fx.length c1, .slice (some ⟨b, off, none⟩) ops.length c2, .int .i64 b1, .int .i64 b2] _ rfl rfl rfl (RR.out.setRow _) _ Tryz.underlying53 rfl (by kernel_rfl) ⟨_, rfl, HTV.out _ (below_setRow BB.out Lg.out _), below_setRow BB.out Lg.out _⟩
      · have hEq := fun w => stampEq x1 x2 k1 k2 w
        rw [decide_eq_false heq] at hEq
        have HDn : Hid (dupO (k1, k2) (ops.drop m) = false) := by show _ = _; rw [HDD.out, HD.out, Bool.or_false]; exact decide_eq_false heq
        have CLs := rless_any (k1, k2) (x1, x2)
        clear hdup HDD heq HD
        go_wp2_with fail
        refine wp_region_noPanic ?_
        refine wp_region_held_drew (S := fun w' => (w'.cell? ⟨g, 1, none⟩ = some (.slice (some ⟨b, off, none⟩) ops.length c2) ∧ w'.cell? ⟨g + 1, 1, none⟩ = some (.int .i64 k1) ∧ w'.cell? ⟨g + 1, 2, none⟩ = some (.int .i64 k2)) ∧ w'.cell? ⟨b, off + m * 9 + 1, none⟩ = some (.int .i64 x1) ∧ w'.cell? ⟨b, off + m * 9 + 2, none⟩ = some (.int .i64 x2)) (by kernel_rfl) (by first | exact trivial | assumption | exact ⟨by assumption, by assumption⟩) (fun hHeld => ?_)
        refine tk 0 (v := ?_) rfl rfl ?_ ?_
        rotate_left
        · intro w hSw; (try dsimp only at hSw); go_simp; try with_reducible rfl
        try simp only [Act.put, za, zb, zc]
        refine tk 1 (v := ?_) rfl rfl ?_ ?_
        rotate_left
        · intro w hSw; (try dsimp only at hSw); go_simp; try with_reducible rfl
        try simp only [Act.put, za, zb, zc]
        refine tk 2 (v := ?_) rfl rfl ?_ ?_
        rotate_left
        · intro w hSw; (try dsimp only at hSw); go_simp; try with_reducible rfl
        try simp only [Act.put, za, zb, zc]
        refine tk 3 (v := ?_) rfl rfl ?_ ?_
        rotate_left
        · intro w hSw; (try dsimp only at hSw); go_simp; try with_reducible rfl
        try simp only [Act.put, za, zb, zc]
        refine tk 4 (v := ?_) rfl rfl ?_ ?_
        rotate_left
        · intro w hSw; (try dsimp only at hSw); go_simp; try with_reducible rfl
        try simp only [Act.put, za, zb, zc]
        refine tk 5 (v := ?_) rfl rfl ?_ ?_
        rotate_left
        · intro w hSw; (try dsimp only at hSw); go_simp; try with_reducible rfl
        try simp only [Act.put, za, zb, zc]
        refine tk 6 (v := ?_) rfl rfl ?_ ?_
        rotate_left
        · intro w hSw; (try dsimp only at hSw); go_simp; try with_reducible rfl
        try simp only [Act.put, za, zb, zc]
        refine tk 7 (v := ?_) rfl rfl ?_ ?_
        rotate_left
        · intro w hSw; (try dsimp only at hSw); go_simp; try with_reducible rfl
        try simp only [Act.put, za, zb, zc]
        refine tk 8 (v := ?_) rfl rfl ?_ ?_
        rotate_left
        · intro w hSw; (try dsimp only at hSw); go_simp; try with_reducible rfl
        try simp only [Act.put, za, zb, zc]
        refine wpAnyH_done (by kernel_rfl) (NoPanic.normal ?_) _
        clear hS0 hHeld
        have hdw : Hid (Below wr.heap.size wr wr.drew) := (Below.refl _ _).drew
        have hS0 := (HS.out _ (hdw.out.drew)).1
        have hlc : fx.length + C + 1 ≤ 60000 := by omega
        by_cases hLD : LessS (k1, k2) (x1, x2)
        · rw [if_pos hLD] at HP
          have CLx : Hid (∀ w, Calls Tryz.prog 47 #[.agg #[.int .i64 k1, .int .i64 k2], .agg #[.int .i64 x1, .int .i64 x2]] w fun e w' => e = .returned (.bool true) ∧ Below w.heap.size w w') := fun w => by have := CLs w; rw [decide_eq_true hLD] at this; exact this
          clear CLs hLD
          by_cases hx0 : x0 = 1
          · subst hx0
            rw [if_pos rfl] at HC
            go_wp2_with fail
            refine wp_region_noPanic ?_
            refine wp_region_held_drew (S := fun w' => (w'.cell? ⟨g, 1, none⟩ = some (.slice (some ⟨b, off, none⟩) ops.length c2) ∧ w'.cell? ⟨g + 1, 1, none⟩ = some (.int .i64 k1) ∧ w'.cell? ⟨g + 1, 2, none⟩ = some (.int .i64 k2)) ∧ w'.cell? ⟨b, off + m * 9 + 1, none⟩ = some (.int .i64 x1) ∧ w'.cell? ⟨b, off + m * 9 + 2, none⟩ = some (.int .i64 x2)) (by kernel_rfl) (by first | exact trivial | assumption | exact ⟨by assumption, by assumption⟩) (fun hHeld => ?_)
            refine tk 0 (v := ?_) rfl rfl ?_ ?_
            rotate_left
            · intro w hSw; (try dsimp only at hSw); go_simp; try with_reducible rfl
            try simp only [Act.put, za, zb, zc]
            refine tk 1 (v := ?_) rfl rfl ?_ ?_
            rotate_left
            · intro w hSw; (try dsimp only at hSw); go_simp; try with_reducible rfl
            try simp only [Act.put, za, zb, zc]
            refine tk 2 (v := ?_) rfl rfl ?_ ?_
            rotate_left
            · intro w hSw; (try dsimp only at hSw); go_simp; try with_reducible rfl
            try simp only [Act.put, za, zb, zc]
            refine tk 3 (v := ?_) rfl rfl ?_ ?_
            rotate_left
            · intro w hSw; (try dsimp only at hSw); go_simp; try with_reducible rfl
            try simp only [Act.put, za, zb, zc]
            refine tk 4 (v := ?_) rfl rfl ?_ ?_
            rotate_left
            · intro w hSw; (try dsimp only at hSw); go_simp; try with_reducible rfl
            try simp only [Act.put, za, zb, zc]
            refine tk 5 (v := ?_) rfl rfl ?_ ?_
            rotate_left
            · intro w hSw; (try dsimp only at hSw); go_simp; try with_reducible rfl
            try simp only [Act.put, za, zb, zc]
            refine tk 6 (v := ?_) rfl rfl ?_ ?_
            rotate_left
            · intro w hSw; (try dsimp only at hSw); go_simp; try with_reducible rfl
            try simp only [Act.put, za, zb, zc]
            refine tk 7 (v := ?_) rfl rfl ?_ ?_
            rotate_left
            · intro w hSw; (try dsimp only at hSw); go_simp; try with_reducible rfl
            try simp only [Act.put, za, zb, zc]
            refine wpAnyH_ready (rs := [8]) (by kernel_rfl) (by simp) ?_
            refine AllReadyH.cons rfl (fun K hK => ?_) AllReadyH.nil
            go_simp
            refine (CLx.out _).mono ?_
            rintro e w3 ⟨rfl, hb3⟩
            have hbw : Hid (Below wr.heap.size wr w3) := below_step hdw.out.drew (Nat.le_refl _) hb3
            clear hb3
            refine hK.out _ _ ((HS.out _ hbw.out).1) (fun hHeld => ?_)
            clear hK K
            refine wpAnyH_done (by kernel_rfl) (NoPanic.normal ?_) _
            obtain ⟨⟨⟨z1, _⟩, _⟩, z0⟩ := HS.out _ hbw.out
            have B4 : Hid (Below w2.heap.size w2 w3) := below_step B.out (Nat.le_refl _) hbw.out
            clear hS0 HS hHeld hdw hbw CLx
            go_wp2
            refine ⟨⟨m, by omega, by first | rfl | go_num, by rw [HC.out]; first | rfl | go_num, by rw [HP.out]; first | rfl | go_num, HDn, B4⟩, ?_⟩
            simp [intOf]; try omega
          · have gx0 : (x0 == 1) = false := by rw [beq_eq_false_iff_ne]; exact hx0
            rw [if_neg hx0] at HC
            go_wp2_with fail
            refine wp_region_noPanic ?_
            refine wp_region_held_drew (S := fun w' => (w'.cell? ⟨g, 1, none⟩ = some (.slice (some ⟨b, off, none⟩) ops.length c2) ∧ w'.cell? ⟨g + 1, 1, none⟩ = some (.int .i64 k1) ∧ w'.cell? ⟨g + 1, 2, none⟩ = some (.int .i64 k2)) ∧ w'.cell? ⟨b, off + m * 9 + 1, none⟩ = some (.int .i64 x1) ∧ w'.cell? ⟨b, off + m * 9 + 2, none⟩ = some (.int .i64 x2)) (by kernel_rfl) (by first | exact trivial | assumption | exact ⟨by assumption, by assumption⟩) (fun hHeld => ?_)
            refine tk 0 (v := ?_) rfl rfl ?_ ?_
            rotate_left
            · intro w hSw; (try dsimp only at hSw); go_simp; try with_reducible rfl
            try simp only [Act.put, za, zb, zc]
            refine tk 1 (v := ?_) rfl rfl ?_ ?_
            rotate_left
            · intro w hSw; (try dsimp only at hSw); go_simp; try with_reducible rfl
            try simp only [Act.put, za, zb, zc]
            refine tk 2 (v := ?_) rfl rfl ?_ ?_
            rotate_left
            · intro w hSw; (try dsimp only at hSw); go_simp; try with_reducible rfl
            try simp only [Act.put, za, zb, zc]
            refine tk 3 (v := ?_) rfl rfl ?_ ?_
            rotate_left
            · intro w hSw; (try dsimp only at hSw); go_simp; try with_reducible rfl
            try simp only [Act.put, za, zb, zc]
            refine tk 4 (v := ?_) rfl rfl ?_ ?_
            rotate_left
            · intro w hSw; (try dsimp only at hSw); go_simp; try with_reducible rfl
            try simp only [Act.put, za, zb, zc]
            refine tk 5 (v := ?_) rfl rfl ?_ ?_
            rotate_left
            · intro w hSw; (try dsimp only at hSw); go_simp; try with_reducible rfl
            try simp only [Act.put, za, zb, zc]
            refine tk 6 (v := ?_) rfl rfl ?_ ?_
            rotate_left
            · intro w hSw; (try dsimp only at hSw); go_simp; try with_reducible rfl
            try simp only [Act.put, za, zb, zc]
            refine tk 7 (v := ?_) rfl rfl ?_ ?_
            rotate_left
            · intro w hSw; (try dsimp only at hSw); go_simp; try with_reducible rfl
            try simp only [Act.put, za, zb, zc]
            refine wpAnyH_ready (rs := [8]) (by kernel_rfl) (by simp) ?_
            refine AllReadyH.cons rfl (fun K hK => ?_) AllReadyH.nil
            go_simp
            refine (CLx.out _).mono ?_
            rintro e w3 ⟨rfl, hb3⟩
            have hbw : Hid (Below wr.heap.size wr w3) := below_step hdw.out.drew (Nat.le_refl _) hb3
            clear hb3
            refine hK.out _ _ ((HS.out _ hbw.out).1) (fun hHeld => ?_)
            clear hK K
            refine wpAnyH_done (by kernel_rfl) (NoPanic.normal ?_) _
            obtain ⟨⟨⟨z1, _⟩, _⟩, z0⟩ := HS.out _ hbw.out
            have B4 : Hid (Below w2.heap.size w2 w3) := below_step B.out (Nat.le_refl _) hbw.out
            clear hS0 HS hHeld hdw hbw CLx
            go_wp2
            refine ⟨⟨m, by omega, by first | rfl | go_num, by rw [HC.out]; first | rfl | go_num, by rw [HP.out]; first | rfl | go_num, HDn, B4⟩, ?_⟩
            simp [intOf]; try omega
        · rw [if_neg hLD] at HP
          have CLx : Hid (∀ w, Calls Tryz.prog 47 #[.agg #[.int .i64 k1, .int .i64 k2], .agg #[.int .i64 x1, .int .i64 x2]] w fun e w' => e = .returned (.bool false) ∧ Below w.heap.size w w') := fun w => by have := CLs w; rw [decide_eq_false hLD] at this; exact this
          clear CLs hLD
          by_cases hx0 : x0 = 1
          · subst hx0
            rw [if_pos rfl] at HC
            go_wp2_with fail
            refine wp_region_noPanic ?_
            refine wp_region_held_drew (S := fun w' => (w'.cell? ⟨g, 1, none⟩ = some (.slice (some ⟨b, off, none⟩) ops.length c2) ∧ w'.cell? ⟨g + 1, 1, none⟩ = some (.int .i64 k1) ∧ w'.cell? ⟨g + 1, 2, none⟩ = some (.int .i64 k2)) ∧ w'.cell? ⟨b, off + m * 9 + 1, none⟩ = some (.int .i64 x1) ∧ w'.cell? ⟨b, off + m * 9 + 2, none⟩ = some (.int .i64 x2)) (by kernel_rfl) (by first | exact trivial | assumption | exact ⟨by assumption, by assumption⟩) (fun hHeld => ?_)
            refine tk 0 (v := ?_) rfl rfl ?_ ?_
            rotate_left
            · intro w hSw; (try dsimp only at hSw); go_simp; try with_reducible rfl
            try simp only [Act.put, za, zb, zc]
            refine tk 1 (v := ?_) rfl rfl ?_ ?_
            rotate_left
            · intro w hSw; (try dsimp only at hSw); go_simp; try with_reducible rfl
            try simp only [Act.put, za, zb, zc]
            refine tk 2 (v := ?_) rfl rfl ?_ ?_
            rotate_left
            · intro w hSw; (try dsimp only at hSw); go_simp; try with_reducible rfl
            try simp only [Act.put, za, zb, zc]
            refine tk 3 (v := ?_) rfl rfl ?_ ?_
            rotate_left
            · intro w hSw; (try dsimp only at hSw); go_simp; try with_reducible rfl
            try simp only [Act.put, za, zb, zc]
            refine tk 4 (v := ?_) rfl rfl ?_ ?_
            rotate_left
            · intro w hSw; (try dsimp only at hSw); go_simp; try with_reducible rfl
            try simp only [Act.put, za, zb, zc]
            refine tk 5 (v := ?_) rfl rfl ?_ ?_
            rotate_left
            · intro w hSw; (try dsimp only at hSw); go_simp; try with_reducible rfl
            try simp only [Act.put, za, zb, zc]
            refine tk 6 (v := ?_) rfl rfl ?_ ?_
            rotate_left
            · intro w hSw; (try dsimp only at hSw); go_simp; try with_reducible rfl
            try simp only [Act.put, za, zb, zc]
            refine tk 7 (v := ?_) rfl rfl ?_ ?_
            rotate_left
            · intro w hSw; (try dsimp only at hSw); go_simp; try with_reducible rfl
            try simp only [Act.put, za, zb, zc]
            refine wpAnyH_ready (rs := [8]) (by kernel_rfl) (by simp) ?_
            refine AllReadyH.cons rfl (fun K hK => ?_) AllReadyH.nil
            go_simp
            refine (CLx.out _).mono ?_
            rintro e w3 ⟨rfl, hb3⟩
            have hbw : Hid (Below wr.heap.size wr w3) := below_step hdw.out.drew (Nat.le_refl _) hb3
            clear hb3
            refine hK.out _ _ ((HS.out _ hbw.out).1) (fun hHeld => ?_)
            clear hK K
            refine wpAnyH_done (by kernel_rfl) (NoPanic.normal ?_) _
            obtain ⟨⟨⟨z1, _⟩, _⟩, z0⟩ := HS.out _ hbw.out
            have B4 : Hid (Below w2.heap.size w2 w3) := below_step B.out (Nat.le_refl _) hbw.out
            clear hS0 HS hHeld hdw hbw CLx
            go_wp2
            refine ⟨⟨m, by omega, by first | rfl | go_num, by rw [HC.out]; first | rfl | go_num, by rw [HP.out]; first | rfl | go_num, HDn, B4⟩, ?_⟩
            simp [intOf]; try omega
          · have gx0 : (x0 == 1) = false := by rw [beq_eq_false_iff_ne]; exact hx0
            rw [if_neg hx0] at HC
            go_wp2_with fail
            refine wp_region_noPanic ?_
            refine wp_region_held_drew (S := fun w' => (w'.cell? ⟨g, 1, none⟩ = some (.slice (some ⟨b, off, none⟩) ops.length c2) ∧ w'.cell? ⟨g + 1, 1, none⟩ = some (.int .i64 k1) ∧ w'.cell? ⟨g + 1, 2, none⟩ = some (.int .i64 k2)) ∧ w'.cell? ⟨b, off + m * 9 + 1, none⟩ = some (.int .i64 x1) ∧ w'.cell? ⟨b, off + m * 9 + 2, none⟩ = some (.int .i64 x2)) (by kernel_rfl) (by first | exact trivial | assumption | exact ⟨by assumption, by assumption⟩) (fun hHeld => ?_)
            refine tk 0 (v := ?_) rfl rfl ?_ ?_
            rotate_left
            · intro w hSw; (try dsimp only at hSw); go_simp; try with_reducible rfl
            try simp only [Act.put, za, zb, zc]
            refine tk 1 (v := ?_) rfl rfl ?_ ?_
            rotate_left
            · intro w hSw; (try dsimp only at hSw); go_simp; try with_reducible rfl
            try simp only [Act.put, za, zb, zc]
            refine tk 2 (v := ?_) rfl rfl ?_ ?_
            rotate_left
            · intro w hSw; (try dsimp only at hSw); go_simp; try with_reducible rfl
            try simp only [Act.put, za, zb, zc]
            refine tk 3 (v := ?_) rfl rfl ?_ ?_
            rotate_left
            · intro w hSw; (try dsimp only at hSw); go_simp; try with_reducible rfl
            try simp only [Act.put, za, zb, zc]
            refine tk 4 (v := ?_) rfl rfl ?_ ?_
            rotate_left
            · intro w hSw; (try dsimp only at hSw); go_simp; try with_reducible rfl
            try simp only [Act.put, za, zb, zc]
            refine tk 5 (v := ?_) rfl rfl ?_ ?_
            rotate_left
            · intro w hSw; (try dsimp only at hSw); go_simp; try with_reducible rfl
            try simp only [Act.put, za, zb, zc]
            refine tk 6 (v := ?_) rfl rfl ?_ ?_
            rotate_left
            · intro w hSw; (try dsimp only at hSw); go_simp; try with_reducible rfl
            try simp only [Act.put, za, zb, zc]
            refine tk 7 (v := ?_) rfl rfl ?_ ?_
            rotate_left
            · intro w hSw; (try dsimp only at hSw); go_simp; try with_reducible rfl
            try simp only [Act.put, za, zb, zc]
            refine wpAnyH_ready (rs := [8]) (by kernel_rfl) (by simp) ?_
            refine AllReadyH.cons rfl (fun K hK => ?_) AllReadyH.nil
            go_simp
            refine (CLx.out _).mono ?_
            rintro e w3 ⟨rfl, hb3⟩
            have hbw : Hid (Below wr.heap.size wr w3) := below_step hdw.out.drew (Nat.le_refl _) hb3
            clear hb3
            refine hK.out _ _ ((HS.out _ hbw.out).1) (fun hHeld => ?_)
            clear hK K
            refine wpAnyH_done (by kernel_rfl) (NoPanic.normal ?_) _
            obtain ⟨⟨⟨z1, _⟩, _⟩, z0⟩ := HS.out _ hbw.out
            have B4 : Hid (Below w2.heap.size w2 w3) := below_step B.out (Nat.le_refl _) hbw.out
            clear hS0 HS hHeld hdw hbw CLx
            go_wp2
            refine ⟨⟨m, by omega, by first | rfl | go_num, by rw [HC.out]; first | rfl | go_num, by rw [HP.out]; first | rfl | go_num, HDn, B4⟩, ?_⟩
            simp [intOf]; try omega
    | zero =>
      rw [List.drop_zero] at HD ⊢
      rw [Nat.zero_add]
      have he := HE.out
      rw [if_neg (by rw [HD.out]; decide)] at he
      have hC := creO_le ops
      have hP := posO_le (k1, k2) ops
      obtain ⟨C, HCC⟩ : ∃ C, Hid (C = creO ops) := ⟨_, rfl⟩
      obtain ⟨P, HPP⟩ : ∃ P, Hid (P = posO (k1, k2) ops) := ⟨_, rfl⟩
      rw [← HCC.out] at he hC ⊢
      rw [← HPP.out] at hP ⊢
      clear HD HE
      have o0 : wr.cell? ⟨g + 1, 0, none⟩ = some (.int .i64 k0) := OO.out.cell 0
      by_cases hfull : 512 ≤ ops.length ∨ (k0 = 1 ∧ 512 ≤ fx.length + C)
      · rw [if_pos hfull] at he
        obtain ⟨rfl, rfl⟩ : Tn = (fx, ops, (b1, b2)) ∧ R = 2 := ⟨congrArg Prod.fst he, congrArg Prod.snd he⟩
        clear he
        by_cases hf1 : 512 ≤ ops.length
        · have gf : decide ((512 : Int) ≤ (ops.length : Int)) = true := by simp; omega
          have t0 : World.cell? _ ⟨g, 0, none⟩ = some (.slice a1 fx.length c1) := TT.out.cell 0
          have t1 : World.cell? _ ⟨g, 1, none⟩ = some (.slice a2 ops.length c2) := TT.out.cell 1
          have t2 : World.cell? _ ⟨g, 2, none⟩ = some (.int .i64 b1) := TT.out.cell 2
          have t3 : World.cell? _ ⟨g, 3, none⟩ = some (.int .i64 b2) := TT.out.cell 3
          have HTV : Hid (∀ w', Below w.heap.size w w' → TreeW a1 fx.length a2 ops.length w.heap.size w' (.agg #[.slice a1 fx.length c1, .slice a2 ops.length c2, .int .i64 b1, .int .i64 b2]) (fx, ops, (b1, b2))) := fun w' hb => ⟨⟨a1, c1, a2, c2, rfl, H1.out.below hb, H2.out.below hb, H3.out⟩, rows_same⟩
          go_wp2_with (with_reducible refine wpList_storeBlkH rfl 53 _ _ rfl (g + 2) #[.slice none 0 0, .slice none 0 0, .int .i64 0, .int .i64 0] #[.slice a1 fx.length c1, .slice a2 ops.length c2, .int .i64 b1, .int .i64 b2] ?hx ?hy RR.out rfl ?hi ?h1 ?_)
          try (case hx => rfl)
          try (case hy => rfl)
          case hi => first | kernel_rfl | (refine Option.map_eq_some_iff.1 (?_ : (Tryz.prog.info? 53).map (·.size) = some 4); kernel_rfl)
          case h1 => simp [Value.oneCell']
          unfold Hid
          go_wp2
          exact bodyPost_rowTmp rfl (g + 2) #[.slice a1 fx.length c1, .slice a2 ops.length c2, .int .i64 b1, .int .i64 b2] _ rfl rfl rfl (RR.out.setRow _) _ Tryz.underlying53 rfl (by kernel_rfl) ⟨_, rfl, HTV.out _ (below_setRow BB.out Lg.out _), below_setRow BB.out Lg.out _⟩
        · have gf : decide ((512 : Int) ≤ (ops.length : Int)) = false := by simp; omega
          have hf2 : k0 = 1 ∧ 512 ≤ fx.length + C := hfull.elim (fun h => absurd h hf1) id
          obtain ⟨rfl, hf3⟩ := hf2
          have gf2 : decide ((512 : Int) ≤ ((fx.length + C : Nat) : Int)) = true := by simp; omega
          have gf3 : (512 : Int) ≤ (fx.length : Int) + (C : Int) := by omega
          have t0 : World.cell? _ ⟨g, 0, none⟩ = some (.slice a1 fx.length c1) := TT.out.cell 0
          have t1 : World.cell? _ ⟨g, 1, none⟩ = some (.slice a2 ops.length c2) := TT.out.cell 1
          have t2 : World.cell? _ ⟨g, 2, none⟩ = some (.int .i64 b1) := TT.out.cell 2
          have t3 : World.cell? _ ⟨g, 3, none⟩ = some (.int .i64 b2) := TT.out.cell 3
          have HTV : Hid (∀ w', Below w.heap.size w w' → TreeW a1 fx.length a2 ops.length w.heap.size w' (.agg #[.slice a1 fx.length c1, .slice a2 ops.length c2, .int .i64 b1, .int .i64 b2]) (fx, ops, (b1, b2))) := fun w' hb => ⟨⟨a1, c1, a2, c2, rfl, H1.out.below hb, H2.out.below hb, H3.out⟩, rows_same⟩
          go_wp2_with (with_reducible refine wpList_storeBlkH rfl 53 _ _ rfl (g + 2) #[.slice none 0 0, .slice none 0 0, .int .i64 0, .int .i64 0] #[.slice a1 fx.length c1, .slice a2 ops.length c2, .int .i64 b1, .int .i64 b2] ?hxV ?hyV RR.out rfl ?hiV ?h1V ?_)
          try (case hxV => rfl)
          try (case hyV => rfl)
          case hiV => first | kernel_rfl | (refine Option.map_eq_some_iff.1 (?_ : (Tryz.prog.info? 53).map (·.size) = some 4); kernel_rfl)
          case h1V => simp [Value.oneCell']
          unfold Hid
          go_wp2
          exact bodyPost_rowTmp rfl (g + 2) #[.slice a1 fx.length c1, .slice a2 ops.length c2, .int .i64 b1, .int .i64 b2] _ rfl rfl rfl (RR.out.setRow _) _ Tryz.underlying53 rfl (by kernel_rfl) ⟨_, rfl, HTV.out _ (below_setRow BB.out Lg.out _), below_setRow BB.out Lg.out _⟩
      · rw [if_neg hfull] at he
        have hn5 : ops.length < 512 := by omega
        have gf : decide ((512 : Int) ≤ (ops.length : Int)) = false := by simp; omega
        have hput : putO (k0, (k1, k2), (k3, k4), (k5, k6), s, t) ops = ops.take P ++ (k0, (k1, k2), (k3, k4), (k5, k6), s, t) :: ops.drop P := by rw [HPP.out]; rfl
        rw [hput] at he
        obtain ⟨rfl, rfl⟩ : Tn = (fx, ops.take P ++ (k0, (k1, k2), (k3, k4), (k5, k6), s, t) :: ops.drop P, (b1, b2)) ∧ R = 0 := ⟨congrArg Prod.fst he, congrArg Prod.snd he⟩
        clear he
        clear hput HPP HCC
        have o1 : wr.cell? ⟨g + 1, 1, none⟩ = some (.int .i64 k1) := OO.out.cell 1
        have o2 : wr.cell? ⟨g + 1, 2, none⟩ = some (.int .i64 k2) := OO.out.cell 2
        by_cases hk1 : k0 = 1
        · subst hk1
          have hcf : fx.length + C < 512 := by omega
          have gf2 : decide ((512 : Int) ≤ ((fx.length + C : Nat) : Int)) = false := by simp; omega
          have gf3 : ¬ ((512 : Int) ≤ (fx.length : Int) + (C : Int)) := by omega
          by_cases hn0 : ops.length = 0
          · have hops : ops = [] := List.length_eq_zero_iff.1 hn0
            subst hops
            have hP0 : P = 0 := by simpa using hP
            subst hP0
            clear hn0
            rcases H3.out with ⟨rfl, _, rfl⟩ | ⟨x, rfl, _⟩
            · have HSRC : Hid (SrcAt wr (.slice none 0 0) 0 []) := .inl ⟨rfl, rfl, rfl⟩
              have t0 : World.cell? _ ⟨g, 0, none⟩ = some (.slice a1 fx.length c1) := TT.out.cell 0
              have t1 : World.cell? _ ⟨g, 1, none⟩ = some (.slice none 0 0) := TT.out.cell 1
              have t2 : World.cell? _ ⟨g, 2, none⟩ = some (.int .i64 b1) := TT.out.cell 2
              have t3 : World.cell? _ ⟨g, 3, none⟩ = some (.int .i64 b2) := TT.out.cell 3
              go_wp2_with (at_builtin; refine wpList_appW (by rfl) (.tmp 79) (.tmp 83) 23 rfl wr.heap.size 56 i0 _ 9 88 Tryz.underlying23 hi hz0 hz1 hz2 rfl (by decide) (.slice none 0 0) 0 [] rfl (World.ownsRow_nil _ _ _ _) _ 0 [] rfl HSRC.out rfl (fun u hu => by cases hu) (by unfold maxLen; omega) (by omega) (Nat.le_refl _) ?_)
              intro v5 w5 hown5 hgr5
              have W5 : Hid (OwnO w5 wr.heap.size v5 (([] : List OpT))) := by
                show World.ownsRow _ _ _ _ _ _ _
                simpa [cellsO] using hown5
              have Lr : Hid (g + 2 < wr.heap.size) := RR.out.lt
              have T5 : Hid (Blk w5 53 g #[.slice a1 fx.length c1, .slice none 0 0, .int .i64 b1, .int .i64 b2]) := TT.out.grown hgr5 (by simp [Value.ownBlock])
              have P5 : Hid (Blk w5 56 (g + 1) #[.int .i64 1, .int .i64 k1, .int .i64 k2, .int .i64 k3, .int .i64 k4, .int .i64 k5, .int .i64 k6, .string s, .string t]) := OO.out.grown hgr5 (by simp [Value.ownBlock])
              have R5 : Hid (Blk w5 53 (g + 2) #[.slice none 0 0, .slice none 0 0, .int .i64 0, .int .i64 0]) := RR.out.grown hgr5 (by simp [Value.ownBlock])
              have B5 : Hid (Below w.heap.size w w5) := BB.out.grown hgr5 BB.out.size (fun k hk => by cases hk)
              have L5 : Hid (wr.heap.size ≤ w5.heap.size) := hgr5.size
              clear hown5 hgr5 t0 t1 t2 t3 o0 o1 o2 TT OO RR
              have p0 : w5.cell? ⟨g + 1, 0, none⟩ = some (.int .i64 1) := P5.out.cell 0
              have p1 : w5.cell? ⟨g + 1, 1, none⟩ = some (.int .i64 k1) := P5.out.cell 1
              have p2 : w5.cell? ⟨g + 1, 2, none⟩ = some (.int .i64 k2) := P5.out.cell 2
              have p3 : w5.cell? ⟨g + 1, 3, none⟩ = some (.int .i64 k3) := P5.out.cell 3
              have p4 : w5.cell? ⟨g + 1, 4, none⟩ = some (.int .i64 k4) := P5.out.cell 4
              have p5 : w5.cell? ⟨g + 1, 5, none⟩ = some (.int .i64 k5) := P5.out.cell 5
              have p6 : w5.cell? ⟨g + 1, 6, none⟩ = some (.int .i64 k6) := P5.out.cell 6
              have p7 : w5.cell? ⟨g + 1, 7, none⟩ = some (.string s) := P5.out.cell 7
              have p8 : w5.cell? ⟨g + 1, 8, none⟩ = some (.string t) := P5.out.cell 8
              go_wp2_with (at_builtin; refine wpList_appW (by rfl) (.tmp 85) (.tmp 87) 23 rfl wr.heap.size 56 i0 _ 9 88 Tryz.underlying23 hi hz0 hz1 hz2 rfl (by decide) v5 (([] : List OpT)).length (cellsO (([] : List OpT))) rfl (show World.ownsRow _ _ _ _ _ _ _ from owns_on W5.out (below_new _ _)) (.slice (some ⟨w5.heap.size, 0, none⟩) 1 1) 1 (opA (1, (k1, k2), (k3, k4), (k5, k6), s, t)).toList rfl (new_src (Blk.new w5 56 (opA (1, (k1, k2), (k3, k4), (k5, k6), s, t))) 1) rfl (opA_one _) (by unfold maxLen; omega) (by omega) (by have := L5.out; simp; omega) ?_)
              intro v6 w6 hown6 hgr6
              have W6 : Hid (OwnO w6 wr.heap.size v6 (([] : List OpT) ++ [(1, (k1, k2), (k3, k4), (k5, k6), s, t)])) := by
                show World.ownsRow _ _ _ _ _ _ _
                simpa [cellsO] using hown6
              have hl6 : (([] : List OpT) ++ [(1, (k1, k2), (k3, k4), (k5, k6), s, t)]).length = 1 := rfl
              have W6' : Hid (World.ownsRow w6 wr.heap.size 56 9 v6 1 (cellsO (([] : List OpT) ++ [(1, (k1, k2), (k3, k4), (k5, k6), s, t)]))) := by rw [← hl6]; exact W6
              have ne5 : Hid (∀ k, k ≤ g + 2 → some k ≠ v5.ownBlock) := fun k hk e => by have a := (World.ownsRow.lt W5.out k e.symm).1; have b := Lr.out; omega
              have T6 : Hid (Blk w6 53 g #[.slice a1 fx.length c1, .slice none 0 0, .int .i64 b1, .int .i64 b2]) := (T5.out.alloc _).grown hgr6 (ne5.out _ (by omega))
              have R6 : Hid (Blk w6 53 (g + 2) #[.slice none 0 0, .slice none 0 0, .int .i64 0, .int .i64 0]) := (R5.out.alloc _).grown hgr6 (ne5.out _ (by omega))
              have B5a : Hid (Below w.heap.size w (w5.alloc (.cells (opA (1, (k1, k2), (k3, k4), (k5, k6), s, t)) 56))) := below_step B5.out (Nat.le_refl _) (below_new _ _)
              have B6 : Hid (Below w.heap.size w w6) := B5a.out.grown hgr6 B5a.out.size (fun k hk => by have a := (World.ownsRow.lt W5.out k hk).1; have b := BB.out.size; omega)
              have L6 : Hid (wr.heap.size ≤ w6.heap.size) := Nat.le_trans (Nat.le_trans L5.out (below_new w5 _).size) hgr6.size
              clear hown6 hgr6 B5a T5 R5 P5 B5 W5 L5 ne5 p0 p1 p2 p3 p4 p5 p6 p7 p8
              have t1 : w6.cell? ⟨g, 1, none⟩ = some (.slice none 0 0) := T6.out.cell 1
              clear hl6
              go_wp2_with (at_builtin; refine wpList_appW (by rfl) (.tmp 89) (.tmp 93) 23 rfl wr.heap.size 56 i0 _ 9 88 Tryz.underlying23 hi hz0 hz1 hz2 rfl (by decide) v6 1 (cellsO (([] : List OpT) ++ [(1, (k1, k2), (k3, k4), (k5, k6), s, t)])) rfl W6'.out _ 0 [] rfl (.inl ⟨rfl, rfl, rfl⟩) rfl (fun u hu => by cases hu) (by unfold maxLen; omega) (by omega) L6.out ?_)
              intro v7 w7 hown7 hgr7
              obtain ⟨NN, HNN⟩ : ∃ NN, Hid (NN = ([] : List OpT) ++ (1, (k1, k2), (k3, k4), (k5, k6), s, t) :: ([] : List OpT)) := ⟨_, rfl⟩
              have W7 : Hid (OwnO w7 wr.heap.size v7 NN) := by
                show World.ownsRow _ _ _ _ _ _ _
                rw [HNN.out]
                simpa [cellsO] using hown7
              have ne6 : Hid (∀ k, k ≤ g + 2 → some k ≠ v6.ownBlock) := fun k hk e => by have a := (World.ownsRow.lt W6.out k e.symm).1; have b := Lr.out; omega
              have T7 : Hid (Blk w7 53 g #[.slice a1 fx.length c1, .slice none 0 0, .int .i64 b1, .int .i64 b2]) := T6.out.grown hgr7 (ne6.out _ (by omega))
              have R7 : Hid (Blk w7 53 (g + 2) #[.slice none 0 0, .slice none 0 0, .int .i64 0, .int .i64 0]) := R6.out.grown hgr7 (ne6.out _ (by omega))
              have B7 : Hid (Below w.heap.size w w7) := B6.out.grown hgr7 B6.out.size (fun k hk => by have a := (World.ownsRow.lt W6.out k hk).1; have b := BB.out.size; omega)
              clear hown7 hgr7 T6 R6 B6 W6 W6' L6 ne6 t1
              have hb7 : Hid (∀ j, v7.ownBlock = some j → wr.heap.size ≤ j) := fun j hj => (World.ownsRow.lt W7.out j hj).1
              obtain ⟨a7, c7, rfl, hop7, hok7⟩ := W7.out.ops
              have t0 : w7.cell? ⟨g, 0, none⟩ = some (.slice a1 fx.length c1) := T7.out.cell 0
              have t1 : w7.cell? ⟨g, 1, none⟩ = some (.slice none 0 0) := T7.out.cell 1
              have t2 : w7.cell? ⟨g, 2, none⟩ = some (.int .i64 b1) := T7.out.cell 2
              have t3 : w7.cell? ⟨g, 3, none⟩ = some (.int .i64 b2) := T7.out.cell 3
              have f1 := T7.out.free 1
              have R8 : Hid (Blk (w7.setCell ⟨g, 1, none⟩ (.slice a7 NN.length c7)) 53 (g + 2) #[.slice none 0 0, .slice none 0 0, .int .i64 0, .int .i64 0]) := R7.out.other ⟨g, 1, none⟩ (by show g + 2 ≠ g; omega) _
              have B8 : Hid (Below w.heap.size w (w7.setCell ⟨g, 1, none⟩ (.slice a7 NN.length c7))) := B7.out.setCell (p := ⟨g, 1, none⟩) Lg0.out _
              have O8 : Hid (OwnO (w7.setCell ⟨g, 1, none⟩ (.slice a7 NN.length c7)) wr.heap.size (.slice a7 NN.length c7) NN) := owns_set W7.out ⟨g, 1, none⟩ (by show g < _; have := Lr.out; omega) _
              have HTV : Hid (∀ a2' n2', TreeW a1 fx.length a2' n2' w.heap.size ((w7.setCell ⟨g, 1, none⟩ (.slice a7 NN.length c7)).setRow (g + 2) #[.slice a1 fx.length c1, .slice a7 NN.length c7, .int .i64 b1, .int .i64 b2]) (.agg #[.slice a1 fx.length c1, .slice a7 NN.length c7, .int .i64 b1, .int .i64 b2]) (fx, NN, (b1, b2))) := by
                have o9 : World.ownsRow ((w7.setCell ⟨g, 1, none⟩ (.slice a7 NN.length c7)).setRow (g + 2) #[.slice a1 fx.length c1, .slice a7 NN.length c7, .int .i64 b1, .int .i64 b2]) wr.heap.size 56 9 (.slice a7 NN.length c7) NN.length (cellsO NN) := owns_same O8.out (fun k hk => setRow_other _ _ k _ (by have a := (World.ownsRow.lt O8.out k hk).1; have b := Lr.out; omega))
                obtain ⟨a9, c9, e9, ho9, hk9⟩ := OwnO.ops o9
                injection e9 with e91 e92 e93
                subst e91
                subst e93
                exact fun _ _ => ⟨⟨a1, c1, _, _, rfl, H1.out.below (below_setRow B8.out Lg.out _), ho9, hk9⟩, ⟨_, _, _, _, rfl, adr_same, (adr_own o9).less BB.out.size⟩⟩
              clear hop7 hok7 hb7 W7 B7 R7 O8
              go_wp2_with (with_reducible refine wpList_storeBlkH rfl 53 _ _ rfl (g + 2) #[.slice none 0 0, .slice none 0 0, .int .i64 0, .int .i64 0] #[.slice a1 fx.length c1, .slice a7 NN.length c7, .int .i64 b1, .int .i64 b2] ?hxWA ?hyWA R8.out rfl ?hiWA ?h1WA ?_)
              try (case hxWA => rfl)
              try (case hyWA => rfl)
              case hiWA => first | kernel_rfl | (refine Option.map_eq_some_iff.1 (?_ : (Tryz.prog.info? 53).map (·.size) = some 4); kernel_rfl)
              case h1WA => simp [Value.oneCell']
              unfold Hid
              go_wp2
              exact bodyPost_rowTmp rfl (g + 2) #[.slice a1 fx.length c1, .slice a7 NN.length c7, .int .i64 b1, .int .i64 b2] _ rfl rfl rfl (R8.out.setRow _) _ Tryz.underlying53 rfl (by kernel_rfl) ⟨_, rfl, by show TreeW _ _ _ _ _ _ _ (fx, ([] : List OpT) ++ [(1, (k1, k2), (k3, k4), (k5, k6), s, t)], (b1, b2)); rw [← HNN.out]; exact HTV.out _ _, below_setRow B8.out Lg.out _⟩
            · have HSRC : Hid (SrcAt wr (.slice (some x) 0 c2) 0 []) := .inr ⟨x, c2, rfl, fun j u hj => by cases hj⟩
              have t0 : World.cell? _ ⟨g, 0, none⟩ = some (.slice a1 fx.length c1) := TT.out.cell 0
              have t1 : World.cell? _ ⟨g, 1, none⟩ = some (.slice (some x) 0 c2) := TT.out.cell 1
              have t2 : World.cell? _ ⟨g, 2, none⟩ = some (.int .i64 b1) := TT.out.cell 2
              have t3 : World.cell? _ ⟨g, 3, none⟩ = some (.int .i64 b2) := TT.out.cell 3
              go_wp2_with (at_builtin; refine wpList_appW (by rfl) (.tmp 79) (.tmp 83) 23 rfl wr.heap.size 56 i0 _ 9 88 Tryz.underlying23 hi hz0 hz1 hz2 rfl (by decide) (.slice none 0 0) 0 [] rfl (World.ownsRow_nil _ _ _ _) _ 0 [] rfl HSRC.out rfl (fun u hu => by cases hu) (by unfold maxLen; omega) (by omega) (Nat.le_refl _) ?_)
              intro v5 w5 hown5 hgr5
              have W5 : Hid (OwnO w5 wr.heap.size v5 (([] : List OpT))) := by
                show World.ownsRow _ _ _ _ _ _ _
                simpa [cellsO] using hown5
              have Lr : Hid (g + 2 < wr.heap.size) := RR.out.lt
              have T5 : Hid (Blk w5 53 g #[.slice a1 fx.length c1, .slice (some x) 0 c2, .int .i64 b1, .int .i64 b2]) := TT.out.grown hgr5 (by simp [Value.ownBlock])
              have P5 : Hid (Blk w5 56 (g + 1) #[.int .i64 1, .int .i64 k1, .int .i64 k2, .int .i64 k3, .int .i64 k4, .int .i64 k5, .int .i64 k6, .string s, .string t]) := OO.out.grown hgr5 (by simp [Value.ownBlock])
              have R5 : Hid (Blk w5 53 (g + 2) #[.slice none 0 0, .slice none 0 0, .int .i64 0, .int .i64 0]) := RR.out.grown hgr5 (by simp [Value.ownBlock])
              have B5 : Hid (Below w.heap.size w w5) := BB.out.grown hgr5 BB.out.size (fun k hk => by cases hk)
              have L5 : Hid (wr.heap.size ≤ w5.heap.size) := hgr5.size
              clear hown5 hgr5 t0 t1 t2 t3 o0 o1 o2 TT OO RR
              have p0 : w5.cell? ⟨g + 1, 0, none⟩ = some (.int .i64 1) := P5.out.cell 0
              have p1 : w5.cell? ⟨g + 1, 1, none⟩ = some (.int .i64 k1) := P5.out.cell 1
              have p2 : w5.cell? ⟨g + 1, 2, none⟩ = some (.int .i64 k2) := P5.out.cell 2
              have p3 : w5.cell? ⟨g + 1, 3, none⟩ = some (.int .i64 k3) := P5.out.cell 3
              have p4 : w5.cell? ⟨g + 1, 4, none⟩ = some (.int .i64 k4) := P5.out.cell 4
              have p5 : w5.cell? ⟨g + 1, 5, none⟩ = some (.int .i64 k5) := P5.out.cell 5
              have p6 : w5.cell? ⟨g + 1, 6, none⟩ = some (.int .i64 k6) := P5.out.cell 6
              have p7 : w5.cell? ⟨g + 1, 7, none⟩ = some (.string s) := P5.out.cell 7
              have p8 : w5.cell? ⟨g + 1, 8, none⟩ = some (.string t) := P5.out.cell 8
              go_wp2_with (at_builtin; refine wpList_appW (by rfl) (.tmp 85) (.tmp 87) 23 rfl wr.heap.size 56 i0 _ 9 88 Tryz.underlying23 hi hz0 hz1 hz2 rfl (by decide) v5 (([] : List OpT)).length (cellsO (([] : List OpT))) rfl (show World.ownsRow _ _ _ _ _ _ _ from owns_on W5.out (below_new _ _)) (.slice (some ⟨w5.heap.size, 0, none⟩) 1 1) 1 (opA (1, (k1, k2), (k3, k4), (k5, k6), s, t)).toList rfl (new_src (Blk.new w5 56 (opA (1, (k1, k2), (k3, k4), (k5, k6), s, t))) 1) rfl (opA_one _) (by unfold maxLen; omega) (by omega) (by have := L5.out; simp; omega) ?_)
              intro v6 w6 hown6 hgr6
              have W6 : Hid (OwnO w6 wr.heap.size v6 (([] : List OpT) ++ [(1, (k1, k2), (k3, k4), (k5, k6), s, t)])) := by
                show World.ownsRow _ _ _ _ _ _ _
                simpa [cellsO] using hown6
              have hl6 : (([] : List OpT) ++ [(1, (k1, k2), (k3, k4), (k5, k6), s, t)]).length = 1 := rfl
              have W6' : Hid (World.ownsRow w6 wr.heap.size 56 9 v6 1 (cellsO (([] : List OpT) ++ [(1, (k1, k2), (k3, k4), (k5, k6), s, t)]))) := by rw [← hl6]; exact W6
              have ne5 : Hid (∀ k, k ≤ g + 2 → some k ≠ v5.ownBlock) := fun k hk e => by have a := (World.ownsRow.lt W5.out k e.symm).1; have b := Lr.out; omega
              have T6 : Hid (Blk w6 53 g #[.slice a1 fx.length c1, .slice (some x) 0 c2, .int .i64 b1, .int .i64 b2]) := (T5.out.alloc _).grown hgr6 (ne5.out _ (by omega))
              have R6 : Hid (Blk w6 53 (g + 2) #[.slice none 0 0, .slice none 0 0, .int .i64 0, .int .i64 0]) := (R5.out.alloc _).grown hgr6 (ne5.out _ (by omega))
              have B5a : Hid (Below w.heap.size w (w5.alloc (.cells (opA (1, (k1, k2), (k3, k4), (k5, k6), s, t)) 56))) := below_step B5.out (Nat.le_refl _) (below_new _ _)
              have B6 : Hid (Below w.heap.size w w6) := B5a.out.grown hgr6 B5a.out.size (fun k hk => by have a := (World.ownsRow.lt W5.out k hk).1; have b := BB.out.size; omega)
              have L6 : Hid (wr.heap.size ≤ w6.heap.size) := Nat.le_trans (Nat.le_trans L5.out (below_new w5 _).size) hgr6.size
              clear hown6 hgr6 B5a T5 R5 P5 B5 W5 L5 ne5 p0 p1 p2 p3 p4 p5 p6 p7 p8
              have t1 : w6.cell? ⟨g, 1, none⟩ = some (.slice (some x) 0 c2) := T6.out.cell 1
              clear hl6
              go_wp2_with (at_builtin; refine wpList_appW (by rfl) (.tmp 89) (.tmp 93) 23 rfl wr.heap.size 56 i0 _ 9 88 Tryz.underlying23 hi hz0 hz1 hz2 rfl (by decide) v6 1 (cellsO (([] : List OpT) ++ [(1, (k1, k2), (k3, k4), (k5, k6), s, t)])) rfl W6'.out _ 0 [] rfl (.inr ⟨_, _, rfl, fun j u hj => by cases hj⟩) rfl (fun u hu => by cases hu) (by unfold maxLen; omega) (by omega) L6.out ?_)
              intro v7 w7 hown7 hgr7
              obtain ⟨NN, HNN⟩ : ∃ NN, Hid (NN = ([] : List OpT) ++ (1, (k1, k2), (k3, k4), (k5, k6), s, t) :: ([] : List OpT)) := ⟨_, rfl⟩
              have W7 : Hid (OwnO w7 wr.heap.size v7 NN) := by
                show World.ownsRow _ _ _ _ _ _ _
                rw [HNN.out]
                simpa [cellsO] using hown7
              have ne6 : Hid (∀ k, k ≤ g + 2 → some k ≠ v6.ownBlock) := fun k hk e => by have a := (World.ownsRow.lt W6.out k e.symm).1; have b := Lr.out; omega
              have T7 : Hid (Blk w7 53 g #[.slice a1 fx.length c1, .slice (some x) 0 c2, .int .i64 b1, .int .i64 b2]) := T6.out.grown hgr7 (ne6.out _ (by omega))
              have R7 : Hid (Blk w7 53 (g + 2) #[.slice none 0 0, .slice none 0 0, .int .i64 0, .int .i64 0]) := R6.out.grown hgr7 (ne6.out _ (by omega))
              have B7 : Hid (Below w.heap.size w w7) := B6.out.grown hgr7 B6.out.size (fun k hk => by have a := (World.ownsRow.lt W6.out k hk).1; have b := BB.out.size; omega)
              clear hown7 hgr7 T6 R6 B6 W6 W6' L6 ne6 t1
              have hb7 : Hid (∀ j, v7.ownBlock = some j → wr.heap.size ≤ j) := fun j hj => (World.ownsRow.lt W7.out j hj).1
              obtain ⟨a7, c7, rfl, hop7, hok7⟩ := W7.out.ops
              have t0 : w7.cell? ⟨g, 0, none⟩ = some (.slice a1 fx.length c1) := T7.out.cell 0
              have t1 : w7.cell? ⟨g, 1, none⟩ = some (.slice (some x) 0 c2) := T7.out.cell 1
              have t2 : w7.cell? ⟨g, 2, none⟩ = some (.int .i64 b1) := T7.out.cell 2
              have t3 : w7.cell? ⟨g, 3, none⟩ = some (.int .i64 b2) := T7.out.cell 3
              have f1 := T7.out.free 1
              have R8 : Hid (Blk (w7.setCell ⟨g, 1, none⟩ (.slice a7 NN.length c7)) 53 (g + 2) #[.slice none 0 0, .slice none 0 0, .int .i64 0, .int .i64 0]) := R7.out.other ⟨g, 1, none⟩ (by show g + 2 ≠ g; omega) _
              have B8 : Hid (Below w.heap.size w (w7.setCell ⟨g, 1, none⟩ (.slice a7 NN.length c7))) := B7.out.setCell (p := ⟨g, 1, none⟩) Lg0.out _
              have O8 : Hid (OwnO (w7.setCell ⟨g, 1, none⟩ (.slice a7 NN.length c7)) wr.heap.size (.slice a7 NN.length c7) NN) := owns_set W7.out ⟨g, 1, none⟩ (by show g < _; have := Lr.out; omega) _
              have HTV : Hid (∀ a2' n2', TreeW a1 fx.length a2' n2' w.heap.size ((w7.setCell ⟨g, 1, none⟩ (.slice a7 NN.length c7)).setRow (g + 2) #[.slice a1 fx.length c1, .slice a7 NN.length c7, .int .i64 b1, .int .i64 b2]) (.agg #[.slice a1 fx.length c1, .slice a7 NN.length c7, .int .i64 b1, .int .i64 b2]) (fx, NN, (b1, b2))) := by
                have o9 : World.ownsRow ((w7.setCell ⟨g, 1, none⟩ (.slice a7 NN.length c7)).setRow (g + 2) #[.slice a1 fx.length c1, .slice a7 NN.length c7, .int .i64 b1, .int .i64 b2]) wr.heap.size 56 9 (.slice a7 NN.length c7) NN.length (cellsO NN) := owns_same O8.out (fun k hk => setRow_other _ _ k _ (by have a := (World.ownsRow.lt O8.out k hk).1; have b := Lr.out; omega))
                obtain ⟨a9, c9, e9, ho9, hk9⟩ := OwnO.ops o9
                injection e9 with e91 e92 e93
                subst e91
                subst e93
                exact fun _ _ => ⟨⟨a1, c1, _, _, rfl, H1.out.below (below_setRow B8.out Lg.out _), ho9, hk9⟩, ⟨_, _, _, _, rfl, adr_same, (adr_own o9).less BB.out.size⟩⟩
              clear hop7 hok7 hb7 W7 B7 R7 O8
              go_wp2_with (with_reducible refine wpList_storeBlkH rfl 53 _ _ rfl (g + 2) #[.slice none 0 0, .slice none 0 0, .int .i64 0, .int .i64 0] #[.slice a1 fx.length c1, .slice a7 NN.length c7, .int .i64 b1, .int .i64 b2] ?hxWB ?hyWB R8.out rfl ?hiWB ?h1WB ?_)
              try (case hxWB => rfl)
              try (case hyWB => rfl)
              case hiWB => first | kernel_rfl | (refine Option.map_eq_some_iff.1 (?_ : (Tryz.prog.info? 53).map (·.size) = some 4); kernel_rfl)
              case h1WB => simp [Value.oneCell']
              unfold Hid
              go_wp2
              exact bodyPost_rowTmp rfl (g + 2) #[.slice a1 fx.length c1, .slice a7 NN.length c7, .int .i64 b1, .int .i64 b2] _ rfl rfl rfl (R8.out.setRow _) _ Tryz.underlying53 rfl (by kernel_rfl) ⟨_, rfl, by show TreeW _ _ _ _ _ _ _ (fx, ([] : List OpT) ++ [(1, (k1, k2), (k3, k4), (k5, k6), s, t)], (b1, b2)); rw [← HNN.out]; exact HTV.out _ _, below_setRow B8.out Lg.out _⟩
          · obtain ⟨b, off, rfl, _⟩ := H2.out.2.some (by omega)
            have hcap := H3.out.cap
            have e1 : (P : Int) ≤ (c2 : Int) := by omega
            have e2 : (P : Int) ≤ (ops.length : Int) := by omega
            have e3 : (ops.length : Int) ≤ (c2 : Int) := by omega
            by_cases hcp : c2 - P = 0
            · skip
              have t0 : World.cell? _ ⟨g, 0, none⟩ = some (.slice a1 fx.length c1) := TT.out.cell 0
              have t1 : World.cell? _ ⟨g, 1, none⟩ = some (.slice (some ⟨b, off, none⟩) ops.length c2) := TT.out.cell 1
              have t2 : World.cell? _ ⟨g, 2, none⟩ = some (.int .i64 b1) := TT.out.cell 2
              have t3 : World.cell? _ ⟨g, 3, none⟩ = some (.int .i64 b2) := TT.out.cell 3
              go_wp2_with (at_builtin; refine wpList_appW (by rfl) (.tmp 79) (.tmp 83) 23 rfl wr.heap.size 56 i0 _ 9 88 Tryz.underlying23 hi hz0 hz1 hz2 rfl (by decide) (.slice none 0 0) 0 [] rfl (World.ownsRow_nil _ _ _ _) (.slice (some ⟨b, off, none⟩) P c2) P (cellsO ((ops.drop 0).take P)) rfl (opsO_src (k := 0) (H2.out.below BB.out) (by omega)) (by rw [cellsO_len, List.length_take, List.drop_zero, Nat.min_eq_left hP]) (cellsO_one _) (by unfold maxLen; omega) (by omega) (Nat.le_refl _) ?_)
              intro v5 w5 hown5 hgr5
              have W5 : Hid (OwnO w5 wr.heap.size v5 (ops.take P)) := by
                show World.ownsRow _ _ _ _ _ _ _
                rw [List.length_take, Nat.min_eq_left hP]
                simpa using hown5
              have Lr : Hid (g + 2 < wr.heap.size) := RR.out.lt
              have T5 : Hid (Blk w5 53 g #[.slice a1 fx.length c1, .slice (some ⟨b, off, none⟩) ops.length c2, .int .i64 b1, .int .i64 b2]) := TT.out.grown hgr5 (by simp [Value.ownBlock])
              have P5 : Hid (Blk w5 56 (g + 1) #[.int .i64 1, .int .i64 k1, .int .i64 k2, .int .i64 k3, .int .i64 k4, .int .i64 k5, .int .i64 k6, .string s, .string t]) := OO.out.grown hgr5 (by simp [Value.ownBlock])
              have R5 : Hid (Blk w5 53 (g + 2) #[.slice none 0 0, .slice none 0 0, .int .i64 0, .int .i64 0]) := RR.out.grown hgr5 (by simp [Value.ownBlock])
              have B5 : Hid (Below w.heap.size w w5) := BB.out.grown hgr5 BB.out.size (fun k hk => by cases hk)
              have L5 : Hid (wr.heap.size ≤ w5.heap.size) := hgr5.size
              clear hown5 hgr5 t0 t1 t2 t3 o0 o1 o2 TT OO RR
              have p0 : w5.cell? ⟨g + 1, 0, none⟩ = some (.int .i64 1) := P5.out.cell 0
              have p1 : w5.cell? ⟨g + 1, 1, none⟩ = some (.int .i64 k1) := P5.out.cell 1
              have p2 : w5.cell? ⟨g + 1, 2, none⟩ = some (.int .i64 k2) := P5.out.cell 2
              have p3 : w5.cell? ⟨g + 1, 3, none⟩ = some (.int .i64 k3) := P5.out.cell 3
              have p4 : w5.cell? ⟨g + 1, 4, none⟩ = some (.int .i64 k4) := P5.out.cell 4
              have p5 : w5.cell? ⟨g + 1, 5, none⟩ = some (.int .i64 k5) := P5.out.cell 5
              have p6 : w5.cell? ⟨g + 1, 6, none⟩ = some (.int .i64 k6) := P5.out.cell 6
              have p7 : w5.cell? ⟨g + 1, 7, none⟩ = some (.string s) := P5.out.cell 7
              have p8 : w5.cell? ⟨g + 1, 8, none⟩ = some (.string t) := P5.out.cell 8
              go_wp2_with (at_builtin; refine wpList_appW (by rfl) (.tmp 85) (.tmp 87) 23 rfl wr.heap.size 56 i0 _ 9 88 Tryz.underlying23 hi hz0 hz1 hz2 rfl (by decide) v5 (ops.take P).length (cellsO (ops.take P)) rfl (show World.ownsRow _ _ _ _ _ _ _ from owns_on W5.out (below_new _ _)) (.slice (some ⟨w5.heap.size, 0, none⟩) 1 1) 1 (opA (1, (k1, k2), (k3, k4), (k5, k6), s, t)).toList rfl (new_src (Blk.new w5 56 (opA (1, (k1, k2), (k3, k4), (k5, k6), s, t))) 1) rfl (opA_one _) (by rw [List.length_take]; unfold maxLen; omega) (by rw [List.length_take]; omega) (by have := L5.out; simp; omega) ?_)
              intro v6 w6 hown6 hgr6
              have W6 : Hid (OwnO w6 wr.heap.size v6 (ops.take P ++ [(1, (k1, k2), (k3, k4), (k5, k6), s, t)])) := by
                show World.ownsRow _ _ _ _ _ _ _
                rw [cellsO_app, List.length_append, List.length_take, Nat.min_eq_left hP]
                simpa [cellsO] using hown6
              have hl6 : (ops.take P ++ [(1, (k1, k2), (k3, k4), (k5, k6), s, t)]).length = P + 1 := by rw [List.length_append, List.length_take, Nat.min_eq_left hP]; rfl
              have W6' : Hid (World.ownsRow w6 wr.heap.size 56 9 v6 (P + 1) (cellsO (ops.take P ++ [(1, (k1, k2), (k3, k4), (k5, k6), s, t)]))) := by rw [← hl6]; exact W6
              have ne5 : Hid (∀ k, k ≤ g + 2 → some k ≠ v5.ownBlock) := fun k hk e => by have a := (World.ownsRow.lt W5.out k e.symm).1; have b := Lr.out; omega
              have T6 : Hid (Blk w6 53 g #[.slice a1 fx.length c1, .slice (some ⟨b, off, none⟩) ops.length c2, .int .i64 b1, .int .i64 b2]) := (T5.out.alloc _).grown hgr6 (ne5.out _ (by omega))
              have R6 : Hid (Blk w6 53 (g + 2) #[.slice none 0 0, .slice none 0 0, .int .i64 0, .int .i64 0]) := (R5.out.alloc _).grown hgr6 (ne5.out _ (by omega))
              have B5a : Hid (Below w.heap.size w (w5.alloc (.cells (opA (1, (k1, k2), (k3, k4), (k5, k6), s, t)) 56))) := below_step B5.out (Nat.le_refl _) (below_new _ _)
              have B6 : Hid (Below w.heap.size w w6) := B5a.out.grown hgr6 B5a.out.size (fun k hk => by have a := (World.ownsRow.lt W5.out k hk).1; have b := BB.out.size; omega)
              have L6 : Hid (wr.heap.size ≤ w6.heap.size) := Nat.le_trans (Nat.le_trans L5.out (below_new w5 _).size) hgr6.size
              clear hown6 hgr6 B5a T5 R5 P5 B5 W5 L5 ne5 p0 p1 p2 p3 p4 p5 p6 p7 p8
              have t1 : w6.cell? ⟨g, 1, none⟩ = some (.slice (some ⟨b, off, none⟩) ops.length c2) := T6.out.cell 1
              clear hl6
              go_wp2_with (at_builtin; refine wpList_appW (by rfl) (.tmp 89) (.tmp 93) 23 rfl wr.heap.size 56 i0 _ 9 88 Tryz.underlying23 hi hz0 hz1 hz2 rfl (by decide) v6 (P + 1) (cellsO (ops.take P ++ [(1, (k1, k2), (k3, k4), (k5, k6), s, t)])) rfl W6'.out _ (ops.length - P) (cellsO ((ops.drop P).take (ops.length - P))) rfl (.inr ⟨_, _, rfl, fun j u hj => by rw [show ops.length - P = 0 by omega, List.take_zero] at hj; cases hj⟩) (by rw [cellsO_len, List.length_take, List.length_drop, Nat.min_self]) (cellsO_one _) (by unfold maxLen; omega) (by omega) L6.out ?_)
              intro v7 w7 hown7 hgr7
              obtain ⟨NN, HNN⟩ : ∃ NN, Hid (NN = ops.take P ++ (1, (k1, k2), (k3, k4), (k5, k6), s, t) :: ops.drop P) := ⟨_, rfl⟩
              have W7 : Hid (OwnO w7 wr.heap.size v7 NN) := by
                show World.ownsRow _ _ _ _ _ _ _
                rw [HNN.out]
                have e : ops.take P ++ (1, (k1, k2), (k3, k4), (k5, k6), s, t) :: ops.drop P = (ops.take P ++ [(1, (k1, k2), (k3, k4), (k5, k6), s, t)]) ++ (ops.drop P).take (ops.length - P) := by
                  have e0 : (ops.drop P).take (ops.length - P) = ops.drop P := List.take_of_length_le (by rw [List.length_drop]; exact Nat.le_refl _)
                  rw [e0, List.append_assoc]; rfl
                rw [e, cellsO_app]
                have e2 : (ops.take P ++ [(1, (k1, k2), (k3, k4), (k5, k6), s, t)] ++ (ops.drop P).take (ops.length - P)).length = P + 1 + (ops.length - P) := by
                  rw [List.length_append, List.length_append, List.length_take, Nat.min_eq_left hP, List.length_take, List.length_drop, Nat.min_self]; rfl
                rw [e2]; exact hown7
              have ne6 : Hid (∀ k, k ≤ g + 2 → some k ≠ v6.ownBlock) := fun k hk e => by have a := (World.ownsRow.lt W6.out k e.symm).1; have b := Lr.out; omega
              have T7 : Hid (Blk w7 53 g #[.slice a1 fx.length c1, .slice (some ⟨b, off, none⟩) ops.length c2, .int .i64 b1, .int .i64 b2]) := T6.out.grown hgr7 (ne6.out _ (by omega))
              have R7 : Hid (Blk w7 53 (g + 2) #[.slice none 0 0, .slice none 0 0, .int .i64 0, .int .i64 0]) := R6.out.grown hgr7 (ne6.out _ (by omega))
              have B7 : Hid (Below w.heap.size w w7) := B6.out.grown hgr7 B6.out.size (fun k hk => by have a := (World.ownsRow.lt W6.out k hk).1; have b := BB.out.size; omega)
              clear hown7 hgr7 T6 R6 B6 W6 W6' L6 ne6 t1
              have hb7 : Hid (∀ j, v7.ownBlock = some j → wr.heap.size ≤ j) := fun j hj => (World.ownsRow.lt W7.out j hj).1
              obtain ⟨a7, c7, rfl, hop7, hok7⟩ := W7.out.ops
              have t0 : w7.cell? ⟨g, 0, none⟩ = some (.slice a1 fx.length c1) := T7.out.cell 0
              have t1 : w7.cell? ⟨g, 1, none⟩ = some (.slice (some ⟨b, off, none⟩) ops.length c2) := T7.out.cell 1
              have t2 : w7.cell? ⟨g, 2, none⟩ = some (.int .i64 b1) := T7.out.cell 2
              have t3 : w7.cell? ⟨g, 3, none⟩ = some (.int .i64 b2) := T7.out.cell 3
              have f1 := T7.out.free 1
              have R8 : Hid (Blk (w7.setCell ⟨g, 1, none⟩ (.slice a7 NN.length c7)) 53 (g + 2) #[.slice none 0 0, .slice none 0 0, .int .i64 0, .int .i64 0]) := R7.out.other ⟨g, 1, none⟩ (by show g + 2 ≠ g; omega) _
              have B8 : Hid (Below w.heap.size w (w7.setCell ⟨g, 1, none⟩ (.slice a7 NN.length c7))) := B7.out.setCell (p := ⟨g, 1, none⟩) Lg0.out _
              have O8 : Hid (OwnO (w7.setCell ⟨g, 1, none⟩ (.slice a7 NN.length c7)) wr.heap.size (.slice a7 NN.length c7) NN) := owns_set W7.out ⟨g, 1, none⟩ (by show g < _; have := Lr.out; omega) _
              have HTV : Hid (∀ a2' n2', TreeW a1 fx.length a2' n2' w.heap.size ((w7.setCell ⟨g, 1, none⟩ (.slice a7 NN.length c7)).setRow (g + 2) #[.slice a1 fx.length c1, .slice a7 NN.length c7, .int .i64 b1, .int .i64 b2]) (.agg #[.slice a1 fx.length c1, .slice a7 NN.length c7, .int .i64 b1, .int .i64 b2]) (fx, NN, (b1, b2))) := by
                have o9 : World.ownsRow ((w7.setCell ⟨g, 1, none⟩ (.slice a7 NN.length c7)).setRow (g + 2) #[.slice a1 fx.length c1, .slice a7 NN.length c7, .int .i64 b1, .int .i64 b2]) wr.heap.size 56 9 (.slice a7 NN.length c7) NN.length (cellsO NN) := owns_same O8.out (fun k hk => setRow_other _ _ k _ (by have a := (World.ownsRow.lt O8.out k hk).1; have b := Lr.out; omega))
                obtain ⟨a9, c9, e9, ho9, hk9⟩ := OwnO.ops o9
                injection e9 with e91 e92 e93
                subst e91
                subst e93
                exact fun _ _ => ⟨⟨a1, c1, _, _, rfl, H1.out.below (below_setRow B8.out Lg.out _), ho9, hk9⟩, ⟨_, _, _, _, rfl, adr_same, (adr_own o9).less BB.out.size⟩⟩
              clear hop7 hok7 hb7 W7 B7 R7 O8
              go_wp2_with (with_reducible refine wpList_storeBlkH rfl 53 _ _ rfl (g + 2) #[.slice none 0 0, .slice none 0 0, .int .i64 0, .int .i64 0] #[.slice a1 fx.length c1, .slice a7 NN.length c7, .int .i64 b1, .int .i64 b2] ?hxWv ?hyWv R8.out rfl ?hiWv ?h1Wv ?_)
              try (case hxWv => rfl)
              try (case hyWv => rfl)
              case hiWv => first | kernel_rfl | (refine Option.map_eq_some_iff.1 (?_ : (Tryz.prog.info? 53).map (·.size) = some 4); kernel_rfl)
              case h1Wv => simp [Value.oneCell']
              unfold Hid
              go_wp2
              exact bodyPost_rowTmp rfl (g + 2) #[.slice a1 fx.length c1, .slice a7 NN.length c7, .int .i64 b1, .int .i64 b2] _ rfl rfl rfl (R8.out.setRow _) _ Tryz.underlying53 rfl (by kernel_rfl) ⟨_, rfl, by rw [← HNN.out]; exact HTV.out _ _, below_setRow B8.out Lg.out _⟩
            · skip
              have t0 : World.cell? _ ⟨g, 0, none⟩ = some (.slice a1 fx.length c1) := TT.out.cell 0
              have t1 : World.cell? _ ⟨g, 1, none⟩ = some (.slice (some ⟨b, off, none⟩) ops.length c2) := TT.out.cell 1
              have t2 : World.cell? _ ⟨g, 2, none⟩ = some (.int .i64 b1) := TT.out.cell 2
              have t3 : World.cell? _ ⟨g, 3, none⟩ = some (.int .i64 b2) := TT.out.cell 3
              go_wp2_with (at_builtin; refine wpList_appW (by rfl) (.tmp 79) (.tmp 83) 23 rfl wr.heap.size 56 i0 _ 9 88 Tryz.underlying23 hi hz0 hz1 hz2 rfl (by decide) (.slice none 0 0) 0 [] rfl (World.ownsRow_nil _ _ _ _) (.slice (some ⟨b, off, none⟩) P c2) P (cellsO ((ops.drop 0).take P)) rfl (opsO_src (k := 0) (H2.out.below BB.out) (by omega)) (by rw [cellsO_len, List.length_take, List.drop_zero, Nat.min_eq_left hP]) (cellsO_one _) (by unfold maxLen; omega) (by omega) (Nat.le_refl _) ?_)
              intro v5 w5 hown5 hgr5
              have W5 : Hid (OwnO w5 wr.heap.size v5 (ops.take P)) := by
                show World.ownsRow _ _ _ _ _ _ _
                rw [List.length_take, Nat.min_eq_left hP]
                simpa using hown5
              have Lr : Hid (g + 2 < wr.heap.size) := RR.out.lt
              have T5 : Hid (Blk w5 53 g #[.slice a1 fx.length c1, .slice (some ⟨b, off, none⟩) ops.length c2, .int .i64 b1, .int .i64 b2]) := TT.out.grown hgr5 (by simp [Value.ownBlock])
              have P5 : Hid (Blk w5 56 (g + 1) #[.int .i64 1, .int .i64 k1, .int .i64 k2, .int .i64 k3, .int .i64 k4, .int .i64 k5, .int .i64 k6, .string s, .string t]) := OO.out.grown hgr5 (by simp [Value.ownBlock])
              have R5 : Hid (Blk w5 53 (g + 2) #[.slice none 0 0, .slice none 0 0, .int .i64 0, .int .i64 0]) := RR.out.grown hgr5 (by simp [Value.ownBlock])
              have B5 : Hid (Below w.heap.size w w5) := BB.out.grown hgr5 BB.out.size (fun k hk => by cases hk)
              have L5 : Hid (wr.heap.size ≤ w5.heap.size) := hgr5.size
              clear hown5 hgr5 t0 t1 t2 t3 o0 o1 o2 TT OO RR
              have p0 : w5.cell? ⟨g + 1, 0, none⟩ = some (.int .i64 1) := P5.out.cell 0
              have p1 : w5.cell? ⟨g + 1, 1, none⟩ = some (.int .i64 k1) := P5.out.cell 1
              have p2 : w5.cell? ⟨g + 1, 2, none⟩ = some (.int .i64 k2) := P5.out.cell 2
              have p3 : w5.cell? ⟨g + 1, 3, none⟩ = some (.int .i64 k3) := P5.out.cell 3
              have p4 : w5.cell? ⟨g + 1, 4, none⟩ = some (.int .i64 k4) := P5.out.cell 4
              have p5 : w5.cell? ⟨g + 1, 5, none⟩ = some (.int .i64 k5) := P5.out.cell 5
              have p6 : w5.cell? ⟨g + 1, 6, none⟩ = some (.int .i64 k6) := P5.out.cell 6
              have p7 : w5.cell? ⟨g + 1, 7, none⟩ = some (.string s) := P5.out.cell 7
              have p8 : w5.cell? ⟨g + 1, 8, none⟩ = some (.string t) := P5.out.cell 8
              go_wp2_with (at_builtin; refine wpList_appW (by rfl) (.tmp 85) (.tmp 87) 23 rfl wr.heap.size 56 i0 _ 9 88 Tryz.underlying23 hi hz0 hz1 hz2 rfl (by decide) v5 (ops.take P).length (cellsO (ops.take P)) rfl (show World.ownsRow _ _ _ _ _ _ _ from owns_on W5.out (below_new _ _)) (.slice (some ⟨w5.heap.size, 0, none⟩) 1 1) 1 (opA (1, (k1, k2), (k3, k4), (k5, k6), s, t)).toList rfl (new_src (Blk.new w5 56 (opA (1, (k1, k2), (k3, k4), (k5, k6), s, t))) 1) rfl (opA_one _) (by rw [List.length_take]; unfold maxLen; omega) (by rw [List.length_take]; omega) (by have := L5.out; simp; omega) ?_)
              intro v6 w6 hown6 hgr6
              have W6 : Hid (OwnO w6 wr.heap.size v6 (ops.take P ++ [(1, (k1, k2), (k3, k4), (k5, k6), s, t)])) := by
                show World.ownsRow _ _ _ _ _ _ _
                rw [cellsO_app, List.length_append, List.length_take, Nat.min_eq_left hP]
                simpa [cellsO] using hown6
              have hl6 : (ops.take P ++ [(1, (k1, k2), (k3, k4), (k5, k6), s, t)]).length = P + 1 := by rw [List.length_append, List.length_take, Nat.min_eq_left hP]; rfl
              have W6' : Hid (World.ownsRow w6 wr.heap.size 56 9 v6 (P + 1) (cellsO (ops.take P ++ [(1, (k1, k2), (k3, k4), (k5, k6), s, t)]))) := by rw [← hl6]; exact W6
              have ne5 : Hid (∀ k, k ≤ g + 2 → some k ≠ v5.ownBlock) := fun k hk e => by have a := (World.ownsRow.lt W5.out k e.symm).1; have b := Lr.out; omega
              have T6 : Hid (Blk w6 53 g #[.slice a1 fx.length c1, .slice (some ⟨b, off, none⟩) ops.length c2, .int .i64 b1, .int .i64 b2]) := (T5.out.alloc _).grown hgr6 (ne5.out _ (by omega))
              have R6 : Hid (Blk w6 53 (g + 2) #[.slice none 0 0, .slice none 0 0, .int .i64 0, .int .i64 0]) := (R5.out.alloc _).grown hgr6 (ne5.out _ (by omega))
              have B5a : Hid (Below w.heap.size w (w5.alloc (.cells (opA (1, (k1, k2), (k3, k4), (k5, k6), s, t)) 56))) := below_step B5.out (Nat.le_refl _) (below_new _ _)
              have B6 : Hid (Below w.heap.size w w6) := B5a.out.grown hgr6 B5a.out.size (fun k hk => by have a := (World.ownsRow.lt W5.out k hk).1; have b := BB.out.size; omega)
              have L6 : Hid (wr.heap.size ≤ w6.heap.size) := Nat.le_trans (Nat.le_trans L5.out (below_new w5 _).size) hgr6.size
              clear hown6 hgr6 B5a T5 R5 P5 B5 W5 L5 ne5 p0 p1 p2 p3 p4 p5 p6 p7 p8
              have t1 : w6.cell? ⟨g, 1, none⟩ = some (.slice (some ⟨b, off, none⟩) ops.length c2) := T6.out.cell 1
              clear hl6
              go_wp2_with (at_builtin; refine wpList_appW (by rfl) (.tmp 89) (.tmp 93) 23 rfl wr.heap.size 56 i0 _ 9 88 Tryz.underlying23 hi hz0 hz1 hz2 rfl (by decide) v6 (P + 1) (cellsO (ops.take P ++ [(1, (k1, k2), (k3, k4), (k5, k6), s, t)])) rfl W6'.out (.slice (some ⟨b, off + P * 9, none⟩) (ops.length - P) (c2 - P)) (ops.length - P) (cellsO ((ops.drop P).take (ops.length - P))) rfl (opsO_src (H2.out.below B6.out) (by omega)) (by rw [cellsO_len, List.length_take, List.length_drop, Nat.min_self]) (cellsO_one _) (by unfold maxLen; omega) (by omega) L6.out ?_)
              intro v7 w7 hown7 hgr7
              obtain ⟨NN, HNN⟩ : ∃ NN, Hid (NN = ops.take P ++ (1, (k1, k2), (k3, k4), (k5, k6), s, t) :: ops.drop P) := ⟨_, rfl⟩
              have W7 : Hid (OwnO w7 wr.heap.size v7 NN) := by
                show World.ownsRow _ _ _ _ _ _ _
                rw [HNN.out]
                have e : ops.take P ++ (1, (k1, k2), (k3, k4), (k5, k6), s, t) :: ops.drop P = (ops.take P ++ [(1, (k1, k2), (k3, k4), (k5, k6), s, t)]) ++ (ops.drop P).take (ops.length - P) := by
                  have e0 : (ops.drop P).take (ops.length - P) = ops.drop P := List.take_of_length_le (by rw [List.length_drop]; exact Nat.le_refl _)
                  rw [e0, List.append_assoc]; rfl
                rw [e, cellsO_app]
                have e2 : (ops.take P ++ [(1, (k1, k2), (k3, k4), (k5, k6), s, t)] ++ (ops.drop P).take (ops.length - P)).length = P + 1 + (ops.length - P) := by
                  rw [List.length_append, List.length_append, List.length_take, Nat.min_eq_left hP, List.length_take, List.length_drop, Nat.min_self]; rfl
                rw [e2]; exact hown7
              have ne6 : Hid (∀ k, k ≤ g + 2 → some k ≠ v6.ownBlock) := fun k hk e => by have a := (World.ownsRow.lt W6.out k e.symm).1; have b := Lr.out; omega
              have T7 : Hid (Blk w7 53 g #[.slice a1 fx.length c1, .slice (some ⟨b, off, none⟩) ops.length c2, .int .i64 b1, .int .i64 b2]) := T6.out.grown hgr7 (ne6.out _ (by omega))
              have R7 : Hid (Blk w7 53 (g + 2) #[.slice none 0 0, .slice none 0 0, .int .i64 0, .int .i64 0]) := R6.out.grown hgr7 (ne6.out _ (by omega))
              have B7 : Hid (Below w.heap.size w w7) := B6.out.grown hgr7 B6.out.size (fun k hk => by have a := (World.ownsRow.lt W6.out k hk).1; have b := BB.out.size; omega)
              clear hown7 hgr7 T6 R6 B6 W6 W6' L6 ne6 t1
              have hb7 : Hid (∀ j, v7.ownBlock = some j → wr.heap.size ≤ j) := fun j hj => (World.ownsRow.lt W7.out j hj).1
              obtain ⟨a7, c7, rfl, hop7, hok7⟩ := W7.out.ops
              have t0 : w7.cell? ⟨g, 0, none⟩ = some (.slice a1 fx.length c1) := T7.out.cell 0
              have t1 : w7.cell? ⟨g, 1, none⟩ = some (.slice (some ⟨b, off, none⟩) ops.length c2) := T7.out.cell 1
              have t2 : w7.cell? ⟨g, 2, none⟩ = some (.int .i64 b1) := T7.out.cell 2
              have t3 : w7.cell? ⟨g, 3, none⟩ = some (.int .i64 b2) := T7.out.cell 3
              have f1 := T7.out.free 1
              have R8 : Hid (Blk (w7.setCell ⟨g, 1, none⟩ (.slice a7 NN.length c7)) 53 (g + 2) #[.slice none 0 0, .slice none 0 0, .int .i64 0, .int .i64 0]) := R7.out.other ⟨g, 1, none⟩ (by show g + 2 ≠ g; omega) _
              have B8 : Hid (Below w.heap.size w (w7.setCell ⟨g, 1, none⟩ (.slice a7 NN.length c7))) := B7.out.setCell (p := ⟨g, 1, none⟩) Lg0.out _
              have O8 : Hid (OwnO (w7.setCell ⟨g, 1, none⟩ (.slice a7 NN.length c7)) wr.heap.size (.slice a7 NN.length c7) NN) := owns_set W7.out ⟨g, 1, none⟩ (by show g < _; have := Lr.out; omega) _
              have HTV : Hid (∀ a2' n2', TreeW a1 fx.length a2' n2' w.heap.size ((w7.setCell ⟨g, 1, none⟩ (.slice a7 NN.length c7)).setRow (g + 2) #[.slice a1 fx.length c1, .slice a7 NN.length c7, .int .i64 b1, .int .i64 b2]) (.agg #[.slice a1 fx.length c1, .slice a7 NN.length c7, .int .i64 b1, .int .i64 b2]) (fx, NN, (b1, b2))) := by
                have o9 : World.ownsRow ((w7.setCell ⟨g, 1, none⟩ (.slice a7 NN.length c7)).setRow (g + 2) #[.slice a1 fx.length c1, .slice a7 NN.length c7, .int .i64 b1, .int .i64 b2]) wr.heap.size 56 9 (.slice a7 NN.length c7) NN.length (cellsO NN) := owns_same O8.out (fun k hk => setRow_other _ _ k _ (by have a := (World.ownsRow.lt O8.out k hk).1; have b := Lr.out; omega))
                obtain ⟨a9, c9, e9, ho9, hk9⟩ := OwnO.ops o9
                injection e9 with e91 e92 e93
                subst e91
                subst e93
                exact fun _ _ => ⟨⟨a1, c1, _, _, rfl, H1.out.below (below_setRow B8.out Lg.out _), ho9, hk9⟩, ⟨_, _, _, _, rfl, adr_same, (adr_own o9).less BB.out.size⟩⟩
              clear hop7 hok7 hb7 W7 B7 R7 O8
              go_wp2_with (with_reducible refine wpList_storeBlkH rfl 53 _ _ rfl (g + 2) #[.slice none 0 0, .slice none 0 0, .int .i64 0, .int .i64 0] #[.slice a1 fx.length c1, .slice a7 NN.length c7, .int .i64 b1, .int .i64 b2] ?hxW ?hyW R8.out rfl ?hiW ?h1W ?_)
              try (case hxW => rfl)
              try (case hyW => rfl)
              case hiW => first | kernel_rfl | (refine Option.map_eq_some_iff.1 (?_ : (Tryz.prog.info? 53).map (·.size) = some 4); kernel_rfl)
              case h1W => simp [Value.oneCell']
              unfold Hid
              go_wp2
              exact bodyPost_rowTmp rfl (g + 2) #[.slice a1 fx.length c1, .slice a7 NN.length c7, .int .i64 b1, .int .i64 b2] _ rfl rfl rfl (R8.out.setRow _) _ Tryz.underlying53 rfl (by kernel_rfl) ⟨_, rfl, by rw [← HNN.out]; exact HTV.out _ _, below_setRow B8.out Lg.out _⟩
        · have gk : (k0 == 1) = false := by rw [beq_eq_false_iff_ne]; exact hk1
          by_cases hn0 : ops.length = 0
          · have hops : ops = [] := List.length_eq_zero_iff.1 hn0
            subst hops
            have hP0 : P = 0 := by simpa using hP
            subst hP0
            clear hn0
            rcases H3.out with ⟨rfl, _, rfl⟩ | ⟨x, rfl, _⟩
            · have HSRC : Hid (SrcAt wr (.slice none 0 0) 0 []) := .inl ⟨rfl, rfl, rfl⟩
              have t0 : World.cell? _ ⟨g, 0, none⟩ = some (.slice a1 fx.length c1) := TT.out.cell 0
              have t1 : World.cell? _ ⟨g, 1, none⟩ = some (.slice none 0 0) := TT.out.cell 1
              have t2 : World.cell? _ ⟨g, 2, none⟩ = some (.int .i64 b1) := TT.out.cell 2
              have t3 : World.cell? _ ⟨g, 3, none⟩ = some (.int .i64 b2) := TT.out.cell 3
              go_wp2_with (at_builtin; refine wpList_appW (by rfl) (.tmp 79) (.tmp 83) 23 rfl wr.heap.size 56 i0 _ 9 88 Tryz.underlying23 hi hz0 hz1 hz2 rfl (by decide) (.slice none 0 0) 0 [] rfl (World.ownsRow_nil _ _ _ _) _ 0 [] rfl HSRC.out rfl (fun u hu => by cases hu) (by unfold maxLen; omega) (by omega) (Nat.le_refl _) ?_)
              intro v5 w5 hown5 hgr5
              have W5 : Hid (OwnO w5 wr.heap.size v5 (([] : List OpT))) := by
                show World.ownsRow _ _ _ _ _ _ _
                simpa [cellsO] using hown5
              have Lr : Hid (g + 2 < wr.heap.size) := RR.out.lt
              have T5 : Hid (Blk w5 53 g #[.slice a1 fx.length c1, .slice none 0 0, .int .i64 b1, .int .i64 b2]) := TT.out.grown hgr5 (by simp [Value.ownBlock])
              have P5 : Hid (Blk w5 56 (g + 1) #[.int .i64 k0, .int .i64 k1, .int .i64 k2, .int .i64 k3, .int .i64 k4, .int .i64 k5, .int .i64 k6, .string s, .string t]) := OO.out.grown hgr5 (by simp [Value.ownBlock])
              have R5 : Hid (Blk w5 53 (g + 2) #[.slice none 0 0, .slice none 0 0, .int .i64 0, .int .i64 0]) := RR.out.grown hgr5 (by simp [Value.ownBlock])
              have B5 : Hid (Below w.heap.size w w5) := BB.out.grown hgr5 BB.out.size (fun k hk => by cases hk)
              have L5 : Hid (wr.heap.size ≤ w5.heap.size) := hgr5.size
              clear hown5 hgr5 t0 t1 t2 t3 o0 o1 o2 TT OO RR
              have p0 : w5.cell? ⟨g + 1, 0, none⟩ = some (.int .i64 k0) := P5.out.cell 0
              have p1 : w5.cell? ⟨g + 1, 1, none⟩ = some (.int .i64 k1) := P5.out.cell 1
              have p2 : w5.cell? ⟨g + 1, 2, none⟩ = some (.int .i64 k2) := P5.out.cell 2
              have p3 : w5.cell? ⟨g + 1, 3, none⟩ = some (.int .i64 k3) := P5.out.cell 3
              have p4 : w5.cell? ⟨g + 1, 4, none⟩ = some (.int .i64 k4) := P5.out.cell 4
              have p5 : w5.cell? ⟨g + 1, 5, none⟩ = some (.int .i64 k5) := P5.out.cell 5
              have p6 : w5.cell? ⟨g + 1, 6, none⟩ = some (.int .i64 k6) := P5.out.cell 6
              have p7 : w5.cell? ⟨g + 1, 7, none⟩ = some (.string s) := P5.out.cell 7
              have p8 : w5.cell? ⟨g + 1, 8, none⟩ = some (.string t) := P5.out.cell 8
              go_wp2_with (at_builtin; refine wpList_appW (by rfl) (.tmp 85) (.tmp 87) 23 rfl wr.heap.size 56 i0 _ 9 88 Tryz.underlying23 hi hz0 hz1 hz2 rfl (by decide) v5 (([] : List OpT)).length (cellsO (([] : List OpT))) rfl (show World.ownsRow _ _ _ _ _ _ _ from owns_on W5.out (below_new _ _)) (.slice (some ⟨w5.heap.size, 0, none⟩) 1 1) 1 (opA (k0, (k1, k2), (k3, k4), (k5, k6), s, t)).toList rfl (new_src (Blk.new w5 56 (opA (k0, (k1, k2), (k3, k4), (k5, k6), s, t))) 1) rfl (opA_one _) (by unfold maxLen; omega) (by omega) (by have := L5.out; simp; omega) ?_)
              intro v6 w6 hown6 hgr6
              have W6 : Hid (OwnO w6 wr.heap.size v6 (([] : List OpT) ++ [(k0, (k1, k2), (k3, k4), (k5, k6), s, t)])) := by
                show World.ownsRow _ _ _ _ _ _ _
                simpa [cellsO] using hown6
              have hl6 : (([] : List OpT) ++ [(k0, (k1, k2), (k3, k4), (k5, k6), s, t)]).length = 1 := rfl
              have W6' : Hid (World.ownsRow w6 wr.heap.size 56 9 v6 1 (cellsO (([] : List OpT) ++ [(k0, (k1, k2), (k3, k4), (k5, k6), s, t)]))) := by rw [← hl6]; exact W6
              have ne5 : Hid (∀ k, k ≤ g + 2 → some k ≠ v5.ownBlock) := fun k hk e => by have a := (World.ownsRow.lt W5.out k e.symm).1; have b := Lr.out; omega
              have T6 : Hid (Blk w6 53 g #[.slice a1 fx.length c1, .slice none 0 0, .int .i64 b1, .int .i64 b2]) := (T5.out.alloc _).grown hgr6 (ne5.out _ (by omega))
              have R6 : Hid (Blk w6 53 (g + 2) #[.slice none 0 0, .slice none 0 0, .int .i64 0, .int .i64 0]) := (R5.out.alloc _).grown hgr6 (ne5.out _ (by omega))
              have B5a : Hid (Below w.heap.size w (w5.alloc (.cells (opA (k0, (k1, k2), (k3, k4), (k5, k6), s, t)) 56))) := below_step B5.out (Nat.le_refl _) (below_new _ _)
              have B6 : Hid (Below w.heap.size w w6) := B5a.out.grown hgr6 B5a.out.size (fun k hk => by have a := (World.ownsRow.lt W5.out k hk).1; have b := BB.out.size; omega)
              have L6 : Hid (wr.heap.size ≤ w6.heap.size) := Nat.le_trans (Nat.le_trans L5.out (below_new w5 _).size) hgr6.size
              clear hown6 hgr6 B5a T5 R5 P5 B5 W5 L5 ne5 p0 p1 p2 p3 p4 p5 p6 p7 p8
              have t1 : w6.cell? ⟨g, 1, none⟩ = some (.slice none 0 0) := T6.out.cell 1
              clear hl6
              go_wp2_with (at_builtin; refine wpList_appW (by rfl) (.tmp 89) (.tmp 93) 23 rfl wr.heap.size 56 i0 _ 9 88 Tryz.underlying23 hi hz0 hz1 hz2 rfl (by decide) v6 1 (cellsO (([] : List OpT) ++ [(k0, (k1, k2), (k3, k4), (k5, k6), s, t)])) rfl W6'.out _ 0 [] rfl (.inl ⟨rfl, rfl, rfl⟩) rfl (fun u hu => by cases hu) (by unfold maxLen; omega) (by omega) L6.out ?_)
              intro v7 w7 hown7 hgr7
              obtain ⟨NN, HNN⟩ : ∃ NN, Hid (NN = ([] : List OpT) ++ (k0, (k1, k2), (k3, k4), (k5, k6), s, t) :: ([] : List OpT)) := ⟨_, rfl⟩
              have W7 : Hid (OwnO w7 wr.heap.size v7 NN) := by
                show World.ownsRow _ _ _ _ _ _ _
                rw [HNN.out]
                simpa [cellsO] using hown7
              have ne6 : Hid (∀ k, k ≤ g + 2 → some k ≠ v6.ownBlock) := fun k hk e => by have a := (World.ownsRow.lt W6.out k e.symm).1; have b := Lr.out; omega
              have T7 : Hid (Blk w7 53 g #[.slice a1 fx.length c1, .slice none 0 0, .int .i64 b1, .int .i64 b2]) := T6.out.grown hgr7 (ne6.out _ (by omega))
              have R7 : Hid (Blk w7 53 (g + 2) #[.slice none 0 0, .slice none 0 0, .int .i64 0, .int .i64 0]) := R6.out.grown hgr7 (ne6.out _ (by omega))
              have B7 : Hid (Below w.heap.size w w7) := B6.out.grown hgr7 B6.out.size (fun k hk => by have a := (World.ownsRow.lt W6.out k hk).1; have b := BB.out.size; omega)
              clear hown7 hgr7 T6 R6 B6 W6 W6' L6 ne6 t1
              have hb7 : Hid (∀ j, v7.ownBlock = some j → wr.heap.size ≤ j) := fun j hj => (World.ownsRow.lt W7.out j hj).1
              obtain ⟨a7, c7, rfl, hop7, hok7⟩ := W7.out.ops
              have t0 : w7.cell? ⟨g, 0, none⟩ = some (.slice a1 fx.length c1) := T7.out.cell 0
              have t1 : w7.cell? ⟨g, 1, none⟩ = some (.slice none 0 0) := T7.out.cell 1
              have t2 : w7.cell? ⟨g, 2, none⟩ = some (.int .i64 b1) := T7.out.cell 2
              have t3 : w7.cell? ⟨g, 3, none⟩ = some (.int .i64 b2) := T7.out.cell 3
              have f1 := T7.out.free 1
              have R8 : Hid (Blk (w7.setCell ⟨g, 1, none⟩ (.slice a7 NN.length c7)) 53 (g + 2) #[.slice none 0 0, .slice none 0 0, .int .i64 0, .int .i64 0]) := R7.out.other ⟨g, 1, none⟩ (by show g + 2 ≠ g; omega) _
              have B8 : Hid (Below w.heap.size w (w7.setCell ⟨g, 1, none⟩ (.slice a7 NN.length c7))) := B7.out.setCell (p := ⟨g, 1, none⟩) Lg0.out _
              have O8 : Hid (OwnO (w7.setCell ⟨g, 1, none⟩ (.slice a7 NN.length c7)) wr.heap.size (.slice a7 NN.length c7) NN) := owns_set W7.out ⟨g, 1, none⟩ (by show g < _; have := Lr.out; omega) _
              have HTV : Hid (∀ a2' n2', TreeW a1 fx.length a2' n2' w.heap.size ((w7.setCell ⟨g, 1, none⟩ (.slice a7 NN.length c7)).setRow (g + 2) #[.slice a1 fx.length c1, .slice a7 NN.length c7, .int .i64 b1, .int .i64 b2]) (.agg #[.slice a1 fx.length c1, .slice a7 NN.length c7, .int .i64 b1, .int .i64 b2]) (fx, NN, (b1, b2))) := by
                have o9 : World.ownsRow ((w7.setCell ⟨g, 1, none⟩ (.slice a7 NN.length c7)).setRow (g + 2) #[.slice a1 fx.length c1, .slice a7 NN.length c7, .int .i64 b1, .int .i64 b2]) wr.heap.size 56 9 (.slice a7 NN.length c7) NN.length (cellsO NN) := owns_same O8.out (fun k hk => setRow_other _ _ k _ (by have a := (World.ownsRow.lt O8.out k hk).1; have b := Lr.out; omega))
                obtain ⟨a9, c9, e9, ho9, hk9⟩ := OwnO.ops o9
                injection e9 with e91 e92 e93
                subst e91
                subst e93
                exact fun _ _ => ⟨⟨a1, c1, _, _, rfl, H1.out.below (below_setRow B8.out Lg.out _), ho9, hk9⟩, ⟨_, _, _, _, rfl, adr_same, (adr_own o9).less BB.out.size⟩⟩
              clear hop7 hok7 hb7 W7 B7 R7 O8
              go_wp2_with (with_reducible refine wpList_storeBlkH rfl 53 _ _ rfl (g + 2) #[.slice none 0 0, .slice none 0 0, .int .i64 0, .int .i64 0] #[.slice a1 fx.length c1, .slice a7 NN.length c7, .int .i64 b1, .int .i64 b2] ?hxWA ?hyWA R8.out rfl ?hiWA ?h1WA ?_)
              try (case hxWA => rfl)
              try (case hyWA => rfl)
              case hiWA => first | kernel_rfl | (refine Option.map_eq_some_iff.1 (?_ : (Tryz.prog.info? 53).map (·.size) = some 4); kernel_rfl)
              case h1WA => simp [Value.oneCell']
              unfold Hid
              go_wp2
              exact bodyPost_rowTmp rfl (g + 2) #[.slice a1 fx.length c1, .slice a7 NN.length c7, .int .i64 b1, .int .i64 b2] _ rfl rfl rfl (R8.out.setRow _) _ Tryz.underlying53 rfl (by kernel_rfl) ⟨_, rfl, by show TreeW _ _ _ _ _ _ _ (fx, ([] : List OpT) ++ [(k0, (k1, k2), (k3, k4), (k5, k6), s, t)], (b1, b2)); rw [← HNN.out]; exact HTV.out _ _, below_setRow B8.out Lg.out _⟩
            · have HSRC : Hid (SrcAt wr (.slice (some x) 0 c2) 0 []) := .inr ⟨x, c2, rfl, fun j u hj => by cases hj⟩
              have t0 : World.cell? _ ⟨g, 0, none⟩ = some (.slice a1 fx.length c1) := TT.out.cell 0
              have t1 : World.cell? _ ⟨g, 1, none⟩ = some (.slice (some x) 0 c2) := TT.out.cell 1
              have t2 : World.cell? _ ⟨g, 2, none⟩ = some (.int .i64 b1) := TT.out.cell 2
              have t3 : World.cell? _ ⟨g, 3, none⟩ = some (.int .i64 b2) := TT.out.cell 3
              go_wp2_with (at_builtin; refine wpList_appW (by rfl) (.tmp 79) (.tmp 83) 23 rfl wr.heap.size 56 i0 _ 9 88 Tryz.underlying23 hi hz0 hz1 hz2 rfl (by decide) (.slice none 0 0) 0 [] rfl (World.ownsRow_nil _ _ _ _) _ 0 [] rfl HSRC.out rfl (fun u hu => by cases hu) (by unfold maxLen; omega) (by omega) (Nat.le_refl _) ?_)
              intro v5 w5 hown5 hgr5
              have W5 : Hid (OwnO w5 wr.heap.size v5 (([] : List OpT))) := by
                show World.ownsRow _ _ _ _ _ _ _
                simpa [cellsO] using hown5
              have Lr : Hid (g + 2 < wr.heap.size) := RR.out.lt
              have T5 : Hid (Blk w5 53 g #[.slice a1 fx.length c1, .slice (some x) 0 c2, .int .i64 b1, .int .i64 b2]) := TT.out.grown hgr5 (by simp [Value.ownBlock])
              have P5 : Hid (Blk w5 56 (g + 1) #[.int .i64 k0, .int .i64 k1, .int .i64 k2, .int .i64 k3, .int .i64 k4, .int .i64 k5, .int .i64 k6, .string s, .string t]) := OO.out.grown hgr5 (by simp [Value.ownBlock])
              have R5 : Hid (Blk w5 53 (g + 2) #[.slice none 0 0, .slice none 0 0, .int .i64 0, .int .i64 0]) := RR.out.grown hgr5 (by simp [Value.ownBlock])
              have B5 : Hid (Below w.heap.size w w5) := BB.out.grown hgr5 BB.out.size (fun k hk => by cases hk)
              have L5 : Hid (wr.heap.size ≤ w5.heap.size) := hgr5.size
              clear hown5 hgr5 t0 t1 t2 t3 o0 o1 o2 TT OO RR
              have p0 : w5.cell? ⟨g + 1, 0, none⟩ = some (.int .i64 k0) := P5.out.cell 0
              have p1 : w5.cell? ⟨g + 1, 1, none⟩ = some (.int .i64 k1) := P5.out.cell 1
              have p2 : w5.cell? ⟨g + 1, 2, none⟩ = some (.int .i64 k2) := P5.out.cell 2
              have p3 : w5.cell? ⟨g + 1, 3, none⟩ = some (.int .i64 k3) := P5.out.cell 3
              have p4 : w5.cell? ⟨g + 1, 4, none⟩ = some (.int .i64 k4) := P5.out.cell 4
              have p5 : w5.cell? ⟨g + 1, 5, none⟩ = some (.int .i64 k5) := P5.out.cell 5
              have p6 : w5.cell? ⟨g + 1, 6, none⟩ = some (.int .i64 k6) := P5.out.cell 6
              have p7 : w5.cell? ⟨g + 1, 7, none⟩ = some (.string s) := P5.out.cell 7
              have p8 : w5.cell? ⟨g + 1, 8, none⟩ = some (.string t) := P5.out.cell 8
              go_wp2_with (at_builtin; refine wpList_appW (by rfl) (.tmp 85) (.tmp 87) 23 rfl wr.heap.size 56 i0 _ 9 88 Tryz.underlying23 hi hz0 hz1 hz2 rfl (by decide) v5 (([] : List OpT)).length (cellsO (([] : List OpT))) rfl (show World.ownsRow _ _ _ _ _ _ _ from owns_on W5.out (below_new _ _)) (.slice (some ⟨w5.heap.size, 0, none⟩) 1 1) 1 (opA (k0, (k1, k2), (k3, k4), (k5, k6), s, t)).toList rfl (new_src (Blk.new w5 56 (opA (k0, (k1, k2), (k3, k4), (k5, k6), s, t))) 1) rfl (opA_one _) (by unfold maxLen; omega) (by omega) (by have := L5.out; simp; omega) ?_)
              intro v6 w6 hown6 hgr6
              have W6 : Hid (OwnO w6 wr.heap.size v6 (([] : List OpT) ++ [(k0, (k1, k2), (k3, k4), (k5, k6), s, t)])) := by
                show World.ownsRow _ _ _ _ _ _ _
                simpa [cellsO] using hown6
              have hl6 : (([] : List OpT) ++ [(k0, (k1, k2), (k3, k4), (k5, k6), s, t)]).length = 1 := rfl
              have W6' : Hid (World.ownsRow w6 wr.heap.size 56 9 v6 1 (cellsO (([] : List OpT) ++ [(k0, (k1, k2), (k3, k4), (k5, k6), s, t)]))) := by rw [← hl6]; exact W6
              have ne5 : Hid (∀ k, k ≤ g + 2 → some k ≠ v5.ownBlock) := fun k hk e => by have a := (World.ownsRow.lt W5.out k e.symm).1; have b := Lr.out; omega
              have T6 : Hid (Blk w6 53 g #[.slice a1 fx.length c1, .slice (some x) 0 c2, .int .i64 b1, .int .i64 b2]) := (T5.out.alloc _).grown hgr6 (ne5.out _ (by omega))
              have R6 : Hid (Blk w6 53 (g + 2) #[.slice none 0 0, .slice none 0 0, .int .i64 0, .int .i64 0]) := (R5.out.alloc _).grown hgr6 (ne5.out _ (by omega))
              have B5a : Hid (Below w.heap.size w (w5.alloc (.cells (opA (k0, (k1, k2), (k3, k4), (k5, k6), s, t)) 56))) := below_step B5.out (Nat.le_refl _) (below_new _ _)
              have B6 : Hid (Below w.heap.size w w6) := B5a.out.grown hgr6 B5a.out.size (fun k hk => by have a := (World.ownsRow.lt W5.out k hk).1; have b := BB.out.size; omega)
              have L6 : Hid (wr.heap.size ≤ w6.heap.size) := Nat.le_trans (Nat.le_trans L5.out (below_new w5 _).size) hgr6.size
              clear hown6 hgr6 B5a T5 R5 P5 B5 W5 L5 ne5 p0 p1 p2 p3 p4 p5 p6 p7 p8
              have t1 : w6.cell? ⟨g, 1, none⟩ = some (.slice (some x) 0 c2) := T6.out.cell 1
              clear hl6
              go_wp2_with (at_builtin; refine wpList_appW (by rfl) (.tmp 89) (.tmp 93) 23 rfl wr.heap.size 56 i0 _ 9 88 Tryz.underlying23 hi hz0 hz1 hz2 rfl (by decide) v6 1 (cellsO (([] : List OpT) ++ [(k0, (k1, k2), (k3, k4), (k5, k6), s, t)])) rfl W6'.out _ 0 [] rfl (.inr ⟨_, _, rfl, fun j u hj => by cases hj⟩) rfl (fun u hu => by cases hu) (by unfold maxLen; omega) (by omega) L6.out ?_)
              intro v7 w7 hown7 hgr7
              obtain ⟨NN, HNN⟩ : ∃ NN, Hid (NN = ([] : List OpT) ++ (k0, (k1, k2), (k3, k4), (k5, k6), s, t) :: ([] : List OpT)) := ⟨_, rfl⟩
              have W7 : Hid (OwnO w7 wr.heap.size v7 NN) := by
                show World.ownsRow _ _ _ _ _ _ _
                rw [HNN.out]
                simpa [cellsO] using hown7
              have ne6 : Hid (∀ k, k ≤ g + 2 → some k ≠ v6.ownBlock) := fun k hk e => by have a := (World.ownsRow.lt W6.out k e.symm).1; have b := Lr.out; omega
              have T7 : Hid (Blk w7 53 g #[.slice a1 fx.length c1, .slice (some x) 0 c2, .int .i64 b1, .int .i64 b2]) := T6.out.grown hgr7 (ne6.out _ (by omega))
              have R7 : Hid (Blk w7 53 (g + 2) #[.slice none 0 0, .slice none 0 0, .int .i64 0, .int .i64 0]) := R6.out.grown hgr7 (ne6.out _ (by omega))
              have B7 : Hid (Below w.heap.size w w7) := B6.out.grown hgr7 B6.out.size (fun k hk => by have a := (World.ownsRow.lt W6.out k hk).1; have b := BB.out.size; omega)
              clear hown7 hgr7 T6 R6 B6 W6 W6' L6 ne6 t1
              have hb7 : Hid (∀ j, v7.ownBlock = some j → wr.heap.size ≤ j) := fun j hj => (World.ownsRow.lt W7.out j hj).1
              obtain ⟨a7, c7, rfl, hop7, hok7⟩ := W7.out.ops
              have t0 : w7.cell? ⟨g, 0, none⟩ = some (.slice a1 fx.length c1) := T7.out.cell 0
              have t1 : w7.cell? ⟨g, 1, none⟩ = some (.slice (some x) 0 c2) := T7.out.cell 1
              have t2 : w7.cell? ⟨g, 2, none⟩ = some (.int .i64 b1) := T7.out.cell 2
              have t3 : w7.cell? ⟨g, 3, none⟩ = some (.int .i64 b2) := T7.out.cell 3
              have f1 := T7.out.free 1
              have R8 : Hid (Blk (w7.setCell ⟨g, 1, none⟩ (.slice a7 NN.length c7)) 53 (g + 2) #[.slice none 0 0, .slice none 0 0, .int .i64 0, .int .i64 0]) := R7.out.other ⟨g, 1, none⟩ (by show g + 2 ≠ g; omega) _
              have B8 : Hid (Below w.heap.size w (w7.setCell ⟨g, 1, none⟩ (.slice a7 NN.length c7))) := B7.out.setCell (p := ⟨g, 1, none⟩) Lg0.out _
              have O8 : Hid (OwnO (w7.setCell ⟨g, 1, none⟩ (.slice a7 NN.length c7)) wr.heap.size (.slice a7 NN.length c7) NN) := owns_set W7.out ⟨g, 1, none⟩ (by show g < _; have := Lr.out; omega) _
              have HTV : Hid (∀ a2' n2', TreeW a1 fx.length a2' n2' w.heap.size ((w7.setCell ⟨g, 1, none⟩ (.slice a7 NN.length c7)).setRow (g + 2) #[.slice a1 fx.length c1, .slice a7 NN.length c7, .int .i64 b1, .int .i64 b2]) (.agg #[.slice a1 fx.length c1, .slice a7 NN.length c7, .int .i64 b1, .int .i64 b2]) (fx, NN, (b1, b2))) := by
                have o9 : World.ownsRow ((w7.setCell ⟨g, 1, none⟩ (.slice a7 NN.length c7)).setRow (g + 2) #[.slice a1 fx.length c1, .slice a7 NN.length c7, .int .i64 b1, .int .i64 b2]) wr.heap.size 56 9 (.slice a7 NN.length c7) NN.length (cellsO NN) := owns_same O8.out (fun k hk => setRow_other _ _ k _ (by have a := (World.ownsRow.lt O8.out k hk).1; have b := Lr.out; omega))
                obtain ⟨a9, c9, e9, ho9, hk9⟩ := OwnO.ops o9
                injection e9 with e91 e92 e93
                subst e91
                subst e93
                exact fun _ _ => ⟨⟨a1, c1, _, _, rfl, H1.out.below (below_setRow B8.out Lg.out _), ho9, hk9⟩, ⟨_, _, _, _, rfl, adr_same, (adr_own o9).less BB.out.size⟩⟩
              clear hop7 hok7 hb7 W7 B7 R7 O8
              go_wp2_with (with_reducible refine wpList_storeBlkH rfl 53 _ _ rfl (g + 2) #[.slice none 0 0, .slice none 0 0, .int .i64 0, .int .i64 0] #[.slice a1 fx.length c1, .slice a7 NN.length c7, .int .i64 b1, .int .i64 b2] ?hxWB ?hyWB R8.out rfl ?hiWB ?h1WB ?_)
              try (case hxWB => rfl)
              try (case hyWB => rfl)
              case hiWB => first | kernel_rfl | (refine Option.map_eq_some_iff.1 (?_ : (Tryz.prog.info? 53).map (·.size) = some 4); kernel_rfl)
              case h1WB => simp [Value.oneCell']
              unfold Hid
              go_wp2
              exact bodyPost_rowTmp rfl (g + 2) #[.slice a1 fx.length c1, .slice a7 NN.length c7, .int .i64 b1, .int .i64 b2] _ rfl rfl rfl (R8.out.setRow _) _ Tryz.underlying53 rfl (by kernel_rfl) ⟨_, rfl, by show TreeW _ _ _ _ _ _ _ (fx, ([] : List OpT) ++ [(k0, (k1, k2), (k3, k4), (k5, k6), s, t)], (b1, b2)); rw [← HNN.out]; exact HTV.out _ _, below_setRow B8.out Lg.out _⟩
          · obtain ⟨b, off, rfl, _⟩ := H2.out.2.some (by omega)
            have hcap := H3.out.cap
            have e1 : (P : Int) ≤ (c2 : Int) := by omega
            have e2 : (P : Int) ≤ (ops.length : Int) := by omega
            have e3 : (ops.length : Int) ≤ (c2 : Int) := by omega
            by_cases hcp : c2 - P = 0
            · skip
              have t0 : World.cell? _ ⟨g, 0, none⟩ = some (.slice a1 fx.length c1) := TT.out.cell 0
              have t1 : World.cell? _ ⟨g, 1, none⟩ = some (.slice (some ⟨b, off, none⟩) ops.length c2) := TT.out.cell 1
              have t2 : World.cell? _ ⟨g, 2, none⟩ = some (.int .i64 b1) := TT.out.cell 2
              have t3 : World.cell? _ ⟨g, 3, none⟩ = some (.int .i64 b2) := TT.out.cell 3
              go_wp2_with (at_builtin; refine wpList_appW (by rfl) (.tmp 79) (.tmp 83) 23 rfl wr.heap.size 56 i0 _ 9 88 Tryz.underlying23 hi hz0 hz1 hz2 rfl (by decide) (.slice none 0 0) 0 [] rfl (World.ownsRow_nil _ _ _ _) (.slice (some ⟨b, off, none⟩) P c2) P (cellsO ((ops.drop 0).take P)) rfl (opsO_src (k := 0) (H2.out.below BB.out) (by omega)) (by rw [cellsO_len, List.length_take, List.drop_zero, Nat.min_eq_left hP]) (cellsO_one _) (by unfold maxLen; omega) (by omega) (Nat.le_refl _) ?_)
              intro v5 w5 hown5 hgr5
              have W5 : Hid (OwnO w5 wr.heap.size v5 (ops.take P)) := by
                show World.ownsRow _ _ _ _ _ _ _
                rw [List.length_take, Nat.min_eq_left hP]
                simpa using hown5
              have Lr : Hid (g + 2 < wr.heap.size) := RR.out.lt
              have T5 : Hid (Blk w5 53 g #[.slice a1 fx.length c1, .slice (some ⟨b, off, none⟩) ops.length c2, .int .i64 b1, .int .i64 b2]) := TT.out.grown hgr5 (by simp [Value.ownBlock])
              have P5 : Hid (Blk w5 56 (g + 1) #[.int .i64 k0, .int .i64 k1, .int .i64 k2, .int .i64 k3, .int .i64 k4, .int .i64 k5, .int .i64 k6, .string s, .string t]) := OO.out.grown hgr5 (by simp [Value.ownBlock])
              have R5 : Hid (Blk w5 53 (g + 2) #[.slice none 0 0, .slice none 0 0, .int .i64 0, .int .i64 0]) := RR.out.grown hgr5 (by simp [Value.ownBlock])
              have B5 : Hid (Below w.heap.size w w5) := BB.out.grown hgr5 BB.out.size (fun k hk => by cases hk)
              have L5 : Hid (wr.heap.size ≤ w5.heap.size) := hgr5.size
              clear hown5 hgr5 t0 t1 t2 t3 o0 o1 o2 TT OO RR
              have p0 : w5.cell? ⟨g + 1, 0, none⟩ = some (.int .i64 k0) := P5.out.cell 0
              have p1 : w5.cell? ⟨g + 1, 1, none⟩ = some (.int .i64 k1) := P5.out.cell 1
              have p2 : w5.cell? ⟨g + 1, 2, none⟩ = some (.int .i64 k2) := P5.out.cell 2
              have p3 : w5.cell? ⟨g + 1, 3, none⟩ = some (.int .i64 k3) := P5.out.cell 3
              have p4 : w5.cell? ⟨g + 1, 4, none⟩ = some (.int .i64 k4) := P5.out.cell 4
              have p5 : w5.cell? ⟨g + 1, 5, none⟩ = some (.int .i64 k5) := P5.out.cell 5
              have p6 : w5.cell? ⟨g + 1, 6, none⟩ = some (.int .i64 k6) := P5.out.cell 6
              have p7 : w5.cell? ⟨g + 1, 7, none⟩ = some (.string s) := P5.out.cell 7
              have p8 : w5.cell? ⟨g + 1, 8, none⟩ = some (.string t) := P5.out.cell 8
              go_wp2_with (at_builtin; refine wpList_appW (by rfl) (.tmp 85) (.tmp 87) 23 rfl wr.heap.size 56 i0 _ 9 88 Tryz.underlying23 hi hz0 hz1 hz2 rfl (by decide) v5 (ops.take P).length (cellsO (ops.take P)) rfl (show World.ownsRow _ _ _ _ _ _ _ from owns_on W5.out (below_new _ _)) (.slice (some ⟨w5.heap.size, 0, none⟩) 1 1) 1 (opA (k0, (k1, k2), (k3, k4), (k5, k6), s, t)).toList rfl (new_src (Blk.new w5 56 (opA (k0, (k1, k2), (k3, k4), (k5, k6), s, t))) 1) rfl (opA_one _) (by rw [List.length_take]; unfold maxLen; omega) (by rw [List.length_take]; omega) (by have := L5.out; simp; omega) ?_)
              intro v6 w6 hown6 hgr6
              have W6 : Hid (OwnO w6 wr.heap.size v6 (ops.take P ++ [(k0, (k1, k2), (k3, k4), (k5, k6), s, t)])) := by
                show World.ownsRow _ _ _ _ _ _ _
                rw [cellsO_app, List.length_append, List.length_take, Nat.min_eq_left hP]
                simpa [cellsO] using hown6
              have hl6 : (ops.take P ++ [(k0, (k1, k2), (k3, k4), (k5, k6), s, t)]).length = P + 1 := by rw [List.length_append, List.length_take, Nat.min_eq_left hP]; rfl
              have W6' : Hid (World.ownsRow w6 wr.heap.size 56 9 v6 (P + 1) (cellsO (ops.take P ++ [(k0, (k1, k2), (k3, k4), (k5, k6), s, t)]))) := by rw [← hl6]; exact W6
              have ne5 : Hid (∀ k, k ≤ g + 2 → some k ≠ v5.ownBlock) := fun k hk e => by have a := (World.ownsRow.lt W5.out k e.symm).1; have b := Lr.out; omega
              have T6 : Hid (Blk w6 53 g #[.slice a1 fx.length c1, .slice (some ⟨b, off, none⟩) ops.length c2, .int .i64 b1, .int .i64 b2]) := (T5.out.alloc _).grown hgr6 (ne5.out _ (by omega))
              have R6 : Hid (Blk w6 53 (g + 2) #[.slice none 0 0, .slice none 0 0, .int .i64 0, .int .i64 0]) := (R5.out.alloc _).grown hgr6 (ne5.out _ (by omega))
              have B5a : Hid (Below w.heap.size w (w5.alloc (.cells (opA (k0, (k1, k2), (k3, k4), (k5, k6), s, t)) 56))) := below_step B5.out (Nat.le_refl _) (below_new _ _)
              have B6 : Hid (Below w.heap.size w w6) := B5a.out.grown hgr6 B5a.out.size (fun k hk => by have a := (World.ownsRow.lt W5.out k hk).1; have b := BB.out.size; omega)
              have L6 : Hid (wr.heap.size ≤ w6.heap.size) := Nat.le_trans (Nat.le_trans L5.out (below_new w5 _).size) hgr6.size
              clear hown6 hgr6 B5a T5 R5 P5 B5 W5 L5 ne5 p0 p1 p2 p3 p4 p5 p6 p7 p8
              have t1 : w6.cell? ⟨g, 1, none⟩ = some (.slice (some ⟨b, off, none⟩) ops.length c2) := T6.out.cell 1
              clear hl6
              go_wp2_with (at_builtin; refine wpList_appW (by rfl) (.tmp 89) (.tmp 93) 23 rfl wr.heap.size 56 i0 _ 9 88 Tryz.underlying23 hi hz0 hz1 hz2 rfl (by decide) v6 (P + 1) (cellsO (ops.take P ++ [(k0, (k1, k2), (k3, k4), (k5, k6), s, t)])) rfl W6'.out _ (ops.length - P) (cellsO ((ops.drop P).take (ops.length - P))) rfl (.inr ⟨_, _, rfl, fun j u hj => by rw [show ops.length - P = 0 by omega, List.take_zero] at hj; cases hj⟩) (by rw [cellsO_len, List.length_take, List.length_drop, Nat.min_self]) (cellsO_one _) (by unfold maxLen; omega) (by omega) L6.out ?_)
              intro v7 w7 hown7 hgr7
              obtain ⟨NN, HNN⟩ : ∃ NN, Hid (NN = ops.take P ++ (k0, (k1, k2), (k3, k4), (k5, k6), s, t) :: ops.drop P) := ⟨_, rfl⟩
              have W7 : Hid (OwnO w7 wr.heap.size v7 NN) := by
                show World.ownsRow _ _ _ _ _ _ _
                rw [HNN.out]
                have e : ops.take P ++ (k0, (k1, k2), (k3, k4), (k5, k6), s, t) :: ops.drop P = (ops.take P ++ [(k0, (k1, k2), (k3, k4), (k5, k6), s, t)]) ++ (ops.drop P).take (ops.length - P) := by
                  have e0 : (ops.drop P).take (ops.length - P) = ops.drop P := List.take_of_length_le (by rw [List.length_drop]; exact Nat.le_refl _)
                  rw [e0, List.append_assoc]; rfl
                rw [e, cellsO_app]
                have e2 : (ops.take P ++ [(k0, (k1, k2), (k3, k4), (k5, k6), s, t)] ++ (ops.drop P).take (ops.length - P)).length = P + 1 + (ops.length - P) := by
                  rw [List.length_append, List.length_append, List.length_take, Nat.min_eq_left hP, List.length_take, List.length_drop, Nat.min_self]; rfl
                rw [e2]; exact hown7
              have ne6 : Hid (∀ k, k ≤ g + 2 → some k ≠ v6.ownBlock) := fun k hk e => by have a := (World.ownsRow.lt W6.out k e.symm).1; have b := Lr.out; omega
              have T7 : Hid (Blk w7 53 g #[.slice a1 fx.length c1, .slice (some ⟨b, off, none⟩) ops.length c2, .int .i64 b1, .int .i64 b2]) := T6.out.grown hgr7 (ne6.out _ (by omega))
              have R7 : Hid (Blk w7 53 (g + 2) #[.slice none 0 0, .slice none 0 0, .int .i64 0, .int .i64 0]) := R6.out.grown hgr7 (ne6.out _ (by omega))
              have B7 : Hid (Below w.heap.size w w7) := B6.out.grown hgr7 B6.out.size (fun k hk => by have a := (World.ownsRow.lt W6.out k hk).1; have b := BB.out.size; omega)
              clear hown7 hgr7 T6 R6 B6 W6 W6' L6 ne6 t1
              have hb7 : Hid (∀ j, v7.ownBlock = some j → wr.heap.size ≤ j) := fun j hj => (World.ownsRow.lt W7.out j hj).1
              obtain ⟨a7, c7, rfl, hop7, hok7⟩ := W7.out.ops
              have t0 : w7.cell? ⟨g, 0, none⟩ = some (.slice a1 fx.length c1) := T7.out.cell 0
              have t1 : w7.cell? ⟨g, 1, none⟩ = some (.slice (some ⟨b, off, none⟩) ops.length c2) := T7.out.cell 1
              have t2 : w7.cell? ⟨g, 2, none⟩ = some (.int .i64 b1) := T7.out.cell 2
              have t3 : w7.cell? ⟨g, 3, none⟩ = some (.int .i64 b2) := T7.out.cell 3
              have f1 := T7.out.free 1
              have R8 : Hid (Blk (w7.setCell ⟨g, 1, none⟩ (.slice a7 NN.length c7)) 53 (g + 2) #[.slice none 0 0, .slice none 0 0, .int .i64 0, .int .i64 0]) := R7.out.other ⟨g, 1, none⟩ (by show g + 2 ≠ g; omega) _
              have B8 : Hid (Below w.heap.size w (w7.setCell ⟨g, 1, none⟩ (.slice a7 NN.length c7))) := B7.out.setCell (p := ⟨g, 1, none⟩) Lg0.out _
              have O8 : Hid (OwnO (w7.setCell ⟨g, 1, none⟩ (.slice a7 NN.length c7)) wr.heap.size (.slice a7 NN.length c7) NN) := owns_set W7.out ⟨g, 1, none⟩ (by show g < _; have := Lr.out; omega) _
              have HTV : Hid (∀ a2' n2', TreeW a1 fx.length a2' n2' w.heap.size ((w7.setCell ⟨g, 1, none⟩ (.slice a7 NN.length c7)).setRow (g + 2) #[.slice a1 fx.length c1, .slice a7 NN.length c7, .int .i64 b1, .int .i64 b2]) (.agg #[.slice a1 fx.length c1, .slice a7 NN.length c7, .int .i64 b1, .int .i64 b2]) (fx, NN, (b1, b2))) := by
                have o9 : World.ownsRow ((w7.setCell ⟨g, 1, none⟩ (.slice a7 NN.length c7)).setRow (g + 2) #[.slice a1 fx.length c1, .slice a7 NN.length c7, .int .i64 b1, .int .i64 b2]) wr.heap.size 56 9 (.slice a7 NN.length c7) NN.length (cellsO NN) := owns_same O8.out (fun k hk => setRow_other _ _ k _ (by have a := (World.ownsRow.lt O8.out k hk).1; have b := Lr.out; omega))
                obtain ⟨a9, c9, e9, ho9, hk9⟩ := OwnO.ops o9
                injection e9 with e91 e92 e93
                subst e91
                subst e93
                exact fun _ _ => ⟨⟨a1, c1, _, _, rfl, H1.out.below (below_setRow B8.out Lg.out _), ho9, hk9⟩, ⟨_, _, _, _, rfl, adr_same, (adr_own o9).less BB.out.size⟩⟩
              clear hop7 hok7 hb7 W7 B7 R7 O8
              go_wp2_with (with_reducible refine wpList_storeBlkH rfl 53 _ _ rfl (g + 2) #[.slice none 0 0, .slice none 0 0, .int .i64 0, .int .i64 0] #[.slice a1 fx.length c1, .slice a7 NN.length c7, .int .i64 b1, .int .i64 b2] ?hxWv ?hyWv R8.out rfl ?hiWv ?h1Wv ?_)
              try (case hxWv => rfl)
              try (case hyWv => rfl)
              case hiWv => first | kernel_rfl | (refine Option.map_eq_some_iff.1 (?_ : (Tryz.prog.info? 53).map (·.size) = some 4); kernel_rfl)
              case h1Wv => simp [Value.oneCell']
              unfold Hid
              go_wp2
              exact bodyPost_rowTmp rfl (g + 2) #[.slice a1 fx.length c1, .slice a7 NN.length c7, .int .i64 b1, .int .i64 b2] _ rfl rfl rfl (R8.out.setRow _) _ Tryz.underlying53 rfl (by kernel_rfl) ⟨_, rfl, by rw [← HNN.out]; exact HTV.out _ _, below_setRow B8.out Lg.out _⟩
            · skip
              have t0 : World.cell? _ ⟨g, 0, none⟩ = some (.slice a1 fx.length c1) := TT.out.cell 0
              have t1 : World.cell? _ ⟨g, 1, none⟩ = some (.slice (some ⟨b, off, none⟩) ops.length c2) := TT.out.cell 1
              have t2 : World.cell? _ ⟨g, 2, none⟩ = some (.int .i64 b1) := TT.out.cell 2
              have t3 : World.cell? _ ⟨g, 3, none⟩ = some (.int .i64 b2) := TT.out.cell 3
              go_wp2_with (at_builtin; refine wpList_appW (by rfl) (.tmp 79) (.tmp 83) 23 rfl wr.heap.size 56 i0 _ 9 88 Tryz.underlying23 hi hz0 hz1 hz2 rfl (by decide) (.slice none 0 0) 0 [] rfl (World.ownsRow_nil _ _ _ _) (.slice (some ⟨b, off, none⟩) P c2) P (cellsO ((ops.drop 0).take P)) rfl (opsO_src (k := 0) (H2.out.below BB.out) (by omega)) (by rw [cellsO_len, List.length_take, List.drop_zero, Nat.min_eq_left hP]) (cellsO_one _) (by unfold maxLen; omega) (by omega) (Nat.le_refl _) ?_)
              intro v5 w5 hown5 hgr5
              have W5 : Hid (OwnO w5 wr.heap.size v5 (ops.take P)) := by
                show World.ownsRow _ _ _ _ _ _ _
                rw [List.length_take, Nat.min_eq_left hP]
                simpa using hown5
              have Lr : Hid (g + 2 < wr.heap.size) := RR.out.lt
              have T5 : Hid (Blk w5 53 g #[.slice a1 fx.length c1, .slice (some ⟨b, off, none⟩) ops.length c2, .int .i64 b1, .int .i64 b2]) := TT.out.grown hgr5 (by simp [Value.ownBlock])
              have P5 : Hid (Blk w5 56 (g + 1) #[.int .i64 k0, .int .i64 k1, .int .i64 k2, .int .i64 k3, .int .i64 k4, .int .i64 k5, .int .i64 k6, .string s, .string t]) := OO.out.grown hgr5 (by simp [Value.ownBlock])
              have R5 : Hid (Blk w5 53 (g + 2) #[.slice none 0 0, .slice none 0 0, .int .i64 0, .int .i64 0]) := RR.out.grown hgr5 (by simp [Value.ownBlock])
              have B5 : Hid (Below w.heap.size w w5) := BB.out.grown hgr5 BB.out.size (fun k hk => by cases hk)
              have L5 : Hid (wr.heap.size ≤ w5.heap.size) := hgr5.size
              clear hown5 hgr5 t0 t1 t2 t3 o0 o1 o2 TT OO RR
              have p0 : w5.cell? ⟨g + 1, 0, none⟩ = some (.int .i64 k0) := P5.out.cell 0
              have p1 : w5.cell? ⟨g + 1, 1, none⟩ = some (.int .i64 k1) := P5.out.cell 1
              have p2 : w5.cell? ⟨g + 1, 2, none⟩ = some (.int .i64 k2) := P5.out.cell 2
              have p3 : w5.cell? ⟨g + 1, 3, none⟩ = some (.int .i64 k3) := P5.out.cell 3
              have p4 : w5.cell? ⟨g + 1, 4, none⟩ = some (.int .i64 k4) := P5.out.cell 4
              have p5 : w5.cell? ⟨g + 1, 5, none⟩ = some (.int .i64 k5) := P5.out.cell 5
              have p6 : w5.cell? ⟨g + 1, 6, none⟩ = some (.int .i64 k6) := P5.out.cell 6
              have p7 : w5.cell? ⟨g + 1, 7, none⟩ = some (.string s) := P5.out.cell 7
              have p8 : w5.cell? ⟨g + 1, 8, none⟩ = some (.string t) := P5.out.cell 8
              go_wp2_with (at_builtin; refine wpList_appW (by rfl) (.tmp 85) (.tmp 87) 23 rfl wr.heap.size 56 i0 _ 9 88 Tryz.underlying23 hi hz0 hz1 hz2 rfl (by decide) v5 (ops.take P).length (cellsO (ops.take P)) rfl (show World.ownsRow _ _ _ _ _ _ _ from owns_on W5.out (below_new _ _)) (.slice (some ⟨w5.heap.size, 0, none⟩) 1 1) 1 (opA (k0, (k1, k2), (k3, k4), (k5, k6), s, t)).toList rfl (new_src (Blk.new w5 56 (opA (k0, (k1, k2), (k3, k4), (k5, k6), s, t))) 1) rfl (opA_one _) (by rw [List.length_take]; unfold maxLen; omega) (by rw [List.length_take]; omega) (by have := L5.out; simp; omega) ?_)
              intro v6 w6 hown6 hgr6
              have W6 : Hid (OwnO w6 wr.heap.size v6 (ops.take P ++ [(k0, (k1, k2), (k3, k4), (k5, k6), s, t)])) := by
                show World.ownsRow _ _ _ _ _ _ _
                rw [cellsO_app, List.length_append, List.length_take, Nat.min_eq_left hP]
                simpa [cellsO] using hown6
              have hl6 : (ops.take P ++ [(k0, (k1, k2), (k3, k4), (k5, k6), s, t)]).length = P + 1 := by rw [List.length_append, List.length_take, Nat.min_eq_left hP]; rfl
              have W6' : Hid (World.ownsRow w6 wr.heap.size 56 9 v6 (P + 1) (cellsO (ops.take P ++ [(k0, (k1, k2), (k3, k4), (k5, k6), s, t)]))) := by rw [← hl6]; exact W6
              have ne5 : Hid (∀ k, k ≤ g + 2 → some k ≠ v5.ownBlock) := fun k hk e => by have a := (World.ownsRow.lt W5.out k e.symm).1; have b := Lr.out; omega
              have T6 : Hid (Blk w6 53 g #[.slice a1 fx.length c1, .slice (some ⟨b, off, none⟩) ops.length c2, .int .i64 b1, .int .i64 b2]) := (T5.out.alloc _).grown hgr6 (ne5.out _ (by omega))
              have R6 : Hid (Blk w6 53 (g + 2) #[.slice none 0 0, .slice none 0 0, .int .i64 0, .int .i64 0]) := (R5.out.alloc _).grown hgr6 (ne5.out _ (by omega))
              have B5a : Hid (Below w.heap.size w (w5.alloc (.cells (opA (k0, (k1, k2), (k3, k4), (k5, k6), s, t)) 56))) := below_step B5.out (Nat.le_refl _) (below_new _ _)
              have B6 : Hid (Below w.heap.size w w6) := B5a.out.grown hgr6 B5a.out.size (fun k hk => by have a := (World.ownsRow.lt W5.out k hk).1; have b := BB.out.size; omega)
              have L6 : Hid (wr.heap.size ≤ w6.heap.size) := Nat.le_trans (Nat.le_trans L5.out (below_new w5 _).size) hgr6.size
              clear hown6 hgr6 B5a T5 R5 P5 B5 W5 L5 ne5 p0 p1 p2 p3 p4 p5 p6 p7 p8
              have t1 : w6.cell? ⟨g, 1, none⟩ = some (.slice (some ⟨b, off, none⟩) ops.length c2) := T6.out.cell 1
              clear hl6
              go_wp2_with (at_builtin; refine wpList_appW (by rfl) (.tmp 89) (.tmp 93) 23 rfl wr.heap.size 56 i0 _ 9 88 Tryz.underlying23 hi hz0 hz1 hz2 rfl (by decide) v6 (P + 1) (cellsO (ops.take P ++ [(k0, (k1, k2), (k3, k4), (k5, k6), s, t)])) rfl W6'.out (.slice (some ⟨b, off + P * 9, none⟩) (ops.length - P) (c2 - P)) (ops.length - P) (cellsO ((ops.drop P).take (ops.length - P))) rfl (opsO_src (H2.out.below B6.out) (by omega)) (by rw [cellsO_len, List.length_take, List.length_drop, Nat.min_self]) (cellsO_one _) (by unfold maxLen; omega) (by omega) L6.out ?_)
              intro v7 w7 hown7 hgr7
              obtain ⟨NN, HNN⟩ : ∃ NN, Hid (NN = ops.take P ++ (k0, (k1, k2), (k3, k4), (k5, k6), s, t) :: ops.drop P) := ⟨_, rfl⟩
              have W7 : Hid (OwnO w7 wr.heap.size v7 NN) := by
                show World.ownsRow _ _ _ _ _ _ _
                rw [HNN.out]
                have e : ops.take P ++ (k0, (k1, k2), (k3, k4), (k5, k6), s, t) :: ops.drop P = (ops.take P ++ [(k0, (k1, k2), (k3, k4), (k5, k6), s, t)]) ++ (ops.drop P).take (ops.length - P) := by
                  have e0 : (ops.drop P).take (ops.length - P) = ops.drop P := List.take_of_length_le (by rw [List.length_drop]; exact Nat.le_refl _)
                  rw [e0, List.append_assoc]; rfl
                rw [e, cellsO_app]
                have e2 : (ops.take P ++ [(k0, (k1, k2), (k3, k4), (k5, k6), s, t)] ++ (ops.drop P).take (ops.length - P)).length = P + 1 + (ops.length - P) := by
                  rw [List.length_append, List.length_append, List.length_take, Nat.min_eq_left hP, List.length_take, List.length_drop, Nat.min_self]; rfl
                rw [e2]; exact hown7
              have ne6 : Hid (∀ k, k ≤ g + 2 → some k ≠ v6.ownBlock) := fun k hk e => by have a := (World.ownsRow.lt W6.out k e.symm).1; have b := Lr.out; omega
              have T7 : Hid (Blk w7 53 g #[.slice a1 fx.length c1, .slice (some ⟨b, off, none⟩) ops.length c2, .int .i64 b1, .int .i64 b2]) := T6.out.grown hgr7 (ne6.out _ (by omega))
              have R7 : Hid (Blk w7 53 (g + 2) #[.slice none 0 0, .slice none 0 0, .int .i64 0, .int .i64 0]) := R6.out.grown hgr7 (ne6.out _ (by omega))
              have B7 : Hid (Below w.heap.size w w7) := B6.out.grown hgr7 B6.out.size (fun k hk => by have a := (World.ownsRow.lt W6.out k hk).1; have b := BB.out.size; omega)
              clear hown7 hgr7 T6 R6 B6 W6 W6' L6 ne6 t1
              have hb7 : Hid (∀ j, v7.ownBlock = some j → wr.heap.size ≤ j) := fun j hj => (World.ownsRow.lt W7.out j hj).1
              obtain ⟨a7, c7, rfl, hop7, hok7⟩ := W7.out.ops
              have t0 : w7.cell? ⟨g, 0, none⟩ = some (.slice a1 fx.length c1) := T7.out.cell 0
              have t1 : w7.cell? ⟨g, 1, none⟩ = some (.slice (some ⟨b, off, none⟩) ops.length c2) := T7.out.cell 1
              have t2 : w7.cell? ⟨g, 2, none⟩ = some (.int .i64 b1) := T7.out.cell 2
              have t3 : w7.cell? ⟨g, 3, none⟩ = some (.int .i64 b2) := T7.out.cell 3
              have f1 := T7.out.free 1
              have R8 : Hid (Blk (w7.setCell ⟨g, 1, none⟩ (.slice a7 NN.length c7)) 53 (g + 2) #[.slice none 0 0, .slice none 0 0, .int .i64 0, .int .i64 0]) := R7.out.other ⟨g, 1, none⟩ (by show g + 2 ≠ g; omega) _
              have B8 : Hid (Below w.heap.size w (w7.setCell ⟨g, 1, none⟩ (.slice a7 NN.length c7))) := B7.out.setCell (p := ⟨g, 1, none⟩) Lg0.out _
              have O8 : Hid (OwnO (w7.setCell ⟨g, 1, none⟩ (.slice a7 NN.length c7)) wr.heap.size (.slice a7 NN.length c7) NN) := owns_set W7.out ⟨g, 1, none⟩ (by show g < _; have := Lr.out; omega) _
              have HTV : Hid (∀ a2' n2', TreeW a1 fx.length a2' n2' w.heap.size ((w7.setCell ⟨g, 1, none⟩ (.slice a7 NN.length c7)).setRow (g + 2) #[.slice a1 fx.length c1, .slice a7 NN.length c7, .int .i64 b1, .int .i64 b2]) (.agg #[.slice a1 fx.length c1, .slice a7 NN.length c7, .int .i64 b1, .int .i64 b2]) (fx, NN, (b1, b2))) := by
                have o9 : World.ownsRow ((w7.setCell ⟨g, 1, none⟩ (.slice a7 NN.length c7)).setRow (g + 2) #[.slice a1 fx.length c1, .slice a7 NN.length c7, .int .i64 b1, .int .i64 b2]) wr.heap.size 56 9 (.slice a7 NN.length c7) NN.length (cellsO NN) := owns_same O8.out (fun k hk => setRow_other _ _ k _ (by have a := (World.ownsRow.lt O8.out k hk).1; have b := Lr.out; omega))
                obtain ⟨a9, c9, e9, ho9, hk9⟩ := OwnO.ops o9
                injection e9 with e91 e92 e93
                subst e91
                subst e93
                exact fun _ _ => ⟨⟨a1, c1, _, _, rfl, H1.out.below (below_setRow B8.out Lg.out _), ho9, hk9⟩, ⟨_, _, _, _, rfl, adr_same, (adr_own o9).less BB.out.size⟩⟩
              clear hop7 hok7 hb7 W7 B7 R7 O8
              go_wp2_with (with_reducible refine wpList_storeBlkH rfl 53 _ _ rfl (g + 2) #[.slice none 0 0, .slice none 0 0, .int .i64 0, .int .i64 0] #[.slice a1 fx.length c1, .slice a7 NN.length c7, .int .i64 b1, .int .i64 b2] ?hxW ?hyW R8.out rfl ?hiW ?h1W ?_)
              try (case hxW => rfl)
              try (case hyW => rfl)
              case hiW => first | kernel_rfl | (refine Option.map_eq_some_iff.1 (?_ : (Tryz.prog.info? 53).map (·.size) = some 4); kernel_rfl)
              case h1W => simp [Value.oneCell']
              unfold Hid
              go_wp2
              exact bodyPost_rowTmp rfl (g + 2) #[.slice a1 fx.length c1, .slice a7 NN.length c7, .int .i64 b1, .int .i64 b2] _ rfl rfl rfl (R8.out.setRow _) _ Tryz.underlying53 rfl (by kernel_rfl) ⟨_, rfl, by rw [← HNN.out]; exact HTV.out _ _, below_setRow B8.out Lg.out _⟩

end Go.Proofs.YtebnmghjdoblaaaGreatDoor

/- The document's Apply (layer 11), whole. -/
namespace Go.Proofs.YtebnmghjdoblaaaGreatDoor
open Go.RowKit
set_option linter.unusedSimpArgs false

theorem rapplyW_any (M : OpT → Bool) (hM : ∀ o, M o = true ↔ MayO o) (t : TreeT) (o : OpT) (v : Value) (w : World) (hn : t.1.length + t.2.1.length ≤ 50000) (hs : o.2.2.2.2.1.size ≤ 1048576) (ht : o.2.2.2.2.2.size ≤ 9223372036854775807) (a1 a2 : Option Addr) (c1 c2 : Nat) (hv : v = .agg #[.slice a1 t.1.length c1, .slice a2 t.2.1.length c2, .int .i64 t.2.2.1, .int .i64 t.2.2.2]) (h1 : NodesAt w a1 t.1.length t.1) (h2 : OpsAt w a2 t.2.1.length t.2.1) (h3 : SliceOk a2 t.2.1.length c2) :
    Calls Tryz.prog 25 #[v, .agg (opA o)] w fun e w' => ∃ v', e = .returned (.tuple #[v', .int .i64 (applyP M t o).2]) ∧ TreeW a1 t.1.length a2 t.2.1.length w.heap.size w' v' (applyP M t o).1 ∧ Below w.heap.size w w' := by
  obtain ⟨fx, ops, b1, b2⟩ := t
  obtain ⟨k0, ⟨k1, k2⟩, ⟨k3, k4⟩, ⟨k5, k6⟩, s, t⟩ := o
  subst hv
  obtain ⟨D, hD⟩ : ∃ D, D = M (k0, (k1, k2), (k3, k4), (k5, k6), s, t) := ⟨_, rfl⟩
  have hDM : D = true ↔ MayO (k0, (k1, k2), (k3, k4), (k5, k6), s, t) := by rw [hD]; exact hM _
  by_cases hA : D = false ∨ ¬ LessS (b1, b2) (k1, k2)
  · have e : applyP M (fx, ops, (b1, b2)) (k0, (k1, k2), (k3, k4), (k5, k6), s, t) = ((fx, ops, (b1, b2)), 1) := by
      unfold applyP
      rw [if_pos (by rw [← hD]; exact hA)]
    rw [e]
    exact rapply_arg fx ops b1 b2 k0 k1 k2 k3 k4 k5 k6 s t a1 a2 c1 c2 w D hs ht h1 h2 h3 hDM hA
  · have hDt : D = true := by
      cases D with
      | true => rfl
      | false => exact absurd (.inl rfl) hA
    have hL : LessS (b1, b2) (k1, k2) := by
      by_cases h : LessS (b1, b2) (k1, k2)
      · exact h
      · exact absurd (.inr h) hA
    have e : applyP M (fx, ops, (b1, b2)) (k0, (k1, k2), (k3, k4), (k5, k6), s, t) = if dupO (k1, k2) ops = true then ((fx, ops, (b1, b2)), 0) else if 512 ≤ ops.length ∨ (k0 = 1 ∧ 512 ≤ fx.length + creO ops) then ((fx, ops, (b1, b2)), 2) else ((fx, putO (k0, (k1, k2), (k3, k4), (k5, k6), s, t) ops, (b1, b2)), 0) := by
      unfold applyP
      rw [if_neg (by rw [← hD]; exact hA)]
    subst hDt
    exact rapply_on fx ops b1 b2 k0 k1 k2 k3 k4 k5 k6 _ s t a1 a2 c1 c2 w _ hn hs ht h1 h2 h3 hDM hL e

theorem rapply_any (M : OpT → Bool) (hM : ∀ o, M o = true ↔ MayO o) (t : TreeT) (o : OpT) (v : Value) (w : World) (hn : t.1.length + t.2.1.length ≤ 50000) (hs : o.2.2.2.2.1.size ≤ 1048576) (ht : o.2.2.2.2.2.size ≤ 9223372036854775807) (hV : TreeV w v t) :
    Calls Tryz.prog 25 #[v, .agg (opA o)] w fun e w' => ∃ v', e = .returned (.tuple #[v', .int .i64 (applyP M t o).2]) ∧ TreeV w' v' (applyP M t o).1 ∧ Below w.heap.size w w' := by
  obtain ⟨a1, c1, a2, c2, hv, h1, h2, h3⟩ := hV
  exact (rapplyW_any M hM t o v w hn hs ht a1 a2 c1 c2 hv h1 h2 h3).mono fun _ _ ⟨v', k1, k2, k3⟩ => ⟨v', k1, k2.1, k3⟩

end Go.Proofs.YtebnmghjdoblaaaGreatDoor
