import Derived.Test.YtdmlffbpcjadfaaDoorRT
import Derived.Test.YtdmlffbpcjadfaaDoorTX
/- The document's Do (layer 11). Written by mkdo.py. -/
namespace Go.Proofs.YtdmlffbpcjadfaaDoor
open Go.RowKit
set_option linter.unusedSimpArgs false

/-- A slice of nodes: whoever made it. -/
def NodesV (w : World) (v : Value) (l : List NodeT) : Prop := ∃ a c, v = .slice a l.length c ∧ NodesAt w a l.length l

theorem NodesV.on {w w' : World} {v : Value} {l : List NodeT} (h : NodesV w v l) (hb : Below w.heap.size w w') : NodesV w' v l := by
  obtain ⟨a, c, e, h⟩ := h
  exact ⟨a, c, e, h.below hb⟩

theorem OwnN.v {w : World} {B : Nat} {v : Value} {l : List NodeT} (h : OwnN w B v l) : NodesV w v l := OwnN.nodes h

/-- A slice's block is that of an old one, or a new one. -/
def AdrV (a : Option Addr) (n0 B : Nat) (v : Value) : Prop := ∀ x n c, v = .slice (some x) n c → (∃ y, a = some y ∧ y.block = x.block ∧ n ≤ n0) ∨ B ≤ x.block

theorem adr_same {a : Option Addr} {B n c : Nat} : AdrV a n B (.slice a n c) := fun x m d e => by
  cases e
  exact .inl ⟨x, rfl, rfl, Nat.le_refl _⟩

theorem AdrV.less {a : Option Addr} {n0 B B' : Nat} {v : Value} (h : AdrV a n0 B' v) (hB : B ≤ B') : AdrV a n0 B v := fun x n c e => (h x n c e).imp id (fun k => Nat.le_trans hB k)

theorem adr_own {w : World} {a : Option Addr} {n0 B n c : Nat} {e : TypeId} {v : Value} {xs : List Value} (h : w.ownsRow B e c v n xs) : AdrV a n0 B v := fun x m d hv => by
  rcases h.2 with ⟨rfl, _⟩ | ⟨g, cap, cur, rfl, hB, _⟩
  · cases hv
  · cases hv; exact .inr hB

theorem rwithV (l : List NodeT) (nd : NodeT) (a : Option Addr) (n c : Nat) (w : World) (hn : n ≤ 65536) (hI : NodesAt w a n l) :
    Calls Tryd.prog 45 #[.slice a n c, .agg (nodeA nd)] w fun e w' => ∃ v, e = .returned v ∧ NodesV w' v (withP l nd) ∧ Below w.heap.size w w' ∧ AdrV a n w.heap.size v := by
  refine (rwith11_any l nd a n c w hn hI).mono ?_
  rintro e w' ⟨v, rfl, h, hb⟩
  exact ⟨v, rfl, h.v, hb, adr_own h⟩

set_option maxRecDepth 100000 in
set_option maxHeartbeats 4000000 in
theorem rdo_5no (l : List NodeT) (a1 a2 c1 c2 e1 e2 : Int) (s t : ByteArray) (a : Option Addr) (n c : Nat) (w : World) (hn : n ≤ 65535) (HI : Hid (NodesAt w a n l)) (HR : Hid (FindE l (c1, c2) (-1))) :
    Calls Tryd.prog 17 #[.slice a n c, .agg #[.int .i64 5, .int .i64 a1, .int .i64 a2, .int .i64 c1, .int .i64 c2, .int .i64 e1, .int .i64 e2, .string s, .string t]] w fun e w' => ∃ v, e = .returned v ∧ NodesV w' v (l) ∧ Below w.heap.size w w' ∧ AdrV a n w.heap.size v := by
  have hln : l.length = n := HI.out.1
  have HLN : Hid (l.length = n) := hln
  clear hln
  obtain ⟨L, HL⟩ : ∃ L, Hid (L = l) := ⟨_, rfl⟩
  show Calls _ _ _ _ fun e w' => ∃ v, e = .returned v ∧ NodesV w' v (l) ∧ Below w.heap.size w w' ∧ AdrV a n w.heap.size v
  rw [← HL.out]
  go_enter Tryd.func17, Tryd.ntmps17
  go_wp2_with fail
  generalize hq : World.alloc w _ = w0
  have hb0 : Hid (Below w.heap.size w w0) := by rw [← hq]; exact below_new w _
  have G0 : Hid (Blk w0 30 w.heap.size #[.int .i64 5, .int .i64 a1, .int .i64 a2, .int .i64 c1, .int .i64 c2, .int .i64 e1, .int .i64 e2, .string s, .string t]) := by show Blk _ _ _ _; rw [← hq]; exact Blk.new _ _ _
  have N0 : Hid (NodesAt w0 a n l) := HI.out.below hb0.out
  obtain ⟨g, hg⟩ : ∃ g, g = w.heap.size := ⟨_, rfl⟩
  rw [← hg] at G0 ⊢
  have LG : Hid (w.heap.size ≤ w.heap.size) := Nat.le_refl _
  clear hq HI hg
  refine (rfind_any l (c1, c2) (-1) HR.out a n c w0 (by omega) N0.out).mono ?_
  rintro e w1 ⟨rfl, hb1⟩
  have HB1 : Hid (Below w.heap.size w w1) := below_step hb0.out LG.out hb1
  have G1 : Hid (Blk w1 30 g #[.int .i64 5, .int .i64 a1, .int .i64 a2, .int .i64 c1, .int .i64 c2, .int .i64 e1, .int .i64 e2, .string s, .string t]) := G0.out.on hb1
  have N1 : Hid (NodesAt w1 a n l) := N0.out.below hb1
  clear hb1 hb0 G0 N0 HR
  have g5 : w1.cell? ⟨g, 5, none⟩ = some (.int .i64 e1) := G1.out.cell 5
  have g6 : w1.cell? ⟨g, 6, none⟩ = some (.int .i64 e2) := G1.out.cell 6
  have f0 : ∀ o, (w1.alloc o).cell? ⟨g, 0, none⟩ = some (.int .i64 5) := fun o => (G1.out.alloc o).cell 0
  have f3 : ∀ o, (w1.alloc o).cell? ⟨g, 3, none⟩ = some (.int .i64 c1) := fun o => (G1.out.alloc o).cell 3
  have f4 : ∀ o, (w1.alloc o).cell? ⟨g, 4, none⟩ = some (.int .i64 c2) := fun o => (G1.out.alloc o).cell 4
  have f7 : ∀ o, (w1.alloc o).cell? ⟨g, 7, none⟩ = some (.string s) := fun o => (G1.out.alloc o).cell 7
  have f8 : ∀ o, (w1.alloc o).cell? ⟨g, 8, none⟩ = some (.string t) := fun o => (G1.out.alloc o).cell 8
  have f0' : ∀ o o', ((w1.alloc o).alloc o').cell? ⟨g, 0, none⟩ = some (.int .i64 5) := fun o o' => ((G1.out.alloc o).alloc o').cell 0
  have f3' : ∀ o o', ((w1.alloc o).alloc o').cell? ⟨g, 3, none⟩ = some (.int .i64 c1) := fun o o' => ((G1.out.alloc o).alloc o').cell 3
  have f4' : ∀ o o', ((w1.alloc o).alloc o').cell? ⟨g, 4, none⟩ = some (.int .i64 c2) := fun o o' => ((G1.out.alloc o).alloc o').cell 4
  have f7' : ∀ o o', ((w1.alloc o).alloc o').cell? ⟨g, 7, none⟩ = some (.string s) := fun o o' => ((G1.out.alloc o).alloc o').cell 7
  have f8' : ∀ o o', ((w1.alloc o).alloc o').cell? ⟨g, 8, none⟩ = some (.string t) := fun o o' => ((G1.out.alloc o).alloc o').cell 8
  go_wp2
  go_ret
  exact ⟨.slice a n c, rfl, by rw [HL.out]; exact ⟨_, _, by rw [HLN.out], by rw [HLN.out]; exact N1.out.below (below_new w1 _)⟩, below_step HB1.out LG.out (below_new w1 _), adr_same⟩

set_option maxRecDepth 100000 in
set_option maxHeartbeats 4000000 in
theorem rdo_5un (l : List NodeT) (a1 a2 c1 c2 e1 e2 : Int) (s t : ByteArray) (a : Option Addr) (n c j : Nat) (w : World) (hn : n ≤ 65535) (HI : Hid (NodesAt w a n l)) (HR : Hid (FindE l (c1, c2) (j : Int))) (hj : j < n) (HU : Hid (underF l (c1, c2) (n + 1) (0, 1) = true)) :
    Calls Tryd.prog 17 #[.slice a n c, .agg #[.int .i64 5, .int .i64 a1, .int .i64 a2, .int .i64 c1, .int .i64 c2, .int .i64 e1, .int .i64 e2, .string s, .string t]] w fun e w' => ∃ v, e = .returned v ∧ NodesV w' v (l) ∧ Below w.heap.size w w' ∧ AdrV a n w.heap.size v := by
  have hln : l.length = n := HI.out.1
  have HLN : Hid (l.length = n) := hln
  clear hln
  have j0 : (j : Int) < (n : Int) := by omega
  have j1 : ¬ ((j : Int) < 0) := by omega
  have j2 : decide ((j : Int) < 0) = false := by simp
  have j3 : decide ((0 : Int) ≤ (j : Int)) = true := by simp
  obtain ⟨Y, hY⟩ : ∃ Y, Y = nL l j := ⟨_, rfl⟩
  obtain ⟨⟨m1, m2⟩, ⟨m3, m4⟩, m5, m6⟩ := Y
  obtain ⟨L, HL⟩ : ∃ L, Hid (L = l) := ⟨_, rfl⟩
  show Calls _ _ _ _ fun e w' => ∃ v, e = .returned v ∧ NodesV w' v (l) ∧ Below w.heap.size w w' ∧ AdrV a n w.heap.size v
  rw [← HL.out]
  have HYY : Hid (((m1, m2), (m3, m4), m5, m6) = nL l j) := hY
  clear hY
  go_enter Tryd.func17, Tryd.ntmps17
  go_wp2_with fail
  generalize hq : World.alloc w _ = w0
  have hb0 : Hid (Below w.heap.size w w0) := by rw [← hq]; exact below_new w _
  have G0 : Hid (Blk w0 30 w.heap.size #[.int .i64 5, .int .i64 a1, .int .i64 a2, .int .i64 c1, .int .i64 c2, .int .i64 e1, .int .i64 e2, .string s, .string t]) := by show Blk _ _ _ _; rw [← hq]; exact Blk.new _ _ _
  have N0 : Hid (NodesAt w0 a n l) := HI.out.below hb0.out
  obtain ⟨g, hg⟩ : ∃ g, g = w.heap.size := ⟨_, rfl⟩
  rw [← hg] at G0 ⊢
  have LG : Hid (w.heap.size ≤ w.heap.size) := Nat.le_refl _
  clear hq HI hg
  refine (rfind_any l (c1, c2) (j : Int) HR.out a n c w0 (by omega) N0.out).mono ?_
  rintro e w1 ⟨rfl, hb1⟩
  have HB1 : Hid (Below w.heap.size w w1) := below_step hb0.out LG.out hb1
  have G1 : Hid (Blk w1 30 g #[.int .i64 5, .int .i64 a1, .int .i64 a2, .int .i64 c1, .int .i64 c2, .int .i64 e1, .int .i64 e2, .string s, .string t]) := G0.out.on hb1
  have N1 : Hid (NodesAt w1 a n l) := N0.out.below hb1
  clear hb1 hb0 G0 N0 HR
  have g5 : w1.cell? ⟨g, 5, none⟩ = some (.int .i64 e1) := G1.out.cell 5
  have g6 : w1.cell? ⟨g, 6, none⟩ = some (.int .i64 e2) := G1.out.cell 6
  have f0 : ∀ o, (w1.alloc o).cell? ⟨g, 0, none⟩ = some (.int .i64 5) := fun o => (G1.out.alloc o).cell 0
  have f3 : ∀ o, (w1.alloc o).cell? ⟨g, 3, none⟩ = some (.int .i64 c1) := fun o => (G1.out.alloc o).cell 3
  have f4 : ∀ o, (w1.alloc o).cell? ⟨g, 4, none⟩ = some (.int .i64 c2) := fun o => (G1.out.alloc o).cell 4
  have f7 : ∀ o, (w1.alloc o).cell? ⟨g, 7, none⟩ = some (.string s) := fun o => (G1.out.alloc o).cell 7
  have f8 : ∀ o, (w1.alloc o).cell? ⟨g, 8, none⟩ = some (.string t) := fun o => (G1.out.alloc o).cell 8
  obtain ⟨b, off, rfl, _⟩ := N1.out.2.some (by omega)
  obtain ⟨q0, q1, q2, q3, q4, q5⟩ := N1.out.cells j hj
  rw [← HYY.out] at q0 q1 q2 q3 q4 q5
  have n0 : ∀ o, (w1.alloc o).cell? ⟨b, off + j * 6, none⟩ = some (.int .i64 m1) := fun o => by rw [(below_new w1 o).cell (World.block_lt_of_cell? w1 _ q0)]; exact q0
  have n1 : ∀ o, (w1.alloc o).cell? ⟨b, off + j * 6 + 1, none⟩ = some (.int .i64 m2) := fun o => by rw [(below_new w1 o).cell (World.block_lt_of_cell? w1 _ q1)]; exact q1
  have n2 : ∀ o, (w1.alloc o).cell? ⟨b, off + j * 6 + 2, none⟩ = some (.int .i64 m3) := fun o => by rw [(below_new w1 o).cell (World.block_lt_of_cell? w1 _ q2)]; exact q2
  have n3 : ∀ o, (w1.alloc o).cell? ⟨b, off + j * 6 + 3, none⟩ = some (.int .i64 m4) := fun o => by rw [(below_new w1 o).cell (World.block_lt_of_cell? w1 _ q3)]; exact q3
  have n4 : ∀ o, (w1.alloc o).cell? ⟨b, off + j * 6 + 4, none⟩ = some (.string m5) := fun o => by rw [(below_new w1 o).cell (World.block_lt_of_cell? w1 _ q4)]; exact q4
  have n5 : ∀ o, (w1.alloc o).cell? ⟨b, off + j * 6 + 5, none⟩ = some (.string m6) := fun o => by rw [(below_new w1 o).cell (World.block_lt_of_cell? w1 _ q5)]; exact q5
  have f0' : ∀ o o', ((w1.alloc o).alloc o').cell? ⟨g, 0, none⟩ = some (.int .i64 5) := fun o o' => ((G1.out.alloc o).alloc o').cell 0
  have f3' : ∀ o o', ((w1.alloc o).alloc o').cell? ⟨g, 3, none⟩ = some (.int .i64 c1) := fun o o' => ((G1.out.alloc o).alloc o').cell 3
  have f4' : ∀ o o', ((w1.alloc o).alloc o').cell? ⟨g, 4, none⟩ = some (.int .i64 c2) := fun o o' => ((G1.out.alloc o).alloc o').cell 4
  have f7' : ∀ o o', ((w1.alloc o).alloc o').cell? ⟨g, 7, none⟩ = some (.string s) := fun o o' => ((G1.out.alloc o).alloc o').cell 7
  have f8' : ∀ o o', ((w1.alloc o).alloc o').cell? ⟨g, 8, none⟩ = some (.string t) := fun o o' => ((G1.out.alloc o).alloc o').cell 8
  go_wp2_with fail
  have CU := runder_any l (0, 1) (c1, c2) (some ⟨b, off, none⟩) n c ((w1.alloc (.cells #[.int .i64 0, .int .i64 1] 24)).alloc (.cells #[.int .i64 m1, .int .i64 m2, .int .i64 m3, .int .i64 m4, .string m5, .string m6] 62)) (by omega) (N1.out.below (below_step (below_new w1 _) (Nat.le_refl _) (below_new _ _)))
  rw [HU.out] at CU
  refine CU.mono ?_
  clear CU
  rintro e w3 ⟨rfl, hb3⟩
  have hb13 : Hid (Below w1.heap.size w1 w3) := below_step (below_step (below_new w1 _) (Nat.le_refl _) (below_new _ _)) (Nat.le_refl _) hb3
  clear hb3
  go_wp2
  go_ret
  exact ⟨.slice (some ⟨b, off, none⟩) n c, rfl, by rw [HL.out]; exact ⟨_, _, by rw [HLN.out], by rw [HLN.out]; exact N1.out.below hb13.out⟩, below_step HB1.out LG.out hb13.out, adr_same⟩

set_option maxRecDepth 100000 in
set_option maxHeartbeats 4000000 in
theorem rdo_5mv (l : List NodeT) (a1 a2 c1 c2 e1 e2 : Int) (s t : ByteArray) (a : Option Addr) (n c j : Nat) (w : World) (hn : n ≤ 65535) (HI : Hid (NodesAt w a n l)) (HR : Hid (FindE l (c1, c2) (j : Int))) (hj : j < n) (HU : Hid (underF l (c1, c2) (n + 1) (0, 1) = false)) :
    Calls Tryd.prog 17 #[.slice a n c, .agg #[.int .i64 5, .int .i64 a1, .int .i64 a2, .int .i64 c1, .int .i64 c2, .int .i64 e1, .int .i64 e2, .string s, .string t]] w fun e w' => ∃ v, e = .returned v ∧ NodesV w' v (withP l ((nL l j).1, (0, 1), (nL l j).2.2.1, (nL l j).2.2.2)) ∧ Below w.heap.size w w' ∧ AdrV a n w.heap.size v := by
  have hln : l.length = n := HI.out.1
  have HLN : Hid (l.length = n) := hln
  clear hln
  have j0 : (j : Int) < (n : Int) := by omega
  have j1 : ¬ ((j : Int) < 0) := by omega
  have j2 : decide ((j : Int) < 0) = false := by simp
  have j3 : decide ((0 : Int) ≤ (j : Int)) = true := by simp
  obtain ⟨Y, hY⟩ : ∃ Y, Y = nL l j := ⟨_, rfl⟩
  rw [← hY]
  obtain ⟨⟨m1, m2⟩, ⟨m3, m4⟩, m5, m6⟩ := Y
  obtain ⟨L, HL⟩ : ∃ L, Hid (L = withP l ((m1, m2), (0, 1), m5, m6)) := ⟨_, rfl⟩
  show Calls _ _ _ _ fun e w' => ∃ v, e = .returned v ∧ NodesV w' v (withP l ((m1, m2), (0, 1), m5, m6)) ∧ Below w.heap.size w w' ∧ AdrV a n w.heap.size v
  rw [← HL.out]
  have HYY : Hid (((m1, m2), (m3, m4), m5, m6) = nL l j) := hY
  clear hY
  go_enter Tryd.func17, Tryd.ntmps17
  go_wp2_with fail
  generalize hq : World.alloc w _ = w0
  have hb0 : Hid (Below w.heap.size w w0) := by rw [← hq]; exact below_new w _
  have G0 : Hid (Blk w0 30 w.heap.size #[.int .i64 5, .int .i64 a1, .int .i64 a2, .int .i64 c1, .int .i64 c2, .int .i64 e1, .int .i64 e2, .string s, .string t]) := by show Blk _ _ _ _; rw [← hq]; exact Blk.new _ _ _
  have N0 : Hid (NodesAt w0 a n l) := HI.out.below hb0.out
  obtain ⟨g, hg⟩ : ∃ g, g = w.heap.size := ⟨_, rfl⟩
  rw [← hg] at G0 ⊢
  have LG : Hid (w.heap.size ≤ w.heap.size) := Nat.le_refl _
  clear hq HI hg
  refine (rfind_any l (c1, c2) (j : Int) HR.out a n c w0 (by omega) N0.out).mono ?_
  rintro e w1 ⟨rfl, hb1⟩
  have HB1 : Hid (Below w.heap.size w w1) := below_step hb0.out LG.out hb1
  have G1 : Hid (Blk w1 30 g #[.int .i64 5, .int .i64 a1, .int .i64 a2, .int .i64 c1, .int .i64 c2, .int .i64 e1, .int .i64 e2, .string s, .string t]) := G0.out.on hb1
  have N1 : Hid (NodesAt w1 a n l) := N0.out.below hb1
  clear hb1 hb0 G0 N0 HR
  have g5 : w1.cell? ⟨g, 5, none⟩ = some (.int .i64 e1) := G1.out.cell 5
  have g6 : w1.cell? ⟨g, 6, none⟩ = some (.int .i64 e2) := G1.out.cell 6
  have f0 : ∀ o, (w1.alloc o).cell? ⟨g, 0, none⟩ = some (.int .i64 5) := fun o => (G1.out.alloc o).cell 0
  have f3 : ∀ o, (w1.alloc o).cell? ⟨g, 3, none⟩ = some (.int .i64 c1) := fun o => (G1.out.alloc o).cell 3
  have f4 : ∀ o, (w1.alloc o).cell? ⟨g, 4, none⟩ = some (.int .i64 c2) := fun o => (G1.out.alloc o).cell 4
  have f7 : ∀ o, (w1.alloc o).cell? ⟨g, 7, none⟩ = some (.string s) := fun o => (G1.out.alloc o).cell 7
  have f8 : ∀ o, (w1.alloc o).cell? ⟨g, 8, none⟩ = some (.string t) := fun o => (G1.out.alloc o).cell 8
  obtain ⟨b, off, rfl, _⟩ := N1.out.2.some (by omega)
  obtain ⟨q0, q1, q2, q3, q4, q5⟩ := N1.out.cells j hj
  rw [← HYY.out] at q0 q1 q2 q3 q4 q5
  have n0 : ∀ o, (w1.alloc o).cell? ⟨b, off + j * 6, none⟩ = some (.int .i64 m1) := fun o => by rw [(below_new w1 o).cell (World.block_lt_of_cell? w1 _ q0)]; exact q0
  have n1 : ∀ o, (w1.alloc o).cell? ⟨b, off + j * 6 + 1, none⟩ = some (.int .i64 m2) := fun o => by rw [(below_new w1 o).cell (World.block_lt_of_cell? w1 _ q1)]; exact q1
  have n2 : ∀ o, (w1.alloc o).cell? ⟨b, off + j * 6 + 2, none⟩ = some (.int .i64 m3) := fun o => by rw [(below_new w1 o).cell (World.block_lt_of_cell? w1 _ q2)]; exact q2
  have n3 : ∀ o, (w1.alloc o).cell? ⟨b, off + j * 6 + 3, none⟩ = some (.int .i64 m4) := fun o => by rw [(below_new w1 o).cell (World.block_lt_of_cell? w1 _ q3)]; exact q3
  have n4 : ∀ o, (w1.alloc o).cell? ⟨b, off + j * 6 + 4, none⟩ = some (.string m5) := fun o => by rw [(below_new w1 o).cell (World.block_lt_of_cell? w1 _ q4)]; exact q4
  have n5 : ∀ o, (w1.alloc o).cell? ⟨b, off + j * 6 + 5, none⟩ = some (.string m6) := fun o => by rw [(below_new w1 o).cell (World.block_lt_of_cell? w1 _ q5)]; exact q5
  have f0' : ∀ o o', ((w1.alloc o).alloc o').cell? ⟨g, 0, none⟩ = some (.int .i64 5) := fun o o' => ((G1.out.alloc o).alloc o').cell 0
  have f3' : ∀ o o', ((w1.alloc o).alloc o').cell? ⟨g, 3, none⟩ = some (.int .i64 c1) := fun o o' => ((G1.out.alloc o).alloc o').cell 3
  have f4' : ∀ o o', ((w1.alloc o).alloc o').cell? ⟨g, 4, none⟩ = some (.int .i64 c2) := fun o o' => ((G1.out.alloc o).alloc o').cell 4
  have f7' : ∀ o o', ((w1.alloc o).alloc o').cell? ⟨g, 7, none⟩ = some (.string s) := fun o o' => ((G1.out.alloc o).alloc o').cell 7
  have f8' : ∀ o o', ((w1.alloc o).alloc o').cell? ⟨g, 8, none⟩ = some (.string t) := fun o o' => ((G1.out.alloc o).alloc o').cell 8
  go_wp2_with fail
  have CU := runder_any l (0, 1) (c1, c2) (some ⟨b, off, none⟩) n c ((w1.alloc (.cells #[.int .i64 0, .int .i64 1] 24)).alloc (.cells #[.int .i64 m1, .int .i64 m2, .int .i64 m3, .int .i64 m4, .string m5, .string m6] 62)) (by omega) (N1.out.below (below_step (below_new w1 _) (Nat.le_refl _) (below_new _ _)))
  rw [HU.out] at CU
  refine CU.mono ?_
  clear CU
  rintro e w3 ⟨rfl, hb3⟩
  have hb13 : Hid (Below w1.heap.size w1 w3) := below_step (below_step (below_new w1 _) (Nat.le_refl _) (below_new _ _)) (Nat.le_refl _) hb3
  obtain ⟨k2, hk2⟩ : ∃ k, k = (w1.alloc (.cells #[.int .i64 0, .int .i64 1] 24)).heap.size := ⟨_, rfl⟩
  have K3 : Hid (Blk w3 62 k2 #[.int .i64 m1, .int .i64 m2, .int .i64 m3, .int .i64 m4, .string m5, .string m6]) := (Blk.new' _ _ _ _ hk2.symm).on hb3
  have P3 : Hid (Blk w3 24 w1.heap.size #[.int .i64 0, .int .i64 1]) := ((Blk.new w1 _ _).alloc _).on hb3
  have Lk : Hid (w1.heap.size ≤ k2) := by show _ ≤ _; rw [hk2]; simp
  have hk3 : w1.heap.size + 1 = k2 := by rw [hk2]; simp
  try rw [hk3]
  clear hk3
  clear hk2 hb3
  have pp0 : w3.cell? ⟨w1.heap.size, 0, none⟩ = some (.int .i64 0) := P3.out.cell 0
  have pp1 : w3.cell? ⟨w1.heap.size, 1, none⟩ = some (.int .i64 1) := P3.out.cell 1
  have kc0 : w3.cell? ⟨k2, 0, none⟩ = some (.int .i64 m1) := K3.out.cell 0
  have kc1 : w3.cell? ⟨k2, 1, none⟩ = some (.int .i64 m2) := K3.out.cell 1
  have kc2 : w3.cell? ⟨k2, 2, none⟩ = some (.int .i64 m3) := K3.out.cell 2
  have kc3 : w3.cell? ⟨k2, 3, none⟩ = some (.int .i64 m4) := K3.out.cell 3
  have kc4 : w3.cell? ⟨k2, 4, none⟩ = some (.string m5) := K3.out.cell 4
  have kc5 : w3.cell? ⟨k2, 5, none⟩ = some (.string m6) := K3.out.cell 5
  have fz2 := K3.out.free 2
  have fz3 := K3.out.free 3
  go_wp2_with fail
  refine (rwithV l ((m1, m2), (0, 1), m5, m6) (some ⟨b, off, none⟩) n c _ (by omega) (N1.out.below ((hb13.out.setCell (p := ⟨k2, 2, none⟩) Lk.out _).setCell (p := ⟨k2, 3, none⟩) Lk.out _))).mono ?_
  rintro e w4 ⟨v, rfl, hv, hb4, ha4⟩
  have HV : Hid (NodesV w4 v L) := by rw [HL.out]; exact hv
  have B4 : Hid (Below w.heap.size w w4) := below_step (below_step HB1.out LG.out ((hb13.out.setCell (p := ⟨k2, 2, none⟩) Lk.out _).setCell (p := ⟨k2, 3, none⟩) Lk.out _)) LG.out hb4
  have HA : Hid (AdrV _ n w.heap.size v) := ha4.less (below_step HB1.out LG.out ((hb13.out.setCell (p := ⟨k2, 2, none⟩) Lk.out _).setCell (p := ⟨k2, 3, none⟩) Lk.out _)).size
  clear hv hb4 ha4
  go_wp2
  go_ret
  exact ⟨v, rfl, HV.out, B4.out, HA.out⟩

set_option maxRecDepth 100000 in
set_option maxHeartbeats 4000000 in
theorem rdo_1xy (l : List NodeT) (a1 a2 c1 c2 e2 : Int) (s t : ByteArray) (a : Option Addr) (n c j : Nat) (w : World) (hn : n ≤ 65535) (HI : Hid (NodesAt w a n l)) (HR : Hid (FindE l (c1, c2) (j : Int))) (hj : j < n) :
    Calls Tryd.prog 17 #[.slice a n c, .agg #[.int .i64 1, .int .i64 a1, .int .i64 a2, .int .i64 c1, .int .i64 c2, .int .i64 0, .int .i64 e2, .string s, .string t]] w fun e w' => ∃ v, e = .returned v ∧ NodesV w' v (l) ∧ Below w.heap.size w w' ∧ AdrV a n w.heap.size v := by
  have hln : l.length = n := HI.out.1
  have HLN : Hid (l.length = n) := hln
  clear hln
  have j0 : (j : Int) < (n : Int) := by omega
  have j1 : ¬ ((j : Int) < 0) := by omega
  have j2 : decide ((j : Int) < 0) = false := by simp
  have j3 : decide ((0 : Int) ≤ (j : Int)) = true := by simp
  obtain ⟨Y, hY⟩ : ∃ Y, Y = nL l j := ⟨_, rfl⟩
  obtain ⟨⟨m1, m2⟩, ⟨m3, m4⟩, m5, m6⟩ := Y
  obtain ⟨L, HL⟩ : ∃ L, Hid (L = l) := ⟨_, rfl⟩
  show Calls _ _ _ _ fun e w' => ∃ v, e = .returned v ∧ NodesV w' v (l) ∧ Below w.heap.size w w' ∧ AdrV a n w.heap.size v
  rw [← HL.out]
  have HYY : Hid (((m1, m2), (m3, m4), m5, m6) = nL l j) := hY
  clear hY
  go_enter Tryd.func17, Tryd.ntmps17
  go_wp2_with fail
  generalize hq : World.alloc w _ = w0
  have hb0 : Hid (Below w.heap.size w w0) := by rw [← hq]; exact below_new w _
  have G0 : Hid (Blk w0 30 w.heap.size #[.int .i64 1, .int .i64 a1, .int .i64 a2, .int .i64 c1, .int .i64 c2, .int .i64 0, .int .i64 e2, .string s, .string t]) := by show Blk _ _ _ _; rw [← hq]; exact Blk.new _ _ _
  have N0 : Hid (NodesAt w0 a n l) := HI.out.below hb0.out
  obtain ⟨g, hg⟩ : ∃ g, g = w.heap.size := ⟨_, rfl⟩
  rw [← hg] at G0 ⊢
  have LG : Hid (w.heap.size ≤ w.heap.size) := Nat.le_refl _
  clear hq HI hg
  refine (rfind_any l (c1, c2) (j : Int) HR.out a n c w0 (by omega) N0.out).mono ?_
  rintro e w1 ⟨rfl, hb1⟩
  have HB1 : Hid (Below w.heap.size w w1) := below_step hb0.out LG.out hb1
  have G1 : Hid (Blk w1 30 g #[.int .i64 1, .int .i64 a1, .int .i64 a2, .int .i64 c1, .int .i64 c2, .int .i64 0, .int .i64 e2, .string s, .string t]) := G0.out.on hb1
  have N1 : Hid (NodesAt w1 a n l) := N0.out.below hb1
  clear hb1 hb0 G0 N0 HR
  have g5 : w1.cell? ⟨g, 5, none⟩ = some (.int .i64 0) := G1.out.cell 5
  have g6 : w1.cell? ⟨g, 6, none⟩ = some (.int .i64 e2) := G1.out.cell 6
  have f0 : ∀ o, (w1.alloc o).cell? ⟨g, 0, none⟩ = some (.int .i64 1) := fun o => (G1.out.alloc o).cell 0
  have f3 : ∀ o, (w1.alloc o).cell? ⟨g, 3, none⟩ = some (.int .i64 c1) := fun o => (G1.out.alloc o).cell 3
  have f4 : ∀ o, (w1.alloc o).cell? ⟨g, 4, none⟩ = some (.int .i64 c2) := fun o => (G1.out.alloc o).cell 4
  have f7 : ∀ o, (w1.alloc o).cell? ⟨g, 7, none⟩ = some (.string s) := fun o => (G1.out.alloc o).cell 7
  have f8 : ∀ o, (w1.alloc o).cell? ⟨g, 8, none⟩ = some (.string t) := fun o => (G1.out.alloc o).cell 8
  obtain ⟨b, off, rfl, _⟩ := N1.out.2.some (by omega)
  obtain ⟨q0, q1, q2, q3, q4, q5⟩ := N1.out.cells j hj
  rw [← HYY.out] at q0 q1 q2 q3 q4 q5
  have n0 : ∀ o, (w1.alloc o).cell? ⟨b, off + j * 6, none⟩ = some (.int .i64 m1) := fun o => by rw [(below_new w1 o).cell (World.block_lt_of_cell? w1 _ q0)]; exact q0
  have n1 : ∀ o, (w1.alloc o).cell? ⟨b, off + j * 6 + 1, none⟩ = some (.int .i64 m2) := fun o => by rw [(below_new w1 o).cell (World.block_lt_of_cell? w1 _ q1)]; exact q1
  have n2 : ∀ o, (w1.alloc o).cell? ⟨b, off + j * 6 + 2, none⟩ = some (.int .i64 m3) := fun o => by rw [(below_new w1 o).cell (World.block_lt_of_cell? w1 _ q2)]; exact q2
  have n3 : ∀ o, (w1.alloc o).cell? ⟨b, off + j * 6 + 3, none⟩ = some (.int .i64 m4) := fun o => by rw [(below_new w1 o).cell (World.block_lt_of_cell? w1 _ q3)]; exact q3
  have n4 : ∀ o, (w1.alloc o).cell? ⟨b, off + j * 6 + 4, none⟩ = some (.string m5) := fun o => by rw [(below_new w1 o).cell (World.block_lt_of_cell? w1 _ q4)]; exact q4
  have n5 : ∀ o, (w1.alloc o).cell? ⟨b, off + j * 6 + 5, none⟩ = some (.string m6) := fun o => by rw [(below_new w1 o).cell (World.block_lt_of_cell? w1 _ q5)]; exact q5
  have f0' : ∀ o o', ((w1.alloc o).alloc o').cell? ⟨g, 0, none⟩ = some (.int .i64 1) := fun o o' => ((G1.out.alloc o).alloc o').cell 0
  have f3' : ∀ o o', ((w1.alloc o).alloc o').cell? ⟨g, 3, none⟩ = some (.int .i64 c1) := fun o o' => ((G1.out.alloc o).alloc o').cell 3
  have f4' : ∀ o o', ((w1.alloc o).alloc o').cell? ⟨g, 4, none⟩ = some (.int .i64 c2) := fun o o' => ((G1.out.alloc o).alloc o').cell 4
  have f7' : ∀ o o', ((w1.alloc o).alloc o').cell? ⟨g, 7, none⟩ = some (.string s) := fun o o' => ((G1.out.alloc o).alloc o').cell 7
  have f8' : ∀ o o', ((w1.alloc o).alloc o').cell? ⟨g, 8, none⟩ = some (.string t) := fun o o' => ((G1.out.alloc o).alloc o').cell 8
  go_wp2
  go_ret
  exact ⟨.slice (some ⟨b, off, none⟩) n c, rfl, by rw [HL.out]; exact ⟨_, _, by rw [HLN.out], by rw [HLN.out]; exact N1.out.below (below_new w1 _)⟩, below_step HB1.out LG.out (below_new w1 _), adr_same⟩

set_option maxRecDepth 100000 in
set_option maxHeartbeats 4000000 in
theorem rdo_1xn (l : List NodeT) (a1 a2 c1 c2 e2 : Int) (s t : ByteArray) (a : Option Addr) (n c : Nat) (w : World) (hn : n ≤ 65535) (HI : Hid (NodesAt w a n l)) (HR : Hid (FindE l (c1, c2) (-1))) :
    Calls Tryd.prog 17 #[.slice a n c, .agg #[.int .i64 1, .int .i64 a1, .int .i64 a2, .int .i64 c1, .int .i64 c2, .int .i64 0, .int .i64 e2, .string s, .string t]] w fun e w' => ∃ v, e = .returned v ∧ NodesV w' v (withP l ((c1, c2), (0, e2), s, ⟨#[]⟩)) ∧ Below w.heap.size w w' ∧ AdrV a n w.heap.size v := by
  have hln : l.length = n := HI.out.1
  have HLN : Hid (l.length = n) := hln
  clear hln
  obtain ⟨L, HL⟩ : ∃ L, Hid (L = withP l ((c1, c2), (0, e2), s, ⟨#[]⟩)) := ⟨_, rfl⟩
  show Calls _ _ _ _ fun e w' => ∃ v, e = .returned v ∧ NodesV w' v (withP l ((c1, c2), (0, e2), s, ⟨#[]⟩)) ∧ Below w.heap.size w w' ∧ AdrV a n w.heap.size v
  rw [← HL.out]
  go_enter Tryd.func17, Tryd.ntmps17
  go_wp2_with fail
  generalize hq : World.alloc w _ = w0
  have hb0 : Hid (Below w.heap.size w w0) := by rw [← hq]; exact below_new w _
  have G0 : Hid (Blk w0 30 w.heap.size #[.int .i64 1, .int .i64 a1, .int .i64 a2, .int .i64 c1, .int .i64 c2, .int .i64 0, .int .i64 e2, .string s, .string t]) := by show Blk _ _ _ _; rw [← hq]; exact Blk.new _ _ _
  have N0 : Hid (NodesAt w0 a n l) := HI.out.below hb0.out
  obtain ⟨g, hg⟩ : ∃ g, g = w.heap.size := ⟨_, rfl⟩
  rw [← hg] at G0 ⊢
  have LG : Hid (w.heap.size ≤ w.heap.size) := Nat.le_refl _
  clear hq HI hg
  refine (rfind_any l (c1, c2) (-1) HR.out a n c w0 (by omega) N0.out).mono ?_
  rintro e w1 ⟨rfl, hb1⟩
  have HB1 : Hid (Below w.heap.size w w1) := below_step hb0.out LG.out hb1
  have G1 : Hid (Blk w1 30 g #[.int .i64 1, .int .i64 a1, .int .i64 a2, .int .i64 c1, .int .i64 c2, .int .i64 0, .int .i64 e2, .string s, .string t]) := G0.out.on hb1
  have N1 : Hid (NodesAt w1 a n l) := N0.out.below hb1
  clear hb1 hb0 G0 N0 HR
  have g5 : w1.cell? ⟨g, 5, none⟩ = some (.int .i64 0) := G1.out.cell 5
  have g6 : w1.cell? ⟨g, 6, none⟩ = some (.int .i64 e2) := G1.out.cell 6
  have f0 : ∀ o, (w1.alloc o).cell? ⟨g, 0, none⟩ = some (.int .i64 1) := fun o => (G1.out.alloc o).cell 0
  have f3 : ∀ o, (w1.alloc o).cell? ⟨g, 3, none⟩ = some (.int .i64 c1) := fun o => (G1.out.alloc o).cell 3
  have f4 : ∀ o, (w1.alloc o).cell? ⟨g, 4, none⟩ = some (.int .i64 c2) := fun o => (G1.out.alloc o).cell 4
  have f7 : ∀ o, (w1.alloc o).cell? ⟨g, 7, none⟩ = some (.string s) := fun o => (G1.out.alloc o).cell 7
  have f8 : ∀ o, (w1.alloc o).cell? ⟨g, 8, none⟩ = some (.string t) := fun o => (G1.out.alloc o).cell 8
  have f0' : ∀ o o', ((w1.alloc o).alloc o').cell? ⟨g, 0, none⟩ = some (.int .i64 1) := fun o o' => ((G1.out.alloc o).alloc o').cell 0
  have f3' : ∀ o o', ((w1.alloc o).alloc o').cell? ⟨g, 3, none⟩ = some (.int .i64 c1) := fun o o' => ((G1.out.alloc o).alloc o').cell 3
  have f4' : ∀ o o', ((w1.alloc o).alloc o').cell? ⟨g, 4, none⟩ = some (.int .i64 c2) := fun o o' => ((G1.out.alloc o).alloc o').cell 4
  have f7' : ∀ o o', ((w1.alloc o).alloc o').cell? ⟨g, 7, none⟩ = some (.string s) := fun o o' => ((G1.out.alloc o).alloc o').cell 7
  have f8' : ∀ o o', ((w1.alloc o).alloc o').cell? ⟨g, 8, none⟩ = some (.string t) := fun o o' => ((G1.out.alloc o).alloc o').cell 8
  go_wp2_with fail
  refine (rwithV l ((c1, c2), (0, e2), s, ⟨#[]⟩) a n c _ (by omega) (N1.out.below (below_new w1 _))).mono ?_
  rintro e w3 ⟨v, rfl, hv, hb3, ha3⟩
  have HV : Hid (NodesV w3 v L) := by rw [HL.out]; exact hv
  have B3 : Hid (Below w.heap.size w w3) := below_step (below_step HB1.out LG.out (below_new w1 _)) LG.out hb3
  have HA : Hid (AdrV _ n w.heap.size v) := ha3.less (below_step HB1.out LG.out (below_new w1 _)).size
  clear hv hb3 ha3
  go_wp2
  go_ret
  exact ⟨v, rfl, HV.out, B3.out, HA.out⟩

set_option maxRecDepth 100000 in
set_option maxHeartbeats 4000000 in
theorem rdo_1py (l : List NodeT) (a1 a2 c1 c2 e1 e2 : Int) (s t : ByteArray) (a : Option Addr) (n c j : Nat) (w : World) (hn : n ≤ 65535) (HI : Hid (NodesAt w a n l)) (HR : Hid (FindE l (c1, c2) (j : Int))) (hj : j < n) (hx : ¬ e1 = 0) (r2 : Int) (HR2 : Hid (FindE l (e1, e2) r2)) :
    Calls Tryd.prog 17 #[.slice a n c, .agg #[.int .i64 1, .int .i64 a1, .int .i64 a2, .int .i64 c1, .int .i64 c2, .int .i64 e1, .int .i64 e2, .string s, .string t]] w fun e w' => ∃ v, e = .returned v ∧ NodesV w' v (l) ∧ Below w.heap.size w w' ∧ AdrV a n w.heap.size v := by
  have hln : l.length = n := HI.out.1
  have HLN : Hid (l.length = n) := hln
  clear hln
  have j0 : (j : Int) < (n : Int) := by omega
  have j1 : ¬ ((j : Int) < 0) := by omega
  have j2 : decide ((j : Int) < 0) = false := by simp
  have j3 : decide ((0 : Int) ≤ (j : Int)) = true := by simp
  have gx : (e1 == 0) = false := by rw [beq_eq_false_iff_ne]; exact hx
  obtain ⟨Y, hY⟩ : ∃ Y, Y = nL l j := ⟨_, rfl⟩
  obtain ⟨⟨m1, m2⟩, ⟨m3, m4⟩, m5, m6⟩ := Y
  obtain ⟨L, HL⟩ : ∃ L, Hid (L = l) := ⟨_, rfl⟩
  show Calls _ _ _ _ fun e w' => ∃ v, e = .returned v ∧ NodesV w' v (l) ∧ Below w.heap.size w w' ∧ AdrV a n w.heap.size v
  rw [← HL.out]
  have HYY : Hid (((m1, m2), (m3, m4), m5, m6) = nL l j) := hY
  clear hY
  go_enter Tryd.func17, Tryd.ntmps17
  go_wp2_with fail
  generalize hq : World.alloc w _ = w0
  have hb0 : Hid (Below w.heap.size w w0) := by rw [← hq]; exact below_new w _
  have G0 : Hid (Blk w0 30 w.heap.size #[.int .i64 1, .int .i64 a1, .int .i64 a2, .int .i64 c1, .int .i64 c2, .int .i64 e1, .int .i64 e2, .string s, .string t]) := by show Blk _ _ _ _; rw [← hq]; exact Blk.new _ _ _
  have N0 : Hid (NodesAt w0 a n l) := HI.out.below hb0.out
  obtain ⟨g, hg⟩ : ∃ g, g = w.heap.size := ⟨_, rfl⟩
  rw [← hg] at G0 ⊢
  have LG : Hid (w.heap.size ≤ w.heap.size) := Nat.le_refl _
  clear hq HI hg
  refine (rfind_any l (c1, c2) (j : Int) HR.out a n c w0 (by omega) N0.out).mono ?_
  rintro e w1 ⟨rfl, hb1⟩
  have HB1 : Hid (Below w.heap.size w w1) := below_step hb0.out LG.out hb1
  have G1 : Hid (Blk w1 30 g #[.int .i64 1, .int .i64 a1, .int .i64 a2, .int .i64 c1, .int .i64 c2, .int .i64 e1, .int .i64 e2, .string s, .string t]) := G0.out.on hb1
  have N1 : Hid (NodesAt w1 a n l) := N0.out.below hb1
  clear hb1 hb0 G0 N0 HR
  have g5 : w1.cell? ⟨g, 5, none⟩ = some (.int .i64 e1) := G1.out.cell 5
  have g6 : w1.cell? ⟨g, 6, none⟩ = some (.int .i64 e2) := G1.out.cell 6
  have f0 : ∀ o, (w1.alloc o).cell? ⟨g, 0, none⟩ = some (.int .i64 1) := fun o => (G1.out.alloc o).cell 0
  have f3 : ∀ o, (w1.alloc o).cell? ⟨g, 3, none⟩ = some (.int .i64 c1) := fun o => (G1.out.alloc o).cell 3
  have f4 : ∀ o, (w1.alloc o).cell? ⟨g, 4, none⟩ = some (.int .i64 c2) := fun o => (G1.out.alloc o).cell 4
  have f7 : ∀ o, (w1.alloc o).cell? ⟨g, 7, none⟩ = some (.string s) := fun o => (G1.out.alloc o).cell 7
  have f8 : ∀ o, (w1.alloc o).cell? ⟨g, 8, none⟩ = some (.string t) := fun o => (G1.out.alloc o).cell 8
  obtain ⟨b, off, rfl, _⟩ := N1.out.2.some (by omega)
  obtain ⟨q0, q1, q2, q3, q4, q5⟩ := N1.out.cells j hj
  rw [← HYY.out] at q0 q1 q2 q3 q4 q5
  have n0 : ∀ o, (w1.alloc o).cell? ⟨b, off + j * 6, none⟩ = some (.int .i64 m1) := fun o => by rw [(below_new w1 o).cell (World.block_lt_of_cell? w1 _ q0)]; exact q0
  have n1 : ∀ o, (w1.alloc o).cell? ⟨b, off + j * 6 + 1, none⟩ = some (.int .i64 m2) := fun o => by rw [(below_new w1 o).cell (World.block_lt_of_cell? w1 _ q1)]; exact q1
  have n2 : ∀ o, (w1.alloc o).cell? ⟨b, off + j * 6 + 2, none⟩ = some (.int .i64 m3) := fun o => by rw [(below_new w1 o).cell (World.block_lt_of_cell? w1 _ q2)]; exact q2
  have n3 : ∀ o, (w1.alloc o).cell? ⟨b, off + j * 6 + 3, none⟩ = some (.int .i64 m4) := fun o => by rw [(below_new w1 o).cell (World.block_lt_of_cell? w1 _ q3)]; exact q3
  have n4 : ∀ o, (w1.alloc o).cell? ⟨b, off + j * 6 + 4, none⟩ = some (.string m5) := fun o => by rw [(below_new w1 o).cell (World.block_lt_of_cell? w1 _ q4)]; exact q4
  have n5 : ∀ o, (w1.alloc o).cell? ⟨b, off + j * 6 + 5, none⟩ = some (.string m6) := fun o => by rw [(below_new w1 o).cell (World.block_lt_of_cell? w1 _ q5)]; exact q5
  go_wp2_with fail
  refine (rfind_any l (e1, e2) r2 HR2.out (some ⟨b, off, none⟩) n c _ (by omega) (N1.out.below (below_new _ _))).mono ?_
  rintro e w2 ⟨rfl, hb2⟩
  have hbw : Hid (Below w1.heap.size w1 w2) := below_step (below_new w1 _) (Nat.le_refl _) hb2
  have P2 : Hid (Blk w2 24 w1.heap.size #[.int .i64 e1, .int .i64 e2]) := (Blk.new w1 _ _).on hb2
  have G2 := G1.out.on hbw.out
  have f0' : w2.cell? ⟨g, 0, none⟩ = some (.int .i64 1) := G2.cell 0
  have f0'' : ∀ o, (w2.alloc o).cell? ⟨g, 0, none⟩ = some (.int .i64 1) := fun o => (G2.alloc o).cell 0
  have f3' : w2.cell? ⟨g, 3, none⟩ = some (.int .i64 c1) := G2.cell 3
  have f3'' : ∀ o, (w2.alloc o).cell? ⟨g, 3, none⟩ = some (.int .i64 c1) := fun o => (G2.alloc o).cell 3
  have f4' : w2.cell? ⟨g, 4, none⟩ = some (.int .i64 c2) := G2.cell 4
  have f4'' : ∀ o, (w2.alloc o).cell? ⟨g, 4, none⟩ = some (.int .i64 c2) := fun o => (G2.alloc o).cell 4
  have f7' : w2.cell? ⟨g, 7, none⟩ = some (.string s) := G2.cell 7
  have f7'' : ∀ o, (w2.alloc o).cell? ⟨g, 7, none⟩ = some (.string s) := fun o => (G2.alloc o).cell 7
  have f8' : w2.cell? ⟨g, 8, none⟩ = some (.string t) := G2.cell 8
  have f8'' : ∀ o, (w2.alloc o).cell? ⟨g, 8, none⟩ = some (.string t) := fun o => (G2.alloc o).cell 8
  have p0 : w2.cell? ⟨w1.heap.size, 0, none⟩ = some (.int .i64 e1) := P2.out.cell 0
  have p1 : w2.cell? ⟨w1.heap.size, 1, none⟩ = some (.int .i64 e2) := P2.out.cell 1
  have p0' : ∀ o, (w2.alloc o).cell? ⟨w1.heap.size, 0, none⟩ = some (.int .i64 e1) := fun o => (P2.out.alloc o).cell 0
  have p1' : ∀ o, (w2.alloc o).cell? ⟨w1.heap.size, 1, none⟩ = some (.int .i64 e2) := fun o => (P2.out.alloc o).cell 1
  have n0' : w2.cell? ⟨b, off + j * 6, none⟩ = some (.int .i64 m1) := by rw [hbw.out.cell (World.block_lt_of_cell? w1 _ q0)]; exact q0
  have n1' : w2.cell? ⟨b, off + j * 6 + 1, none⟩ = some (.int .i64 m2) := by rw [hbw.out.cell (World.block_lt_of_cell? w1 _ q1)]; exact q1
  have n2' : w2.cell? ⟨b, off + j * 6 + 2, none⟩ = some (.int .i64 m3) := by rw [hbw.out.cell (World.block_lt_of_cell? w1 _ q2)]; exact q2
  have n3' : w2.cell? ⟨b, off + j * 6 + 3, none⟩ = some (.int .i64 m4) := by rw [hbw.out.cell (World.block_lt_of_cell? w1 _ q3)]; exact q3
  have n4' : w2.cell? ⟨b, off + j * 6 + 4, none⟩ = some (.string m5) := by rw [hbw.out.cell (World.block_lt_of_cell? w1 _ q4)]; exact q4
  have n5' : w2.cell? ⟨b, off + j * 6 + 5, none⟩ = some (.string m6) := by rw [hbw.out.cell (World.block_lt_of_cell? w1 _ q5)]; exact q5
  clear hb2 G2
  go_wp2
  go_ret
  exact ⟨.slice (some ⟨b, off, none⟩) n c, rfl, by rw [HL.out]; exact ⟨_, _, by rw [HLN.out], by rw [HLN.out]; exact N1.out.below hbw.out⟩, below_step HB1.out LG.out hbw.out, adr_same⟩

set_option maxRecDepth 100000 in
set_option maxHeartbeats 4000000 in
theorem rdo_1pn (l : List NodeT) (a1 a2 c1 c2 e1 e2 : Int) (s t : ByteArray) (a : Option Addr) (n c : Nat) (w : World) (hn : n ≤ 65535) (HI : Hid (NodesAt w a n l)) (HR : Hid (FindE l (c1, c2) (-1))) (hx : ¬ e1 = 0) (r2 : Int) (HR2 : Hid (FindE l (e1, e2) r2)) (hr2 : 0 ≤ r2) :
    Calls Tryd.prog 17 #[.slice a n c, .agg #[.int .i64 1, .int .i64 a1, .int .i64 a2, .int .i64 c1, .int .i64 c2, .int .i64 e1, .int .i64 e2, .string s, .string t]] w fun e w' => ∃ v, e = .returned v ∧ NodesV w' v (withP l ((c1, c2), (e1, e2), s, ⟨#[]⟩)) ∧ Below w.heap.size w w' ∧ AdrV a n w.heap.size v := by
  have hln : l.length = n := HI.out.1
  have HLN : Hid (l.length = n) := hln
  clear hln
  have gx : (e1 == 0) = false := by rw [beq_eq_false_iff_ne]; exact hx
  have gr2 : decide (0 ≤ r2) = true := by simp; exact hr2
  obtain ⟨L, HL⟩ : ∃ L, Hid (L = withP l ((c1, c2), (e1, e2), s, ⟨#[]⟩)) := ⟨_, rfl⟩
  show Calls _ _ _ _ fun e w' => ∃ v, e = .returned v ∧ NodesV w' v (withP l ((c1, c2), (e1, e2), s, ⟨#[]⟩)) ∧ Below w.heap.size w w' ∧ AdrV a n w.heap.size v
  rw [← HL.out]
  go_enter Tryd.func17, Tryd.ntmps17
  go_wp2_with fail
  generalize hq : World.alloc w _ = w0
  have hb0 : Hid (Below w.heap.size w w0) := by rw [← hq]; exact below_new w _
  have G0 : Hid (Blk w0 30 w.heap.size #[.int .i64 1, .int .i64 a1, .int .i64 a2, .int .i64 c1, .int .i64 c2, .int .i64 e1, .int .i64 e2, .string s, .string t]) := by show Blk _ _ _ _; rw [← hq]; exact Blk.new _ _ _
  have N0 : Hid (NodesAt w0 a n l) := HI.out.below hb0.out
  obtain ⟨g, hg⟩ : ∃ g, g = w.heap.size := ⟨_, rfl⟩
  rw [← hg] at G0 ⊢
  have LG : Hid (w.heap.size ≤ w.heap.size) := Nat.le_refl _
  clear hq HI hg
  refine (rfind_any l (c1, c2) (-1) HR.out a n c w0 (by omega) N0.out).mono ?_
  rintro e w1 ⟨rfl, hb1⟩
  have HB1 : Hid (Below w.heap.size w w1) := below_step hb0.out LG.out hb1
  have G1 : Hid (Blk w1 30 g #[.int .i64 1, .int .i64 a1, .int .i64 a2, .int .i64 c1, .int .i64 c2, .int .i64 e1, .int .i64 e2, .string s, .string t]) := G0.out.on hb1
  have N1 : Hid (NodesAt w1 a n l) := N0.out.below hb1
  clear hb1 hb0 G0 N0 HR
  have g5 : w1.cell? ⟨g, 5, none⟩ = some (.int .i64 e1) := G1.out.cell 5
  have g6 : w1.cell? ⟨g, 6, none⟩ = some (.int .i64 e2) := G1.out.cell 6
  have f0 : ∀ o, (w1.alloc o).cell? ⟨g, 0, none⟩ = some (.int .i64 1) := fun o => (G1.out.alloc o).cell 0
  have f3 : ∀ o, (w1.alloc o).cell? ⟨g, 3, none⟩ = some (.int .i64 c1) := fun o => (G1.out.alloc o).cell 3
  have f4 : ∀ o, (w1.alloc o).cell? ⟨g, 4, none⟩ = some (.int .i64 c2) := fun o => (G1.out.alloc o).cell 4
  have f7 : ∀ o, (w1.alloc o).cell? ⟨g, 7, none⟩ = some (.string s) := fun o => (G1.out.alloc o).cell 7
  have f8 : ∀ o, (w1.alloc o).cell? ⟨g, 8, none⟩ = some (.string t) := fun o => (G1.out.alloc o).cell 8
  go_wp2_with fail
  refine (rfind_any l (e1, e2) r2 HR2.out a n c _ (by omega) (N1.out.below (below_new _ _))).mono ?_
  rintro e w2 ⟨rfl, hb2⟩
  have hbw : Hid (Below w1.heap.size w1 w2) := below_step (below_new w1 _) (Nat.le_refl _) hb2
  have P2 : Hid (Blk w2 24 w1.heap.size #[.int .i64 e1, .int .i64 e2]) := (Blk.new w1 _ _).on hb2
  have G2 := G1.out.on hbw.out
  have f0' : w2.cell? ⟨g, 0, none⟩ = some (.int .i64 1) := G2.cell 0
  have f0'' : ∀ o, (w2.alloc o).cell? ⟨g, 0, none⟩ = some (.int .i64 1) := fun o => (G2.alloc o).cell 0
  have f3' : w2.cell? ⟨g, 3, none⟩ = some (.int .i64 c1) := G2.cell 3
  have f3'' : ∀ o, (w2.alloc o).cell? ⟨g, 3, none⟩ = some (.int .i64 c1) := fun o => (G2.alloc o).cell 3
  have f4' : w2.cell? ⟨g, 4, none⟩ = some (.int .i64 c2) := G2.cell 4
  have f4'' : ∀ o, (w2.alloc o).cell? ⟨g, 4, none⟩ = some (.int .i64 c2) := fun o => (G2.alloc o).cell 4
  have f7' : w2.cell? ⟨g, 7, none⟩ = some (.string s) := G2.cell 7
  have f7'' : ∀ o, (w2.alloc o).cell? ⟨g, 7, none⟩ = some (.string s) := fun o => (G2.alloc o).cell 7
  have f8' : w2.cell? ⟨g, 8, none⟩ = some (.string t) := G2.cell 8
  have f8'' : ∀ o, (w2.alloc o).cell? ⟨g, 8, none⟩ = some (.string t) := fun o => (G2.alloc o).cell 8
  have p0 : w2.cell? ⟨w1.heap.size, 0, none⟩ = some (.int .i64 e1) := P2.out.cell 0
  have p1 : w2.cell? ⟨w1.heap.size, 1, none⟩ = some (.int .i64 e2) := P2.out.cell 1
  have p0' : ∀ o, (w2.alloc o).cell? ⟨w1.heap.size, 0, none⟩ = some (.int .i64 e1) := fun o => (P2.out.alloc o).cell 0
  have p1' : ∀ o, (w2.alloc o).cell? ⟨w1.heap.size, 1, none⟩ = some (.int .i64 e2) := fun o => (P2.out.alloc o).cell 1
  clear hb2 G2
  go_wp2_with fail
  refine (rwithV l ((c1, c2), (e1, e2), s, ⟨#[]⟩) a n c _ (by omega) (N1.out.below hbw.out)).mono ?_
  rintro e w3 ⟨v, rfl, hv, hb3, ha3⟩
  have HV : Hid (NodesV w3 v L) := by rw [HL.out]; exact hv
  have B3 : Hid (Below w.heap.size w w3) := below_step (below_step HB1.out LG.out hbw.out) LG.out hb3
  have HA : Hid (AdrV _ n w.heap.size v) := ha3.less (below_step HB1.out LG.out hbw.out).size
  clear hv hb3 ha3
  go_wp2
  go_ret
  exact ⟨v, rfl, HV.out, B3.out, HA.out⟩

set_option maxRecDepth 100000 in
set_option maxHeartbeats 4000000 in
theorem rdo_1pf (l : List NodeT) (a1 a2 c1 c2 e1 e2 : Int) (s t : ByteArray) (a : Option Addr) (n c : Nat) (w : World) (hn : n ≤ 65535) (HI : Hid (NodesAt w a n l)) (HR : Hid (FindE l (c1, c2) (-1))) (hx : ¬ e1 = 0) (r2 : Int) (HR2 : Hid (FindE l (e1, e2) r2)) (hr2 : r2 < 0) :
    Calls Tryd.prog 17 #[.slice a n c, .agg #[.int .i64 1, .int .i64 a1, .int .i64 a2, .int .i64 c1, .int .i64 c2, .int .i64 e1, .int .i64 e2, .string s, .string t]] w fun e w' => ∃ v, e = .returned v ∧ NodesV w' v (l) ∧ Below w.heap.size w w' ∧ AdrV a n w.heap.size v := by
  have hln : l.length = n := HI.out.1
  have HLN : Hid (l.length = n) := hln
  clear hln
  have gx : (e1 == 0) = false := by rw [beq_eq_false_iff_ne]; exact hx
  have gr2 : decide (0 ≤ r2) = false := by simp; exact hr2
  obtain ⟨L, HL⟩ : ∃ L, Hid (L = l) := ⟨_, rfl⟩
  show Calls _ _ _ _ fun e w' => ∃ v, e = .returned v ∧ NodesV w' v (l) ∧ Below w.heap.size w w' ∧ AdrV a n w.heap.size v
  rw [← HL.out]
  go_enter Tryd.func17, Tryd.ntmps17
  go_wp2_with fail
  generalize hq : World.alloc w _ = w0
  have hb0 : Hid (Below w.heap.size w w0) := by rw [← hq]; exact below_new w _
  have G0 : Hid (Blk w0 30 w.heap.size #[.int .i64 1, .int .i64 a1, .int .i64 a2, .int .i64 c1, .int .i64 c2, .int .i64 e1, .int .i64 e2, .string s, .string t]) := by show Blk _ _ _ _; rw [← hq]; exact Blk.new _ _ _
  have N0 : Hid (NodesAt w0 a n l) := HI.out.below hb0.out
  obtain ⟨g, hg⟩ : ∃ g, g = w.heap.size := ⟨_, rfl⟩
  rw [← hg] at G0 ⊢
  have LG : Hid (w.heap.size ≤ w.heap.size) := Nat.le_refl _
  clear hq HI hg
  refine (rfind_any l (c1, c2) (-1) HR.out a n c w0 (by omega) N0.out).mono ?_
  rintro e w1 ⟨rfl, hb1⟩
  have HB1 : Hid (Below w.heap.size w w1) := below_step hb0.out LG.out hb1
  have G1 : Hid (Blk w1 30 g #[.int .i64 1, .int .i64 a1, .int .i64 a2, .int .i64 c1, .int .i64 c2, .int .i64 e1, .int .i64 e2, .string s, .string t]) := G0.out.on hb1
  have N1 : Hid (NodesAt w1 a n l) := N0.out.below hb1
  clear hb1 hb0 G0 N0 HR
  have g5 : w1.cell? ⟨g, 5, none⟩ = some (.int .i64 e1) := G1.out.cell 5
  have g6 : w1.cell? ⟨g, 6, none⟩ = some (.int .i64 e2) := G1.out.cell 6
  have f0 : ∀ o, (w1.alloc o).cell? ⟨g, 0, none⟩ = some (.int .i64 1) := fun o => (G1.out.alloc o).cell 0
  have f3 : ∀ o, (w1.alloc o).cell? ⟨g, 3, none⟩ = some (.int .i64 c1) := fun o => (G1.out.alloc o).cell 3
  have f4 : ∀ o, (w1.alloc o).cell? ⟨g, 4, none⟩ = some (.int .i64 c2) := fun o => (G1.out.alloc o).cell 4
  have f7 : ∀ o, (w1.alloc o).cell? ⟨g, 7, none⟩ = some (.string s) := fun o => (G1.out.alloc o).cell 7
  have f8 : ∀ o, (w1.alloc o).cell? ⟨g, 8, none⟩ = some (.string t) := fun o => (G1.out.alloc o).cell 8
  go_wp2_with fail
  refine (rfind_any l (e1, e2) r2 HR2.out a n c _ (by omega) (N1.out.below (below_new _ _))).mono ?_
  rintro e w2 ⟨rfl, hb2⟩
  have hbw : Hid (Below w1.heap.size w1 w2) := below_step (below_new w1 _) (Nat.le_refl _) hb2
  have P2 : Hid (Blk w2 24 w1.heap.size #[.int .i64 e1, .int .i64 e2]) := (Blk.new w1 _ _).on hb2
  have G2 := G1.out.on hbw.out
  have f0' : w2.cell? ⟨g, 0, none⟩ = some (.int .i64 1) := G2.cell 0
  have f0'' : ∀ o, (w2.alloc o).cell? ⟨g, 0, none⟩ = some (.int .i64 1) := fun o => (G2.alloc o).cell 0
  have f3' : w2.cell? ⟨g, 3, none⟩ = some (.int .i64 c1) := G2.cell 3
  have f3'' : ∀ o, (w2.alloc o).cell? ⟨g, 3, none⟩ = some (.int .i64 c1) := fun o => (G2.alloc o).cell 3
  have f4' : w2.cell? ⟨g, 4, none⟩ = some (.int .i64 c2) := G2.cell 4
  have f4'' : ∀ o, (w2.alloc o).cell? ⟨g, 4, none⟩ = some (.int .i64 c2) := fun o => (G2.alloc o).cell 4
  have f7' : w2.cell? ⟨g, 7, none⟩ = some (.string s) := G2.cell 7
  have f7'' : ∀ o, (w2.alloc o).cell? ⟨g, 7, none⟩ = some (.string s) := fun o => (G2.alloc o).cell 7
  have f8' : w2.cell? ⟨g, 8, none⟩ = some (.string t) := G2.cell 8
  have f8'' : ∀ o, (w2.alloc o).cell? ⟨g, 8, none⟩ = some (.string t) := fun o => (G2.alloc o).cell 8
  have p0 : w2.cell? ⟨w1.heap.size, 0, none⟩ = some (.int .i64 e1) := P2.out.cell 0
  have p1 : w2.cell? ⟨w1.heap.size, 1, none⟩ = some (.int .i64 e2) := P2.out.cell 1
  have p0' : ∀ o, (w2.alloc o).cell? ⟨w1.heap.size, 0, none⟩ = some (.int .i64 e1) := fun o => (P2.out.alloc o).cell 0
  have p1' : ∀ o, (w2.alloc o).cell? ⟨w1.heap.size, 1, none⟩ = some (.int .i64 e2) := fun o => (P2.out.alloc o).cell 1
  clear hb2 G2
  go_wp2
  go_ret
  exact ⟨.slice a n c, rfl, by rw [HL.out]; exact ⟨_, _, by rw [HLN.out], by rw [HLN.out]; exact N1.out.below hbw.out⟩, below_step HB1.out LG.out hbw.out, adr_same⟩

set_option maxRecDepth 100000 in
set_option maxHeartbeats 4000000 in
theorem rdo_3xy (l : List NodeT) (a1 a2 c1 c2 e2 : Int) (s t : ByteArray) (a : Option Addr) (n c j : Nat) (w : World) (hn : n ≤ 65535) (HI : Hid (NodesAt w a n l)) (HR : Hid (FindE l (c1, c2) (j : Int))) (hj : j < n) :
    Calls Tryd.prog 17 #[.slice a n c, .agg #[.int .i64 3, .int .i64 a1, .int .i64 a2, .int .i64 c1, .int .i64 c2, .int .i64 0, .int .i64 e2, .string s, .string t]] w fun e w' => ∃ v, e = .returned v ∧ NodesV w' v (withP l ((nL l j).1, (nL l j).2.1, s, (nL l j).2.2.2)) ∧ Below w.heap.size w w' ∧ AdrV a n w.heap.size v := by
  have hln : l.length = n := HI.out.1
  have HLN : Hid (l.length = n) := hln
  clear hln
  have j0 : (j : Int) < (n : Int) := by omega
  have j1 : ¬ ((j : Int) < 0) := by omega
  have j2 : decide ((j : Int) < 0) = false := by simp
  have j3 : decide ((0 : Int) ≤ (j : Int)) = true := by simp
  obtain ⟨Y, hY⟩ : ∃ Y, Y = nL l j := ⟨_, rfl⟩
  rw [← hY]
  obtain ⟨⟨m1, m2⟩, ⟨m3, m4⟩, m5, m6⟩ := Y
  obtain ⟨L, HL⟩ : ∃ L, Hid (L = withP l ((m1, m2), (m3, m4), s, m6)) := ⟨_, rfl⟩
  show Calls _ _ _ _ fun e w' => ∃ v, e = .returned v ∧ NodesV w' v (withP l ((m1, m2), (m3, m4), s, m6)) ∧ Below w.heap.size w w' ∧ AdrV a n w.heap.size v
  rw [← HL.out]
  have HYY : Hid (((m1, m2), (m3, m4), m5, m6) = nL l j) := hY
  clear hY
  go_enter Tryd.func17, Tryd.ntmps17
  go_wp2_with fail
  generalize hq : World.alloc w _ = w0
  have hb0 : Hid (Below w.heap.size w w0) := by rw [← hq]; exact below_new w _
  have G0 : Hid (Blk w0 30 w.heap.size #[.int .i64 3, .int .i64 a1, .int .i64 a2, .int .i64 c1, .int .i64 c2, .int .i64 0, .int .i64 e2, .string s, .string t]) := by show Blk _ _ _ _; rw [← hq]; exact Blk.new _ _ _
  have N0 : Hid (NodesAt w0 a n l) := HI.out.below hb0.out
  obtain ⟨g, hg⟩ : ∃ g, g = w.heap.size := ⟨_, rfl⟩
  rw [← hg] at G0 ⊢
  have LG : Hid (w.heap.size ≤ w.heap.size) := Nat.le_refl _
  clear hq HI hg
  refine (rfind_any l (c1, c2) (j : Int) HR.out a n c w0 (by omega) N0.out).mono ?_
  rintro e w1 ⟨rfl, hb1⟩
  have HB1 : Hid (Below w.heap.size w w1) := below_step hb0.out LG.out hb1
  have G1 : Hid (Blk w1 30 g #[.int .i64 3, .int .i64 a1, .int .i64 a2, .int .i64 c1, .int .i64 c2, .int .i64 0, .int .i64 e2, .string s, .string t]) := G0.out.on hb1
  have N1 : Hid (NodesAt w1 a n l) := N0.out.below hb1
  clear hb1 hb0 G0 N0 HR
  have g5 : w1.cell? ⟨g, 5, none⟩ = some (.int .i64 0) := G1.out.cell 5
  have g6 : w1.cell? ⟨g, 6, none⟩ = some (.int .i64 e2) := G1.out.cell 6
  have f0 : ∀ o, (w1.alloc o).cell? ⟨g, 0, none⟩ = some (.int .i64 3) := fun o => (G1.out.alloc o).cell 0
  have f3 : ∀ o, (w1.alloc o).cell? ⟨g, 3, none⟩ = some (.int .i64 c1) := fun o => (G1.out.alloc o).cell 3
  have f4 : ∀ o, (w1.alloc o).cell? ⟨g, 4, none⟩ = some (.int .i64 c2) := fun o => (G1.out.alloc o).cell 4
  have f7 : ∀ o, (w1.alloc o).cell? ⟨g, 7, none⟩ = some (.string s) := fun o => (G1.out.alloc o).cell 7
  have f8 : ∀ o, (w1.alloc o).cell? ⟨g, 8, none⟩ = some (.string t) := fun o => (G1.out.alloc o).cell 8
  obtain ⟨b, off, rfl, _⟩ := N1.out.2.some (by omega)
  obtain ⟨q0, q1, q2, q3, q4, q5⟩ := N1.out.cells j hj
  rw [← HYY.out] at q0 q1 q2 q3 q4 q5
  have n0 : ∀ o, (w1.alloc o).cell? ⟨b, off + j * 6, none⟩ = some (.int .i64 m1) := fun o => by rw [(below_new w1 o).cell (World.block_lt_of_cell? w1 _ q0)]; exact q0
  have n1 : ∀ o, (w1.alloc o).cell? ⟨b, off + j * 6 + 1, none⟩ = some (.int .i64 m2) := fun o => by rw [(below_new w1 o).cell (World.block_lt_of_cell? w1 _ q1)]; exact q1
  have n2 : ∀ o, (w1.alloc o).cell? ⟨b, off + j * 6 + 2, none⟩ = some (.int .i64 m3) := fun o => by rw [(below_new w1 o).cell (World.block_lt_of_cell? w1 _ q2)]; exact q2
  have n3 : ∀ o, (w1.alloc o).cell? ⟨b, off + j * 6 + 3, none⟩ = some (.int .i64 m4) := fun o => by rw [(below_new w1 o).cell (World.block_lt_of_cell? w1 _ q3)]; exact q3
  have n4 : ∀ o, (w1.alloc o).cell? ⟨b, off + j * 6 + 4, none⟩ = some (.string m5) := fun o => by rw [(below_new w1 o).cell (World.block_lt_of_cell? w1 _ q4)]; exact q4
  have n5 : ∀ o, (w1.alloc o).cell? ⟨b, off + j * 6 + 5, none⟩ = some (.string m6) := fun o => by rw [(below_new w1 o).cell (World.block_lt_of_cell? w1 _ q5)]; exact q5
  have f0' : ∀ o o', ((w1.alloc o).alloc o').cell? ⟨g, 0, none⟩ = some (.int .i64 3) := fun o o' => ((G1.out.alloc o).alloc o').cell 0
  have f3' : ∀ o o', ((w1.alloc o).alloc o').cell? ⟨g, 3, none⟩ = some (.int .i64 c1) := fun o o' => ((G1.out.alloc o).alloc o').cell 3
  have f4' : ∀ o o', ((w1.alloc o).alloc o').cell? ⟨g, 4, none⟩ = some (.int .i64 c2) := fun o o' => ((G1.out.alloc o).alloc o').cell 4
  have f7' : ∀ o o', ((w1.alloc o).alloc o').cell? ⟨g, 7, none⟩ = some (.string s) := fun o o' => ((G1.out.alloc o).alloc o').cell 7
  have f8' : ∀ o o', ((w1.alloc o).alloc o').cell? ⟨g, 8, none⟩ = some (.string t) := fun o o' => ((G1.out.alloc o).alloc o').cell 8
  go_wp2_with fail
  refine (rwithV l ((m1, m2), (m3, m4), s, m6) (some ⟨b, off, none⟩) n c _ (by omega) (N1.out.below (below_step (below_new w1 _) (Nat.le_refl _) (below_new _ _)))).mono ?_
  rintro e w3 ⟨v, rfl, hv, hb3, ha3⟩
  have HV : Hid (NodesV w3 v L) := by rw [HL.out]; exact hv
  have B3 : Hid (Below w.heap.size w w3) := below_step (below_step HB1.out LG.out (below_step (below_new w1 _) (Nat.le_refl _) (below_new _ _))) LG.out hb3
  have HA : Hid (AdrV _ n w.heap.size v) := ha3.less (below_step HB1.out LG.out (below_step (below_new w1 _) (Nat.le_refl _) (below_new _ _))).size
  clear hv hb3 ha3
  go_wp2
  go_ret
  exact ⟨v, rfl, HV.out, B3.out, HA.out⟩

set_option maxRecDepth 100000 in
set_option maxHeartbeats 4000000 in
theorem rdo_3xn (l : List NodeT) (a1 a2 c1 c2 e2 : Int) (s t : ByteArray) (a : Option Addr) (n c : Nat) (w : World) (hn : n ≤ 65535) (HI : Hid (NodesAt w a n l)) (HR : Hid (FindE l (c1, c2) (-1))) :
    Calls Tryd.prog 17 #[.slice a n c, .agg #[.int .i64 3, .int .i64 a1, .int .i64 a2, .int .i64 c1, .int .i64 c2, .int .i64 0, .int .i64 e2, .string s, .string t]] w fun e w' => ∃ v, e = .returned v ∧ NodesV w' v (l) ∧ Below w.heap.size w w' ∧ AdrV a n w.heap.size v := by
  have hln : l.length = n := HI.out.1
  have HLN : Hid (l.length = n) := hln
  clear hln
  obtain ⟨L, HL⟩ : ∃ L, Hid (L = l) := ⟨_, rfl⟩
  show Calls _ _ _ _ fun e w' => ∃ v, e = .returned v ∧ NodesV w' v (l) ∧ Below w.heap.size w w' ∧ AdrV a n w.heap.size v
  rw [← HL.out]
  go_enter Tryd.func17, Tryd.ntmps17
  go_wp2_with fail
  generalize hq : World.alloc w _ = w0
  have hb0 : Hid (Below w.heap.size w w0) := by rw [← hq]; exact below_new w _
  have G0 : Hid (Blk w0 30 w.heap.size #[.int .i64 3, .int .i64 a1, .int .i64 a2, .int .i64 c1, .int .i64 c2, .int .i64 0, .int .i64 e2, .string s, .string t]) := by show Blk _ _ _ _; rw [← hq]; exact Blk.new _ _ _
  have N0 : Hid (NodesAt w0 a n l) := HI.out.below hb0.out
  obtain ⟨g, hg⟩ : ∃ g, g = w.heap.size := ⟨_, rfl⟩
  rw [← hg] at G0 ⊢
  have LG : Hid (w.heap.size ≤ w.heap.size) := Nat.le_refl _
  clear hq HI hg
  refine (rfind_any l (c1, c2) (-1) HR.out a n c w0 (by omega) N0.out).mono ?_
  rintro e w1 ⟨rfl, hb1⟩
  have HB1 : Hid (Below w.heap.size w w1) := below_step hb0.out LG.out hb1
  have G1 : Hid (Blk w1 30 g #[.int .i64 3, .int .i64 a1, .int .i64 a2, .int .i64 c1, .int .i64 c2, .int .i64 0, .int .i64 e2, .string s, .string t]) := G0.out.on hb1
  have N1 : Hid (NodesAt w1 a n l) := N0.out.below hb1
  clear hb1 hb0 G0 N0 HR
  have g5 : w1.cell? ⟨g, 5, none⟩ = some (.int .i64 0) := G1.out.cell 5
  have g6 : w1.cell? ⟨g, 6, none⟩ = some (.int .i64 e2) := G1.out.cell 6
  have f0 : ∀ o, (w1.alloc o).cell? ⟨g, 0, none⟩ = some (.int .i64 3) := fun o => (G1.out.alloc o).cell 0
  have f3 : ∀ o, (w1.alloc o).cell? ⟨g, 3, none⟩ = some (.int .i64 c1) := fun o => (G1.out.alloc o).cell 3
  have f4 : ∀ o, (w1.alloc o).cell? ⟨g, 4, none⟩ = some (.int .i64 c2) := fun o => (G1.out.alloc o).cell 4
  have f7 : ∀ o, (w1.alloc o).cell? ⟨g, 7, none⟩ = some (.string s) := fun o => (G1.out.alloc o).cell 7
  have f8 : ∀ o, (w1.alloc o).cell? ⟨g, 8, none⟩ = some (.string t) := fun o => (G1.out.alloc o).cell 8
  have f0' : ∀ o o', ((w1.alloc o).alloc o').cell? ⟨g, 0, none⟩ = some (.int .i64 3) := fun o o' => ((G1.out.alloc o).alloc o').cell 0
  have f3' : ∀ o o', ((w1.alloc o).alloc o').cell? ⟨g, 3, none⟩ = some (.int .i64 c1) := fun o o' => ((G1.out.alloc o).alloc o').cell 3
  have f4' : ∀ o o', ((w1.alloc o).alloc o').cell? ⟨g, 4, none⟩ = some (.int .i64 c2) := fun o o' => ((G1.out.alloc o).alloc o').cell 4
  have f7' : ∀ o o', ((w1.alloc o).alloc o').cell? ⟨g, 7, none⟩ = some (.string s) := fun o o' => ((G1.out.alloc o).alloc o').cell 7
  have f8' : ∀ o o', ((w1.alloc o).alloc o').cell? ⟨g, 8, none⟩ = some (.string t) := fun o o' => ((G1.out.alloc o).alloc o').cell 8
  go_wp2
  go_ret
  exact ⟨.slice a n c, rfl, by rw [HL.out]; exact ⟨_, _, by rw [HLN.out], by rw [HLN.out]; exact N1.out.below (below_new w1 _)⟩, below_step HB1.out LG.out (below_new w1 _), adr_same⟩

set_option maxRecDepth 100000 in
set_option maxHeartbeats 4000000 in
theorem rdo_3py (l : List NodeT) (a1 a2 c1 c2 e1 e2 : Int) (s t : ByteArray) (a : Option Addr) (n c j : Nat) (w : World) (hn : n ≤ 65535) (HI : Hid (NodesAt w a n l)) (HR : Hid (FindE l (c1, c2) (j : Int))) (hj : j < n) (hx : ¬ e1 = 0) (r2 : Int) (HR2 : Hid (FindE l (e1, e2) r2)) :
    Calls Tryd.prog 17 #[.slice a n c, .agg #[.int .i64 3, .int .i64 a1, .int .i64 a2, .int .i64 c1, .int .i64 c2, .int .i64 e1, .int .i64 e2, .string s, .string t]] w fun e w' => ∃ v, e = .returned v ∧ NodesV w' v (withP l ((nL l j).1, (nL l j).2.1, s, (nL l j).2.2.2)) ∧ Below w.heap.size w w' ∧ AdrV a n w.heap.size v := by
  have hln : l.length = n := HI.out.1
  have HLN : Hid (l.length = n) := hln
  clear hln
  have j0 : (j : Int) < (n : Int) := by omega
  have j1 : ¬ ((j : Int) < 0) := by omega
  have j2 : decide ((j : Int) < 0) = false := by simp
  have j3 : decide ((0 : Int) ≤ (j : Int)) = true := by simp
  have gx : (e1 == 0) = false := by rw [beq_eq_false_iff_ne]; exact hx
  obtain ⟨Y, hY⟩ : ∃ Y, Y = nL l j := ⟨_, rfl⟩
  rw [← hY]
  obtain ⟨⟨m1, m2⟩, ⟨m3, m4⟩, m5, m6⟩ := Y
  obtain ⟨L, HL⟩ : ∃ L, Hid (L = withP l ((m1, m2), (m3, m4), s, m6)) := ⟨_, rfl⟩
  show Calls _ _ _ _ fun e w' => ∃ v, e = .returned v ∧ NodesV w' v (withP l ((m1, m2), (m3, m4), s, m6)) ∧ Below w.heap.size w w' ∧ AdrV a n w.heap.size v
  rw [← HL.out]
  have HYY : Hid (((m1, m2), (m3, m4), m5, m6) = nL l j) := hY
  clear hY
  go_enter Tryd.func17, Tryd.ntmps17
  go_wp2_with fail
  generalize hq : World.alloc w _ = w0
  have hb0 : Hid (Below w.heap.size w w0) := by rw [← hq]; exact below_new w _
  have G0 : Hid (Blk w0 30 w.heap.size #[.int .i64 3, .int .i64 a1, .int .i64 a2, .int .i64 c1, .int .i64 c2, .int .i64 e1, .int .i64 e2, .string s, .string t]) := by show Blk _ _ _ _; rw [← hq]; exact Blk.new _ _ _
  have N0 : Hid (NodesAt w0 a n l) := HI.out.below hb0.out
  obtain ⟨g, hg⟩ : ∃ g, g = w.heap.size := ⟨_, rfl⟩
  rw [← hg] at G0 ⊢
  have LG : Hid (w.heap.size ≤ w.heap.size) := Nat.le_refl _
  clear hq HI hg
  refine (rfind_any l (c1, c2) (j : Int) HR.out a n c w0 (by omega) N0.out).mono ?_
  rintro e w1 ⟨rfl, hb1⟩
  have HB1 : Hid (Below w.heap.size w w1) := below_step hb0.out LG.out hb1
  have G1 : Hid (Blk w1 30 g #[.int .i64 3, .int .i64 a1, .int .i64 a2, .int .i64 c1, .int .i64 c2, .int .i64 e1, .int .i64 e2, .string s, .string t]) := G0.out.on hb1
  have N1 : Hid (NodesAt w1 a n l) := N0.out.below hb1
  clear hb1 hb0 G0 N0 HR
  have g5 : w1.cell? ⟨g, 5, none⟩ = some (.int .i64 e1) := G1.out.cell 5
  have g6 : w1.cell? ⟨g, 6, none⟩ = some (.int .i64 e2) := G1.out.cell 6
  have f0 : ∀ o, (w1.alloc o).cell? ⟨g, 0, none⟩ = some (.int .i64 3) := fun o => (G1.out.alloc o).cell 0
  have f3 : ∀ o, (w1.alloc o).cell? ⟨g, 3, none⟩ = some (.int .i64 c1) := fun o => (G1.out.alloc o).cell 3
  have f4 : ∀ o, (w1.alloc o).cell? ⟨g, 4, none⟩ = some (.int .i64 c2) := fun o => (G1.out.alloc o).cell 4
  have f7 : ∀ o, (w1.alloc o).cell? ⟨g, 7, none⟩ = some (.string s) := fun o => (G1.out.alloc o).cell 7
  have f8 : ∀ o, (w1.alloc o).cell? ⟨g, 8, none⟩ = some (.string t) := fun o => (G1.out.alloc o).cell 8
  obtain ⟨b, off, rfl, _⟩ := N1.out.2.some (by omega)
  obtain ⟨q0, q1, q2, q3, q4, q5⟩ := N1.out.cells j hj
  rw [← HYY.out] at q0 q1 q2 q3 q4 q5
  have n0 : ∀ o, (w1.alloc o).cell? ⟨b, off + j * 6, none⟩ = some (.int .i64 m1) := fun o => by rw [(below_new w1 o).cell (World.block_lt_of_cell? w1 _ q0)]; exact q0
  have n1 : ∀ o, (w1.alloc o).cell? ⟨b, off + j * 6 + 1, none⟩ = some (.int .i64 m2) := fun o => by rw [(below_new w1 o).cell (World.block_lt_of_cell? w1 _ q1)]; exact q1
  have n2 : ∀ o, (w1.alloc o).cell? ⟨b, off + j * 6 + 2, none⟩ = some (.int .i64 m3) := fun o => by rw [(below_new w1 o).cell (World.block_lt_of_cell? w1 _ q2)]; exact q2
  have n3 : ∀ o, (w1.alloc o).cell? ⟨b, off + j * 6 + 3, none⟩ = some (.int .i64 m4) := fun o => by rw [(below_new w1 o).cell (World.block_lt_of_cell? w1 _ q3)]; exact q3
  have n4 : ∀ o, (w1.alloc o).cell? ⟨b, off + j * 6 + 4, none⟩ = some (.string m5) := fun o => by rw [(below_new w1 o).cell (World.block_lt_of_cell? w1 _ q4)]; exact q4
  have n5 : ∀ o, (w1.alloc o).cell? ⟨b, off + j * 6 + 5, none⟩ = some (.string m6) := fun o => by rw [(below_new w1 o).cell (World.block_lt_of_cell? w1 _ q5)]; exact q5
  go_wp2_with fail
  refine (rfind_any l (e1, e2) r2 HR2.out (some ⟨b, off, none⟩) n c _ (by omega) (N1.out.below (below_new _ _))).mono ?_
  rintro e w2 ⟨rfl, hb2⟩
  have hbw : Hid (Below w1.heap.size w1 w2) := below_step (below_new w1 _) (Nat.le_refl _) hb2
  have P2 : Hid (Blk w2 24 w1.heap.size #[.int .i64 e1, .int .i64 e2]) := (Blk.new w1 _ _).on hb2
  have G2 := G1.out.on hbw.out
  have f0' : w2.cell? ⟨g, 0, none⟩ = some (.int .i64 3) := G2.cell 0
  have f0'' : ∀ o, (w2.alloc o).cell? ⟨g, 0, none⟩ = some (.int .i64 3) := fun o => (G2.alloc o).cell 0
  have f3' : w2.cell? ⟨g, 3, none⟩ = some (.int .i64 c1) := G2.cell 3
  have f3'' : ∀ o, (w2.alloc o).cell? ⟨g, 3, none⟩ = some (.int .i64 c1) := fun o => (G2.alloc o).cell 3
  have f4' : w2.cell? ⟨g, 4, none⟩ = some (.int .i64 c2) := G2.cell 4
  have f4'' : ∀ o, (w2.alloc o).cell? ⟨g, 4, none⟩ = some (.int .i64 c2) := fun o => (G2.alloc o).cell 4
  have f7' : w2.cell? ⟨g, 7, none⟩ = some (.string s) := G2.cell 7
  have f7'' : ∀ o, (w2.alloc o).cell? ⟨g, 7, none⟩ = some (.string s) := fun o => (G2.alloc o).cell 7
  have f8' : w2.cell? ⟨g, 8, none⟩ = some (.string t) := G2.cell 8
  have f8'' : ∀ o, (w2.alloc o).cell? ⟨g, 8, none⟩ = some (.string t) := fun o => (G2.alloc o).cell 8
  have p0 : w2.cell? ⟨w1.heap.size, 0, none⟩ = some (.int .i64 e1) := P2.out.cell 0
  have p1 : w2.cell? ⟨w1.heap.size, 1, none⟩ = some (.int .i64 e2) := P2.out.cell 1
  have p0' : ∀ o, (w2.alloc o).cell? ⟨w1.heap.size, 0, none⟩ = some (.int .i64 e1) := fun o => (P2.out.alloc o).cell 0
  have p1' : ∀ o, (w2.alloc o).cell? ⟨w1.heap.size, 1, none⟩ = some (.int .i64 e2) := fun o => (P2.out.alloc o).cell 1
  have n0' : w2.cell? ⟨b, off + j * 6, none⟩ = some (.int .i64 m1) := by rw [hbw.out.cell (World.block_lt_of_cell? w1 _ q0)]; exact q0
  have n1' : w2.cell? ⟨b, off + j * 6 + 1, none⟩ = some (.int .i64 m2) := by rw [hbw.out.cell (World.block_lt_of_cell? w1 _ q1)]; exact q1
  have n2' : w2.cell? ⟨b, off + j * 6 + 2, none⟩ = some (.int .i64 m3) := by rw [hbw.out.cell (World.block_lt_of_cell? w1 _ q2)]; exact q2
  have n3' : w2.cell? ⟨b, off + j * 6 + 3, none⟩ = some (.int .i64 m4) := by rw [hbw.out.cell (World.block_lt_of_cell? w1 _ q3)]; exact q3
  have n4' : w2.cell? ⟨b, off + j * 6 + 4, none⟩ = some (.string m5) := by rw [hbw.out.cell (World.block_lt_of_cell? w1 _ q4)]; exact q4
  have n5' : w2.cell? ⟨b, off + j * 6 + 5, none⟩ = some (.string m6) := by rw [hbw.out.cell (World.block_lt_of_cell? w1 _ q5)]; exact q5
  clear hb2 G2
  go_wp2_with fail
  refine (rwithV l ((m1, m2), (m3, m4), s, m6) (some ⟨b, off, none⟩) n c _ (by omega) (N1.out.below (below_step hbw.out (Nat.le_refl _) (below_new _ _)))).mono ?_
  rintro e w3 ⟨v, rfl, hv, hb3, ha3⟩
  have HV : Hid (NodesV w3 v L) := by rw [HL.out]; exact hv
  have B3 : Hid (Below w.heap.size w w3) := below_step (below_step HB1.out LG.out (below_step hbw.out (Nat.le_refl _) (below_new _ _))) LG.out hb3
  have HA : Hid (AdrV _ n w.heap.size v) := ha3.less (below_step HB1.out LG.out (below_step hbw.out (Nat.le_refl _) (below_new _ _))).size
  clear hv hb3 ha3
  go_wp2
  go_ret
  exact ⟨v, rfl, HV.out, B3.out, HA.out⟩

set_option maxRecDepth 100000 in
set_option maxHeartbeats 4000000 in
theorem rdo_3pn (l : List NodeT) (a1 a2 c1 c2 e1 e2 : Int) (s t : ByteArray) (a : Option Addr) (n c : Nat) (w : World) (hn : n ≤ 65535) (HI : Hid (NodesAt w a n l)) (HR : Hid (FindE l (c1, c2) (-1))) (hx : ¬ e1 = 0) (r2 : Int) (HR2 : Hid (FindE l (e1, e2) r2)) :
    Calls Tryd.prog 17 #[.slice a n c, .agg #[.int .i64 3, .int .i64 a1, .int .i64 a2, .int .i64 c1, .int .i64 c2, .int .i64 e1, .int .i64 e2, .string s, .string t]] w fun e w' => ∃ v, e = .returned v ∧ NodesV w' v (l) ∧ Below w.heap.size w w' ∧ AdrV a n w.heap.size v := by
  have hln : l.length = n := HI.out.1
  have HLN : Hid (l.length = n) := hln
  clear hln
  have gx : (e1 == 0) = false := by rw [beq_eq_false_iff_ne]; exact hx
  obtain ⟨L, HL⟩ : ∃ L, Hid (L = l) := ⟨_, rfl⟩
  show Calls _ _ _ _ fun e w' => ∃ v, e = .returned v ∧ NodesV w' v (l) ∧ Below w.heap.size w w' ∧ AdrV a n w.heap.size v
  rw [← HL.out]
  go_enter Tryd.func17, Tryd.ntmps17
  go_wp2_with fail
  generalize hq : World.alloc w _ = w0
  have hb0 : Hid (Below w.heap.size w w0) := by rw [← hq]; exact below_new w _
  have G0 : Hid (Blk w0 30 w.heap.size #[.int .i64 3, .int .i64 a1, .int .i64 a2, .int .i64 c1, .int .i64 c2, .int .i64 e1, .int .i64 e2, .string s, .string t]) := by show Blk _ _ _ _; rw [← hq]; exact Blk.new _ _ _
  have N0 : Hid (NodesAt w0 a n l) := HI.out.below hb0.out
  obtain ⟨g, hg⟩ : ∃ g, g = w.heap.size := ⟨_, rfl⟩
  rw [← hg] at G0 ⊢
  have LG : Hid (w.heap.size ≤ w.heap.size) := Nat.le_refl _
  clear hq HI hg
  refine (rfind_any l (c1, c2) (-1) HR.out a n c w0 (by omega) N0.out).mono ?_
  rintro e w1 ⟨rfl, hb1⟩
  have HB1 : Hid (Below w.heap.size w w1) := below_step hb0.out LG.out hb1
  have G1 : Hid (Blk w1 30 g #[.int .i64 3, .int .i64 a1, .int .i64 a2, .int .i64 c1, .int .i64 c2, .int .i64 e1, .int .i64 e2, .string s, .string t]) := G0.out.on hb1
  have N1 : Hid (NodesAt w1 a n l) := N0.out.below hb1
  clear hb1 hb0 G0 N0 HR
  have g5 : w1.cell? ⟨g, 5, none⟩ = some (.int .i64 e1) := G1.out.cell 5
  have g6 : w1.cell? ⟨g, 6, none⟩ = some (.int .i64 e2) := G1.out.cell 6
  have f0 : ∀ o, (w1.alloc o).cell? ⟨g, 0, none⟩ = some (.int .i64 3) := fun o => (G1.out.alloc o).cell 0
  have f3 : ∀ o, (w1.alloc o).cell? ⟨g, 3, none⟩ = some (.int .i64 c1) := fun o => (G1.out.alloc o).cell 3
  have f4 : ∀ o, (w1.alloc o).cell? ⟨g, 4, none⟩ = some (.int .i64 c2) := fun o => (G1.out.alloc o).cell 4
  have f7 : ∀ o, (w1.alloc o).cell? ⟨g, 7, none⟩ = some (.string s) := fun o => (G1.out.alloc o).cell 7
  have f8 : ∀ o, (w1.alloc o).cell? ⟨g, 8, none⟩ = some (.string t) := fun o => (G1.out.alloc o).cell 8
  go_wp2_with fail
  refine (rfind_any l (e1, e2) r2 HR2.out a n c _ (by omega) (N1.out.below (below_new _ _))).mono ?_
  rintro e w2 ⟨rfl, hb2⟩
  have hbw : Hid (Below w1.heap.size w1 w2) := below_step (below_new w1 _) (Nat.le_refl _) hb2
  have P2 : Hid (Blk w2 24 w1.heap.size #[.int .i64 e1, .int .i64 e2]) := (Blk.new w1 _ _).on hb2
  have G2 := G1.out.on hbw.out
  have f0' : w2.cell? ⟨g, 0, none⟩ = some (.int .i64 3) := G2.cell 0
  have f0'' : ∀ o, (w2.alloc o).cell? ⟨g, 0, none⟩ = some (.int .i64 3) := fun o => (G2.alloc o).cell 0
  have f3' : w2.cell? ⟨g, 3, none⟩ = some (.int .i64 c1) := G2.cell 3
  have f3'' : ∀ o, (w2.alloc o).cell? ⟨g, 3, none⟩ = some (.int .i64 c1) := fun o => (G2.alloc o).cell 3
  have f4' : w2.cell? ⟨g, 4, none⟩ = some (.int .i64 c2) := G2.cell 4
  have f4'' : ∀ o, (w2.alloc o).cell? ⟨g, 4, none⟩ = some (.int .i64 c2) := fun o => (G2.alloc o).cell 4
  have f7' : w2.cell? ⟨g, 7, none⟩ = some (.string s) := G2.cell 7
  have f7'' : ∀ o, (w2.alloc o).cell? ⟨g, 7, none⟩ = some (.string s) := fun o => (G2.alloc o).cell 7
  have f8' : w2.cell? ⟨g, 8, none⟩ = some (.string t) := G2.cell 8
  have f8'' : ∀ o, (w2.alloc o).cell? ⟨g, 8, none⟩ = some (.string t) := fun o => (G2.alloc o).cell 8
  have p0 : w2.cell? ⟨w1.heap.size, 0, none⟩ = some (.int .i64 e1) := P2.out.cell 0
  have p1 : w2.cell? ⟨w1.heap.size, 1, none⟩ = some (.int .i64 e2) := P2.out.cell 1
  have p0' : ∀ o, (w2.alloc o).cell? ⟨w1.heap.size, 0, none⟩ = some (.int .i64 e1) := fun o => (P2.out.alloc o).cell 0
  have p1' : ∀ o, (w2.alloc o).cell? ⟨w1.heap.size, 1, none⟩ = some (.int .i64 e2) := fun o => (P2.out.alloc o).cell 1
  clear hb2 G2
  go_wp2
  go_ret
  exact ⟨.slice a n c, rfl, by rw [HL.out]; exact ⟨_, _, by rw [HLN.out], by rw [HLN.out]; exact N1.out.below hbw.out⟩, below_step HB1.out LG.out hbw.out, adr_same⟩

set_option maxRecDepth 100000 in
set_option maxHeartbeats 4000000 in
theorem rdo_4xy (l : List NodeT) (a1 a2 c1 c2 e2 : Int) (s t : ByteArray) (a : Option Addr) (n c j : Nat) (w : World) (hn : n ≤ 65535) (HI : Hid (NodesAt w a n l)) (HR : Hid (FindE l (c1, c2) (j : Int))) (hj : j < n) :
    Calls Tryd.prog 17 #[.slice a n c, .agg #[.int .i64 4, .int .i64 a1, .int .i64 a2, .int .i64 c1, .int .i64 c2, .int .i64 0, .int .i64 e2, .string s, .string t]] w fun e w' => ∃ v, e = .returned v ∧ NodesV w' v (withP l ((nL l j).1, (nL l j).2.1, (nL l j).2.2.1, t)) ∧ Below w.heap.size w w' ∧ AdrV a n w.heap.size v := by
  have hln : l.length = n := HI.out.1
  have HLN : Hid (l.length = n) := hln
  clear hln
  have j0 : (j : Int) < (n : Int) := by omega
  have j1 : ¬ ((j : Int) < 0) := by omega
  have j2 : decide ((j : Int) < 0) = false := by simp
  have j3 : decide ((0 : Int) ≤ (j : Int)) = true := by simp
  obtain ⟨Y, hY⟩ : ∃ Y, Y = nL l j := ⟨_, rfl⟩
  rw [← hY]
  obtain ⟨⟨m1, m2⟩, ⟨m3, m4⟩, m5, m6⟩ := Y
  obtain ⟨L, HL⟩ : ∃ L, Hid (L = withP l ((m1, m2), (m3, m4), m5, t)) := ⟨_, rfl⟩
  show Calls _ _ _ _ fun e w' => ∃ v, e = .returned v ∧ NodesV w' v (withP l ((m1, m2), (m3, m4), m5, t)) ∧ Below w.heap.size w w' ∧ AdrV a n w.heap.size v
  rw [← HL.out]
  have HYY : Hid (((m1, m2), (m3, m4), m5, m6) = nL l j) := hY
  clear hY
  go_enter Tryd.func17, Tryd.ntmps17
  go_wp2_with fail
  generalize hq : World.alloc w _ = w0
  have hb0 : Hid (Below w.heap.size w w0) := by rw [← hq]; exact below_new w _
  have G0 : Hid (Blk w0 30 w.heap.size #[.int .i64 4, .int .i64 a1, .int .i64 a2, .int .i64 c1, .int .i64 c2, .int .i64 0, .int .i64 e2, .string s, .string t]) := by show Blk _ _ _ _; rw [← hq]; exact Blk.new _ _ _
  have N0 : Hid (NodesAt w0 a n l) := HI.out.below hb0.out
  obtain ⟨g, hg⟩ : ∃ g, g = w.heap.size := ⟨_, rfl⟩
  rw [← hg] at G0 ⊢
  have LG : Hid (w.heap.size ≤ w.heap.size) := Nat.le_refl _
  clear hq HI hg
  refine (rfind_any l (c1, c2) (j : Int) HR.out a n c w0 (by omega) N0.out).mono ?_
  rintro e w1 ⟨rfl, hb1⟩
  have HB1 : Hid (Below w.heap.size w w1) := below_step hb0.out LG.out hb1
  have G1 : Hid (Blk w1 30 g #[.int .i64 4, .int .i64 a1, .int .i64 a2, .int .i64 c1, .int .i64 c2, .int .i64 0, .int .i64 e2, .string s, .string t]) := G0.out.on hb1
  have N1 : Hid (NodesAt w1 a n l) := N0.out.below hb1
  clear hb1 hb0 G0 N0 HR
  have g5 : w1.cell? ⟨g, 5, none⟩ = some (.int .i64 0) := G1.out.cell 5
  have g6 : w1.cell? ⟨g, 6, none⟩ = some (.int .i64 e2) := G1.out.cell 6
  have f0 : ∀ o, (w1.alloc o).cell? ⟨g, 0, none⟩ = some (.int .i64 4) := fun o => (G1.out.alloc o).cell 0
  have f3 : ∀ o, (w1.alloc o).cell? ⟨g, 3, none⟩ = some (.int .i64 c1) := fun o => (G1.out.alloc o).cell 3
  have f4 : ∀ o, (w1.alloc o).cell? ⟨g, 4, none⟩ = some (.int .i64 c2) := fun o => (G1.out.alloc o).cell 4
  have f7 : ∀ o, (w1.alloc o).cell? ⟨g, 7, none⟩ = some (.string s) := fun o => (G1.out.alloc o).cell 7
  have f8 : ∀ o, (w1.alloc o).cell? ⟨g, 8, none⟩ = some (.string t) := fun o => (G1.out.alloc o).cell 8
  obtain ⟨b, off, rfl, _⟩ := N1.out.2.some (by omega)
  obtain ⟨q0, q1, q2, q3, q4, q5⟩ := N1.out.cells j hj
  rw [← HYY.out] at q0 q1 q2 q3 q4 q5
  have n0 : ∀ o, (w1.alloc o).cell? ⟨b, off + j * 6, none⟩ = some (.int .i64 m1) := fun o => by rw [(below_new w1 o).cell (World.block_lt_of_cell? w1 _ q0)]; exact q0
  have n1 : ∀ o, (w1.alloc o).cell? ⟨b, off + j * 6 + 1, none⟩ = some (.int .i64 m2) := fun o => by rw [(below_new w1 o).cell (World.block_lt_of_cell? w1 _ q1)]; exact q1
  have n2 : ∀ o, (w1.alloc o).cell? ⟨b, off + j * 6 + 2, none⟩ = some (.int .i64 m3) := fun o => by rw [(below_new w1 o).cell (World.block_lt_of_cell? w1 _ q2)]; exact q2
  have n3 : ∀ o, (w1.alloc o).cell? ⟨b, off + j * 6 + 3, none⟩ = some (.int .i64 m4) := fun o => by rw [(below_new w1 o).cell (World.block_lt_of_cell? w1 _ q3)]; exact q3
  have n4 : ∀ o, (w1.alloc o).cell? ⟨b, off + j * 6 + 4, none⟩ = some (.string m5) := fun o => by rw [(below_new w1 o).cell (World.block_lt_of_cell? w1 _ q4)]; exact q4
  have n5 : ∀ o, (w1.alloc o).cell? ⟨b, off + j * 6 + 5, none⟩ = some (.string m6) := fun o => by rw [(below_new w1 o).cell (World.block_lt_of_cell? w1 _ q5)]; exact q5
  have f0' : ∀ o o', ((w1.alloc o).alloc o').cell? ⟨g, 0, none⟩ = some (.int .i64 4) := fun o o' => ((G1.out.alloc o).alloc o').cell 0
  have f3' : ∀ o o', ((w1.alloc o).alloc o').cell? ⟨g, 3, none⟩ = some (.int .i64 c1) := fun o o' => ((G1.out.alloc o).alloc o').cell 3
  have f4' : ∀ o o', ((w1.alloc o).alloc o').cell? ⟨g, 4, none⟩ = some (.int .i64 c2) := fun o o' => ((G1.out.alloc o).alloc o').cell 4
  have f7' : ∀ o o', ((w1.alloc o).alloc o').cell? ⟨g, 7, none⟩ = some (.string s) := fun o o' => ((G1.out.alloc o).alloc o').cell 7
  have f8' : ∀ o o', ((w1.alloc o).alloc o').cell? ⟨g, 8, none⟩ = some (.string t) := fun o o' => ((G1.out.alloc o).alloc o').cell 8
  go_wp2_with fail
  refine (rwithV l ((m1, m2), (m3, m4), m5, t) (some ⟨b, off, none⟩) n c _ (by omega) (N1.out.below (below_step (below_new w1 _) (Nat.le_refl _) (below_new _ _)))).mono ?_
  rintro e w3 ⟨v, rfl, hv, hb3, ha3⟩
  have HV : Hid (NodesV w3 v L) := by rw [HL.out]; exact hv
  have B3 : Hid (Below w.heap.size w w3) := below_step (below_step HB1.out LG.out (below_step (below_new w1 _) (Nat.le_refl _) (below_new _ _))) LG.out hb3
  have HA : Hid (AdrV _ n w.heap.size v) := ha3.less (below_step HB1.out LG.out (below_step (below_new w1 _) (Nat.le_refl _) (below_new _ _))).size
  clear hv hb3 ha3
  go_wp2
  go_ret
  exact ⟨v, rfl, HV.out, B3.out, HA.out⟩

set_option maxRecDepth 100000 in
set_option maxHeartbeats 4000000 in
theorem rdo_4xn (l : List NodeT) (a1 a2 c1 c2 e2 : Int) (s t : ByteArray) (a : Option Addr) (n c : Nat) (w : World) (hn : n ≤ 65535) (HI : Hid (NodesAt w a n l)) (HR : Hid (FindE l (c1, c2) (-1))) :
    Calls Tryd.prog 17 #[.slice a n c, .agg #[.int .i64 4, .int .i64 a1, .int .i64 a2, .int .i64 c1, .int .i64 c2, .int .i64 0, .int .i64 e2, .string s, .string t]] w fun e w' => ∃ v, e = .returned v ∧ NodesV w' v (l) ∧ Below w.heap.size w w' ∧ AdrV a n w.heap.size v := by
  have hln : l.length = n := HI.out.1
  have HLN : Hid (l.length = n) := hln
  clear hln
  obtain ⟨L, HL⟩ : ∃ L, Hid (L = l) := ⟨_, rfl⟩
  show Calls _ _ _ _ fun e w' => ∃ v, e = .returned v ∧ NodesV w' v (l) ∧ Below w.heap.size w w' ∧ AdrV a n w.heap.size v
  rw [← HL.out]
  go_enter Tryd.func17, Tryd.ntmps17
  go_wp2_with fail
  generalize hq : World.alloc w _ = w0
  have hb0 : Hid (Below w.heap.size w w0) := by rw [← hq]; exact below_new w _
  have G0 : Hid (Blk w0 30 w.heap.size #[.int .i64 4, .int .i64 a1, .int .i64 a2, .int .i64 c1, .int .i64 c2, .int .i64 0, .int .i64 e2, .string s, .string t]) := by show Blk _ _ _ _; rw [← hq]; exact Blk.new _ _ _
  have N0 : Hid (NodesAt w0 a n l) := HI.out.below hb0.out
  obtain ⟨g, hg⟩ : ∃ g, g = w.heap.size := ⟨_, rfl⟩
  rw [← hg] at G0 ⊢
  have LG : Hid (w.heap.size ≤ w.heap.size) := Nat.le_refl _
  clear hq HI hg
  refine (rfind_any l (c1, c2) (-1) HR.out a n c w0 (by omega) N0.out).mono ?_
  rintro e w1 ⟨rfl, hb1⟩
  have HB1 : Hid (Below w.heap.size w w1) := below_step hb0.out LG.out hb1
  have G1 : Hid (Blk w1 30 g #[.int .i64 4, .int .i64 a1, .int .i64 a2, .int .i64 c1, .int .i64 c2, .int .i64 0, .int .i64 e2, .string s, .string t]) := G0.out.on hb1
  have N1 : Hid (NodesAt w1 a n l) := N0.out.below hb1
  clear hb1 hb0 G0 N0 HR
  have g5 : w1.cell? ⟨g, 5, none⟩ = some (.int .i64 0) := G1.out.cell 5
  have g6 : w1.cell? ⟨g, 6, none⟩ = some (.int .i64 e2) := G1.out.cell 6
  have f0 : ∀ o, (w1.alloc o).cell? ⟨g, 0, none⟩ = some (.int .i64 4) := fun o => (G1.out.alloc o).cell 0
  have f3 : ∀ o, (w1.alloc o).cell? ⟨g, 3, none⟩ = some (.int .i64 c1) := fun o => (G1.out.alloc o).cell 3
  have f4 : ∀ o, (w1.alloc o).cell? ⟨g, 4, none⟩ = some (.int .i64 c2) := fun o => (G1.out.alloc o).cell 4
  have f7 : ∀ o, (w1.alloc o).cell? ⟨g, 7, none⟩ = some (.string s) := fun o => (G1.out.alloc o).cell 7
  have f8 : ∀ o, (w1.alloc o).cell? ⟨g, 8, none⟩ = some (.string t) := fun o => (G1.out.alloc o).cell 8
  have f0' : ∀ o o', ((w1.alloc o).alloc o').cell? ⟨g, 0, none⟩ = some (.int .i64 4) := fun o o' => ((G1.out.alloc o).alloc o').cell 0
  have f3' : ∀ o o', ((w1.alloc o).alloc o').cell? ⟨g, 3, none⟩ = some (.int .i64 c1) := fun o o' => ((G1.out.alloc o).alloc o').cell 3
  have f4' : ∀ o o', ((w1.alloc o).alloc o').cell? ⟨g, 4, none⟩ = some (.int .i64 c2) := fun o o' => ((G1.out.alloc o).alloc o').cell 4
  have f7' : ∀ o o', ((w1.alloc o).alloc o').cell? ⟨g, 7, none⟩ = some (.string s) := fun o o' => ((G1.out.alloc o).alloc o').cell 7
  have f8' : ∀ o o', ((w1.alloc o).alloc o').cell? ⟨g, 8, none⟩ = some (.string t) := fun o o' => ((G1.out.alloc o).alloc o').cell 8
  go_wp2
  go_ret
  exact ⟨.slice a n c, rfl, by rw [HL.out]; exact ⟨_, _, by rw [HLN.out], by rw [HLN.out]; exact N1.out.below (below_new w1 _)⟩, below_step HB1.out LG.out (below_new w1 _), adr_same⟩

set_option maxRecDepth 100000 in
set_option maxHeartbeats 4000000 in
theorem rdo_4py (l : List NodeT) (a1 a2 c1 c2 e1 e2 : Int) (s t : ByteArray) (a : Option Addr) (n c j : Nat) (w : World) (hn : n ≤ 65535) (HI : Hid (NodesAt w a n l)) (HR : Hid (FindE l (c1, c2) (j : Int))) (hj : j < n) (hx : ¬ e1 = 0) (r2 : Int) (HR2 : Hid (FindE l (e1, e2) r2)) :
    Calls Tryd.prog 17 #[.slice a n c, .agg #[.int .i64 4, .int .i64 a1, .int .i64 a2, .int .i64 c1, .int .i64 c2, .int .i64 e1, .int .i64 e2, .string s, .string t]] w fun e w' => ∃ v, e = .returned v ∧ NodesV w' v (withP l ((nL l j).1, (nL l j).2.1, (nL l j).2.2.1, t)) ∧ Below w.heap.size w w' ∧ AdrV a n w.heap.size v := by
  have hln : l.length = n := HI.out.1
  have HLN : Hid (l.length = n) := hln
  clear hln
  have j0 : (j : Int) < (n : Int) := by omega
  have j1 : ¬ ((j : Int) < 0) := by omega
  have j2 : decide ((j : Int) < 0) = false := by simp
  have j3 : decide ((0 : Int) ≤ (j : Int)) = true := by simp
  have gx : (e1 == 0) = false := by rw [beq_eq_false_iff_ne]; exact hx
  obtain ⟨Y, hY⟩ : ∃ Y, Y = nL l j := ⟨_, rfl⟩
  rw [← hY]
  obtain ⟨⟨m1, m2⟩, ⟨m3, m4⟩, m5, m6⟩ := Y
  obtain ⟨L, HL⟩ : ∃ L, Hid (L = withP l ((m1, m2), (m3, m4), m5, t)) := ⟨_, rfl⟩
  show Calls _ _ _ _ fun e w' => ∃ v, e = .returned v ∧ NodesV w' v (withP l ((m1, m2), (m3, m4), m5, t)) ∧ Below w.heap.size w w' ∧ AdrV a n w.heap.size v
  rw [← HL.out]
  have HYY : Hid (((m1, m2), (m3, m4), m5, m6) = nL l j) := hY
  clear hY
  go_enter Tryd.func17, Tryd.ntmps17
  go_wp2_with fail
  generalize hq : World.alloc w _ = w0
  have hb0 : Hid (Below w.heap.size w w0) := by rw [← hq]; exact below_new w _
  have G0 : Hid (Blk w0 30 w.heap.size #[.int .i64 4, .int .i64 a1, .int .i64 a2, .int .i64 c1, .int .i64 c2, .int .i64 e1, .int .i64 e2, .string s, .string t]) := by show Blk _ _ _ _; rw [← hq]; exact Blk.new _ _ _
  have N0 : Hid (NodesAt w0 a n l) := HI.out.below hb0.out
  obtain ⟨g, hg⟩ : ∃ g, g = w.heap.size := ⟨_, rfl⟩
  rw [← hg] at G0 ⊢
  have LG : Hid (w.heap.size ≤ w.heap.size) := Nat.le_refl _
  clear hq HI hg
  refine (rfind_any l (c1, c2) (j : Int) HR.out a n c w0 (by omega) N0.out).mono ?_
  rintro e w1 ⟨rfl, hb1⟩
  have HB1 : Hid (Below w.heap.size w w1) := below_step hb0.out LG.out hb1
  have G1 : Hid (Blk w1 30 g #[.int .i64 4, .int .i64 a1, .int .i64 a2, .int .i64 c1, .int .i64 c2, .int .i64 e1, .int .i64 e2, .string s, .string t]) := G0.out.on hb1
  have N1 : Hid (NodesAt w1 a n l) := N0.out.below hb1
  clear hb1 hb0 G0 N0 HR
  have g5 : w1.cell? ⟨g, 5, none⟩ = some (.int .i64 e1) := G1.out.cell 5
  have g6 : w1.cell? ⟨g, 6, none⟩ = some (.int .i64 e2) := G1.out.cell 6
  have f0 : ∀ o, (w1.alloc o).cell? ⟨g, 0, none⟩ = some (.int .i64 4) := fun o => (G1.out.alloc o).cell 0
  have f3 : ∀ o, (w1.alloc o).cell? ⟨g, 3, none⟩ = some (.int .i64 c1) := fun o => (G1.out.alloc o).cell 3
  have f4 : ∀ o, (w1.alloc o).cell? ⟨g, 4, none⟩ = some (.int .i64 c2) := fun o => (G1.out.alloc o).cell 4
  have f7 : ∀ o, (w1.alloc o).cell? ⟨g, 7, none⟩ = some (.string s) := fun o => (G1.out.alloc o).cell 7
  have f8 : ∀ o, (w1.alloc o).cell? ⟨g, 8, none⟩ = some (.string t) := fun o => (G1.out.alloc o).cell 8
  obtain ⟨b, off, rfl, _⟩ := N1.out.2.some (by omega)
  obtain ⟨q0, q1, q2, q3, q4, q5⟩ := N1.out.cells j hj
  rw [← HYY.out] at q0 q1 q2 q3 q4 q5
  have n0 : ∀ o, (w1.alloc o).cell? ⟨b, off + j * 6, none⟩ = some (.int .i64 m1) := fun o => by rw [(below_new w1 o).cell (World.block_lt_of_cell? w1 _ q0)]; exact q0
  have n1 : ∀ o, (w1.alloc o).cell? ⟨b, off + j * 6 + 1, none⟩ = some (.int .i64 m2) := fun o => by rw [(below_new w1 o).cell (World.block_lt_of_cell? w1 _ q1)]; exact q1
  have n2 : ∀ o, (w1.alloc o).cell? ⟨b, off + j * 6 + 2, none⟩ = some (.int .i64 m3) := fun o => by rw [(below_new w1 o).cell (World.block_lt_of_cell? w1 _ q2)]; exact q2
  have n3 : ∀ o, (w1.alloc o).cell? ⟨b, off + j * 6 + 3, none⟩ = some (.int .i64 m4) := fun o => by rw [(below_new w1 o).cell (World.block_lt_of_cell? w1 _ q3)]; exact q3
  have n4 : ∀ o, (w1.alloc o).cell? ⟨b, off + j * 6 + 4, none⟩ = some (.string m5) := fun o => by rw [(below_new w1 o).cell (World.block_lt_of_cell? w1 _ q4)]; exact q4
  have n5 : ∀ o, (w1.alloc o).cell? ⟨b, off + j * 6 + 5, none⟩ = some (.string m6) := fun o => by rw [(below_new w1 o).cell (World.block_lt_of_cell? w1 _ q5)]; exact q5
  go_wp2_with fail
  refine (rfind_any l (e1, e2) r2 HR2.out (some ⟨b, off, none⟩) n c _ (by omega) (N1.out.below (below_new _ _))).mono ?_
  rintro e w2 ⟨rfl, hb2⟩
  have hbw : Hid (Below w1.heap.size w1 w2) := below_step (below_new w1 _) (Nat.le_refl _) hb2
  have P2 : Hid (Blk w2 24 w1.heap.size #[.int .i64 e1, .int .i64 e2]) := (Blk.new w1 _ _).on hb2
  have G2 := G1.out.on hbw.out
  have f0' : w2.cell? ⟨g, 0, none⟩ = some (.int .i64 4) := G2.cell 0
  have f0'' : ∀ o, (w2.alloc o).cell? ⟨g, 0, none⟩ = some (.int .i64 4) := fun o => (G2.alloc o).cell 0
  have f3' : w2.cell? ⟨g, 3, none⟩ = some (.int .i64 c1) := G2.cell 3
  have f3'' : ∀ o, (w2.alloc o).cell? ⟨g, 3, none⟩ = some (.int .i64 c1) := fun o => (G2.alloc o).cell 3
  have f4' : w2.cell? ⟨g, 4, none⟩ = some (.int .i64 c2) := G2.cell 4
  have f4'' : ∀ o, (w2.alloc o).cell? ⟨g, 4, none⟩ = some (.int .i64 c2) := fun o => (G2.alloc o).cell 4
  have f7' : w2.cell? ⟨g, 7, none⟩ = some (.string s) := G2.cell 7
  have f7'' : ∀ o, (w2.alloc o).cell? ⟨g, 7, none⟩ = some (.string s) := fun o => (G2.alloc o).cell 7
  have f8' : w2.cell? ⟨g, 8, none⟩ = some (.string t) := G2.cell 8
  have f8'' : ∀ o, (w2.alloc o).cell? ⟨g, 8, none⟩ = some (.string t) := fun o => (G2.alloc o).cell 8
  have p0 : w2.cell? ⟨w1.heap.size, 0, none⟩ = some (.int .i64 e1) := P2.out.cell 0
  have p1 : w2.cell? ⟨w1.heap.size, 1, none⟩ = some (.int .i64 e2) := P2.out.cell 1
  have p0' : ∀ o, (w2.alloc o).cell? ⟨w1.heap.size, 0, none⟩ = some (.int .i64 e1) := fun o => (P2.out.alloc o).cell 0
  have p1' : ∀ o, (w2.alloc o).cell? ⟨w1.heap.size, 1, none⟩ = some (.int .i64 e2) := fun o => (P2.out.alloc o).cell 1
  have n0' : w2.cell? ⟨b, off + j * 6, none⟩ = some (.int .i64 m1) := by rw [hbw.out.cell (World.block_lt_of_cell? w1 _ q0)]; exact q0
  have n1' : w2.cell? ⟨b, off + j * 6 + 1, none⟩ = some (.int .i64 m2) := by rw [hbw.out.cell (World.block_lt_of_cell? w1 _ q1)]; exact q1
  have n2' : w2.cell? ⟨b, off + j * 6 + 2, none⟩ = some (.int .i64 m3) := by rw [hbw.out.cell (World.block_lt_of_cell? w1 _ q2)]; exact q2
  have n3' : w2.cell? ⟨b, off + j * 6 + 3, none⟩ = some (.int .i64 m4) := by rw [hbw.out.cell (World.block_lt_of_cell? w1 _ q3)]; exact q3
  have n4' : w2.cell? ⟨b, off + j * 6 + 4, none⟩ = some (.string m5) := by rw [hbw.out.cell (World.block_lt_of_cell? w1 _ q4)]; exact q4
  have n5' : w2.cell? ⟨b, off + j * 6 + 5, none⟩ = some (.string m6) := by rw [hbw.out.cell (World.block_lt_of_cell? w1 _ q5)]; exact q5
  clear hb2 G2
  go_wp2_with fail
  refine (rwithV l ((m1, m2), (m3, m4), m5, t) (some ⟨b, off, none⟩) n c _ (by omega) (N1.out.below (below_step hbw.out (Nat.le_refl _) (below_new _ _)))).mono ?_
  rintro e w3 ⟨v, rfl, hv, hb3, ha3⟩
  have HV : Hid (NodesV w3 v L) := by rw [HL.out]; exact hv
  have B3 : Hid (Below w.heap.size w w3) := below_step (below_step HB1.out LG.out (below_step hbw.out (Nat.le_refl _) (below_new _ _))) LG.out hb3
  have HA : Hid (AdrV _ n w.heap.size v) := ha3.less (below_step HB1.out LG.out (below_step hbw.out (Nat.le_refl _) (below_new _ _))).size
  clear hv hb3 ha3
  go_wp2
  go_ret
  exact ⟨v, rfl, HV.out, B3.out, HA.out⟩

set_option maxRecDepth 100000 in
set_option maxHeartbeats 4000000 in
theorem rdo_4pn (l : List NodeT) (a1 a2 c1 c2 e1 e2 : Int) (s t : ByteArray) (a : Option Addr) (n c : Nat) (w : World) (hn : n ≤ 65535) (HI : Hid (NodesAt w a n l)) (HR : Hid (FindE l (c1, c2) (-1))) (hx : ¬ e1 = 0) (r2 : Int) (HR2 : Hid (FindE l (e1, e2) r2)) :
    Calls Tryd.prog 17 #[.slice a n c, .agg #[.int .i64 4, .int .i64 a1, .int .i64 a2, .int .i64 c1, .int .i64 c2, .int .i64 e1, .int .i64 e2, .string s, .string t]] w fun e w' => ∃ v, e = .returned v ∧ NodesV w' v (l) ∧ Below w.heap.size w w' ∧ AdrV a n w.heap.size v := by
  have hln : l.length = n := HI.out.1
  have HLN : Hid (l.length = n) := hln
  clear hln
  have gx : (e1 == 0) = false := by rw [beq_eq_false_iff_ne]; exact hx
  obtain ⟨L, HL⟩ : ∃ L, Hid (L = l) := ⟨_, rfl⟩
  show Calls _ _ _ _ fun e w' => ∃ v, e = .returned v ∧ NodesV w' v (l) ∧ Below w.heap.size w w' ∧ AdrV a n w.heap.size v
  rw [← HL.out]
  go_enter Tryd.func17, Tryd.ntmps17
  go_wp2_with fail
  generalize hq : World.alloc w _ = w0
  have hb0 : Hid (Below w.heap.size w w0) := by rw [← hq]; exact below_new w _
  have G0 : Hid (Blk w0 30 w.heap.size #[.int .i64 4, .int .i64 a1, .int .i64 a2, .int .i64 c1, .int .i64 c2, .int .i64 e1, .int .i64 e2, .string s, .string t]) := by show Blk _ _ _ _; rw [← hq]; exact Blk.new _ _ _
  have N0 : Hid (NodesAt w0 a n l) := HI.out.below hb0.out
  obtain ⟨g, hg⟩ : ∃ g, g = w.heap.size := ⟨_, rfl⟩
  rw [← hg] at G0 ⊢
  have LG : Hid (w.heap.size ≤ w.heap.size) := Nat.le_refl _
  clear hq HI hg
  refine (rfind_any l (c1, c2) (-1) HR.out a n c w0 (by omega) N0.out).mono ?_
  rintro e w1 ⟨rfl, hb1⟩
  have HB1 : Hid (Below w.heap.size w w1) := below_step hb0.out LG.out hb1
  have G1 : Hid (Blk w1 30 g #[.int .i64 4, .int .i64 a1, .int .i64 a2, .int .i64 c1, .int .i64 c2, .int .i64 e1, .int .i64 e2, .string s, .string t]) := G0.out.on hb1
  have N1 : Hid (NodesAt w1 a n l) := N0.out.below hb1
  clear hb1 hb0 G0 N0 HR
  have g5 : w1.cell? ⟨g, 5, none⟩ = some (.int .i64 e1) := G1.out.cell 5
  have g6 : w1.cell? ⟨g, 6, none⟩ = some (.int .i64 e2) := G1.out.cell 6
  have f0 : ∀ o, (w1.alloc o).cell? ⟨g, 0, none⟩ = some (.int .i64 4) := fun o => (G1.out.alloc o).cell 0
  have f3 : ∀ o, (w1.alloc o).cell? ⟨g, 3, none⟩ = some (.int .i64 c1) := fun o => (G1.out.alloc o).cell 3
  have f4 : ∀ o, (w1.alloc o).cell? ⟨g, 4, none⟩ = some (.int .i64 c2) := fun o => (G1.out.alloc o).cell 4
  have f7 : ∀ o, (w1.alloc o).cell? ⟨g, 7, none⟩ = some (.string s) := fun o => (G1.out.alloc o).cell 7
  have f8 : ∀ o, (w1.alloc o).cell? ⟨g, 8, none⟩ = some (.string t) := fun o => (G1.out.alloc o).cell 8
  go_wp2_with fail
  refine (rfind_any l (e1, e2) r2 HR2.out a n c _ (by omega) (N1.out.below (below_new _ _))).mono ?_
  rintro e w2 ⟨rfl, hb2⟩
  have hbw : Hid (Below w1.heap.size w1 w2) := below_step (below_new w1 _) (Nat.le_refl _) hb2
  have P2 : Hid (Blk w2 24 w1.heap.size #[.int .i64 e1, .int .i64 e2]) := (Blk.new w1 _ _).on hb2
  have G2 := G1.out.on hbw.out
  have f0' : w2.cell? ⟨g, 0, none⟩ = some (.int .i64 4) := G2.cell 0
  have f0'' : ∀ o, (w2.alloc o).cell? ⟨g, 0, none⟩ = some (.int .i64 4) := fun o => (G2.alloc o).cell 0
  have f3' : w2.cell? ⟨g, 3, none⟩ = some (.int .i64 c1) := G2.cell 3
  have f3'' : ∀ o, (w2.alloc o).cell? ⟨g, 3, none⟩ = some (.int .i64 c1) := fun o => (G2.alloc o).cell 3
  have f4' : w2.cell? ⟨g, 4, none⟩ = some (.int .i64 c2) := G2.cell 4
  have f4'' : ∀ o, (w2.alloc o).cell? ⟨g, 4, none⟩ = some (.int .i64 c2) := fun o => (G2.alloc o).cell 4
  have f7' : w2.cell? ⟨g, 7, none⟩ = some (.string s) := G2.cell 7
  have f7'' : ∀ o, (w2.alloc o).cell? ⟨g, 7, none⟩ = some (.string s) := fun o => (G2.alloc o).cell 7
  have f8' : w2.cell? ⟨g, 8, none⟩ = some (.string t) := G2.cell 8
  have f8'' : ∀ o, (w2.alloc o).cell? ⟨g, 8, none⟩ = some (.string t) := fun o => (G2.alloc o).cell 8
  have p0 : w2.cell? ⟨w1.heap.size, 0, none⟩ = some (.int .i64 e1) := P2.out.cell 0
  have p1 : w2.cell? ⟨w1.heap.size, 1, none⟩ = some (.int .i64 e2) := P2.out.cell 1
  have p0' : ∀ o, (w2.alloc o).cell? ⟨w1.heap.size, 0, none⟩ = some (.int .i64 e1) := fun o => (P2.out.alloc o).cell 0
  have p1' : ∀ o, (w2.alloc o).cell? ⟨w1.heap.size, 1, none⟩ = some (.int .i64 e2) := fun o => (P2.out.alloc o).cell 1
  clear hb2 G2
  go_wp2
  go_ret
  exact ⟨.slice a n c, rfl, by rw [HL.out]; exact ⟨_, _, by rw [HLN.out], by rw [HLN.out]; exact N1.out.below hbw.out⟩, below_step HB1.out LG.out hbw.out, adr_same⟩

set_option maxRecDepth 100000 in
set_option maxHeartbeats 4000000 in
theorem rdo_oxn (l : List NodeT) (kd a1 a2 c1 c2 e2 : Int) (s t : ByteArray) (a : Option Addr) (n c : Nat) (w : World) (hn : n ≤ 65535) (HI : Hid (NodesAt w a n l)) (HR : Hid (FindE l (c1, c2) (-1))) (k1 : ¬ kd = 1) (k3 : ¬ kd = 3) (k4 : ¬ kd = 4) (k5 : ¬ kd = 5) :
    Calls Tryd.prog 17 #[.slice a n c, .agg #[.int .i64 kd, .int .i64 a1, .int .i64 a2, .int .i64 c1, .int .i64 c2, .int .i64 0, .int .i64 e2, .string s, .string t]] w fun e w' => ∃ v, e = .returned v ∧ NodesV w' v (l) ∧ Below w.heap.size w w' ∧ AdrV a n w.heap.size v := by
  have hln : l.length = n := HI.out.1
  have HLN : Hid (l.length = n) := hln
  clear hln
  have gk1 : (kd == 1) = false := by rw [beq_eq_false_iff_ne]; exact k1
  have gk3 : (kd == 3) = false := by rw [beq_eq_false_iff_ne]; exact k3
  have gk4 : (kd == 4) = false := by rw [beq_eq_false_iff_ne]; exact k4
  have gk5 : (kd == 5) = false := by rw [beq_eq_false_iff_ne]; exact k5
  obtain ⟨L, HL⟩ : ∃ L, Hid (L = l) := ⟨_, rfl⟩
  show Calls _ _ _ _ fun e w' => ∃ v, e = .returned v ∧ NodesV w' v (l) ∧ Below w.heap.size w w' ∧ AdrV a n w.heap.size v
  rw [← HL.out]
  go_enter Tryd.func17, Tryd.ntmps17
  go_wp2_with fail
  generalize hq : World.alloc w _ = w0
  have hb0 : Hid (Below w.heap.size w w0) := by rw [← hq]; exact below_new w _
  have G0 : Hid (Blk w0 30 w.heap.size #[.int .i64 kd, .int .i64 a1, .int .i64 a2, .int .i64 c1, .int .i64 c2, .int .i64 0, .int .i64 e2, .string s, .string t]) := by show Blk _ _ _ _; rw [← hq]; exact Blk.new _ _ _
  have N0 : Hid (NodesAt w0 a n l) := HI.out.below hb0.out
  obtain ⟨g, hg⟩ : ∃ g, g = w.heap.size := ⟨_, rfl⟩
  rw [← hg] at G0 ⊢
  have LG : Hid (w.heap.size ≤ w.heap.size) := Nat.le_refl _
  clear hq HI hg
  refine (rfind_any l (c1, c2) (-1) HR.out a n c w0 (by omega) N0.out).mono ?_
  rintro e w1 ⟨rfl, hb1⟩
  have HB1 : Hid (Below w.heap.size w w1) := below_step hb0.out LG.out hb1
  have G1 : Hid (Blk w1 30 g #[.int .i64 kd, .int .i64 a1, .int .i64 a2, .int .i64 c1, .int .i64 c2, .int .i64 0, .int .i64 e2, .string s, .string t]) := G0.out.on hb1
  have N1 : Hid (NodesAt w1 a n l) := N0.out.below hb1
  clear hb1 hb0 G0 N0 HR
  have g5 : w1.cell? ⟨g, 5, none⟩ = some (.int .i64 0) := G1.out.cell 5
  have g6 : w1.cell? ⟨g, 6, none⟩ = some (.int .i64 e2) := G1.out.cell 6
  have f0 : ∀ o, (w1.alloc o).cell? ⟨g, 0, none⟩ = some (.int .i64 kd) := fun o => (G1.out.alloc o).cell 0
  have f3 : ∀ o, (w1.alloc o).cell? ⟨g, 3, none⟩ = some (.int .i64 c1) := fun o => (G1.out.alloc o).cell 3
  have f4 : ∀ o, (w1.alloc o).cell? ⟨g, 4, none⟩ = some (.int .i64 c2) := fun o => (G1.out.alloc o).cell 4
  have f7 : ∀ o, (w1.alloc o).cell? ⟨g, 7, none⟩ = some (.string s) := fun o => (G1.out.alloc o).cell 7
  have f8 : ∀ o, (w1.alloc o).cell? ⟨g, 8, none⟩ = some (.string t) := fun o => (G1.out.alloc o).cell 8
  have f0' : ∀ o o', ((w1.alloc o).alloc o').cell? ⟨g, 0, none⟩ = some (.int .i64 kd) := fun o o' => ((G1.out.alloc o).alloc o').cell 0
  have f3' : ∀ o o', ((w1.alloc o).alloc o').cell? ⟨g, 3, none⟩ = some (.int .i64 c1) := fun o o' => ((G1.out.alloc o).alloc o').cell 3
  have f4' : ∀ o o', ((w1.alloc o).alloc o').cell? ⟨g, 4, none⟩ = some (.int .i64 c2) := fun o o' => ((G1.out.alloc o).alloc o').cell 4
  have f7' : ∀ o o', ((w1.alloc o).alloc o').cell? ⟨g, 7, none⟩ = some (.string s) := fun o o' => ((G1.out.alloc o).alloc o').cell 7
  have f8' : ∀ o o', ((w1.alloc o).alloc o').cell? ⟨g, 8, none⟩ = some (.string t) := fun o o' => ((G1.out.alloc o).alloc o').cell 8
  go_wp2
  go_ret
  exact ⟨.slice a n c, rfl, by rw [HL.out]; exact ⟨_, _, by rw [HLN.out], by rw [HLN.out]; exact N1.out.below (below_new w1 _)⟩, below_step HB1.out LG.out (below_new w1 _), adr_same⟩

set_option maxRecDepth 100000 in
set_option maxHeartbeats 4000000 in
theorem rdo_oxu (l : List NodeT) (kd a1 a2 c1 c2 e2 : Int) (s t : ByteArray) (a : Option Addr) (n c j : Nat) (w : World) (hn : n ≤ 65535) (HI : Hid (NodesAt w a n l)) (HR : Hid (FindE l (c1, c2) (j : Int))) (k1 : ¬ kd = 1) (k3 : ¬ kd = 3) (k4 : ¬ kd = 4) (k5 : ¬ kd = 5) (hj : j < n) (HU : Hid (underF l (c1, c2) (n + 1) (0, e2) = true)) :
    Calls Tryd.prog 17 #[.slice a n c, .agg #[.int .i64 kd, .int .i64 a1, .int .i64 a2, .int .i64 c1, .int .i64 c2, .int .i64 0, .int .i64 e2, .string s, .string t]] w fun e w' => ∃ v, e = .returned v ∧ NodesV w' v (l) ∧ Below w.heap.size w w' ∧ AdrV a n w.heap.size v := by
  have hln : l.length = n := HI.out.1
  have HLN : Hid (l.length = n) := hln
  clear hln
  have j0 : (j : Int) < (n : Int) := by omega
  have j1 : ¬ ((j : Int) < 0) := by omega
  have j2 : decide ((j : Int) < 0) = false := by simp
  have j3 : decide ((0 : Int) ≤ (j : Int)) = true := by simp
  have gk1 : (kd == 1) = false := by rw [beq_eq_false_iff_ne]; exact k1
  have gk3 : (kd == 3) = false := by rw [beq_eq_false_iff_ne]; exact k3
  have gk4 : (kd == 4) = false := by rw [beq_eq_false_iff_ne]; exact k4
  have gk5 : (kd == 5) = false := by rw [beq_eq_false_iff_ne]; exact k5
  obtain ⟨Y, hY⟩ : ∃ Y, Y = nL l j := ⟨_, rfl⟩
  obtain ⟨⟨m1, m2⟩, ⟨m3, m4⟩, m5, m6⟩ := Y
  obtain ⟨L, HL⟩ : ∃ L, Hid (L = l) := ⟨_, rfl⟩
  show Calls _ _ _ _ fun e w' => ∃ v, e = .returned v ∧ NodesV w' v (l) ∧ Below w.heap.size w w' ∧ AdrV a n w.heap.size v
  rw [← HL.out]
  have HYY : Hid (((m1, m2), (m3, m4), m5, m6) = nL l j) := hY
  clear hY
  go_enter Tryd.func17, Tryd.ntmps17
  go_wp2_with fail
  generalize hq : World.alloc w _ = w0
  have hb0 : Hid (Below w.heap.size w w0) := by rw [← hq]; exact below_new w _
  have G0 : Hid (Blk w0 30 w.heap.size #[.int .i64 kd, .int .i64 a1, .int .i64 a2, .int .i64 c1, .int .i64 c2, .int .i64 0, .int .i64 e2, .string s, .string t]) := by show Blk _ _ _ _; rw [← hq]; exact Blk.new _ _ _
  have N0 : Hid (NodesAt w0 a n l) := HI.out.below hb0.out
  obtain ⟨g, hg⟩ : ∃ g, g = w.heap.size := ⟨_, rfl⟩
  rw [← hg] at G0 ⊢
  have LG : Hid (w.heap.size ≤ w.heap.size) := Nat.le_refl _
  clear hq HI hg
  refine (rfind_any l (c1, c2) (j : Int) HR.out a n c w0 (by omega) N0.out).mono ?_
  rintro e w1 ⟨rfl, hb1⟩
  have HB1 : Hid (Below w.heap.size w w1) := below_step hb0.out LG.out hb1
  have G1 : Hid (Blk w1 30 g #[.int .i64 kd, .int .i64 a1, .int .i64 a2, .int .i64 c1, .int .i64 c2, .int .i64 0, .int .i64 e2, .string s, .string t]) := G0.out.on hb1
  have N1 : Hid (NodesAt w1 a n l) := N0.out.below hb1
  clear hb1 hb0 G0 N0 HR
  have g5 : w1.cell? ⟨g, 5, none⟩ = some (.int .i64 0) := G1.out.cell 5
  have g6 : w1.cell? ⟨g, 6, none⟩ = some (.int .i64 e2) := G1.out.cell 6
  have f0 : ∀ o, (w1.alloc o).cell? ⟨g, 0, none⟩ = some (.int .i64 kd) := fun o => (G1.out.alloc o).cell 0
  have f3 : ∀ o, (w1.alloc o).cell? ⟨g, 3, none⟩ = some (.int .i64 c1) := fun o => (G1.out.alloc o).cell 3
  have f4 : ∀ o, (w1.alloc o).cell? ⟨g, 4, none⟩ = some (.int .i64 c2) := fun o => (G1.out.alloc o).cell 4
  have f7 : ∀ o, (w1.alloc o).cell? ⟨g, 7, none⟩ = some (.string s) := fun o => (G1.out.alloc o).cell 7
  have f8 : ∀ o, (w1.alloc o).cell? ⟨g, 8, none⟩ = some (.string t) := fun o => (G1.out.alloc o).cell 8
  obtain ⟨b, off, rfl, _⟩ := N1.out.2.some (by omega)
  obtain ⟨q0, q1, q2, q3, q4, q5⟩ := N1.out.cells j hj
  rw [← HYY.out] at q0 q1 q2 q3 q4 q5
  have n0 : ∀ o, (w1.alloc o).cell? ⟨b, off + j * 6, none⟩ = some (.int .i64 m1) := fun o => by rw [(below_new w1 o).cell (World.block_lt_of_cell? w1 _ q0)]; exact q0
  have n1 : ∀ o, (w1.alloc o).cell? ⟨b, off + j * 6 + 1, none⟩ = some (.int .i64 m2) := fun o => by rw [(below_new w1 o).cell (World.block_lt_of_cell? w1 _ q1)]; exact q1
  have n2 : ∀ o, (w1.alloc o).cell? ⟨b, off + j * 6 + 2, none⟩ = some (.int .i64 m3) := fun o => by rw [(below_new w1 o).cell (World.block_lt_of_cell? w1 _ q2)]; exact q2
  have n3 : ∀ o, (w1.alloc o).cell? ⟨b, off + j * 6 + 3, none⟩ = some (.int .i64 m4) := fun o => by rw [(below_new w1 o).cell (World.block_lt_of_cell? w1 _ q3)]; exact q3
  have n4 : ∀ o, (w1.alloc o).cell? ⟨b, off + j * 6 + 4, none⟩ = some (.string m5) := fun o => by rw [(below_new w1 o).cell (World.block_lt_of_cell? w1 _ q4)]; exact q4
  have n5 : ∀ o, (w1.alloc o).cell? ⟨b, off + j * 6 + 5, none⟩ = some (.string m6) := fun o => by rw [(below_new w1 o).cell (World.block_lt_of_cell? w1 _ q5)]; exact q5
  have f0' : ∀ o o', ((w1.alloc o).alloc o').cell? ⟨g, 0, none⟩ = some (.int .i64 kd) := fun o o' => ((G1.out.alloc o).alloc o').cell 0
  have f3' : ∀ o o', ((w1.alloc o).alloc o').cell? ⟨g, 3, none⟩ = some (.int .i64 c1) := fun o o' => ((G1.out.alloc o).alloc o').cell 3
  have f4' : ∀ o o', ((w1.alloc o).alloc o').cell? ⟨g, 4, none⟩ = some (.int .i64 c2) := fun o o' => ((G1.out.alloc o).alloc o').cell 4
  have f7' : ∀ o o', ((w1.alloc o).alloc o').cell? ⟨g, 7, none⟩ = some (.string s) := fun o o' => ((G1.out.alloc o).alloc o').cell 7
  have f8' : ∀ o o', ((w1.alloc o).alloc o').cell? ⟨g, 8, none⟩ = some (.string t) := fun o o' => ((G1.out.alloc o).alloc o').cell 8
  go_wp2_with fail
  have CU := runder_any l (0, e2) (c1, c2) (some ⟨b, off, none⟩) n c ((w1.alloc (.cells #[.int .i64 0, .int .i64 e2] 24)).alloc (.cells #[.int .i64 m1, .int .i64 m2, .int .i64 m3, .int .i64 m4, .string m5, .string m6] 62)) (by omega) (N1.out.below (below_step (below_new w1 _) (Nat.le_refl _) (below_new _ _)))
  rw [HU.out] at CU
  refine CU.mono ?_
  clear CU
  rintro e w3 ⟨rfl, hb3⟩
  have hb13 : Hid (Below w1.heap.size w1 w3) := below_step (below_step (below_new w1 _) (Nat.le_refl _) (below_new _ _)) (Nat.le_refl _) hb3
  clear hb3
  go_wp2
  go_ret
  exact ⟨.slice (some ⟨b, off, none⟩) n c, rfl, by rw [HL.out]; exact ⟨_, _, by rw [HLN.out], by rw [HLN.out]; exact N1.out.below hb13.out⟩, below_step HB1.out LG.out hb13.out, adr_same⟩

set_option maxRecDepth 100000 in
set_option maxHeartbeats 4000000 in
theorem rdo_oxm (l : List NodeT) (kd a1 a2 c1 c2 e2 : Int) (s t : ByteArray) (a : Option Addr) (n c j : Nat) (w : World) (hn : n ≤ 65535) (HI : Hid (NodesAt w a n l)) (HR : Hid (FindE l (c1, c2) (j : Int))) (k1 : ¬ kd = 1) (k3 : ¬ kd = 3) (k4 : ¬ kd = 4) (k5 : ¬ kd = 5) (hj : j < n) (HU : Hid (underF l (c1, c2) (n + 1) (0, e2) = false)) :
    Calls Tryd.prog 17 #[.slice a n c, .agg #[.int .i64 kd, .int .i64 a1, .int .i64 a2, .int .i64 c1, .int .i64 c2, .int .i64 0, .int .i64 e2, .string s, .string t]] w fun e w' => ∃ v, e = .returned v ∧ NodesV w' v (withP l ((nL l j).1, (0, e2), (nL l j).2.2.1, (nL l j).2.2.2)) ∧ Below w.heap.size w w' ∧ AdrV a n w.heap.size v := by
  have hln : l.length = n := HI.out.1
  have HLN : Hid (l.length = n) := hln
  clear hln
  have j0 : (j : Int) < (n : Int) := by omega
  have j1 : ¬ ((j : Int) < 0) := by omega
  have j2 : decide ((j : Int) < 0) = false := by simp
  have j3 : decide ((0 : Int) ≤ (j : Int)) = true := by simp
  have gk1 : (kd == 1) = false := by rw [beq_eq_false_iff_ne]; exact k1
  have gk3 : (kd == 3) = false := by rw [beq_eq_false_iff_ne]; exact k3
  have gk4 : (kd == 4) = false := by rw [beq_eq_false_iff_ne]; exact k4
  have gk5 : (kd == 5) = false := by rw [beq_eq_false_iff_ne]; exact k5
  obtain ⟨Y, hY⟩ : ∃ Y, Y = nL l j := ⟨_, rfl⟩
  rw [← hY]
  obtain ⟨⟨m1, m2⟩, ⟨m3, m4⟩, m5, m6⟩ := Y
  obtain ⟨L, HL⟩ : ∃ L, Hid (L = withP l ((m1, m2), (0, e2), m5, m6)) := ⟨_, rfl⟩
  show Calls _ _ _ _ fun e w' => ∃ v, e = .returned v ∧ NodesV w' v (withP l ((m1, m2), (0, e2), m5, m6)) ∧ Below w.heap.size w w' ∧ AdrV a n w.heap.size v
  rw [← HL.out]
  have HYY : Hid (((m1, m2), (m3, m4), m5, m6) = nL l j) := hY
  clear hY
  go_enter Tryd.func17, Tryd.ntmps17
  go_wp2_with fail
  generalize hq : World.alloc w _ = w0
  have hb0 : Hid (Below w.heap.size w w0) := by rw [← hq]; exact below_new w _
  have G0 : Hid (Blk w0 30 w.heap.size #[.int .i64 kd, .int .i64 a1, .int .i64 a2, .int .i64 c1, .int .i64 c2, .int .i64 0, .int .i64 e2, .string s, .string t]) := by show Blk _ _ _ _; rw [← hq]; exact Blk.new _ _ _
  have N0 : Hid (NodesAt w0 a n l) := HI.out.below hb0.out
  obtain ⟨g, hg⟩ : ∃ g, g = w.heap.size := ⟨_, rfl⟩
  rw [← hg] at G0 ⊢
  have LG : Hid (w.heap.size ≤ w.heap.size) := Nat.le_refl _
  clear hq HI hg
  refine (rfind_any l (c1, c2) (j : Int) HR.out a n c w0 (by omega) N0.out).mono ?_
  rintro e w1 ⟨rfl, hb1⟩
  have HB1 : Hid (Below w.heap.size w w1) := below_step hb0.out LG.out hb1
  have G1 : Hid (Blk w1 30 g #[.int .i64 kd, .int .i64 a1, .int .i64 a2, .int .i64 c1, .int .i64 c2, .int .i64 0, .int .i64 e2, .string s, .string t]) := G0.out.on hb1
  have N1 : Hid (NodesAt w1 a n l) := N0.out.below hb1
  clear hb1 hb0 G0 N0 HR
  have g5 : w1.cell? ⟨g, 5, none⟩ = some (.int .i64 0) := G1.out.cell 5
  have g6 : w1.cell? ⟨g, 6, none⟩ = some (.int .i64 e2) := G1.out.cell 6
  have f0 : ∀ o, (w1.alloc o).cell? ⟨g, 0, none⟩ = some (.int .i64 kd) := fun o => (G1.out.alloc o).cell 0
  have f3 : ∀ o, (w1.alloc o).cell? ⟨g, 3, none⟩ = some (.int .i64 c1) := fun o => (G1.out.alloc o).cell 3
  have f4 : ∀ o, (w1.alloc o).cell? ⟨g, 4, none⟩ = some (.int .i64 c2) := fun o => (G1.out.alloc o).cell 4
  have f7 : ∀ o, (w1.alloc o).cell? ⟨g, 7, none⟩ = some (.string s) := fun o => (G1.out.alloc o).cell 7
  have f8 : ∀ o, (w1.alloc o).cell? ⟨g, 8, none⟩ = some (.string t) := fun o => (G1.out.alloc o).cell 8
  obtain ⟨b, off, rfl, _⟩ := N1.out.2.some (by omega)
  obtain ⟨q0, q1, q2, q3, q4, q5⟩ := N1.out.cells j hj
  rw [← HYY.out] at q0 q1 q2 q3 q4 q5
  have n0 : ∀ o, (w1.alloc o).cell? ⟨b, off + j * 6, none⟩ = some (.int .i64 m1) := fun o => by rw [(below_new w1 o).cell (World.block_lt_of_cell? w1 _ q0)]; exact q0
  have n1 : ∀ o, (w1.alloc o).cell? ⟨b, off + j * 6 + 1, none⟩ = some (.int .i64 m2) := fun o => by rw [(below_new w1 o).cell (World.block_lt_of_cell? w1 _ q1)]; exact q1
  have n2 : ∀ o, (w1.alloc o).cell? ⟨b, off + j * 6 + 2, none⟩ = some (.int .i64 m3) := fun o => by rw [(below_new w1 o).cell (World.block_lt_of_cell? w1 _ q2)]; exact q2
  have n3 : ∀ o, (w1.alloc o).cell? ⟨b, off + j * 6 + 3, none⟩ = some (.int .i64 m4) := fun o => by rw [(below_new w1 o).cell (World.block_lt_of_cell? w1 _ q3)]; exact q3
  have n4 : ∀ o, (w1.alloc o).cell? ⟨b, off + j * 6 + 4, none⟩ = some (.string m5) := fun o => by rw [(below_new w1 o).cell (World.block_lt_of_cell? w1 _ q4)]; exact q4
  have n5 : ∀ o, (w1.alloc o).cell? ⟨b, off + j * 6 + 5, none⟩ = some (.string m6) := fun o => by rw [(below_new w1 o).cell (World.block_lt_of_cell? w1 _ q5)]; exact q5
  have f0' : ∀ o o', ((w1.alloc o).alloc o').cell? ⟨g, 0, none⟩ = some (.int .i64 kd) := fun o o' => ((G1.out.alloc o).alloc o').cell 0
  have f3' : ∀ o o', ((w1.alloc o).alloc o').cell? ⟨g, 3, none⟩ = some (.int .i64 c1) := fun o o' => ((G1.out.alloc o).alloc o').cell 3
  have f4' : ∀ o o', ((w1.alloc o).alloc o').cell? ⟨g, 4, none⟩ = some (.int .i64 c2) := fun o o' => ((G1.out.alloc o).alloc o').cell 4
  have f7' : ∀ o o', ((w1.alloc o).alloc o').cell? ⟨g, 7, none⟩ = some (.string s) := fun o o' => ((G1.out.alloc o).alloc o').cell 7
  have f8' : ∀ o o', ((w1.alloc o).alloc o').cell? ⟨g, 8, none⟩ = some (.string t) := fun o o' => ((G1.out.alloc o).alloc o').cell 8
  go_wp2_with fail
  have CU := runder_any l (0, e2) (c1, c2) (some ⟨b, off, none⟩) n c ((w1.alloc (.cells #[.int .i64 0, .int .i64 e2] 24)).alloc (.cells #[.int .i64 m1, .int .i64 m2, .int .i64 m3, .int .i64 m4, .string m5, .string m6] 62)) (by omega) (N1.out.below (below_step (below_new w1 _) (Nat.le_refl _) (below_new _ _)))
  rw [HU.out] at CU
  refine CU.mono ?_
  clear CU
  rintro e w3 ⟨rfl, hb3⟩
  have hb13 : Hid (Below w1.heap.size w1 w3) := below_step (below_step (below_new w1 _) (Nat.le_refl _) (below_new _ _)) (Nat.le_refl _) hb3
  obtain ⟨k2, hk2⟩ : ∃ k, k = (w1.alloc (.cells #[.int .i64 0, .int .i64 e2] 24)).heap.size := ⟨_, rfl⟩
  have K3 : Hid (Blk w3 62 k2 #[.int .i64 m1, .int .i64 m2, .int .i64 m3, .int .i64 m4, .string m5, .string m6]) := (Blk.new' _ _ _ _ hk2.symm).on hb3
  have P3 : Hid (Blk w3 24 w1.heap.size #[.int .i64 0, .int .i64 e2]) := ((Blk.new w1 _ _).alloc _).on hb3
  have Lk : Hid (w1.heap.size ≤ k2) := by show _ ≤ _; rw [hk2]; simp
  have hk3 : w1.heap.size + 1 = k2 := by rw [hk2]; simp
  try rw [hk3]
  clear hk3
  clear hk2 hb3
  have pp0 : w3.cell? ⟨w1.heap.size, 0, none⟩ = some (.int .i64 0) := P3.out.cell 0
  have pp1 : w3.cell? ⟨w1.heap.size, 1, none⟩ = some (.int .i64 e2) := P3.out.cell 1
  have kc0 : w3.cell? ⟨k2, 0, none⟩ = some (.int .i64 m1) := K3.out.cell 0
  have kc1 : w3.cell? ⟨k2, 1, none⟩ = some (.int .i64 m2) := K3.out.cell 1
  have kc2 : w3.cell? ⟨k2, 2, none⟩ = some (.int .i64 m3) := K3.out.cell 2
  have kc3 : w3.cell? ⟨k2, 3, none⟩ = some (.int .i64 m4) := K3.out.cell 3
  have kc4 : w3.cell? ⟨k2, 4, none⟩ = some (.string m5) := K3.out.cell 4
  have kc5 : w3.cell? ⟨k2, 5, none⟩ = some (.string m6) := K3.out.cell 5
  have fz2 := K3.out.free 2
  have fz3 := K3.out.free 3
  go_wp2_with fail
  refine (rwithV l ((m1, m2), (0, e2), m5, m6) (some ⟨b, off, none⟩) n c _ (by omega) (N1.out.below ((hb13.out.setCell (p := ⟨k2, 2, none⟩) Lk.out _).setCell (p := ⟨k2, 3, none⟩) Lk.out _))).mono ?_
  rintro e w4 ⟨v, rfl, hv, hb4, ha4⟩
  have HV : Hid (NodesV w4 v L) := by rw [HL.out]; exact hv
  have B4 : Hid (Below w.heap.size w w4) := below_step (below_step HB1.out LG.out ((hb13.out.setCell (p := ⟨k2, 2, none⟩) Lk.out _).setCell (p := ⟨k2, 3, none⟩) Lk.out _)) LG.out hb4
  have HA : Hid (AdrV _ n w.heap.size v) := ha4.less (below_step HB1.out LG.out ((hb13.out.setCell (p := ⟨k2, 2, none⟩) Lk.out _).setCell (p := ⟨k2, 3, none⟩) Lk.out _)).size
  clear hv hb4 ha4
  go_wp2
  go_ret
  exact ⟨v, rfl, HV.out, B4.out, HA.out⟩

set_option maxRecDepth 100000 in
set_option maxHeartbeats 4000000 in
theorem rdo_opn (l : List NodeT) (kd a1 a2 c1 c2 e1 e2 : Int) (s t : ByteArray) (a : Option Addr) (n c : Nat) (w : World) (hn : n ≤ 65535) (HI : Hid (NodesAt w a n l)) (HR : Hid (FindE l (c1, c2) (-1))) (k1 : ¬ kd = 1) (k3 : ¬ kd = 3) (k4 : ¬ kd = 4) (k5 : ¬ kd = 5) (hx : ¬ e1 = 0) (r2 : Int) (HR2 : Hid (FindE l (e1, e2) r2)) :
    Calls Tryd.prog 17 #[.slice a n c, .agg #[.int .i64 kd, .int .i64 a1, .int .i64 a2, .int .i64 c1, .int .i64 c2, .int .i64 e1, .int .i64 e2, .string s, .string t]] w fun e w' => ∃ v, e = .returned v ∧ NodesV w' v (l) ∧ Below w.heap.size w w' ∧ AdrV a n w.heap.size v := by
  have hln : l.length = n := HI.out.1
  have HLN : Hid (l.length = n) := hln
  clear hln
  have gx : (e1 == 0) = false := by rw [beq_eq_false_iff_ne]; exact hx
  have gk1 : (kd == 1) = false := by rw [beq_eq_false_iff_ne]; exact k1
  have gk3 : (kd == 3) = false := by rw [beq_eq_false_iff_ne]; exact k3
  have gk4 : (kd == 4) = false := by rw [beq_eq_false_iff_ne]; exact k4
  have gk5 : (kd == 5) = false := by rw [beq_eq_false_iff_ne]; exact k5
  obtain ⟨L, HL⟩ : ∃ L, Hid (L = l) := ⟨_, rfl⟩
  show Calls _ _ _ _ fun e w' => ∃ v, e = .returned v ∧ NodesV w' v (l) ∧ Below w.heap.size w w' ∧ AdrV a n w.heap.size v
  rw [← HL.out]
  go_enter Tryd.func17, Tryd.ntmps17
  go_wp2_with fail
  generalize hq : World.alloc w _ = w0
  have hb0 : Hid (Below w.heap.size w w0) := by rw [← hq]; exact below_new w _
  have G0 : Hid (Blk w0 30 w.heap.size #[.int .i64 kd, .int .i64 a1, .int .i64 a2, .int .i64 c1, .int .i64 c2, .int .i64 e1, .int .i64 e2, .string s, .string t]) := by show Blk _ _ _ _; rw [← hq]; exact Blk.new _ _ _
  have N0 : Hid (NodesAt w0 a n l) := HI.out.below hb0.out
  obtain ⟨g, hg⟩ : ∃ g, g = w.heap.size := ⟨_, rfl⟩
  rw [← hg] at G0 ⊢
  have LG : Hid (w.heap.size ≤ w.heap.size) := Nat.le_refl _
  clear hq HI hg
  refine (rfind_any l (c1, c2) (-1) HR.out a n c w0 (by omega) N0.out).mono ?_
  rintro e w1 ⟨rfl, hb1⟩
  have HB1 : Hid (Below w.heap.size w w1) := below_step hb0.out LG.out hb1
  have G1 : Hid (Blk w1 30 g #[.int .i64 kd, .int .i64 a1, .int .i64 a2, .int .i64 c1, .int .i64 c2, .int .i64 e1, .int .i64 e2, .string s, .string t]) := G0.out.on hb1
  have N1 : Hid (NodesAt w1 a n l) := N0.out.below hb1
  clear hb1 hb0 G0 N0 HR
  have g5 : w1.cell? ⟨g, 5, none⟩ = some (.int .i64 e1) := G1.out.cell 5
  have g6 : w1.cell? ⟨g, 6, none⟩ = some (.int .i64 e2) := G1.out.cell 6
  have f0 : ∀ o, (w1.alloc o).cell? ⟨g, 0, none⟩ = some (.int .i64 kd) := fun o => (G1.out.alloc o).cell 0
  have f3 : ∀ o, (w1.alloc o).cell? ⟨g, 3, none⟩ = some (.int .i64 c1) := fun o => (G1.out.alloc o).cell 3
  have f4 : ∀ o, (w1.alloc o).cell? ⟨g, 4, none⟩ = some (.int .i64 c2) := fun o => (G1.out.alloc o).cell 4
  have f7 : ∀ o, (w1.alloc o).cell? ⟨g, 7, none⟩ = some (.string s) := fun o => (G1.out.alloc o).cell 7
  have f8 : ∀ o, (w1.alloc o).cell? ⟨g, 8, none⟩ = some (.string t) := fun o => (G1.out.alloc o).cell 8
  go_wp2_with fail
  refine (rfind_any l (e1, e2) r2 HR2.out a n c _ (by omega) (N1.out.below (below_new _ _))).mono ?_
  rintro e w2 ⟨rfl, hb2⟩
  have hbw : Hid (Below w1.heap.size w1 w2) := below_step (below_new w1 _) (Nat.le_refl _) hb2
  have P2 : Hid (Blk w2 24 w1.heap.size #[.int .i64 e1, .int .i64 e2]) := (Blk.new w1 _ _).on hb2
  have G2 := G1.out.on hbw.out
  have f0' : w2.cell? ⟨g, 0, none⟩ = some (.int .i64 kd) := G2.cell 0
  have f0'' : ∀ o, (w2.alloc o).cell? ⟨g, 0, none⟩ = some (.int .i64 kd) := fun o => (G2.alloc o).cell 0
  have f3' : w2.cell? ⟨g, 3, none⟩ = some (.int .i64 c1) := G2.cell 3
  have f3'' : ∀ o, (w2.alloc o).cell? ⟨g, 3, none⟩ = some (.int .i64 c1) := fun o => (G2.alloc o).cell 3
  have f4' : w2.cell? ⟨g, 4, none⟩ = some (.int .i64 c2) := G2.cell 4
  have f4'' : ∀ o, (w2.alloc o).cell? ⟨g, 4, none⟩ = some (.int .i64 c2) := fun o => (G2.alloc o).cell 4
  have f7' : w2.cell? ⟨g, 7, none⟩ = some (.string s) := G2.cell 7
  have f7'' : ∀ o, (w2.alloc o).cell? ⟨g, 7, none⟩ = some (.string s) := fun o => (G2.alloc o).cell 7
  have f8' : w2.cell? ⟨g, 8, none⟩ = some (.string t) := G2.cell 8
  have f8'' : ∀ o, (w2.alloc o).cell? ⟨g, 8, none⟩ = some (.string t) := fun o => (G2.alloc o).cell 8
  have p0 : w2.cell? ⟨w1.heap.size, 0, none⟩ = some (.int .i64 e1) := P2.out.cell 0
  have p1 : w2.cell? ⟨w1.heap.size, 1, none⟩ = some (.int .i64 e2) := P2.out.cell 1
  have p0' : ∀ o, (w2.alloc o).cell? ⟨w1.heap.size, 0, none⟩ = some (.int .i64 e1) := fun o => (P2.out.alloc o).cell 0
  have p1' : ∀ o, (w2.alloc o).cell? ⟨w1.heap.size, 1, none⟩ = some (.int .i64 e2) := fun o => (P2.out.alloc o).cell 1
  clear hb2 G2
  go_wp2
  go_ret
  exact ⟨.slice a n c, rfl, by rw [HL.out]; exact ⟨_, _, by rw [HLN.out], by rw [HLN.out]; exact N1.out.below hbw.out⟩, below_step HB1.out LG.out hbw.out, adr_same⟩

set_option maxRecDepth 100000 in
set_option maxHeartbeats 4000000 in
theorem rdo_opf (l : List NodeT) (kd a1 a2 c1 c2 e1 e2 : Int) (s t : ByteArray) (a : Option Addr) (n c j : Nat) (w : World) (hn : n ≤ 65535) (HI : Hid (NodesAt w a n l)) (HR : Hid (FindE l (c1, c2) (j : Int))) (k1 : ¬ kd = 1) (k3 : ¬ kd = 3) (k4 : ¬ kd = 4) (k5 : ¬ kd = 5) (hj : j < n) (hx : ¬ e1 = 0) (r2 : Int) (HR2 : Hid (FindE l (e1, e2) r2)) (hr2 : r2 < 0) :
    Calls Tryd.prog 17 #[.slice a n c, .agg #[.int .i64 kd, .int .i64 a1, .int .i64 a2, .int .i64 c1, .int .i64 c2, .int .i64 e1, .int .i64 e2, .string s, .string t]] w fun e w' => ∃ v, e = .returned v ∧ NodesV w' v (l) ∧ Below w.heap.size w w' ∧ AdrV a n w.heap.size v := by
  have hln : l.length = n := HI.out.1
  have HLN : Hid (l.length = n) := hln
  clear hln
  have j0 : (j : Int) < (n : Int) := by omega
  have j1 : ¬ ((j : Int) < 0) := by omega
  have j2 : decide ((j : Int) < 0) = false := by simp
  have j3 : decide ((0 : Int) ≤ (j : Int)) = true := by simp
  have gx : (e1 == 0) = false := by rw [beq_eq_false_iff_ne]; exact hx
  have gr2 : decide (0 ≤ r2) = false := by simp; exact hr2
  have gk1 : (kd == 1) = false := by rw [beq_eq_false_iff_ne]; exact k1
  have gk3 : (kd == 3) = false := by rw [beq_eq_false_iff_ne]; exact k3
  have gk4 : (kd == 4) = false := by rw [beq_eq_false_iff_ne]; exact k4
  have gk5 : (kd == 5) = false := by rw [beq_eq_false_iff_ne]; exact k5
  obtain ⟨Y, hY⟩ : ∃ Y, Y = nL l j := ⟨_, rfl⟩
  obtain ⟨⟨m1, m2⟩, ⟨m3, m4⟩, m5, m6⟩ := Y
  obtain ⟨L, HL⟩ : ∃ L, Hid (L = l) := ⟨_, rfl⟩
  show Calls _ _ _ _ fun e w' => ∃ v, e = .returned v ∧ NodesV w' v (l) ∧ Below w.heap.size w w' ∧ AdrV a n w.heap.size v
  rw [← HL.out]
  have HYY : Hid (((m1, m2), (m3, m4), m5, m6) = nL l j) := hY
  clear hY
  go_enter Tryd.func17, Tryd.ntmps17
  go_wp2_with fail
  generalize hq : World.alloc w _ = w0
  have hb0 : Hid (Below w.heap.size w w0) := by rw [← hq]; exact below_new w _
  have G0 : Hid (Blk w0 30 w.heap.size #[.int .i64 kd, .int .i64 a1, .int .i64 a2, .int .i64 c1, .int .i64 c2, .int .i64 e1, .int .i64 e2, .string s, .string t]) := by show Blk _ _ _ _; rw [← hq]; exact Blk.new _ _ _
  have N0 : Hid (NodesAt w0 a n l) := HI.out.below hb0.out
  obtain ⟨g, hg⟩ : ∃ g, g = w.heap.size := ⟨_, rfl⟩
  rw [← hg] at G0 ⊢
  have LG : Hid (w.heap.size ≤ w.heap.size) := Nat.le_refl _
  clear hq HI hg
  refine (rfind_any l (c1, c2) (j : Int) HR.out a n c w0 (by omega) N0.out).mono ?_
  rintro e w1 ⟨rfl, hb1⟩
  have HB1 : Hid (Below w.heap.size w w1) := below_step hb0.out LG.out hb1
  have G1 : Hid (Blk w1 30 g #[.int .i64 kd, .int .i64 a1, .int .i64 a2, .int .i64 c1, .int .i64 c2, .int .i64 e1, .int .i64 e2, .string s, .string t]) := G0.out.on hb1
  have N1 : Hid (NodesAt w1 a n l) := N0.out.below hb1
  clear hb1 hb0 G0 N0 HR
  have g5 : w1.cell? ⟨g, 5, none⟩ = some (.int .i64 e1) := G1.out.cell 5
  have g6 : w1.cell? ⟨g, 6, none⟩ = some (.int .i64 e2) := G1.out.cell 6
  have f0 : ∀ o, (w1.alloc o).cell? ⟨g, 0, none⟩ = some (.int .i64 kd) := fun o => (G1.out.alloc o).cell 0
  have f3 : ∀ o, (w1.alloc o).cell? ⟨g, 3, none⟩ = some (.int .i64 c1) := fun o => (G1.out.alloc o).cell 3
  have f4 : ∀ o, (w1.alloc o).cell? ⟨g, 4, none⟩ = some (.int .i64 c2) := fun o => (G1.out.alloc o).cell 4
  have f7 : ∀ o, (w1.alloc o).cell? ⟨g, 7, none⟩ = some (.string s) := fun o => (G1.out.alloc o).cell 7
  have f8 : ∀ o, (w1.alloc o).cell? ⟨g, 8, none⟩ = some (.string t) := fun o => (G1.out.alloc o).cell 8
  obtain ⟨b, off, rfl, _⟩ := N1.out.2.some (by omega)
  obtain ⟨q0, q1, q2, q3, q4, q5⟩ := N1.out.cells j hj
  rw [← HYY.out] at q0 q1 q2 q3 q4 q5
  have n0 : ∀ o, (w1.alloc o).cell? ⟨b, off + j * 6, none⟩ = some (.int .i64 m1) := fun o => by rw [(below_new w1 o).cell (World.block_lt_of_cell? w1 _ q0)]; exact q0
  have n1 : ∀ o, (w1.alloc o).cell? ⟨b, off + j * 6 + 1, none⟩ = some (.int .i64 m2) := fun o => by rw [(below_new w1 o).cell (World.block_lt_of_cell? w1 _ q1)]; exact q1
  have n2 : ∀ o, (w1.alloc o).cell? ⟨b, off + j * 6 + 2, none⟩ = some (.int .i64 m3) := fun o => by rw [(below_new w1 o).cell (World.block_lt_of_cell? w1 _ q2)]; exact q2
  have n3 : ∀ o, (w1.alloc o).cell? ⟨b, off + j * 6 + 3, none⟩ = some (.int .i64 m4) := fun o => by rw [(below_new w1 o).cell (World.block_lt_of_cell? w1 _ q3)]; exact q3
  have n4 : ∀ o, (w1.alloc o).cell? ⟨b, off + j * 6 + 4, none⟩ = some (.string m5) := fun o => by rw [(below_new w1 o).cell (World.block_lt_of_cell? w1 _ q4)]; exact q4
  have n5 : ∀ o, (w1.alloc o).cell? ⟨b, off + j * 6 + 5, none⟩ = some (.string m6) := fun o => by rw [(below_new w1 o).cell (World.block_lt_of_cell? w1 _ q5)]; exact q5
  go_wp2_with fail
  refine (rfind_any l (e1, e2) r2 HR2.out (some ⟨b, off, none⟩) n c _ (by omega) (N1.out.below (below_new _ _))).mono ?_
  rintro e w2 ⟨rfl, hb2⟩
  have hbw : Hid (Below w1.heap.size w1 w2) := below_step (below_new w1 _) (Nat.le_refl _) hb2
  have P2 : Hid (Blk w2 24 w1.heap.size #[.int .i64 e1, .int .i64 e2]) := (Blk.new w1 _ _).on hb2
  have G2 := G1.out.on hbw.out
  have f0' : w2.cell? ⟨g, 0, none⟩ = some (.int .i64 kd) := G2.cell 0
  have f0'' : ∀ o, (w2.alloc o).cell? ⟨g, 0, none⟩ = some (.int .i64 kd) := fun o => (G2.alloc o).cell 0
  have f3' : w2.cell? ⟨g, 3, none⟩ = some (.int .i64 c1) := G2.cell 3
  have f3'' : ∀ o, (w2.alloc o).cell? ⟨g, 3, none⟩ = some (.int .i64 c1) := fun o => (G2.alloc o).cell 3
  have f4' : w2.cell? ⟨g, 4, none⟩ = some (.int .i64 c2) := G2.cell 4
  have f4'' : ∀ o, (w2.alloc o).cell? ⟨g, 4, none⟩ = some (.int .i64 c2) := fun o => (G2.alloc o).cell 4
  have f7' : w2.cell? ⟨g, 7, none⟩ = some (.string s) := G2.cell 7
  have f7'' : ∀ o, (w2.alloc o).cell? ⟨g, 7, none⟩ = some (.string s) := fun o => (G2.alloc o).cell 7
  have f8' : w2.cell? ⟨g, 8, none⟩ = some (.string t) := G2.cell 8
  have f8'' : ∀ o, (w2.alloc o).cell? ⟨g, 8, none⟩ = some (.string t) := fun o => (G2.alloc o).cell 8
  have p0 : w2.cell? ⟨w1.heap.size, 0, none⟩ = some (.int .i64 e1) := P2.out.cell 0
  have p1 : w2.cell? ⟨w1.heap.size, 1, none⟩ = some (.int .i64 e2) := P2.out.cell 1
  have p0' : ∀ o, (w2.alloc o).cell? ⟨w1.heap.size, 0, none⟩ = some (.int .i64 e1) := fun o => (P2.out.alloc o).cell 0
  have p1' : ∀ o, (w2.alloc o).cell? ⟨w1.heap.size, 1, none⟩ = some (.int .i64 e2) := fun o => (P2.out.alloc o).cell 1
  have n0' : w2.cell? ⟨b, off + j * 6, none⟩ = some (.int .i64 m1) := by rw [hbw.out.cell (World.block_lt_of_cell? w1 _ q0)]; exact q0
  have n1' : w2.cell? ⟨b, off + j * 6 + 1, none⟩ = some (.int .i64 m2) := by rw [hbw.out.cell (World.block_lt_of_cell? w1 _ q1)]; exact q1
  have n2' : w2.cell? ⟨b, off + j * 6 + 2, none⟩ = some (.int .i64 m3) := by rw [hbw.out.cell (World.block_lt_of_cell? w1 _ q2)]; exact q2
  have n3' : w2.cell? ⟨b, off + j * 6 + 3, none⟩ = some (.int .i64 m4) := by rw [hbw.out.cell (World.block_lt_of_cell? w1 _ q3)]; exact q3
  have n4' : w2.cell? ⟨b, off + j * 6 + 4, none⟩ = some (.string m5) := by rw [hbw.out.cell (World.block_lt_of_cell? w1 _ q4)]; exact q4
  have n5' : w2.cell? ⟨b, off + j * 6 + 5, none⟩ = some (.string m6) := by rw [hbw.out.cell (World.block_lt_of_cell? w1 _ q5)]; exact q5
  clear hb2 G2
  go_wp2
  go_ret
  exact ⟨.slice (some ⟨b, off, none⟩) n c, rfl, by rw [HL.out]; exact ⟨_, _, by rw [HLN.out], by rw [HLN.out]; exact N1.out.below (below_step hbw.out (Nat.le_refl _) (below_new _ _))⟩, below_step HB1.out LG.out (below_step hbw.out (Nat.le_refl _) (below_new _ _)), adr_same⟩

set_option maxRecDepth 100000 in
set_option maxHeartbeats 4000000 in
theorem rdo_opu (l : List NodeT) (kd a1 a2 c1 c2 e1 e2 : Int) (s t : ByteArray) (a : Option Addr) (n c j : Nat) (w : World) (hn : n ≤ 65535) (HI : Hid (NodesAt w a n l)) (HR : Hid (FindE l (c1, c2) (j : Int))) (k1 : ¬ kd = 1) (k3 : ¬ kd = 3) (k4 : ¬ kd = 4) (k5 : ¬ kd = 5) (hj : j < n) (hx : ¬ e1 = 0) (r2 : Int) (HR2 : Hid (FindE l (e1, e2) r2)) (hr2 : 0 ≤ r2) (HU : Hid (underF l (c1, c2) (n + 1) (e1, e2) = true)) :
    Calls Tryd.prog 17 #[.slice a n c, .agg #[.int .i64 kd, .int .i64 a1, .int .i64 a2, .int .i64 c1, .int .i64 c2, .int .i64 e1, .int .i64 e2, .string s, .string t]] w fun e w' => ∃ v, e = .returned v ∧ NodesV w' v (l) ∧ Below w.heap.size w w' ∧ AdrV a n w.heap.size v := by
  have hln : l.length = n := HI.out.1
  have HLN : Hid (l.length = n) := hln
  clear hln
  have j0 : (j : Int) < (n : Int) := by omega
  have j1 : ¬ ((j : Int) < 0) := by omega
  have j2 : decide ((j : Int) < 0) = false := by simp
  have j3 : decide ((0 : Int) ≤ (j : Int)) = true := by simp
  have gx : (e1 == 0) = false := by rw [beq_eq_false_iff_ne]; exact hx
  have gr2 : decide (0 ≤ r2) = true := by simp; exact hr2
  have gk1 : (kd == 1) = false := by rw [beq_eq_false_iff_ne]; exact k1
  have gk3 : (kd == 3) = false := by rw [beq_eq_false_iff_ne]; exact k3
  have gk4 : (kd == 4) = false := by rw [beq_eq_false_iff_ne]; exact k4
  have gk5 : (kd == 5) = false := by rw [beq_eq_false_iff_ne]; exact k5
  obtain ⟨Y, hY⟩ : ∃ Y, Y = nL l j := ⟨_, rfl⟩
  obtain ⟨⟨m1, m2⟩, ⟨m3, m4⟩, m5, m6⟩ := Y
  obtain ⟨L, HL⟩ : ∃ L, Hid (L = l) := ⟨_, rfl⟩
  show Calls _ _ _ _ fun e w' => ∃ v, e = .returned v ∧ NodesV w' v (l) ∧ Below w.heap.size w w' ∧ AdrV a n w.heap.size v
  rw [← HL.out]
  have HYY : Hid (((m1, m2), (m3, m4), m5, m6) = nL l j) := hY
  clear hY
  go_enter Tryd.func17, Tryd.ntmps17
  go_wp2_with fail
  generalize hq : World.alloc w _ = w0
  have hb0 : Hid (Below w.heap.size w w0) := by rw [← hq]; exact below_new w _
  have G0 : Hid (Blk w0 30 w.heap.size #[.int .i64 kd, .int .i64 a1, .int .i64 a2, .int .i64 c1, .int .i64 c2, .int .i64 e1, .int .i64 e2, .string s, .string t]) := by show Blk _ _ _ _; rw [← hq]; exact Blk.new _ _ _
  have N0 : Hid (NodesAt w0 a n l) := HI.out.below hb0.out
  obtain ⟨g, hg⟩ : ∃ g, g = w.heap.size := ⟨_, rfl⟩
  rw [← hg] at G0 ⊢
  have LG : Hid (w.heap.size ≤ w.heap.size) := Nat.le_refl _
  clear hq HI hg
  refine (rfind_any l (c1, c2) (j : Int) HR.out a n c w0 (by omega) N0.out).mono ?_
  rintro e w1 ⟨rfl, hb1⟩
  have HB1 : Hid (Below w.heap.size w w1) := below_step hb0.out LG.out hb1
  have G1 : Hid (Blk w1 30 g #[.int .i64 kd, .int .i64 a1, .int .i64 a2, .int .i64 c1, .int .i64 c2, .int .i64 e1, .int .i64 e2, .string s, .string t]) := G0.out.on hb1
  have N1 : Hid (NodesAt w1 a n l) := N0.out.below hb1
  clear hb1 hb0 G0 N0 HR
  have g5 : w1.cell? ⟨g, 5, none⟩ = some (.int .i64 e1) := G1.out.cell 5
  have g6 : w1.cell? ⟨g, 6, none⟩ = some (.int .i64 e2) := G1.out.cell 6
  have f0 : ∀ o, (w1.alloc o).cell? ⟨g, 0, none⟩ = some (.int .i64 kd) := fun o => (G1.out.alloc o).cell 0
  have f3 : ∀ o, (w1.alloc o).cell? ⟨g, 3, none⟩ = some (.int .i64 c1) := fun o => (G1.out.alloc o).cell 3
  have f4 : ∀ o, (w1.alloc o).cell? ⟨g, 4, none⟩ = some (.int .i64 c2) := fun o => (G1.out.alloc o).cell 4
  have f7 : ∀ o, (w1.alloc o).cell? ⟨g, 7, none⟩ = some (.string s) := fun o => (G1.out.alloc o).cell 7
  have f8 : ∀ o, (w1.alloc o).cell? ⟨g, 8, none⟩ = some (.string t) := fun o => (G1.out.alloc o).cell 8
  obtain ⟨b, off, rfl, _⟩ := N1.out.2.some (by omega)
  obtain ⟨q0, q1, q2, q3, q4, q5⟩ := N1.out.cells j hj
  rw [← HYY.out] at q0 q1 q2 q3 q4 q5
  have n0 : ∀ o, (w1.alloc o).cell? ⟨b, off + j * 6, none⟩ = some (.int .i64 m1) := fun o => by rw [(below_new w1 o).cell (World.block_lt_of_cell? w1 _ q0)]; exact q0
  have n1 : ∀ o, (w1.alloc o).cell? ⟨b, off + j * 6 + 1, none⟩ = some (.int .i64 m2) := fun o => by rw [(below_new w1 o).cell (World.block_lt_of_cell? w1 _ q1)]; exact q1
  have n2 : ∀ o, (w1.alloc o).cell? ⟨b, off + j * 6 + 2, none⟩ = some (.int .i64 m3) := fun o => by rw [(below_new w1 o).cell (World.block_lt_of_cell? w1 _ q2)]; exact q2
  have n3 : ∀ o, (w1.alloc o).cell? ⟨b, off + j * 6 + 3, none⟩ = some (.int .i64 m4) := fun o => by rw [(below_new w1 o).cell (World.block_lt_of_cell? w1 _ q3)]; exact q3
  have n4 : ∀ o, (w1.alloc o).cell? ⟨b, off + j * 6 + 4, none⟩ = some (.string m5) := fun o => by rw [(below_new w1 o).cell (World.block_lt_of_cell? w1 _ q4)]; exact q4
  have n5 : ∀ o, (w1.alloc o).cell? ⟨b, off + j * 6 + 5, none⟩ = some (.string m6) := fun o => by rw [(below_new w1 o).cell (World.block_lt_of_cell? w1 _ q5)]; exact q5
  go_wp2_with fail
  refine (rfind_any l (e1, e2) r2 HR2.out (some ⟨b, off, none⟩) n c _ (by omega) (N1.out.below (below_new _ _))).mono ?_
  rintro e w2 ⟨rfl, hb2⟩
  have hbw : Hid (Below w1.heap.size w1 w2) := below_step (below_new w1 _) (Nat.le_refl _) hb2
  have P2 : Hid (Blk w2 24 w1.heap.size #[.int .i64 e1, .int .i64 e2]) := (Blk.new w1 _ _).on hb2
  have G2 := G1.out.on hbw.out
  have f0' : w2.cell? ⟨g, 0, none⟩ = some (.int .i64 kd) := G2.cell 0
  have f0'' : ∀ o, (w2.alloc o).cell? ⟨g, 0, none⟩ = some (.int .i64 kd) := fun o => (G2.alloc o).cell 0
  have f3' : w2.cell? ⟨g, 3, none⟩ = some (.int .i64 c1) := G2.cell 3
  have f3'' : ∀ o, (w2.alloc o).cell? ⟨g, 3, none⟩ = some (.int .i64 c1) := fun o => (G2.alloc o).cell 3
  have f4' : w2.cell? ⟨g, 4, none⟩ = some (.int .i64 c2) := G2.cell 4
  have f4'' : ∀ o, (w2.alloc o).cell? ⟨g, 4, none⟩ = some (.int .i64 c2) := fun o => (G2.alloc o).cell 4
  have f7' : w2.cell? ⟨g, 7, none⟩ = some (.string s) := G2.cell 7
  have f7'' : ∀ o, (w2.alloc o).cell? ⟨g, 7, none⟩ = some (.string s) := fun o => (G2.alloc o).cell 7
  have f8' : w2.cell? ⟨g, 8, none⟩ = some (.string t) := G2.cell 8
  have f8'' : ∀ o, (w2.alloc o).cell? ⟨g, 8, none⟩ = some (.string t) := fun o => (G2.alloc o).cell 8
  have p0 : w2.cell? ⟨w1.heap.size, 0, none⟩ = some (.int .i64 e1) := P2.out.cell 0
  have p1 : w2.cell? ⟨w1.heap.size, 1, none⟩ = some (.int .i64 e2) := P2.out.cell 1
  have p0' : ∀ o, (w2.alloc o).cell? ⟨w1.heap.size, 0, none⟩ = some (.int .i64 e1) := fun o => (P2.out.alloc o).cell 0
  have p1' : ∀ o, (w2.alloc o).cell? ⟨w1.heap.size, 1, none⟩ = some (.int .i64 e2) := fun o => (P2.out.alloc o).cell 1
  have n0' : w2.cell? ⟨b, off + j * 6, none⟩ = some (.int .i64 m1) := by rw [hbw.out.cell (World.block_lt_of_cell? w1 _ q0)]; exact q0
  have n1' : w2.cell? ⟨b, off + j * 6 + 1, none⟩ = some (.int .i64 m2) := by rw [hbw.out.cell (World.block_lt_of_cell? w1 _ q1)]; exact q1
  have n2' : w2.cell? ⟨b, off + j * 6 + 2, none⟩ = some (.int .i64 m3) := by rw [hbw.out.cell (World.block_lt_of_cell? w1 _ q2)]; exact q2
  have n3' : w2.cell? ⟨b, off + j * 6 + 3, none⟩ = some (.int .i64 m4) := by rw [hbw.out.cell (World.block_lt_of_cell? w1 _ q3)]; exact q3
  have n4' : w2.cell? ⟨b, off + j * 6 + 4, none⟩ = some (.string m5) := by rw [hbw.out.cell (World.block_lt_of_cell? w1 _ q4)]; exact q4
  have n5' : w2.cell? ⟨b, off + j * 6 + 5, none⟩ = some (.string m6) := by rw [hbw.out.cell (World.block_lt_of_cell? w1 _ q5)]; exact q5
  clear hb2 G2
  go_wp2_with fail
  have CU := runder_any l (e1, e2) (c1, c2) (some ⟨b, off, none⟩) n c ((w2).alloc (.cells #[.int .i64 m1, .int .i64 m2, .int .i64 m3, .int .i64 m4, .string m5, .string m6] 62)) (by omega) (N1.out.below (below_step hbw.out (Nat.le_refl _) (below_new _ _)))
  rw [HU.out] at CU
  refine CU.mono ?_
  clear CU
  rintro e w3 ⟨rfl, hb3⟩
  have hb13 : Hid (Below w1.heap.size w1 w3) := below_step (below_step hbw.out (Nat.le_refl _) (below_new _ _)) (Nat.le_refl _) hb3
  clear hb3
  go_wp2
  go_ret
  exact ⟨.slice (some ⟨b, off, none⟩) n c, rfl, by rw [HL.out]; exact ⟨_, _, by rw [HLN.out], by rw [HLN.out]; exact N1.out.below hb13.out⟩, below_step HB1.out LG.out hb13.out, adr_same⟩

set_option maxRecDepth 100000 in
set_option maxHeartbeats 4000000 in
theorem rdo_opm (l : List NodeT) (kd a1 a2 c1 c2 e1 e2 : Int) (s t : ByteArray) (a : Option Addr) (n c j : Nat) (w : World) (hn : n ≤ 65535) (HI : Hid (NodesAt w a n l)) (HR : Hid (FindE l (c1, c2) (j : Int))) (k1 : ¬ kd = 1) (k3 : ¬ kd = 3) (k4 : ¬ kd = 4) (k5 : ¬ kd = 5) (hj : j < n) (hx : ¬ e1 = 0) (r2 : Int) (HR2 : Hid (FindE l (e1, e2) r2)) (hr2 : 0 ≤ r2) (HU : Hid (underF l (c1, c2) (n + 1) (e1, e2) = false)) :
    Calls Tryd.prog 17 #[.slice a n c, .agg #[.int .i64 kd, .int .i64 a1, .int .i64 a2, .int .i64 c1, .int .i64 c2, .int .i64 e1, .int .i64 e2, .string s, .string t]] w fun e w' => ∃ v, e = .returned v ∧ NodesV w' v (withP l ((nL l j).1, (e1, e2), (nL l j).2.2.1, (nL l j).2.2.2)) ∧ Below w.heap.size w w' ∧ AdrV a n w.heap.size v := by
  have hln : l.length = n := HI.out.1
  have HLN : Hid (l.length = n) := hln
  clear hln
  have j0 : (j : Int) < (n : Int) := by omega
  have j1 : ¬ ((j : Int) < 0) := by omega
  have j2 : decide ((j : Int) < 0) = false := by simp
  have j3 : decide ((0 : Int) ≤ (j : Int)) = true := by simp
  have gx : (e1 == 0) = false := by rw [beq_eq_false_iff_ne]; exact hx
  have gr2 : decide (0 ≤ r2) = true := by simp; exact hr2
  have gk1 : (kd == 1) = false := by rw [beq_eq_false_iff_ne]; exact k1
  have gk3 : (kd == 3) = false := by rw [beq_eq_false_iff_ne]; exact k3
  have gk4 : (kd == 4) = false := by rw [beq_eq_false_iff_ne]; exact k4
  have gk5 : (kd == 5) = false := by rw [beq_eq_false_iff_ne]; exact k5
  obtain ⟨Y, hY⟩ : ∃ Y, Y = nL l j := ⟨_, rfl⟩
  rw [← hY]
  obtain ⟨⟨m1, m2⟩, ⟨m3, m4⟩, m5, m6⟩ := Y
  obtain ⟨L, HL⟩ : ∃ L, Hid (L = withP l ((m1, m2), (e1, e2), m5, m6)) := ⟨_, rfl⟩
  show Calls _ _ _ _ fun e w' => ∃ v, e = .returned v ∧ NodesV w' v (withP l ((m1, m2), (e1, e2), m5, m6)) ∧ Below w.heap.size w w' ∧ AdrV a n w.heap.size v
  rw [← HL.out]
  have HYY : Hid (((m1, m2), (m3, m4), m5, m6) = nL l j) := hY
  clear hY
  go_enter Tryd.func17, Tryd.ntmps17
  go_wp2_with fail
  generalize hq : World.alloc w _ = w0
  have hb0 : Hid (Below w.heap.size w w0) := by rw [← hq]; exact below_new w _
  have G0 : Hid (Blk w0 30 w.heap.size #[.int .i64 kd, .int .i64 a1, .int .i64 a2, .int .i64 c1, .int .i64 c2, .int .i64 e1, .int .i64 e2, .string s, .string t]) := by show Blk _ _ _ _; rw [← hq]; exact Blk.new _ _ _
  have N0 : Hid (NodesAt w0 a n l) := HI.out.below hb0.out
  obtain ⟨g, hg⟩ : ∃ g, g = w.heap.size := ⟨_, rfl⟩
  rw [← hg] at G0 ⊢
  have LG : Hid (w.heap.size ≤ w.heap.size) := Nat.le_refl _
  clear hq HI hg
  refine (rfind_any l (c1, c2) (j : Int) HR.out a n c w0 (by omega) N0.out).mono ?_
  rintro e w1 ⟨rfl, hb1⟩
  have HB1 : Hid (Below w.heap.size w w1) := below_step hb0.out LG.out hb1
  have G1 : Hid (Blk w1 30 g #[.int .i64 kd, .int .i64 a1, .int .i64 a2, .int .i64 c1, .int .i64 c2, .int .i64 e1, .int .i64 e2, .string s, .string t]) := G0.out.on hb1
  have N1 : Hid (NodesAt w1 a n l) := N0.out.below hb1
  clear hb1 hb0 G0 N0 HR
  have g5 : w1.cell? ⟨g, 5, none⟩ = some (.int .i64 e1) := G1.out.cell 5
  have g6 : w1.cell? ⟨g, 6, none⟩ = some (.int .i64 e2) := G1.out.cell 6
  have f0 : ∀ o, (w1.alloc o).cell? ⟨g, 0, none⟩ = some (.int .i64 kd) := fun o => (G1.out.alloc o).cell 0
  have f3 : ∀ o, (w1.alloc o).cell? ⟨g, 3, none⟩ = some (.int .i64 c1) := fun o => (G1.out.alloc o).cell 3
  have f4 : ∀ o, (w1.alloc o).cell? ⟨g, 4, none⟩ = some (.int .i64 c2) := fun o => (G1.out.alloc o).cell 4
  have f7 : ∀ o, (w1.alloc o).cell? ⟨g, 7, none⟩ = some (.string s) := fun o => (G1.out.alloc o).cell 7
  have f8 : ∀ o, (w1.alloc o).cell? ⟨g, 8, none⟩ = some (.string t) := fun o => (G1.out.alloc o).cell 8
  obtain ⟨b, off, rfl, _⟩ := N1.out.2.some (by omega)
  obtain ⟨q0, q1, q2, q3, q4, q5⟩ := N1.out.cells j hj
  rw [← HYY.out] at q0 q1 q2 q3 q4 q5
  have n0 : ∀ o, (w1.alloc o).cell? ⟨b, off + j * 6, none⟩ = some (.int .i64 m1) := fun o => by rw [(below_new w1 o).cell (World.block_lt_of_cell? w1 _ q0)]; exact q0
  have n1 : ∀ o, (w1.alloc o).cell? ⟨b, off + j * 6 + 1, none⟩ = some (.int .i64 m2) := fun o => by rw [(below_new w1 o).cell (World.block_lt_of_cell? w1 _ q1)]; exact q1
  have n2 : ∀ o, (w1.alloc o).cell? ⟨b, off + j * 6 + 2, none⟩ = some (.int .i64 m3) := fun o => by rw [(below_new w1 o).cell (World.block_lt_of_cell? w1 _ q2)]; exact q2
  have n3 : ∀ o, (w1.alloc o).cell? ⟨b, off + j * 6 + 3, none⟩ = some (.int .i64 m4) := fun o => by rw [(below_new w1 o).cell (World.block_lt_of_cell? w1 _ q3)]; exact q3
  have n4 : ∀ o, (w1.alloc o).cell? ⟨b, off + j * 6 + 4, none⟩ = some (.string m5) := fun o => by rw [(below_new w1 o).cell (World.block_lt_of_cell? w1 _ q4)]; exact q4
  have n5 : ∀ o, (w1.alloc o).cell? ⟨b, off + j * 6 + 5, none⟩ = some (.string m6) := fun o => by rw [(below_new w1 o).cell (World.block_lt_of_cell? w1 _ q5)]; exact q5
  go_wp2_with fail
  refine (rfind_any l (e1, e2) r2 HR2.out (some ⟨b, off, none⟩) n c _ (by omega) (N1.out.below (below_new _ _))).mono ?_
  rintro e w2 ⟨rfl, hb2⟩
  have hbw : Hid (Below w1.heap.size w1 w2) := below_step (below_new w1 _) (Nat.le_refl _) hb2
  have P2 : Hid (Blk w2 24 w1.heap.size #[.int .i64 e1, .int .i64 e2]) := (Blk.new w1 _ _).on hb2
  have G2 := G1.out.on hbw.out
  have f0' : w2.cell? ⟨g, 0, none⟩ = some (.int .i64 kd) := G2.cell 0
  have f0'' : ∀ o, (w2.alloc o).cell? ⟨g, 0, none⟩ = some (.int .i64 kd) := fun o => (G2.alloc o).cell 0
  have f3' : w2.cell? ⟨g, 3, none⟩ = some (.int .i64 c1) := G2.cell 3
  have f3'' : ∀ o, (w2.alloc o).cell? ⟨g, 3, none⟩ = some (.int .i64 c1) := fun o => (G2.alloc o).cell 3
  have f4' : w2.cell? ⟨g, 4, none⟩ = some (.int .i64 c2) := G2.cell 4
  have f4'' : ∀ o, (w2.alloc o).cell? ⟨g, 4, none⟩ = some (.int .i64 c2) := fun o => (G2.alloc o).cell 4
  have f7' : w2.cell? ⟨g, 7, none⟩ = some (.string s) := G2.cell 7
  have f7'' : ∀ o, (w2.alloc o).cell? ⟨g, 7, none⟩ = some (.string s) := fun o => (G2.alloc o).cell 7
  have f8' : w2.cell? ⟨g, 8, none⟩ = some (.string t) := G2.cell 8
  have f8'' : ∀ o, (w2.alloc o).cell? ⟨g, 8, none⟩ = some (.string t) := fun o => (G2.alloc o).cell 8
  have p0 : w2.cell? ⟨w1.heap.size, 0, none⟩ = some (.int .i64 e1) := P2.out.cell 0
  have p1 : w2.cell? ⟨w1.heap.size, 1, none⟩ = some (.int .i64 e2) := P2.out.cell 1
  have p0' : ∀ o, (w2.alloc o).cell? ⟨w1.heap.size, 0, none⟩ = some (.int .i64 e1) := fun o => (P2.out.alloc o).cell 0
  have p1' : ∀ o, (w2.alloc o).cell? ⟨w1.heap.size, 1, none⟩ = some (.int .i64 e2) := fun o => (P2.out.alloc o).cell 1
  have n0' : w2.cell? ⟨b, off + j * 6, none⟩ = some (.int .i64 m1) := by rw [hbw.out.cell (World.block_lt_of_cell? w1 _ q0)]; exact q0
  have n1' : w2.cell? ⟨b, off + j * 6 + 1, none⟩ = some (.int .i64 m2) := by rw [hbw.out.cell (World.block_lt_of_cell? w1 _ q1)]; exact q1
  have n2' : w2.cell? ⟨b, off + j * 6 + 2, none⟩ = some (.int .i64 m3) := by rw [hbw.out.cell (World.block_lt_of_cell? w1 _ q2)]; exact q2
  have n3' : w2.cell? ⟨b, off + j * 6 + 3, none⟩ = some (.int .i64 m4) := by rw [hbw.out.cell (World.block_lt_of_cell? w1 _ q3)]; exact q3
  have n4' : w2.cell? ⟨b, off + j * 6 + 4, none⟩ = some (.string m5) := by rw [hbw.out.cell (World.block_lt_of_cell? w1 _ q4)]; exact q4
  have n5' : w2.cell? ⟨b, off + j * 6 + 5, none⟩ = some (.string m6) := by rw [hbw.out.cell (World.block_lt_of_cell? w1 _ q5)]; exact q5
  clear hb2 G2
  go_wp2_with fail
  have CU := runder_any l (e1, e2) (c1, c2) (some ⟨b, off, none⟩) n c ((w2).alloc (.cells #[.int .i64 m1, .int .i64 m2, .int .i64 m3, .int .i64 m4, .string m5, .string m6] 62)) (by omega) (N1.out.below (below_step hbw.out (Nat.le_refl _) (below_new _ _)))
  rw [HU.out] at CU
  refine CU.mono ?_
  clear CU
  rintro e w3 ⟨rfl, hb3⟩
  have hb13 : Hid (Below w1.heap.size w1 w3) := below_step (below_step hbw.out (Nat.le_refl _) (below_new _ _)) (Nat.le_refl _) hb3
  obtain ⟨k2, hk2⟩ : ∃ k, k = (w2).heap.size := ⟨_, rfl⟩
  have K3 : Hid (Blk w3 62 k2 #[.int .i64 m1, .int .i64 m2, .int .i64 m3, .int .i64 m4, .string m5, .string m6]) := (Blk.new' _ _ _ _ hk2.symm).on hb3
  have P3 : Hid (Blk w3 24 w1.heap.size #[.int .i64 e1, .int .i64 e2]) := (P2.out.alloc _).on hb3
  have Lk : Hid (w1.heap.size ≤ k2) := by rw [hk2]; exact hbw.out.size
  rw [← hk2]
  clear hk2 hb3
  have pp0 : w3.cell? ⟨w1.heap.size, 0, none⟩ = some (.int .i64 e1) := P3.out.cell 0
  have pp1 : w3.cell? ⟨w1.heap.size, 1, none⟩ = some (.int .i64 e2) := P3.out.cell 1
  have kc0 : w3.cell? ⟨k2, 0, none⟩ = some (.int .i64 m1) := K3.out.cell 0
  have kc1 : w3.cell? ⟨k2, 1, none⟩ = some (.int .i64 m2) := K3.out.cell 1
  have kc2 : w3.cell? ⟨k2, 2, none⟩ = some (.int .i64 m3) := K3.out.cell 2
  have kc3 : w3.cell? ⟨k2, 3, none⟩ = some (.int .i64 m4) := K3.out.cell 3
  have kc4 : w3.cell? ⟨k2, 4, none⟩ = some (.string m5) := K3.out.cell 4
  have kc5 : w3.cell? ⟨k2, 5, none⟩ = some (.string m6) := K3.out.cell 5
  have fz2 := K3.out.free 2
  have fz3 := K3.out.free 3
  go_wp2_with fail
  refine (rwithV l ((m1, m2), (e1, e2), m5, m6) (some ⟨b, off, none⟩) n c _ (by omega) (N1.out.below ((hb13.out.setCell (p := ⟨k2, 2, none⟩) Lk.out _).setCell (p := ⟨k2, 3, none⟩) Lk.out _))).mono ?_
  rintro e w4 ⟨v, rfl, hv, hb4, ha4⟩
  have HV : Hid (NodesV w4 v L) := by rw [HL.out]; exact hv
  have B4 : Hid (Below w.heap.size w w4) := below_step (below_step HB1.out LG.out ((hb13.out.setCell (p := ⟨k2, 2, none⟩) Lk.out _).setCell (p := ⟨k2, 3, none⟩) Lk.out _)) LG.out hb4
  have HA : Hid (AdrV _ n w.heap.size v) := ha4.less (below_step HB1.out LG.out ((hb13.out.setCell (p := ⟨k2, 2, none⟩) Lk.out _).setCell (p := ⟨k2, 3, none⟩) Lk.out _)).size
  clear hv hb4 ha4
  go_wp2
  go_ret
  exact ⟨v, rfl, HV.out, B4.out, HA.out⟩

theorem rdoR_any (l : List NodeT) (o : OpT) (a : Option Addr) (n c : Nat) (w : World) (hn : n ≤ 65535) (hI : NodesAt w a n l) :
    Calls Tryd.prog 17 #[.slice a n c, .agg (opA o)] w fun e w' => ∃ v, e = .returned v ∧ NodesV w' v (doP l o) ∧ Below w.heap.size w w' ∧ AdrV a n w.heap.size v := by
  obtain ⟨kd, ⟨a1, a2⟩, ⟨c1, c2⟩, ⟨e1, e2⟩, s, t⟩ := o
  have hln : l.length = n := hI.1
  have HR : FindE l (c1, c2) (findI l (c1, c2)) := findI_E l _
  have HR2 : FindE l (e1, e2) (findI l (e1, e2)) := findI_E l _
  show Calls _ _ #[.slice a n c, .agg #[.int .i64 kd, .int .i64 a1, .int .i64 a2, .int .i64 c1, .int .i64 c2, .int .i64 e1, .int .i64 e2, .string s, .string t]] _ _
  unfold doP thereP parO
  rw [hln]
  by_cases k5 : kd = 5
  · subst k5
    rcases findI_lt l (c1, c2) with hr | ⟨j, hr, hj, _⟩
    · rw [hr] at HR
      simp only [hr]
      exact rdo_5no l a1 a2 c1 c2 e1 e2 s t a n c w hn hI HR
    · rw [hr] at HR
      have n1 : ¬ ((j : Int) < 0) := by omega
      cases hU : underF l (c1, c2) (n + 1) (0, 1)
      · simp only [hr, hU, n1, if_true, if_false, Int.reduceEq, Bool.false_eq_true, Int.toNat_natCast]
        exact rdo_5mv l a1 a2 c1 c2 e1 e2 s t a n c j w hn hI HR (by omega) hU
      · simp only [hr, hU, n1, if_true, if_false, Int.reduceEq, Int.toNat_natCast]
        exact rdo_5un l a1 a2 c1 c2 e1 e2 s t a n c j w hn hI HR (by omega) hU
  · by_cases k1 : kd = 1
    · subst k1
      rcases findI_lt l (c1, c2) with hr | ⟨j, hr, hj, _⟩
      · rw [hr] at HR
        have n1 : ¬ ((0 : Int) ≤ -1) := by omega
        by_cases hx : e1 = 0
        · subst hx
          simp only [hr, n1, if_true, if_false, Int.reduceEq]
          exact rdo_1xn l a1 a2 c1 c2 e2 s t a n c w hn hI HR
        · by_cases h2 : 0 ≤ findI l (e1, e2)
          · simp only [hr, n1, if_true, if_false, Int.reduceEq, hx, h2, decide_true]
            exact rdo_1pn l a1 a2 c1 c2 e1 e2 s t a n c w hn hI HR hx _ HR2 h2
          · simp only [hr, n1, if_true, if_false, Int.reduceEq, hx, h2, decide_false, Bool.false_eq_true]
            exact rdo_1pf l a1 a2 c1 c2 e1 e2 s t a n c w hn hI HR hx _ HR2 (by omega)
      · rw [hr] at HR
        have n1 : (0 : Int) ≤ (j : Int) := by omega
        simp only [hr, n1, if_true]
        by_cases hx : e1 = 0
        · subst hx
          exact rdo_1xy l a1 a2 c1 c2 e2 s t a n c j w hn hI HR (by omega)
        · exact rdo_1py l a1 a2 c1 c2 e1 e2 s t a n c j w hn hI HR (by omega) hx _ HR2
    · rcases findI_lt l (c1, c2) with hr | ⟨j, hr, hj, _⟩
      · rw [hr] at HR
        have n1 : (-1 : Int) < 0 := by omega
        simp only [hr, k1, n1, if_true, if_false]
        by_cases hx : e1 = 0
        · subst hx
          by_cases k3 : kd = 3
          · subst k3; exact rdo_3xn l a1 a2 c1 c2 e2 s t a n c w hn hI HR
          · by_cases k4 : kd = 4
            · subst k4; exact rdo_4xn l a1 a2 c1 c2 e2 s t a n c w hn hI HR
            · exact rdo_oxn l kd a1 a2 c1 c2 e2 s t a n c w hn hI HR k1 k3 k4 k5
        · by_cases k3 : kd = 3
          · subst k3; exact rdo_3pn l a1 a2 c1 c2 e1 e2 s t a n c w hn hI HR hx _ HR2
          · by_cases k4 : kd = 4
            · subst k4; exact rdo_4pn l a1 a2 c1 c2 e1 e2 s t a n c w hn hI HR hx _ HR2
            · exact rdo_opn l kd a1 a2 c1 c2 e1 e2 s t a n c w hn hI HR k1 k3 k4 k5 hx _ HR2
      · rw [hr] at HR
        have n1 : ¬ ((j : Int) < 0) := by omega
        by_cases k3 : kd = 3
        · subst k3
          simp only [hr, n1, if_true, if_false, Int.reduceEq, Int.toNat_natCast]
          by_cases hx : e1 = 0
          · subst hx; exact rdo_3xy l a1 a2 c1 c2 e2 s t a n c j w hn hI HR (by omega)
          · exact rdo_3py l a1 a2 c1 c2 e1 e2 s t a n c j w hn hI HR (by omega) hx _ HR2
        · by_cases k4 : kd = 4
          · subst k4
            simp only [hr, n1, if_true, if_false, Int.reduceEq, Int.toNat_natCast]
            by_cases hx : e1 = 0
            · subst hx; exact rdo_4xy l a1 a2 c1 c2 e2 s t a n c j w hn hI HR (by omega)
            · exact rdo_4py l a1 a2 c1 c2 e1 e2 s t a n c j w hn hI HR (by omega) hx _ HR2
          · by_cases hx : e1 = 0
            · subst hx
              cases hU : underF l (c1, c2) (n + 1) (0, e2)
              · simp only [hr, hU, n1, k1, k3, k4, k5, if_true, if_false, Bool.false_eq_true, Int.toNat_natCast]
                exact rdo_oxm l kd a1 a2 c1 c2 e2 s t a n c j w hn hI HR k1 k3 k4 k5 (by omega) hU
              · simp only [hr, hU, n1, k1, k3, k4, k5, if_true, if_false, Int.toNat_natCast]
                exact rdo_oxu l kd a1 a2 c1 c2 e2 s t a n c j w hn hI HR k1 k3 k4 k5 (by omega) hU
            · by_cases h2 : 0 ≤ findI l (e1, e2)
              · cases hU : underF l (c1, c2) (n + 1) (e1, e2)
                · simp only [hr, hU, n1, k1, k3, k4, k5, hx, h2, decide_true, if_true, if_false, Bool.false_eq_true, Int.toNat_natCast]
                  exact rdo_opm l kd a1 a2 c1 c2 e1 e2 s t a n c j w hn hI HR k1 k3 k4 k5 (by omega) hx _ HR2 h2 hU
                · simp only [hr, hU, n1, k1, k3, k4, k5, hx, h2, decide_true, if_true, if_false, Int.toNat_natCast]
                  exact rdo_opu l kd a1 a2 c1 c2 e1 e2 s t a n c j w hn hI HR k1 k3 k4 k5 (by omega) hx _ HR2 h2 hU
              · simp only [hr, n1, k1, k3, k4, k5, hx, h2, decide_false, if_false, Bool.false_eq_true, Int.toNat_natCast]
                exact rdo_opf l kd a1 a2 c1 c2 e1 e2 s t a n c j w hn hI HR k1 k3 k4 k5 (by omega) hx _ HR2 (by omega)

end Go.Proofs.YtdmlffbpcjadfaaDoor
