/- The code's closures of do and move; create, move, do (layer 11). -/
import Derived.Test.YtaomhhooipfjbaaDoorTmD
import Derived.Shelf.Abstract
namespace Go.Proofs.YtaomhhooipfjbaaDoor
open Go.RowKit
set_option linter.unusedSimpArgs false

theorem grown_set (w : World) (g j : Nat) (v : Value) : w.grownBy (w.setCell ⟨g, j, none⟩ v) (some g) :=
  ⟨rfl, rfl, rfl, by simp [World.setCell], fun k _ hk => Below.heap_setCell w ⟨g, j, none⟩ v k (fun e => hk (by rw [e]))⟩

set_option maxRecDepth 100000 in
set_option maxHeartbeats 2000000 in
theorem do1_any (o : OpT) (B g : Nat) (n : NodeT) (w : World) (hO : Blk w 30 B (opA o)) (hN : Blk w 40 g (nodeA n)) :
    Calls Tryd.prog 51 #[.pointer (some ⟨g, 0, none⟩), .pointer (some ⟨B, 0, none⟩)] w fun e w' => e = .returned (.tuple #[]) ∧ Blk w' 40 g (nodeA (n.1, n.2.1, o.2.2.2.2.1, n.2.2.2)) ∧ w.grownBy w' (some g) := by
  have c7 : w.cell? ⟨B, 7, none⟩ = some (.string o.2.2.2.2.1) := hO.cell 7
  have k4 : w.cell? ⟨g, 4, none⟩ = some (.string n.2.2.1) := hN.cell 4
  have f4 : w.frozen? ⟨g, 4, none⟩ = false := hN.free 4
  have HN : Hid (Blk w 40 g (nodeA n)) := hN
  clear hO hN
  go_enter Tryd.func51, Tryd.ntmps51
  go_wp2_with fail
  go_end0
  refine ⟨rfl, ?_, grown_set _ _ _ _⟩
  exact HN.out.setAt 4 (.string o.2.2.2.2.1)

set_option maxRecDepth 100000 in
set_option maxHeartbeats 2000000 in
theorem do2_any (o : OpT) (B g : Nat) (n : NodeT) (w : World) (hO : Blk w 30 B (opA o)) (hN : Blk w 40 g (nodeA n)) :
    Calls Tryd.prog 52 #[.pointer (some ⟨g, 0, none⟩), .pointer (some ⟨B, 0, none⟩)] w fun e w' => e = .returned (.tuple #[]) ∧ Blk w' 40 g (nodeA (n.1, n.2.1, n.2.2.1, o.2.2.2.2.2)) ∧ w.grownBy w' (some g) := by
  have c8 : w.cell? ⟨B, 8, none⟩ = some (.string o.2.2.2.2.2) := hO.cell 8
  have k5 : w.cell? ⟨g, 5, none⟩ = some (.string n.2.2.2) := hN.cell 5
  have f5 : w.frozen? ⟨g, 5, none⟩ = false := hN.free 5
  have HN : Hid (Blk w 40 g (nodeA n)) := hN
  clear hO hN
  go_enter Tryd.func52, Tryd.ntmps52
  go_wp2_with fail
  go_end0
  refine ⟨rfl, ?_, grown_set _ _ _ _⟩
  exact HN.out.setAt 5 (.string o.2.2.2.2.2)

set_option maxRecDepth 100000 in
set_option maxHeartbeats 2000000 in
theorem move1_any (p : Int × Int) (B g : Nat) (n : NodeT) (w : World) (hO : Blk w 28 B #[.int .i64 p.1, .int .i64 p.2]) (hN : Blk w 40 g (nodeA n)) :
    Calls Tryd.prog 63 #[.pointer (some ⟨g, 0, none⟩), .pointer (some ⟨B, 0, none⟩)] w fun e w' => e = .returned (.tuple #[]) ∧ Blk w' 40 g (nodeA (n.1, p, n.2.2.1, n.2.2.2)) ∧ w.grownBy w' (some g) := by
  have c0 : w.cell? ⟨B, 0, none⟩ = some (.int .i64 p.1) := hO.cell 0
  have c1 : w.cell? ⟨B, 1, none⟩ = some (.int .i64 p.2) := hO.cell 1
  have k2 : w.cell? ⟨g, 2, none⟩ = some (.int .i64 n.2.1.1) := hN.cell 2
  have f2 : w.frozen? ⟨g, 2, none⟩ = false := hN.free 2
  have k3 : w.cell? ⟨g, 3, none⟩ = some (.int .i64 n.2.1.2) := hN.cell 3
  have f3 : w.frozen? ⟨g, 3, none⟩ = false := hN.free 3
  have HN : Hid (Blk w 40 g (nodeA n)) := hN
  clear hO hN
  go_enter Tryd.func63, Tryd.ntmps63
  go_wp2_with fail
  go_end0
  refine ⟨rfl, ?_, ?_⟩
  · exact (HN.out.setAt 2 (.int .i64 p.1)).setAt 3 (.int .i64 p.2)
  · exact (grown_set _ _ _ _).andThen (grown_set _ _ _ _) (fun j hj => .inr hj)

theorem keyV_mk (x y : Int) : keyV (x, y) = .agg #[.int .i64 x, .int .i64 y] := rfl

set_option maxRecDepth 100000 in
set_option maxHeartbeats 4000000 in
theorem create_any (ns : List NodeT) (r : Nat) (o : OpT) (w : World) (hM : MapN w r ns) :
    Calls Tryd.prog 47 #[.map (some r), .agg (opA o)] w fun e w' => e = .returned (.tuple #[]) ∧ MapN w' r (createP ns o) ∧ w.grownBy w' (some r) := by
  obtain ⟨E, HE⟩ : ∃ E, Hid (E = createP ns o) := ⟨_, rfl⟩
  rw [← HE.out]
  obtain ⟨k0, ⟨k1, k2⟩, ⟨k3, k4⟩, ⟨k5, k6⟩, s7, s8⟩ := o
  obtain ⟨n, b, hb, hl⟩ := mapN_two hM k3 k4
  have hl1 := fun o => hl (w.alloc o) (below_new w o)
  have HM : Hid (MapN w r ns) := hM
  have HL : Hid (look ns (k3, k4) = if b then some n else none) := hb
  have hrl := hM.lt
  show Calls Tryd.prog _ #[_, .agg #[.int .i64 k0, .int .i64 k1, .int .i64 k2, .int .i64 k3, .int .i64 k4, .int .i64 k5, .int .i64 k6, .string s7, .string s8]] w _
  clear hl hM hb
  have hbb := (below_new w (.cells #[.int .i64 k0, .int .i64 k1, .int .i64 k2, .int .i64 k3, .int .i64 k4, .int .i64 k5, .int .i64 k6, .string s7, .string s8] 30)).alloc (by simp) (.cells #[.int .i64 n.1.1, .int .i64 n.1.2, .int .i64 n.2.1.1, .int .i64 n.2.1.2, .string n.2.2.1, .string n.2.2.2] 40)
  cases b with
  | true =>
    have HE' : Hid (E = ns) := by show _ = _; rw [HE.out]; unfold createP; rw [HL.out]; rfl
    clear HE HL
    go_enter Tryd.func47, Tryd.ntmps47
    go_wp2_with fail
    go_end0
    rw [HE'.out]
    exact ⟨rfl, HM.out.on hbb, grown_of_below hbb _⟩
  | false =>
    have CH' := hold_any ns r (k5, k6) _ (HM.out.on hbb)
    obtain ⟨D, hD⟩ : ∃ D, holdB ns (k5, k6) = D := ⟨_, rfl⟩
    rw [hD] at CH'
    have CH : Hid (Calls _ _ _ _ _) := CH'
    have HE' : Hid (E = if D = true then withR ((k3, k4), (k5, k6), s7, ⟨#[]⟩) ns else ns) := by
      show _ = _
      rw [HE.out, ← hD]; unfold createP; rw [HL.out]; rfl
    clear HE HL CH' hD
    cases D with
    | false =>
      go_enter Tryd.func47, Tryd.ntmps47
      go_wp2_with fail
      refine CH.out.mono ?_
      rintro e w1 ⟨rfl, hb1⟩
      have hB1 : Below w.heap.size w w1 := below_step hbb (Nat.le_refl _) hb1
      clear CH hb1 hl1
      go_wp2_with fail
      go_end0
      rw [HE'.out]
      exact ⟨rfl, HM.out.on hB1, grown_of_below hB1 _⟩
    | true =>
      go_enter Tryd.func47, Tryd.ntmps47
      go_wp2_with fail
      refine CH.out.mono ?_
      rintro e w1 ⟨rfl, hb1⟩
      have hB1 : Below w.heap.size w w1 := below_step hbb (Nat.le_refl _) hb1
      have c3 : w1.cell? ⟨w.heap.size, 3, none⟩ = some (.int .i64 k3) := by rw [hb1.cell (p := ⟨w.heap.size, 3, none⟩) (by simp; try omega)]; simp
      have c4 : w1.cell? ⟨w.heap.size, 4, none⟩ = some (.int .i64 k4) := by rw [hb1.cell (p := ⟨w.heap.size, 4, none⟩) (by simp; try omega)]; simp
      have c5 : w1.cell? ⟨w.heap.size, 5, none⟩ = some (.int .i64 k5) := by rw [hb1.cell (p := ⟨w.heap.size, 5, none⟩) (by simp; try omega)]; simp
      have c6 : w1.cell? ⟨w.heap.size, 6, none⟩ = some (.int .i64 k6) := by rw [hb1.cell (p := ⟨w.heap.size, 6, none⟩) (by simp; try omega)]; simp
      have c7 : w1.cell? ⟨w.heap.size, 7, none⟩ = some (.string s7) := by rw [hb1.cell (p := ⟨w.heap.size, 7, none⟩) (by simp; try omega)]; simp
      obtain ⟨w3, hp, hM3, hg3⟩ := (HM.out.on hB1).put ((k3, k4), (k5, k6), s7, ⟨#[]⟩)
      have HG3 : Hid (w.grownBy w3 (some r)) := (grown_of_below hB1 (some r)).andThen hg3 (fun j hj => .inr hj)
      have HM3 : Hid (MapN w3 r E) := by show MapN w3 r E; rw [HE'.out]; exact hM3
      simp only [keyV, nodeV, nodeA] at hp
      clear CH hb1 hl1 hB1 HM HE' hM3 hg3 hbb
      go_wp2_with fail
      go_end0
      exact ⟨rfl, HM3.out, HG3.out⟩

set_option maxRecDepth 100000 in
set_option maxHeartbeats 4000000 in
theorem move_any (ns : List NodeT) (r : Nat) (id p : Int × Int) (w : World) (hM : MapN w r ns) (hn : ns.length ≤ 1048576) :
    Calls Tryd.prog 48 #[.map (some r), stampV id, stampV p] w fun e w' => e = .returned (.tuple #[]) ∧ MapN w' r (moveP ns id p) ∧ w.grownBy w' (some r) := by
  obtain ⟨E, HE⟩ : ∃ E, Hid (E = moveP ns id p) := ⟨_, rfl⟩
  rw [← HE.out]
  obtain ⟨x, y⟩ := id
  obtain ⟨t, u⟩ := p
  have HM : Hid (MapN w r ns) := hM
  have CH' := fun W (hb : Below w.heap.size w W) => hold_any ns r (t, u) W (hM.on hb)
  have CW' := fun W (hb : Below w.heap.size w W) => within_any ns r (t, u) (x, y) W (hM.on hb) hn
  have CC : Hid (∀ W, Below w.heap.size w W → Blk W 28 (w.heap.size + 1) #[.int .i64 t, .int .i64 u] → Calls Tryd.prog 50 #[.map (some r), .agg #[.int .i64 x, .int .i64 y], .func (.func 63) #[] #[.pointer (some ⟨w.heap.size + 1, 0, none⟩)]] W fun e w' => e = .returned (.tuple #[]) ∧ MapN w' r (changeP ns (x, y) (fun n => (n.1, (t, u), n.2.2.1, n.2.2.2))) ∧ W.grownBy w' (some r)) := fun W hb hB =>
    change_any ns r (x, y) (fun n => (n.1, (t, u), n.2.2.1, n.2.2.2)) (fun _ => rfl) 63 (w.heap.size + 1) W (hM.on hb) (enters_of Tryd.func63 (by kernel_rfl) rfl) (fun n g W' h1 h2 h3 => move1_any (t, u) (w.heap.size + 1) g n W' (hB.on h1) h3)
  have hrl := hM.lt
  show Calls Tryd.prog _ #[_, .agg #[.int .i64 x, .int .i64 y], .agg #[.int .i64 t, .int .i64 u]] w _
  unfold moveP at HE
  generalize holdB ns (t, u) = D at CH' HE
  generalize withinF ns (x, y) ns.length (t, u) = V at CW' HE
  have CH : Hid (∀ W, _) := CH'
  have CW : Hid (∀ W, _) := CW'
  clear CH' CW' hM
  obtain ⟨W0, hW0⟩ : ∃ W0, (w.alloc (.cells #[.int .i64 x, .int .i64 y] 28)).alloc (.cells #[.int .i64 t, .int .i64 u] 28) = W0 := ⟨_, rfl⟩
  have HW0 : Hid ((w.alloc (.cells #[.int .i64 x, .int .i64 y] 28)).alloc (.cells #[.int .i64 t, .int .i64 u] 28) = W0) := hW0
  have hB0 : Below w.heap.size w W0 := by rw [← hW0]; exact (below_new w _).alloc (by simp) _
  have K1 : Blk W0 28 w.heap.size #[.int .i64 x, .int .i64 y] := by rw [← hW0]; exact (Blk.new _ _ _).alloc _
  have K2 : Blk W0 28 (w.heap.size + 1) #[.int .i64 t, .int .i64 u] := by rw [← hW0]; exact Blk.new' _ _ _ _ (by simp)
  clear hW0
  cases D with
  | false =>
    have HE' : Hid (E = ns) := HE
    go_enter Tryd.func48, Tryd.ntmps48
    go_wp2_with fail
    rw [HW0.out]
    refine (CH.out _ hB0).mono ?_
    rintro e w1 ⟨rfl, hb1⟩
    have hB1 := below_step hB0 (Nat.le_refl _) hb1
    clear CH CW CC K1 K2 HW0 hB0 hb1 HE
    go_wp2_with fail
    go_end0
    rw [HE'.out]
    exact ⟨rfl, HM.out.on hB1, grown_of_below hB1 _⟩
  | true =>
    go_enter Tryd.func48, Tryd.ntmps48
    go_wp2_with fail
    rw [HW0.out]
    refine (CH.out _ hB0).mono ?_
    rintro e w1 ⟨rfl, hb1⟩
    have hB1 := below_step hB0 (Nat.le_refl _) hb1
    have L1 := K1.on hb1
    have L2 := K2.on hb1
    have c0 : w1.cell? ⟨w.heap.size, 0, none⟩ = some (.int .i64 x) := L1.cell 0
    have c1 : w1.cell? ⟨w.heap.size, 1, none⟩ = some (.int .i64 y) := L1.cell 1
    have d0 : w1.cell? ⟨w.heap.size + 1, 0, none⟩ = some (.int .i64 t) := L2.cell 0
    have d1 : w1.cell? ⟨w.heap.size + 1, 1, none⟩ = some (.int .i64 u) := L2.cell 1
    clear CH K1 K2 HW0 hB0 hb1
    go_wp2_with fail
    refine (CW.out _ hB1).mono ?_
    rintro e w2 ⟨rfl, hb2⟩
    have hB2 := below_step hB1 (Nat.le_refl _) hb2
    have M1 := L1.on hb2
    have M2 := L2.on hb2
    have c0 : w2.cell? ⟨w.heap.size, 0, none⟩ = some (.int .i64 x) := M1.cell 0
    have c1 : w2.cell? ⟨w.heap.size, 1, none⟩ = some (.int .i64 y) := M1.cell 1
    clear CW L1 L2 hB1 hb2 d0 d1
    cases V with
    | true =>
      have HE' : Hid (E = ns) := HE
      clear HE CC M1 M2
      go_wp2_with fail
      go_end0
      rw [HE'.out]
      exact ⟨rfl, HM.out.on hB2, grown_of_below hB2 _⟩
    | false =>
      have HE' : Hid (E = changeP ns (x, y) (fun n => (n.1, (t, u), n.2.2.1, n.2.2.2))) := HE
      clear HE
      go_wp2_with fail
      refine (CC.out _ hB2 M2).mono ?_
      rintro e w3 ⟨rfl, hM3, hg3⟩
      have HM3 : Hid (MapN w3 r E) := by show MapN w3 r E; rw [HE'.out]; exact hM3
      have HG3 : Hid (w.grownBy w3 (some r)) := (grown_of_below hB2 (some r)).andThen hg3 (fun j hj => .inr hj)
      clear CC M1 M2 hB2 c0 c1 hM3 hg3 HE' HM
      go_wp2_with fail
      go_end0
      exact ⟨rfl, HM3.out, HG3.out⟩



set_option maxRecDepth 100000 in
set_option maxHeartbeats 8000000 in
theorem do_any (ns : List NodeT) (r : Nat) (o : OpT) (w : World) (hM : MapN w r ns) (hn : ns.length ≤ 1048576) :
    Calls Tryd.prog 33 #[.map (some r), .agg (opA o)] w fun e w' => e = .returned (.tuple #[]) ∧ MapN w' r (doC ns o) ∧ w.grownBy w' (some r) := by
  obtain ⟨E, HE⟩ : ∃ E, Hid (E = doC ns o) := ⟨_, rfl⟩
  rw [← HE.out]
  unfold doC at HE
  have hrl := hM.lt
  by_cases h1 : o.1 = 1
  · have HE' : Hid (E = createP ns o) := by show _ = _; rw [HE.out, if_pos h1]
    obtain ⟨k0, ⟨k1, k2⟩, ⟨k3, k4⟩, ⟨k5, k6⟩, s7, s8⟩ := o
    show Calls Tryd.prog _ #[_, .agg #[.int .i64 k0, .int .i64 k1, .int .i64 k2, .int .i64 k3, .int .i64 k4, .int .i64 k5, .int .i64 k6, .string s7, .string s8]] w _
    have hB0 : Below w.heap.size w (w.alloc (.cells #[.int .i64 k0, .int .i64 k1, .int .i64 k2, .int .i64 k3, .int .i64 k4, .int .i64 k5, .int .i64 k6, .string s7, .string s8] 30)) := below_new w _
    simp only at h1
    have C : Hid (Calls _ _ _ _ _) := create_any ns r (k0, (k1, k2), (k3, k4), (k5, k6), s7, s8) _ (hM.on hB0)
    have g1 : (k0 == 1) = true := by rw [beq_iff_eq]; exact h1
    clear hM HE h1
    go_enter Tryd.func33, Tryd.ntmps33
    go_wp2_with fail
    refine C.out.mono ?_
    rintro e w3 ⟨rfl, hM3, hg3⟩
    have HM3 : Hid (MapN w3 r E) := by show MapN w3 r E; rw [HE'.out]; exact hM3
    have HG3 : Hid (w.grownBy w3 (some r)) := (grown_of_below hB0 (some r)).andThen hg3 (fun j hj => .inr hj)
    clear C hM3 hg3 hB0 HE'
    go_wp2_with fail
    go_end0
    exact ⟨rfl, HM3.out, HG3.out⟩
  · by_cases h2 : o.1 = 2
    · have HE' : Hid (E = moveP ns o.2.2.1 o.2.2.2.1) := by show _ = _; rw [HE.out, if_neg h1, if_pos h2]
      obtain ⟨k0, ⟨k1, k2⟩, ⟨k3, k4⟩, ⟨k5, k6⟩, s7, s8⟩ := o
      show Calls Tryd.prog _ #[_, .agg #[.int .i64 k0, .int .i64 k1, .int .i64 k2, .int .i64 k3, .int .i64 k4, .int .i64 k5, .int .i64 k6, .string s7, .string s8]] w _
      have hB0 : Below w.heap.size w (w.alloc (.cells #[.int .i64 k0, .int .i64 k1, .int .i64 k2, .int .i64 k3, .int .i64 k4, .int .i64 k5, .int .i64 k6, .string s7, .string s8] 30)) := below_new w _
      simp only at h1
      simp only at h2
      have C : Hid (Calls _ _ _ _ _) := move_any ns r (k3, k4) (k5, k6) _ (hM.on hB0) hn
      have g1 : (k0 == 1) = false := by rw [beq_eq_false_iff_ne]; exact h1
      have g2 : (k0 == 2) = true := by rw [beq_iff_eq]; exact h2
      clear hM HE h1 h2
      go_enter Tryd.func33, Tryd.ntmps33
      go_wp2_with fail
      refine C.out.mono ?_
      rintro e w3 ⟨rfl, hM3, hg3⟩
      have HM3 : Hid (MapN w3 r E) := by show MapN w3 r E; rw [HE'.out]; exact hM3
      have HG3 : Hid (w.grownBy w3 (some r)) := (grown_of_below hB0 (some r)).andThen hg3 (fun j hj => .inr hj)
      clear C hM3 hg3 hB0 HE'
      go_wp2_with fail
      go_end0
      exact ⟨rfl, HM3.out, HG3.out⟩
    · by_cases h3 : o.1 = 5
      · have HE' : Hid (E = moveP ns o.2.2.1 (0, 1)) := by show _ = _; rw [HE.out, if_neg h1, if_neg h2, if_pos h3]
        obtain ⟨k0, ⟨k1, k2⟩, ⟨k3, k4⟩, ⟨k5, k6⟩, s7, s8⟩ := o
        show Calls Tryd.prog _ #[_, .agg #[.int .i64 k0, .int .i64 k1, .int .i64 k2, .int .i64 k3, .int .i64 k4, .int .i64 k5, .int .i64 k6, .string s7, .string s8]] w _
        have hB0 : Below w.heap.size w (w.alloc (.cells #[.int .i64 k0, .int .i64 k1, .int .i64 k2, .int .i64 k3, .int .i64 k4, .int .i64 k5, .int .i64 k6, .string s7, .string s8] 30)) := below_new w _
        simp only at h1
        simp only at h2 h3
        have C : Hid (∀ W, Below w.heap.size w W → _) := fun W hb => move_any ns r (k3, k4) (0, 1) W (hM.on hb) hn
        have CT : Hid (∀ w, _) := trash_any
        have g1 : (k0 == 1) = false := by rw [beq_eq_false_iff_ne]; exact h1
        have g2 : (k0 == 2) = false := by rw [beq_eq_false_iff_ne]; exact h2
        have g3 : (k0 == 5) = true := by rw [beq_iff_eq]; exact h3
        have HM : Hid (MapN w r ns) := hM
        clear hM HE h1 h2 h3
        go_enter Tryd.func33, Tryd.ntmps33
        go_wp2_with fail
        obtain ⟨W0, hW0⟩ : ∃ W0, w.alloc (.cells #[.int .i64 k0, .int .i64 k1, .int .i64 k2, .int .i64 k3, .int .i64 k4, .int .i64 k5, .int .i64 k6, .string s7, .string s8] 30) = W0 := ⟨_, rfl⟩
        rw [hW0] at hB0 ⊢
        have HS : Hid (∀ W, Below W0.heap.size W0 W → W.cell? ⟨w.heap.size, 3, none⟩ = some (.int .i64 k3) ∧ W.cell? ⟨w.heap.size, 4, none⟩ = some (.int .i64 k4)) := fun W hW => by
          have hlt : w.heap.size < W0.heap.size := by rw [← hW0]; simp
          refine ⟨(hW.cell (p := ⟨w.heap.size, 3, none⟩) hlt).trans ?_, (hW.cell (p := ⟨w.heap.size, 4, none⟩) hlt).trans ?_⟩ <;> (rw [← hW0]; simp)
        clear hW0
        have hS0 := HS.out W0 (Below.refl _ _)
        refine wp_region_noPanic ?_
        refine wp_region_held_drew (S := fun W => W.cell? ⟨w.heap.size, 3, none⟩ = some (.int .i64 k3) ∧ W.cell? ⟨w.heap.size, 4, none⟩ = some (.int .i64 k4)) (by kernel_rfl) (by first | exact trivial | assumption | exact ⟨by assumption, by assumption⟩) (fun hHeld => ?_)
        refine take_at (i := 0) (v := ?_) rfl rfl (by kernel_rfl) (by kernel_rfl) (by kernel_rfl) (fun _ _ _ h => h) (Or.inl ⟨by rfl, ?_⟩) (by assumption) ?_
        rotate_left
        · intro w hSw; (try dsimp only at hSw); go_simp; try with_reducible rfl
        try simp only [Act.put, List.setIfInBounds_toArray, List.set_cons_zero, List.set_cons_succ]
        refine take_at (i := 1) (v := ?_) rfl rfl (by kernel_rfl) (by kernel_rfl) (by kernel_rfl) (fun _ _ _ h => h) (Or.inl ⟨by rfl, ?_⟩) (by assumption) ?_
        rotate_left
        · intro w hSw; (try dsimp only at hSw); go_simp; try with_reducible rfl
        try simp only [Act.put, List.setIfInBounds_toArray, List.set_cons_zero, List.set_cons_succ]
        refine take_at (i := 2) (v := ?_) rfl rfl (by kernel_rfl) (by kernel_rfl) (by kernel_rfl) (fun _ _ _ h => h) (Or.inl ⟨by rfl, ?_⟩) (by assumption) ?_
        rotate_left
        · intro w hSw; (try dsimp only at hSw); go_simp; try with_reducible rfl
        try simp only [Act.put, List.setIfInBounds_toArray, List.set_cons_zero, List.set_cons_succ]
        refine wpAnyH_ready (rs := [3]) (by kernel_rfl) (by simp) ?_
        refine AllReadyH.cons rfl (fun K hK => ?_) AllReadyH.nil
        go_simp
        refine (CT.out _).mono ?_
        rintro e w1 ⟨rfl, hb1⟩
        have hb1' := below_step (Below.refl W0.heap.size W0).drew (Nat.le_refl _) hb1
        refine hK.out _ _ (HS.out _ hb1') (fun hHeld => ?_)
        clear hK K
        refine wpAnyH_ready (rs := [4]) (by kernel_rfl) (by simp) ?_
        refine AllReadyH.cons rfl (fun K hK => ?_) AllReadyH.nil
        go_simp
        have hB1 := below_step hB0 (Nat.le_refl _) hb1'
        refine (C.out w1 hB1).mono ?_
        rintro e w3 ⟨rfl, hM3, hg3⟩
        have hS3 : w3.cell? ⟨w.heap.size, 3, none⟩ = some (.int .i64 k3) ∧ w3.cell? ⟨w.heap.size, 4, none⟩ = some (.int .i64 k4) := by
          obtain ⟨q1, q2⟩ := HS.out _ hb1'
          refine ⟨hg3.cell q1 (by simp; omega), hg3.cell q2 (by simp; omega)⟩
        refine hK.out _ _ hS3 (fun hHeld => ?_)
        clear hK K
        refine wpAnyH_done (by kernel_rfl) (NoPanic.normal ?_) _
        have HM3 : Hid (MapN w3 r E) := by show MapN w3 r E; rw [HE'.out]; exact hM3
        have HG3 : Hid (w.grownBy w3 (some r)) := (grown_of_below hB1 (some r)).andThen hg3 (fun j hj => .inr hj)
        clear C CT HS hM3 hg3 hB0 HE' hS3 hS0 hB1 hb1 hb1'
        go_wp2_with fail
        go_end0
        exact ⟨rfl, HM3.out, HG3.out⟩
      · by_cases h4 : o.1 = 3
        · have HE' : Hid (E = changeP ns o.2.2.1 (fun n => (n.1, n.2.1, o.2.2.2.2.1, n.2.2.2))) := by show _ = _; rw [HE.out, if_neg h1, if_neg h2, if_neg h3, if_pos h4]
          obtain ⟨k0, ⟨k1, k2⟩, ⟨k3, k4⟩, ⟨k5, k6⟩, s7, s8⟩ := o
          show Calls Tryd.prog _ #[_, .agg #[.int .i64 k0, .int .i64 k1, .int .i64 k2, .int .i64 k3, .int .i64 k4, .int .i64 k5, .int .i64 k6, .string s7, .string s8]] w _
          have hB0 : Below w.heap.size w (w.alloc (.cells #[.int .i64 k0, .int .i64 k1, .int .i64 k2, .int .i64 k3, .int .i64 k4, .int .i64 k5, .int .i64 k6, .string s7, .string s8] 30)) := below_new w _
          simp only at h1
          simp only at h2 h3 h4
          have C : Hid (Calls _ _ _ _ _) := change_any ns r (k3, k4) (fun n => (n.1, n.2.1, s7, n.2.2.2)) (fun _ => rfl) 51 w.heap.size _ (hM.on hB0) (enters_of Tryd.func51 (by kernel_rfl) rfl) (fun n g W' q1 q2 q3 => do1_any (k0, (k1, k2), (k3, k4), (k5, k6), s7, s8) w.heap.size g n W' ((Blk.new _ _ _).on q1) q3)
          have g1 : (k0 == 1) = false := by rw [beq_eq_false_iff_ne]; exact h1
          have g2 : (k0 == 2) = false := by rw [beq_eq_false_iff_ne]; exact h2
          have g3 : (k0 == 5) = false := by rw [beq_eq_false_iff_ne]; exact h3
          have g4 : (k0 == 3) = true := by rw [beq_iff_eq]; exact h4
          clear hM HE h1 h2 h3 h4
          go_enter Tryd.func33, Tryd.ntmps33
          go_wp2_with fail
          refine C.out.mono ?_
          rintro e w3 ⟨rfl, hM3, hg3⟩
          have HM3 : Hid (MapN w3 r E) := by show MapN w3 r E; rw [HE'.out]; exact hM3
          have HG3 : Hid (w.grownBy w3 (some r)) := (grown_of_below hB0 (some r)).andThen hg3 (fun j hj => .inr hj)
          clear C hM3 hg3 hB0 HE'
          go_wp2_with fail
          go_end0
          exact ⟨rfl, HM3.out, HG3.out⟩
        · by_cases h5 : o.1 = 4
          · have HE' : Hid (E = changeP ns o.2.2.1 (fun n => (n.1, n.2.1, n.2.2.1, o.2.2.2.2.2))) := by show _ = _; rw [HE.out, if_neg h1, if_neg h2, if_neg h3, if_neg h4, if_pos h5]
            obtain ⟨k0, ⟨k1, k2⟩, ⟨k3, k4⟩, ⟨k5, k6⟩, s7, s8⟩ := o
            show Calls Tryd.prog _ #[_, .agg #[.int .i64 k0, .int .i64 k1, .int .i64 k2, .int .i64 k3, .int .i64 k4, .int .i64 k5, .int .i64 k6, .string s7, .string s8]] w _
            have hB0 : Below w.heap.size w (w.alloc (.cells #[.int .i64 k0, .int .i64 k1, .int .i64 k2, .int .i64 k3, .int .i64 k4, .int .i64 k5, .int .i64 k6, .string s7, .string s8] 30)) := below_new w _
            simp only at h1
            simp only at h2 h3 h4 h5
            have C : Hid (Calls _ _ _ _ _) := change_any ns r (k3, k4) (fun n => (n.1, n.2.1, n.2.2.1, s8)) (fun _ => rfl) 52 w.heap.size _ (hM.on hB0) (enters_of Tryd.func52 (by kernel_rfl) rfl) (fun n g W' q1 q2 q3 => do2_any (k0, (k1, k2), (k3, k4), (k5, k6), s7, s8) w.heap.size g n W' ((Blk.new _ _ _).on q1) q3)
            have g1 : (k0 == 1) = false := by rw [beq_eq_false_iff_ne]; exact h1
            have g2 : (k0 == 2) = false := by rw [beq_eq_false_iff_ne]; exact h2
            have g3 : (k0 == 5) = false := by rw [beq_eq_false_iff_ne]; exact h3
            have g4 : (k0 == 3) = false := by rw [beq_eq_false_iff_ne]; exact h4
            have g5 : (k0 == 4) = true := by rw [beq_iff_eq]; exact h5
            clear hM HE h1 h2 h3 h4 h5
            go_enter Tryd.func33, Tryd.ntmps33
            go_wp2_with fail
            refine C.out.mono ?_
            rintro e w3 ⟨rfl, hM3, hg3⟩
            have HM3 : Hid (MapN w3 r E) := by show MapN w3 r E; rw [HE'.out]; exact hM3
            have HG3 : Hid (w.grownBy w3 (some r)) := (grown_of_below hB0 (some r)).andThen hg3 (fun j hj => .inr hj)
            clear C hM3 hg3 hB0 HE'
            go_wp2_with fail
            go_end0
            exact ⟨rfl, HM3.out, HG3.out⟩
          · have HE' : Hid (E = ns) := by show _ = _; rw [HE.out, if_neg h1, if_neg h2, if_neg h3, if_neg h4, if_neg h5]
            obtain ⟨k0, ⟨k1, k2⟩, ⟨k3, k4⟩, ⟨k5, k6⟩, s7, s8⟩ := o
            show Calls Tryd.prog _ #[_, .agg #[.int .i64 k0, .int .i64 k1, .int .i64 k2, .int .i64 k3, .int .i64 k4, .int .i64 k5, .int .i64 k6, .string s7, .string s8]] w _
            have hB0 : Below w.heap.size w (w.alloc (.cells #[.int .i64 k0, .int .i64 k1, .int .i64 k2, .int .i64 k3, .int .i64 k4, .int .i64 k5, .int .i64 k6, .string s7, .string s8] 30)) := below_new w _
            simp only at h1
            simp only at h2 h3 h4 h5
            have g1 : (k0 == 1) = false := by rw [beq_eq_false_iff_ne]; exact h1
            have g2 : (k0 == 2) = false := by rw [beq_eq_false_iff_ne]; exact h2
            have g3 : (k0 == 5) = false := by rw [beq_eq_false_iff_ne]; exact h3
            have g4 : (k0 == 3) = false := by rw [beq_eq_false_iff_ne]; exact h4
            have g5 : (k0 == 4) = false := by rw [beq_eq_false_iff_ne]; exact h5
            have HM : Hid (MapN w r ns) := hM
            have HB0 : Hid (Below _ _ _) := hB0
            clear hM HE h1 h2 h3 h4 h5 hB0
            go_enter Tryd.func33, Tryd.ntmps33
            go_wp2_with fail
            go_end0
            rw [HE'.out]
            exact ⟨rfl, HM.out.on HB0.out, grown_of_below HB0.out _⟩
end Go.Proofs.YtaomhhooipfjbaaDoor
