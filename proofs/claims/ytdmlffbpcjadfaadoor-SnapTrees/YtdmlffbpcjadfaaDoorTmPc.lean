import Derived.Test.YtdmlffbpcjadfaaDoorL1
import Derived.Test.YtdmlffbpcjadfaaDoorTS
import Derived.Test.YtdmlffbpcjadfaaDoorT11
import Derived.Test.YtdmlffbpcjadfaaDoorRTrI
import Derived.Test.YtdmlffbpcjadfaaDoorTmPl
/- The document's Compact (layer 11). -/
namespace Go.Proofs.YtdmlffbpcjadfaaDoor
open Go.RowKit
set_option linter.unusedSimpArgs false

/-- Nodes stand as they were behind a store into a block of fewer cells than a node has. -/
theorem NodesV.set {w : World} {v : Value} {l : List NodeT} {t : TypeId} {g : Nat} {cs : Array Value} (h : NodesV w v l) (hb : Blk w t g cs) (hc : cs.size < 6) (j : Nat) (u : Value) : NodesV (w.setCell ⟨g, j, none⟩ u) v l := by
  obtain ⟨a, c, e, hl, hr⟩ := h
  refine ⟨a, c, e, hl, ?_⟩
  rcases hr with h0 | ⟨b, off, ha, hcl⟩
  · exact .inl h0
  · refine .inr ⟨b, off, ha, fun i hi k hk => ?_⟩
    obtain ⟨x, h1, h2⟩ := hcl i hi k hk
    refine ⟨x, h1, ?_⟩
    by_cases e2 : b = g
    · subst e2
      obtain ⟨x5, h3, h4⟩ := hcl i hi 5 (by decide)
      rw [hb.cell, Array.getElem?_eq_none (by omega)] at h4
      cases h4
    · rw [World.cell?_of_block (w := w) (Below.heap_setCell w ⟨g, j, none⟩ u b e2)]; exact h2

theorem NodesV.setR {w : World} {v : Value} {l : List NodeT} {t : TypeId} {g : Nat} {cs : Array Value} (h : NodesV w v l) (hb : Blk w t g cs) (hc : cs.size < 6) (cs' : Array Value) : NodesV (w.setRow g cs') v l := by
  obtain ⟨a, c, e, hl, hr⟩ := h
  refine ⟨a, c, e, hl, ?_⟩
  rcases hr with h0 | ⟨b, off, ha, hcl⟩
  · exact .inl h0
  · refine .inr ⟨b, off, ha, fun i hi k hk => ?_⟩
    obtain ⟨x, h1, h2⟩ := hcl i hi k hk
    refine ⟨x, h1, ?_⟩
    by_cases e2 : b = g
    · subst e2
      obtain ⟨x5, h3, h4⟩ := hcl i hi 5 (by decide)
      rw [hb.cell, Array.getElem?_eq_none (by omega)] at h4
      cases h4
    · rw [World.cell?_of_block (w := w) (setRow_other w g b cs' e2)]; exact h2

theorem opsAt_drop {w : World} {b off n : Nat} {l : List OpT} (h : OpsAt w (some ⟨b, off, none⟩) n l) (k : Nat) (hk : k ≤ n) : OpsAt w (some ⟨b, off + k * 9, none⟩) (n - k) (l.drop k) := by
  obtain ⟨hl, hr⟩ := h
  refine ⟨by rw [List.length_drop, hl], ?_⟩
  by_cases hn : n - k = 0
  · exact .inl hn
  · rcases hr with h0 | ⟨b', off', ha, hcl⟩
    · omega
    · cases ha
      refine .inr ⟨b, off + k * 9, rfl, fun i hi j hj => ?_⟩
      obtain ⟨x, h1, h2⟩ := hcl (k + i) (by omega) j hj
      refine ⟨x, ?_, ?_⟩
      · rw [← h1]
        show (opA (oL (l.drop k) i))[j]? = _
        have e : oL (l.drop k) i = oL l (k + i) := by
          unfold oL
          rw [List.getD_eq_getElem?_getD, List.getD_eq_getElem?_getD, List.getElem?_drop]
        rw [e]
      · rw [← h2]
        congr 2
        omega

set_option maxRecDepth 100000 in
set_option maxHeartbeats 4000000 in
theorem rcompact_on (fx : List NodeT) (ops : List OpT) (b1 b2 x y : Int) (a1 a2 : Option Addr) (c1 c2 KN : Nat) (Tn : TreeT) (w : World) (hlen : fx.length + ops.length ≤ 50000)
    (H1 : Hid (NodesAt w a1 fx.length fx)) (H2 : Hid (OpsAt w a2 ops.length ops)) (H3 : Hid (SliceOk a2 ops.length c2)) (hD : MayS (x, y)) (HKN : Hid (KN = posO (x, y) ops)) (HTN : Hid (Tn = (nodesP fx (ops.take KN), ops.drop KN, if LessS (b1, b2) (x, y) then (x, y) else (b1, b2)))) :
    Calls Tryd.prog 8 #[.agg #[.slice a1 fx.length c1, .slice a2 ops.length c2, .int .i64 b1, .int .i64 b2], .agg #[.int .i64 x, .int .i64 y]] w fun e w' => ∃ v, e = .returned (.tuple #[v, .int .i64 (KN : Int)]) ∧ TreeW a1 fx.length a2 ops.length w.heap.size w' v Tn ∧ Below w.heap.size w w' := by
  obtain ⟨g, hg⟩ : ∃ g, g = w.heap.size := ⟨_, rfl⟩
  obtain ⟨w0, hw0⟩ : ∃ w0, w0 = ((w.alloc (.cells #[.slice a1 fx.length c1, .slice a2 ops.length c2, .int .i64 b1, .int .i64 b2] 27)).alloc (.cells #[.int .i64 x, .int .i64 y] 24)).alloc (.cells #[.slice none 0 0, .slice none 0 0, .int .i64 0, .int .i64 0] 27) := ⟨_, rfl⟩
  have hb0 : Hid (Below w.heap.size w w0) := by rw [hw0]; exact ((below_new _ _).alloc (by simp) _).alloc (by simp; omega) _
  have T0 : Hid (Blk w0 27 g #[.slice a1 fx.length c1, .slice a2 ops.length c2, .int .i64 b1, .int .i64 b2]) := by show Blk _ _ _ _; rw [hw0]; exact ((Blk.new' _ _ _ _ hg.symm).alloc _).alloc _
  have S0 : Hid (Blk w0 24 (g + 1) #[.int .i64 x, .int .i64 y]) := by show Blk _ _ _ _; rw [hw0]; exact (Blk.new' _ _ _ _ (by simp [hg])).alloc _
  have R0 : Hid (Blk w0 27 (g + 2) #[.slice none 0 0, .slice none 0 0, .int .i64 0, .int .i64 0]) := by show Blk _ _ _ _; rw [hw0]; exact Blk.new' _ _ _ _ (by simp [hg])
  have Lg : Hid (w.heap.size ≤ g) := Nat.le_of_eq hg.symm
  have CM : Hid (∀ w, Calls Tryd.prog 16 #[.agg #[.int .i64 x, .int .i64 y]] w fun e w' => e = .returned (.bool true) ∧ Below w.heap.size w w') := fun w => by
    have := rmayS_any (x, y) w
    rw [decide_eq_true hD] at this; exact this
  have hl2 : ops.length ≤ 50000 := by omega
  clear hD
  go_enter Tryd.func8, Tryd.ntmps8
  go_wp2_with fail
  rw [← hg, ← hw0]
  clear hg hw0
  refine (CM.out _).mono ?_
  rintro e w1 ⟨rfl, hb1⟩
  have T1 : Hid (Blk w1 27 g #[.slice a1 fx.length c1, .slice a2 ops.length c2, .int .i64 b1, .int .i64 b2]) := T0.out.on hb1
  have S1 : Hid (Blk w1 24 (g + 1) #[.int .i64 x, .int .i64 y]) := S0.out.on hb1
  have R1 : Hid (Blk w1 27 (g + 2) #[.slice none 0 0, .slice none 0 0, .int .i64 0, .int .i64 0]) := R0.out.on hb1
  have B1 : Hid (Below w.heap.size w w1) := below_step hb0.out (Nat.le_refl _) hb1
  have N1 : Hid (NodesV w1 (.slice a1 fx.length c1) (nodesP fx (ops.take 0))) := by
    rw [List.take_zero]
    exact ⟨a1, c1, rfl, H1.out.below B1.out⟩
  clear hb1 CM hb0 T0 S0 R0
  go_wp2_with fail
  go_loopw [6] (fun i wr => ∃ (k : Nat) (vv : Value), k ≤ ops.length ∧ i = .int .i64 k ∧ Hid (Blk wr 27 g #[vv, .slice a2 ops.length c2, .int .i64 b1, .int .i64 b2]) ∧ Hid (Blk wr 24 (g + 1) #[.int .i64 x, .int .i64 y]) ∧ Hid (Blk wr 27 (g + 2) #[.slice none 0 0, .slice none 0 0, .int .i64 0, .int .i64 0]) ∧ Hid (AdrV a1 fx.length w.heap.size vv) ∧ Hid (NodesV wr vv (nodesP fx (ops.take k))) ∧ Hid (∀ i, i < k → ¬ LessS (x, y) (oL ops i).2.1) ∧ Hid (Below w.heap.size w wr)) (fun i _ => ops.length - (intOf i).toNat)
  case atStart => exact ⟨0, _, Nat.zero_le _, rfl, T1, S1, R1, adr_same, N1, fun i hi => absurd hi (Nat.not_lt_zero _), B1⟩
  case round =>
    clear T1 S1 R1 N1 B1
    obtain ⟨k, vv, hk, rfl, T, S, R, HAd, N, HL, B⟩ := hrel
    by_cases hlt : k < ops.length
    · obtain ⟨b, off, rfl, _⟩ := H2.out.2.some (by omega)
      obtain ⟨q0, q1, q2, q3, q4, q5, q6, q7, q8⟩ := (H2.out.below B.out).cells k hlt
      have d0 : (k : Int) < (ops.length : Int) := by omega
      obtain ⟨o, ho⟩ : ∃ o, o = oL ops k := ⟨_, rfl⟩
      have HSt : Hid (nodesP fx (ops.take (k + 1)) = doP (nodesP fx (ops.take k)) o) := by rw [ho]; exact nodesP_step fx ops k hlt
      have HO : Hid (o = oL ops k) := ho
      rw [← ho] at q0 q1 q2 q3 q4 q5 q6 q7 q8
      clear ho
      have CL' := fun w => rless_any (x, y) o.2.1 w
      by_cases hLD : LessS (x, y) o.2.1
      · have HPK : Hid (KN = k) := HKN.out.trans <| posO_at (x, y) ops k hlt HL.out (by rw [← HO.out]; exact hLD)
        rw [decide_eq_true hLD] at CL'
        obtain ⟨LL, HLL⟩ : ∃ L, Hid (L = nodesP fx (ops.take k)) := ⟨_, rfl⟩
        rw [← HLL.out] at N
        obtain ⟨k0, ⟨k1, k2⟩, ⟨k3, k4⟩, ⟨k5, k6⟩, s, t⟩ := o
        have CL : Hid (∀ w, Calls Tryd.prog 15 #[.agg #[.int .i64 x, .int .i64 y], .agg #[.int .i64 k1, .int .i64 k2]] w fun e w' => e = .returned (.bool true) ∧ Below w.heap.size w w') := CL'
        clear hLD CL' HL HSt
        have HS : Hid (∀ w', Below wr.heap.size wr w' → ((w'.cell? ⟨g, 1, none⟩ = some (.slice (some ⟨b, off, none⟩) ops.length c2) ∧ w'.cell? ⟨g, 0, none⟩ = some vv) ∧ w'.cell? ⟨g + 1, 0, none⟩ = some (.int .i64 x) ∧ w'.cell? ⟨g + 1, 1, none⟩ = some (.int .i64 y)) ∧ w'.cell? ⟨b, off + k * 9 + 1, none⟩ = some (.int .i64 k1) ∧ w'.cell? ⟨b, off + k * 9 + 2, none⟩ = some (.int .i64 k2)) := fun w' hb => ⟨⟨⟨(T.out.on hb).cell 1, (T.out.on hb).cell 0⟩, (S.out.on hb).cell 0, (S.out.on hb).cell 1⟩, by rw [hb.cell (World.block_lt_of_cell? wr _ q1)]; exact q1, by rw [hb.cell (World.block_lt_of_cell? wr _ q2)]; exact q2⟩
        have hS0 := HS.out _ (Below.refl wr.heap.size wr).drew
        have hcap := H3.out.cap
        have e1 : (k : Int) ≤ (ops.length : Int) := by omega
        have e3 : (ops.length : Int) ≤ (c2 : Int) := by omega
        have hck : ¬ (c2 - k = 0) := by omega
        go_wp2_with fail
        refine wp_region_noPanic ?_
        refine wp_region_held_drew (S := fun w' => ((w'.cell? ⟨g, 1, none⟩ = some (.slice (some ⟨b, off, none⟩) ops.length c2) ∧ w'.cell? ⟨g, 0, none⟩ = some vv) ∧ w'.cell? ⟨g + 1, 0, none⟩ = some (.int .i64 x) ∧ w'.cell? ⟨g + 1, 1, none⟩ = some (.int .i64 y)) ∧ w'.cell? ⟨b, off + k * 9 + 1, none⟩ = some (.int .i64 k1) ∧ w'.cell? ⟨b, off + k * 9 + 2, none⟩ = some (.int .i64 k2)) (by kernel_rfl) (by first | exact trivial | assumption | exact ⟨by assumption, by assumption⟩) (fun hHeld => ?_)
        refine tk 0 (v := ?_) rfl rfl ?_ ?_
        rotate_left
        · intro w hSw; (try dsimp only at hSw); go_simp; try with_reducible rfl
        try simp only [Act.put, za, zb, zc]
        refine tk 1 (v := ?_) rfl rfl ?_ ?_
        rotate_left
        · intro w hSw; (try dsimp only at hSw); go_simp; try with_reducible rfl
        try simp only [Act.put, za, zb, zc]
        refine tk 2 (v := ?_) rfl rfl ?_ ?_
        rotate_left
        · intro w hSw; (try dsimp only at hSw); go_simp; try with_reducible rfl
        try simp only [Act.put, za, zb, zc]
        refine tk 3 (v := ?_) rfl rfl ?_ ?_
        rotate_left
        · intro w hSw; (try dsimp only at hSw); go_simp; try with_reducible rfl
        try simp only [Act.put, za, zb, zc]
        refine tk 4 (v := ?_) rfl rfl ?_ ?_
        rotate_left
        · intro w hSw; (try dsimp only at hSw); go_simp; try with_reducible rfl
        try simp only [Act.put, za, zb, zc]
        refine tk 5 (v := ?_) rfl rfl ?_ ?_
        rotate_left
        · intro w hSw; (try dsimp only at hSw); go_simp; try with_reducible rfl
        try simp only [Act.put, za, zb, zc]
        refine tk 6 (v := ?_) rfl rfl ?_ ?_
        rotate_left
        · intro w hSw; (try dsimp only at hSw); go_simp; try with_reducible rfl
        try simp only [Act.put, za, zb, zc]
        refine tk 7 (v := ?_) rfl rfl ?_ ?_
        rotate_left
        · intro w hSw; (try dsimp only at hSw); go_simp; try with_reducible rfl
        try simp only [Act.put, za, zb, zc]
        refine tk 8 (v := ?_) rfl rfl ?_ ?_
        rotate_left
        · intro w hSw; (try dsimp only at hSw); go_simp; try with_reducible rfl
        try simp only [Act.put, za, zb, zc]
        refine tk 9 (v := ?_) rfl rfl ?_ ?_
        rotate_left
        · intro w hSw; (try dsimp only at hSw); go_simp; try with_reducible rfl
        try simp only [Act.put, za, zb, zc]
        refine tk 10 (v := ?_) rfl rfl ?_ ?_
        rotate_left
        · intro w hSw; (try dsimp only at hSw); go_simp; try with_reducible rfl
        try simp only [Act.put, za, zb, zc]
        refine tk 11 (v := ?_) rfl rfl ?_ ?_
        rotate_left
        · intro w hSw; (try dsimp only at hSw); go_simp; try with_reducible rfl
        try simp only [Act.put, za, zb, zc]
        refine tk 12 (v := ?_) rfl rfl ?_ ?_
        rotate_left
        · intro w hSw; (try dsimp only at hSw); go_simp; try with_reducible rfl
        try simp only [Act.put, za, zb, zc]
        refine wpAnyH_ready (rs := [13]) (by kernel_rfl) (by simp) ?_
        refine AllReadyH.cons rfl (fun K hK => ?_) AllReadyH.nil
        go_simp
        refine (CL.out _).mono ?_
        rintro e w3 ⟨rfl, hb3⟩
        have hbw : Hid (Below wr.heap.size wr w3) := below_step (Below.refl wr.heap.size wr).drew (Nat.le_refl _) hb3
        clear hb3
        refine hK.out _ _ (HS.out _ hbw.out) (fun hHeld => ?_)
        clear hK K
        refine tk 14 (v := ?_) rfl rfl ?_ ?_
        rotate_left
        · intro w hSw; (try dsimp only at hSw); go_simp; try with_reducible rfl
        try simp only [Act.put, za, zb, zc]
        refine tk 15 (v := ?_) rfl rfl ?_ ?_
        rotate_left
        · intro w hSw; (try dsimp only at hSw); go_simp; try with_reducible rfl
        try simp only [Act.put, za, zb, zc]
        refine wpAnyH_done (by kernel_rfl) (NoPanic.normal ?_) _
        clear hS0 hHeld CL
        have NX : Hid (NodesV w3 vv LL) := N.out.on hbw.out
        obtain ⟨a3, c3, rfl, h3⟩ := NX.out
        have TX : Hid (Blk w3 27 g #[.slice a3 LL.length c3, .slice (some ⟨b, off, none⟩) ops.length c2, .int .i64 b1, .int .i64 b2]) := T.out.on hbw.out
        have SX : Hid (Blk w3 24 (g + 1) #[.int .i64 x, .int .i64 y]) := S.out.on hbw.out
        have RX : Hid (Blk w3 27 (g + 2) #[.slice none 0 0, .slice none 0 0, .int .i64 0, .int .i64 0]) := R.out.on hbw.out
        have BX : Hid (Below w.heap.size w w3) := below_step B.out (Nat.le_refl _) hbw.out
        have HFIN : Hid (∀ w' (bb : Int × Int), Below w.heap.size w w' → NodesV w' (.slice a3 LL.length c3) LL → TreeW a1 fx.length (some ⟨b, off, none⟩) ops.length w.heap.size w' (.agg #[.slice a3 LL.length c3, .slice (some ⟨b, off + k * 9, none⟩) (ops.length - k) (c2 - k), .int .i64 bb.1, .int .i64 bb.2]) (nodesP fx (ops.take k), ops.drop k, bb)) := fun w' bb hb hn => by
          rw [← HLL.out]
          obtain ⟨a4, c4, e4, hn4⟩ := hn
          injection e4 with e41 e42 e43
          subst e41
          subst e43
          exact ⟨⟨_, _, _, _, by rw [List.length_drop], hn4, by rw [List.length_drop]; exact opsAt_drop (H2.out.below hb) k (by omega), by rw [List.length_drop]; exact .inr ⟨_, rfl, by omega⟩⟩, ⟨_, _, _, _, rfl, HAd.out, fun x n c e => by cases e <;> exact .inl ⟨_, rfl, rfl, by first | exact Nat.zero_le _ | omega⟩⟩⟩
        clear T S R B N HS q0 q1 q2 q3 q4 q5 q6 q7 q8 hbw h3
        have t0 : World.cell? _ ⟨g, 0, none⟩ = some (.slice a3 LL.length c3) := TX.out.cell 0
        have t1 : World.cell? _ ⟨g, 1, none⟩ = some (.slice (some ⟨b, off, none⟩) ops.length c2) := TX.out.cell 1
        have t2 : World.cell? _ ⟨g, 2, none⟩ = some (.int .i64 b1) := TX.out.cell 2
        have t3 : World.cell? _ ⟨g, 3, none⟩ = some (.int .i64 b2) := TX.out.cell 3
        have f1 := TX.out.free 1
        have z0 : World.cell? _ ⟨g + 1, 0, none⟩ = some (.int .i64 x) := SX.out.cell 0
        have z1 : World.cell? _ ⟨g + 1, 1, none⟩ = some (.int .i64 y) := SX.out.cell 1
        have T6 : Hid (Blk (World.setCell _ ⟨g, 1, none⟩ (.slice (some ⟨b, off + k * 9, none⟩) (ops.length - k) (c2 - k))) 27 g #[.slice a3 LL.length c3, .slice (some ⟨b, off + k * 9, none⟩) (ops.length - k) (c2 - k), .int .i64 b1, .int .i64 b2]) := TX.out.setAt 1 _
        have S6 : Hid (Blk (World.setCell _ ⟨g, 1, none⟩ (.slice (some ⟨b, off + k * 9, none⟩) (ops.length - k) (c2 - k))) 24 (g + 1) #[.int .i64 x, .int .i64 y]) := SX.out.other ⟨g, 1, none⟩ (by show g + 1 ≠ g; omega) _
        have R6 : Hid (Blk (World.setCell _ ⟨g, 1, none⟩ (.slice (some ⟨b, off + k * 9, none⟩) (ops.length - k) (c2 - k))) 27 (g + 2) #[.slice none 0 0, .slice none 0 0, .int .i64 0, .int .i64 0]) := RX.out.other ⟨g, 1, none⟩ (by show g + 2 ≠ g; omega) _
        have B6 : Hid (Below w.heap.size w (World.setCell _ ⟨g, 1, none⟩ (.slice (some ⟨b, off + k * 9, none⟩) (ops.length - k) (c2 - k)))) := BX.out.setCell (p := ⟨g, 1, none⟩) Lg.out _
        have N6 : Hid (NodesV (World.setCell _ ⟨g, 1, none⟩ (.slice (some ⟨b, off + k * 9, none⟩) (ops.length - k) (c2 - k))) (.slice a3 LL.length c3) LL) := NX.out.set TX.out (show 4 < 6 by decide) 1 _
        go_wp2_with fail
        have CL2 := fun w => rless_any (b1, b2) (x, y) w
        by_cases hLB : LessS (b1, b2) (x, y)
        · rw [decide_eq_true hLB] at CL2
          have HB : Hid ((if LessS (b1, b2) (x, y) then (x, y) else (b1, b2)) = (x, y)) := if_pos hLB
          have CB : Hid (∀ w, Calls Tryd.prog 15 #[.agg #[.int .i64 b1, .int .i64 b2], .agg #[.int .i64 x, .int .i64 y]] w fun e w' => e = .returned (.bool true) ∧ Below w.heap.size w w') := CL2
          clear CL2 hLB
          refine (CB.out _).mono ?_
          rintro e w7 ⟨rfl, hb7⟩
          have T7 : Hid (Blk w7 27 g #[.slice a3 LL.length c3, .slice (some ⟨b, off + k * 9, none⟩) (ops.length - k) (c2 - k), .int .i64 b1, .int .i64 b2]) := T6.out.on hb7
          have S7 : Hid (Blk w7 24 (g + 1) #[.int .i64 x, .int .i64 y]) := S6.out.on hb7
          have R7 : Hid (Blk w7 27 (g + 2) #[.slice none 0 0, .slice none 0 0, .int .i64 0, .int .i64 0]) := R6.out.on hb7
          have B7 : Hid (Below w.heap.size w w7) := below_step B6.out (Nat.le_refl _) hb7
          have N7 : Hid (NodesV w7 (.slice a3 LL.length c3) LL) := N6.out.on hb7
          clear hb7 T6 S6 R6 B6 N6 t0 t1 t2 t3 f1 z0 z1 CB
          have t0 : w7.cell? ⟨g, 0, none⟩ = some (.slice a3 LL.length c3) := T7.out.cell 0
          have t1 : w7.cell? ⟨g, 1, none⟩ = some (.slice (some ⟨b, off + k * 9, none⟩) (ops.length - k) (c2 - k)) := T7.out.cell 1
          have t2 : w7.cell? ⟨g, 2, none⟩ = some (.int .i64 b1) := T7.out.cell 2
          have t3 : w7.cell? ⟨g, 3, none⟩ = some (.int .i64 b2) := T7.out.cell 3
          have f2 := T7.out.free 2
          have f3 := T7.out.free 3
          have z0 : w7.cell? ⟨g + 1, 0, none⟩ = some (.int .i64 x) := S7.out.cell 0
          have z1 : w7.cell? ⟨g + 1, 1, none⟩ = some (.int .i64 y) := S7.out.cell 1
          have T8 : Hid (Blk (w7.setCell ⟨g, 2, none⟩ (.int .i64 x)) 27 g #[.slice a3 LL.length c3, .slice (some ⟨b, off + k * 9, none⟩) (ops.length - k) (c2 - k), .int .i64 x, .int .i64 b2]) := T7.out.setAt 2 _
          have R9 : Hid (Blk ((w7.setCell ⟨g, 2, none⟩ (.int .i64 x)).setCell ⟨g, 3, none⟩ (.int .i64 y)) 27 (g + 2) #[.slice none 0 0, .slice none 0 0, .int .i64 0, .int .i64 0]) := (R7.out.other ⟨g, 2, none⟩ (by show g + 2 ≠ g; omega) _).other ⟨g, 3, none⟩ (by show g + 2 ≠ g; omega) _
          have B9 : Hid (Below w.heap.size w ((w7.setCell ⟨g, 2, none⟩ (.int .i64 x)).setCell ⟨g, 3, none⟩ (.int .i64 y))) := (B7.out.setCell (p := ⟨g, 2, none⟩) Lg.out _).setCell (p := ⟨g, 3, none⟩) Lg.out _
          have N9 : Hid (NodesV ((w7.setCell ⟨g, 2, none⟩ (.int .i64 x)).setCell ⟨g, 3, none⟩ (.int .i64 y)) (.slice a3 LL.length c3) LL) := (N7.out.set T7.out (show 4 < 6 by decide) 2 _).set T8.out (show 4 < 6 by decide) 3 _
          clear T7 S7 R7 B7 N7 T8
          go_wp2_with (with_reducible refine wpList_storeBlkH rfl 27 _ _ rfl (g + 2) #[.slice none 0 0, .slice none 0 0, .int .i64 0, .int .i64 0] #[.slice a3 LL.length c3, .slice (some ⟨b, off + k * 9, none⟩) (ops.length - k) (c2 - k), .int .i64 x, .int .i64 y] ?hxE ?hyE R9.out rfl ?hiE ?h1E ?_)
          try (case hxE => rfl)
          try (case hyE => rfl)
          case hiE => first | kernel_rfl | (refine Option.map_eq_some_iff.1 (?_ : (Tryd.prog.info? 27).map (·.size) = some 4); kernel_rfl)
          case h1E => simp [Value.oneCell']
          unfold Hid
          go_wp2
          exact bodyPost_rowTmp rfl (g + 2) #[.slice a3 LL.length c3, .slice (some ⟨b, off + k * 9, none⟩) (ops.length - k) (c2 - k), .int .i64 x, .int .i64 y] _ rfl rfl rfl (R9.out.setRow _) _ Tryd.underlying27 rfl (by kernel_rfl) ⟨_, by rw [HPK.out]; rfl, by rw [HTN.out, HPK.out, HB.out]; exact HFIN.out _ (x, y) (below_setRow B9.out (Nat.le_trans Lg.out (by omega)) _) (N9.out.setR R9.out (show 4 < 6 by decide) _), below_setRow B9.out (Nat.le_trans Lg.out (by omega)) _⟩
        · rw [decide_eq_false hLB] at CL2
          have HB : Hid ((if LessS (b1, b2) (x, y) then (x, y) else (b1, b2)) = (b1, b2)) := if_neg hLB
          have CB : Hid (∀ w, Calls Tryd.prog 15 #[.agg #[.int .i64 b1, .int .i64 b2], .agg #[.int .i64 x, .int .i64 y]] w fun e w' => e = .returned (.bool false) ∧ Below w.heap.size w w') := CL2
          clear CL2 hLB
          refine (CB.out _).mono ?_
          rintro e w7 ⟨rfl, hb7⟩
          have T7 : Hid (Blk w7 27 g #[.slice a3 LL.length c3, .slice (some ⟨b, off + k * 9, none⟩) (ops.length - k) (c2 - k), .int .i64 b1, .int .i64 b2]) := T6.out.on hb7
          have R7 : Hid (Blk w7 27 (g + 2) #[.slice none 0 0, .slice none 0 0, .int .i64 0, .int .i64 0]) := R6.out.on hb7
          have B7 : Hid (Below w.heap.size w w7) := below_step B6.out (Nat.le_refl _) hb7
          have N7 : Hid (NodesV w7 (.slice a3 LL.length c3) LL) := N6.out.on hb7
          clear hb7 T6 S6 R6 B6 N6 t0 t1 t2 t3 f1 z0 z1 CB
          have t0 : w7.cell? ⟨g, 0, none⟩ = some (.slice a3 LL.length c3) := T7.out.cell 0
          have t1 : w7.cell? ⟨g, 1, none⟩ = some (.slice (some ⟨b, off + k * 9, none⟩) (ops.length - k) (c2 - k)) := T7.out.cell 1
          have t2 : w7.cell? ⟨g, 2, none⟩ = some (.int .i64 b1) := T7.out.cell 2
          have t3 : w7.cell? ⟨g, 3, none⟩ = some (.int .i64 b2) := T7.out.cell 3
          go_wp2_with (with_reducible refine wpList_storeBlkH rfl 27 _ _ rfl (g + 2) #[.slice none 0 0, .slice none 0 0, .int .i64 0, .int .i64 0] #[.slice a3 LL.length c3, .slice (some ⟨b, off + k * 9, none⟩) (ops.length - k) (c2 - k), .int .i64 b1, .int .i64 b2] ?hxEb ?hyEb R7.out rfl ?hiEb ?h1Eb ?_)
          try (case hxEb => rfl)
          try (case hyEb => rfl)
          case hiEb => first | kernel_rfl | (refine Option.map_eq_some_iff.1 (?_ : (Tryd.prog.info? 27).map (·.size) = some 4); kernel_rfl)
          case h1Eb => simp [Value.oneCell']
          unfold Hid
          go_wp2
          exact bodyPost_rowTmp rfl (g + 2) #[.slice a3 LL.length c3, .slice (some ⟨b, off + k * 9, none⟩) (ops.length - k) (c2 - k), .int .i64 b1, .int .i64 b2] _ rfl rfl rfl (R7.out.setRow _) _ Tryd.underlying27 rfl (by kernel_rfl) ⟨_, by rw [HPK.out]; rfl, by rw [HTN.out, HPK.out, HB.out]; exact HFIN.out _ (b1, b2) (below_setRow B7.out (Nat.le_trans Lg.out (by omega)) _) (N7.out.setR R7.out (show 4 < 6 by decide) _), below_setRow B7.out (Nat.le_trans Lg.out (by omega)) _⟩
      · have HL2 : Hid (∀ i, i < k + 1 → ¬ LessS (x, y) (oL ops i).2.1) := fun i hi => by
          by_cases e : i = k
          · rw [e, ← HO.out]; exact hLD
          · exact HL.out i (by omega)
        rw [decide_eq_false hLD] at CL'
        have hlen2 := nodesP_len fx (ops.take k)
        rw [List.length_take] at hlen2
        obtain ⟨LL, HLL⟩ : ∃ L, Hid (L = nodesP fx (ops.take k)) := ⟨_, rfl⟩
        rw [← HLL.out] at HSt N hlen2
        obtain ⟨k0, ⟨k1, k2⟩, ⟨k3, k4⟩, ⟨k5, k6⟩, s, t⟩ := o
        have CL : Hid (∀ w, Calls Tryd.prog 15 #[.agg #[.int .i64 x, .int .i64 y], .agg #[.int .i64 k1, .int .i64 k2]] w fun e w' => e = .returned (.bool false) ∧ Below w.heap.size w w') := CL'
        clear hLD CL' HL HLL
        have HS : Hid (∀ w', Below wr.heap.size wr w' → ((w'.cell? ⟨g, 1, none⟩ = some (.slice (some ⟨b, off, none⟩) ops.length c2) ∧ w'.cell? ⟨g, 0, none⟩ = some vv) ∧ w'.cell? ⟨g + 1, 0, none⟩ = some (.int .i64 x) ∧ w'.cell? ⟨g + 1, 1, none⟩ = some (.int .i64 y)) ∧ w'.cell? ⟨b, off + k * 9 + 1, none⟩ = some (.int .i64 k1) ∧ w'.cell? ⟨b, off + k * 9 + 2, none⟩ = some (.int .i64 k2)) := fun w' hb => ⟨⟨⟨(T.out.on hb).cell 1, (T.out.on hb).cell 0⟩, (S.out.on hb).cell 0, (S.out.on hb).cell 1⟩, by rw [hb.cell (World.block_lt_of_cell? wr _ q1)]; exact q1, by rw [hb.cell (World.block_lt_of_cell? wr _ q2)]; exact q2⟩
        have hS0 := HS.out _ (Below.refl wr.heap.size wr).drew
        go_wp2_with fail
        refine wp_region_noPanic ?_
        refine wp_region_held_drew (S := fun w' => ((w'.cell? ⟨g, 1, none⟩ = some (.slice (some ⟨b, off, none⟩) ops.length c2) ∧ w'.cell? ⟨g, 0, none⟩ = some vv) ∧ w'.cell? ⟨g + 1, 0, none⟩ = some (.int .i64 x) ∧ w'.cell? ⟨g + 1, 1, none⟩ = some (.int .i64 y)) ∧ w'.cell? ⟨b, off + k * 9 + 1, none⟩ = some (.int .i64 k1) ∧ w'.cell? ⟨b, off + k * 9 + 2, none⟩ = some (.int .i64 k2)) (by kernel_rfl) (by first | exact trivial | assumption | exact ⟨by assumption, by assumption⟩) (fun hHeld => ?_)
        refine tk 0 (v := ?_) rfl rfl ?_ ?_
        rotate_left
        · intro w hSw; (try dsimp only at hSw); go_simp; try with_reducible rfl
        try simp only [Act.put, za, zb, zc]
        refine tk 1 (v := ?_) rfl rfl ?_ ?_
        rotate_left
        · intro w hSw; (try dsimp only at hSw); go_simp; try with_reducible rfl
        try simp only [Act.put, za, zb, zc]
        refine tk 2 (v := ?_) rfl rfl ?_ ?_
        rotate_left
        · intro w hSw; (try dsimp only at hSw); go_simp; try with_reducible rfl
        try simp only [Act.put, za, zb, zc]
        refine tk 3 (v := ?_) rfl rfl ?_ ?_
        rotate_left
        · intro w hSw; (try dsimp only at hSw); go_simp; try with_reducible rfl
        try simp only [Act.put, za, zb, zc]
        refine tk 4 (v := ?_) rfl rfl ?_ ?_
        rotate_left
        · intro w hSw; (try dsimp only at hSw); go_simp; try with_reducible rfl
        try simp only [Act.put, za, zb, zc]
        refine tk 5 (v := ?_) rfl rfl ?_ ?_
        rotate_left
        · intro w hSw; (try dsimp only at hSw); go_simp; try with_reducible rfl
        try simp only [Act.put, za, zb, zc]
        refine tk 6 (v := ?_) rfl rfl ?_ ?_
        rotate_left
        · intro w hSw; (try dsimp only at hSw); go_simp; try with_reducible rfl
        try simp only [Act.put, za, zb, zc]
        refine tk 7 (v := ?_) rfl rfl ?_ ?_
        rotate_left
        · intro w hSw; (try dsimp only at hSw); go_simp; try with_reducible rfl
        try simp only [Act.put, za, zb, zc]
        refine tk 8 (v := ?_) rfl rfl ?_ ?_
        rotate_left
        · intro w hSw; (try dsimp only at hSw); go_simp; try with_reducible rfl
        try simp only [Act.put, za, zb, zc]
        refine tk 9 (v := ?_) rfl rfl ?_ ?_
        rotate_left
        · intro w hSw; (try dsimp only at hSw); go_simp; try with_reducible rfl
        try simp only [Act.put, za, zb, zc]
        refine tk 10 (v := ?_) rfl rfl ?_ ?_
        rotate_left
        · intro w hSw; (try dsimp only at hSw); go_simp; try with_reducible rfl
        try simp only [Act.put, za, zb, zc]
        refine tk 11 (v := ?_) rfl rfl ?_ ?_
        rotate_left
        · intro w hSw; (try dsimp only at hSw); go_simp; try with_reducible rfl
        try simp only [Act.put, za, zb, zc]
        refine tk 12 (v := ?_) rfl rfl ?_ ?_
        rotate_left
        · intro w hSw; (try dsimp only at hSw); go_simp; try with_reducible rfl
        try simp only [Act.put, za, zb, zc]
        refine wpAnyH_ready (rs := [13]) (by kernel_rfl) (by simp) ?_
        refine AllReadyH.cons rfl (fun K hK => ?_) AllReadyH.nil
        go_simp
        refine (CL.out _).mono ?_
        rintro e w3 ⟨rfl, hb3⟩
        have hbw : Hid (Below wr.heap.size wr w3) := below_step (Below.refl wr.heap.size wr).drew (Nat.le_refl _) hb3
        clear hb3
        refine hK.out _ _ (HS.out _ hbw.out) (fun hHeld => ?_)
        clear hK K
        refine tk 14 (v := ?_) rfl rfl ?_ ?_
        rotate_left
        · intro w hSw; (try dsimp only at hSw); go_simp; try with_reducible rfl
        try simp only [Act.put, za, zb, zc]
        refine tk 15 (v := ?_) rfl rfl ?_ ?_
        rotate_left
        · intro w hSw; (try dsimp only at hSw); go_simp; try with_reducible rfl
        try simp only [Act.put, za, zb, zc]
        refine wpAnyH_done (by kernel_rfl) (NoPanic.normal ?_) _
        clear hS0 hHeld CL
        have HS2 : Hid (∀ w' v', Blk w' 27 g #[v', .slice (some ⟨b, off, none⟩) ops.length c2, .int .i64 b1, .int .i64 b2] → Below w.heap.size w w' → w'.cell? ⟨g, 1, none⟩ = some (.slice (some ⟨b, off, none⟩) ops.length c2) ∧ w'.cell? ⟨b, off + k * 9, none⟩ = some (.int .i64 k0) ∧ w'.cell? ⟨b, off + k * 9 + 1, none⟩ = some (.int .i64 k1) ∧ w'.cell? ⟨b, off + k * 9 + 2, none⟩ = some (.int .i64 k2) ∧ w'.cell? ⟨b, off + k * 9 + 3, none⟩ = some (.int .i64 k3) ∧ w'.cell? ⟨b, off + k * 9 + 4, none⟩ = some (.int .i64 k4) ∧ w'.cell? ⟨b, off + k * 9 + 5, none⟩ = some (.int .i64 k5) ∧ w'.cell? ⟨b, off + k * 9 + 6, none⟩ = some (.int .i64 k6) ∧ w'.cell? ⟨b, off + k * 9 + 7, none⟩ = some (.string s) ∧ w'.cell? ⟨b, off + k * 9 + 8, none⟩ = some (.string t)) := fun w' v' hb1 hb2 => by
          have h := (H2.out.below hb2).cells k hlt
          rw [← HO.out] at h
          exact ⟨hb1.cell 1, h⟩
        have T3 : Hid (Blk w3 27 g #[vv, .slice (some ⟨b, off, none⟩) ops.length c2, .int .i64 b1, .int .i64 b2]) := T.out.on hbw.out
        have S3 : Hid (Blk w3 24 (g + 1) #[.int .i64 x, .int .i64 y]) := S.out.on hbw.out
        have R3 : Hid (Blk w3 27 (g + 2) #[.slice none 0 0, .slice none 0 0, .int .i64 0, .int .i64 0]) := R.out.on hbw.out
        have B3 : Hid (Below w.heap.size w w3) := below_step B.out (Nat.le_refl _) hbw.out
        have N3 : Hid (NodesV w3 vv LL) := N.out.on hbw.out
        clear T S R B N HS q0 q1 q2 q3 q4 q5 q6 q7 q8 hbw
        obtain ⟨a3, c3, rfl, h3⟩ := N3.out
        have hdw : Hid (Below w3.heap.size w3 w3.drew) := (Below.refl _ _).drew
        have HC : Hid (Calls Tryd.prog 17 #[.slice a3 LL.length c3, .agg #[.int .i64 k0, .int .i64 k1, .int .i64 k2, .int .i64 k3, .int .i64 k4, .int .i64 k5, .int .i64 k6, .string s, .string t]] w3.drew fun e w' => ∃ v, e = .returned v ∧ NodesV w' v (doP LL (k0, (k1, k2), (k3, k4), (k5, k6), s, t)) ∧ Below w3.drew.heap.size w3.drew w' ∧ AdrV a3 LL.length w3.drew.heap.size v) := rdoR_any LL (k0, (k1, k2), (k3, k4), (k5, k6), s, t) a3 LL.length c3 w3.drew (by omega) (h3.below hdw.out)
        have g0 : w3.drew.cell? ⟨g, 0, none⟩ = some (.slice a3 LL.length c3) := (T3.out.on hdw.out).cell 0
        have hS0 := HS2.out _ _ (T3.out.on hdw.out) B3.out.drew
        clear h3 N3
        go_wp2_with fail
        refine wp_region_noPanic ?_
        refine wp_region_held_drew (S := fun w' => w'.cell? ⟨g, 1, none⟩ = some (.slice (some ⟨b, off, none⟩) ops.length c2) ∧ w'.cell? ⟨b, off + k * 9, none⟩ = some (.int .i64 k0) ∧ w'.cell? ⟨b, off + k * 9 + 1, none⟩ = some (.int .i64 k1) ∧ w'.cell? ⟨b, off + k * 9 + 2, none⟩ = some (.int .i64 k2) ∧ w'.cell? ⟨b, off + k * 9 + 3, none⟩ = some (.int .i64 k3) ∧ w'.cell? ⟨b, off + k * 9 + 4, none⟩ = some (.int .i64 k4) ∧ w'.cell? ⟨b, off + k * 9 + 5, none⟩ = some (.int .i64 k5) ∧ w'.cell? ⟨b, off + k * 9 + 6, none⟩ = some (.int .i64 k6) ∧ w'.cell? ⟨b, off + k * 9 + 7, none⟩ = some (.string s) ∧ w'.cell? ⟨b, off + k * 9 + 8, none⟩ = some (.string t)) (by kernel_rfl) (by first | exact trivial | assumption | exact ⟨by assumption, by assumption⟩) (fun hHeld => ?_)
        refine tk 0 (v := ?_) rfl rfl ?_ ?_
        rotate_left
        · intro w hSw; (try dsimp only at hSw); go_simp; try with_reducible rfl
        try simp only [Act.put, za, zb, zc]
        refine tk 2 (v := ?_) rfl rfl ?_ ?_
        rotate_left
        · intro w hSw; (try dsimp only at hSw); go_simp; try with_reducible rfl
        try simp only [Act.put, za, zb, zc]
        refine tk 3 (v := ?_) rfl rfl ?_ ?_
        rotate_left
        · intro w hSw; (try dsimp only at hSw); go_simp; try with_reducible rfl
        try simp only [Act.put, za, zb, zc]
        refine tk 4 (v := ?_) rfl rfl ?_ ?_
        rotate_left
        · intro w hSw; (try dsimp only at hSw); go_simp; try with_reducible rfl
        try simp only [Act.put, za, zb, zc]
        refine tk 5 (v := ?_) rfl rfl ?_ ?_
        rotate_left
        · intro w hSw; (try dsimp only at hSw); go_simp; try with_reducible rfl
        try simp only [Act.put, za, zb, zc]
        refine tk 6 (v := ?_) rfl rfl ?_ ?_
        rotate_left
        · intro w hSw; (try dsimp only at hSw); go_simp; try with_reducible rfl
        try simp only [Act.put, za, zb, zc]
        refine wpAnyH_ready (rs := [1]) (by kernel_rfl) (by simp) ?_
        refine AllReadyH.cons rfl (fun K hK => ?_) AllReadyH.nil
        go_simp
        refine hK.out _ _ hS0 (fun hHeld => ?_)
        clear hK K
        refine wpAnyH_ready (rs := [7]) (by kernel_rfl) (by simp) ?_
        refine AllReadyH.cons rfl (fun K hK => ?_) AllReadyH.nil
        go_simp
        refine Calls.mono HC.out ?_
        rintro e w4 ⟨v4, rfl, hv4, hb4, ha4⟩
        have HAd5 : Hid (AdrV a1 fx.length w.heap.size v4) := adr_trans HAd.out ha4 B3.out.size
        clear ha4 HAd
        rw [← HSt.out] at hv4
        obtain ⟨DL, HDL⟩ : ∃ DL, Hid (DL = nodesP fx (ops.take (k + 1))) := ⟨_, rfl⟩
        rw [← HDL.out] at hv4
        obtain ⟨a4, c4, rfl, hn4⟩ := hv4
        have hb34 : Hid (Below w3.heap.size w3 w4) := below_step hdw.out (Nat.le_refl _) hb4
        have T4 : Hid (Blk w4 27 g #[.slice a3 LL.length c3, .slice (some ⟨b, off, none⟩) ops.length c2, .int .i64 b1, .int .i64 b2]) := T3.out.on hb34.out
        have S4 : Hid (Blk w4 24 (g + 1) #[.int .i64 x, .int .i64 y]) := S3.out.on hb34.out
        have R4 : Hid (Blk w4 27 (g + 2) #[.slice none 0 0, .slice none 0 0, .int .i64 0, .int .i64 0]) := R3.out.on hb34.out
        have B4 : Hid (Below w.heap.size w w4) := below_step B3.out (Nat.le_refl _) hb34.out
        have N4 : Hid (NodesV w4 (.slice a4 DL.length c4) DL) := ⟨a4, c4, rfl, hn4⟩
        clear hn4 hb4 hb34 T3 S3 R3 B3 HC g0
        refine hK.out _ _ (HS2.out _ _ T4.out B4.out) (fun hHeld => ?_)
        clear hK K
        refine tk 8 (v := ?_) rfl rfl ?_ ?_
        rotate_left
        · intro w hSw; (try dsimp only at hSw); go_simp; try with_reducible rfl
        try simp only [Act.put, za, zb, zc]
        have g0 : w4.cell? ⟨g, 0, none⟩ = some (.slice a3 LL.length c3) := T4.out.cell 0
        have f0 := T4.out.free 0
        have T5 : Hid (Blk (w4.setCell ⟨g, 0, none⟩ (.slice a4 DL.length c4)) 27 g #[.slice a4 DL.length c4, .slice (some ⟨b, off, none⟩) ops.length c2, .int .i64 b1, .int .i64 b2]) := T4.out.setAt 0 _
        have S5 : Hid (Blk (w4.setCell ⟨g, 0, none⟩ (.slice a4 DL.length c4)) 24 (g + 1) #[.int .i64 x, .int .i64 y]) := S4.out.other ⟨g, 0, none⟩ (by show g + 1 ≠ g; omega) _
        have R5 : Hid (Blk (w4.setCell ⟨g, 0, none⟩ (.slice a4 DL.length c4)) 27 (g + 2) #[.slice none 0 0, .slice none 0 0, .int .i64 0, .int .i64 0]) := R4.out.other ⟨g, 0, none⟩ (by show g + 2 ≠ g; omega) _
        have B5 : Hid (Below w.heap.size w (w4.setCell ⟨g, 0, none⟩ (.slice a4 DL.length c4))) := B4.out.setCell (p := ⟨g, 0, none⟩) Lg.out _
        have N5 : Hid (NodesV (w4.setCell ⟨g, 0, none⟩ (.slice a4 DL.length c4)) (.slice a4 DL.length c4) DL) := N4.out.set T4.out (show 4 < 6 by decide) 0 _
        refine wpAnyH_ready (rs := [9]) (by kernel_rfl) (by simp) ?_
        refine AllReadyH.cons rfl (fun K hK => ?_) AllReadyH.nil
        go_simp
        refine hK.out _ _ (HS2.out _ _ T5.out B5.out) (fun hHeld => ?_)
        clear hK K
        refine wpAnyH_done (by kernel_rfl) (NoPanic.normal ?_) _
        clear T4 S4 R4 B4 N4 g0 f0 hS0 HS2 hHeld
        go_wp2
        refine ⟨⟨k + 1, .slice a4 DL.length c4, by omega, by go_num, T5, S5, R5, HAd5, by rw [← HDL.out]; exact N5, HL2, B5⟩, ?_⟩
        simp [intOf]; omega
    · have hk' : k = ops.length := by omega
      subst hk'
      have HPK : Hid (KN = ops.length) := HKN.out.trans (posO_all (x, y) ops HL.out)
      obtain ⟨LL, HLL⟩ : ∃ L, Hid (L = nodesP fx (ops.take ops.length)) := ⟨_, rfl⟩
      rw [← HLL.out] at N
      obtain ⟨a3, c3, rfl, _⟩ := N.out
      have hS0 : wr.drew.cell? ⟨g, 1, none⟩ = some (.slice a2 ops.length c2) := (T.out.on (Below.refl _ _).drew).cell 1
      clear HL
      by_cases hn0 : ops.length = 0
      · have hops : ops = [] := List.length_eq_zero_iff.1 hn0
        subst hops
        clear hn0
        rcases H3.out with ⟨rfl, _, rfl⟩ | ⟨z, rfl, _⟩
        · skip
          go_wp2_with fail
          refine wp_region_noPanic ?_
          refine wp_region_held_drew (S := fun w' => w'.cell? ⟨g, 1, none⟩ = some (.slice none 0 0)) (by kernel_rfl) (by first | exact trivial | assumption | exact ⟨by assumption, by assumption⟩) (fun hHeld => ?_)
          refine tk 0 (v := ?_) rfl rfl ?_ ?_
          rotate_left
          · intro w hSw; (try dsimp only at hSw); go_simp; try with_reducible rfl
          try simp only [Act.put, za, zb, zc]
          refine tk 1 (v := ?_) rfl rfl ?_ ?_
          rotate_left
          · intro w hSw; (try dsimp only at hSw); go_simp; try with_reducible rfl
          try simp only [Act.put, za, zb, zc]
          refine tk 2 (v := ?_) rfl rfl ?_ ?_
          rotate_left
          · intro w hSw; (try dsimp only at hSw); go_simp; try with_reducible rfl
          try simp only [Act.put, za, zb, zc]
          refine tk 3 (v := ?_) rfl rfl ?_ ?_
          rotate_left
          · intro w hSw; (try dsimp only at hSw); go_simp; try with_reducible rfl
          try simp only [Act.put, za, zb, zc]
          refine tk 4 (v := ?_) rfl rfl ?_ ?_
          rotate_left
          · intro w hSw; (try dsimp only at hSw); go_simp; try with_reducible rfl
          try simp only [Act.put, za, zb, zc]
          refine tk 5 (v := ?_) rfl rfl ?_ ?_
          rotate_left
          · intro w hSw; (try dsimp only at hSw); go_simp; try with_reducible rfl
          try simp only [Act.put, za, zb, zc]
          refine tn 6 rfl rfl ?_
          try simp only [Act.put, za, zb, zc]
          refine tn 7 rfl rfl ?_
          try simp only [Act.put, za, zb, zc]
          refine tn 8 rfl rfl ?_
          try simp only [Act.put, za, zb, zc]
          refine tn 9 rfl rfl ?_
          try simp only [Act.put, za, zb, zc]
          refine tn 10 rfl rfl ?_
          try simp only [Act.put, za, zb, zc]
          refine tn 11 rfl rfl ?_
          try simp only [Act.put, za, zb, zc]
          refine tn 12 rfl rfl ?_
          try simp only [Act.put, za, zb, zc]
          refine tn 13 rfl rfl ?_
          try simp only [Act.put, za, zb, zc]
          refine tn 14 rfl rfl ?_
          try simp only [Act.put, za, zb, zc]
          refine tk 15 (v := ?_) rfl rfl ?_ ?_
          rotate_left
          · intro w hSw; (try dsimp only at hSw); go_simp; try with_reducible rfl
          try simp only [Act.put, za, zb, zc]
          refine wpAnyH_done (by kernel_rfl) (NoPanic.normal ?_) _
          clear hS0 hHeld
          have hdw : Hid (Below wr.heap.size wr wr.drew) := (Below.refl _ _).drew
          have NX : Hid (NodesV wr.drew (.slice a3 LL.length c3) LL) := N.out.on hdw.out
          have TX : Hid (Blk wr.drew 27 g #[.slice a3 LL.length c3, .slice none 0 0, .int .i64 b1, .int .i64 b2]) := T.out.on hdw.out
          have SX : Hid (Blk wr.drew 24 (g + 1) #[.int .i64 x, .int .i64 y]) := S.out.on hdw.out
          have RX : Hid (Blk wr.drew 27 (g + 2) #[.slice none 0 0, .slice none 0 0, .int .i64 0, .int .i64 0]) := R.out.on hdw.out
          have BX : Hid (Below w.heap.size w wr.drew) := B.out.drew
          clear T S R B N hdw
          generalize wr.drew = w3 at *
          have HFIN : Hid (∀ w' (bb : Int × Int), Below w.heap.size w w' → NodesV w' (.slice a3 LL.length c3) LL → TreeW a1 fx.length none ([] : List OpT).length w.heap.size w' (.agg #[.slice a3 LL.length c3, .slice none 0 0, .int .i64 bb.1, .int .i64 bb.2]) (nodesP fx (([] : List OpT).take ([] : List OpT).length), ([] : List OpT).drop ([] : List OpT).length, bb)) := fun w' bb hb hn => by
            rw [← HLL.out, List.drop_length]
            obtain ⟨a4, c4, e4, hn4⟩ := hn
            injection e4 with e41 e42 e43
            subst e41
            subst e43
            exact ⟨⟨_, _, _, _, rfl, hn4, ⟨rfl, .inl rfl⟩, .inl ⟨rfl, rfl, rfl⟩⟩, ⟨_, _, _, _, rfl, HAd.out, fun x n c e => by cases e <;> exact .inl ⟨_, rfl, rfl, by first | exact Nat.zero_le _ | omega⟩⟩⟩
          have t0 : World.cell? _ ⟨g, 0, none⟩ = some (.slice a3 LL.length c3) := TX.out.cell 0
          have t1 : World.cell? _ ⟨g, 1, none⟩ = some (.slice none 0 0) := TX.out.cell 1
          have t2 : World.cell? _ ⟨g, 2, none⟩ = some (.int .i64 b1) := TX.out.cell 2
          have t3 : World.cell? _ ⟨g, 3, none⟩ = some (.int .i64 b2) := TX.out.cell 3
          have f1 := TX.out.free 1
          have z0 : World.cell? _ ⟨g + 1, 0, none⟩ = some (.int .i64 x) := SX.out.cell 0
          have z1 : World.cell? _ ⟨g + 1, 1, none⟩ = some (.int .i64 y) := SX.out.cell 1
          have T6 : Hid (Blk (World.setCell _ ⟨g, 1, none⟩ (.slice none 0 0)) 27 g #[.slice a3 LL.length c3, .slice none 0 0, .int .i64 b1, .int .i64 b2]) := TX.out.setAt 1 _
          have S6 : Hid (Blk (World.setCell _ ⟨g, 1, none⟩ (.slice none 0 0)) 24 (g + 1) #[.int .i64 x, .int .i64 y]) := SX.out.other ⟨g, 1, none⟩ (by show g + 1 ≠ g; omega) _
          have R6 : Hid (Blk (World.setCell _ ⟨g, 1, none⟩ (.slice none 0 0)) 27 (g + 2) #[.slice none 0 0, .slice none 0 0, .int .i64 0, .int .i64 0]) := RX.out.other ⟨g, 1, none⟩ (by show g + 2 ≠ g; omega) _
          have B6 : Hid (Below w.heap.size w (World.setCell _ ⟨g, 1, none⟩ (.slice none 0 0))) := BX.out.setCell (p := ⟨g, 1, none⟩) Lg.out _
          have N6 : Hid (NodesV (World.setCell _ ⟨g, 1, none⟩ (.slice none 0 0)) (.slice a3 LL.length c3) LL) := NX.out.set TX.out (show 4 < 6 by decide) 1 _
          go_wp2_with fail
          have CL2 := fun w => rless_any (b1, b2) (x, y) w
          by_cases hLB : LessS (b1, b2) (x, y)
          · rw [decide_eq_true hLB] at CL2
            have HB : Hid ((if LessS (b1, b2) (x, y) then (x, y) else (b1, b2)) = (x, y)) := if_pos hLB
            have CB : Hid (∀ w, Calls Tryd.prog 15 #[.agg #[.int .i64 b1, .int .i64 b2], .agg #[.int .i64 x, .int .i64 y]] w fun e w' => e = .returned (.bool true) ∧ Below w.heap.size w w') := CL2
            clear CL2 hLB
            refine (CB.out _).mono ?_
            rintro e w7 ⟨rfl, hb7⟩
            have T7 : Hid (Blk w7 27 g #[.slice a3 LL.length c3, .slice none 0 0, .int .i64 b1, .int .i64 b2]) := T6.out.on hb7
            have S7 : Hid (Blk w7 24 (g + 1) #[.int .i64 x, .int .i64 y]) := S6.out.on hb7
            have R7 : Hid (Blk w7 27 (g + 2) #[.slice none 0 0, .slice none 0 0, .int .i64 0, .int .i64 0]) := R6.out.on hb7
            have B7 : Hid (Below w.heap.size w w7) := below_step B6.out (Nat.le_refl _) hb7
            have N7 : Hid (NodesV w7 (.slice a3 LL.length c3) LL) := N6.out.on hb7
            clear hb7 T6 S6 R6 B6 N6 t0 t1 t2 t3 f1 z0 z1 CB
            have t0 : w7.cell? ⟨g, 0, none⟩ = some (.slice a3 LL.length c3) := T7.out.cell 0
            have t1 : w7.cell? ⟨g, 1, none⟩ = some (.slice none 0 0) := T7.out.cell 1
            have t2 : w7.cell? ⟨g, 2, none⟩ = some (.int .i64 b1) := T7.out.cell 2
            have t3 : w7.cell? ⟨g, 3, none⟩ = some (.int .i64 b2) := T7.out.cell 3
            have f2 := T7.out.free 2
            have f3 := T7.out.free 3
            have z0 : w7.cell? ⟨g + 1, 0, none⟩ = some (.int .i64 x) := S7.out.cell 0
            have z1 : w7.cell? ⟨g + 1, 1, none⟩ = some (.int .i64 y) := S7.out.cell 1
            have T8 : Hid (Blk (w7.setCell ⟨g, 2, none⟩ (.int .i64 x)) 27 g #[.slice a3 LL.length c3, .slice none 0 0, .int .i64 x, .int .i64 b2]) := T7.out.setAt 2 _
            have R9 : Hid (Blk ((w7.setCell ⟨g, 2, none⟩ (.int .i64 x)).setCell ⟨g, 3, none⟩ (.int .i64 y)) 27 (g + 2) #[.slice none 0 0, .slice none 0 0, .int .i64 0, .int .i64 0]) := (R7.out.other ⟨g, 2, none⟩ (by show g + 2 ≠ g; omega) _).other ⟨g, 3, none⟩ (by show g + 2 ≠ g; omega) _
            have B9 : Hid (Below w.heap.size w ((w7.setCell ⟨g, 2, none⟩ (.int .i64 x)).setCell ⟨g, 3, none⟩ (.int .i64 y))) := (B7.out.setCell (p := ⟨g, 2, none⟩) Lg.out _).setCell (p := ⟨g, 3, none⟩) Lg.out _
            have N9 : Hid (NodesV ((w7.setCell ⟨g, 2, none⟩ (.int .i64 x)).setCell ⟨g, 3, none⟩ (.int .i64 y)) (.slice a3 LL.length c3) LL) := (N7.out.set T7.out (show 4 < 6 by decide) 2 _).set T8.out (show 4 < 6 by decide) 3 _
            clear T7 S7 R7 B7 N7 T8
            go_wp2_with (with_reducible refine wpList_storeBlkH rfl 27 _ _ rfl (g + 2) #[.slice none 0 0, .slice none 0 0, .int .i64 0, .int .i64 0] #[.slice a3 LL.length c3, .slice none 0 0, .int .i64 x, .int .i64 y] ?hxI ?hyI R9.out rfl ?hiI ?h1I ?_)
            try (case hxI => rfl)
            try (case hyI => rfl)
            case hiI => first | kernel_rfl | (refine Option.map_eq_some_iff.1 (?_ : (Tryd.prog.info? 27).map (·.size) = some 4); kernel_rfl)
            case h1I => simp [Value.oneCell']
            unfold Hid
            go_wp2
            exact bodyPost_rowTmp rfl (g + 2) #[.slice a3 LL.length c3, .slice none 0 0, .int .i64 x, .int .i64 y] _ rfl rfl rfl (R9.out.setRow _) _ Tryd.underlying27 rfl (by kernel_rfl) ⟨_, by rw [HPK.out]; rfl, by rw [HTN.out, HPK.out, HB.out]; exact HFIN.out _ (x, y) (below_setRow B9.out (Nat.le_trans Lg.out (by omega)) _) (N9.out.setR R9.out (show 4 < 6 by decide) _), below_setRow B9.out (Nat.le_trans Lg.out (by omega)) _⟩
          · rw [decide_eq_false hLB] at CL2
            have HB : Hid ((if LessS (b1, b2) (x, y) then (x, y) else (b1, b2)) = (b1, b2)) := if_neg hLB
            have CB : Hid (∀ w, Calls Tryd.prog 15 #[.agg #[.int .i64 b1, .int .i64 b2], .agg #[.int .i64 x, .int .i64 y]] w fun e w' => e = .returned (.bool false) ∧ Below w.heap.size w w') := CL2
            clear CL2 hLB
            refine (CB.out _).mono ?_
            rintro e w7 ⟨rfl, hb7⟩
            have T7 : Hid (Blk w7 27 g #[.slice a3 LL.length c3, .slice none 0 0, .int .i64 b1, .int .i64 b2]) := T6.out.on hb7
            have R7 : Hid (Blk w7 27 (g + 2) #[.slice none 0 0, .slice none 0 0, .int .i64 0, .int .i64 0]) := R6.out.on hb7
            have B7 : Hid (Below w.heap.size w w7) := below_step B6.out (Nat.le_refl _) hb7
            have N7 : Hid (NodesV w7 (.slice a3 LL.length c3) LL) := N6.out.on hb7
            clear hb7 T6 S6 R6 B6 N6 t0 t1 t2 t3 f1 z0 z1 CB
            have t0 : w7.cell? ⟨g, 0, none⟩ = some (.slice a3 LL.length c3) := T7.out.cell 0
            have t1 : w7.cell? ⟨g, 1, none⟩ = some (.slice none 0 0) := T7.out.cell 1
            have t2 : w7.cell? ⟨g, 2, none⟩ = some (.int .i64 b1) := T7.out.cell 2
            have t3 : w7.cell? ⟨g, 3, none⟩ = some (.int .i64 b2) := T7.out.cell 3
            go_wp2_with (with_reducible refine wpList_storeBlkH rfl 27 _ _ rfl (g + 2) #[.slice none 0 0, .slice none 0 0, .int .i64 0, .int .i64 0] #[.slice a3 LL.length c3, .slice none 0 0, .int .i64 b1, .int .i64 b2] ?hxIb ?hyIb R7.out rfl ?hiIb ?h1Ib ?_)
            try (case hxIb => rfl)
            try (case hyIb => rfl)
            case hiIb => first | kernel_rfl | (refine Option.map_eq_some_iff.1 (?_ : (Tryd.prog.info? 27).map (·.size) = some 4); kernel_rfl)
            case h1Ib => simp [Value.oneCell']
            unfold Hid
            go_wp2
            exact bodyPost_rowTmp rfl (g + 2) #[.slice a3 LL.length c3, .slice none 0 0, .int .i64 b1, .int .i64 b2] _ rfl rfl rfl (R7.out.setRow _) _ Tryd.underlying27 rfl (by kernel_rfl) ⟨_, by rw [HPK.out]; rfl, by rw [HTN.out, HPK.out, HB.out]; exact HFIN.out _ (b1, b2) (below_setRow B7.out (Nat.le_trans Lg.out (by omega)) _) (N7.out.setR R7.out (show 4 < 6 by decide) _), below_setRow B7.out (Nat.le_trans Lg.out (by omega)) _⟩
        · skip
          go_wp2_with fail
          refine wp_region_noPanic ?_
          refine wp_region_held_drew (S := fun w' => w'.cell? ⟨g, 1, none⟩ = some (.slice (some z) 0 c2)) (by kernel_rfl) (by first | exact trivial | assumption | exact ⟨by assumption, by assumption⟩) (fun hHeld => ?_)
          refine tk 0 (v := ?_) rfl rfl ?_ ?_
          rotate_left
          · intro w hSw; (try dsimp only at hSw); go_simp; try with_reducible rfl
          try simp only [Act.put, za, zb, zc]
          refine tk 1 (v := ?_) rfl rfl ?_ ?_
          rotate_left
          · intro w hSw; (try dsimp only at hSw); go_simp; try with_reducible rfl
          try simp only [Act.put, za, zb, zc]
          refine tk 2 (v := ?_) rfl rfl ?_ ?_
          rotate_left
          · intro w hSw; (try dsimp only at hSw); go_simp; try with_reducible rfl
          try simp only [Act.put, za, zb, zc]
          refine tk 3 (v := ?_) rfl rfl ?_ ?_
          rotate_left
          · intro w hSw; (try dsimp only at hSw); go_simp; try with_reducible rfl
          try simp only [Act.put, za, zb, zc]
          refine tk 4 (v := ?_) rfl rfl ?_ ?_
          rotate_left
          · intro w hSw; (try dsimp only at hSw); go_simp; try with_reducible rfl
          try simp only [Act.put, za, zb, zc]
          refine tk 5 (v := ?_) rfl rfl ?_ ?_
          rotate_left
          · intro w hSw; (try dsimp only at hSw); go_simp; try with_reducible rfl
          try simp only [Act.put, za, zb, zc]
          refine tn 6 rfl rfl ?_
          try simp only [Act.put, za, zb, zc]
          refine tn 7 rfl rfl ?_
          try simp only [Act.put, za, zb, zc]
          refine tn 8 rfl rfl ?_
          try simp only [Act.put, za, zb, zc]
          refine tn 9 rfl rfl ?_
          try simp only [Act.put, za, zb, zc]
          refine tn 10 rfl rfl ?_
          try simp only [Act.put, za, zb, zc]
          refine tn 11 rfl rfl ?_
          try simp only [Act.put, za, zb, zc]
          refine tn 12 rfl rfl ?_
          try simp only [Act.put, za, zb, zc]
          refine tn 13 rfl rfl ?_
          try simp only [Act.put, za, zb, zc]
          refine tn 14 rfl rfl ?_
          try simp only [Act.put, za, zb, zc]
          refine tk 15 (v := ?_) rfl rfl ?_ ?_
          rotate_left
          · intro w hSw; (try dsimp only at hSw); go_simp; try with_reducible rfl
          try simp only [Act.put, za, zb, zc]
          refine wpAnyH_done (by kernel_rfl) (NoPanic.normal ?_) _
          clear hS0 hHeld
          have hdw : Hid (Below wr.heap.size wr wr.drew) := (Below.refl _ _).drew
          have NX : Hid (NodesV wr.drew (.slice a3 LL.length c3) LL) := N.out.on hdw.out
          have TX : Hid (Blk wr.drew 27 g #[.slice a3 LL.length c3, .slice (some z) 0 c2, .int .i64 b1, .int .i64 b2]) := T.out.on hdw.out
          have SX : Hid (Blk wr.drew 24 (g + 1) #[.int .i64 x, .int .i64 y]) := S.out.on hdw.out
          have RX : Hid (Blk wr.drew 27 (g + 2) #[.slice none 0 0, .slice none 0 0, .int .i64 0, .int .i64 0]) := R.out.on hdw.out
          have BX : Hid (Below w.heap.size w wr.drew) := B.out.drew
          clear T S R B N hdw
          generalize wr.drew = w3 at *
          have HFIN : Hid (∀ w' (bb : Int × Int), Below w.heap.size w w' → NodesV w' (.slice a3 LL.length c3) LL → TreeW a1 fx.length (some z) ([] : List OpT).length w.heap.size w' (.agg #[.slice a3 LL.length c3, .slice (some z) 0 c2, .int .i64 bb.1, .int .i64 bb.2]) (nodesP fx (([] : List OpT).take ([] : List OpT).length), ([] : List OpT).drop ([] : List OpT).length, bb)) := fun w' bb hb hn => by
            rw [← HLL.out, List.drop_length]
            obtain ⟨a4, c4, e4, hn4⟩ := hn
            injection e4 with e41 e42 e43
            subst e41
            subst e43
            exact ⟨⟨_, _, _, _, rfl, hn4, ⟨rfl, .inl rfl⟩, .inr ⟨_, rfl, Nat.zero_le _⟩⟩, ⟨_, _, _, _, rfl, HAd.out, fun x n c e => by cases e <;> exact .inl ⟨_, rfl, rfl, by first | exact Nat.zero_le _ | omega⟩⟩⟩
          have t0 : World.cell? _ ⟨g, 0, none⟩ = some (.slice a3 LL.length c3) := TX.out.cell 0
          have t1 : World.cell? _ ⟨g, 1, none⟩ = some (.slice (some z) 0 c2) := TX.out.cell 1
          have t2 : World.cell? _ ⟨g, 2, none⟩ = some (.int .i64 b1) := TX.out.cell 2
          have t3 : World.cell? _ ⟨g, 3, none⟩ = some (.int .i64 b2) := TX.out.cell 3
          have f1 := TX.out.free 1
          have z0 : World.cell? _ ⟨g + 1, 0, none⟩ = some (.int .i64 x) := SX.out.cell 0
          have z1 : World.cell? _ ⟨g + 1, 1, none⟩ = some (.int .i64 y) := SX.out.cell 1
          have T6 : Hid (Blk (World.setCell _ ⟨g, 1, none⟩ (.slice (some z) 0 c2)) 27 g #[.slice a3 LL.length c3, .slice (some z) 0 c2, .int .i64 b1, .int .i64 b2]) := TX.out.setAt 1 _
          have S6 : Hid (Blk (World.setCell _ ⟨g, 1, none⟩ (.slice (some z) 0 c2)) 24 (g + 1) #[.int .i64 x, .int .i64 y]) := SX.out.other ⟨g, 1, none⟩ (by show g + 1 ≠ g; omega) _
          have R6 : Hid (Blk (World.setCell _ ⟨g, 1, none⟩ (.slice (some z) 0 c2)) 27 (g + 2) #[.slice none 0 0, .slice none 0 0, .int .i64 0, .int .i64 0]) := RX.out.other ⟨g, 1, none⟩ (by show g + 2 ≠ g; omega) _
          have B6 : Hid (Below w.heap.size w (World.setCell _ ⟨g, 1, none⟩ (.slice (some z) 0 c2))) := BX.out.setCell (p := ⟨g, 1, none⟩) Lg.out _
          have N6 : Hid (NodesV (World.setCell _ ⟨g, 1, none⟩ (.slice (some z) 0 c2)) (.slice a3 LL.length c3) LL) := NX.out.set TX.out (show 4 < 6 by decide) 1 _
          go_wp2_with fail
          have CL2 := fun w => rless_any (b1, b2) (x, y) w
          by_cases hLB : LessS (b1, b2) (x, y)
          · rw [decide_eq_true hLB] at CL2
            have HB : Hid ((if LessS (b1, b2) (x, y) then (x, y) else (b1, b2)) = (x, y)) := if_pos hLB
            have CB : Hid (∀ w, Calls Tryd.prog 15 #[.agg #[.int .i64 b1, .int .i64 b2], .agg #[.int .i64 x, .int .i64 y]] w fun e w' => e = .returned (.bool true) ∧ Below w.heap.size w w') := CL2
            clear CL2 hLB
            refine (CB.out _).mono ?_
            rintro e w7 ⟨rfl, hb7⟩
            have T7 : Hid (Blk w7 27 g #[.slice a3 LL.length c3, .slice (some z) 0 c2, .int .i64 b1, .int .i64 b2]) := T6.out.on hb7
            have S7 : Hid (Blk w7 24 (g + 1) #[.int .i64 x, .int .i64 y]) := S6.out.on hb7
            have R7 : Hid (Blk w7 27 (g + 2) #[.slice none 0 0, .slice none 0 0, .int .i64 0, .int .i64 0]) := R6.out.on hb7
            have B7 : Hid (Below w.heap.size w w7) := below_step B6.out (Nat.le_refl _) hb7
            have N7 : Hid (NodesV w7 (.slice a3 LL.length c3) LL) := N6.out.on hb7
            clear hb7 T6 S6 R6 B6 N6 t0 t1 t2 t3 f1 z0 z1 CB
            have t0 : w7.cell? ⟨g, 0, none⟩ = some (.slice a3 LL.length c3) := T7.out.cell 0
            have t1 : w7.cell? ⟨g, 1, none⟩ = some (.slice (some z) 0 c2) := T7.out.cell 1
            have t2 : w7.cell? ⟨g, 2, none⟩ = some (.int .i64 b1) := T7.out.cell 2
            have t3 : w7.cell? ⟨g, 3, none⟩ = some (.int .i64 b2) := T7.out.cell 3
            have f2 := T7.out.free 2
            have f3 := T7.out.free 3
            have z0 : w7.cell? ⟨g + 1, 0, none⟩ = some (.int .i64 x) := S7.out.cell 0
            have z1 : w7.cell? ⟨g + 1, 1, none⟩ = some (.int .i64 y) := S7.out.cell 1
            have T8 : Hid (Blk (w7.setCell ⟨g, 2, none⟩ (.int .i64 x)) 27 g #[.slice a3 LL.length c3, .slice (some z) 0 c2, .int .i64 x, .int .i64 b2]) := T7.out.setAt 2 _
            have R9 : Hid (Blk ((w7.setCell ⟨g, 2, none⟩ (.int .i64 x)).setCell ⟨g, 3, none⟩ (.int .i64 y)) 27 (g + 2) #[.slice none 0 0, .slice none 0 0, .int .i64 0, .int .i64 0]) := (R7.out.other ⟨g, 2, none⟩ (by show g + 2 ≠ g; omega) _).other ⟨g, 3, none⟩ (by show g + 2 ≠ g; omega) _
            have B9 : Hid (Below w.heap.size w ((w7.setCell ⟨g, 2, none⟩ (.int .i64 x)).setCell ⟨g, 3, none⟩ (.int .i64 y))) := (B7.out.setCell (p := ⟨g, 2, none⟩) Lg.out _).setCell (p := ⟨g, 3, none⟩) Lg.out _
            have N9 : Hid (NodesV ((w7.setCell ⟨g, 2, none⟩ (.int .i64 x)).setCell ⟨g, 3, none⟩ (.int .i64 y)) (.slice a3 LL.length c3) LL) := (N7.out.set T7.out (show 4 < 6 by decide) 2 _).set T8.out (show 4 < 6 by decide) 3 _
            clear T7 S7 R7 B7 N7 T8
            go_wp2_with (with_reducible refine wpList_storeBlkH rfl 27 _ _ rfl (g + 2) #[.slice none 0 0, .slice none 0 0, .int .i64 0, .int .i64 0] #[.slice a3 LL.length c3, .slice (some z) 0 c2, .int .i64 x, .int .i64 y] ?hxJ ?hyJ R9.out rfl ?hiJ ?h1J ?_)
            try (case hxJ => rfl)
            try (case hyJ => rfl)
            case hiJ => first | kernel_rfl | (refine Option.map_eq_some_iff.1 (?_ : (Tryd.prog.info? 27).map (·.size) = some 4); kernel_rfl)
            case h1J => simp [Value.oneCell']
            unfold Hid
            go_wp2
            exact bodyPost_rowTmp rfl (g + 2) #[.slice a3 LL.length c3, .slice (some z) 0 c2, .int .i64 x, .int .i64 y] _ rfl rfl rfl (R9.out.setRow _) _ Tryd.underlying27 rfl (by kernel_rfl) ⟨_, by rw [HPK.out]; rfl, by rw [HTN.out, HPK.out, HB.out]; exact HFIN.out _ (x, y) (below_setRow B9.out (Nat.le_trans Lg.out (by omega)) _) (N9.out.setR R9.out (show 4 < 6 by decide) _), below_setRow B9.out (Nat.le_trans Lg.out (by omega)) _⟩
          · rw [decide_eq_false hLB] at CL2
            have HB : Hid ((if LessS (b1, b2) (x, y) then (x, y) else (b1, b2)) = (b1, b2)) := if_neg hLB
            have CB : Hid (∀ w, Calls Tryd.prog 15 #[.agg #[.int .i64 b1, .int .i64 b2], .agg #[.int .i64 x, .int .i64 y]] w fun e w' => e = .returned (.bool false) ∧ Below w.heap.size w w') := CL2
            clear CL2 hLB
            refine (CB.out _).mono ?_
            rintro e w7 ⟨rfl, hb7⟩
            have T7 : Hid (Blk w7 27 g #[.slice a3 LL.length c3, .slice (some z) 0 c2, .int .i64 b1, .int .i64 b2]) := T6.out.on hb7
            have R7 : Hid (Blk w7 27 (g + 2) #[.slice none 0 0, .slice none 0 0, .int .i64 0, .int .i64 0]) := R6.out.on hb7
            have B7 : Hid (Below w.heap.size w w7) := below_step B6.out (Nat.le_refl _) hb7
            have N7 : Hid (NodesV w7 (.slice a3 LL.length c3) LL) := N6.out.on hb7
            clear hb7 T6 S6 R6 B6 N6 t0 t1 t2 t3 f1 z0 z1 CB
            have t0 : w7.cell? ⟨g, 0, none⟩ = some (.slice a3 LL.length c3) := T7.out.cell 0
            have t1 : w7.cell? ⟨g, 1, none⟩ = some (.slice (some z) 0 c2) := T7.out.cell 1
            have t2 : w7.cell? ⟨g, 2, none⟩ = some (.int .i64 b1) := T7.out.cell 2
            have t3 : w7.cell? ⟨g, 3, none⟩ = some (.int .i64 b2) := T7.out.cell 3
            go_wp2_with (with_reducible refine wpList_storeBlkH rfl 27 _ _ rfl (g + 2) #[.slice none 0 0, .slice none 0 0, .int .i64 0, .int .i64 0] #[.slice a3 LL.length c3, .slice (some z) 0 c2, .int .i64 b1, .int .i64 b2] ?hxJb ?hyJb R7.out rfl ?hiJb ?h1Jb ?_)
            try (case hxJb => rfl)
            try (case hyJb => rfl)
            case hiJb => first | kernel_rfl | (refine Option.map_eq_some_iff.1 (?_ : (Tryd.prog.info? 27).map (·.size) = some 4); kernel_rfl)
            case h1Jb => simp [Value.oneCell']
            unfold Hid
            go_wp2
            exact bodyPost_rowTmp rfl (g + 2) #[.slice a3 LL.length c3, .slice (some z) 0 c2, .int .i64 b1, .int .i64 b2] _ rfl rfl rfl (R7.out.setRow _) _ Tryd.underlying27 rfl (by kernel_rfl) ⟨_, by rw [HPK.out]; rfl, by rw [HTN.out, HPK.out, HB.out]; exact HFIN.out _ (b1, b2) (below_setRow B7.out (Nat.le_trans Lg.out (by omega)) _) (N7.out.setR R7.out (show 4 < 6 by decide) _), below_setRow B7.out (Nat.le_trans Lg.out (by omega)) _⟩
      · obtain ⟨b, off, rfl, _⟩ := H2.out.2.some (by omega)
        have hcap := H3.out.cap
        have e3 : (ops.length : Int) ≤ (c2 : Int) := by omega
        by_cases hck : c2 - ops.length = 0
        · skip
          go_wp2_with fail
          refine wp_region_noPanic ?_
          refine wp_region_held_drew (S := fun w' => w'.cell? ⟨g, 1, none⟩ = some (.slice (some ⟨b, off, none⟩) ops.length c2)) (by kernel_rfl) (by first | exact trivial | assumption | exact ⟨by assumption, by assumption⟩) (fun hHeld => ?_)
          refine tk 0 (v := ?_) rfl rfl ?_ ?_
          rotate_left
          · intro w hSw; (try dsimp only at hSw); go_simp; try with_reducible rfl
          try simp only [Act.put, za, zb, zc]
          refine tk 1 (v := ?_) rfl rfl ?_ ?_
          rotate_left
          · intro w hSw; (try dsimp only at hSw); go_simp; try with_reducible rfl
          try simp only [Act.put, za, zb, zc]
          refine tk 2 (v := ?_) rfl rfl ?_ ?_
          rotate_left
          · intro w hSw; (try dsimp only at hSw); go_simp; try with_reducible rfl
          try simp only [Act.put, za, zb, zc]
          refine tk 3 (v := ?_) rfl rfl ?_ ?_
          rotate_left
          · intro w hSw; (try dsimp only at hSw); go_simp; try with_reducible rfl
          try simp only [Act.put, za, zb, zc]
          refine tk 4 (v := ?_) rfl rfl ?_ ?_
          rotate_left
          · intro w hSw; (try dsimp only at hSw); go_simp; try with_reducible rfl
          try simp only [Act.put, za, zb, zc]
          refine tk 5 (v := ?_) rfl rfl ?_ ?_
          rotate_left
          · intro w hSw; (try dsimp only at hSw); go_simp; try with_reducible rfl
          try simp only [Act.put, za, zb, zc]
          refine tn 6 rfl rfl ?_
          try simp only [Act.put, za, zb, zc]
          refine tn 7 rfl rfl ?_
          try simp only [Act.put, za, zb, zc]
          refine tn 8 rfl rfl ?_
          try simp only [Act.put, za, zb, zc]
          refine tn 9 rfl rfl ?_
          try simp only [Act.put, za, zb, zc]
          refine tn 10 rfl rfl ?_
          try simp only [Act.put, za, zb, zc]
          refine tn 11 rfl rfl ?_
          try simp only [Act.put, za, zb, zc]
          refine tn 12 rfl rfl ?_
          try simp only [Act.put, za, zb, zc]
          refine tn 13 rfl rfl ?_
          try simp only [Act.put, za, zb, zc]
          refine tn 14 rfl rfl ?_
          try simp only [Act.put, za, zb, zc]
          refine tk 15 (v := ?_) rfl rfl ?_ ?_
          rotate_left
          · intro w hSw; (try dsimp only at hSw); go_simp; try with_reducible rfl
          try simp only [Act.put, za, zb, zc]
          refine wpAnyH_done (by kernel_rfl) (NoPanic.normal ?_) _
          clear hS0 hHeld
          have hdw : Hid (Below wr.heap.size wr wr.drew) := (Below.refl _ _).drew
          have NX : Hid (NodesV wr.drew (.slice a3 LL.length c3) LL) := N.out.on hdw.out
          have TX : Hid (Blk wr.drew 27 g #[.slice a3 LL.length c3, .slice (some ⟨b, off, none⟩) ops.length c2, .int .i64 b1, .int .i64 b2]) := T.out.on hdw.out
          have SX : Hid (Blk wr.drew 24 (g + 1) #[.int .i64 x, .int .i64 y]) := S.out.on hdw.out
          have RX : Hid (Blk wr.drew 27 (g + 2) #[.slice none 0 0, .slice none 0 0, .int .i64 0, .int .i64 0]) := R.out.on hdw.out
          have BX : Hid (Below w.heap.size w wr.drew) := B.out.drew
          clear T S R B N hdw
          generalize wr.drew = w3 at *
          have HFIN : Hid (∀ w' (bb : Int × Int), Below w.heap.size w w' → NodesV w' (.slice a3 LL.length c3) LL → TreeW a1 fx.length (some ⟨b, off, none⟩) ops.length w.heap.size w' (.agg #[.slice a3 LL.length c3, .slice (some ⟨b, off, none⟩) 0 0, .int .i64 bb.1, .int .i64 bb.2]) (nodesP fx (ops.take ops.length), ops.drop ops.length, bb)) := fun w' bb hb hn => by
            rw [← HLL.out, List.drop_length]
            obtain ⟨a4, c4, e4, hn4⟩ := hn
            injection e4 with e41 e42 e43
            subst e41
            subst e43
            exact ⟨⟨_, _, _, _, rfl, hn4, ⟨rfl, .inl rfl⟩, .inr ⟨_, rfl, Nat.zero_le _⟩⟩, ⟨_, _, _, _, rfl, HAd.out, fun x n c e => by cases e <;> exact .inl ⟨_, rfl, rfl, by first | exact Nat.zero_le _ | omega⟩⟩⟩
          have t0 : World.cell? _ ⟨g, 0, none⟩ = some (.slice a3 LL.length c3) := TX.out.cell 0
          have t1 : World.cell? _ ⟨g, 1, none⟩ = some (.slice (some ⟨b, off, none⟩) ops.length c2) := TX.out.cell 1
          have t2 : World.cell? _ ⟨g, 2, none⟩ = some (.int .i64 b1) := TX.out.cell 2
          have t3 : World.cell? _ ⟨g, 3, none⟩ = some (.int .i64 b2) := TX.out.cell 3
          have f1 := TX.out.free 1
          have z0 : World.cell? _ ⟨g + 1, 0, none⟩ = some (.int .i64 x) := SX.out.cell 0
          have z1 : World.cell? _ ⟨g + 1, 1, none⟩ = some (.int .i64 y) := SX.out.cell 1
          have T6 : Hid (Blk (World.setCell _ ⟨g, 1, none⟩ (.slice (some ⟨b, off, none⟩) 0 0)) 27 g #[.slice a3 LL.length c3, .slice (some ⟨b, off, none⟩) 0 0, .int .i64 b1, .int .i64 b2]) := TX.out.setAt 1 _
          have S6 : Hid (Blk (World.setCell _ ⟨g, 1, none⟩ (.slice (some ⟨b, off, none⟩) 0 0)) 24 (g + 1) #[.int .i64 x, .int .i64 y]) := SX.out.other ⟨g, 1, none⟩ (by show g + 1 ≠ g; omega) _
          have R6 : Hid (Blk (World.setCell _ ⟨g, 1, none⟩ (.slice (some ⟨b, off, none⟩) 0 0)) 27 (g + 2) #[.slice none 0 0, .slice none 0 0, .int .i64 0, .int .i64 0]) := RX.out.other ⟨g, 1, none⟩ (by show g + 2 ≠ g; omega) _
          have B6 : Hid (Below w.heap.size w (World.setCell _ ⟨g, 1, none⟩ (.slice (some ⟨b, off, none⟩) 0 0))) := BX.out.setCell (p := ⟨g, 1, none⟩) Lg.out _
          have N6 : Hid (NodesV (World.setCell _ ⟨g, 1, none⟩ (.slice (some ⟨b, off, none⟩) 0 0)) (.slice a3 LL.length c3) LL) := NX.out.set TX.out (show 4 < 6 by decide) 1 _
          go_wp2_with fail
          have CL2 := fun w => rless_any (b1, b2) (x, y) w
          by_cases hLB : LessS (b1, b2) (x, y)
          · rw [decide_eq_true hLB] at CL2
            have HB : Hid ((if LessS (b1, b2) (x, y) then (x, y) else (b1, b2)) = (x, y)) := if_pos hLB
            have CB : Hid (∀ w, Calls Tryd.prog 15 #[.agg #[.int .i64 b1, .int .i64 b2], .agg #[.int .i64 x, .int .i64 y]] w fun e w' => e = .returned (.bool true) ∧ Below w.heap.size w w') := CL2
            clear CL2 hLB
            refine (CB.out _).mono ?_
            rintro e w7 ⟨rfl, hb7⟩
            have T7 : Hid (Blk w7 27 g #[.slice a3 LL.length c3, .slice (some ⟨b, off, none⟩) 0 0, .int .i64 b1, .int .i64 b2]) := T6.out.on hb7
            have S7 : Hid (Blk w7 24 (g + 1) #[.int .i64 x, .int .i64 y]) := S6.out.on hb7
            have R7 : Hid (Blk w7 27 (g + 2) #[.slice none 0 0, .slice none 0 0, .int .i64 0, .int .i64 0]) := R6.out.on hb7
            have B7 : Hid (Below w.heap.size w w7) := below_step B6.out (Nat.le_refl _) hb7
            have N7 : Hid (NodesV w7 (.slice a3 LL.length c3) LL) := N6.out.on hb7
            clear hb7 T6 S6 R6 B6 N6 t0 t1 t2 t3 f1 z0 z1 CB
            have t0 : w7.cell? ⟨g, 0, none⟩ = some (.slice a3 LL.length c3) := T7.out.cell 0
            have t1 : w7.cell? ⟨g, 1, none⟩ = some (.slice (some ⟨b, off, none⟩) 0 0) := T7.out.cell 1
            have t2 : w7.cell? ⟨g, 2, none⟩ = some (.int .i64 b1) := T7.out.cell 2
            have t3 : w7.cell? ⟨g, 3, none⟩ = some (.int .i64 b2) := T7.out.cell 3
            have f2 := T7.out.free 2
            have f3 := T7.out.free 3
            have z0 : w7.cell? ⟨g + 1, 0, none⟩ = some (.int .i64 x) := S7.out.cell 0
            have z1 : w7.cell? ⟨g + 1, 1, none⟩ = some (.int .i64 y) := S7.out.cell 1
            have T8 : Hid (Blk (w7.setCell ⟨g, 2, none⟩ (.int .i64 x)) 27 g #[.slice a3 LL.length c3, .slice (some ⟨b, off, none⟩) 0 0, .int .i64 x, .int .i64 b2]) := T7.out.setAt 2 _
            have R9 : Hid (Blk ((w7.setCell ⟨g, 2, none⟩ (.int .i64 x)).setCell ⟨g, 3, none⟩ (.int .i64 y)) 27 (g + 2) #[.slice none 0 0, .slice none 0 0, .int .i64 0, .int .i64 0]) := (R7.out.other ⟨g, 2, none⟩ (by show g + 2 ≠ g; omega) _).other ⟨g, 3, none⟩ (by show g + 2 ≠ g; omega) _
            have B9 : Hid (Below w.heap.size w ((w7.setCell ⟨g, 2, none⟩ (.int .i64 x)).setCell ⟨g, 3, none⟩ (.int .i64 y))) := (B7.out.setCell (p := ⟨g, 2, none⟩) Lg.out _).setCell (p := ⟨g, 3, none⟩) Lg.out _
            have N9 : Hid (NodesV ((w7.setCell ⟨g, 2, none⟩ (.int .i64 x)).setCell ⟨g, 3, none⟩ (.int .i64 y)) (.slice a3 LL.length c3) LL) := (N7.out.set T7.out (show 4 < 6 by decide) 2 _).set T8.out (show 4 < 6 by decide) 3 _
            clear T7 S7 R7 B7 N7 T8
            go_wp2_with (with_reducible refine wpList_storeBlkH rfl 27 _ _ rfl (g + 2) #[.slice none 0 0, .slice none 0 0, .int .i64 0, .int .i64 0] #[.slice a3 LL.length c3, .slice (some ⟨b, off, none⟩) 0 0, .int .i64 x, .int .i64 y] ?hxK ?hyK R9.out rfl ?hiK ?h1K ?_)
            try (case hxK => rfl)
            try (case hyK => rfl)
            case hiK => first | kernel_rfl | (refine Option.map_eq_some_iff.1 (?_ : (Tryd.prog.info? 27).map (·.size) = some 4); kernel_rfl)
            case h1K => simp [Value.oneCell']
            unfold Hid
            go_wp2
            exact bodyPost_rowTmp rfl (g + 2) #[.slice a3 LL.length c3, .slice (some ⟨b, off, none⟩) 0 0, .int .i64 x, .int .i64 y] _ rfl rfl rfl (R9.out.setRow _) _ Tryd.underlying27 rfl (by kernel_rfl) ⟨_, by rw [HPK.out]; rfl, by rw [HTN.out, HPK.out, HB.out]; exact HFIN.out _ (x, y) (below_setRow B9.out (Nat.le_trans Lg.out (by omega)) _) (N9.out.setR R9.out (show 4 < 6 by decide) _), below_setRow B9.out (Nat.le_trans Lg.out (by omega)) _⟩
          · rw [decide_eq_false hLB] at CL2
            have HB : Hid ((if LessS (b1, b2) (x, y) then (x, y) else (b1, b2)) = (b1, b2)) := if_neg hLB
            have CB : Hid (∀ w, Calls Tryd.prog 15 #[.agg #[.int .i64 b1, .int .i64 b2], .agg #[.int .i64 x, .int .i64 y]] w fun e w' => e = .returned (.bool false) ∧ Below w.heap.size w w') := CL2
            clear CL2 hLB
            refine (CB.out _).mono ?_
            rintro e w7 ⟨rfl, hb7⟩
            have T7 : Hid (Blk w7 27 g #[.slice a3 LL.length c3, .slice (some ⟨b, off, none⟩) 0 0, .int .i64 b1, .int .i64 b2]) := T6.out.on hb7
            have R7 : Hid (Blk w7 27 (g + 2) #[.slice none 0 0, .slice none 0 0, .int .i64 0, .int .i64 0]) := R6.out.on hb7
            have B7 : Hid (Below w.heap.size w w7) := below_step B6.out (Nat.le_refl _) hb7
            have N7 : Hid (NodesV w7 (.slice a3 LL.length c3) LL) := N6.out.on hb7
            clear hb7 T6 S6 R6 B6 N6 t0 t1 t2 t3 f1 z0 z1 CB
            have t0 : w7.cell? ⟨g, 0, none⟩ = some (.slice a3 LL.length c3) := T7.out.cell 0
            have t1 : w7.cell? ⟨g, 1, none⟩ = some (.slice (some ⟨b, off, none⟩) 0 0) := T7.out.cell 1
            have t2 : w7.cell? ⟨g, 2, none⟩ = some (.int .i64 b1) := T7.out.cell 2
            have t3 : w7.cell? ⟨g, 3, none⟩ = some (.int .i64 b2) := T7.out.cell 3
            go_wp2_with (with_reducible refine wpList_storeBlkH rfl 27 _ _ rfl (g + 2) #[.slice none 0 0, .slice none 0 0, .int .i64 0, .int .i64 0] #[.slice a3 LL.length c3, .slice (some ⟨b, off, none⟩) 0 0, .int .i64 b1, .int .i64 b2] ?hxKb ?hyKb R7.out rfl ?hiKb ?h1Kb ?_)
            try (case hxKb => rfl)
            try (case hyKb => rfl)
            case hiKb => first | kernel_rfl | (refine Option.map_eq_some_iff.1 (?_ : (Tryd.prog.info? 27).map (·.size) = some 4); kernel_rfl)
            case h1Kb => simp [Value.oneCell']
            unfold Hid
            go_wp2
            exact bodyPost_rowTmp rfl (g + 2) #[.slice a3 LL.length c3, .slice (some ⟨b, off, none⟩) 0 0, .int .i64 b1, .int .i64 b2] _ rfl rfl rfl (R7.out.setRow _) _ Tryd.underlying27 rfl (by kernel_rfl) ⟨_, by rw [HPK.out]; rfl, by rw [HTN.out, HPK.out, HB.out]; exact HFIN.out _ (b1, b2) (below_setRow B7.out (Nat.le_trans Lg.out (by omega)) _) (N7.out.setR R7.out (show 4 < 6 by decide) _), below_setRow B7.out (Nat.le_trans Lg.out (by omega)) _⟩
        · skip
          go_wp2_with fail
          refine wp_region_noPanic ?_
          refine wp_region_held_drew (S := fun w' => w'.cell? ⟨g, 1, none⟩ = some (.slice (some ⟨b, off, none⟩) ops.length c2)) (by kernel_rfl) (by first | exact trivial | assumption | exact ⟨by assumption, by assumption⟩) (fun hHeld => ?_)
          refine tk 0 (v := ?_) rfl rfl ?_ ?_
          rotate_left
          · intro w hSw; (try dsimp only at hSw); go_simp; try with_reducible rfl
          try simp only [Act.put, za, zb, zc]
          refine tk 1 (v := ?_) rfl rfl ?_ ?_
          rotate_left
          · intro w hSw; (try dsimp only at hSw); go_simp; try with_reducible rfl
          try simp only [Act.put, za, zb, zc]
          refine tk 2 (v := ?_) rfl rfl ?_ ?_
          rotate_left
          · intro w hSw; (try dsimp only at hSw); go_simp; try with_reducible rfl
          try simp only [Act.put, za, zb, zc]
          refine tk 3 (v := ?_) rfl rfl ?_ ?_
          rotate_left
          · intro w hSw; (try dsimp only at hSw); go_simp; try with_reducible rfl
          try simp only [Act.put, za, zb, zc]
          refine tk 4 (v := ?_) rfl rfl ?_ ?_
          rotate_left
          · intro w hSw; (try dsimp only at hSw); go_simp; try with_reducible rfl
          try simp only [Act.put, za, zb, zc]
          refine tk 5 (v := ?_) rfl rfl ?_ ?_
          rotate_left
          · intro w hSw; (try dsimp only at hSw); go_simp; try with_reducible rfl
          try simp only [Act.put, za, zb, zc]
          refine tn 6 rfl rfl ?_
          try simp only [Act.put, za, zb, zc]
          refine tn 7 rfl rfl ?_
          try simp only [Act.put, za, zb, zc]
          refine tn 8 rfl rfl ?_
          try simp only [Act.put, za, zb, zc]
          refine tn 9 rfl rfl ?_
          try simp only [Act.put, za, zb, zc]
          refine tn 10 rfl rfl ?_
          try simp only [Act.put, za, zb, zc]
          refine tn 11 rfl rfl ?_
          try simp only [Act.put, za, zb, zc]
          refine tn 12 rfl rfl ?_
          try simp only [Act.put, za, zb, zc]
          refine tn 13 rfl rfl ?_
          try simp only [Act.put, za, zb, zc]
          refine tn 14 rfl rfl ?_
          try simp only [Act.put, za, zb, zc]
          refine tk 15 (v := ?_) rfl rfl ?_ ?_
          rotate_left
          · intro w hSw; (try dsimp only at hSw); go_simp; try with_reducible rfl
          try simp only [Act.put, za, zb, zc]
          refine wpAnyH_done (by kernel_rfl) (NoPanic.normal ?_) _
          clear hS0 hHeld
          have hdw : Hid (Below wr.heap.size wr wr.drew) := (Below.refl _ _).drew
          have NX : Hid (NodesV wr.drew (.slice a3 LL.length c3) LL) := N.out.on hdw.out
          have TX : Hid (Blk wr.drew 27 g #[.slice a3 LL.length c3, .slice (some ⟨b, off, none⟩) ops.length c2, .int .i64 b1, .int .i64 b2]) := T.out.on hdw.out
          have SX : Hid (Blk wr.drew 24 (g + 1) #[.int .i64 x, .int .i64 y]) := S.out.on hdw.out
          have RX : Hid (Blk wr.drew 27 (g + 2) #[.slice none 0 0, .slice none 0 0, .int .i64 0, .int .i64 0]) := R.out.on hdw.out
          have BX : Hid (Below w.heap.size w wr.drew) := B.out.drew
          clear T S R B N hdw
          generalize wr.drew = w3 at *
          have HFIN : Hid (∀ w' (bb : Int × Int), Below w.heap.size w w' → NodesV w' (.slice a3 LL.length c3) LL → TreeW a1 fx.length (some ⟨b, off, none⟩) ops.length w.heap.size w' (.agg #[.slice a3 LL.length c3, .slice (some ⟨b, off + ops.length * 9, none⟩) 0 (c2 - ops.length), .int .i64 bb.1, .int .i64 bb.2]) (nodesP fx (ops.take ops.length), ops.drop ops.length, bb)) := fun w' bb hb hn => by
            rw [← HLL.out, List.drop_length]
            obtain ⟨a4, c4, e4, hn4⟩ := hn
            injection e4 with e41 e42 e43
            subst e41
            subst e43
            exact ⟨⟨_, _, _, _, rfl, hn4, ⟨rfl, .inl rfl⟩, .inr ⟨_, rfl, Nat.zero_le _⟩⟩, ⟨_, _, _, _, rfl, HAd.out, fun x n c e => by cases e <;> exact .inl ⟨_, rfl, rfl, by first | exact Nat.zero_le _ | omega⟩⟩⟩
          have t0 : World.cell? _ ⟨g, 0, none⟩ = some (.slice a3 LL.length c3) := TX.out.cell 0
          have t1 : World.cell? _ ⟨g, 1, none⟩ = some (.slice (some ⟨b, off, none⟩) ops.length c2) := TX.out.cell 1
          have t2 : World.cell? _ ⟨g, 2, none⟩ = some (.int .i64 b1) := TX.out.cell 2
          have t3 : World.cell? _ ⟨g, 3, none⟩ = some (.int .i64 b2) := TX.out.cell 3
          have f1 := TX.out.free 1
          have z0 : World.cell? _ ⟨g + 1, 0, none⟩ = some (.int .i64 x) := SX.out.cell 0
          have z1 : World.cell? _ ⟨g + 1, 1, none⟩ = some (.int .i64 y) := SX.out.cell 1
          have T6 : Hid (Blk (World.setCell _ ⟨g, 1, none⟩ (.slice (some ⟨b, off + ops.length * 9, none⟩) 0 (c2 - ops.length))) 27 g #[.slice a3 LL.length c3, .slice (some ⟨b, off + ops.length * 9, none⟩) 0 (c2 - ops.length), .int .i64 b1, .int .i64 b2]) := TX.out.setAt 1 _
          have S6 : Hid (Blk (World.setCell _ ⟨g, 1, none⟩ (.slice (some ⟨b, off + ops.length * 9, none⟩) 0 (c2 - ops.length))) 24 (g + 1) #[.int .i64 x, .int .i64 y]) := SX.out.other ⟨g, 1, none⟩ (by show g + 1 ≠ g; omega) _
          have R6 : Hid (Blk (World.setCell _ ⟨g, 1, none⟩ (.slice (some ⟨b, off + ops.length * 9, none⟩) 0 (c2 - ops.length))) 27 (g + 2) #[.slice none 0 0, .slice none 0 0, .int .i64 0, .int .i64 0]) := RX.out.other ⟨g, 1, none⟩ (by show g + 2 ≠ g; omega) _
          have B6 : Hid (Below w.heap.size w (World.setCell _ ⟨g, 1, none⟩ (.slice (some ⟨b, off + ops.length * 9, none⟩) 0 (c2 - ops.length)))) := BX.out.setCell (p := ⟨g, 1, none⟩) Lg.out _
          have N6 : Hid (NodesV (World.setCell _ ⟨g, 1, none⟩ (.slice (some ⟨b, off + ops.length * 9, none⟩) 0 (c2 - ops.length))) (.slice a3 LL.length c3) LL) := NX.out.set TX.out (show 4 < 6 by decide) 1 _
          go_wp2_with fail
          have CL2 := fun w => rless_any (b1, b2) (x, y) w
          by_cases hLB : LessS (b1, b2) (x, y)
          · rw [decide_eq_true hLB] at CL2
            have HB : Hid ((if LessS (b1, b2) (x, y) then (x, y) else (b1, b2)) = (x, y)) := if_pos hLB
            have CB : Hid (∀ w, Calls Tryd.prog 15 #[.agg #[.int .i64 b1, .int .i64 b2], .agg #[.int .i64 x, .int .i64 y]] w fun e w' => e = .returned (.bool true) ∧ Below w.heap.size w w') := CL2
            clear CL2 hLB
            refine (CB.out _).mono ?_
            rintro e w7 ⟨rfl, hb7⟩
            have T7 : Hid (Blk w7 27 g #[.slice a3 LL.length c3, .slice (some ⟨b, off + ops.length * 9, none⟩) 0 (c2 - ops.length), .int .i64 b1, .int .i64 b2]) := T6.out.on hb7
            have S7 : Hid (Blk w7 24 (g + 1) #[.int .i64 x, .int .i64 y]) := S6.out.on hb7
            have R7 : Hid (Blk w7 27 (g + 2) #[.slice none 0 0, .slice none 0 0, .int .i64 0, .int .i64 0]) := R6.out.on hb7
            have B7 : Hid (Below w.heap.size w w7) := below_step B6.out (Nat.le_refl _) hb7
            have N7 : Hid (NodesV w7 (.slice a3 LL.length c3) LL) := N6.out.on hb7
            clear hb7 T6 S6 R6 B6 N6 t0 t1 t2 t3 f1 z0 z1 CB
            have t0 : w7.cell? ⟨g, 0, none⟩ = some (.slice a3 LL.length c3) := T7.out.cell 0
            have t1 : w7.cell? ⟨g, 1, none⟩ = some (.slice (some ⟨b, off + ops.length * 9, none⟩) 0 (c2 - ops.length)) := T7.out.cell 1
            have t2 : w7.cell? ⟨g, 2, none⟩ = some (.int .i64 b1) := T7.out.cell 2
            have t3 : w7.cell? ⟨g, 3, none⟩ = some (.int .i64 b2) := T7.out.cell 3
            have f2 := T7.out.free 2
            have f3 := T7.out.free 3
            have z0 : w7.cell? ⟨g + 1, 0, none⟩ = some (.int .i64 x) := S7.out.cell 0
            have z1 : w7.cell? ⟨g + 1, 1, none⟩ = some (.int .i64 y) := S7.out.cell 1
            have T8 : Hid (Blk (w7.setCell ⟨g, 2, none⟩ (.int .i64 x)) 27 g #[.slice a3 LL.length c3, .slice (some ⟨b, off + ops.length * 9, none⟩) 0 (c2 - ops.length), .int .i64 x, .int .i64 b2]) := T7.out.setAt 2 _
            have R9 : Hid (Blk ((w7.setCell ⟨g, 2, none⟩ (.int .i64 x)).setCell ⟨g, 3, none⟩ (.int .i64 y)) 27 (g + 2) #[.slice none 0 0, .slice none 0 0, .int .i64 0, .int .i64 0]) := (R7.out.other ⟨g, 2, none⟩ (by show g + 2 ≠ g; omega) _).other ⟨g, 3, none⟩ (by show g + 2 ≠ g; omega) _
            have B9 : Hid (Below w.heap.size w ((w7.setCell ⟨g, 2, none⟩ (.int .i64 x)).setCell ⟨g, 3, none⟩ (.int .i64 y))) := (B7.out.setCell (p := ⟨g, 2, none⟩) Lg.out _).setCell (p := ⟨g, 3, none⟩) Lg.out _
            have N9 : Hid (NodesV ((w7.setCell ⟨g, 2, none⟩ (.int .i64 x)).setCell ⟨g, 3, none⟩ (.int .i64 y)) (.slice a3 LL.length c3) LL) := (N7.out.set T7.out (show 4 < 6 by decide) 2 _).set T8.out (show 4 < 6 by decide) 3 _
            clear T7 S7 R7 B7 N7 T8
            go_wp2_with (with_reducible refine wpList_storeBlkH rfl 27 _ _ rfl (g + 2) #[.slice none 0 0, .slice none 0 0, .int .i64 0, .int .i64 0] #[.slice a3 LL.length c3, .slice (some ⟨b, off + ops.length * 9, none⟩) 0 (c2 - ops.length), .int .i64 x, .int .i64 y] ?hxL ?hyL R9.out rfl ?hiL ?h1L ?_)
            try (case hxL => rfl)
            try (case hyL => rfl)
            case hiL => first | kernel_rfl | (refine Option.map_eq_some_iff.1 (?_ : (Tryd.prog.info? 27).map (·.size) = some 4); kernel_rfl)
            case h1L => simp [Value.oneCell']
            unfold Hid
            go_wp2
            exact bodyPost_rowTmp rfl (g + 2) #[.slice a3 LL.length c3, .slice (some ⟨b, off + ops.length * 9, none⟩) 0 (c2 - ops.length), .int .i64 x, .int .i64 y] _ rfl rfl rfl (R9.out.setRow _) _ Tryd.underlying27 rfl (by kernel_rfl) ⟨_, by rw [HPK.out]; rfl, by rw [HTN.out, HPK.out, HB.out]; exact HFIN.out _ (x, y) (below_setRow B9.out (Nat.le_trans Lg.out (by omega)) _) (N9.out.setR R9.out (show 4 < 6 by decide) _), below_setRow B9.out (Nat.le_trans Lg.out (by omega)) _⟩
          · rw [decide_eq_false hLB] at CL2
            have HB : Hid ((if LessS (b1, b2) (x, y) then (x, y) else (b1, b2)) = (b1, b2)) := if_neg hLB
            have CB : Hid (∀ w, Calls Tryd.prog 15 #[.agg #[.int .i64 b1, .int .i64 b2], .agg #[.int .i64 x, .int .i64 y]] w fun e w' => e = .returned (.bool false) ∧ Below w.heap.size w w') := CL2
            clear CL2 hLB
            refine (CB.out _).mono ?_
            rintro e w7 ⟨rfl, hb7⟩
            have T7 : Hid (Blk w7 27 g #[.slice a3 LL.length c3, .slice (some ⟨b, off + ops.length * 9, none⟩) 0 (c2 - ops.length), .int .i64 b1, .int .i64 b2]) := T6.out.on hb7
            have R7 : Hid (Blk w7 27 (g + 2) #[.slice none 0 0, .slice none 0 0, .int .i64 0, .int .i64 0]) := R6.out.on hb7
            have B7 : Hid (Below w.heap.size w w7) := below_step B6.out (Nat.le_refl _) hb7
            have N7 : Hid (NodesV w7 (.slice a3 LL.length c3) LL) := N6.out.on hb7
            clear hb7 T6 S6 R6 B6 N6 t0 t1 t2 t3 f1 z0 z1 CB
            have t0 : w7.cell? ⟨g, 0, none⟩ = some (.slice a3 LL.length c3) := T7.out.cell 0
            have t1 : w7.cell? ⟨g, 1, none⟩ = some (.slice (some ⟨b, off + ops.length * 9, none⟩) 0 (c2 - ops.length)) := T7.out.cell 1
            have t2 : w7.cell? ⟨g, 2, none⟩ = some (.int .i64 b1) := T7.out.cell 2
            have t3 : w7.cell? ⟨g, 3, none⟩ = some (.int .i64 b2) := T7.out.cell 3
            go_wp2_with (with_reducible refine wpList_storeBlkH rfl 27 _ _ rfl (g + 2) #[.slice none 0 0, .slice none 0 0, .int .i64 0, .int .i64 0] #[.slice a3 LL.length c3, .slice (some ⟨b, off + ops.length * 9, none⟩) 0 (c2 - ops.length), .int .i64 b1, .int .i64 b2] ?hxLb ?hyLb R7.out rfl ?hiLb ?h1Lb ?_)
            try (case hxLb => rfl)
            try (case hyLb => rfl)
            case hiLb => first | kernel_rfl | (refine Option.map_eq_some_iff.1 (?_ : (Tryd.prog.info? 27).map (·.size) = some 4); kernel_rfl)
            case h1Lb => simp [Value.oneCell']
            unfold Hid
            go_wp2
            exact bodyPost_rowTmp rfl (g + 2) #[.slice a3 LL.length c3, .slice (some ⟨b, off + ops.length * 9, none⟩) 0 (c2 - ops.length), .int .i64 b1, .int .i64 b2] _ rfl rfl rfl (R7.out.setRow _) _ Tryd.underlying27 rfl (by kernel_rfl) ⟨_, by rw [HPK.out]; rfl, by rw [HTN.out, HPK.out, HB.out]; exact HFIN.out _ (b1, b2) (below_setRow B7.out (Nat.le_trans Lg.out (by omega)) _) (N7.out.setR R7.out (show 4 < 6 by decide) _), below_setRow B7.out (Nat.le_trans Lg.out (by omega)) _⟩

end Go.Proofs.YtdmlffbpcjadfaaDoor

/- The document's Compact (layer 11), whole. -/
namespace Go.Proofs.YtdmlffbpcjadfaaDoor
open Go.RowKit
set_option linter.unusedSimpArgs false

set_option maxRecDepth 100000 in
set_option maxHeartbeats 4000000 in
theorem rcompact_no (fx : List NodeT) (ops : List OpT) (b1 b2 x y : Int) (a1 a2 : Option Addr) (c1 c2 : Nat) (w : World)
    (H1 : Hid (NodesAt w a1 fx.length fx)) (H2 : Hid (OpsAt w a2 ops.length ops)) (H3 : Hid (SliceOk a2 ops.length c2)) (hD : ¬ MayS (x, y)) :
    Calls Tryd.prog 8 #[.agg #[.slice a1 fx.length c1, .slice a2 ops.length c2, .int .i64 b1, .int .i64 b2], .agg #[.int .i64 x, .int .i64 y]] w fun e w' => ∃ v, e = .returned (.tuple #[v, .int .i64 0]) ∧ TreeW a1 fx.length a2 ops.length w.heap.size w' v (fx, ops, (b1, b2)) ∧ Below w.heap.size w w' := by
  obtain ⟨g, hg⟩ : ∃ g, g = w.heap.size := ⟨_, rfl⟩
  obtain ⟨w0, hw0⟩ : ∃ w0, w0 = ((w.alloc (.cells #[.slice a1 fx.length c1, .slice a2 ops.length c2, .int .i64 b1, .int .i64 b2] 27)).alloc (.cells #[.int .i64 x, .int .i64 y] 24)).alloc (.cells #[.slice none 0 0, .slice none 0 0, .int .i64 0, .int .i64 0] 27) := ⟨_, rfl⟩
  have hb0 : Hid (Below w.heap.size w w0) := by rw [hw0]; exact ((below_new _ _).alloc (by simp) _).alloc (by simp; omega) _
  have T0 : Hid (Blk w0 27 g #[.slice a1 fx.length c1, .slice a2 ops.length c2, .int .i64 b1, .int .i64 b2]) := by show Blk _ _ _ _; rw [hw0]; exact ((Blk.new' _ _ _ _ hg.symm).alloc _).alloc _
  have R0 : Hid (Blk w0 27 (g + 2) #[.slice none 0 0, .slice none 0 0, .int .i64 0, .int .i64 0]) := by show Blk _ _ _ _; rw [hw0]; exact Blk.new' _ _ _ _ (by simp [hg])
  have Lg : Hid (w.heap.size ≤ g + 2) := by show _ ≤ _; omega
  have CM : Hid (∀ w, Calls Tryd.prog 16 #[.agg #[.int .i64 x, .int .i64 y]] w fun e w' => e = .returned (.bool false) ∧ Below w.heap.size w w') := fun w => by
    have := rmayS_any (x, y) w
    rw [decide_eq_false hD] at this; exact this
  clear hD
  go_enter Tryd.func8, Tryd.ntmps8
  go_wp2_with fail
  rw [← hg, ← hw0]
  clear hg hw0
  refine (CM.out _).mono ?_
  rintro e w1 ⟨rfl, hb1⟩
  have T1 := T0.out.on hb1
  have R1 : Hid (Blk w1 27 (g + 2) #[.slice none 0 0, .slice none 0 0, .int .i64 0, .int .i64 0]) := R0.out.on hb1
  have B1 : Hid (Below w.heap.size w w1) := below_step hb0.out (Nat.le_refl _) hb1
  have t0 : w1.cell? ⟨g, 0, none⟩ = some (.slice a1 fx.length c1) := T1.cell 0
  have t1 : w1.cell? ⟨g, 1, none⟩ = some (.slice a2 ops.length c2) := T1.cell 1
  have t2 : w1.cell? ⟨g, 2, none⟩ = some (.int .i64 b1) := T1.cell 2
  have t3 : w1.cell? ⟨g, 3, none⟩ = some (.int .i64 b2) := T1.cell 3
  have HTV : Hid (∀ w', Below w.heap.size w w' → TreeW a1 fx.length a2 ops.length w.heap.size w' (.agg #[.slice a1 fx.length c1, .slice a2 ops.length c2, .int .i64 b1, .int .i64 b2]) (fx, ops, (b1, b2))) := fun w' hb => ⟨⟨a1, c1, a2, c2, rfl, H1.out.below hb, H2.out.below hb, H3.out⟩, rows_same⟩
  clear hb1 T1 T0 R0 hb0 CM
  go_wp2_with (with_reducible refine wpList_storeBlkH rfl 27 _ _ rfl (g + 2) #[.slice none 0 0, .slice none 0 0, .int .i64 0, .int .i64 0] #[.slice a1 fx.length c1, .slice a2 ops.length c2, .int .i64 b1, .int .i64 b2] ?hx ?hy R1.out rfl ?hi ?h1 ?_)
  try (case hx => rfl)
  try (case hy => rfl)
  case hi => first | kernel_rfl | (refine Option.map_eq_some_iff.1 (?_ : (Tryd.prog.info? 27).map (·.size) = some 4); kernel_rfl)
  case h1 => simp [Value.oneCell']
  unfold Hid
  go_wp2
  exact bodyPost_rowTmp rfl (g + 2) #[.slice a1 fx.length c1, .slice a2 ops.length c2, .int .i64 b1, .int .i64 b2] _ rfl rfl rfl (R1.out.setRow _) _ Tryd.underlying27 rfl (by kernel_rfl) ⟨_, rfl, HTV.out _ (below_setRow B1.out Lg.out _), below_setRow B1.out Lg.out _⟩

theorem rcompactW_any (t : TreeT) (s : Int × Int) (v : Value) (w : World) (hn : t.1.length + t.2.1.length ≤ 50000) (a1 a2 : Option Addr) (c1 c2 : Nat) (hv : v = .agg #[.slice a1 t.1.length c1, .slice a2 t.2.1.length c2, .int .i64 t.2.2.1, .int .i64 t.2.2.2]) (h1 : NodesAt w a1 t.1.length t.1) (h2 : OpsAt w a2 t.2.1.length t.2.1) (h3 : SliceOk a2 t.2.1.length c2) :
    Calls Tryd.prog 8 #[v, stampV s] w fun e w' => ∃ v', e = .returned (.tuple #[v', .int .i64 ((compactP t s).2 : Int)]) ∧ TreeW a1 t.1.length a2 t.2.1.length w.heap.size w' v' (compactP t s).1 ∧ Below w.heap.size w w' := by
  obtain ⟨fx, ops, b1, b2⟩ := t
  obtain ⟨x, y⟩ := s
  subst hv
  by_cases hD : MayS (x, y)
  · have e : compactP (fx, ops, (b1, b2)) (x, y) = ((nodesP fx (ops.take (posO (x, y) ops)), ops.drop (posO (x, y) ops), if LessS (b1, b2) (x, y) then (x, y) else (b1, b2)), posO (x, y) ops) := by unfold compactP; rw [if_pos hD]
    rw [e]
    exact rcompact_on fx ops b1 b2 x y a1 a2 c1 c2 _ _ w hn h1 h2 h3 hD rfl rfl
  · have e : compactP (fx, ops, (b1, b2)) (x, y) = ((fx, ops, (b1, b2)), 0) := by unfold compactP; rw [if_neg hD]
    rw [e]
    exact rcompact_no fx ops b1 b2 x y a1 a2 c1 c2 w h1 h2 h3 hD

end Go.Proofs.YtdmlffbpcjadfaaDoor

/- The document's Compact, its rows apart from some blocks (layer 11). -/
namespace Go.Proofs.YtdmlffbpcjadfaaDoor
open Go.RowKit

theorem rcompactF_any (F : Nat → Prop) (t : TreeT) (s : Int × Int) (v : Value) (w : World) (hn : t.1.length + t.2.1.length ≤ 50000) (hV : TreeG F w v t) (hB : ∀ k, F k → k < w.heap.size) :
    Calls Tryd.prog 8 #[v, stampV s] w fun e w' => ∃ v', e = .returned (.tuple #[v', .int .i64 ((compactP t s).2 : Int)]) ∧ TreeG F w' v' (compactP t s).1 ∧ Below w.heap.size w w' := by
  obtain ⟨a1, c1, a2, c2, hv, h1, h2, h3, h5, h6⟩ := hV
  exact (rcompactW_any t s v w hn a1 a2 c1 c2 hv h1 h2 h3).mono fun _ _ ⟨v', k1, k2, k3⟩ => ⟨v', k1, treeG_of h5 h6 hB k2, k3⟩
end Go.Proofs.YtdmlffbpcjadfaaDoor
