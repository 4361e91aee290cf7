/- The document's tree beside the code's; the laws' same (layer 11). -/
import Derived.Test.YtjmbnoacbmmcdaaGreatDoorL1
import Derived.Test.YtjmbnoacbmmcdaaGreatDoorTmFw
import Derived.Test.YtjmbnoacbmmcdaaGreatDoorRTrN
namespace Go.Proofs.YtjmbnoacbmmcdaaGreatDoor
open Go.RowKit
set_option linter.unusedSimpArgs false

theorem cell_of_block {w w' : World} {b : Nat} (h : w'.heap[b]? = w.heap[b]?) (o : Nat) : w'.cell? ⟨b, o, none⟩ = w.cell? ⟨b, o, none⟩ := by
  unfold World.cell?
  simp only [h]

/-- A row that is not empty has a block that is not among some. -/
def Far (F : Nat → Prop) (n : Nat) (a : Option Addr) : Prop := 0 < n → ∀ x, a = some x → ¬ F x.block

theorem rows_kept {F : Nat → Prop} {w w' : World} {a : Option Addr} {n c : Nat} {f : Nat → Array Value} (h : RowsAt w a n c f) (hF : Far F n a) (hK : KeptF F w w') : RowsAt w' a n c f := by
  rcases h with h0 | ⟨b, off, ha, hc⟩
  · exact .inl h0
  · by_cases hn : n = 0
    · exact .inl hn
    · refine .inr ⟨b, off, ha, fun i hi j hj => ?_⟩
      obtain ⟨u, h1, h2⟩ := hc i hi j hj
      refine ⟨u, h1, ?_⟩
      rw [cell_of_block (hK.block b (World.block_lt_of_cell? w _ h2) (hF (by omega) _ ha))]
      exact h2

theorem far_next {w : World} {g f m n c : Nat} {r r' : Option Nat} {a : Option Addr} {fn : Nat → Array Value} (hc0 : 0 < c) (h : RowsAt w a n c fn) (hF : Far (tfoot g f m r) n a) (hN : Nx w r r') : Far (tfoot g f m r') n a := fun hn x hx hk => by
  rcases tfoot_next hN hk with t | t
  · exact hF hn x hx t
  · rcases h with h0 | ⟨b, off, ha, hc⟩
    · omega
    · obtain ⟨u, _, h2⟩ := hc 0 hn 0 hc0
      have := World.block_lt_of_cell? w _ h2
      rw [hx] at ha
      cases ha
      simp only at t this
      omega

/-- The document's tree, no row of which is among some blocks. -/
def TreeG (F : Nat → Prop) (w : World) (v : Value) (t : TreeT) : Prop := ∃ a1 c1 a2 c2, v = .agg #[.slice a1 t.1.length c1, .slice a2 t.2.1.length c2, .int .i64 t.2.2.1, .int .i64 t.2.2.2] ∧ NodesAt w a1 t.1.length t.1 ∧ OpsAt w a2 t.2.1.length t.2.1 ∧ SliceOk a2 t.2.1.length c2 ∧ Far F t.1.length a1 ∧ Far F t.2.1.length a2

theorem TreeG.v {F : Nat → Prop} {w : World} {v : Value} {t : TreeT} (h : TreeG F w v t) : TreeV w v t := by
  obtain ⟨a1, c1, a2, c2, h1, h2, h3, h4, _, _⟩ := h
  exact ⟨a1, c1, a2, c2, h1, h2, h3, h4⟩

theorem TreeG.on {F : Nat → Prop} {w w' : World} {v : Value} {t : TreeT} (h : TreeG F w v t) (hb : Below w.heap.size w w') : TreeG F w' v t := by
  obtain ⟨a1, c1, a2, c2, h1, h2, h3, h4, h5, h6⟩ := h
  exact ⟨a1, c1, a2, c2, h1, h2.below hb, h3.below hb, h4, h5, h6⟩

theorem TreeG.kept {F : Nat → Prop} {w w' : World} {v : Value} {t : TreeT} (h : TreeG F w v t) (hK : KeptF F w w') : TreeG F w' v t := by
  obtain ⟨a1, c1, a2, c2, h1, h2, h3, h4, h5, h6⟩ := h
  exact ⟨a1, c1, a2, c2, h1, ⟨h2.1, rows_kept h2.2 h5 hK⟩, ⟨h3.1, rows_kept h3.2 h6 hK⟩, h4, h5, h6⟩

theorem TreeG.next {w : World} {g f m : Nat} {r r' : Option Nat} {v : Value} {t : TreeT} (h : TreeG (tfoot g f m r) w v t) (hN : Nx w r r') : TreeG (tfoot g f m r') w v t := by
  obtain ⟨a1, c1, a2, c2, h1, h2, h3, h4, h5, h6⟩ := h
  exact ⟨a1, c1, a2, c2, h1, h2, h3, h4, far_next (by decide) h2.2 h5 hN, far_next (by decide) h3.2 h6 hN⟩

theorem far_of {F : Nat → Prop} {B n0 n c : Nat} {a a' : Option Addr} (h : AdrV a n0 B (.slice a' n c)) (hF : Far F n0 a) (hB : ∀ k, F k → k < B) : Far F n a' := fun hn x hx hk => by
  subst hx
  rcases h x n c rfl with ⟨y, hy, e, hle⟩ | h
  · exact hF (by omega) y hy (by rw [e]; exact hk)
  · have := hB _ hk; omega

theorem treeG_of {F : Nat → Prop} {w w' : World} {v' : Value} {t t' : TreeT} {a1 a2 : Option Addr} (hF1 : Far F t.1.length a1) (hF2 : Far F t.2.1.length a2) (hB : ∀ k, F k → k < w.heap.size) (h : TreeW a1 t.1.length a2 t.2.1.length w.heap.size w' v' t') : TreeG F w' v' t' := by
  obtain ⟨⟨b1, c1, b2, c2, rfl, h2, h3, h4⟩, s1, s2, x, y, hv, k1, k2⟩ := h
  cases hv
  exact ⟨b1, c1, b2, c2, rfl, h2, h3, h4, far_of k1 hF1 hB, far_of k2 hF2 hB⟩

theorem rapplyG_any (M : OpT → Bool) (hM : ∀ o, M o = true ↔ MayO o) (F : Nat → Prop) (t : TreeT) (o : OpT) (v : Value) (w : World) (hn : t.1.length + t.2.1.length ≤ 50000) (hs : o.2.2.2.2.1.size ≤ 1048576) (ht : o.2.2.2.2.2.size ≤ 9223372036854775807) (hV : TreeG F w v t) (hB : ∀ k, F k → k < w.heap.size) :
    Calls Tryz.prog 8 #[v, .agg (opA o)] w fun e w' => ∃ v', e = .returned (.tuple #[v', .int .i64 (applyP M t o).2]) ∧ TreeG F w' v' (applyP M t o).1 ∧ Below w.heap.size w w' := by
  obtain ⟨a1, c1, a2, c2, hv, h1, h2, h3, h5, h6⟩ := hV
  exact (rapplyW_any M hM t o v w hn hs ht a1 a2 c1 c2 hv h1 h2 h3).mono fun _ _ ⟨v', k1, k2, k3⟩ => ⟨v', k1, treeG_of h5 h6 hB k2, k3⟩

theorem Blk.keptG {w w' : World} {t : TypeId} {hp : Nat} {cs : Array Value} {F : Nat → Prop} (h : Blk w t hp cs) (hK : KeptF F w w') (hF : ¬ F hp) : Blk w' t hp cs := by
  unfold Blk; rw [hK.block _ h.lt hF]; exact h

/-- What same holds all along. -/
structure SmS (w W : World) (g f m : Nat) (r : Option Nat) (T : TreeT) (v : Value) (hq : Nat) (cs : Array Value) : Prop where
  kept : KeptF (tfoot g f m r) w W
  tree : TreeIn W g f m r T
  tg : TreeG (tfoot g f m r) W v T
  q : Blk W 32 hq cs
  far : ∀ k, tfoot g f m r k → k < hq

theorem SmS.on {w W W' : World} {g f m : Nat} {r : Option Nat} {T : TreeT} {v : Value} {hq : Nat} {cs : Array Value} (h : SmS w W g f m r T v hq cs) (hb : Below W.heap.size W W') : SmS w W' g f m r T v hq cs :=
  ⟨h.kept.on hb, h.tree.on hb, h.tg.on hb, h.q.on hb, h.far⟩

theorem SmS.next {w W W' : World} {g f m : Nat} {r : Option Nat} {T : TreeT} {v : Value} {hq : Nat} {cs : Array Value} (h : SmS w W g f m r T v hq cs) (hT : TreeIn W' g f m r T) (hK : KeptF (tfoot g f m r) W W') : SmS w W' g f m r T v hq cs :=
  ⟨h.kept.trans hK (fun _ _ t => t), hT, h.tg.kept hK, h.q.keptG hK (fun t => by have := h.far _ t; omega), h.far⟩

theorem SmS.cells {w W : World} {g f m : Nat} {r : Option Nat} {T : TreeT} {v : Value} {hq n1 n2 c1 c2 : Nat} {a1 a2 : Option Addr} {b1 b2 : Int} (h : SmS w W g f m r T v hq #[.slice a1 n1 c1, .slice a2 n2 c2, .int .i64 b1, .int .i64 b2]) : W.cell? ⟨hq, 0, none⟩ = some (.slice a1 n1 c1) ∧ W.cell? ⟨hq, 1, none⟩ = some (.slice a2 n2 c2) ∧ W.cell? ⟨hq, 2, none⟩ = some (.int .i64 b1) ∧ W.cell? ⟨hq, 3, none⟩ = some (.int .i64 b2) := ⟨h.q.cell 0, h.q.cell 1, h.q.cell 2, h.q.cell 3⟩

set_option maxRecDepth 100000 in
set_option maxHeartbeats 8000000 in
theorem same_any (g f m : Nat) (r : Option Nat) (T : TreeT) (v : Value) (w : World) (h : TreeIn w g f m r T) (hg : TreeG (tfoot g f m r) w v T) (hn : T.1.length + T.2.1.length ≤ 50000) :
    Calls Tryz.prog 14 #[.pointer (some ⟨g, 0, none⟩), v] w fun e w' => e = .returned (.bool true) ∧ TreeIn w' g f m r T ∧ KeptF (tfoot g f m r) w w' := by
  obtain ⟨a1, c1, a2, c2, rfl, q1, q2, q3, q5, q6⟩ := hg
  have hg : TreeG (tfoot g f m r) w (.agg #[.slice a1 T.1.length c1, .slice a2 T.2.1.length c2, .int .i64 T.2.2.1, .int .i64 T.2.2.2]) T := ⟨a1, c1, a2, c2, rfl, q1, q2, q3, q5, q6⟩
  have hNL := nodesP_len T.1 T.2.1
  have CNo : Hid (∀ W, TreeIn W g f m r T → _) := fun W hW => nodes_any g f m r T W hW (by omega)
  have COp : Hid (∀ W, TreeIn W g f m r T → _) := fun W hW => ops_any g f m r T W hW (by omega)
  have CFi : Hid (∀ W, TreeIn W g f m r T → _) := fun W hW => fixed_any g f m r T W hW (by omega)
  have CBa : Hid (∀ W, TreeIn W g f m r T → _) := fun W hW => base_any g f m r T W hW
  have CRN : Hid (∀ W, TreeV W (.agg #[.slice a1 T.1.length c1, .slice a2 T.2.1.length c2, .int .i64 T.2.2.1, .int .i64 T.2.2.2]) T → _) := fun W hW => rnodes_any T _ W (by omega) hW
  have CSN : Hid (∀ (l : List NodeT) (q : Nat) (b1 b2 : Option Addr) (d1 d2 : Nat) (W : World), l.length = q → q ≤ 60000 → NodesAt W b1 q l → NodesAt W b2 q l → Calls Tryz.prog 22 #[.slice b1 q d1, .slice b2 q d2] W fun e w' => e = .returned (.bool true) ∧ Below W.heap.size W w') := fun l q b1 b2 d1 d2 W _ hl h1 h2 => rsameNodes_any l l true ⟨fun _ => rfl, fun _ => rfl⟩ b1 b2 _ _ d1 d2 W (by omega) (by omega) h1 h2
  have CSO : Hid (∀ (l : List OpT) (q : Nat) (b1 b2 : Option Addr) (d1 d2 : Nat) (W : World), l.length = q → q ≤ 60000 → OpsAt W b1 q l → OpsAt W b2 q l → Calls Tryz.prog 41 #[.slice b1 q d1, .slice b2 q d2] W fun e w' => e = .returned (.bool true) ∧ Below W.heap.size W w') := fun l q b1 b2 d1 d2 W _ hl h1 h2 => rsameOps_any l l true ⟨fun _ => rfl, fun _ => rfl⟩ b1 b2 _ _ d1 d2 W (by omega) (by omega) h1 h2
  have hE := fun W => stampEq_is T.2.2 T.2.2 true (decide_eq_true rfl) W
  have HH : Hid (TreeIn w g f m r T) := h
  have HTG : Hid (TreeG (tfoot g f m r) w (.agg #[.slice a1 T.1.length c1, .slice a2 T.2.1.length c2, .int .i64 T.2.2.1, .int .i64 T.2.2.2]) T) := hg
  obtain ⟨N, hN⟩ : ∃ N, nodesP T.1 T.2.1 = N := ⟨_, rfl⟩
  obtain ⟨nn, hnn⟩ : ∃ nn, N.length = nn := ⟨_, rfl⟩
  obtain ⟨n1, hn1⟩ : ∃ n1, T.1.length = n1 := ⟨_, rfl⟩
  obtain ⟨n2, hn2⟩ : ∃ n2, T.2.1.length = n2 := ⟨_, rfl⟩
  obtain ⟨b1, hb1⟩ : ∃ b1, T.2.2.1 = b1 := ⟨_, rfl⟩
  obtain ⟨b2, hb2⟩ : ∃ b2, T.2.2.2 = b2 := ⟨_, rfl⟩
  have HR : Hid (∀ W, TreeG (tfoot g f m r) W (.agg #[.slice a1 n1 c1, .slice a2 n2 c2, .int .i64 b1, .int .i64 b2]) T → ∃ x1 y1 x2 y2, NodesAt W x1 n1 T.1 ∧ OpsAt W x2 n2 T.2.1 ∧ x1 = a1 ∧ y1 = c1 ∧ x2 = a2 ∧ y2 = c2) := fun W hW => by
    obtain ⟨x1, y1, x2, y2, he, k1, k2, _⟩ := hW
    injection he with he
    simp only [Array.mk.injEq, List.cons.injEq, Value.slice.injEq] at he
    obtain ⟨⟨e1, e2, e3⟩, ⟨e4, e5, e6⟩, _⟩ := he
    exact ⟨x1, y1, x2, y2, by rw [← hn1]; exact k1, by rw [← hn2]; exact k2, e1.symm, e3.symm, e4.symm, e6.symm⟩
  rw [hN] at CNo CRN hNL
  rw [hnn] at hNL
  simp only [hn1, hn2, hb1, hb2] at CRN HTG hE hNL hn ⊢
  have HNN : Hid (N.length = nn) := hnn
  have HN1 : Hid (T.1.length = n1) := hn1
  have HN2 : Hid (T.2.1.length = n2) := hn2
  have HBB : Hid (T.2.2 = (b1, b2)) := by show _ = _; rw [← hb1, ← hb2]
  have hl1 : n1 ≤ 60000 := by omega
  have hl2 : n2 ≤ 60000 := by omega
  have hl3 : nn ≤ 60000 := by omega
  clear q1 q2 q3 q5 q6 h hg hN hnn hn1 hn2 hb1 hb2 hNL hn
  go_enter Tryz.func14, Tryz.ntmps14
  go_wp2_with fail
  obtain ⟨hq, hhq⟩ : ∃ hq, w.heap.size = hq := ⟨_, rfl⟩
  obtain ⟨W0, hW0⟩ : ∃ W0, w.alloc (.cells #[.slice a1 n1 c1, .slice a2 n2 c2, .int .i64 b1, .int .i64 b2] 32) = W0 := ⟨_, rfl⟩
  have HS0 : Hid (SmS w W0 g f m r T (.agg #[.slice a1 n1 c1, .slice a2 n2 c2, .int .i64 b1, .int .i64 b2]) hq #[.slice a1 n1 c1, .slice a2 n2 c2, .int .i64 b1, .int .i64 b2]) := by
    show SmS _ _ _ _ _ _ _ _ _ _
    rw [← hW0, ← hhq]
    exact ⟨KeptF.ofBelow _ (below_new _ _), HH.out.on (below_new _ _), HTG.out.on (below_new _ _), Blk.new _ _ _, fun k hk => HH.out.lt hk⟩
  rw [hW0, hhq]
  have hS0 := HS0.out.cells
  clear hW0 hhq HH HTG
  refine wp_region_noPanic ?_
  refine wp_region_held_drew (S := fun W => W.cell? ⟨hq, 0, none⟩ = some (.slice a1 n1 c1) ∧ W.cell? ⟨hq, 1, none⟩ = some (.slice a2 n2 c2) ∧ W.cell? ⟨hq, 2, none⟩ = some (.int .i64 b1) ∧ W.cell? ⟨hq, 3, none⟩ = some (.int .i64 b2)) (by kernel_rfl) (by first | exact trivial | assumption | exact ⟨by assumption, by assumption⟩) (fun hHeld => ?_)
  refine tk 0 (v := ?_) rfl rfl ?_ ?_
  rotate_left
  · intro w hSw; (try dsimp only at hSw); go_simp; try with_reducible rfl
  try simp only [Act.put, za, zb, zc]
  refine tk 2 (v := ?_) rfl rfl ?_ ?_
  rotate_left
  · intro w hSw; (try dsimp only at hSw); go_simp; try with_reducible rfl
  try simp only [Act.put, za, zb, zc]
  refine wpAnyH_ready (rs := [1]) (by kernel_rfl) (by simp) ?_
  refine AllReadyH.cons rfl (fun K hK => ?_) AllReadyH.nil
  go_simp
  refine (CNo.out W0.drew (HS0.out.on (Below.refl _ _).drew).tree).mono ?_
  rintro e x1 ⟨v1, rfl, hT1, hO1, hK1⟩
  have HS1 : Hid (SmS w x1 g f m r T (.agg #[.slice a1 n1 c1, .slice a2 n2 c2, .int .i64 b1, .int .i64 b2]) hq #[.slice a1 n1 c1, .slice a2 n2 c2, .int .i64 b1, .int .i64 b2]) := (HS0.out.on (Below.refl _ _).drew).next hT1 hK1
  obtain ⟨d1, e1, rfl, _⟩ := OwnN.nodes hO1
  have HO1 : Hid (OwnN x1 W0.drew.heap.size (.slice d1 nn e1) N) := by show OwnN _ _ _ _; rw [← HNN.out]; exact hO1
  rw [HNN.out]
  clear hT1 hO1 hK1 HS0
  refine hK.out _ _ HS1.out.cells (fun hHeld => ?_)
  clear hK K
  refine wpAnyH_ready (rs := [3]) (by kernel_rfl) (by simp) ?_
  refine AllReadyH.cons rfl (fun K hK => ?_) AllReadyH.nil
  go_simp
  refine (CRN.out x1 HS1.out.tg.v).mono ?_
  rintro e x2 ⟨v2, rfl, hV2, hb2⟩
  have HS2 : Hid (SmS w x2 g f m r T (.agg #[.slice a1 n1 c1, .slice a2 n2 c2, .int .i64 b1, .int .i64 b2]) hq #[.slice a1 n1 c1, .slice a2 n2 c2, .int .i64 b1, .int .i64 b2]) := HS1.out.on hb2
  obtain ⟨d2, e2, rfl, hA2⟩ := hV2
  obtain ⟨d1', e1', he1, hA1⟩ := OwnN.nodes (owns_on HO1.out hb2 : OwnN x2 _ _ _)
  rw [HNN.out] at hA2 hA1 he1 ⊢
  cases he1
  have CS1 : Hid (Calls _ _ _ _ _) := CSN.out N nn d1 d2 e1 e2 x2 HNN.out hl3 hA1 hA2
  clear hA1 hA2 hb2 HS1 HO1
  refine hK.out _ _ HS2.out.cells (fun hHeld => ?_)
  clear hK K
  refine wpAnyH_ready (rs := [4]) (by kernel_rfl) (by simp) ?_
  refine AllReadyH.cons rfl (fun K hK => ?_) AllReadyH.nil
  go_simp
  refine CS1.out.mono ?_
  rintro e x3 ⟨rfl, hb3⟩
  have HS3 : Hid (SmS w x3 g f m r T (.agg #[.slice a1 n1 c1, .slice a2 n2 c2, .int .i64 b1, .int .i64 b2]) hq #[.slice a1 n1 c1, .slice a2 n2 c2, .int .i64 b1, .int .i64 b2]) := HS2.out.on hb3
  clear CS1 hb3 HS2
  refine hK.out _ _ HS3.out.cells (fun hHeld => ?_)
  clear hK K
  refine tk 5 (v := ?_) rfl rfl ?_ ?_
  rotate_left
  · intro w hSw; (try dsimp only at hSw); go_simp; try with_reducible rfl
  try simp only [Act.put, za, zb, zc]
  refine tk 6 (v := ?_) rfl rfl ?_ ?_
  rotate_left
  · intro w hSw; (try dsimp only at hSw); go_simp; try with_reducible rfl
  try simp only [Act.put, za, zb, zc]
  refine tk 8 (v := ?_) rfl rfl ?_ ?_
  rotate_left
  · intro w hSw; (try dsimp only at hSw); go_simp; try with_reducible rfl
  try simp only [Act.put, za, zb, zc]
  refine tk 9 (v := ?_) rfl rfl ?_ ?_
  rotate_left
  · intro w hSw; (try dsimp only at hSw); go_simp; try with_reducible rfl
  try simp only [Act.put, za, zb, zc]
  refine wpAnyH_ready (rs := [7]) (by kernel_rfl) (by simp) ?_
  refine AllReadyH.cons rfl (fun K hK => ?_) AllReadyH.nil
  go_simp
  refine (COp.out x3 HS3.out.tree).mono ?_
  rintro e x4 ⟨v4, rfl, hO4, hb4⟩
  have HS4 : Hid (SmS w x4 g f m r T (.agg #[.slice a1 n1 c1, .slice a2 n2 c2, .int .i64 b1, .int .i64 b2]) hq #[.slice a1 n1 c1, .slice a2 n2 c2, .int .i64 b1, .int .i64 b2]) := HS3.out.on hb4
  obtain ⟨d4, e4, rfl, hA4, _⟩ := OwnO.ops hO4
  rw [HN2.out] at hA4 ⊢
  obtain ⟨_, _, _, _, _, hA5, _, _, hx5, _⟩ := HR.out x4 HS4.out.tg
  rw [hx5] at hA5
  have CS2 : Hid (Calls _ _ _ _ _) := CSO.out T.2.1 n2 d4 a2 e4 c2 x4 HN2.out hl2 hA4 hA5
  clear hO4 hb4 HS3 hA4 hA5 hx5
  refine hK.out _ _ HS4.out.cells (fun hHeld => ?_)
  clear hK K
  refine wpAnyH_ready (rs := [10]) (by kernel_rfl) (by simp) ?_
  refine AllReadyH.cons rfl (fun K hK => ?_) AllReadyH.nil
  go_simp
  refine CS2.out.mono ?_
  rintro e x5 ⟨rfl, hb5⟩
  have HS5 : Hid (SmS w x5 g f m r T (.agg #[.slice a1 n1 c1, .slice a2 n2 c2, .int .i64 b1, .int .i64 b2]) hq #[.slice a1 n1 c1, .slice a2 n2 c2, .int .i64 b1, .int .i64 b2]) := HS4.out.on hb5
  clear CS2 hb5 HS4
  refine hK.out _ _ HS5.out.cells (fun hHeld => ?_)
  clear hK K
  refine tk 11 (v := ?_) rfl rfl ?_ ?_
  rotate_left
  · intro w hSw; (try dsimp only at hSw); go_simp; try with_reducible rfl
  try simp only [Act.put, za, zb, zc]
  refine tk 12 (v := ?_) rfl rfl ?_ ?_
  rotate_left
  · intro w hSw; (try dsimp only at hSw); go_simp; try with_reducible rfl
  try simp only [Act.put, za, zb, zc]
  refine tk 13 (v := ?_) rfl rfl ?_ ?_
  rotate_left
  · intro w hSw; (try dsimp only at hSw); go_simp; try with_reducible rfl
  try simp only [Act.put, za, zb, zc]
  refine tk 15 (v := ?_) rfl rfl ?_ ?_
  rotate_left
  · intro w hSw; (try dsimp only at hSw); go_simp; try with_reducible rfl
  try simp only [Act.put, za, zb, zc]
  refine tk 16 (v := ?_) rfl rfl ?_ ?_
  rotate_left
  · intro w hSw; (try dsimp only at hSw); go_simp; try with_reducible rfl
  try simp only [Act.put, za, zb, zc]
  refine wpAnyH_ready (rs := [14]) (by kernel_rfl) (by simp) ?_
  refine AllReadyH.cons rfl (fun K hK => ?_) AllReadyH.nil
  go_simp
  refine (CFi.out x5 HS5.out.tree).mono ?_
  rintro e x6 ⟨v6, rfl, hO6, hb6⟩
  have HS6 : Hid (SmS w x6 g f m r T (.agg #[.slice a1 n1 c1, .slice a2 n2 c2, .int .i64 b1, .int .i64 b2]) hq #[.slice a1 n1 c1, .slice a2 n2 c2, .int .i64 b1, .int .i64 b2]) := HS5.out.on hb6
  obtain ⟨d6, e6, rfl, hA6⟩ := OwnN.nodes hO6
  rw [HN1.out] at hA6 ⊢
  obtain ⟨_, _, _, _, hA7, _, hx7, _, _, _⟩ := HR.out x6 HS6.out.tg
  rw [hx7] at hA7
  have CS3 : Hid (Calls _ _ _ _ _) := CSN.out T.1 n1 d6 a1 e6 c1 x6 HN1.out hl1 hA6 hA7
  clear hO6 hb6 HS5 hA6 hA7 hx7
  refine hK.out _ _ HS6.out.cells (fun hHeld => ?_)
  clear hK K
  refine wpAnyH_ready (rs := [17]) (by kernel_rfl) (by simp) ?_
  refine AllReadyH.cons rfl (fun K hK => ?_) AllReadyH.nil
  go_simp
  refine CS3.out.mono ?_
  rintro e x7 ⟨rfl, hb7⟩
  have HS7 : Hid (SmS w x7 g f m r T (.agg #[.slice a1 n1 c1, .slice a2 n2 c2, .int .i64 b1, .int .i64 b2]) hq #[.slice a1 n1 c1, .slice a2 n2 c2, .int .i64 b1, .int .i64 b2]) := HS6.out.on hb7
  clear CS3 hb7 HS6
  refine hK.out _ _ HS7.out.cells (fun hHeld => ?_)
  clear hK K
  refine tk 18 (v := ?_) rfl rfl ?_ ?_
  rotate_left
  · intro w hSw; (try dsimp only at hSw); go_simp; try with_reducible rfl
  try simp only [Act.put, za, zb, zc]
  refine tk 19 (v := ?_) rfl rfl ?_ ?_
  rotate_left
  · intro w hSw; (try dsimp only at hSw); go_simp; try with_reducible rfl
  try simp only [Act.put, za, zb, zc]
  refine tk 20 (v := ?_) rfl rfl ?_ ?_
  rotate_left
  · intro w hSw; (try dsimp only at hSw); go_simp; try with_reducible rfl
  try simp only [Act.put, za, zb, zc]
  refine tk 22 (v := ?_) rfl rfl ?_ ?_
  rotate_left
  · intro w hSw; (try dsimp only at hSw); go_simp; try with_reducible rfl
  try simp only [Act.put, za, zb, zc]
  refine tk 23 (v := ?_) rfl rfl ?_ ?_
  rotate_left
  · intro w hSw; (try dsimp only at hSw); go_simp; try with_reducible rfl
  try simp only [Act.put, za, zb, zc]
  refine wpAnyH_ready (rs := [21]) (by kernel_rfl) (by simp) ?_
  refine AllReadyH.cons rfl (fun K hK => ?_) AllReadyH.nil
  have CB1 : Hid (Calls _ _ _ _ _) := CBa.out x7 HS7.out.tree
  rw [HBB.out] at CB1
  simp only [stampV] at CB1
  go_simp
  refine CB1.out.mono ?_
  rintro e x8 ⟨rfl, hb8⟩
  have HS8 : Hid (SmS w x8 g f m r T (.agg #[.slice a1 n1 c1, .slice a2 n2 c2, .int .i64 b1, .int .i64 b2]) hq #[.slice a1 n1 c1, .slice a2 n2 c2, .int .i64 b1, .int .i64 b2]) := HS7.out.on hb8
  clear CB1 hb8 HS7
  refine hK.out _ _ HS8.out.cells (fun hHeld => ?_)
  clear hK K
  refine tk 24 (v := ?_) rfl rfl ?_ ?_
  rotate_left
  · intro w hSw; (try dsimp only at hSw); go_simp; try with_reducible rfl
  try simp only [Act.put, za, zb, zc]
  refine tk 25 (v := ?_) rfl rfl ?_ ?_
  rotate_left
  · intro w hSw; (try dsimp only at hSw); go_simp; try with_reducible rfl
  try simp only [Act.put, za, zb, zc]
  refine tk 26 (v := ?_) rfl rfl ?_ ?_
  rotate_left
  · intro w hSw; (try dsimp only at hSw); go_simp; try with_reducible rfl
  try simp only [Act.put, za, zb, zc]
  refine wpAnyH_done (by kernel_rfl) (NoPanic.normal ?_) _
  go_wp2_with fail
  go_ret
  exact ⟨rfl, HS8.out.tree, HS8.out.kept⟩
end Go.Proofs.YtjmbnoacbmmcdaaGreatDoor
