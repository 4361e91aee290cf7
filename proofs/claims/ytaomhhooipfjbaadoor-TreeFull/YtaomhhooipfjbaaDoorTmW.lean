/- The code's Get (layer 11). -/
import Derived.Test.YtaomhhooipfjbaaDoorTmV
namespace Go.Proofs.YtaomhhooipfjbaaDoor
open Go.RowKit
set_option linter.unusedSimpArgs false

set_option maxRecDepth 100000 in
theorem look_res {w : World} {m : Nat} {N : List NodeT} {x y : Int} {nd : NodeT} {b : Bool} (hM : MapN w m N) (hl : ∀ w', Below w.heap.size w w' → (Instr.lookup 50 (.map (some m)) (.agg #[.int .i64 x, .int .i64 y]) true).run Tryd.prog w' = .ok (.tuple #[.agg #[.int .i64 nd.1.1, .int .i64 nd.1.2, .int .i64 nd.2.1.1, .int .i64 nd.2.1.2, .string nd.2.2.1, .string nd.2.2.2], .bool b]) w') :
    Ending.returned (.tuple #[.agg #[.int .i64 nd.1.1, .int .i64 nd.1.2, .int .i64 nd.2.1.1, .int .i64 nd.2.1.2, .string nd.2.2.1, .string nd.2.2.2], .bool b]) = .returned (.tuple #[nodeV ((look N (x, y)).getD node0), .bool (look N (x, y)).isSome]) := by
  have h1 := hl w (Below.refl _ _)
  have h2 := hM.look (x, y) true
  have h3 : (Result.ok (Value.tuple #[.agg #[.int .i64 nd.1.1, .int .i64 nd.1.2, .int .i64 nd.2.1.1, .int .i64 nd.2.1.2, .string nd.2.2.1, .string nd.2.2.2], .bool b]) w : Result Value) = .ok (.tuple #[nodeV ((look N (x, y)).getD node0), .bool (look N (x, y)).isSome]) w := h1.symm.trans h2
  injection h3 with h4
  rw [h4]


set_option maxRecDepth 100000 in
set_option maxHeartbeats 2000000 in
theorem get_any (g f m : Nat) (r : Option Nat) (T : TreeT) (id : Int × Int) (w : World) (h : TreeIn w g f m r T) (hn : T.1.length + T.2.1.length ≤ 60000) :
    Calls Tryd.prog 16 #[.pointer (some ⟨g, 0, none⟩), stampV id] w fun e w' => e = .returned (.tuple #[nodeV ((look (nodesP T.1 T.2.1) id).getD node0), .bool (look (nodesP T.1 T.2.1) id).isSome]) ∧ TreeIn w' g f m r T ∧ KeptF (tfoot g f m r) w w' := by
  obtain ⟨x, y⟩ := id
  obtain ⟨sl, st, h1, h2, _⟩ := h.obj
  obtain ⟨W0, hW0⟩ : ∃ W0, (w.alloc (.cells #[.int .i64 x, .int .i64 y] 28)).alloc (.cells #[.int .i64 0, .int .i64 0, .int .i64 0, .int .i64 0, .string ⟨#[]⟩, .string ⟨#[]⟩] 40) = W0 := ⟨_, rfl⟩
  have hB0 : Below w.heap.size w W0 := by rw [← hW0]; exact (below_new w _).alloc (by simp) _
  have hS : W0.heap.size = w.heap.size + 2 := by rw [← hW0]; simp
  have K0 : Blk W0 28 w.heap.size #[.int .i64 x, .int .i64 y] := by rw [← hW0]; exact (Blk.new _ _ _).alloc _
  have K1 : Blk W0 40 (w.heap.size + 1) #[.int .i64 0, .int .i64 0, .int .i64 0, .int .i64 0, .string ⟨#[]⟩, .string ⟨#[]⟩] := by rw [← hW0]; exact Blk.new' _ _ _ _ (by simp)
  have CG : Hid (Calls _ _ _ _ _) := given_any g W0 sl T.2.2 f m st (h2.on hB0)
  have CD : Hid (∀ W, Below W0.heap.size W0 W → _) := fun W hW => done_any g f m r T W ((h.on hB0).on hW) hn
  have HH : Hid (TreeIn w g f m r T) := h
  have HW0 : Hid ((w.alloc (.cells #[.int .i64 x, .int .i64 y] 28)).alloc (.cells #[.int .i64 0, .int .i64 0, .int .i64 0, .int .i64 0, .string ⟨#[]⟩, .string ⟨#[]⟩] 40) = W0) := hW0
  obtain ⟨N, hN⟩ : ∃ N, nodesP T.1 T.2.1 = N := ⟨_, rfl⟩
  rw [hN] at CD ⊢
  show Calls Tryd.prog _ #[_, .agg #[.int .i64 x, .int .i64 y]] w _
  clear h h2 h1 hN hW0
  go_enter Tryd.func16, Tryd.ntmps16
  go_wp2_with fail
  rw [HW0.out]
  refine CG.out.mono ?_
  rintro e w1 ⟨rfl, rfl⟩
  clear CG
  have HBw : Hid (Below w.heap.size w w1) := hB0
  clear hB0
  go_wp2_with fail
  have hS0 : w1.cell? ⟨w.heap.size, 0, none⟩ = some (.int .i64 x) ∧ w1.cell? ⟨w.heap.size, 1, none⟩ = some (.int .i64 y) := ⟨K0.cell 0, K0.cell 1⟩
  refine wp_region_noPanic ?_
  refine wp_region_held_drew (S := fun W => W.cell? ⟨w.heap.size, 0, none⟩ = some (.int .i64 x) ∧ W.cell? ⟨w.heap.size, 1, none⟩ = some (.int .i64 y)) (by kernel_rfl) (by first | exact trivial | assumption | exact ⟨by assumption, by assumption⟩) (fun hHeld => ?_)
  refine take_at (i := 0) (v := ?_) rfl rfl (by kernel_rfl) (by kernel_rfl) (by kernel_rfl) (fun _ _ _ h => h) (Or.inl ⟨by rfl, ?_⟩) (by assumption) ?_
  rotate_left
  · intro w hSw; (try dsimp only at hSw); go_simp; try with_reducible rfl
  try simp only [Act.put, List.setIfInBounds_toArray, List.set_cons_zero, List.set_cons_succ]
  refine take_at (i := 2) (v := ?_) rfl rfl (by kernel_rfl) (by kernel_rfl) (by kernel_rfl) (fun _ _ _ h => h) (Or.inl ⟨by rfl, ?_⟩) (by assumption) ?_
  rotate_left
  · intro w hSw; (try dsimp only at hSw); go_simp; try with_reducible rfl
  try simp only [Act.put, List.setIfInBounds_toArray, List.set_cons_zero, List.set_cons_succ]
  refine wpAnyH_ready (rs := [1, 7]) (by kernel_rfl) (by simp) ?_
  refine AllReadyH.cons rfl (fun K hK => ?_) (AllReadyH.cons rfl (fun K hK => ?_) AllReadyH.nil)
  · go_simp
    refine (CD.out w1.drew (Below.refl _ _).drew).mono ?_
    rintro e V1 ⟨rfl, hT, hM, hKp⟩
    have hKw : KeptF (tfoot g f m r) w V1 := (KeptF.ofBelow (tfoot g f m r) (HBw.out.drew)).trans hKp (fun _ _ h => h)
    have hsV : w.heap.size + 2 ≤ V1.heap.size := by have := hKp.size; show _ ≤ _; rw [← hS]; exact this
    have nf : ∀ k, w.heap.size ≤ k → ¬ tfoot g f m r k := fun k hk ht => by have := HH.out.lt ht; omega
    have KU0 : Blk V1 28 w.heap.size #[.int .i64 x, .int .i64 y] := by unfold Blk; rw [hKp.block _ (by show _ < w1.heap.size; omega) (nf _ (Nat.le_refl _))]; exact K0
    have KU1 : Blk V1 40 (w.heap.size + 1) #[.int .i64 0, .int .i64 0, .int .i64 0, .int .i64 0, .string ⟨#[]⟩, .string ⟨#[]⟩] := by unfold Blk; rw [hKp.block _ (by show _ < w1.heap.size; omega) (nf _ (by omega))]; exact K1
    obtain ⟨nd, b, hb, hl⟩ := mapN_two hM x y
    have HRes : Hid (Ending.returned (.tuple #[.agg #[.int .i64 nd.1.1, .int .i64 nd.1.2, .int .i64 nd.2.1.1, .int .i64 nd.2.1.2, .string nd.2.2.1, .string nd.2.2.2], .bool b]) = .returned (.tuple #[nodeV ((look N (x, y)).getD node0), .bool (look N (x, y)).isSome])) := look_res hM hl
    clear hb
    have hlk := hl V1 (Below.refl _ _)
    have hlkd : ∀ o, (Instr.lookup 50 (.map (some m)) (.agg #[.int .i64 x, .int .i64 y]) true).run Tryd.prog (V1.alloc o) = _ := fun o => hl (V1.alloc o) (below_new V1 o)
    obtain ⟨⟨n1, n2⟩, ⟨n3, n4⟩, n5, n6⟩ := nd
    clear CD K0 K1 hM hl
    refine hK.out _ _ (show _ ∧ _ from ⟨KU0.cell 0, KU0.cell 1⟩) (fun hHeld => ?_)
    clear hK K
    refine wpAnyH_ready (rs := [3, 7]) (by kernel_rfl) (by simp) ?_
    refine AllReadyH.cons rfl (fun K hK => ?_) (AllReadyH.cons rfl (fun K hK => ?_) AllReadyH.nil)
    · go_simp
      refine hK.out _ _ (show _ ∧ _ from ⟨KU0.cell 0, KU0.cell 1⟩) (fun hHeld => ?_)
      clear hK K
      refine take_at (i := 4) (v := ?_) rfl rfl (by kernel_rfl) (by kernel_rfl) (by kernel_rfl) (fun _ _ _ h => h) (Or.inl ⟨by rfl, ?_⟩) (by assumption) ?_
      rotate_left
      · intro w hSw; (try dsimp only at hSw); go_simp; try with_reducible rfl
      try simp only [Act.put, List.setIfInBounds_toArray, List.set_cons_zero, List.set_cons_succ]
      refine take_at (i := 5) (v := ?_) rfl rfl (by kernel_rfl) (by kernel_rfl) (by kernel_rfl) (fun _ _ _ h => h) (Or.inl ⟨by rfl, ?_⟩) (by assumption) ?_
      rotate_left
      · intro w hSw; (try dsimp only at hSw); go_simp; try with_reducible rfl
      try simp only [Act.put, List.setIfInBounds_toArray, List.set_cons_zero, List.set_cons_succ]
      refine take_at (i := 6) (v := ?_) rfl rfl (by kernel_rfl) (by kernel_rfl) (by kernel_rfl) (fun _ _ _ h => h) (Or.inl ⟨by rfl, ?_⟩) (by assumption) ?_
      rotate_left
      · intro w hSw; (try dsimp only at hSw); go_simp; try with_reducible rfl
      try simp only [Act.put, List.setIfInBounds_toArray, List.set_cons_zero, List.set_cons_succ]
      refine wpAnyH_ready (rs := [7]) (by kernel_rfl) (by simp) ?_
      refine AllReadyH.cons rfl (fun K hK => ?_) AllReadyH.nil
      go_simp
      obtain ⟨h, hh⟩ : ∃ h, V1.heap.size = h := ⟨_, rfl⟩
      have hlk2 := hlkd (.cells #[.int .i64 0, .int .i64 0, .int .i64 0, .int .i64 0, .string ⟨#[]⟩, .string ⟨#[]⟩] 40)
      obtain ⟨V, hV2⟩ : ∃ V, V1.alloc (.cells #[.int .i64 0, .int .i64 0, .int .i64 0, .int .i64 0, .string ⟨#[]⟩, .string ⟨#[]⟩] 40) = V := ⟨_, rfl⟩
      rw [hV2] at hlk2
      have KVh : Blk V 40 h #[.int .i64 0, .int .i64 0, .int .i64 0, .int .i64 0, .string ⟨#[]⟩, .string ⟨#[]⟩] := by rw [← hV2, ← hh]; exact Blk.new _ _ _
      have KV0 : Blk V 28 w.heap.size #[.int .i64 x, .int .i64 y] := by rw [← hV2]; exact KU0.alloc _
      have KV1 : Blk V 40 (w.heap.size + 1) #[.int .i64 0, .int .i64 0, .int .i64 0, .int .i64 0, .string ⟨#[]⟩, .string ⟨#[]⟩] := by rw [← hV2]; exact KU1.alloc _
      have hBV : Below V1.heap.size V1 V := by rw [← hV2]; exact below_new _ _
      have HTV : Hid (TreeIn V g f m r T) := hT.on hBV
      have HKV : Hid (KeptF (tfoot g f m r) w V) := hKw.on hBV
      rw [hV2, hh]
      have hlh : w.heap.size + 2 ≤ h := by omega
      clear hV2 KU0 KU1 hT hKw hlk hlkd hh hBV hsV hKp
      refine hK.out _ _ (show _ ∧ _ from ⟨KV0.cell 0, KV0.cell 1⟩) (fun hHeld => ?_)
      clear hK K
      refine wpAnyH_ready (rs := [8]) (by kernel_rfl) (by simp) ?_
      refine AllReadyH.cons rfl (fun K hK => ?_) AllReadyH.nil
      refine step_storeRow rfl rfl 40 _ _ rfl h #[.int .i64 0, .int .i64 0, .int .i64 0, .int .i64 0, .string ⟨#[]⟩, .string ⟨#[]⟩] #[.int .i64 n1, .int .i64 n2, .int .i64 n3, .int .i64 n4, .string n5, .string n6] rfl rfl KVh rfl (by kernel_rfl) (by simp [Value.oneCell']) ?_
      have KV2 : Blk (V.setRow h #[.int .i64 n1, .int .i64 n2, .int .i64 n3, .int .i64 n4, .string n5, .string n6]) 28 w.heap.size #[.int .i64 x, .int .i64 y] := KV0.setRowOther _ (by omega) _
      refine hK.out _ _ (show _ ∧ _ from ⟨KV2.cell 0, KV2.cell 1⟩) (fun hHeld => ?_)
      clear hK K
      refine take_at (i := 9) (v := ?_) rfl rfl (by kernel_rfl) (by kernel_rfl) (by kernel_rfl) (fun _ _ _ h => h) (Or.inl ⟨by rfl, ?_⟩) (by assumption) ?_
      rotate_left
      · intro w hSw; (try dsimp only at hSw); go_simp; try with_reducible rfl
      try simp only [Act.put, List.setIfInBounds_toArray, List.set_cons_zero, List.set_cons_succ]
      refine wpAnyH_done (by kernel_rfl) (NoPanic.normal ?_) _
      have KS := KVh.setRow #[.int .i64 n1, .int .i64 n2, .int .i64 n3, .int .i64 n4, .string n5, .string n6]
      have K1S : Blk (V.setRow h #[.int .i64 n1, .int .i64 n2, .int .i64 n3, .int .i64 n4, .string n5, .string n6]) 40 (w.heap.size + 1) #[.int .i64 0, .int .i64 0, .int .i64 0, .int .i64 0, .string ⟨#[]⟩, .string ⟨#[]⟩] := KV1.setRowOther _ (by omega) _
      have HTS : Hid (TreeIn (V.setRow h #[.int .i64 n1, .int .i64 n2, .int .i64 n3, .int .i64 n4, .string n5, .string n6]) g f m r T) := HTV.out.same (fun k hk => setRow_other V h k _ (fun e => by have := HH.out.lt hk; omega))
      have HKS : Hid (KeptF (tfoot g f m r) w (V.setRow h #[.int .i64 n1, .int .i64 n2, .int .i64 n3, .int .i64 n4, .string n5, .string n6])) := HKV.out.grown (grown_setRow _ _ _) (fun j e hj => by cases e; omega)
      obtain ⟨U, hU⟩ : ∃ U, V.setRow h #[.int .i64 n1, .int .i64 n2, .int .i64 n3, .int .i64 n4, .string n5, .string n6] = U := ⟨_, rfl⟩
      rw [hU] at KS K1S HTS HKS ⊢
      have k0 : U.cell? ⟨h, 0, none⟩ = some (.int .i64 n1) := KS.cell 0
      have k1 : U.cell? ⟨h, 1, none⟩ = some (.int .i64 n2) := KS.cell 1
      have k2 : U.cell? ⟨h, 2, none⟩ = some (.int .i64 n3) := KS.cell 2
      have k3 : U.cell? ⟨h, 3, none⟩ = some (.int .i64 n4) := KS.cell 3
      have k4 : U.cell? ⟨h, 4, none⟩ = some (.string n5) := KS.cell 4
      have k5 : U.cell? ⟨h, 5, none⟩ = some (.string n6) := KS.cell 5
      clear hU KV2 KVh KV0 KV1 HTV HKV
      go_wp2_with (with_reducible refine wpList_storeBlkH rfl 40 _ _ rfl (w.heap.size + 1) #[.int .i64 0, .int .i64 0, .int .i64 0, .int .i64 0, .string ⟨#[]⟩, .string ⟨#[]⟩] #[.int .i64 n1, .int .i64 n2, .int .i64 n3, .int .i64 n4, .string n5, .string n6] ?hx1 ?hy1 K1S rfl ?hi1 ?h11 ?_)
      try (case hx1 => rfl)
      try (case hy1 => rfl)
      try (case hi1 => first | kernel_rfl | (refine Option.map_eq_some_iff.1 (?_ : (Tryd.prog.info? 40).map (·.size) = some 6); kernel_rfl))
      try (case h11 => simp [Value.oneCell'])
      unfold Hid
      go_wp2_with fail
      refine bodyPost_rowTmp rfl (w.heap.size + 1) #[.int .i64 n1, .int .i64 n2, .int .i64 n3, .int .i64 n4, .string n5, .string n6] _ rfl rfl rfl (K1S.setRow _) _ Tryd.underlying40 rfl (by kernel_rfl) ⟨HRes.out, HTS.out.same (fun k hk => setRow_other U _ k _ (fun e => by have := HH.out.lt hk; omega)), HKS.out.grown (grown_setRow _ _ _) (fun j e hj => by cases e; omega)⟩
    · go_simp
      obtain ⟨h, hh⟩ : ∃ h, V1.heap.size = h := ⟨_, rfl⟩
      have hlk2 := hlkd (.cells #[.int .i64 0, .int .i64 0, .int .i64 0, .int .i64 0, .string ⟨#[]⟩, .string ⟨#[]⟩] 40)
      obtain ⟨V, hV2⟩ : ∃ V, V1.alloc (.cells #[.int .i64 0, .int .i64 0, .int .i64 0, .int .i64 0, .string ⟨#[]⟩, .string ⟨#[]⟩] 40) = V := ⟨_, rfl⟩
      rw [hV2] at hlk2
      have KVh : Blk V 40 h #[.int .i64 0, .int .i64 0, .int .i64 0, .int .i64 0, .string ⟨#[]⟩, .string ⟨#[]⟩] := by rw [← hV2, ← hh]; exact Blk.new _ _ _
      have KV0 : Blk V 28 w.heap.size #[.int .i64 x, .int .i64 y] := by rw [← hV2]; exact KU0.alloc _
      have KV1 : Blk V 40 (w.heap.size + 1) #[.int .i64 0, .int .i64 0, .int .i64 0, .int .i64 0, .string ⟨#[]⟩, .string ⟨#[]⟩] := by rw [← hV2]; exact KU1.alloc _
      have hBV : Below V1.heap.size V1 V := by rw [← hV2]; exact below_new _ _
      have HTV : Hid (TreeIn V g f m r T) := hT.on hBV
      have HKV : Hid (KeptF (tfoot g f m r) w V) := hKw.on hBV
      rw [hV2, hh]
      have hlh : w.heap.size + 2 ≤ h := by omega
      clear hV2 KU0 KU1 hT hKw hlk hlkd hh hBV hsV hKp
      refine hK.out _ _ (show _ ∧ _ from ⟨KV0.cell 0, KV0.cell 1⟩) (fun hHeld => ?_)
      clear hK K
      refine wpAnyH_ready (rs := [3]) (by kernel_rfl) (by simp) ?_
      refine AllReadyH.cons rfl (fun K hK => ?_) AllReadyH.nil
      go_simp
      refine hK.out _ _ (show _ ∧ _ from ⟨KV0.cell 0, KV0.cell 1⟩) (fun hHeld => ?_)
      clear hK K
      refine take_at (i := 4) (v := ?_) rfl rfl (by kernel_rfl) (by kernel_rfl) (by kernel_rfl) (fun _ _ _ h => h) (Or.inl ⟨by rfl, ?_⟩) (by assumption) ?_
      rotate_left
      · intro w hSw; (try dsimp only at hSw); go_simp; try with_reducible rfl
      try simp only [Act.put, List.setIfInBounds_toArray, List.set_cons_zero, List.set_cons_succ]
      refine take_at (i := 5) (v := ?_) rfl rfl (by kernel_rfl) (by kernel_rfl) (by kernel_rfl) (fun _ _ _ h => h) (Or.inl ⟨by rfl, ?_⟩) (by assumption) ?_
      rotate_left
      · intro w hSw; (try dsimp only at hSw); go_simp; try with_reducible rfl
      try simp only [Act.put, List.setIfInBounds_toArray, List.set_cons_zero, List.set_cons_succ]
      refine take_at (i := 6) (v := ?_) rfl rfl (by kernel_rfl) (by kernel_rfl) (by kernel_rfl) (fun _ _ _ h => h) (Or.inl ⟨by rfl, ?_⟩) (by assumption) ?_
      rotate_left
      · intro w hSw; (try dsimp only at hSw); go_simp; try with_reducible rfl
      try simp only [Act.put, List.setIfInBounds_toArray, List.set_cons_zero, List.set_cons_succ]
      refine wpAnyH_ready (rs := [8]) (by kernel_rfl) (by simp) ?_
      refine AllReadyH.cons rfl (fun K hK => ?_) AllReadyH.nil
      refine step_storeRow rfl rfl 40 _ _ rfl h #[.int .i64 0, .int .i64 0, .int .i64 0, .int .i64 0, .string ⟨#[]⟩, .string ⟨#[]⟩] #[.int .i64 n1, .int .i64 n2, .int .i64 n3, .int .i64 n4, .string n5, .string n6] rfl rfl KVh rfl (by kernel_rfl) (by simp [Value.oneCell']) ?_
      have KV2 : Blk (V.setRow h #[.int .i64 n1, .int .i64 n2, .int .i64 n3, .int .i64 n4, .string n5, .string n6]) 28 w.heap.size #[.int .i64 x, .int .i64 y] := KV0.setRowOther _ (by omega) _
      refine hK.out _ _ (show _ ∧ _ from ⟨KV2.cell 0, KV2.cell 1⟩) (fun hHeld => ?_)
      clear hK K
      refine take_at (i := 9) (v := ?_) rfl rfl (by kernel_rfl) (by kernel_rfl) (by kernel_rfl) (fun _ _ _ h => h) (Or.inl ⟨by rfl, ?_⟩) (by assumption) ?_
      rotate_left
      · intro w hSw; (try dsimp only at hSw); go_simp; try with_reducible rfl
      try simp only [Act.put, List.setIfInBounds_toArray, List.set_cons_zero, List.set_cons_succ]
      refine wpAnyH_done (by kernel_rfl) (NoPanic.normal ?_) _
      have KS := KVh.setRow #[.int .i64 n1, .int .i64 n2, .int .i64 n3, .int .i64 n4, .string n5, .string n6]
      have K1S : Blk (V.setRow h #[.int .i64 n1, .int .i64 n2, .int .i64 n3, .int .i64 n4, .string n5, .string n6]) 40 (w.heap.size + 1) #[.int .i64 0, .int .i64 0, .int .i64 0, .int .i64 0, .string ⟨#[]⟩, .string ⟨#[]⟩] := KV1.setRowOther _ (by omega) _
      have HTS : Hid (TreeIn (V.setRow h #[.int .i64 n1, .int .i64 n2, .int .i64 n3, .int .i64 n4, .string n5, .string n6]) g f m r T) := HTV.out.same (fun k hk => setRow_other V h k _ (fun e => by have := HH.out.lt hk; omega))
      have HKS : Hid (KeptF (tfoot g f m r) w (V.setRow h #[.int .i64 n1, .int .i64 n2, .int .i64 n3, .int .i64 n4, .string n5, .string n6])) := HKV.out.grown (grown_setRow _ _ _) (fun j e hj => by cases e; omega)
      obtain ⟨U, hU⟩ : ∃ U, V.setRow h #[.int .i64 n1, .int .i64 n2, .int .i64 n3, .int .i64 n4, .string n5, .string n6] = U := ⟨_, rfl⟩
      rw [hU] at KS K1S HTS HKS ⊢
      have k0 : U.cell? ⟨h, 0, none⟩ = some (.int .i64 n1) := KS.cell 0
      have k1 : U.cell? ⟨h, 1, none⟩ = some (.int .i64 n2) := KS.cell 1
      have k2 : U.cell? ⟨h, 2, none⟩ = some (.int .i64 n3) := KS.cell 2
      have k3 : U.cell? ⟨h, 3, none⟩ = some (.int .i64 n4) := KS.cell 3
      have k4 : U.cell? ⟨h, 4, none⟩ = some (.string n5) := KS.cell 4
      have k5 : U.cell? ⟨h, 5, none⟩ = some (.string n6) := KS.cell 5
      clear hU KV2 KVh KV0 KV1 HTV HKV
      go_wp2_with (with_reducible refine wpList_storeBlkH rfl 40 _ _ rfl (w.heap.size + 1) #[.int .i64 0, .int .i64 0, .int .i64 0, .int .i64 0, .string ⟨#[]⟩, .string ⟨#[]⟩] #[.int .i64 n1, .int .i64 n2, .int .i64 n3, .int .i64 n4, .string n5, .string n6] ?hx2 ?hy2 K1S rfl ?hi2 ?h12 ?_)
      try (case hx2 => rfl)
      try (case hy2 => rfl)
      try (case hi2 => first | kernel_rfl | (refine Option.map_eq_some_iff.1 (?_ : (Tryd.prog.info? 40).map (·.size) = some 6); kernel_rfl))
      try (case h12 => simp [Value.oneCell'])
      unfold Hid
      go_wp2_with fail
      refine bodyPost_rowTmp rfl (w.heap.size + 1) #[.int .i64 n1, .int .i64 n2, .int .i64 n3, .int .i64 n4, .string n5, .string n6] _ rfl rfl rfl (K1S.setRow _) _ Tryd.underlying40 rfl (by kernel_rfl) ⟨HRes.out, HTS.out.same (fun k hk => setRow_other U _ k _ (fun e => by have := HH.out.lt hk; omega)), HKS.out.grown (grown_setRow _ _ _) (fun j e hj => by cases e; omega)⟩
  · go_simp
    obtain ⟨h, hh⟩ : ∃ h, w1.heap.size = h := ⟨_, rfl⟩
    have CD' : Hid (∀ W, Below w1.heap.size w1 W → _) := CD
    obtain ⟨w2, hw2⟩ : ∃ w2, w1.alloc (.cells #[.int .i64 0, .int .i64 0, .int .i64 0, .int .i64 0, .string ⟨#[]⟩, .string ⟨#[]⟩] 40) = w2 := ⟨_, rfl⟩
    have hs2 : w2.heap.size = w.heap.size + 3 := by rw [← hw2]; simp; omega
    have hB2 : Below w1.heap.size w1 w2 := by rw [← hw2]; exact below_new _ _
    have K20 : Blk w2 28 w.heap.size #[.int .i64 x, .int .i64 y] := K0.on hB2
    have K21 : Blk w2 40 (w.heap.size + 1) #[.int .i64 0, .int .i64 0, .int .i64 0, .int .i64 0, .string ⟨#[]⟩, .string ⟨#[]⟩] := K1.on hB2
    have K2h : Blk w2 40 h #[.int .i64 0, .int .i64 0, .int .i64 0, .int .i64 0, .string ⟨#[]⟩, .string ⟨#[]⟩] := by rw [← hw2, ← hh]; exact Blk.new _ _ _
    rw [hw2]
    rw [← hS, hh]
    refine hK.out _ _ (show _ ∧ _ from ⟨K20.cell 0, K20.cell 1⟩) (fun hHeld => ?_)
    clear hK K
    refine wpAnyH_ready (rs := [1]) (by kernel_rfl) (by simp) ?_
    refine AllReadyH.cons rfl (fun K hK => ?_) AllReadyH.nil
    go_simp
    refine (CD.out w2.drew hB2.drew).mono ?_
    rintro e V ⟨rfl, hT, hM, hKp⟩
    have hKw : KeptF (tfoot g f m r) w V := (KeptF.ofBelow (tfoot g f m r) (below_step HBw.out (by omega) hB2).drew).trans hKp (fun _ _ h => h)
    have hlh : w.heap.size + 2 ≤ h := by omega
    have nf : ∀ k, w.heap.size ≤ k → ¬ tfoot g f m r k := fun k hk ht => by have := HH.out.lt ht; omega
    have KV0 : Blk V 28 w.heap.size #[.int .i64 x, .int .i64 y] := by unfold Blk; rw [hKp.block _ (by show _ < w2.heap.size; omega) (nf _ (Nat.le_refl _))]; exact K20
    have KV1 : Blk V 40 (w.heap.size + 1) #[.int .i64 0, .int .i64 0, .int .i64 0, .int .i64 0, .string ⟨#[]⟩, .string ⟨#[]⟩] := by unfold Blk; rw [hKp.block _ (by show _ < w2.heap.size; omega) (nf _ (by omega))]; exact K21
    obtain ⟨nd, b, hb, hl⟩ := mapN_two hM x y
    have HRes : Hid (Ending.returned (.tuple #[.agg #[.int .i64 nd.1.1, .int .i64 nd.1.2, .int .i64 nd.2.1.1, .int .i64 nd.2.1.2, .string nd.2.2.1, .string nd.2.2.2], .bool b]) = .returned (.tuple #[nodeV ((look N (x, y)).getD node0), .bool (look N (x, y)).isSome])) := look_res hM hl
    clear hb
    have hlk := hl V (Below.refl _ _)
    have hlkd : ∀ o, (Instr.lookup 50 (.map (some m)) (.agg #[.int .i64 x, .int .i64 y]) true).run Tryd.prog (V.alloc o) = _ := fun o => hl (V.alloc o) (below_new V o)
    obtain ⟨⟨n1, n2⟩, ⟨n3, n4⟩, n5, n6⟩ := nd
    have KVh : Blk V 40 h #[.int .i64 0, .int .i64 0, .int .i64 0, .int .i64 0, .string ⟨#[]⟩, .string ⟨#[]⟩] := by unfold Blk; rw [hKp.block _ (by show _ < w2.heap.size; omega) (nf _ (by omega))]; exact K2h
    have HTV : Hid (TreeIn V g f m r T) := hT
    have HKV : Hid (KeptF (tfoot g f m r) w V) := hKw
    clear CD CD' K0 K1 hM hl K20 K21 K2h hT hKw hw2 hh hs2 hB2
    refine hK.out _ _ (show _ ∧ _ from ⟨KV0.cell 0, KV0.cell 1⟩) (fun hHeld => ?_)
    clear hK K
    refine wpAnyH_ready (rs := [3]) (by kernel_rfl) (by simp) ?_
    refine AllReadyH.cons rfl (fun K hK => ?_) AllReadyH.nil
    go_simp
    refine hK.out _ _ (show _ ∧ _ from ⟨KV0.cell 0, KV0.cell 1⟩) (fun hHeld => ?_)
    clear hK K
    refine take_at (i := 4) (v := ?_) rfl rfl (by kernel_rfl) (by kernel_rfl) (by kernel_rfl) (fun _ _ _ h => h) (Or.inl ⟨by rfl, ?_⟩) (by assumption) ?_
    rotate_left
    · intro w hSw; (try dsimp only at hSw); go_simp; try with_reducible rfl
    try simp only [Act.put, List.setIfInBounds_toArray, List.set_cons_zero, List.set_cons_succ]
    refine take_at (i := 5) (v := ?_) rfl rfl (by kernel_rfl) (by kernel_rfl) (by kernel_rfl) (fun _ _ _ h => h) (Or.inl ⟨by rfl, ?_⟩) (by assumption) ?_
    rotate_left
    · intro w hSw; (try dsimp only at hSw); go_simp; try with_reducible rfl
    try simp only [Act.put, List.setIfInBounds_toArray, List.set_cons_zero, List.set_cons_succ]
    refine take_at (i := 6) (v := ?_) rfl rfl (by kernel_rfl) (by kernel_rfl) (by kernel_rfl) (fun _ _ _ h => h) (Or.inl ⟨by rfl, ?_⟩) (by assumption) ?_
    rotate_left
    · intro w hSw; (try dsimp only at hSw); go_simp; try with_reducible rfl
    try simp only [Act.put, List.setIfInBounds_toArray, List.set_cons_zero, List.set_cons_succ]
    refine wpAnyH_ready (rs := [8]) (by kernel_rfl) (by simp) ?_
    refine AllReadyH.cons rfl (fun K hK => ?_) AllReadyH.nil
    refine step_storeRow rfl rfl 40 _ _ rfl h #[.int .i64 0, .int .i64 0, .int .i64 0, .int .i64 0, .string ⟨#[]⟩, .string ⟨#[]⟩] #[.int .i64 n1, .int .i64 n2, .int .i64 n3, .int .i64 n4, .string n5, .string n6] rfl rfl KVh rfl (by kernel_rfl) (by simp [Value.oneCell']) ?_
    have KV2 : Blk (V.setRow h #[.int .i64 n1, .int .i64 n2, .int .i64 n3, .int .i64 n4, .string n5, .string n6]) 28 w.heap.size #[.int .i64 x, .int .i64 y] := KV0.setRowOther _ (by omega) _
    refine hK.out _ _ (show _ ∧ _ from ⟨KV2.cell 0, KV2.cell 1⟩) (fun hHeld => ?_)
    clear hK K
    refine take_at (i := 9) (v := ?_) rfl rfl (by kernel_rfl) (by kernel_rfl) (by kernel_rfl) (fun _ _ _ h => h) (Or.inl ⟨by rfl, ?_⟩) (by assumption) ?_
    rotate_left
    · intro w hSw; (try dsimp only at hSw); go_simp; try with_reducible rfl
    try simp only [Act.put, List.setIfInBounds_toArray, List.set_cons_zero, List.set_cons_succ]
    refine wpAnyH_done (by kernel_rfl) (NoPanic.normal ?_) _
    have KS := KVh.setRow #[.int .i64 n1, .int .i64 n2, .int .i64 n3, .int .i64 n4, .string n5, .string n6]
    have K1S : Blk (V.setRow h #[.int .i64 n1, .int .i64 n2, .int .i64 n3, .int .i64 n4, .string n5, .string n6]) 40 (w.heap.size + 1) #[.int .i64 0, .int .i64 0, .int .i64 0, .int .i64 0, .string ⟨#[]⟩, .string ⟨#[]⟩] := KV1.setRowOther _ (by omega) _
    have HTS : Hid (TreeIn (V.setRow h #[.int .i64 n1, .int .i64 n2, .int .i64 n3, .int .i64 n4, .string n5, .string n6]) g f m r T) := HTV.out.same (fun k hk => setRow_other V h k _ (fun e => by have := HH.out.lt hk; omega))
    have HKS : Hid (KeptF (tfoot g f m r) w (V.setRow h #[.int .i64 n1, .int .i64 n2, .int .i64 n3, .int .i64 n4, .string n5, .string n6])) := HKV.out.grown (grown_setRow _ _ _) (fun j e hj => by cases e; omega)
    obtain ⟨U, hU⟩ : ∃ U, V.setRow h #[.int .i64 n1, .int .i64 n2, .int .i64 n3, .int .i64 n4, .string n5, .string n6] = U := ⟨_, rfl⟩
    rw [hU] at KS K1S HTS HKS ⊢
    have k0 : U.cell? ⟨h, 0, none⟩ = some (.int .i64 n1) := KS.cell 0
    have k1 : U.cell? ⟨h, 1, none⟩ = some (.int .i64 n2) := KS.cell 1
    have k2 : U.cell? ⟨h, 2, none⟩ = some (.int .i64 n3) := KS.cell 2
    have k3 : U.cell? ⟨h, 3, none⟩ = some (.int .i64 n4) := KS.cell 3
    have k4 : U.cell? ⟨h, 4, none⟩ = some (.string n5) := KS.cell 4
    have k5 : U.cell? ⟨h, 5, none⟩ = some (.string n6) := KS.cell 5
    clear hU KV2 KVh KV0 KV1 HTV HKV
    go_wp2_with (with_reducible refine wpList_storeBlkH rfl 40 _ _ rfl (w.heap.size + 1) #[.int .i64 0, .int .i64 0, .int .i64 0, .int .i64 0, .string ⟨#[]⟩, .string ⟨#[]⟩] #[.int .i64 n1, .int .i64 n2, .int .i64 n3, .int .i64 n4, .string n5, .string n6] ?hx3 ?hy3 K1S rfl ?hi3 ?h13 ?_)
    try (case hx3 => rfl)
    try (case hy3 => rfl)
    try (case hi3 => first | kernel_rfl | (refine Option.map_eq_some_iff.1 (?_ : (Tryd.prog.info? 40).map (·.size) = some 6); kernel_rfl))
    try (case h13 => simp [Value.oneCell'])
    unfold Hid
    go_wp2_with fail
    refine bodyPost_rowTmp rfl (w.heap.size + 1) #[.int .i64 n1, .int .i64 n2, .int .i64 n3, .int .i64 n4, .string n5, .string n6] _ rfl rfl rfl (K1S.setRow _) _ Tryd.underlying40 rfl (by kernel_rfl) ⟨HRes.out, HTS.out.same (fun k hk => setRow_other U _ k _ (fun e => by have := HH.out.lt hk; omega)), HKS.out.grown (grown_setRow _ _ _) (fun j e hj => by cases e; omega)⟩
end Go.Proofs.YtaomhhooipfjbaaDoor
