/- The code's done, Nodes, Get (layer 11). -/
import Derived.Test.YtaomhhooipfjbaaDoorTmT
namespace Go.Proofs.YtaomhhooipfjbaaDoor
open Go.RowKit
set_option linter.unusedSimpArgs false

theorem own_kept {w w' : World} {F : Nat → Prop} {v : Value} {l : List OpT} (h : OwnO w 0 v l) (hk : KeptF F w w') (hF : ∀ k, v.ownBlock = some k → ¬ F k) : OwnO w' 0 v l := owns_same h (fun k hv => hk.block k (World.ownsRow.lt h k hv).2 (hF k hv))

theorem own_grown {w w' : World} {r : Option Nat} {v : Value} {l : List OpT} (h : OwnO w 0 v l) (hg : w.grownBy w' r) (hr : ∀ k, v.ownBlock = some k → r ≠ some k) : OwnO w' 0 v l := owns_same h (fun k hv => hg.block k (World.ownsRow.lt h k hv).2 (fun e => hr k hv e.symm))

theorem own_on2 {w w' : World} {v : Value} {l : List OpT} (h : OwnO w 0 v l) (hb : Below w.heap.size w w') : OwnO w' 0 v l := owns_same h (fun k hv => hb.block k (World.ownsRow.lt h k hv).2)

set_option maxRecDepth 100000 in
set_option maxHeartbeats 4000000 in
theorem done_any (g f m : Nat) (r : Option Nat) (T : TreeT) (w : World) (h : TreeIn w g f m r T) (hn : T.1.length + T.2.1.length ≤ 60000) :
    Calls Tryd.prog 29 #[.pointer (some ⟨g, 0, none⟩)] w fun e w' => e = .returned (.map (some m)) ∧ TreeIn w' g f m r T ∧ MapN w' m (nodesP T.1 T.2.1) ∧ KeptF (tfoot g f m r) w w' := by
  have HT : Hid (TreeIn w g f m r T) := h
  have hfm := h.ne
  obtain ⟨fx, ops, b1, b2⟩ := T
  obtain ⟨sl, st, h1, h2, h3, h4, ms, h5, h6⟩ := h.obj
  have c5 : w.cell? ⟨g, 5, none⟩ = some (.map (some m)) := h2.cell 5
  have c6 : w.cell? ⟨g, 6, none⟩ = some (.bool st) := h2.cell 6
  have hgf := blk_map h2 h4
  have hgm := blk_map h2 h5
  cases st with
  | false =>
    have HM : Hid (MapN w m (nodesP fx ops)) := by show MapN _ _ _; rw [← h6 rfl]; exact h5
    clear h h2 h3 h4 h5 h6
    go_enter Tryd.func29, Tryd.ntmps29
    go_wp2_with fail
    go_ret
    exact ⟨rfl, HT.out, HM.out, KeptF.refl _ _⟩
  | true =>
    have hok := h.ok
    have hrf : ∀ k, sl.ownBlock = some k → k ≠ f := fun k hk => own_map h3 h4 hk
    have hrm : ∀ k, sl.ownBlock = some k → k ≠ m := fun k hk => own_map h3 h5 hk
    have hrg : ∀ k, sl.ownBlock = some k → k ≠ g := fun k hk => own_blk h3 h2 hk
    obtain ⟨w1, hcl, hM1, hg1⟩ := h5.clear 0
    have hcl' : ∀ ty, (Builtin.clear_ #[50] ty #[.map (some m)]).run Tryd.prog w = .ok (.tuple #[]) w1 := fun _ => hcl
    have hb1 := h2.grown hg1 (by simp; omega)
    have hf1 := h4.grown hg1 (by simp; omega)
    have ho1 := own_grown h3 hg1 (fun k hk => by simp; exact fun e => hrm k hk e.symm)
    have HK1 : Hid (KeptF (tfoot g f m r) w w1) := KeptF.ofGrown hg1 (fun k e => by cases e; exact .inr (.inr (.inl rfl)))
    have CC : Hid (Calls _ _ _ _ _) := copy_any fx m f w1.drew (by omega) (hM1.on (Below.refl _ _).drew) (hf1.on (Below.refl _ _).drew)
    have HO : Hid (OwnO w1 0 sl ops) := ho1
    have HB : Hid (Blk w1 52 g (treeC g f m sl (b1, b2) true)) := hb1
    have HF : Hid (MapN w1 f fx) := hf1
    have hS0 : (w1.cell? ⟨g, 5, none⟩ = some (.map (some m))) ∧ (w1.cell? ⟨g, 3, none⟩ = some (.map (some f))) := ⟨hb1.cell 5, hb1.cell 3⟩
    have hsg := hb1.lt
    clear hcl h2 h3 h4 h5 h6 hM1 hg1 hb1 hf1 ho1 h
    go_enter Tryd.func29, Tryd.ntmps29
    go_wp2_with (at_builtin; refine wpList_clearR _ rfl _ 50 rfl _ rfl (hcl' _) ?_)
    refine wp_region_noPanic ?_
    refine wp_region_held_drew (S := fun W => (W.cell? ⟨g, 5, none⟩ = some (.map (some m))) ∧ (W.cell? ⟨g, 3, none⟩ = some (.map (some f)))) (by kernel_rfl) (by first | exact trivial | assumption | exact ⟨by assumption, by assumption⟩) (fun hHeld => ?_)
    refine take_at (i := 0) (v := ?_) rfl rfl (by kernel_rfl) (by kernel_rfl) (by kernel_rfl) (fun _ _ _ h => h) (Or.inl ⟨by rfl, ?_⟩) (by assumption) ?_
    rotate_left
    · intro w hSw; (try dsimp only at hSw); go_simp; try with_reducible rfl
    try simp only [Act.put, List.setIfInBounds_toArray, List.set_cons_zero, List.set_cons_succ]
    refine take_at (i := 1) (v := ?_) rfl rfl (by kernel_rfl) (by kernel_rfl) (by kernel_rfl) (fun _ _ _ h => h) (Or.inl ⟨by rfl, ?_⟩) (by assumption) ?_
    rotate_left
    · intro w hSw; (try dsimp only at hSw); go_simp; try with_reducible rfl
    try simp only [Act.put, List.setIfInBounds_toArray, List.set_cons_zero, List.set_cons_succ]
    refine take_at (i := 2) (v := ?_) rfl rfl (by kernel_rfl) (by kernel_rfl) (by kernel_rfl) (fun _ _ _ h => h) (Or.inl ⟨by rfl, ?_⟩) (by assumption) ?_
    rotate_left
    · intro w hSw; (try dsimp only at hSw); go_simp; try with_reducible rfl
    try simp only [Act.put, List.setIfInBounds_toArray, List.set_cons_zero, List.set_cons_succ]
    refine take_at (i := 3) (v := ?_) rfl rfl (by kernel_rfl) (by kernel_rfl) (by kernel_rfl) (fun _ _ _ h => h) (Or.inl ⟨by rfl, ?_⟩) (by assumption) ?_
    rotate_left
    · intro w hSw; (try dsimp only at hSw); go_simp; try with_reducible rfl
    try simp only [Act.put, List.setIfInBounds_toArray, List.set_cons_zero, List.set_cons_succ]
    refine take_at (i := 4) (v := ?_) rfl rfl (by kernel_rfl) (by kernel_rfl) (by kernel_rfl) (fun _ _ _ h => h) (Or.inl ⟨by rfl, ?_⟩) (by assumption) ?_
    rotate_left
    · intro w hSw; (try dsimp only at hSw); go_simp; try with_reducible rfl
    try simp only [Act.put, List.setIfInBounds_toArray, List.set_cons_zero, List.set_cons_succ]
    refine take_at (i := 5) (v := ?_) rfl rfl (by kernel_rfl) (by kernel_rfl) (by kernel_rfl) (fun _ _ _ h => h) (Or.inl ⟨by rfl, ?_⟩) (by assumption) ?_
    rotate_left
    · intro w hSw; (try dsimp only at hSw); go_simp; try with_reducible rfl
    try simp only [Act.put, List.setIfInBounds_toArray, List.set_cons_zero, List.set_cons_succ]
    refine take_at (i := 6) (v := ?_) rfl rfl (by kernel_rfl) (by kernel_rfl) (by kernel_rfl) (fun _ _ _ h => h) (Or.inl ⟨by rfl, ?_⟩) (by assumption) ?_
    rotate_left
    · intro w hSw; (try dsimp only at hSw); go_simp; try with_reducible rfl
    try simp only [Act.put, List.setIfInBounds_toArray, List.set_cons_zero, List.set_cons_succ]
    refine take_at (i := 7) (v := ?_) rfl rfl (by kernel_rfl) (by kernel_rfl) (by kernel_rfl) (fun _ _ _ h => h) (Or.inl ⟨by rfl, ?_⟩) (by assumption) ?_
    rotate_left
    · intro w hSw; (try dsimp only at hSw); go_simp; try with_reducible rfl
    try simp only [Act.put, List.setIfInBounds_toArray, List.set_cons_zero, List.set_cons_succ]
    refine wpAnyH_ready (rs := [8]) (by kernel_rfl) (by simp) ?_
    refine AllReadyH.cons rfl (fun K hK => ?_) AllReadyH.nil
    go_simp
    refine CC.out.mono ?_
    rintro e w2 ⟨rfl, hM2, hg2⟩
    have hb2 := (HB.out.on (Below.refl _ _).drew).grown hg2 (by simp; omega)
    refine hK.out _ _ ⟨hb2.cell 5, hb2.cell 3⟩ (fun hHeld => ?_)
    clear hK K
    refine wpAnyH_done (by kernel_rfl) (NoPanic.normal ?_) _
    have hf2 := (HF.out.on (Below.refl _ _).drew).grown hg2 (by simp; omega)
    have ho2 := own_grown (own_on2 HO.out (Below.refl _ _).drew) hg2 (fun k hk => by simp; exact fun e => hrm k hk e.symm)
    have HK2 : Hid (KeptF (tfoot g f m r) w w2) := (HK1.out.on (Below.refl _ _).drew).grown hg2 (fun k e _ => by cases e; exact .inr (.inr (.inl rfl)))
    have c4 : w2.cell? ⟨g, 4, none⟩ = some sl := hb2.cell 4
    clear CC HB HF HO HK1 hS0 hcl' c5 c6
    obtain ⟨a, cap, rfl, hop2, _⟩ := OwnO.ops ho2
    obtain ⟨n, hnn⟩ : ∃ n, ops.length = n := ⟨_, rfl⟩
    rw [hnn] at ho2 hb2 c4 h1 hop2 hrf hrm hrg hn
    have HN : Hid (ops.length = n) := hnn
    have HB2 : Hid (Blk w2 52 g (treeC g f m (.slice a n cap) (b1, b2) true)) := hb2
    have HO2 : Hid (OwnO w2 0 (.slice a n cap) ops) := ho2
    have HF2 : Hid (MapN w2 f fx) := hf2
    have HM2 : Hid (MapN w2 m (nodesP fx (ops.take 0))) := hM2
    have HOK : Hid (TreeOk (fx, ops, b1, b2)) := hok
    have h1' : Hid ((Value.slice a n cap).ownBlock = r) := h1
    have HX : Hid ((∀ k, (Value.slice a n cap).ownBlock = some k → k ≠ f) ∧ (∀ k, (Value.slice a n cap).ownBlock = some k → k ≠ m) ∧ (∀ k, (Value.slice a n cap).ownBlock = some k → k ≠ g)) := ⟨hrf, hrm, hrg⟩
    clear hb2 ho2 hf2 hM2 hop2 hnn hg2 hrf hrm hrg hok h1
    go_wp2_with fail
    go_loopw [32] (fun i wr => ∃ k : Nat, k ≤ n ∧ i = .int .i64 k ∧ Hid (Blk wr 52 g (treeC g f m (.slice a n cap) (b1, b2) true)) ∧ Hid (OwnO wr 0 (.slice a n cap) ops) ∧ Hid (MapN wr f fx) ∧ Hid (MapN wr m (nodesP fx (ops.take k))) ∧ Hid (KeptF (tfoot g f m r) w wr)) (fun i _ => n - (intOf i).toNat)
    case atStart => exact ⟨0, Nat.zero_le _, rfl, HB2, HO2, HF2, HM2, HK2⟩
    case round =>
      clear HB2 HO2 HF2 HM2 HK2 c4
      obtain ⟨k, hk, rfl, HB, HO, HF, HM, HK⟩ := hrel
      by_cases hlt : k < n
      · have b0 : (k : Int) < (n : Int) := by omega
        obtain ⟨a', cap', e', hat, _⟩ := OwnO.ops HO.out
        rw [HN.out] at e' hat
        cases e'
        obtain ⟨b, off, rfl, _⟩ := hat.2.some (by omega)
        obtain ⟨x0, x1, x2, x3, x4, x5, x6, x7, x8⟩ := hat.cells k hlt
        have hmay : MayO (oL ops k) := HOK.out.may _ (by rw [oL_get ops k (by rw [HN.out]; exact hlt)]; exact List.getElem_mem _)
        have hroot : Rooted (nodesP fx (ops.take k)) := rooted_nodes HOK.out.rooted _ (fun o ho => HOK.out.may o (List.mem_of_mem_take ho))
        have hstep : nodesP fx (ops.take (k + 1)) = doC (nodesP fx (ops.take k)) (oL ops k) := by rw [nodesP_step fx ops k (by rw [HN.out]; exact hlt), doP_C hroot hmay]
        have hlen : (nodesP fx (ops.take k)).length ≤ 1048576 := by
          have := nodesP_len fx (ops.take k)
          rw [List.length_take, HN.out] at this
          omega
        have HST : Hid (nodesP fx (ops.take (k + 1)) = doC (nodesP fx (ops.take k)) (oL ops k)) := hstep
        have CD : Hid (∀ W, MapN W m (nodesP fx (ops.take k)) → _) := fun W hW => do_any (nodesP fx (ops.take k)) m (oL ops k) W hW hlen
        obtain ⟨⟨k0, ⟨k1, k2⟩, ⟨k3, k4⟩, ⟨k5, k6⟩, s7, s8⟩, hkk⟩ : ∃ s, s = oL ops k := ⟨_, rfl⟩
        rw [← hkk] at x0 x1 x2 x3 x4 x5 x6 x7 x8 CD HST
        simp only [opA] at CD
        clear hkk hstep hmay hroot hlen hat
        go_wp2_with fail
        obtain ⟨W0, hW0⟩ : ∃ W0, wr.alloc (.cells #[.int .i64 k0, .int .i64 k1, .int .i64 k2, .int .i64 k3, .int .i64 k4, .int .i64 k5, .int .i64 k6, .string s7, .string s8] 30) = W0 := ⟨_, rfl⟩
        rw [hW0]
        have hB0 : Below wr.heap.size wr W0 := by rw [← hW0]; exact below_new _ _
        have K0 : Blk W0 30 wr.heap.size #[.int .i64 k0, .int .i64 k1, .int .i64 k2, .int .i64 k3, .int .i64 k4, .int .i64 k5, .int .i64 k6, .string s7, .string s8] := by rw [← hW0]; exact Blk.new _ _ _
        have hBt := HB.out.on hB0
        have hMt := HM.out.on hB0
        have hml := HM.out.lt
        have hgl := HB.out.lt
        have HSS : Hid (∀ W, Blk W 30 wr.heap.size #[.int .i64 k0, .int .i64 k1, .int .i64 k2, .int .i64 k3, .int .i64 k4, .int .i64 k5, .int .i64 k6, .string s7, .string s8] → Blk W 52 g (treeC g f m (.slice (some ⟨b, off, none⟩) n cap) (b1, b2) true) → W.cell? ⟨g, 5, none⟩ = some (.map (some m)) ∧ (W.cell? ⟨wr.heap.size, 0, none⟩ = some (.int .i64 k0) ∧ W.cell? ⟨wr.heap.size, 1, none⟩ = some (.int .i64 k1) ∧ W.cell? ⟨wr.heap.size, 2, none⟩ = some (.int .i64 k2) ∧ W.cell? ⟨wr.heap.size, 3, none⟩ = some (.int .i64 k3) ∧ W.cell? ⟨wr.heap.size, 4, none⟩ = some (.int .i64 k4) ∧ W.cell? ⟨wr.heap.size, 5, none⟩ = some (.int .i64 k5) ∧ W.cell? ⟨wr.heap.size, 6, none⟩ = some (.int .i64 k6) ∧ W.cell? ⟨wr.heap.size, 7, none⟩ = some (.string s7) ∧ W.cell? ⟨wr.heap.size, 8, none⟩ = some (.string s8))) := fun W q1 q2 => ⟨q2.cell 5, q1.cell 0, q1.cell 1, q1.cell 2, q1.cell 3, q1.cell 4, q1.cell 5, q1.cell 6, q1.cell 7, q1.cell 8⟩
        have hS0 := HSS.out W0 K0 hBt
        clear hW0 x0 x1 x2 x3 x4 x5 x6 x7 x8
        refine wp_region_noPanic ?_
        refine wp_region_held_drew (S := fun W => W.cell? ⟨g, 5, none⟩ = some (.map (some m)) ∧ (W.cell? ⟨wr.heap.size, 0, none⟩ = some (.int .i64 k0) ∧ W.cell? ⟨wr.heap.size, 1, none⟩ = some (.int .i64 k1) ∧ W.cell? ⟨wr.heap.size, 2, none⟩ = some (.int .i64 k2) ∧ W.cell? ⟨wr.heap.size, 3, none⟩ = some (.int .i64 k3) ∧ W.cell? ⟨wr.heap.size, 4, none⟩ = some (.int .i64 k4) ∧ W.cell? ⟨wr.heap.size, 5, none⟩ = some (.int .i64 k5) ∧ W.cell? ⟨wr.heap.size, 6, none⟩ = some (.int .i64 k6) ∧ W.cell? ⟨wr.heap.size, 7, none⟩ = some (.string s7) ∧ W.cell? ⟨wr.heap.size, 8, none⟩ = some (.string s8))) (by kernel_rfl) (by first | exact trivial | assumption | exact ⟨by assumption, by assumption⟩) (fun hHeld => ?_)
        refine take_at (i := 0) (v := ?_) rfl rfl (by kernel_rfl) (by kernel_rfl) (by kernel_rfl) (fun _ _ _ h => h) (Or.inl ⟨by rfl, ?_⟩) (by assumption) ?_
        rotate_left
        · intro w hSw; (try dsimp only at hSw); go_simp; try with_reducible rfl
        try simp only [Act.put, List.setIfInBounds_toArray, List.set_cons_zero, List.set_cons_succ]
        refine take_at (i := 1) (v := ?_) rfl rfl (by kernel_rfl) (by kernel_rfl) (by kernel_rfl) (fun _ _ _ h => h) (Or.inl ⟨by rfl, ?_⟩) (by assumption) ?_
        rotate_left
        · intro w hSw; (try dsimp only at hSw); go_simp; try with_reducible rfl
        try simp only [Act.put, List.setIfInBounds_toArray, List.set_cons_zero, List.set_cons_succ]
        refine take_at (i := 2) (v := ?_) rfl rfl (by kernel_rfl) (by kernel_rfl) (by kernel_rfl) (fun _ _ _ h => h) (Or.inl ⟨by rfl, ?_⟩) (by assumption) ?_
        rotate_left
        · intro w hSw; (try dsimp only at hSw); go_simp; try with_reducible rfl
        try simp only [Act.put, List.setIfInBounds_toArray, List.set_cons_zero, List.set_cons_succ]
        refine take_at (i := 3) (v := ?_) rfl rfl (by kernel_rfl) (by kernel_rfl) (by kernel_rfl) (fun _ _ _ h => h) (Or.inl ⟨by rfl, ?_⟩) (by assumption) ?_
        rotate_left
        · intro w hSw; (try dsimp only at hSw); go_simp; try with_reducible rfl
        try simp only [Act.put, List.setIfInBounds_toArray, List.set_cons_zero, List.set_cons_succ]
        refine take_at (i := 4) (v := ?_) rfl rfl (by kernel_rfl) (by kernel_rfl) (by kernel_rfl) (fun _ _ _ h => h) (Or.inl ⟨by rfl, ?_⟩) (by assumption) ?_
        rotate_left
        · intro w hSw; (try dsimp only at hSw); go_simp; try with_reducible rfl
        try simp only [Act.put, List.setIfInBounds_toArray, List.set_cons_zero, List.set_cons_succ]
        refine wpAnyH_ready (rs := [5]) (by kernel_rfl) (by simp) ?_
        refine AllReadyH.cons rfl (fun K hK => ?_) AllReadyH.nil
        go_simp
        refine (CD.out W0.drew (hMt.on (Below.refl _ _).drew)).mono ?_
        rintro e w3 ⟨rfl, hM3, hg3⟩
        have hB3 := (hBt.on (Below.refl _ _).drew).grown hg3 (by simp; omega)
        have K3 := (K0.on (Below.refl _ _).drew).grown hg3 (by simp; omega)
        refine hK.out _ _ (HSS.out _ K3 hB3) (fun hHeld => ?_)
        clear hK K
        refine wpAnyH_done (by kernel_rfl) (NoPanic.normal ?_) _
        have HB3 : Hid (Blk w3 52 g (treeC g f m (.slice (some ⟨b, off, none⟩) n cap) (b1, b2) true)) := hB3
        have HM3 : Hid (MapN w3 m (nodesP fx (ops.take (k + 1)))) := by show MapN _ _ _; rw [HST.out]; exact hM3
        have HF3 : Hid (MapN w3 f fx) := ((HF.out.on hB0).on (Below.refl _ _).drew).grown hg3 (by simp; omega)
        have HO3 : Hid (OwnO w3 0 (.slice (some ⟨b, off, none⟩) n cap) ops) := own_grown (own_on2 (own_on2 HO.out hB0) (Below.refl _ _).drew) hg3 (fun j hj => by simp; exact fun e => HX.out.2.1 j hj e.symm)
        have HK3 : Hid (KeptF (tfoot g f m r) w w3) := ((HK.out.on hB0).on (Below.refl _ _).drew).grown hg3 (fun j e _ => by cases e; exact .inr (.inr (.inl rfl)))
        clear HB HO HF HM HK hB0 K0 hBt hMt hS0 hB3 K3 hM3 hg3 HSS HST CD
        go_wp2_with fail
        refine ⟨⟨k + 1, by omega, by go_num, HB3, HO3, HF3, HM3, HK3⟩, ?_⟩
        simp [intOf]; omega
      · obtain rfl : k = n := by omega
        have b0 : ¬ ((k : Int) < (k : Int)) := by omega
        have HE : Hid (ops.take k = ops) := List.take_of_length_le (by rw [HN.out]; omega)
        have c6 : wr.cell? ⟨g, 6, none⟩ = some (.bool true) := HB.out.cell 6
        have f6 : wr.frozen? ⟨g, 6, none⟩ = false := HB.out.free 6
        have c5 : (wr.setCell ⟨g, 6, none⟩ (.bool false)).cell? ⟨g, 5, none⟩ = some (.map (some m)) := (HB.out.setAt 6 (.bool false)).cell 5
        have hgl := HB.out.lt
        go_wp2_with fail
        go_ret
        have hbs := HB.out.setAt 6 (.bool false)
        have hgs := grown_set wr g 6 (.bool false)
        have hM' : MapN (wr.setCell ⟨g, 6, none⟩ (.bool false)) m (nodesP fx ops) := by
          have := HM.out.grown hgs (by simp; omega)
          rw [HE.out] at this
          exact this
        refine ⟨rfl, ⟨HOK.out, hfm, .slice a k cap, false, h1'.out, hbs, own_grown HO.out hgs (fun j hj => by simp; exact fun e => HX.out.2.2 j hj e.symm), HF.out.grown hgs (by simp; omega), _, hM', fun _ => rfl⟩, hM', HK.out.setCell g 6 _ (fun _ => .inl rfl)⟩

set_option maxRecDepth 100000 in
set_option maxHeartbeats 2000000 in
theorem nodes_any (g f m : Nat) (r : Option Nat) (T : TreeT) (w : World) (h : TreeIn w g f m r T) (hn : T.1.length + T.2.1.length ≤ 60000) :
    Calls Tryd.prog 12 #[.pointer (some ⟨g, 0, none⟩)] w fun e w' => ∃ v, e = .returned v ∧ TreeIn w' g f m r T ∧ OwnN w' w.heap.size v (nodesP T.1 T.2.1) ∧ KeptF (tfoot g f m r) w w' := by
  have hlen := nodesP_len T.1 T.2.1
  have CD : Hid (Calls _ _ _ _ _) := done_any g f m r T w h hn
  obtain ⟨sl, st, h1, h2, _⟩ := h.obj
  have CG : Hid (Calls _ _ _ _ _) := given_any g w sl T.2.2 f m st h2
  have CL : Hid (∀ W, MapN W m (nodesP T.1 T.2.1) → _) := fun W hW => list_any m (nodesP T.1 T.2.1) (by omega) W hW
  obtain ⟨N, hN⟩ : ∃ N, nodesP T.1 T.2.1 = N := ⟨_, rfl⟩
  rw [hN] at CD CL ⊢
  clear h h2 h1 hN hlen
  go_enter Tryd.func12, Tryd.ntmps12
  go_wp2_with fail
  refine CG.out.mono ?_
  rintro e w1 ⟨rfl, rfl⟩
  clear CG
  go_wp2_with fail
  refine CD.out.mono ?_
  rintro e w2 ⟨rfl, hT, hM, hK⟩
  clear CD
  have HT : Hid (TreeIn w2 g f m r T) := hT
  have HK : Hid (KeptF (tfoot g f m r) w1 w2) := hK
  have CL' : Hid (Calls _ _ _ _ _) := CL.out w2 hM
  clear hT hM hK CL
  go_wp2_with fail
  refine CL'.out.mono ?_
  rintro e w3 ⟨v, rfl, ho, hb⟩
  clear CL'
  have HO : Hid (OwnN w3 w1.heap.size v N) := own_less ho HK.out.size
  have HB : Hid (Below w2.heap.size w2 w3) := hb
  clear ho hb
  go_wp2_with fail
  go_ret
  exact ⟨v, rfl, HT.out.on HB.out, HO.out, HK.out.on HB.out⟩

end Go.Proofs.YtaomhhooipfjbaaDoor
