import Derived.Test.YtglgppeloolbhaaGreatDoorL5
import Derived.Deep.DeepCutAuto
import Derived.Laws.AppendOwn
import Derived.Lib.AppendStr
/- The document's round: four of sixteen words behind a quarter round. -/
namespace Go.Proofs.YtglgppeloolbhaaGreatDoor
open Go.RowKit
set_option maxRecDepth 100000
set_option linter.unusedSimpArgs false

/-- A whole array is written at a step of a region that draws its order. -/
theorem step_storeBlk {P : Program} {ops : Array Oper} {o : Oper} {a : Act} {w : World} {K' : Act → World → Prop} {Q : Exit → Act → World → Prop} {E : Prop} (hgd : o.guard = none) (hd : o.dst = none) (t : TypeId) (x y : Operand) (ho : o.op = .store t x y) (g : Nat) (cs cs' : Array Value) (hx : a.eval x = .pointer (some ⟨g, 0, none⟩)) (hy : a.eval y = .agg cs') (h : Blk w t g cs) (hl : cs.size = cs'.size)
    (hi : (P.info? t).map (·.size) = some cs.size) (h1 : cs'.all (·.oneCell') = true) (hk : K' (a.put none undef) (w.setRow g cs')) :
    if Region.wanted o (yielded ops a.tmps) = true then Oper.wp P o a w K' Q else E := by
  rw [if_pos (by simp [Region.wanted, hgd])]
  unfold Oper.wp execOp
  have := run_storeVar_row (P := P) w g t t cs cs' h (hl ▸ hi) hl h1
  simp only [ho, hx, hy, Instr.storeAt, Instr.sureAddr, Sem.run_bind, Sem.run_pure, Result.andThen_ok, this]
  show K' (a.put o.dst _) _
  rw [hd]; exact hk
def four0 : Array Value := #[.int .i64 0, .int .i64 0, .int .i64 0, .int .i64 0]

set_option maxRecDepth 100000 in
set_option maxHeartbeats 4000000 in
theorem rround_any (x : List Nat) (g o C p q r s : Nat) (w : World) (hx : x.length = 16) (ho : Ok x) (hI : IntsAt w .i64 (some ⟨g, o, none⟩) 16 (ints x)) (lp : p < 16) (lq : q < 16) (lr : r < 16) (ls : s < 16) :
    Calls Tryz.prog 50 #[.slice (some ⟨g, o, none⟩) 16 C, .int .i64 (p : Int), .int .i64 (q : Int), .int .i64 (r : Int), .int .i64 (s : Int)] w fun e w' =>
      ∃ g' c', e = .returned (.slice (some ⟨g', 0, none⟩) 16 c') ∧ IntsAt w' .i64 (some ⟨g', 0, none⟩) 16 (ints (stepN x p q r s)) ∧ Below w.heap.size w w' := by
  have HI : Hid (IntsAt w .i64 (some ⟨g, o, none⟩) 16 (ints x)) := hI
  have cX := hI.cellOff p lp
  have cY := hI.cellOff q lq
  have cZ := hI.cellOff r lr
  have cU := hI.cellOff s ls
  rw [ints_getD] at cX cY cZ cU
  have lX := ho p
  have lY := ho q
  have lZ := ho r
  have lU := ho s
  obtain ⟨R, HR⟩ : ∃ R, Hid (R = stepN x p q r s) := ⟨_, rfl⟩
  have hs : R = put4 x p q r s (qr (x.getD p 0) (x.getD q 0) (x.getD r 0) (x.getD s 0)) := HR.out
  rw [← HR.out]
  generalize x.getD p 0 = X at *
  generalize x.getD q 0 = Y at *
  generalize x.getD r 0 = Z at *
  generalize x.getD s 0 = U at *
  have CQ' := fun w => rquarter_any (X : Int) (Y : Int) (Z : Int) (U : Int) X Y Z U w (by omega) (by omega) (by omega) (by omega)
  obtain ⟨⟨X', Y', Z', U'⟩, ht⟩ : ∃ t, t = qr X Y Z U := ⟨_, rfl⟩
  rw [← ht] at CQ' hs
  have CQ : Hid (∀ w, Calls Tryz.prog 70 #[.agg #[.int .i64 (X : Int), .int .i64 (Y : Int), .int .i64 (Z : Int), .int .i64 (U : Int)]] w fun e w' => e = .returned (.agg #[.int .i64 (X' : Int), .int .i64 (Y' : Int), .int .i64 (Z' : Int), .int .i64 (U' : Int)]) ∧ Below w.heap.size w w') := CQ'
  have HN : Hid (R = put4 x p q r s (X', Y', Z', U')) := hs
  have n0 : (0 : Int) ≤ (p : Int) := by omega
  have n1 : (0 : Int) ≤ (q : Int) := by omega
  have n2 : (0 : Int) ≤ (r : Int) := by omega
  have n3 : (0 : Int) ≤ (s : Int) := by omega
  have m0 : (p : Int) < 16 := by omega
  have m1 : (q : Int) < 16 := by omega
  have m2 : (r : Int) < 16 := by omega
  have m3 : (s : Int) < 16 := by omega
  have hgw := World.block_lt_of_cell? w _ cX
  obtain ⟨i0, hi, hz0, hz1, hz2⟩ := info_parts Tryz.info3
  have hS4 : w.cell? ⟨g, o + p, none⟩ = some (.int .i64 (X : Int)) ∧ w.cell? ⟨g, o + q, none⟩ = some (.int .i64 (Y : Int)) ∧ w.cell? ⟨g, o + r, none⟩ = some (.int .i64 (Z : Int)) ∧ w.cell? ⟨g, o + s, none⟩ = some (.int .i64 (U : Int)) := ⟨cX, cY, cZ, cU⟩
  have HS4 : Hid (∀ w', Below w.heap.size w w' → w'.cell? ⟨g, o + p, none⟩ = some (.int .i64 (X : Int)) ∧ w'.cell? ⟨g, o + q, none⟩ = some (.int .i64 (Y : Int)) ∧ w'.cell? ⟨g, o + r, none⟩ = some (.int .i64 (Z : Int)) ∧ w'.cell? ⟨g, o + s, none⟩ = some (.int .i64 (U : Int))) :=
    fun w' hb => ⟨by rw [hb.cell (p := ⟨g, o + p, none⟩) hgw]; exact cX, by rw [hb.cell (p := ⟨g, o + q, none⟩) hgw]; exact cY, by rw [hb.cell (p := ⟨g, o + r, none⟩) hgw]; exact cZ, by rw [hb.cell (p := ⟨g, o + s, none⟩) hgw]; exact cU⟩
  clear CQ' ht hs HR hI cX cY cZ cU
  go_enter Tryz.func50, Tryz.ntmps50
  go_wp2_with fail
  go_cut [11] (fun u wx => ∃ h : Nat, u = .pointer (some ⟨h, 0, none⟩) ∧ w.heap.size ≤ h ∧ Blk wx 84 h #[.int .i64 (X' : Int), .int .i64 (Y' : Int), .int .i64 (Z' : Int), .int .i64 (U' : Int)] ∧ Below w.heap.size w wx)
  case first =>
    refine wp_region_noPanic ?_
    refine wp_region_held_drew (S := fun w' => w'.cell? ⟨g, o + p, none⟩ = some (.int .i64 (X : Int)) ∧ w'.cell? ⟨g, o + q, none⟩ = some (.int .i64 (Y : Int)) ∧ w'.cell? ⟨g, o + r, none⟩ = some (.int .i64 (Z : Int)) ∧ w'.cell? ⟨g, o + s, none⟩ = some (.int .i64 (U : Int))) (by kernel_rfl) (by first | exact trivial | assumption | exact ⟨by assumption, by assumption⟩) (fun hHeld => ?_)
    refine take_at (i := 0) (v := ?_) rfl rfl (by kernel_rfl) (by kernel_rfl) (by kernel_rfl) (fun _ _ _ h => h) (Or.inl ⟨by rfl, ?_⟩) (by assumption) ?_
    rotate_left
    · intro w hSw; (try dsimp only at hSw); go_simp; try with_reducible rfl
    try simp only [Act.put, List.setIfInBounds_toArray, List.set_cons_zero, List.set_cons_succ]
    refine take_at (i := 1) (v := ?_) rfl rfl (by kernel_rfl) (by kernel_rfl) (by kernel_rfl) (fun _ _ _ h => h) (Or.inl ⟨by rfl, ?_⟩) (by assumption) ?_
    rotate_left
    · intro w hSw; (try dsimp only at hSw); go_simp; try with_reducible rfl
    try simp only [Act.put, List.setIfInBounds_toArray, List.set_cons_zero, List.set_cons_succ]
    refine take_at (i := 2) (v := ?_) rfl rfl (by kernel_rfl) (by kernel_rfl) (by kernel_rfl) (fun _ _ _ h => h) (Or.inl ⟨by rfl, ?_⟩) (by assumption) ?_
    rotate_left
    · intro w hSw; (try dsimp only at hSw); go_simp; try with_reducible rfl
    try simp only [Act.put, List.setIfInBounds_toArray, List.set_cons_zero, List.set_cons_succ]
    refine take_at (i := 3) (v := ?_) rfl rfl (by kernel_rfl) (by kernel_rfl) (by kernel_rfl) (fun _ _ _ h => h) (Or.inl ⟨by rfl, ?_⟩) (by assumption) ?_
    rotate_left
    · intro w hSw; (try dsimp only at hSw); go_simp; try with_reducible rfl
    try simp only [Act.put, List.setIfInBounds_toArray, List.set_cons_zero, List.set_cons_succ]
    refine take_at (i := 4) (v := ?_) rfl rfl (by kernel_rfl) (by kernel_rfl) (by kernel_rfl) (fun _ _ _ h => h) (Or.inl ⟨by rfl, ?_⟩) (by assumption) ?_
    rotate_left
    · intro w hSw; (try dsimp only at hSw); go_simp; try with_reducible rfl
    try simp only [Act.put, List.setIfInBounds_toArray, List.set_cons_zero, List.set_cons_succ]
    refine take_at (i := 5) (v := ?_) rfl rfl (by kernel_rfl) (by kernel_rfl) (by kernel_rfl) (fun _ _ _ h => h) (Or.inl ⟨by rfl, ?_⟩) (by assumption) ?_
    rotate_left
    · intro w hSw; (try dsimp only at hSw); go_simp; try with_reducible rfl
    try simp only [Act.put, List.setIfInBounds_toArray, List.set_cons_zero, List.set_cons_succ]
    refine take_at (i := 6) (v := ?_) rfl rfl (by kernel_rfl) (by kernel_rfl) (by kernel_rfl) (fun _ _ _ h => h) (Or.inl ⟨by rfl, ?_⟩) (by assumption) ?_
    rotate_left
    · intro w hSw; (try dsimp only at hSw); go_simp; try with_reducible rfl
    try simp only [Act.put, List.setIfInBounds_toArray, List.set_cons_zero, List.set_cons_succ]
    refine take_at (i := 7) (v := ?_) rfl rfl (by kernel_rfl) (by kernel_rfl) (by kernel_rfl) (fun _ _ _ h => h) (Or.inl ⟨by rfl, ?_⟩) (by assumption) ?_
    rotate_left
    · intro w hSw; (try dsimp only at hSw); go_simp; try with_reducible rfl
    try simp only [Act.put, List.setIfInBounds_toArray, List.set_cons_zero, List.set_cons_succ]
    refine take_at (i := 8) (v := ?_) rfl rfl (by kernel_rfl) (by kernel_rfl) (by kernel_rfl) (fun _ _ _ h => h) (Or.inl ⟨by rfl, ?_⟩) (by assumption) ?_
    rotate_left
    · intro w hSw; (try dsimp only at hSw); go_simp; try with_reducible rfl
    try simp only [Act.put, List.setIfInBounds_toArray, List.set_cons_zero, List.set_cons_succ]
    refine take_at (i := 9) (v := ?_) rfl rfl (by kernel_rfl) (by kernel_rfl) (by kernel_rfl) (fun _ _ _ h => h) (Or.inl ⟨by rfl, ?_⟩) (by assumption) ?_
    rotate_left
    · intro w hSw; (try dsimp only at hSw); go_simp; try with_reducible rfl
    try simp only [Act.put, List.setIfInBounds_toArray, List.set_cons_zero, List.set_cons_succ]
    refine take_at (i := 10) (v := ?_) rfl rfl (by kernel_rfl) (by kernel_rfl) (by kernel_rfl) (fun _ _ _ h => h) (Or.inl ⟨by rfl, ?_⟩) (by assumption) ?_
    rotate_left
    · intro w hSw; (try dsimp only at hSw); go_simp; try with_reducible rfl
    try simp only [Act.put, List.setIfInBounds_toArray, List.set_cons_zero, List.set_cons_succ]
    refine take_at (i := 11) (v := ?_) rfl rfl (by kernel_rfl) (by kernel_rfl) (by kernel_rfl) (fun _ _ _ h => h) (Or.inl ⟨by rfl, ?_⟩) (by assumption) ?_
    rotate_left
    · intro w hSw; (try dsimp only at hSw); go_simp; try with_reducible rfl
    try simp only [Act.put, List.setIfInBounds_toArray, List.set_cons_zero, List.set_cons_succ]
    refine take_at (i := 12) (v := ?_) rfl rfl (by kernel_rfl) (by kernel_rfl) (by kernel_rfl) (fun _ _ _ h => h) (Or.inl ⟨by rfl, ?_⟩) (by assumption) ?_
    rotate_left
    · intro w hSw; (try dsimp only at hSw); go_simp; try with_reducible rfl
    try simp only [Act.put, List.setIfInBounds_toArray, List.set_cons_zero, List.set_cons_succ]
    refine take_at (i := 13) (v := ?_) rfl rfl (by kernel_rfl) (by kernel_rfl) (by kernel_rfl) (fun _ _ _ h => h) (Or.inl ⟨by rfl, ?_⟩) (by assumption) ?_
    rotate_left
    · intro w hSw; (try dsimp only at hSw); go_simp; try with_reducible rfl
    try simp only [Act.put, List.setIfInBounds_toArray, List.set_cons_zero, List.set_cons_succ]
    refine take_at (i := 14) (v := ?_) rfl rfl (by kernel_rfl) (by kernel_rfl) (by kernel_rfl) (fun _ _ _ h => h) (Or.inl ⟨by rfl, ?_⟩) (by assumption) ?_
    rotate_left
    · intro w hSw; (try dsimp only at hSw); go_simp; try with_reducible rfl
    try simp only [Act.put, List.setIfInBounds_toArray, List.set_cons_zero, List.set_cons_succ]
    refine take_at (i := 15) (v := ?_) rfl rfl (by kernel_rfl) (by kernel_rfl) (by kernel_rfl) (fun _ _ _ h => h) (Or.inl ⟨by rfl, ?_⟩) (by assumption) ?_
    rotate_left
    · intro w hSw; (try dsimp only at hSw); go_simp; try with_reducible rfl
    try simp only [Act.put, List.setIfInBounds_toArray, List.set_cons_zero, List.set_cons_succ]
    refine take_at (i := 16) (v := ?_) rfl rfl (by kernel_rfl) (by kernel_rfl) (by kernel_rfl) (fun _ _ _ h => h) (Or.inl ⟨by rfl, ?_⟩) (by assumption) ?_
    rotate_left
    · intro w hSw; (try dsimp only at hSw); go_simp; try with_reducible rfl
    try simp only [Act.put, List.setIfInBounds_toArray, List.set_cons_zero, List.set_cons_succ]
    refine wpAnyH_ready (rs := [17, 18]) (by kernel_rfl) (by simp) ?_
    refine AllReadyH.cons rfl (fun K hK => ?_) (AllReadyH.cons rfl (fun K hK => ?_) AllReadyH.nil)
    · go_simp
      refine (CQ.out _).mono ?_
      rintro e w1 ⟨rfl, hb1⟩
      have hB1 : Below w.heap.size w w1 := below_step (Below.refl _ _).drew (Nat.le_refl _) hb1
      refine hK.out _ _ (HS4.out w1 hB1) (fun hHeld => ?_)
      clear hK K
      clear hb1
      refine wpAnyH_ready (rs := [18]) (by kernel_rfl) (by simp) ?_
      refine AllReadyH.cons rfl (fun K hK => ?_) AllReadyH.nil
      go_simp
      have hB2 : Below w.heap.size w (w1.alloc (.cells four0 84)) := hB1.alloc hB1.size _
      refine hK.out _ _ (HS4.out _ hB2) (fun hHeld => ?_)
      clear hK K
      refine wpAnyH_ready (rs := [19]) (by kernel_rfl) (by simp) ?_
      refine AllReadyH.cons rfl (fun K hK => ?_) AllReadyH.nil
      refine step_storeBlk rfl rfl 84 _ _ rfl w1.heap.size four0 _ rfl rfl (Blk.new w1 84 four0) rfl Tryz.arr4i (by simp [Value.oneCell']) ?_
      have hB3 := below_setRow hB2 hB1.size #[.int .i64 (X' : Int), .int .i64 (Y' : Int), .int .i64 (Z' : Int), .int .i64 (U' : Int)]
      refine hK.out _ _ (HS4.out _ hB3) (fun hHeld => ?_)
      clear hK K
      refine wpAnyH_done (by kernel_rfl) (NoPanic.normal ?_) _
      go_wp2_with fail
      go_meet
      case rel => exact ⟨w1.heap.size, rfl, hB1.size, (Blk.new w1 84 four0).setRow _, hB3⟩
    · go_simp
      have hB0 : Below w.heap.size w (w.alloc (.cells four0 84)).drew := (below_new w _).drew
      refine hK.out _ _ (HS4.out _ hB0) (fun hHeld => ?_)
      clear hK K
      refine wpAnyH_ready (rs := [17]) (by kernel_rfl) (by simp) ?_
      refine AllReadyH.cons rfl (fun K hK => ?_) AllReadyH.nil
      go_simp
      refine (CQ.out _).mono ?_
      rintro e w1 ⟨rfl, hb1⟩
      have hB1 : Below w.heap.size w w1 := below_step hB0 (by simp) hb1
      have hF : Blk w1 84 w.heap.size four0 := Blk.below (w := (w.alloc (.cells four0 84)).drew) (Blk.new w 84 four0) hb1 (by simp)
      refine hK.out _ _ (HS4.out w1 hB1) (fun hHeld => ?_)
      clear hK K
      clear hb1
      refine wpAnyH_ready (rs := [19]) (by kernel_rfl) (by simp) ?_
      refine AllReadyH.cons rfl (fun K hK => ?_) AllReadyH.nil
      refine step_storeBlk rfl rfl 84 _ _ rfl w.heap.size four0 _ rfl rfl hF rfl Tryz.arr4i (by simp [Value.oneCell']) ?_
      have hB3 := below_setRow hB1 (Nat.le_refl _) #[.int .i64 (X' : Int), .int .i64 (Y' : Int), .int .i64 (Z' : Int), .int .i64 (U' : Int)]
      refine hK.out _ _ (HS4.out _ hB3) (fun hHeld => ?_)
      clear hK K
      refine wpAnyH_done (by kernel_rfl) (NoPanic.normal ?_) _
      go_wp2_with fail
      go_meet
      case rel => exact ⟨w.heap.size, rfl, Nat.le_refl _, hF.setRow _, hB3⟩
  case rest =>
    obtain ⟨h, rfl, hh, hF, hB⟩ := hcut
    have hIc := HI.out.below hB
    have HF : Hid (Blk wc 84 h _) := hF
    have hgwc := hB.size
    clear hF HS4 CQ HI hS4
    go_wp2_with (at_builtin; refine wpList_append_own _ rfl _ _ 47 rfl wc.heap.size 3 i0 (.int .i64 0) 1 8 Tryz.underlying47 hi hz0 hz1 hz2 rfl (by decide) (.slice none 0 0) 0 [] rfl (World.ownsRow_nil _ _ _ _) ⟨g, o, none⟩ 16 C ((ints x).map (Value.int .i64)) rfl ?b1 ?b2 ?b3 ?b4 ?b5 ?b6 ?_)
    case b1 => rw [List.length_map, ints_length, hx]
    case b2 =>
      intro j u hu
      have hj : j < 16 := by
        have := (List.getElem?_eq_some_iff.1 hu).1
        rw [List.length_map, ints_length, hx] at this; exact this
      have := hIc.cellOff j hj
      rw [List.getElem?_map, List.getElem?_eq_getElem (show j < (ints x).length by rw [ints_length, hx]; exact hj)] at hu
      simp only [Option.map_some, Option.some.injEq] at hu
      rw [show (⟨g, o, none⟩ : Addr).add j = ⟨g, o + j, none⟩ by simp [Addr.add], this, ← hu, List.getD_eq_getElem?_getD, List.getElem?_eq_getElem (show j < (ints x).length by rw [ints_length, hx]; exact hj)]
      rfl
    case b3 =>
      intro u hu
      simp only [List.mem_map] at hu
      obtain ⟨z, _, rfl⟩ := hu
      rfl
    case b4 => unfold maxLen; omega
    case b5 => omega
    case b6 => exact Nat.le_refl _
    intro v' w2 hown0 hgrow _
    have hown : OwnV w2 wc.heap.size 3 .i64 v' 16 (ints x) := hown0
    have hB2 : Below w.heap.size w w2 := hB.grown hgrow hgwc (fun k hk => by cases hk)
    have hF2 : Blk w2 84 h #[.int .i64 (X' : Int), .int .i64 (Y' : Int), .int .i64 (Z' : Int), .int .i64 (U' : Int)] := HF.out.on ((Below.refl _ _).grown hgrow (Nat.le_refl _) (fun k hk => by cases hk))
    obtain ⟨g', c', rfl⟩ := hown.atV (by omega)
    have hhg : h ≠ g' := by
      have h1 := hown.base'.1
      have h2 := HF.out.lt
      omega
    have hgg := hown.base'
    have hsz := hB2.size
    have e0 := (hF2.cell 0)
    simp only [List.getElem?_toArray, List.getElem?_cons_zero, List.getElem?_cons_succ] at e0
    have c0 := hown.cell' p lp
    have f0 := hown.free' p
    have o1 := hown.set' p (X' : Int)
    have b1 := hB2.setCell (p := ⟨g', p, none⟩) (Nat.le_trans hgwc hgg.1) (Value.int .i64 (X' : Int))
    have k1 := hF2.other ⟨g', p, none⟩ hhg (Value.int .i64 (X' : Int))
    have e1 := (k1.cell 1)
    simp only [List.getElem?_toArray, List.getElem?_cons_zero, List.getElem?_cons_succ] at e1
    have c1 := o1.cell' q lq
    have f1 := o1.free' q
    have o2 := o1.set' q (Y' : Int)
    have b2 := b1.setCell (p := ⟨g', q, none⟩) (Nat.le_trans hgwc hgg.1) (Value.int .i64 (Y' : Int))
    have k2 := k1.other ⟨g', q, none⟩ hhg (Value.int .i64 (Y' : Int))
    have e2 := (k2.cell 2)
    simp only [List.getElem?_toArray, List.getElem?_cons_zero, List.getElem?_cons_succ] at e2
    have c2 := o2.cell' r lr
    have f2 := o2.free' r
    have o3 := o2.set' r (Z' : Int)
    have b3 := b2.setCell (p := ⟨g', r, none⟩) (Nat.le_trans hgwc hgg.1) (Value.int .i64 (Z' : Int))
    have k3 := k2.other ⟨g', r, none⟩ hhg (Value.int .i64 (Z' : Int))
    have e3 := (k3.cell 3)
    simp only [List.getElem?_toArray, List.getElem?_cons_zero, List.getElem?_cons_succ] at e3
    have c3 := o3.cell' s ls
    have f3 := o3.free' s
    have o4 := o3.set' s (U' : Int)
    have b4 := b3.setCell (p := ⟨g', s, none⟩) (Nat.le_trans hgwc hgg.1) (Value.int .i64 (U' : Int))
    have k4 := k3.other ⟨g', s, none⟩ hhg (Value.int .i64 (U' : Int))
    have HO : Hid (OwnV _ wc.heap.size 3 .i64 (.slice (some ⟨g', 0, none⟩) 16 c') 16 _) := o4
    rw [ints_set, ints_set, ints_set, ints_set] at HO
    have HB : Hid (Below w.heap.size w _) := b4
    clear hown o1 o2 o3 o4 k1 k2 k3 k4 b1 b2 b3 b4 hF2
    go_wp2
    go_ret
    refine ⟨g', c', rfl, ?_, HB.out⟩
    have h1 := HO.out.ints
    obtain ⟨a, cc, he, hi⟩ := h1
    cases he
    rw [HN.out]
    exact hi
end Go.Proofs.YtglgppeloolbhaaGreatDoor

/- The document's Block. -/
namespace Go.Proofs.YtglgppeloolbhaaGreatDoor
open Go.RowKit
set_option maxRecDepth 100000
set_option linter.unusedSimpArgs false

theorem putL_mod (l l' : List Int) (hl : l.length = l'.length) (h : ∀ i, l.getD i 0 % 4294967296 = l'.getD i 0 % 4294967296) : putL l ssh = putL l' ssh := by
  unfold putL bytesOf
  rw [hl]
  apply List.map_congr_left
  intro j _
  have e : pb l ssh j = pb l' ssh j := by
    unfold pb
    have h4 := h (j / 4)
    generalize l.getD (j / 4) 0 = a at *
    generalize l'.getD (j / 4) 0 = b at *
    have hs : ssh j = 0 ∨ ssh j = 8 ∨ ssh j = 16 ∨ ssh j = 24 := by unfold ssh; omega
    rcases hs with hs | hs | hs | hs
    · rw [hs, show ((2 ^ 0 : Nat) : Int) = 1 from rfl]; omega
    · rw [hs, show ((2 ^ 8 : Nat) : Int) = 256 from rfl]; omega
    · rw [hs, show ((2 ^ 16 : Nat) : Int) = 65536 from rfl]; omega
    · rw [hs, show ((2 ^ 24 : Nat) : Int) = 16777216 from rfl]; omega
  rw [e]

theorem rround_lit (x y : List Nat) (p q r s : Nat) (p' q' r' s' : Int) (hp : p' = (p : Int)) (hq : q' = (q : Int)) (hr : r' = (r : Int)) (hs : s' = (s : Int)) (hx : x.length = 16) (ho : Ok x) (hy : y = stepN x p q r s) (lp : p < 16) (lq : q < 16) (lr : r < 16) (ls : s < 16)
    (g o C : Nat) (w0 w : World) (hb : Below w0.heap.size w0 w) (hI : IntsAt w .i64 (some ⟨g, o, none⟩) 16 (ints x)) :
    Calls Tryz.prog 50 #[.slice (some ⟨g, o, none⟩) 16 C, .int .i64 p', .int .i64 q', .int .i64 r', .int .i64 s'] w fun e w' =>
      ∃ g' c', e = .returned (.slice (some ⟨g', 0, none⟩) 16 c') ∧ Hid (IntsAt w' .i64 (some ⟨g', 0, none⟩) 16 (ints y)) ∧ Below w0.heap.size w0 w' ∧ Below w.heap.size w w' := by
  subst hp hq hr hs hy
  refine (rround_any x g o C p q r s w hx ho hI lp lq lr ls).mono ?_
  rintro e w' ⟨g', c', rfl, h1, h2⟩
  exact ⟨g', c', rfl, h1, below_step hb (Nat.le_refl _) h2, h2⟩
theorem block_sums (x r : List Nat) : putL (wT (fun i => x.getD i 0 + r.getD i 0) 16) ssh = putL (wT (fun i => (r.getD i 0 + x.getD i 0) % 4294967296) 16) ssh := by
  refine putL_mod _ _ (by rw [wT_length, wT_length]) (fun i => ?_)
  by_cases hi : i < 16
  · rw [wT_getD _ _ _ hi, wT_getD _ _ _ hi]
    generalize x.getD i 0 = a
    generalize r.getD i 0 = b
    omega
  · rw [List.getD_eq_getElem?_getD, List.getD_eq_getElem?_getD, List.getElem?_eq_none (by rw [wT_length]; omega), List.getElem?_eq_none (by rw [wT_length]; omega)]

set_option maxRecDepth 100000 in
set_option maxHeartbeats 8000000 in
theorem rblock_yes (key nonce : ByteArray) (c : Nat) (w : World) (h : Fits key nonce (c : Int)) :
    Calls Tryz.prog 31 #[.string key, .string nonce, .int .i64 (c : Int)] w fun e w' => e = .returned (.tuple #[.string (blockB key nonce c), .int .i64 0]) ∧ Below w.heap.size w w' := by
  obtain ⟨hk, hn, hc0, hc1⟩ := h
  obtain ⟨F, HF⟩ : ∃ F, Hid (F = firstN key nonce c) := ⟨_, rfl⟩
  have hFl : F.length = 16 := by rw [HF.out]; exact firstN_length _ _ _
  have hFo : Hid (Ok F) := by show Ok F; rw [HF.out]; exact firstN_ok _ _ _
  obtain ⟨R, HR⟩ : ∃ R, Hid (R = roundsN F) := ⟨_, rfl⟩
  have HRl : Hid (∀ k, (R k).length = 16) := by show ∀ k, _; intro k; rw [HR.out, roundsN_length, hFl]
  have HRo : Hid (∀ k, Ok (R k)) := by show ∀ k, _; rw [HR.out]; exact roundsN_ok F hFo.out
  have HR0 : Hid (R 0 = F) := by show _ = _; rw [HR.out]; rfl
  have HRs : Hid (∀ k, R (k + 1) = stepsN (R k) 8) := by show ∀ k, _; rw [HR.out]; exact roundsN_succ F
  obtain ⟨M, HM⟩ : ∃ M : Nat → Nat, Hid (M = fun i => F.getD i 0 + (R 10).getD i 0) := ⟨_, rfl⟩
  obtain ⟨E, HE⟩ : ∃ E, Hid (E = (⟨(putL (wT M 16) ssh).toArray⟩ : ByteArray)) := ⟨_, rfl⟩
  have hE : E = blockB key nonce c := by rw [HE.out, HM.out, block_sums F (R 10), HR.out, HF.out]; rfl
  rw [← hE]
  obtain ⟨A, hA⟩ : ∃ A, (⟨#[101, 120, 112, 97, 110, 100, 32, 51, 50, 45, 98, 121, 116, 101, 32, 107]⟩ : ByteArray) ++ key = A := ⟨_, rfl⟩
  have hAs : A.size = 48 := by rw [← hA, ByteArray.size_append, hk]; rfl
  obtain ⟨B, hB⟩ : ∃ B, B = (⟨(putL [(c : Int)] ssh).toArray⟩ : ByteArray) := ⟨_, rfl⟩
  have hBs : B.size = 4 := by rw [hB, put_size]; rfl
  obtain ⟨C, hC⟩ : ∃ C, A ++ B = C := ⟨_, rfl⟩
  have hCs : C.size = 52 := by rw [← hC, ByteArray.size_append, hAs, hBs]
  obtain ⟨D, hD⟩ : ∃ D, C ++ nonce = D := ⟨_, rfl⟩
  have hDs : D.size = 64 := by rw [← hD, ByteArray.size_append, hCs, hn]
  have hDt : D = textB key nonce c := by rw [← hD, ← hC, hB, ← hA]; rfl
  have HW : Hid (wordsL D ssh = ints F) := by
    show _ = _
    rw [HF.out, wT_first (firstN key nonce c) (wordS (textB key nonce c)) 16 (firstN_length _ _ _) (fun i hi => by unfold firstN; rw [tabN_getD _ _ _ hi])]
    unfold wordsL wT
    rw [hDs, ← hDt]
    unfold wordS
    rw [hDs]
  have CP : Hid (∀ w a, IntsAt w .i64 a 1 [(c : Int)] → _) := fun w a h => rputSmall_any a 1 1 [(c : Int)] w (by omega) h
  rw [← hB] at CP
  have CS : Hid (∀ w, _) := fun w => rsmall_even D w (by omega) (by omega)
  have hsum1 : ¬ (9223372036854775807 < 16 + key.size) := by omega
  have hsum2 : ¬ (9223372036854775807 < A.size + B.size) := by omega
  have hsum3 : ¬ (9223372036854775807 < C.size + nonce.size) := by omega
  have g1 : (((key.size : Int) != 32)) = false := by rw [bne_eq_false_iff_eq]; omega
  have g2 : (((nonce.size : Int) != 12)) = false := by rw [bne_eq_false_iff_eq]; omega
  have g3 : decide ((c : Int) < 0) = false := by simp
  have g4 : decide ((4294967295 : Int) < (c : Int)) = false := by simp; omega
  obtain ⟨i0, hi, hz0, hz1, hz2⟩ := info_parts Tryz.info3
  clear hB hDt hE HR hc0 hc1
  go_enter Tryz.func31, Tryz.ntmps31
  go_wp2_with fail
  have A2 := ints_lit w .i64 (c : Int) 3
  refine (CP.out _ _ A2).mono ?_
  rintro e w1 ⟨rfl, hb1⟩
  have hB1 := below_step (below_new w _) (Nat.le_refl _) hb1
  clear A2 hb1 CP
  go_wp2_with fail
  refine (CS.out _).mono ?_
  rintro e w2 ⟨a, cc, rfl, hI, hb2⟩
  rw [HW.out] at hI
  have hq16 : D.size / 4 = 16 := by omega
  rw [hq16] at hI ⊢
  obtain ⟨b, off, rfl, _⟩ : ∃ b off, a = some ⟨b, off, none⟩ ∧ _ := by
    rcases hI.2 with h0 | h1
    · omega
    · exact h1
  have HI : Hid (IntsAt w2 .i64 (some ⟨b, off, none⟩) 16 (ints F)) := hI
  have hB2 := below_step hB1 (Nat.le_refl _) hb2
  clear hB1 hI hb2 CS HW hq16 hA hC hD hsum1 hsum2 hsum3 g1 g2 g3 g4
  go_wp2_with fail
  rename_i hcells _ _
  clear hcells
  go_loopw [10, 11] (fun v i wr => ∃ k g o cp : Nat, k ≤ 10 ∧ i = .int .i64 k ∧ v = .slice (some ⟨g, o, none⟩) 16 cp ∧ Hid (IntsAt wr .i64 (some ⟨g, o, none⟩) 16 (ints (R k))) ∧ Hid (IntsAt wr .i64 (some ⟨b, off, none⟩) 16 (ints F)) ∧ Below w.heap.size w wr) (fun _ i _ => 10 - (intOf i).toNat)
  case atStart => exact ⟨0, b, off, cc, Nat.zero_le _, rfl, rfl, by rw [HR0.out]; exact HI, HI, hB2⟩
  case round =>
    clear HI hB2
    obtain ⟨k, g, o, cp, hk10, rfl, rfl, V0, VF, hbl⟩ := hrel
    by_cases hlt : k < 10
    · obtain ⟨G, HG⟩ : ∃ G, Hid (G = stepsN (R k)) := ⟨_, rfl⟩
      have HGl : Hid (∀ j, (G j).length = 16) := by show ∀ j, _; intro j; rw [HG.out, stepsN_length, HRl.out]
      have HGo : Hid (∀ j, Ok (G j)) := by show ∀ j, _; rw [HG.out]; exact stepsN_ok _ (HRo.out k)
      have HGs : Hid (∀ j, G (j + 1) = stepN (G j) (pA.getD j 0) (pB.getD j 0) (pC.getD j 0) (pD.getD j 0)) := by show ∀ j, _; rw [HG.out]; exact stepsN_succ _
      have HG0 : Hid (G 0 = R k) := by show _ = _; rw [HG.out]; rfl
      have HG8 : Hid (G 8 = R (k + 1)) := by show _ = _; rw [HG.out, HRs.out k]
      rw [← HG0.out] at V0
      clear HG HG0
      go_wp2_with fail
      refine (rround_lit (G 0) (G 1) 0 4 8 12 _ _ _ _ rfl rfl rfl rfl (HGl.out 0) (HGo.out 0) (HGs.out 0) (by decide) (by decide) (by decide) (by decide) _ _ _ w _ hbl V0.out).mono ?_
      rintro e x1 ⟨g1, c1, rfl, I1, B1, D1⟩
      have F1 : Hid (IntsAt x1 .i64 (some ⟨b, off, none⟩) 16 (ints F)) := VF.out.below D1
      clear V0 VF hbl D1
      go_wp2_with fail
      refine (rround_lit (G 1) (G 2) 1 5 9 13 _ _ _ _ rfl rfl rfl rfl (HGl.out 1) (HGo.out 1) (HGs.out 1) (by decide) (by decide) (by decide) (by decide) _ _ _ w _ B1 I1.out).mono ?_
      rintro e x2 ⟨g2, c2, rfl, I2, B2, D2⟩
      have F2 : Hid (IntsAt x2 .i64 (some ⟨b, off, none⟩) 16 (ints F)) := F1.out.below D2
      clear I1 B1 F1 D2
      go_wp2_with fail
      refine (rround_lit (G 2) (G 3) 2 6 10 14 _ _ _ _ rfl rfl rfl rfl (HGl.out 2) (HGo.out 2) (HGs.out 2) (by decide) (by decide) (by decide) (by decide) _ _ _ w _ B2 I2.out).mono ?_
      rintro e x3 ⟨g3, c3, rfl, I3, B3, D3⟩
      have F3 : Hid (IntsAt x3 .i64 (some ⟨b, off, none⟩) 16 (ints F)) := F2.out.below D3
      clear I2 B2 F2 D3
      go_wp2_with fail
      refine (rround_lit (G 3) (G 4) 3 7 11 15 _ _ _ _ rfl rfl rfl rfl (HGl.out 3) (HGo.out 3) (HGs.out 3) (by decide) (by decide) (by decide) (by decide) _ _ _ w _ B3 I3.out).mono ?_
      rintro e x4 ⟨g4, c4, rfl, I4, B4, D4⟩
      have F4 : Hid (IntsAt x4 .i64 (some ⟨b, off, none⟩) 16 (ints F)) := F3.out.below D4
      clear I3 B3 F3 D4
      go_wp2_with fail
      refine (rround_lit (G 4) (G 5) 0 5 10 15 _ _ _ _ rfl rfl rfl rfl (HGl.out 4) (HGo.out 4) (HGs.out 4) (by decide) (by decide) (by decide) (by decide) _ _ _ w _ B4 I4.out).mono ?_
      rintro e x5 ⟨g5, c5, rfl, I5, B5, D5⟩
      have F5 : Hid (IntsAt x5 .i64 (some ⟨b, off, none⟩) 16 (ints F)) := F4.out.below D5
      clear I4 B4 F4 D5
      go_wp2_with fail
      refine (rround_lit (G 5) (G 6) 1 6 11 12 _ _ _ _ rfl rfl rfl rfl (HGl.out 5) (HGo.out 5) (HGs.out 5) (by decide) (by decide) (by decide) (by decide) _ _ _ w _ B5 I5.out).mono ?_
      rintro e x6 ⟨g6, c6, rfl, I6, B6, D6⟩
      have F6 : Hid (IntsAt x6 .i64 (some ⟨b, off, none⟩) 16 (ints F)) := F5.out.below D6
      clear I5 B5 F5 D6
      go_wp2_with fail
      refine (rround_lit (G 6) (G 7) 2 7 8 13 _ _ _ _ rfl rfl rfl rfl (HGl.out 6) (HGo.out 6) (HGs.out 6) (by decide) (by decide) (by decide) (by decide) _ _ _ w _ B6 I6.out).mono ?_
      rintro e x7 ⟨g7, c7, rfl, I7, B7, D7⟩
      have F7 : Hid (IntsAt x7 .i64 (some ⟨b, off, none⟩) 16 (ints F)) := F6.out.below D7
      clear I6 B6 F6 D7
      go_wp2_with fail
      refine (rround_lit (G 7) (G 8) 3 4 9 14 _ _ _ _ rfl rfl rfl rfl (HGl.out 7) (HGo.out 7) (HGs.out 7) (by decide) (by decide) (by decide) (by decide) _ _ _ w _ B7 I7.out).mono ?_
      rintro e x8 ⟨g8, c8, rfl, I8, B8, D8⟩
      have F8 : Hid (IntsAt x8 .i64 (some ⟨b, off, none⟩) 16 (ints F)) := F7.out.below D8
      clear I7 B7 F7 D8
      rw [HG8.out] at I8
      go_wp2
      go_roundw
      case rel => exact ⟨k + 1, g8, 0, c8, by omega, by go_num, rfl, I8, F8, B8⟩
      case measure => simp [intOf]; omega
    · have hk10' : k = 10 := by omega
      subst hk10'
      obtain ⟨w5, h5⟩ : ∃ w5, w5 = wr := ⟨_, rfl⟩
      rw [← h5] at V0 VF hbl ⊢
      clear h5
      go_wp2_with fail
      go_loopw [12, 13] (fun v i wr => ∃ k : Nat, k ≤ 16 ∧ i = .int .i64 k ∧ OwnV wr w5.heap.size 3 .i64 v k (wT M k) ∧ Below w5.heap.size w5 wr) (fun _ i _ => 16 - (intOf i).toNat)
      case atStart => exact ⟨0, Nat.zero_le _, rfl, OwnV.nil _ _ _ _, Below.refl _ _⟩
      case round =>
        obtain ⟨k, hk16, rfl, hown, hbl5⟩ := hrel
        by_cases hlt : k < 16
        · have cX := VF.out.cellOff k hlt
          have cY := V0.out.cellOff k hlt
          rw [ints_getD] at cX cY
          have lX := hFo.out k
          have lY := HRo.out 10 k
          have hMk : M k = F.getD k 0 + (R 10).getD k 0 := by rw [HM.out]
          generalize F.getD k 0 = X at *
          generalize (R 10).getD k 0 = Y at *
          have hX5 := World.block_lt_of_cell? w5 _ cX
          have hY5 := World.block_lt_of_cell? w5 _ cY
          have SS : Hid (∀ w', Below w5.heap.size w5 w' → w'.cell? ⟨b, off + k, none⟩ = some (.int .i64 (X : Int)) ∧ w'.cell? ⟨g, o + k, none⟩ = some (.int .i64 (Y : Int))) :=
            fun w' hb => ⟨by rw [hb.cell (p := ⟨b, off + k, none⟩) hX5]; exact cX, by rw [hb.cell (p := ⟨g, o + k, none⟩) hY5]; exact cY⟩
          have c0 := (SS.out wr hbl5).1
          have c1 := (SS.out wr hbl5).2
          have VN : Hid (IntKind.i64.wrap ((X : Int) + (Y : Int)) = ((M k : Nat) : Int)) := by show _ = _; rw [i64_small _ (by omega) (by omega), hMk]; omega
          have b0 : (0 : Int) ≤ (k : Int) := by omega
          have b1 : (k : Int) < 16 := by omega
          have hsz := hbl5.size
          clear cX cY hMk
          go_wp2_with fail
          refine wp_region_noPanic ?_
          refine wp_region_held_drew (S := fun w' => w'.cell? ⟨b, off + k, none⟩ = some (.int .i64 (X : Int)) ∧ w'.cell? ⟨g, o + k, none⟩ = some (.int .i64 (Y : Int))) (by kernel_rfl) (by first | exact trivial | assumption | exact ⟨by assumption, by assumption⟩) (fun hHeld => ?_)
          refine take_at (i := 0) (v := ?_) rfl rfl (by kernel_rfl) (by kernel_rfl) (by kernel_rfl) (fun _ _ _ h => h) (Or.inl ⟨by rfl, ?_⟩) (by assumption) ?_
          rotate_left
          · intro w hSw; (try dsimp only at hSw); go_simp; try with_reducible rfl
          try simp only [Act.put, List.setIfInBounds_toArray, List.set_cons_zero, List.set_cons_succ]
          refine take_at (i := 1) (v := ?_) rfl rfl (by kernel_rfl) (by kernel_rfl) (by kernel_rfl) (fun _ _ _ h => h) (Or.inl ⟨by rfl, ?_⟩) (by assumption) ?_
          rotate_left
          · intro w hSw; (try dsimp only at hSw); go_simp; try with_reducible rfl
          try simp only [Act.put, List.setIfInBounds_toArray, List.set_cons_zero, List.set_cons_succ]
          refine take_at (i := 2) (v := ?_) rfl rfl (by kernel_rfl) (by kernel_rfl) (by kernel_rfl) (fun _ _ _ h => h) (Or.inl ⟨by rfl, ?_⟩) (by assumption) ?_
          rotate_left
          · intro w hSw; (try dsimp only at hSw); go_simp; try with_reducible rfl
          try simp only [Act.put, List.setIfInBounds_toArray, List.set_cons_zero, List.set_cons_succ]
          refine take_at (i := 3) (v := ?_) rfl rfl (by kernel_rfl) (by kernel_rfl) (by kernel_rfl) (fun _ _ _ h => h) (Or.inl ⟨by rfl, ?_⟩) (by assumption) ?_
          rotate_left
          · intro w hSw; (try dsimp only at hSw); go_simp; try with_reducible rfl
          try simp only [Act.put, List.setIfInBounds_toArray, List.set_cons_zero, List.set_cons_succ]
          refine take_at (i := 4) (v := ?_) rfl rfl (by kernel_rfl) (by kernel_rfl) (by kernel_rfl) (fun _ _ _ h => h) (Or.inl ⟨by rfl, ?_⟩) (by assumption) ?_
          rotate_left
          · intro w hSw; (try dsimp only at hSw); go_simp; try with_reducible rfl
          try simp only [Act.put, List.setIfInBounds_toArray, List.set_cons_zero, List.set_cons_succ]
          refine take_at (i := 5) (v := ?_) rfl rfl (by kernel_rfl) (by kernel_rfl) (by kernel_rfl) (fun _ _ _ h => h) (Or.inl ⟨by rfl, ?_⟩) (by assumption) ?_
          rotate_left
          · intro w hSw; (try dsimp only at hSw); go_simp; try with_reducible rfl
          try simp only [Act.put, List.setIfInBounds_toArray, List.set_cons_zero, List.set_cons_succ]
          refine take_at (i := 6) (v := ?_) rfl rfl (by kernel_rfl) (by kernel_rfl) (by kernel_rfl) (fun _ _ _ h => h) (Or.inl ⟨by rfl, ?_⟩) (by assumption) ?_
          rotate_left
          · intro w hSw; (try dsimp only at hSw); go_simp; try with_reducible rfl
          try simp only [Act.put, List.setIfInBounds_toArray, List.set_cons_zero, List.set_cons_succ]
          refine take_at (i := 7) (v := ?_) rfl rfl (by kernel_rfl) (by kernel_rfl) (by kernel_rfl) (fun _ _ _ h => h) (Or.inl ⟨by rfl, ?_⟩) (by assumption) ?_
          rotate_left
          · intro w hSw; (try dsimp only at hSw); go_simp; try with_reducible rfl
          try simp only [Act.put, List.setIfInBounds_toArray, List.set_cons_zero, List.set_cons_succ]
          refine take_at (i := 8) (v := ?_) rfl rfl (by kernel_rfl) (by kernel_rfl) (by kernel_rfl) (fun _ _ _ h => h) (Or.inl ⟨by rfl, ?_⟩) (by assumption) ?_
          rotate_left
          · intro w hSw; (try dsimp only at hSw); go_simp; try with_reducible rfl
          try simp only [Act.put, List.setIfInBounds_toArray, List.set_cons_zero, List.set_cons_succ]
          refine take_at (i := 9) (v := ?_) rfl rfl (by kernel_rfl) (by kernel_rfl) (by kernel_rfl) (fun _ _ _ h => h) (Or.inl ⟨by rfl, ?_⟩) (by assumption) ?_
          rotate_left
          · intro w hSw; (try dsimp only at hSw); go_simp; try with_reducible rfl
          try simp only [Act.put, List.setIfInBounds_toArray, List.set_cons_zero, List.set_cons_succ]
          refine wpAnyH_ready (rs := [10]) (by kernel_rfl) (by simp) ?_
          refine AllReadyH.cons rfl (fun K hK => ?_) AllReadyH.nil
          go_simp
          rw [VN.out]
          refine hK.out _ _ (SS.out _ ((hbl5.alloc hsz _).drew)) (fun hHeld => ?_)
          clear hK K
          refine wpAnyH_ready (rs := [11]) (by kernel_rfl) (by simp) ?_
          refine AllReadyH.cons rfl (fun K hK => ?_) AllReadyH.nil
          refine step_app1 rfl rfl _ _ 47 rfl w5.heap.size 3 i0 .i64 8 Tryz.underlying47 hi hz0 hz1 hz2 wr u12 k _ rfl hown ((M k : Nat) : Int) rfl (by omega) (by omega) (by exact hsz) ?_
          intro v' w6 hown1 hbl1
          have hB6 := hbl5.trans hbl1
          refine hK.out _ _ (SS.out _ hB6) (fun hHeld => ?_)
          clear hK K
          refine take_at (i := 12) (v := ?_) rfl rfl (by kernel_rfl) (by kernel_rfl) (by kernel_rfl) (fun _ _ _ h => h) (Or.inl ⟨by rfl, ?_⟩) (by assumption) ?_
          rotate_left
          · intro w hSw; (try dsimp only at hSw); go_simp; try with_reducible rfl
          try simp only [Act.put, List.setIfInBounds_toArray, List.set_cons_zero, List.set_cons_succ]
          refine wpAnyH_done (by kernel_rfl) (NoPanic.normal ?_) _
          rw [wT_snoc _ _ _ rfl] at hown1
          clear SS VN c0 c1 hbl1 hown hbl5
          go_wp2
          go_roundw
          case rel =>
            (repeat apply Exists.intro)
            refine ⟨?_, rfl⟩
            exact ⟨k + 1, by omega, by go_num, hown1, hB6⟩
          case measure => simp [intOf]; omega
        · have hk8 : k = 16 := by omega
          subst hk8
          obtain ⟨a', cp', hv, hI'⟩ := hown.ints
          subst hv
          have CP : Hid (∀ w, IntsAt w .i64 a' 16 (wT M 16) → _) := fun w hI => rputSmall_any a' 16 cp' (wT M 16) w (by omega) hI
          rw [← HE.out] at CP
          have HI' : Hid (IntsAt wr .i64 a' 16 (wT M 16)) := hI'
          have hBr := below_step hbl (Nat.le_refl _) hbl5
          clear hown V0 VF hI' hbl5 hbl
          go_wp2_with fail
          refine (CP.out _ HI'.out).mono ?_
          rintro e w7 ⟨rfl, hb7⟩
          have hB7 := below_step hBr (Nat.le_refl _) hb7
          clear hb7 CP
          go_wp2_with fail
          go_ret2
          exact ⟨rfl, hB7⟩
end Go.Proofs.YtglgppeloolbhaaGreatDoor

/- The document's Stream. -/
namespace Go.Proofs.YtglgppeloolbhaaGreatDoor
open Go.RowKit
set_option maxRecDepth 100000
set_option linter.unusedSimpArgs false

theorem extract_parts (s : ByteArray) (a b : Nat) (h : a ≤ b) (hb : b ≤ s.size) : s.extract 0 a ++ s.extract a b = s.extract 0 b := by
  have e1 : (s.extract 0 a).size = a := by rw [ByteArray.size_extract]; omega
  have e2 : (s.extract a b).size = b - a := by rw [ByteArray.size_extract]; omega
  have e3 : (s.extract 0 b).size = b := by rw [ByteArray.size_extract]; omega
  apply bt_ext
  · rw [ByteArray.size_append, e1, e2, e3]; omega
  · intro j hj
    rw [ByteArray.size_append, e1, e2] at hj
    rw [bt_extract s 0 b j (by omega) hb, Nat.zero_add]
    by_cases h1 : j < a
    · rw [bt_append_left _ _ _ (by rw [e1]; exact h1), bt_extract s 0 a j (by omega) (by omega), Nat.zero_add]
    · have e : j = (s.extract 0 a).size + (j - a) := by rw [e1]; omega
      rw [show bt (s.extract 0 a ++ s.extract a b) j = bt (s.extract a b) (j - a) by
        conv => lhs; rw [e]
        rw [bt_append_right]]
      rw [bt_extract s a b (j - a) (by omega) hb, show a + (j - a) = j by omega]
theorem extract_none (s : ByteArray) : s.extract 0 0 = ⟨#[]⟩ := by
  apply bt_ext
  · rw [ByteArray.size_extract]; rfl
  · intro j hj
    rw [ByteArray.size_extract] at hj; omega
theorem extract_whole (s : ByteArray) (n : Nat) (h : s.size = n) : s.extract 0 n = s := by
  subst h
  apply bt_ext
  · rw [ByteArray.size_extract]; omega
  · intro j hj
    have hj' : j < s.size := by rw [ByteArray.size_extract] at hj; omega
    rw [bt_extract s 0 s.size j (by omega) (Nat.le_refl _), Nat.zero_add]
/-- A piece of a stream. -/
theorem stream_piece (key nonce : ByteArray) (c k n : Nat) (s : ByteArray) (h : 64 * k + n ≤ s.size) (hn : n ≤ 64) :
    (⟨(xorL (s.extract (64 * k) (64 * k + n)) ((blockB key nonce (c + k)).extract 0 n)).toArray⟩ : ByteArray) = (streamB key nonce c s).extract (64 * k) (64 * k + n) := by
  have e1 : (s.extract (64 * k) (64 * k + n)).size = n := by rw [ByteArray.size_extract]; omega
  have e2 : ((blockB key nonce (c + k)).extract 0 n).size = n := by rw [ByteArray.size_extract, blockB_size]; omega
  have e3 : ((streamB key nonce c s).extract (64 * k) (64 * k + n)).size = n := by rw [ByteArray.size_extract, streamB_size]; omega
  have e4 : (⟨(xorL (s.extract (64 * k) (64 * k + n)) ((blockB key nonce (c + k)).extract 0 n)).toArray⟩ : ByteArray).size = n := by
    show (xorL _ _).toArray.size = n
    rw [List.size_toArray, xorL_length _ _ (by rw [e1, e2]), e1]
  apply bt_ext
  · rw [e3, e4]
  · intro j hj
    rw [e4] at hj
    rw [bt_xorL _ _ j (by rw [e1]; exact hj) (by rw [e2]; exact hj), bt_extract s _ _ j (by omega) h, bt_extract _ 0 n j (by omega) (by rw [blockB_size]; omega), bt_extract _ _ _ j (by omega) (by rw [streamB_size]; exact h), bt_stream _ _ _ _ _ (by omega),
      Nat.zero_add, show (64 * k + j) / 64 = k by omega, show (64 * k + j) % 64 = j by omega]
/-- A row of bytes of the call's own, as a text. -/
theorem owns_conv {P : Program} {w : World} {B n : Nat} {e : TypeId} {v : Value} {s : ByteArray} (src dst : TypeId) (h : w.ownsRow B e 1 v n (Lib.strCells s)) (hs : P.underlying src = some (.slice e)) (he : P.underlying e = some (.int .u8)) (hd : P.underlying dst = some .string) :
    (convert src dst v).run P w = .ok (.string s) w := by
  have hn : s.size = n := by have := h.1; rw [Lib.strCells_length] at this; omega
  rcases h.2 with ⟨rfl, rfl⟩ | ⟨g, cap, cur, rfl, r⟩
  · have : s = ⟨#[]⟩ := by apply bt_ext; exact hn; intro i hi; omega
    subst this
    exact run_convert_bytes_nil w src e hs he 0 0 dst hd
  · have := (row_of_owns h).conv (P := P) (bt_lt _) n cap (by omega) src dst hs he hd
    rw [bytesOf_extract _ n (by omega), extract_whole s n hn] at this
    exact this

set_option maxRecDepth 100000 in
set_option maxHeartbeats 4000000 in
theorem rstream_yes (key nonce : ByteArray) (c : Nat) (s : ByteArray) (w : World) (h : Fits key nonce (c : Int)) (hs : s.size ≤ 65536) (hb : s.size ≤ (4294967296 - c) * 64) :
    Calls Tryz.prog 15 #[.string key, .string nonce, .int .i64 (c : Int), .string s] w fun e w' => e = .returned (.tuple #[.string (streamB key nonce c s), .int .i64 0]) ∧ Below w.heap.size w w' := by
  have HFit : Hid (Fits key nonce (c : Int)) := h
  obtain ⟨hk, hn, hc0, hc1⟩ := h
  have hc : c < 4294967296 := by omega
  obtain ⟨S, HS⟩ : ∃ S, Hid (S = streamB key nonce c s) := ⟨_, rfl⟩
  have hSs : S.size = s.size := by rw [HS.out, streamB_size]
  have C2 : Hid (∀ k w, c + k < 4294967296 → Calls Tryz.prog 31 #[.string key, .string nonce, .int .i64 ((c : Int) + ((k : Nat) : Int))] w fun e w' => e = .returned (.tuple #[.string (blockB key nonce (c + k)), .int .i64 0]) ∧ Below w.heap.size w w') := by
    show ∀ k w, _ → _
    intro k w hck
    have := rblock_yes key nonce (c + k) w ⟨hk, hn, by omega, by omega⟩
    rw [Int.natCast_add] at this
    exact this
  have HSp : Hid (∀ k n, 64 * k + n ≤ s.size → n ≤ 64 → (⟨(xorL (s.extract (64 * k) (64 * k + n)) ((blockB key nonce (c + k)).extract 0 n)).toArray⟩ : ByteArray) = S.extract (64 * k) (64 * k + n)) := by
    show ∀ k n, _; intro k n h1 h2; rw [HS.out]; exact stream_piece key nonce c k n s h1 h2
  have g1 : (((key.size : Int) != 32)) = false := by rw [bne_eq_false_iff_eq]; omega
  have g2 : (((nonce.size : Int) != 12)) = false := by rw [bne_eq_false_iff_eq]; omega
  have g3 : decide ((c : Int) < 0) = false := by simp
  have g4 : decide ((4294967295 : Int) < (c : Int)) = false := by simp; omega
  have g5 : decide ((65536 : Int) < (s.size : Int)) = false := by simp; omega
  obtain ⟨m, Hm⟩ : ∃ m, Hid (m = (s.size + 63) / 64) := ⟨_, rfl⟩
  have hm : m ≤ 1024 := by rw [Hm.out]; omega
  have hq : Int.tdiv ((s.size : Int) + 63) 64 = (m : Int) := by rw [Hm.out, Int.tdiv_eq_ediv_of_nonneg (by omega)]; omega
  have g6 : decide ((4294967296 - (c : Int)) < (m : Int)) = false := by have := Hm.out; simp; omega
  obtain ⟨i0, hi, hz0, hz1, hz2⟩ := info_parts Tryz.info5
  rw [← HS.out]
  clear hk hn hc0 hc1
  go_enter Tryz.func15, Tryz.ntmps15
  go_wp2_with fail
  clear g1 g2 g3 g4 g5 g6 hq
  go_loopw [10, 11] (fun v i wr => ∃ k j : Nat, Hid (j = 64 * k) ∧ j < s.size + 64 ∧ i = .int .i64 j ∧ wr.ownsRow w.heap.size 5 1 v (min j s.size) (Lib.strCells (S.extract 0 (min j s.size))) ∧ Below w.heap.size w wr) (fun _ i _ => s.size + 64 - (intOf i).toNat)
  case atStart => exact ⟨0, 0, rfl, by omega, rfl, by rw [Nat.zero_min, extract_none]; exact World.ownsRow_nil _ _ _ _, Below.refl _ _⟩
  case round =>
    obtain ⟨k, j, HJ, hj, rfl, hown, hbl⟩ := hrel
    by_cases hlt : j < s.size
    · obtain ⟨n, Hn⟩ : ∃ n, Hid (n = min 64 (s.size - j)) := ⟨_, rfl⟩
      have hkb : k ≤ 1024 := by have := HJ.out; omega
      have hn0 : n ≤ 64 := by rw [Hn.out]; exact Nat.min_le_left _ _
      have hn1 : j + n ≤ s.size := by have := Hn.out; omega
      have hmin : min (64 : Int) ((s.size : Int) - (j : Int)) = (n : Int) := by have := Hn.out; omega
      have hdiv : Int.tdiv (j : Int) 64 = (k : Int) := by rw [Int.tdiv_eq_ediv_of_nonneg (by omega)]; have := HJ.out; omega
      have CB' := fun w => C2.out k w (by have := HJ.out; omega)
      obtain ⟨B, HB⟩ : ∃ B, Hid (B = blockB key nonce (c + k)) := ⟨_, rfl⟩
      rw [← HB.out] at CB'
      have CB : Hid (∀ w, _) := CB'
      have hBs : B.size = 64 := by rw [HB.out, blockB_size]
      clear CB'
      obtain ⟨P1, h1⟩ : ∃ P1, s.extract j (j + n) = P1 := ⟨_, rfl⟩
      obtain ⟨P2, h2⟩ : ∃ P2, B.extract 0 n = P2 := ⟨_, rfl⟩
      have h1s : P1.size = n := by rw [← h1, ByteArray.size_extract]; omega
      have h2s : P2.size = n := by rw [← h2, ByteArray.size_extract]; omega
      obtain ⟨T', HT⟩ : ∃ T', Hid (T' = S.extract j (j + n)) := ⟨_, rfl⟩
      have hTs : T'.size = n := by rw [HT.out, ByteArray.size_extract]; omega
      have hX : (⟨(xorL P1 P2).toArray⟩ : ByteArray) = T' := by
        have := HSp.out k n (by have := HJ.out; omega) hn0
        rw [← HB.out, ← HJ.out, h1, h2] at this
        rw [this, HT.out]
      have CX' := fun w => rxor_len P1 P2 w (by omega) (by rw [h1s, h2s])
      rw [hX] at CX'
      have CX : Hid (∀ w, _) := CX'
      have hS' : Hid (S.extract 0 (min j s.size) ++ T' = S.extract 0 (min (j + 64) s.size)) := by
        show _ = _
        have := Hn.out
        rw [HT.out, show min j s.size = j by omega, show min (j + 64) s.size = j + n by omega, extract_parts S j (j + n) (by omega) (by omega)]
      have hmn : min j s.size + n = min (j + 64) s.size := by have := Hn.out; omega
      have t1 : IntKind.i64.wrap ((j : Int) + (n : Int)) = (j : Int) + (n : Int) := by rw [IntKind.wrap_i64]; omega
      have t2 : ((j : Int) + (n : Int)).toNat = j + n := by omega
      have HMN : Hid (min j s.size + n = min (j + 64) s.size) := hmn
      obtain ⟨a, Ha⟩ : ∃ a, Hid (a = min j s.size) := ⟨_, rfl⟩
      rw [← Ha.out] at hown hS' HMN
      have ha : a ≤ 65536 := by have := Ha.out; omega
      clear CX' hX hmn
      go_wp2_with fail
      refine (CB.out _).mono ?_
      rintro e w1 ⟨rfl, hb1⟩
      have hB1 := below_step hbl (Nat.le_refl _) hb1
      have ho1 : w1.ownsRow w.heap.size 5 1 u10 a (Lib.strCells (S.extract 0 a)) := by
        rcases hown.2 with ⟨h1, h2⟩ | ⟨g, cap, cur, h1, h2, h3, h4⟩
        · exact ⟨hown.1, .inl ⟨h1, h2⟩⟩
        · exact ⟨hown.1, .inr ⟨g, cap, cur, h1, h2, by rw [hb1.block g (Array.getElem?_eq_some_iff.1 h3).1]; exact h3, h4⟩⟩
      clear hbl hown hb1 CB
      by_cases h64 : s.size - j < 64
      · have hv : (s.size : Int) - (j : Int) = (n : Int) := by have := Hn.out; omega
        have hv2 : (n : Int) < 64 := by have := Hn.out; omega
        have u1 : (0 : Int) ≤ (j : Int) := by omega
        have u2 : (j : Int) ≤ (j : Int) + (n : Int) := by omega
        have u3 : (j : Int) + (n : Int) ≤ (s.size : Int) := by omega
        have u4 : (0 : Int) ≤ (n : Int) := by omega
        have u5 : (n : Int) ≤ (64 : Int) := by omega
        go_wp2_with fail
        refine wp_region_noPanic ?_
        refine wp_region_held_drew (S := fun _ => True) (by kernel_rfl) (by first | exact trivial | assumption | exact ⟨by assumption, by assumption⟩) (fun hHeld => ?_)
        refine take_at (i := 0) (v := ?_) rfl rfl (by kernel_rfl) (by kernel_rfl) (by kernel_rfl) (fun _ _ _ h => h) (Or.inl ⟨by rfl, ?_⟩) (by assumption) ?_
        rotate_left
        · intro w hSw; (try dsimp only at hSw); go_simp; try with_reducible rfl
        try simp only [Act.put, List.setIfInBounds_toArray, List.set_cons_zero, List.set_cons_succ]
        refine take_at (i := 1) (v := ?_) rfl rfl (by kernel_rfl) (by kernel_rfl) (by kernel_rfl) (fun _ _ _ h => h) (Or.inl ⟨by rfl, ?_⟩) (by assumption) ?_
        rotate_left
        · intro w hSw; (try dsimp only at hSw); go_simp; try with_reducible rfl
        try simp only [Act.put, List.setIfInBounds_toArray, List.set_cons_zero, List.set_cons_succ]
        refine take_at (i := 2) (v := ?_) rfl rfl (by kernel_rfl) (by kernel_rfl) (by kernel_rfl) (fun _ _ _ h => h) (Or.inl ⟨by rfl, ?_⟩) (by assumption) ?_
        rotate_left
        · intro w hSw; (try dsimp only at hSw); go_simp; try with_reducible rfl
        try simp only [Act.put, List.setIfInBounds_toArray, List.set_cons_zero, List.set_cons_succ]
        refine take_at (i := 3) (v := ?_) rfl rfl (by kernel_rfl) (by kernel_rfl) (by kernel_rfl) (fun _ _ _ h => h) (Or.inl ⟨by rfl, ?_⟩) (by assumption) ?_
        rotate_left
        · intro w hSw; (try dsimp only at hSw); go_simp; try with_reducible rfl
        try simp only [Act.put, List.setIfInBounds_toArray, List.set_cons_zero, List.set_cons_succ]
        refine take_at (i := 4) (v := ?_) rfl rfl (by kernel_rfl) (by kernel_rfl) (by kernel_rfl) (fun _ _ _ h => h) (Or.inl ⟨by rfl, ?_⟩) (by assumption) ?_
        rotate_left
        · intro w hSw; (try dsimp only at hSw); go_simp; try with_reducible rfl
        try simp only [Act.put, List.setIfInBounds_toArray, List.set_cons_zero, List.set_cons_succ]
        refine take_at (i := 5) (v := ?_) rfl rfl (by kernel_rfl) (by kernel_rfl) (by kernel_rfl) (fun _ _ _ h => h) (Or.inl ⟨by rfl, ?_⟩) (by assumption) ?_
        rotate_left
        · intro w hSw; (try dsimp only at hSw); go_simp; try with_reducible rfl
        try simp only [Act.put, List.setIfInBounds_toArray, List.set_cons_zero, List.set_cons_succ]
        refine take_at (i := 6) (v := ?_) rfl rfl (by kernel_rfl) (by kernel_rfl) (by kernel_rfl) (fun _ _ _ h => h) (Or.inl ⟨by rfl, ?_⟩) (by assumption) ?_
        rotate_left
        · intro w hSw; (try dsimp only at hSw); go_simp; try with_reducible rfl
        try simp only [Act.put, List.setIfInBounds_toArray, List.set_cons_zero, List.set_cons_succ]
        refine take_at (i := 7) (v := ?_) rfl rfl (by kernel_rfl) (by kernel_rfl) (by kernel_rfl) (fun _ _ _ h => h) (Or.inl ⟨by rfl, ?_⟩) (by assumption) ?_
        rotate_left
        · intro w hSw; (try dsimp only at hSw); go_simp; try with_reducible rfl
        try simp only [Act.put, List.setIfInBounds_toArray, List.set_cons_zero, List.set_cons_succ]
        refine take_at (i := 8) (v := ?_) rfl rfl (by kernel_rfl) (by kernel_rfl) (by kernel_rfl) (fun _ _ _ h => h) (Or.inl ⟨by rfl, ?_⟩) (by assumption) ?_
        rotate_left
        · intro w hSw; (try dsimp only at hSw); go_simp; try with_reducible rfl
        try simp only [Act.put, List.setIfInBounds_toArray, List.set_cons_zero, List.set_cons_succ]
        refine wpAnyH_ready (rs := [9]) (by kernel_rfl) (by simp) ?_
        refine AllReadyH.cons rfl (fun K hK => ?_) AllReadyH.nil
        go_simp
        refine (CX.out _).mono ?_
        rintro e w2 ⟨rfl, hb2⟩
        refine hK.out _ _ trivial (fun hHeld => ?_)
        clear hK K
        refine take_at (i := 10) (v := ?_) rfl rfl (by kernel_rfl) (by kernel_rfl) (by kernel_rfl) (fun _ _ _ h => h) (Or.inl ⟨by rfl, ?_⟩) (by assumption) ?_
        rotate_left
        · intro w hSw; (try dsimp only at hSw); go_simp; try with_reducible rfl
        try simp only [Act.put, List.setIfInBounds_toArray, List.set_cons_zero, List.set_cons_succ]
        refine take_at (i := 11) (v := ?_) rfl rfl (by kernel_rfl) (by kernel_rfl) (by kernel_rfl) (fun _ _ _ h => h) (Or.inl ⟨by rfl, ?_⟩) (by assumption) ?_
        rotate_left
        · intro w hSw; (try dsimp only at hSw); go_simp; try with_reducible rfl
        try simp only [Act.put, List.setIfInBounds_toArray, List.set_cons_zero, List.set_cons_succ]
        refine take_at (i := 12) (v := ?_) rfl rfl (by kernel_rfl) (by kernel_rfl) (by kernel_rfl) (fun _ _ _ h => h) (Or.inl ⟨by rfl, ?_⟩) (by assumption) ?_
        rotate_left
        · intro w hSw; (try dsimp only at hSw); go_simp; try with_reducible rfl
        try simp only [Act.put, List.setIfInBounds_toArray, List.set_cons_zero, List.set_cons_succ]
        refine take_at (i := 13) (v := ?_) rfl rfl (by kernel_rfl) (by kernel_rfl) (by kernel_rfl) (fun _ _ _ h => h) (Or.inl ⟨by rfl, ?_⟩) (by assumption) ?_
        rotate_left
        · intro w hSw; (try dsimp only at hSw); go_simp; try with_reducible rfl
        try simp only [Act.put, List.setIfInBounds_toArray, List.set_cons_zero, List.set_cons_succ]
        refine take_at (i := 14) (v := ?_) rfl rfl (by kernel_rfl) (by kernel_rfl) (by kernel_rfl) (fun _ _ _ h => h) (Or.inl ⟨by rfl, ?_⟩) (by assumption) ?_
        rotate_left
        · intro w hSw; (try dsimp only at hSw); go_simp; try with_reducible rfl
        try simp only [Act.put, List.setIfInBounds_toArray, List.set_cons_zero, List.set_cons_succ]
        refine wpAnyH_done (by kernel_rfl) (NoPanic.normal ?_) _
        have hB2 := below_step hB1.drew (Nat.le_refl _) hb2
        have ho2 : w2.ownsRow w.heap.size 5 1 u10 a (Lib.strCells (S.extract 0 a)) := by
          rcases ho1.2 with ⟨h1, h2⟩ | ⟨g, cap, cur, h1, h2, h3, h4⟩
          · exact ⟨ho1.1, .inl ⟨h1, h2⟩⟩
          · exact ⟨ho1.1, .inr ⟨g, cap, cur, h1, h2, by rw [hb2.block g (Array.getElem?_eq_some_iff.1 h3).1]; exact h3, h4⟩⟩
        clear hB1 ho1 hb2 CX
        go_wp2_with (at_builtin; refine Lib.wpList_append_own_string _ rfl _ _ 35 9 rfl w.heap.size 5 i0 Tryz.underlying35 Tryz.underlying9 hi hz0 hz1 hz2 u10 a _ rfl ho2 T' rfl ?b1 ?b2 ?b3 ?_)
        case b1 => unfold maxLen; omega
        case b2 => omega
        case b3 => exact hB2.size
        intro v' w3 ho3 hg3 _
        have hB3 : Below w.heap.size w w3 := hB2.grown hg3 hB2.size (fun k hk => (World.ownsRow.lt ho2 k hk).1)
        rw [← strCells_append, hS'.out, HMN.out] at ho3
        clear ho2 hB2 hg3
        go_wp2
        go_roundw
        case rel => exact ⟨k + 1, j + 64, by have := HJ.out; show _ = _; omega, by omega, by go_num, ho3, hB3⟩
        case measure => simp [intOf]; omega
      · have hv : n = 64 := by have := Hn.out; omega
        have hv2 : (64 : Int) ≤ (s.size : Int) - (j : Int) := by omega
        have t3 : IntKind.i64.wrap ((j : Int) + 64) = (j : Int) + 64 := by rw [IntKind.wrap_i64]; omega
        have t4 : ((j : Int) + 64).toNat = j + 64 := by omega
        have u1 : (0 : Int) ≤ (j : Int) := by omega
        have u2 : (j : Int) ≤ (j : Int) + 64 := by omega
        have u3 : (j : Int) + 64 ≤ (s.size : Int) := by omega
        subst hv
        go_wp2_with fail
        refine wp_region_noPanic ?_
        refine wp_region_held_drew (S := fun _ => True) (by kernel_rfl) (by first | exact trivial | assumption | exact ⟨by assumption, by assumption⟩) (fun hHeld => ?_)
        refine take_at (i := 0) (v := ?_) rfl rfl (by kernel_rfl) (by kernel_rfl) (by kernel_rfl) (fun _ _ _ h => h) (Or.inl ⟨by rfl, ?_⟩) (by assumption) ?_
        rotate_left
        · intro w hSw; (try dsimp only at hSw); go_simp; try with_reducible rfl
        try simp only [Act.put, List.setIfInBounds_toArray, List.set_cons_zero, List.set_cons_succ]
        refine take_at (i := 1) (v := ?_) rfl rfl (by kernel_rfl) (by kernel_rfl) (by kernel_rfl) (fun _ _ _ h => h) (Or.inl ⟨by rfl, ?_⟩) (by assumption) ?_
        rotate_left
        · intro w hSw; (try dsimp only at hSw); go_simp; try with_reducible rfl
        try simp only [Act.put, List.setIfInBounds_toArray, List.set_cons_zero, List.set_cons_succ]
        refine take_at (i := 2) (v := ?_) rfl rfl (by kernel_rfl) (by kernel_rfl) (by kernel_rfl) (fun _ _ _ h => h) (Or.inl ⟨by rfl, ?_⟩) (by assumption) ?_
        rotate_left
        · intro w hSw; (try dsimp only at hSw); go_simp; try with_reducible rfl
        try simp only [Act.put, List.setIfInBounds_toArray, List.set_cons_zero, List.set_cons_succ]
        refine take_at (i := 3) (v := ?_) rfl rfl (by kernel_rfl) (by kernel_rfl) (by kernel_rfl) (fun _ _ _ h => h) (Or.inl ⟨by rfl, ?_⟩) (by assumption) ?_
        rotate_left
        · intro w hSw; (try dsimp only at hSw); go_simp; try with_reducible rfl
        try simp only [Act.put, List.setIfInBounds_toArray, List.set_cons_zero, List.set_cons_succ]
        refine take_at (i := 4) (v := ?_) rfl rfl (by kernel_rfl) (by kernel_rfl) (by kernel_rfl) (fun _ _ _ h => h) (Or.inl ⟨by rfl, ?_⟩) (by assumption) ?_
        rotate_left
        · intro w hSw; (try dsimp only at hSw); go_simp; try with_reducible rfl
        try simp only [Act.put, List.setIfInBounds_toArray, List.set_cons_zero, List.set_cons_succ]
        refine take_at (i := 5) (v := ?_) rfl rfl (by kernel_rfl) (by kernel_rfl) (by kernel_rfl) (fun _ _ _ h => h) (Or.inl ⟨by rfl, ?_⟩) (by assumption) ?_
        rotate_left
        · intro w hSw; (try dsimp only at hSw); go_simp; try with_reducible rfl
        try simp only [Act.put, List.setIfInBounds_toArray, List.set_cons_zero, List.set_cons_succ]
        refine take_at (i := 6) (v := ?_) rfl rfl (by kernel_rfl) (by kernel_rfl) (by kernel_rfl) (fun _ _ _ h => h) (Or.inl ⟨by rfl, ?_⟩) (by assumption) ?_
        rotate_left
        · intro w hSw; (try dsimp only at hSw); go_simp; try with_reducible rfl
        try simp only [Act.put, List.setIfInBounds_toArray, List.set_cons_zero, List.set_cons_succ]
        refine take_at (i := 7) (v := ?_) rfl rfl (by kernel_rfl) (by kernel_rfl) (by kernel_rfl) (fun _ _ _ h => h) (Or.inl ⟨by rfl, ?_⟩) (by assumption) ?_
        rotate_left
        · intro w hSw; (try dsimp only at hSw); go_simp; try with_reducible rfl
        try simp only [Act.put, List.setIfInBounds_toArray, List.set_cons_zero, List.set_cons_succ]
        refine take_at (i := 8) (v := ?_) rfl rfl (by kernel_rfl) (by kernel_rfl) (by kernel_rfl) (fun _ _ _ h => h) (Or.inl ⟨by rfl, ?_⟩) (by assumption) ?_
        rotate_left
        · intro w hSw; (try dsimp only at hSw); go_simp; try with_reducible rfl
        try simp only [Act.put, List.setIfInBounds_toArray, List.set_cons_zero, List.set_cons_succ]
        refine wpAnyH_ready (rs := [9]) (by kernel_rfl) (by simp) ?_
        refine AllReadyH.cons rfl (fun K hK => ?_) AllReadyH.nil
        go_simp
        refine (CX.out _).mono ?_
        rintro e w2 ⟨rfl, hb2⟩
        refine hK.out _ _ trivial (fun hHeld => ?_)
        clear hK K
        refine take_at (i := 10) (v := ?_) rfl rfl (by kernel_rfl) (by kernel_rfl) (by kernel_rfl) (fun _ _ _ h => h) (Or.inl ⟨by rfl, ?_⟩) (by assumption) ?_
        rotate_left
        · intro w hSw; (try dsimp only at hSw); go_simp; try with_reducible rfl
        try simp only [Act.put, List.setIfInBounds_toArray, List.set_cons_zero, List.set_cons_succ]
        refine take_at (i := 11) (v := ?_) rfl rfl (by kernel_rfl) (by kernel_rfl) (by kernel_rfl) (fun _ _ _ h => h) (Or.inl ⟨by rfl, ?_⟩) (by assumption) ?_
        rotate_left
        · intro w hSw; (try dsimp only at hSw); go_simp; try with_reducible rfl
        try simp only [Act.put, List.setIfInBounds_toArray, List.set_cons_zero, List.set_cons_succ]
        refine take_at (i := 12) (v := ?_) rfl rfl (by kernel_rfl) (by kernel_rfl) (by kernel_rfl) (fun _ _ _ h => h) (Or.inl ⟨by rfl, ?_⟩) (by assumption) ?_
        rotate_left
        · intro w hSw; (try dsimp only at hSw); go_simp; try with_reducible rfl
        try simp only [Act.put, List.setIfInBounds_toArray, List.set_cons_zero, List.set_cons_succ]
        refine take_at (i := 13) (v := ?_) rfl rfl (by kernel_rfl) (by kernel_rfl) (by kernel_rfl) (fun _ _ _ h => h) (Or.inl ⟨by rfl, ?_⟩) (by assumption) ?_
        rotate_left
        · intro w hSw; (try dsimp only at hSw); go_simp; try with_reducible rfl
        try simp only [Act.put, List.setIfInBounds_toArray, List.set_cons_zero, List.set_cons_succ]
        refine take_at (i := 14) (v := ?_) rfl rfl (by kernel_rfl) (by kernel_rfl) (by kernel_rfl) (fun _ _ _ h => h) (Or.inl ⟨by rfl, ?_⟩) (by assumption) ?_
        rotate_left
        · intro w hSw; (try dsimp only at hSw); go_simp; try with_reducible rfl
        try simp only [Act.put, List.setIfInBounds_toArray, List.set_cons_zero, List.set_cons_succ]
        refine wpAnyH_done (by kernel_rfl) (NoPanic.normal ?_) _
        have hB2 := below_step hB1.drew (Nat.le_refl _) hb2
        have ho2 : w2.ownsRow w.heap.size 5 1 u10 a (Lib.strCells (S.extract 0 a)) := by
          rcases ho1.2 with ⟨h1, h2⟩ | ⟨g, cap, cur, h1, h2, h3, h4⟩
          · exact ⟨ho1.1, .inl ⟨h1, h2⟩⟩
          · exact ⟨ho1.1, .inr ⟨g, cap, cur, h1, h2, by rw [hb2.block g (Array.getElem?_eq_some_iff.1 h3).1]; exact h3, h4⟩⟩
        clear hB1 ho1 hb2 CX
        go_wp2_with (at_builtin; refine Lib.wpList_append_own_string _ rfl _ _ 35 9 rfl w.heap.size 5 i0 Tryz.underlying35 Tryz.underlying9 hi hz0 hz1 hz2 u10 a _ rfl ho2 T' rfl ?b1 ?b2 ?b3 ?_)
        case b1 => unfold maxLen; omega
        case b2 => omega
        case b3 => exact hB2.size
        intro v' w3 ho3 hg3 _
        have hB3 : Below w.heap.size w w3 := hB2.grown hg3 hB2.size (fun k hk => (World.ownsRow.lt ho2 k hk).1)
        rw [← strCells_append, hS'.out, HMN.out] at ho3
        clear ho2 hB2 hg3
        go_wp2
        go_roundw
        case rel => exact ⟨k + 1, j + 64, by have := HJ.out; show _ = _; omega, by omega, by go_num, ho3, hB3⟩
        case measure => simp [intOf]; omega
    · have hall : min j s.size = s.size := by omega
      rw [hall, extract_whole S s.size hSs] at hown
      have hcv := owns_conv (P := Tryz.prog) 35 9 hown Tryz.underlying35 Tryz.underlying5 Tryz.underlying9
      clear hown
      go_wp2
      go_ret2
      exact ⟨rfl, hbl⟩
end Go.Proofs.YtglgppeloolbhaaGreatDoor

/- Streams that are none. -/
namespace Go.Proofs.YtglgppeloolbhaaGreatDoor
open Go.RowKit
set_option maxRecDepth 100000
set_option linter.unusedSimpArgs false

end Go.Proofs.YtglgppeloolbhaaGreatDoor
