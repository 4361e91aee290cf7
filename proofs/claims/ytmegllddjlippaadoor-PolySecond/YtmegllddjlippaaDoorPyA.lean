/- The program's carried, plus. -/
import Derived.Test.YtmegllddjlippaaDoorPyL
import Derived.Test.YtmegllddjlippaaDoorG
namespace Go.Proofs.YtmegllddjlippaaDoor
open Go.RowKit
set_option linter.unusedSimpArgs false

/-- The cells of an array of limbs; a block that holds one. -/
def v64 (l : List Nat) : Array Value := ((ints l).map (Value.int .u64)).toArray
theorem v64_size (l : List Nat) : (v64 l).size = l.length := by simp [v64, ints]
theorem v64_get (l : List Nat) (j : Nat) (hj : j < l.length) : (v64 l)[j]? = some (.int .u64 ((l.getD j 0 : Nat) : Int)) := by
  simp [v64, ints, List.getD_eq_getElem?_getD, List.getElem?_eq_getElem hj]
theorem v64_one (l : List Nat) : (v64 l).all (·.oneCell') = true := by
  refine Array.all_eq_true_iff_forall_mem.2 (fun v hv => ?_)
  simp only [v64, List.mem_toArray, List.mem_map] at hv
  obtain ⟨z, _, rfl⟩ := hv
  rfl
theorem v64_set (l : List Nat) (j x : Nat) : v64 (l.set j x) = (v64 l).setIfInBounds j (.int .u64 (x : Int)) := by simp [v64, ints, List.map_set]
def Lim (w : World) (g : Nat) (l : List Nat) : Prop := Blk w 35 g (v64 l)
theorem Lim.cell {w : World} {g : Nat} {l : List Nat} (h : Lim w g l) (j : Nat) (hj : j < l.length) : w.cell? ⟨g, j, none⟩ = some (.int .u64 ((l.getD j 0 : Nat) : Int)) := by
  rw [Blk.cell h, v64_get l j hj]
theorem Lim.free {w : World} {g : Nat} {l : List Nat} (h : Lim w g l) (j : Nat) : w.frozen? ⟨g, j, none⟩ = false := Blk.free h j
theorem Lim.lt {w : World} {g : Nat} {l : List Nat} (h : Lim w g l) : g < w.heap.size := Blk.lt h
theorem Lim.below {w w' : World} {B g : Nat} {l : List Nat} (h : Lim w g l) (hb : Below B w w') (hg : g < B) : Lim w' g l := Blk.below h hb hg
theorem Lim.on {w w' : World} {g : Nat} {l : List Nat} (h : Lim w g l) (hb : Below w.heap.size w w') : Lim w' g l := Blk.on h hb
theorem Lim.alloc {w : World} {g : Nat} {l : List Nat} (h : Lim w g l) (o : Obj) : Lim (w.alloc o) g l := Blk.alloc h o
theorem Lim.new (w : World) (l : List Nat) (c : Array Value) (hc : c = v64 l) : Lim (w.alloc (.cells c 35)) w.heap.size l := by subst hc; exact Blk.new w _ _
theorem Lim.new' (w : World) (l : List Nat) (c : Array Value) (g : Nat) (hg : w.heap.size = g) (hc : c = v64 l) : Lim (w.alloc (.cells c 35)) g l := by subst hg; exact Lim.new w l c hc
theorem Lim.other {w : World} {g : Nat} {l : List Nat} (h : Lim w g l) (p : Addr) (hp : g ≠ p.block) (u : Value) : Lim (w.setCell p u) g l := Blk.other h p hp u
theorem Lim.set {w : World} {g : Nat} {l : List Nat} (h : Lim w g l) (j x : Nat) : Lim (w.setCell ⟨g, j, none⟩ (.int .u64 (x : Int))) g (l.set j x) := by
  unfold Lim Blk
  rw [v64_set]
  exact heap_setCell_same w g j _ 35 _ h
theorem Lim.setRow {w : World} {g : Nat} {l : List Nat} (h : Lim w g l) (l' : List Nat) : Lim (w.setRow g (v64 l')) g l' := Blk.setRow h _
theorem Lim.setRowOther {w : World} {g : Nat} {l : List Nat} (h : Lim w g l) (g' : Nat) (hg : g ≠ g') (c : Array Value) : Lim (w.setRow g' c) g l := Blk.setRowOther h g' hg c
theorem Tryd.num5 : (Tryd.prog.info? 35).map (·.size) = some 5 := by kernel_rfl
theorem zero5 : (v64 (List.replicate 5 0)).size = 5 := by rw [v64_size]; rfl
theorem Lim.num {l : List Nat} (hl : l.length = 5) : (Tryd.prog.info? 35).map (·.size) = some (v64 l).size := by rw [v64_size, hl]; exact Tryd.num5

section
variable {ops : Array Oper} {rest : List Oper} {o : Oper} {a : Act} {w : World} {Q : Exit → Act → World → Prop}
/-- A whole array of limbs is read, is written, is handed back. -/
theorem wpList_loadLim (hgd : o.guard = none) (x : Operand) (ho : o.op = .load 35 x) (g : Nat) (l : List Nat) (hx : a.eval x = .pointer (some ⟨g, 0, none⟩)) (h : Lim w g l) (hl : l.length = 5)
    (hk : wpList Tryd.prog ops Q rest (a.put o.dst (.agg (v64 l))) w) : wpList Tryd.prog ops Q (o :: rest) a w :=
  wpList_loadBlk hgd _ x ho g (v64 l) hx h 5 33 Tryd.underlying35 (Lim.num hl) hk
theorem wpList_storeLim (hgd : o.guard = none) (x y : Operand) (ho : o.op = .store 35 x y) (g : Nat) (l l' : List Nat) (hx : a.eval x = .pointer (some ⟨g, 0, none⟩)) (hy : a.eval y = .agg (v64 l')) (h : Lim w g l) (hl : l.length = 5) (hl' : l'.length = 5)
    (hk : wpList Tryd.prog ops Q rest (a.put o.dst undef) (w.setRow g (v64 l'))) : wpList Tryd.prog ops Q (o :: rest) a w :=
  wpList_storeBlk hgd _ x y ho g (v64 l) (v64 l') hx hy h (by rw [v64_size, v64_size, hl, hl']) (Lim.num hl) (v64_one _) hk
theorem wpList_storeLimH (hgd : o.guard = none) (x y : Operand) (ho : o.op = .store 35 x y) (g : Nat) (l l' : List Nat) (hx : a.eval x = .pointer (some ⟨g, 0, none⟩)) (hy : a.eval y = .agg (v64 l')) (h : Lim w g l) (hl : l.length = 5) (hl' : l'.length = 5)
    (hk : Hid (wpList Tryd.prog ops Q rest (a.put o.dst undef) (w.setRow g (v64 l')))) : wpList Tryd.prog ops Q (o :: rest) a w :=
  wpList_storeLim hgd x y ho g l l' hx hy h hl hl' hk.out
theorem bodyPost_lim {fn : Func} {p : Tmp} {R : Ending → World → Prop} (hf : fn.results = #[.cell p 35]) (g : Nat) (l : List Nat) (hp : a.tmps.getD p undef = .pointer (some ⟨g, 0, none⟩)) (hd : a.defers = []) (h : Lim w g l) (hl : l.length = 5)
    (hR : R (.returned (.agg (v64 l))) w) : bodyPost Tryd.prog fn R .ret a w :=
  bodyPost_blk hf g (v64 l) hp hd h 5 33 Tryd.underlying35 (Lim.num hl) hR
end
theorem u64_wrap (n : Int) : IntKind.u64.wrap n = n % 18446744073709551616 := by simp [IntKind.wrap, IntKind.bits, IntKind.signed]
theorem u64_small (n : Int) (h0 : 0 ≤ n) (h1 : n < 18446744073709551616) : IntKind.u64.wrap n = n := by rw [u64_wrap]; omega
theorem u64_and_nat (a b : Nat) (ha : a < 18446744073709551616) (hb : b < 18446744073709551616) : bits .and .u64 (a : Int) (b : Int) = ((a &&& b : Nat) : Int) := by
  have ha' : a % 2 ^ 64 = a := Nat.mod_eq_of_lt (by omega)
  have hb' : b % 2 ^ 64 = b := Nat.mod_eq_of_lt (by omega)
  have hx : a &&& b ≤ a := Nat.and_le_left
  show IntKind.u64.wrap ((BitVec.ofInt 64 (a : Int) &&& BitVec.ofInt 64 (b : Int)).toNat : Nat) = _
  rw [BitVec.toNat_and, BitVec.ofInt_natCast, BitVec.ofInt_natCast, BitVec.toNat_ofNat, BitVec.toNat_ofNat, ha', hb']
  exact u64_small _ (Int.natCast_nonneg _) (by omega)
theorem u64_mask32 (a : Nat) (ha : a < 18446744073709551616) : bits .and .u64 (a : Int) 4294967295 = ((a % 4294967296 : Nat) : Int) := by
  rw [show (4294967295 : Int) = ((4294967295 : Nat) : Int) from rfl, u64_and_nat a _ ha (by decide), show (4294967295 : Nat) = 2 ^ 32 - 1 from rfl, Nat.and_two_pow_sub_one_eq_mod]
theorem u64_mask2 (a : Nat) (ha : a < 18446744073709551616) : bits .and .u64 (a : Int) 3 = ((a % 4 : Nat) : Int) := by
  rw [show (3 : Int) = ((3 : Nat) : Int) from rfl, u64_and_nat a _ ha (by decide), show (3 : Nat) = 2 ^ 2 - 1 from rfl, Nat.and_two_pow_sub_one_eq_mod]

set_option maxRecDepth 100000 in
set_option maxHeartbeats 4000000 in
theorem carried_any (l : List Nat) (w : World) (hl : l.length = 5) (hb : ∀ i, l.getD i 0 < 9223372036854775808) :
    Calls Tryd.prog 27 #[.agg (v64 l)] w fun e w' => e = .returned (.agg (v64 (limN (val5 l)))) ∧ Below w.heap.size w w' := by
  have HL : Hid (∀ k, (carL l k).length = 5) := fun k => by rw [carL_length, hl]
  have HA : Hid (∀ k, k < 5 → (carL l k).getD k 0 < 9223372041149743104) := carL_at l hl hb
  have HU : Hid (∀ k, (carL l k).getD (k + 1) 0 < 9223372036854775808) := fun k => by rw [carL_up _ _ _ (by omega)]; exact hb _
  have HS : Hid (∀ k, carL l (k + 1) = _) := carL_succ l
  have H0 : Hid (carL l 0 = l) := rfl
  have HE : Hid (carL l 4 = limN (val5 l)) := carL_all l hl
  rw [← HE.out]
  obtain ⟨R, HR⟩ : ∃ R, Hid (R = carL l) := ⟨_, rfl⟩
  rw [← HR.out] at HL HA HU HS H0
  rw [← HR.out]
  clear HR HE hb
  go_enter Tryd.func27, Tryd.ntmps27
  have HA0 : Hid (Lim _ w.heap.size l) := (Lim.new w l _ rfl).alloc (.cells (v64 (List.replicate 5 0)) 35)
  have HA1 : Hid (Lim _ (w.heap.size + 1) (List.replicate 5 0)) := Lim.new' (w.alloc (.cells (v64 l) 35)) (List.replicate 5 0) _ (w.heap.size + 1) (by simp) rfl
  have hB : Below w.heap.size w ((w.alloc (.cells (v64 l) 35)).alloc (.cells (v64 (List.replicate 5 0)) 35)) := (below_new w _).alloc (by simp) _
  go_wp2_with fail
  go_loopw [4] (fun i wr => ∃ k : Nat, k ≤ 4 ∧ i = .int .i64 k ∧ Hid (Lim wr w.heap.size (R k)) ∧ Hid (Lim wr (w.heap.size + 1) (List.replicate 5 0)) ∧ Below w.heap.size w wr) (fun i _ => 4 - (intOf i).toNat)
  case atStart => exact ⟨0, Nat.zero_le _, rfl, by rw [H0.out]; exact HA0, HA1, hB⟩
  case round =>
    clear HA0 HA1 hB
    obtain ⟨k, hk, rfl, HA0, HA1, hbl⟩ := hrel
    by_cases hlt : k < 4
    · have hlk := HL.out k
      have cX := HA0.out.cell k (by omega)
      have cY := HA0.out.cell (k + 1) (by omega)
      have fX := HA0.out.free k
      have fY := HA0.out.free (k + 1)
      have lX := HA.out k (by omega)
      have lY := HU.out k
      have hS := HS.out k
      unfold carS at hS
      have HSk : Hid (R (k + 1) = ((R k).set (k + 1) ((R k).getD (k + 1) 0 + (R k).getD k 0 / 4294967296)).set k ((R k).getD k 0 % 4294967296)) := hS
      clear hS
      have hne : ∀ Z, ((R k).set (k + 1) Z).getD k 0 = (R k).getD k 0 := fun Z => getD_set_ne _ _ _ _ (by omega)
      generalize (R k).getD k 0 = X at *
      generalize (R k).getD (k + 1) 0 = Y at *
      obtain ⟨Z, hZ⟩ : ∃ Z, Z = Y + X / 4294967296 := ⟨_, rfl⟩
      rw [← hZ] at HSk
      have VN : Hid (IntKind.u64.wrap ((Y : Int) + (X : Int) / 4294967296) = (Z : Int)) := by show _ = _; rw [u64_small _ (by omega) (by omega)]; omega
      have VM := u64_mask32 X (by omega)
      have b0 : (k : Int) < 4 := by omega
      have b1 : (0 : Int) ≤ (k : Int) + 1 := by omega
      have b2 : (k : Int) + 1 < 5 := by omega
      have b3 : ((k : Int) + 1).toNat = k + 1 := by omega
      have b4 : IntKind.i64.wrap ((k : Int) + 1) = (k : Int) + 1 := i64_small _ (by omega) (by omega)
      have b5 : (k : Int) < 5 := by omega
      obtain ⟨w1, hw1⟩ : ∃ v, Hid (v = wr.setCell ⟨w.heap.size, k + 1, none⟩ (.int .u64 (Z : Int))) := ⟨_, rfl⟩
      have SS : Hid ((wr.setCell ⟨w.heap.size, k + 1, none⟩ (.int .u64 (Z : Int))).cell? ⟨w.heap.size, k, none⟩ = some (.int .u64 (X : Int))) := by
        have h1 := (HA0.out.set (k + 1) Z).cell k (by rw [List.length_set]; omega)
        rw [hne] at h1
        exact h1
      have A1 : Hid (Lim w1 w.heap.size ((R k).set (k + 1) Z)) := by rw [hw1.out]; exact HA0.out.set (k + 1) Z
      have E1 : Hid (Lim w1 (w.heap.size + 1) (List.replicate 5 0)) := by rw [hw1.out]; exact HA1.out.other _ (by simp) _
      have B1 : Below w.heap.size w w1 := by rw [hw1.out]; exact hbl.setCell (p := ⟨w.heap.size, k + 1, none⟩) (Nat.le_refl _) _
      have cX1 := A1.out.cell k (by rw [List.length_set]; omega)
      rw [hne] at cX1
      have fX1 := A1.out.free k
      have A2 : Hid (Lim (w1.setCell ⟨w.heap.size, k, none⟩ (.int .u64 ((X % 4294967296 : Nat) : Int))) w.heap.size (R (k + 1))) := by rw [HSk.out]; exact A1.out.set k (X % 4294967296)
      have E2 : Hid (Lim (w1.setCell ⟨w.heap.size, k, none⟩ (.int .u64 ((X % 4294967296 : Nat) : Int))) (w.heap.size + 1) (List.replicate 5 0)) := E1.out.other _ (by simp) _
      have B2 := B1.setCell (p := ⟨w.heap.size, k, none⟩) (Nat.le_refl _) (.int .u64 ((X % 4294967296 : Nat) : Int))
      clear HSk hne hZ HA0 HA1 hbl A1 E1 B1
      generalize X % 4294967296 = M at *
      go_wp2_with fail
      refine wp_region_noPanic ?_
      refine wp_region_held_drew (S := fun w' => w'.cell? ⟨w.heap.size, k, none⟩ = some (.int .u64 (X : Int))) (by kernel_rfl) (by first | exact trivial | assumption | exact ⟨by assumption, by assumption⟩) (fun hHeld => ?_)
      refine take_at (i := 0) (v := ?_) rfl rfl (by kernel_rfl) (by kernel_rfl) (by kernel_rfl) (fun _ _ _ h => h) (Or.inl ⟨by rfl, ?_⟩) (by assumption) ?_
      rotate_left
      · intro w hSw; (try dsimp only at hSw); go_simp; try with_reducible rfl
      try simp only [Act.put, List.setIfInBounds_toArray, List.set_cons_zero, List.set_cons_succ]
      refine take_at (i := 1) (v := ?_) rfl rfl (by kernel_rfl) (by kernel_rfl) (by kernel_rfl) (fun _ _ _ h => h) (Or.inl ⟨by rfl, ?_⟩) (by assumption) ?_
      rotate_left
      · intro w hSw; (try dsimp only at hSw); go_simp; try with_reducible rfl
      try simp only [Act.put, List.setIfInBounds_toArray, List.set_cons_zero, List.set_cons_succ]
      refine take_at (i := 2) (v := ?_) rfl rfl (by kernel_rfl) (by kernel_rfl) (by kernel_rfl) (fun _ _ _ h => h) (Or.inl ⟨by rfl, ?_⟩) (by assumption) ?_
      rotate_left
      · intro w hSw; (try dsimp only at hSw); go_simp; try with_reducible rfl
      try simp only [Act.put, List.setIfInBounds_toArray, List.set_cons_zero, List.set_cons_succ]
      refine take_at (i := 4) (v := ?_) rfl rfl (by kernel_rfl) (by kernel_rfl) (by kernel_rfl) (fun _ _ _ h => h) (Or.inl ⟨by rfl, ?_⟩) (by assumption) ?_
      rotate_left
      · intro w hSw; (try dsimp only at hSw); go_simp; try with_reducible rfl
      try simp only [Act.put, List.setIfInBounds_toArray, List.set_cons_zero, List.set_cons_succ]
      refine take_at (i := 5) (v := ?_) rfl rfl (by kernel_rfl) (by kernel_rfl) (by kernel_rfl) (fun _ _ _ h => h) (Or.inl ⟨by rfl, ?_⟩) (by assumption) ?_
      rotate_left
      · intro w hSw; (try dsimp only at hSw); go_simp; try with_reducible rfl
      try simp only [Act.put, List.setIfInBounds_toArray, List.set_cons_zero, List.set_cons_succ]
      refine take_at (i := 6) (v := ?_) rfl rfl (by kernel_rfl) (by kernel_rfl) (by kernel_rfl) (fun _ _ _ h => h) (Or.inl ⟨by rfl, ?_⟩) (by assumption) ?_
      rotate_left
      · intro w hSw; (try dsimp only at hSw); go_simp; try with_reducible rfl
      try simp only [Act.put, List.setIfInBounds_toArray, List.set_cons_zero, List.set_cons_succ]
      refine take_at (i := 7) (v := ?_) rfl rfl (by kernel_rfl) (by kernel_rfl) (by kernel_rfl) (fun _ _ _ h => h) (Or.inl ⟨by rfl, ?_⟩) (by assumption) ?_
      rotate_left
      · intro w hSw; (try dsimp only at hSw); go_simp; try with_reducible rfl
      try simp only [Act.put, List.setIfInBounds_toArray, List.set_cons_zero, List.set_cons_succ]
      refine wpAnyH_ready (rs := [3]) (by kernel_rfl) (by simp) ?_
      refine AllReadyH.cons rfl (fun K hK => ?_) AllReadyH.nil
      go_simp
      refine hK.out _ _ (by assumption) (fun hHeld => ?_)
      clear hK K
      refine take_at (i := 8) (v := ?_) rfl rfl (by kernel_rfl) (by kernel_rfl) (by kernel_rfl) (fun _ _ _ h => h) (Or.inl ⟨by rfl, ?_⟩) (by assumption) ?_
      rotate_left
      · intro w hSw; (try dsimp only at hSw); go_simp; try with_reducible rfl
      try simp only [Act.put, List.setIfInBounds_toArray, List.set_cons_zero, List.set_cons_succ]
      refine take_at (i := 9) (v := ?_) rfl rfl (by kernel_rfl) (by kernel_rfl) (by kernel_rfl) (fun _ _ _ h => h) (Or.inl ⟨by rfl, ?_⟩) (by assumption) ?_
      rotate_left
      · intro w hSw; (try dsimp only at hSw); go_simp; try with_reducible rfl
      try simp only [Act.put, List.setIfInBounds_toArray, List.set_cons_zero, List.set_cons_succ]
      refine wpAnyH_ready (rs := [10]) (by kernel_rfl) (by simp) ?_
      refine AllReadyH.cons rfl (fun K hK => ?_) AllReadyH.nil
      go_simp
      rw [VN.out]
      refine hK.out _ _ SS.out (fun hHeld => ?_)
      clear hK K
      refine wpAnyH_done (by kernel_rfl) (NoPanic.normal ?_) _
      rw [← hw1.out]
      clear cX cY fX fY VN SS hw1
      go_wp2
      go_roundw
      case rel => exact ⟨k + 1, by omega, by go_num, A2, E2, B2.drew⟩
      case measure => simp [intOf]; omega
    · have hk' : k = 4 := by omega
      subst hk'
      have hl4 := HL.out 4
      go_wp2_with (first
        | (with_reducible refine wpList_loadLim rfl _ rfl w.heap.size (R 4) ?hx HA0.out hl4 ?_)
        | (with_reducible refine wpList_storeLim rfl _ _ rfl (w.heap.size + 1) (List.replicate 5 0) (R 4) ?hx2 ?hy HA1.out rfl hl4 ?_))
      case hx => rfl
      exact bodyPost_lim rfl (w.heap.size + 1) (R 4) rfl rfl (HA1.out.setRow (R 4)) hl4 ⟨rfl, below_setRow hbl (by omega) _⟩
end Go.Proofs.YtmegllddjlippaaDoor
