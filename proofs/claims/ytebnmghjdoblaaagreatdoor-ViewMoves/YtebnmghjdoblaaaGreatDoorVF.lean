import Derived.Test.YtebnmghjdoblaaaGreatDoorVE
import Derived.Test.YtebnmghjdoblaaaGreatDoorVC
import Derived.Test.YtebnmghjdoblaaaGreatDoorVB
import Derived.Test.YtebnmghjdoblaaaGreatDoorShelfJ
import Derived.Test.YtebnmghjdoblaaaGreatDoorShelfN
/- slices.Equal of texts; the closures of Path and Find (layer 12). -/
namespace Go.Proofs.YtebnmghjdoblaaaGreatDoor
open Go.RowKit
set_option linter.unusedSimpArgs false

theorem strL_ext {A B : List ByteArray} (hl : A.length = B.length) (h : ∀ i, i < A.length → strL A i = strL B i) : A = B := by
  apply List.ext_getElem hl
  intro i h1 h2
  have := h i h1
  unfold strL at this
  rw [List.getD_eq_getElem?_getD, List.getD_eq_getElem?_getD, List.getElem?_eq_getElem h1, List.getElem?_eq_getElem h2] at this
  exact this

theorem beq_textsV (a b : ByteArray) : (a.toList == b.toList) = decide (a = b) := by
  by_cases h : a = b
  · subst h; simp
  · have : ¬ a.toList = b.toList := fun e => h (bytes_ext (by rw [toList_data, toList_data] at e; exact e))
    simp [h, this]

set_option maxRecDepth 100000 in
set_option maxHeartbeats 4000000 in
theorem equalS_any (A B : List ByteArray) (pa pb : Option Addr) (ca cb : Nat) (w : World) (hA : StrsAt w pa A.length A) (hB : StrsAt w pb B.length B) (hla : A.length ≤ 100000) (q : Bool) (hq : q = decide (A = B)) :
    Calls Tryz.prog 42 #[.slice pa A.length ca, .slice pb B.length cb] w fun e w' => e = .returned (.bool q) ∧ Below w.heap.size w w' := by
  by_cases hl : A.length = B.length
  · have HA : Hid (StrsAt w pa A.length A) := hA
    have HB : Hid (StrsAt w pb B.length B) := hB
    have HL : Hid (A.length = B.length) := hl
    have HQ : Hid (q = decide (A = B)) := hq
    have HL2 : Hid (∀ i, i < A.length → strL A i ≠ strL B i → q = false) := fun i hi hne => by rw [hq, decide_eq_false]; intro e; exact hne (by rw [e])
    obtain ⟨m, hm⟩ : ∃ m, A.length = m := ⟨_, rfl⟩
    have hm2 : B.length = m := by omega
    have HM : Hid (A.length = m ∧ B.length = m) := ⟨hm, hm2⟩
    rw [hm, hm2]
    rw [hm] at HA HL2 hla
    rw [hm2] at HB
    clear hA hB hq hl hm hm2
    go_enter Tryz.func42, Tryz.ntmps42
    go_wp2_with fail
    go_loopw [13] (fun i wr => ∃ k : Nat, k ≤ m ∧ i = .int .i64 k ∧ Hid (∀ j, j < k → strL A j = strL B j) ∧ Hid (Below w.heap.size w wr)) (fun i _ => m - (intOf i).toNat)
    case atStart => exact ⟨0, Nat.zero_le _, rfl, fun j hj => by omega, Below.refl _ _⟩
    case round =>
      obtain ⟨k, hk, rfl, HE, HBl⟩ := hrel
      by_cases hlt : k < m
      · have b0 : (k : Int) < (m : Int) := by omega
        obtain ⟨_, h9 | ⟨b1, f1, rfl, hc1⟩⟩ := HA.out
        · omega
        obtain ⟨_, h9 | ⟨b2, f2, rfl, hc2⟩⟩ := HB.out
        · omega
        have HSS : Hid (∀ W, Below w.heap.size w W → W.cell? ⟨b1, f1 + k, none⟩ = some (.string (strL A k)) ∧ W.cell? ⟨b2, f2 + k, none⟩ = some (.string (strL B k))) := fun W hW => by
          refine ⟨?_, ?_⟩
          · rw [hW.cell (p := ⟨b1, f1 + k, none⟩) (World.block_lt_of_cell? w _ (hc1 k hlt))]; exact hc1 k hlt
          · rw [hW.cell (p := ⟨b2, f2 + k, none⟩) (World.block_lt_of_cell? w _ (hc2 k hlt))]; exact hc2 k hlt
        have hS0 := HSS.out wr HBl.out
        have w9 : IntKind.i64.wrap ((k : Int) + 1) = ((k + 1 : Nat) : Int) := by rw [IntKind.wrap_i64]; omega
        have hqk := HL2.out k hlt
        obtain ⟨x, hx⟩ : ∃ x, strL A k = x := ⟨_, rfl⟩
        obtain ⟨y, hy⟩ : ∃ y, strL B k = y := ⟨_, rfl⟩
        rw [hx, hy] at HSS hS0 hqk
        have hbq := beq_textsV x y
        clear hc1 hc2
        by_cases hxy : x = y
        · have HE2 : Hid (∀ j, j < k + 1 → strL A j = strL B j) := fun j hj => by
            by_cases e : j = k
            · rw [e, hx, hy, hxy]
            · exact HE.out j (by omega)
          subst hxy
          clear hx hy hqk hbq
          go_wp2_with fail
          refine wp_region_noPanic ?_
          refine wp_region_held_drew (S := fun W => W.cell? ⟨b1, f1 + k, none⟩ = some (.string x) ∧ W.cell? ⟨b2, f2 + k, none⟩ = some (.string x)) (by kernel_rfl) (by first | exact trivial | assumption | exact ⟨by assumption, by assumption⟩) (fun hHeld => ?_)
          refine take_at (i := 0) (v := ?_) rfl rfl (by kernel_rfl) (by kernel_rfl) (by kernel_rfl) (fun _ _ _ h => h) (Or.inl ⟨by rfl, ?_⟩) (by assumption) ?_
          rotate_left
          · intro w hSw; (try dsimp only at hSw); go_simp; try with_reducible rfl
          try simp only [Act.put, List.setIfInBounds_toArray, List.set_cons_zero, List.set_cons_succ]
          refine take_at (i := 1) (v := ?_) rfl rfl (by kernel_rfl) (by kernel_rfl) (by kernel_rfl) (fun _ _ _ h => h) (Or.inl ⟨by rfl, ?_⟩) (by assumption) ?_
          rotate_left
          · intro w hSw; (try dsimp only at hSw); go_simp; try with_reducible rfl
          try simp only [Act.put, List.setIfInBounds_toArray, List.set_cons_zero, List.set_cons_succ]
          refine take_at (i := 2) (v := ?_) rfl rfl (by kernel_rfl) (by kernel_rfl) (by kernel_rfl) (fun _ _ _ h => h) (Or.inl ⟨by rfl, ?_⟩) (by assumption) ?_
          rotate_left
          · intro w hSw; (try dsimp only at hSw); go_simp; try with_reducible rfl
          try simp only [Act.put, List.setIfInBounds_toArray, List.set_cons_zero, List.set_cons_succ]
          refine take_at (i := 3) (v := ?_) rfl rfl (by kernel_rfl) (by kernel_rfl) (by kernel_rfl) (fun _ _ _ h => h) (Or.inl ⟨by rfl, ?_⟩) (by assumption) ?_
          rotate_left
          · intro w hSw; (try dsimp only at hSw); go_simp; try with_reducible rfl
          try simp only [Act.put, List.setIfInBounds_toArray, List.set_cons_zero, List.set_cons_succ]
          refine take_at (i := 4) (v := ?_) rfl rfl (by kernel_rfl) (by kernel_rfl) (by kernel_rfl) (fun _ _ _ h => h) (Or.inl ⟨by rfl, ?_⟩) (by assumption) ?_
          rotate_left
          · intro w hSw; (try dsimp only at hSw); go_simp; try with_reducible rfl
          try simp only [Act.put, List.setIfInBounds_toArray, List.set_cons_zero, List.set_cons_succ]
          refine take_at (i := 5) (v := ?_) rfl rfl (by kernel_rfl) (by kernel_rfl) (by kernel_rfl) (fun _ _ _ h => h) (Or.inl ⟨by rfl, ?_⟩) (by assumption) ?_
          rotate_left
          · intro w hSw; (try dsimp only at hSw); go_simp; try with_reducible rfl
          try simp only [Act.put, List.setIfInBounds_toArray, List.set_cons_zero, List.set_cons_succ]
          refine take_at (i := 6) (v := ?_) rfl rfl (by kernel_rfl) (by kernel_rfl) (by kernel_rfl) (fun _ _ _ h => h) (Or.inl ⟨by rfl, ?_⟩) (by assumption) ?_
          rotate_left
          · intro w hSw; (try dsimp only at hSw); go_simp; try with_reducible rfl
          try simp only [Act.put, List.setIfInBounds_toArray, List.set_cons_zero, List.set_cons_succ]
          refine take_at (i := 7) (v := ?_) rfl rfl (by kernel_rfl) (by kernel_rfl) (by kernel_rfl) (fun _ _ _ h => h) (Or.inl ⟨by rfl, ?_⟩) (by assumption) ?_
          rotate_left
          · intro w hSw; (try dsimp only at hSw); go_simp; try with_reducible rfl
          try simp only [Act.put, List.setIfInBounds_toArray, List.set_cons_zero, List.set_cons_succ]
          refine take_at (i := 8) (v := ?_) rfl rfl (by kernel_rfl) (by kernel_rfl) (by kernel_rfl) (fun _ _ _ h => h) (Or.inl ⟨by rfl, ?_⟩) (by assumption) ?_
          rotate_left
          · intro w hSw; (try dsimp only at hSw); go_simp; try with_reducible rfl
          try simp only [Act.put, List.setIfInBounds_toArray, List.set_cons_zero, List.set_cons_succ]
          refine wpAnyH_done (by kernel_rfl) (NoPanic.normal ?_) _
          have HBd : Hid (Below w.heap.size w wr.drew) := HBl.out.drew
          go_wp2_with fail
          refine ⟨?_, ?_⟩
          · first
            | exact ⟨k + 1, by omega, by go_num, HE2, HBd⟩
            | ((repeat apply Exists.intro); refine ⟨?_, rfl⟩; exact ⟨k + 1, by omega, by go_num, HE2, HBd⟩)
          · simp [intOf] <;> omega
        · obtain rfl := hqk hxy
          rw [decide_eq_false hxy] at hbq
          have hne : ¬ x.toList = y.toList := fun e => hxy (bytes_ext (by rw [toList_data, toList_data] at e; exact e))
          clear hx hy hqk
          go_wp2_with fail
          refine wp_region_noPanic ?_
          refine wp_region_held_drew (S := fun W => W.cell? ⟨b1, f1 + k, none⟩ = some (.string x) ∧ W.cell? ⟨b2, f2 + k, none⟩ = some (.string y)) (by kernel_rfl) (by first | exact trivial | assumption | exact ⟨by assumption, by assumption⟩) (fun hHeld => ?_)
          refine take_at (i := 0) (v := ?_) rfl rfl (by kernel_rfl) (by kernel_rfl) (by kernel_rfl) (fun _ _ _ h => h) (Or.inl ⟨by rfl, ?_⟩) (by assumption) ?_
          rotate_left
          · intro w hSw; (try dsimp only at hSw); go_simp; try with_reducible rfl
          try simp only [Act.put, List.setIfInBounds_toArray, List.set_cons_zero, List.set_cons_succ]
          refine take_at (i := 1) (v := ?_) rfl rfl (by kernel_rfl) (by kernel_rfl) (by kernel_rfl) (fun _ _ _ h => h) (Or.inl ⟨by rfl, ?_⟩) (by assumption) ?_
          rotate_left
          · intro w hSw; (try dsimp only at hSw); go_simp; try with_reducible rfl
          try simp only [Act.put, List.setIfInBounds_toArray, List.set_cons_zero, List.set_cons_succ]
          refine take_at (i := 2) (v := ?_) rfl rfl (by kernel_rfl) (by kernel_rfl) (by kernel_rfl) (fun _ _ _ h => h) (Or.inl ⟨by rfl, ?_⟩) (by assumption) ?_
          rotate_left
          · intro w hSw; (try dsimp only at hSw); go_simp; try with_reducible rfl
          try simp only [Act.put, List.setIfInBounds_toArray, List.set_cons_zero, List.set_cons_succ]
          refine take_at (i := 3) (v := ?_) rfl rfl (by kernel_rfl) (by kernel_rfl) (by kernel_rfl) (fun _ _ _ h => h) (Or.inl ⟨by rfl, ?_⟩) (by assumption) ?_
          rotate_left
          · intro w hSw; (try dsimp only at hSw); go_simp; try with_reducible rfl
          try simp only [Act.put, List.setIfInBounds_toArray, List.set_cons_zero, List.set_cons_succ]
          refine take_at (i := 4) (v := ?_) rfl rfl (by kernel_rfl) (by kernel_rfl) (by kernel_rfl) (fun _ _ _ h => h) (Or.inl ⟨by rfl, ?_⟩) (by assumption) ?_
          rotate_left
          · intro w hSw; (try dsimp only at hSw); go_simp; try with_reducible rfl
          try simp only [Act.put, List.setIfInBounds_toArray, List.set_cons_zero, List.set_cons_succ]
          refine take_at (i := 5) (v := ?_) rfl rfl (by kernel_rfl) (by kernel_rfl) (by kernel_rfl) (fun _ _ _ h => h) (Or.inl ⟨by rfl, ?_⟩) (by assumption) ?_
          rotate_left
          · intro w hSw; (try dsimp only at hSw); go_simp; try with_reducible rfl
          try simp only [Act.put, List.setIfInBounds_toArray, List.set_cons_zero, List.set_cons_succ]
          refine take_at (i := 6) (v := ?_) rfl rfl (by kernel_rfl) (by kernel_rfl) (by kernel_rfl) (fun _ _ _ h => h) (Or.inl ⟨by rfl, ?_⟩) (by assumption) ?_
          rotate_left
          · intro w hSw; (try dsimp only at hSw); go_simp; try with_reducible rfl
          try simp only [Act.put, List.setIfInBounds_toArray, List.set_cons_zero, List.set_cons_succ]
          refine take_at (i := 7) (v := ?_) rfl rfl (by kernel_rfl) (by kernel_rfl) (by kernel_rfl) (fun _ _ _ h => h) (Or.inl ⟨by rfl, ?_⟩) (by assumption) ?_
          rotate_left
          · intro w hSw; (try dsimp only at hSw); go_simp; try with_reducible rfl
          try simp only [Act.put, List.setIfInBounds_toArray, List.set_cons_zero, List.set_cons_succ]
          refine take_at (i := 8) (v := ?_) rfl rfl (by kernel_rfl) (by kernel_rfl) (by kernel_rfl) (fun _ _ _ h => h) (Or.inl ⟨by rfl, ?_⟩) (by assumption) ?_
          rotate_left
          · intro w hSw; (try dsimp only at hSw); go_simp; try with_reducible rfl
          try simp only [Act.put, List.setIfInBounds_toArray, List.set_cons_zero, List.set_cons_succ]
          refine wpAnyH_done (by kernel_rfl) (NoPanic.normal ?_) _
          have HBd : Hid (Below w.heap.size w wr.drew) := HBl.out.drew
          go_wp2_with fail
          go_ret
          exact ⟨rfl, HBd.out⟩
      · obtain rfl : k = m := by omega
        have hqt : q = true := by
          rw [HQ.out, decide_eq_true]
          exact strL_ext HL.out (fun i hi => HE.out i (by rw [← HM.out.1]; exact hi))
        subst hqt
        go_wp2_with fail
        go_ret
        exact ⟨rfl, HBl.out⟩
  · have hqf : q = false := by rw [hq, decide_eq_false]; intro e; exact hl (by rw [e])
    subst hqf
    have g0 : ¬ ((A.length : Int) = (B.length : Int)) := by omega
    have g1 : ((A.length : Int) == (B.length : Int)) = false := by simp; omega
    generalize A.length = m at *
    generalize B.length = m2 at *
    clear hA hB hq hl
    go_enter Tryz.func42, Tryz.ntmps42
    go_wp2_with fail
    go_ret
    exact ⟨rfl, Below.refl _ _⟩

set_option maxHeartbeats 1000000 in
theorem path1_any (t u x y : Int) (pv : Value) (g : Nat) (w : World) (q : Bool) (hq : q = decide ((t, u) = (x, y))) (hb : Blk w 36 g #[.int .i64 x, .int .i64 y]) :
    Calls Tryz.prog 37 #[.agg #[.int .i64 t, .int .i64 u], pv, .pointer (some ⟨g, 0, none⟩)] w fun e w' => e = .returned (.bool q) ∧ Below w.heap.size w w' := by
  have c0 : w.cell? ⟨g, 0, none⟩ = some (.int .i64 x) := hb.cell 0
  have c1 : w.cell? ⟨g, 1, none⟩ = some (.int .i64 y) := hb.cell 1
  have hbn := below_new w (.cells #[.int .i64 t, .int .i64 u] 36)
  have d0 : (w.alloc (.cells #[.int .i64 t, .int .i64 u] 36)).cell? ⟨g, 0, none⟩ = some (.int .i64 x) := by rw [hbn.cell (p := ⟨g, 0, none⟩) hb.lt]; exact c0
  have d1 : (w.alloc (.cells #[.int .i64 t, .int .i64 u] 36)).cell? ⟨g, 1, none⟩ = some (.int .i64 y) := by rw [hbn.cell (p := ⟨g, 1, none⟩) hb.lt]; exact c1
  have hst : ∀ w, (Op.equalIn 10000 36 (.agg #[.int .i64 t, .int .i64 u]) (.agg #[.int .i64 x, .int .i64 y])).run Tryz.prog w = .ok q w := fun w => by
    rw [hq]
    exact stampEq t u x y w
  clear hb hq
  go_enter Tryz.func37, Tryz.ntmps37
  go_wp2_with fail
  go_ret
  exact ⟨rfl, hbn⟩

set_option maxHeartbeats 1000000 in
theorem find1_any (t u : Int) (P N : List ByteArray) (pv nv : Value) (B g : Nat) (w : World) (q : Bool) (hq : q = decide (P = N)) (hP : OwnTx w B pv P.length P) (hl : P.length ≤ 100000) (pa : Option Addr) (ca : Nat) (hnv : nv = .slice pa N.length ca) (hN : StrsAt w pa N.length N) (hb : Blk w 67 g #[nv]) :
    Calls Tryz.prog 41 #[.agg #[.int .i64 t, .int .i64 u], pv, .pointer (some ⟨g, 0, none⟩)] w fun e w' => e = .returned (.bool q) ∧ Below w.heap.size w w' := by
  subst hnv
  have hbn := below_new w (.cells #[.int .i64 t, .int .i64 u] 36)
  obtain ⟨pa2, ca2, hpv, hs⟩ := OwnTx.strs hP
  subst hpv
  obtain ⟨W, hW⟩ : ∃ W, w.alloc (.cells #[.int .i64 t, .int .i64 u] 36) = W := ⟨_, rfl⟩
  rw [hW] at hbn
  have d0 : W.cell? ⟨g, 0, none⟩ = some (.slice pa N.length ca) := (hb.on hbn).cell 0
  have CE : Hid (Calls _ _ _ _ _) := equalS_any P N pa2 pa ca2 ca W (hs.below hbn) (hN.below hbn) hl q hq
  have HB : Hid (Below w.heap.size w W) := hbn
  generalize P.length = m at *
  generalize N.length = m2 at *
  clear hb hq hP hN hs hbn
  go_enter Tryz.func41, Tryz.ntmps41
  go_wp2_with fail
  (try rw [hW])
  refine CE.out.mono ?_
  rintro e w1 ⟨rfl, hb1⟩
  go_wp2_with fail
  go_ret
  exact ⟨rfl, below_step HB.out (Nat.le_refl _) hb1⟩
end Go.Proofs.YtebnmghjdoblaaaGreatDoor

/- The code's seek (layer 12). -/
namespace Go.Proofs.YtebnmghjdoblaaaGreatDoor
open Go.RowKit
set_option linter.unusedSimpArgs false

theorem results_cell_tmp2 {fn : Func} {p u v : Tmp} {ty : TypeId} (h : fn.results = #[.cell p ty, .tmp u, .tmp v]) (tmps : Array Value) (P : Program) (w : World) :
    (results fn tmps).run P w =
      ((asAddr (tmps.getD p undef)).run P w).andThen fun a w₁ => ((loadVar ty a).run P w₁).andThen fun x w₂ => .ok (.tuple #[x, tmps.getD u undef, tmps.getD v undef]) w₂ := by
  simp only [results, h]
  simp [Sem.run_bind, Result.andThen]

/-- A struct out of a cell, and two other things. -/
theorem bodyPost_rowTmp2 {P : Program} {a : Act} {w : World} {fn : Func} {p u u2 : Tmp} {ty : TypeId} {R : Ending → World → Prop} (hf : fn.results = #[.cell p ty, .tmp u, .tmp u2]) (g : Nat) (cs : Array Value) (v v2 : Value) (hp : a.tmps.getD p undef = .pointer (some ⟨g, 0, none⟩)) (hv : a.tmps.getD u undef = v) (hv2 : a.tmps.getD u2 undef = v2) (hd : a.defers = []) (h : Blk w ty g cs)
    (d : TypeDesc) (hu : P.underlying ty = some d) (hdd : (match d with | .struct _ | .array _ _ => true | _ => false) = true) (hi : (P.info? ty).map (·.size) = some cs.size) (hR : R (.returned (.tuple #[.agg cs, v, v2])) w) : bodyPost P fn R .ret a w := by
  refine bodyPost_ret (v := .tuple #[.agg cs, v, v2]) ?_ hd hR
  rw [results_cell_tmp2 hf, hp, hv, hv2]
  simp [asAddr, Result.andThen, run_loadVar_row w g ty ty cs (0, 0) d h hu hdd hi]

/-- A block of another type stays when a row grows. -/
theorem blk_other {W w' : World} {t e : TypeId} {g B c n : Nat} {cs : Array Value} {v : Value} {xs : List Value} (h1 : Blk W t g cs) (h2 : W.ownsRow B e c v n xs) (hne : t ≠ e) (hg : W.grownBy w' v.ownBlock) : Blk w' t g cs := by
  refine h1.grown hg (fun e1 => ?_)
  rcases h2.2 with ⟨rfl, _⟩ | ⟨g2, _, cur2, rfl, _, hb2, _⟩
  · first | cases e1 | (simp [Value.ownBlock] at e1)
  · have k2 : g = g2 := by first | exact Option.some.inj e1 | exact (Option.some.inj e1).symm
    have h3 : W.heap[g]? = some (.cells cs t (0, 0)) := h1
    rw [k2, hb2] at h3
    injection h3 with h3
    injection h3 with _ h4
    exact hne h4.symm

/-- The first texts of a row of the call's own. -/
theorem owns_front {w : World} {B n d cap : Nat} {e : TypeId} {a : Option Addr} {xs : List Value} (h : w.ownsRow B e 1 (.slice a n cap) n xs) (hd : d ≤ n) : w.ownsRow B e 1 (.slice a d cap) d (xs.take d) := by
  obtain ⟨hl, h | ⟨g, cap', cur, hv, hB, hc, h1, h2, h3, h4⟩⟩ := h
  · obtain ⟨hv, hn⟩ := h
    injection hv with e1 e2 e3
    obtain rfl : d = 0 := by omega
    subst e1 e3
    exact ⟨by simp, .inl ⟨rfl, rfl⟩⟩
  · injection hv with e1 e2 e3
    subst e1 e3
    refine ⟨by rw [List.length_take]; omega, .inr ⟨g, _, cur, rfl, hB, hc, by omega, h2, h3, ?_⟩⟩
    rw [Nat.mul_one] at h4 ⊢
    rw [← h4, List.take_take, show min d n = d by omega]

theorem owns_cap {w : World} {B n cap : Nat} {e : TypeId} {a : Option Addr} {xs : List Value} (h : w.ownsRow B e 1 (.slice a n cap) n xs) : n ≤ cap ∧ (a = none ∧ n = 0 ∧ cap = 0 ∨ ∃ g, a = some ⟨g, 0, none⟩) := by
  obtain ⟨hl, h | ⟨g, cap', cur, hv, hB, hc, h1, h2, h3, h4⟩⟩ := h
  · obtain ⟨hv, hn⟩ := h
    injection hv with e1 e2 e3
    exact ⟨by omega, .inl ⟨e1, hn, e3⟩⟩
  · injection hv with e1 e2 e3
    exact ⟨by omega, .inr ⟨g, e1⟩⟩

/-- What seek answers. -/
def SeekO (R : List LineT) (isF : Int × Int → List ByteArray → Bool) (D : Bool) (B : Nat) (e : Ending) (w' : World) : Prop :=
  ∃ (t u : Int) (pv : Value) (E : Int), e = .returned (.tuple #[.agg #[.int .i64 t, .int .i64 u], pv, .int .i64 E]) ∧
    ((D = false ∧ t = 0 ∧ u = 0 ∧ pv = .slice none 0 0 ∧ E = 1) ∨
     (D = true ∧ (∀ j, j < R.length → isF (lL R j).2.1 (placeF R (j + 1)) = false) ∧ t = 0 ∧ u = 0 ∧ pv = .slice none 0 0 ∧ E = 3) ∨
     (D = true ∧ ∃ i, i < R.length ∧ isF (lL R i).2.1 (placeF R (i + 1)) = true ∧ (∀ j, j < i → isF (lL R j).2.1 (placeF R (j + 1)) = false) ∧ (lL R i).2.1 = (t, u) ∧ OwnTx w' B pv (placeF R (i + 1)).length (placeF R (i + 1)) ∧ E = 0))


theorem Tryz.infoStr : (Tryz.prog.info? 9).map (fun i => (i.zero, i.size, i.bytes)) = some (some (.string ⟨#[]⟩), 1, 16) := by kernel_rfl


set_option maxRecDepth 100000 in
set_option maxHeartbeats 8000000 in
theorem seekP_any (l : List NodeT) (a : Option Addr) (n c : Nat) (w : World) (hn : n ≤ 90) (hz : ∀ k, k < n → (nL l k).2.2.1.size ≤ 65536 ∧ (nL l k).2.2.2.size ≤ maxLen) (hI : NodesAt w a n l) (hG : Glob8 w) (D : Bool) (hD : D = true ↔ MayV l)
    (g0 : Nat) (isF : Int × Int → List ByteArray → Bool)
    (HF : ∀ (t u : Int) (P : List ByteArray) (pv : Value) (W : World), Below w.heap.size w W → P.length ≤ 90 → OwnTx W w.heap.size pv P.length P → Calls Tryz.prog 37 #[.agg #[.int .i64 t, .int .i64 u], pv, .pointer (some ⟨g0, 0, none⟩)] W fun e W' => e = .returned (.bool (isF (t, u) P)) ∧ Below W.heap.size W W') :
    Calls Tryz.prog 36 #[.slice a n c, .func (.func 37) #[] #[.pointer (some ⟨g0, 0, none⟩)]] w fun e w' => SeekO (linesP l) isF D w.heap.size e w' ∧ Below w.heap.size w w' := by
  have HN : Hid (l.length = n) := hI.1
  have HCL : Hid (∀ W, Below w.heap.size w W → Calls Tryz.prog 12 #[.slice a n c] W fun e w' => ∃ v, e = .returned (.tuple #[v, .int .i64 (if D = true then 0 else 1)]) ∧ OwnL w' W.heap.size v (if D = true then linesP l else []) ∧ Below W.heap.size W w') := fun W hW => linesV_any l a n c W hn hz (hI.below hW) (hG.below hW) D hD
  have HFF : Hid (∀ (t u : Int) (P : List ByteArray) (pv : Value) (W : World), _) := HF
  have A1 : Hid (Blk (w.alloc (.cells #[.int .i64 0, .int .i64 0] 36)) 36 w.heap.size #[.int .i64 0, .int .i64 0]) := Blk.new _ _ _
  have AB : Hid (Below w.heap.size w (w.alloc (.cells #[.int .i64 0, .int .i64 0] 36))) := below_new _ _
  have HR : Hid (D = true → StepsL 0 (linesP l) ∧ (linesP l).length ≤ 90) := fun h => ⟨show_steps l _ _ _ (Int.le_refl _), Nat.le_trans (linesP_len (hD.1 h)) (by rw [hI.1]; exact hn)⟩
  obtain ⟨R, hR⟩ : ∃ R, linesP l = R := ⟨_, rfl⟩
  rw [hR] at HCL HR ⊢
  clear hz hI hG hD HF hR
  go_enter Tryz.func36, Tryz.ntmps36
  go_wp2_with fail
  obtain ⟨w0, hw0⟩ : ∃ w0, w.alloc (.cells #[.int .i64 0, .int .i64 0] 36) = w0 := ⟨_, rfl⟩
  rw [hw0] at A1 AB
  obtain ⟨h, hh⟩ : ∃ h, w.heap.size = h := ⟨_, rfl⟩
  have A2 : Hid (Blk w0 36 h #[.int .i64 0, .int .i64 0]) := by show Blk _ _ _ _; rw [← hh]; exact A1.out
  have HLo : Hid (w.heap.size ≤ h) := by show _ ≤ _; omega
  try rw [hw0]
  try rw [hh]
  clear hw0 hh A1
  refine (HCL.out w0 AB.out).mono ?_
  rintro e w1 ⟨v, rfl, ho, hb1⟩
  have HB1 : Hid (Below w.heap.size w w1) := below_step AB.out (Nat.le_refl _) hb1
  have HS1 : Hid (Blk w1 36 h #[.int .i64 0, .int .i64 0]) := A2.out.on hb1
  cases D with
  | false =>
    rw [if_neg (by simp)]
    have X1 := HS1.out
    clear ho hb1 HCL A2 AB
    go_wp2_with (with_reducible refine wpList_storeBlk rfl 36 _ _ rfl h #[.int .i64 0, .int .i64 0] #[.int .i64 0, .int .i64 0] (by with_unfolding_all rfl) (by with_unfolding_all rfl) X1 rfl (by kernel_rfl) (by simp [Value.oneCell']) ?_)
    exact bodyPost_rowTmp2 rfl h _ _ _ rfl rfl rfl rfl (X1.setRow _) _ Tryz.underlying36 rfl (by kernel_rfl) ⟨⟨0, 0, _, 1, rfl, .inl ⟨rfl, rfl, rfl, rfl, rfl⟩⟩, below_setRow HB1.out HLo.out _⟩
  | true =>
    rw [if_pos rfl] at ho ⊢
    obtain ⟨hSt, hRl⟩ := HR.out rfl
    have HSt : Hid (StepsL 0 R) := hSt
    obtain ⟨a1, c1, rfl, _, _⟩ := OwnL.lines2 ho
    have HO1 : Hid (OwnL w1 w.heap.size (.slice a1 R.length c1) R) := owns_lessV ho AB.out.size
    obtain ⟨m, hm⟩ : ∃ m, R.length = m := ⟨_, rfl⟩
    have HM : Hid (R.length = m) := hm
    rw [hm] at HO1 hRl ⊢
    obtain ⟨i1, hl, hl0, hl1, hl2⟩ := info_parts Tryz.infoStr
    clear ho hb1 HCL A2 AB hSt hm HR
    go_wp2_with fail
    go_loopw [9, 23] (fun pv i wr => ∃ k : Nat, k ≤ m ∧ i = .int .i64 k ∧ Hid (OwnTx wr w.heap.size pv (placeF R k).length (placeF R k)) ∧ Hid (∀ j, j < k → isF (lL R j).2.1 (placeF R (j + 1)) = false) ∧ Hid (OwnL wr w.heap.size (.slice a1 m c1) R) ∧ Hid (Blk wr 36 h #[.int .i64 0, .int .i64 0]) ∧ Hid (Below w.heap.size w wr)) (fun _ i _ => m - (intOf i).toNat)
    case atStart => exact ⟨0, Nat.zero_le _, rfl, OwnTx.nil _ _, fun j hj => by omega, HO1, HS1, HB1⟩
    case round =>
      obtain ⟨k, hk, rfl, HPv, HNo, HLr, HSr, HB⟩ := hrel
      by_cases hlt : k < m
      · have b0 : (k : Int) < (m : Int) := by omega
        have w9 : IntKind.i64.wrap ((k : Int) + 1) = ((k + 1 : Nat) : Int) := by rw [IntKind.wrap_i64]; omega
        have hrl : LinesAt wr a1 m R := by
          obtain ⟨a', c', e, r', _⟩ := OwnL.lines2 HLr.out
          rw [HM.out] at e r'
          injection e with e1 e2 e3
          rw [e1]; exact r'
        obtain ⟨b, off, rfl, _⟩ := hrl.2.some (by omega)
        obtain ⟨x0, x1, x2, x3, x4⟩ := hrl.cells k hlt
        have hst := steps_at R 0 HSt.out k (by rw [HM.out]; exact hlt)
        obtain ⟨hd1, hd2⟩ := place_len HSt.out k (by rw [HM.out]; exact hlt)
        have hpr : ∀ j, j ≤ k → (placeF R j).length ≤ j := fun j => by
          induction j with
          | zero => intro _; exact Nat.le_refl _
          | succ j ih =>
            intro hj
            have h1 := ih (by omega)
            show ((placeF R j).take _ ++ [_]).length ≤ _
            rw [List.length_append, List.length_take]
            simp only [List.length_cons, List.length_nil]
            omega
        have hpk := hpr k (Nat.le_refl _)
        have HE1 : Hid (placeF R (k + 1) = (placeF R k).take (lL R k).1.toNat ++ [(lL R k).2.2.1]) := rfl
        obtain ⟨⟨m0, ⟨m1, m2⟩, nm, m4⟩, hx⟩ : ∃ x, x = lL R k := ⟨_, rfl⟩
        have HX : Hid ((lL R k).2.1 = (m1, m2)) := by show _ = _; rw [← hx]
        rw [← hx] at x0 x1 x2 x3 x4 hst hd1 hd2 HE1
        simp only at x0 x1 x2 x3 x4 hst hd1 hd2 HE1
        obtain ⟨dd, rfl⟩ : ∃ dd : Nat, m0 = (dd : Int) := ⟨m0.toNat, by omega⟩
        rw [Int.toNat_natCast] at hd1 hd2 HE1
        have HP1 : Hid ((placeF R (k + 1)).length = dd + 1) := hd2
        obtain ⟨pa, pc, hpv, _⟩ := OwnTx.strs HPv.out
        subst hpv
        obtain ⟨pl, hpl⟩ : ∃ pl, (placeF R k).length = pl := ⟨_, rfl⟩
        have HPl : Hid ((placeF R k).length = pl) := hpl
        have hcap := owns_cap HPv.out
        rw [hpl] at hd1 hcap hpk ⊢
        have hdl : dd ≤ pl := hd1
        have hdc : (dd : Int) ≤ (pc : Int) := by omega
        have hd0 : (0 : Int) ≤ (dd : Int) := by omega
        have hdk : dd ≤ 90 := by omega
        clear hx hst hd1 hd2 hpr hrl hpl
        rcases hcap with ⟨hpc, ⟨rfl, h0, rfl⟩ | ⟨gp, rfl⟩⟩
        · obtain rfl : dd = 0 := by omega
          have h00 : pl = 0 := h0
          subst h00
          rw [HPl.out] at HPv
          have x0' : wr.cell? ⟨b, off + k * 5, none⟩ = some (.int .i64 0) := x0
          clear x0
          have x0 := x0'
          clear x0'
          have HFr : Hid (OwnTx wr w.heap.size (.slice none 0 0) 0 ((placeF R k).take 0)) := by
            show World.ownsRow _ _ _ _ _ _ _
            rw [List.map_take]
            exact owns_front HPv.out (by first | (rw [HPl.out]; exact hdl) | exact hdl | exact Nat.le_refl _)
          clear HPv
          go_wp2_with fail
          obtain ⟨W2, hW2⟩ : ∃ W2, wr.alloc (.cells #[.int .i64 0, .int .i64 m1, .int .i64 m2, .string nm, .string m4] 43) = W2 := ⟨_, rfl⟩
          obtain ⟨hp, hhp⟩ : ∃ hp, wr.heap.size = hp := ⟨_, rfl⟩
          have HK2 : Hid (Blk W2 43 hp #[.int .i64 0, .int .i64 m1, .int .i64 m2, .string nm, .string m4]) := by show Blk _ _ _ _; rw [← hW2, ← hhp]; exact Blk.new _ _ _
          have hb2 : Below wr.heap.size wr W2 := by rw [← hW2]; exact below_new _ _
          have HB2 : Hid (Below w.heap.size w W2) := below_step HB.out (Nat.le_refl _) hb2
          have HF2 : Hid (OwnTx W2 w.heap.size (.slice none 0 0) 0 ((placeF R k).take 0)) := owns_on HFr.out hb2
          have HL2 : Hid (OwnL W2 w.heap.size (.slice (some ⟨b, off, none⟩) m c1) R) := owns_on HLr.out hb2
          have HS2 : Hid (Blk W2 36 h #[.int .i64 0, .int .i64 0]) := HSr.out.on hb2
          have HSS : Hid (∀ W, Below W2.heap.size W2 W → W.cell? ⟨hp, 0, none⟩ = some (.int .i64 0) ∧ W.cell? ⟨hp, 3, none⟩ = some (.string nm)) := fun W hW => ⟨(HK2.out.on hW).cell 0, (HK2.out.on hW).cell 3⟩
          have hS0 := HSS.out W2 (Below.refl _ _)
          (try rw [hW2])
          (try rw [hhp])
          clear hW2 hhp x0 x1 x2 x3 x4 hb2 HFr HLr HSr HB
          refine wp_region_noPanic ?_
          refine wp_region_held_drew (S := fun W => W.cell? ⟨hp, 0, none⟩ = some (.int .i64 0) ∧ W.cell? ⟨hp, 3, none⟩ = some (.string nm)) (by kernel_rfl) (by first | exact trivial | assumption | exact ⟨by assumption, by assumption⟩) (fun hHeld => ?_)
          refine take_at (i := 0) (v := ?_) rfl rfl (by kernel_rfl) (by kernel_rfl) (by kernel_rfl) (fun _ _ _ h => h) (Or.inl ⟨by rfl, ?_⟩) (by assumption) ?_
          rotate_left
          · intro w hSw; (try dsimp only at hSw); go_simp; try with_reducible rfl
          try simp only [Act.put, List.setIfInBounds_toArray, List.set_cons_zero, List.set_cons_succ]
          refine take_at (i := 1) (v := ?_) rfl rfl (by kernel_rfl) (by kernel_rfl) (by kernel_rfl) (fun _ _ _ h => h) (Or.inl ⟨by rfl, ?_⟩) (by assumption) ?_
          rotate_left
          · intro w hSw; (try dsimp only at hSw); go_simp; try with_reducible rfl
          try simp only [Act.put, List.setIfInBounds_toArray, List.set_cons_zero, List.set_cons_succ]
          refine take_at (i := 2) (v := ?_) rfl rfl (by kernel_rfl) (by kernel_rfl) (by kernel_rfl) (fun _ _ _ h => h) (Or.inl ⟨by rfl, ?_⟩) (by assumption) ?_
          rotate_left
          · intro w hSw; (try dsimp only at hSw); go_simp; try with_reducible rfl
          try simp only [Act.put, List.setIfInBounds_toArray, List.set_cons_zero, List.set_cons_succ]
          refine take_at (i := 3) (v := ?_) rfl rfl (by kernel_rfl) (by kernel_rfl) (by kernel_rfl) (fun _ _ _ h => h) (Or.inl ⟨by rfl, ?_⟩) (by assumption) ?_
          rotate_left
          · intro w hSw; (try dsimp only at hSw); go_simp; try with_reducible rfl
          try simp only [Act.put, List.setIfInBounds_toArray, List.set_cons_zero, List.set_cons_succ]
          refine take_at (i := 4) (v := ?_) rfl rfl (by kernel_rfl) (by kernel_rfl) (by kernel_rfl) (fun _ _ _ h => h) (Or.inl ⟨by rfl, ?_⟩) (by assumption) ?_
          rotate_left
          · intro w hSw; (try dsimp only at hSw); go_simp; try with_reducible rfl
          try simp only [Act.put, List.setIfInBounds_toArray, List.set_cons_zero, List.set_cons_succ]
          refine take_at (i := 5) (v := ?_) rfl rfl (by kernel_rfl) (by kernel_rfl) (by kernel_rfl) (fun _ _ _ h => h) (Or.inl ⟨by rfl, ?_⟩) (by assumption) ?_
          rotate_left
          · intro w hSw; (try dsimp only at hSw); go_simp; try with_reducible rfl
          try simp only [Act.put, List.setIfInBounds_toArray, List.set_cons_zero, List.set_cons_succ]
          refine wpAnyH_ready (rs := [6]) (by kernel_rfl) (by simp) ?_
          refine AllReadyH.cons rfl (fun K hK => ?_) AllReadyH.nil
          go_simp
          have hb5 : Below W2.heap.size W2 (W2.alloc (.cells #[.string nm] 9)).drew := ((Below.refl _ _).alloc (Nat.le_refl _) _).drew
          refine hK.out _ _ (HSS.out _ hb5) (fun hHeld => ?_)
          clear hK K
          refine wpAnyH_ready (rs := [7]) (by kernel_rfl) (by simp) ?_
          refine AllReadyH.cons rfl (fun K hK => ?_) AllReadyH.nil
          refine step_appW rfl (.tmp 30) (.tmp 33) 67 rfl w.heap.size 9 i1 _ 1 16 Tryz.underlying67 hl hl0 hl1 hl2 rfl (by decide) (.slice none 0 0) 0 (((placeF R k).take 0).map Value.string) rfl (show World.ownsRow _ _ _ _ _ _ _ from owns_on HF2.out hb5) (.slice (some ⟨W2.heap.size, 0, none⟩) 1 1) 1 [.string nm] rfl (new_src (show Blk (W2.alloc (.cells #[.string nm] 9)).drew 9 W2.heap.size #[.string nm] from (Blk.new W2 _ _).on (Below.refl _ _).drew) 1) rfl (by intro u hu; simp at hu; subst hu; rfl) (by unfold maxLen; omega) (by omega) (by have := HB2.out.size; have := hb5.size; omega) ?_
          intro v9 w5 ho9 hg9
          have HOw : World.ownsRow (W2.alloc (.cells #[.string nm] 9)).drew w.heap.size 9 1 (.slice none 0 0) 0 (((placeF R k).take 0).map Value.string) := owns_on HF2.out hb5
          have HK5 : Hid (Blk w5 43 hp #[.int .i64 0, .int .i64 m1, .int .i64 m2, .string nm, .string m4]) := blk_other (HK2.out.on hb5) HOw (by decide) hg9
          have HS5 : Hid (Blk w5 36 h #[.int .i64 0, .int .i64 0]) := blk_other (HS2.out.on hb5) HOw (by decide) hg9
          have HL5 : Hid (OwnL w5 w.heap.size (.slice (some ⟨b, off, none⟩) m c1) R) := owns_other (owns_on HL2.out hb5) HOw (by decide) hg9
          have HB5 : Hid (Below w.heap.size w w5) := (below_step HB2.out (Nat.le_refl _) hb5).grown hg9 (below_step HB2.out (Nat.le_refl _) hb5).size (fun j e => (World.ownsRow.lt HOw j e).1)
          have HO5 : Hid (OwnTx w5 w.heap.size v9 (placeF R (k + 1)).length (placeF R (k + 1))) := by
            show World.ownsRow _ _ _ _ _ _ _
            rw [HP1.out, HE1.out, List.map_append]
            exact ho9
          refine hK.out _ _ ⟨HK5.out.cell 0, HK5.out.cell 3⟩ (fun hHeld => ?_)
          clear hK K
          refine take_at (i := 8) (v := ?_) rfl rfl (by kernel_rfl) (by kernel_rfl) (by kernel_rfl) (fun _ _ _ h => h) (Or.inl ⟨by rfl, ?_⟩) (by assumption) ?_
          rotate_left
          · intro w hSw; (try dsimp only at hSw); go_simp; try with_reducible rfl
          try simp only [Act.put, List.setIfInBounds_toArray, List.set_cons_zero, List.set_cons_succ]
          refine wpAnyH_done (by kernel_rfl) (NoPanic.normal ?_) _
          have y1 : w5.cell? ⟨hp, 1, none⟩ = some (.int .i64 m1) := HK5.out.cell 1
          have y2 : w5.cell? ⟨hp, 2, none⟩ = some (.int .i64 m2) := HK5.out.cell 2
          clear ho9 hg9 HOw hb5 HSS hS0 HK2 HB2 HF2 HL2 HS2
          have CF : Hid (Calls _ _ _ _ _) := HFF.out m1 m2 (placeF R (k + 1)) v9 w5 HB5.out (by rw [HP1.out]; have := HPl.out; omega) HO5.out
          obtain ⟨q, hq⟩ : ∃ q, isF (m1, m2) (placeF R (k + 1)) = q := ⟨_, rfl⟩
          have HQ : Hid (isF (m1, m2) (placeF R (k + 1)) = q) := hq
          rw [hq] at CF
          clear hq
          go_wp2_with fail
          refine CF.out.mono ?_
          rintro e w6 ⟨rfl, hb6⟩
          have HK6 : Hid (Blk w6 43 hp #[.int .i64 0, .int .i64 m1, .int .i64 m2, .string nm, .string m4]) := HK5.out.on hb6
          have HS6 : Hid (Blk w6 36 h #[.int .i64 0, .int .i64 0]) := HS5.out.on hb6
          have HL6 : Hid (OwnL w6 w.heap.size (.slice (some ⟨b, off, none⟩) m c1) R) := owns_on HL5.out hb6
          have HB6 : Hid (Below w.heap.size w w6) := below_step HB5.out (Nat.le_refl _) hb6
          have HO6 : Hid (OwnTx w6 w.heap.size v9 (placeF R (k + 1)).length (placeF R (k + 1))) := owns_on HO5.out hb6
          clear CF y1 y2 hb6 HK5 HS5 HL5 HB5 HO5
          cases q with
          | false =>
            have HN2 : Hid (∀ j, j < k + 1 → isF (lL R j).2.1 (placeF R (j + 1)) = false) := fun j hj => by
              by_cases e : j = k
              · rw [e, HX.out]; exact HQ.out
              · exact HNo.out j (by omega)
            go_wp2_with fail
            refine ⟨?_, ?_⟩
            · first
              | exact ⟨k + 1, by omega, by go_num, HO6, HN2, HL6, HS6, HB6⟩
              | ((repeat apply Exists.intro); refine ⟨?_, rfl⟩; exact ⟨k + 1, by omega, by go_num, HO6, HN2, HL6, HS6, HB6⟩)
            · simp [intOf] <;> omega
          | true =>
            have X1 := HS6.out
            have y1 : w6.cell? ⟨hp, 1, none⟩ = some (.int .i64 m1) := HK6.out.cell 1
            have y2 : w6.cell? ⟨hp, 2, none⟩ = some (.int .i64 m2) := HK6.out.cell 2
            have HFin : Hid (OwnTx (w6.setRow h #[.int .i64 m1, .int .i64 m2]) w.heap.size v9 (placeF R (k + 1)).length (placeF R (k + 1))) := owns_same HO6.out (fun j hj => setRow_other _ _ _ _ (fun e => by
              have h1 : Blk w6 36 h #[.int .i64 0, .int .i64 0] := X1
              rcases HO6.out.2 with ⟨e2, _⟩ | ⟨g2, _, cur2, e2, _, hb2, _⟩
              · rw [e2] at hj; simp [Value.ownBlock] at hj
              · rw [e2] at hj
                have k2 : g2 = j := Option.some.inj hj
                have h3 : w6.heap[h]? = some (.cells #[.int .i64 0, .int .i64 0] 36 (0, 0)) := h1
                rw [k2, e, h3] at hb2
                injection hb2 with hb2
                injection hb2 with _ h4
                exact absurd h4 (by decide)))
            go_wp2_with (with_reducible refine wpList_storeBlk rfl 36 _ _ rfl h #[.int .i64 0, .int .i64 0] #[.int .i64 m1, .int .i64 m2] (by with_unfolding_all rfl) (by with_unfolding_all rfl) X1 rfl (by kernel_rfl) (by simp [Value.oneCell']) ?_)
            exact bodyPost_rowTmp2 rfl h _ _ _ rfl rfl rfl rfl (X1.setRow _) _ Tryz.underlying36 rfl (by kernel_rfl) ⟨⟨m1, m2, _, 0, rfl, .inr (.inr ⟨rfl, k, by rw [HM.out]; exact hlt, by rw [HX.out]; exact HQ.out, HNo.out, HX.out, HFin.out, rfl⟩)⟩, below_setRow HB6.out HLo.out _⟩
        · rw [HPl.out] at HPv
          have HFr : Hid (OwnTx wr w.heap.size (.slice (some ⟨gp, 0, none⟩) dd pc) dd ((placeF R k).take dd)) := by
            show World.ownsRow _ _ _ _ _ _ _
            rw [List.map_take]
            exact owns_front HPv.out (by first | (rw [HPl.out]; exact hdl) | exact hdl | exact Nat.le_refl _)
          clear HPv
          go_wp2_with fail
          obtain ⟨W2, hW2⟩ : ∃ W2, wr.alloc (.cells #[.int .i64 (dd : Int), .int .i64 m1, .int .i64 m2, .string nm, .string m4] 43) = W2 := ⟨_, rfl⟩
          obtain ⟨hp, hhp⟩ : ∃ hp, wr.heap.size = hp := ⟨_, rfl⟩
          have HK2 : Hid (Blk W2 43 hp #[.int .i64 (dd : Int), .int .i64 m1, .int .i64 m2, .string nm, .string m4]) := by show Blk _ _ _ _; rw [← hW2, ← hhp]; exact Blk.new _ _ _
          have hb2 : Below wr.heap.size wr W2 := by rw [← hW2]; exact below_new _ _
          have HB2 : Hid (Below w.heap.size w W2) := below_step HB.out (Nat.le_refl _) hb2
          have HF2 : Hid (OwnTx W2 w.heap.size (.slice (some ⟨gp, 0, none⟩) dd pc) dd ((placeF R k).take dd)) := owns_on HFr.out hb2
          have HL2 : Hid (OwnL W2 w.heap.size (.slice (some ⟨b, off, none⟩) m c1) R) := owns_on HLr.out hb2
          have HS2 : Hid (Blk W2 36 h #[.int .i64 0, .int .i64 0]) := HSr.out.on hb2
          have HSS : Hid (∀ W, Below W2.heap.size W2 W → W.cell? ⟨hp, 0, none⟩ = some (.int .i64 (dd : Int)) ∧ W.cell? ⟨hp, 3, none⟩ = some (.string nm)) := fun W hW => ⟨(HK2.out.on hW).cell 0, (HK2.out.on hW).cell 3⟩
          have hS0 := HSS.out W2 (Below.refl _ _)
          (try rw [hW2])
          (try rw [hhp])
          clear hW2 hhp x0 x1 x2 x3 x4 hb2 HFr HLr HSr HB
          refine wp_region_noPanic ?_
          refine wp_region_held_drew (S := fun W => W.cell? ⟨hp, 0, none⟩ = some (.int .i64 (dd : Int)) ∧ W.cell? ⟨hp, 3, none⟩ = some (.string nm)) (by kernel_rfl) (by first | exact trivial | assumption | exact ⟨by assumption, by assumption⟩) (fun hHeld => ?_)
          refine take_at (i := 0) (v := ?_) rfl rfl (by kernel_rfl) (by kernel_rfl) (by kernel_rfl) (fun _ _ _ h => h) (Or.inl ⟨by rfl, ?_⟩) (by assumption) ?_
          rotate_left
          · intro w hSw; (try dsimp only at hSw); go_simp; try with_reducible rfl
          try simp only [Act.put, List.setIfInBounds_toArray, List.set_cons_zero, List.set_cons_succ]
          refine take_at (i := 1) (v := ?_) rfl rfl (by kernel_rfl) (by kernel_rfl) (by kernel_rfl) (fun _ _ _ h => h) (Or.inl ⟨by rfl, ?_⟩) (by assumption) ?_
          rotate_left
          · intro w hSw; (try dsimp only at hSw); go_simp; try with_reducible rfl
          try simp only [Act.put, List.setIfInBounds_toArray, List.set_cons_zero, List.set_cons_succ]
          refine take_at (i := 2) (v := ?_) rfl rfl (by kernel_rfl) (by kernel_rfl) (by kernel_rfl) (fun _ _ _ h => h) (Or.inl ⟨by rfl, ?_⟩) (by assumption) ?_
          rotate_left
          · intro w hSw; (try dsimp only at hSw); go_simp; try with_reducible rfl
          try simp only [Act.put, List.setIfInBounds_toArray, List.set_cons_zero, List.set_cons_succ]
          refine take_at (i := 3) (v := ?_) rfl rfl (by kernel_rfl) (by kernel_rfl) (by kernel_rfl) (fun _ _ _ h => h) (Or.inl ⟨by rfl, ?_⟩) (by assumption) ?_
          rotate_left
          · intro w hSw; (try dsimp only at hSw); go_simp; try with_reducible rfl
          try simp only [Act.put, List.setIfInBounds_toArray, List.set_cons_zero, List.set_cons_succ]
          refine take_at (i := 4) (v := ?_) rfl rfl (by kernel_rfl) (by kernel_rfl) (by kernel_rfl) (fun _ _ _ h => h) (Or.inl ⟨by rfl, ?_⟩) (by assumption) ?_
          rotate_left
          · intro w hSw; (try dsimp only at hSw); go_simp; try with_reducible rfl
          try simp only [Act.put, List.setIfInBounds_toArray, List.set_cons_zero, List.set_cons_succ]
          refine take_at (i := 5) (v := ?_) rfl rfl (by kernel_rfl) (by kernel_rfl) (by kernel_rfl) (fun _ _ _ h => h) (Or.inl ⟨by rfl, ?_⟩) (by assumption) ?_
          rotate_left
          · intro w hSw; (try dsimp only at hSw); go_simp; try with_reducible rfl
          try simp only [Act.put, List.setIfInBounds_toArray, List.set_cons_zero, List.set_cons_succ]
          refine wpAnyH_ready (rs := [6]) (by kernel_rfl) (by simp) ?_
          refine AllReadyH.cons rfl (fun K hK => ?_) AllReadyH.nil
          go_simp
          have hb5 : Below W2.heap.size W2 (W2.alloc (.cells #[.string nm] 9)).drew := ((Below.refl _ _).alloc (Nat.le_refl _) _).drew
          refine hK.out _ _ (HSS.out _ hb5) (fun hHeld => ?_)
          clear hK K
          refine wpAnyH_ready (rs := [7]) (by kernel_rfl) (by simp) ?_
          refine AllReadyH.cons rfl (fun K hK => ?_) AllReadyH.nil
          refine step_appW rfl (.tmp 30) (.tmp 33) 67 rfl w.heap.size 9 i1 _ 1 16 Tryz.underlying67 hl hl0 hl1 hl2 rfl (by decide) (.slice (some ⟨gp, 0, none⟩) dd pc) dd (((placeF R k).take dd).map Value.string) rfl (show World.ownsRow _ _ _ _ _ _ _ from owns_on HF2.out hb5) (.slice (some ⟨W2.heap.size, 0, none⟩) 1 1) 1 [.string nm] rfl (new_src (show Blk (W2.alloc (.cells #[.string nm] 9)).drew 9 W2.heap.size #[.string nm] from (Blk.new W2 _ _).on (Below.refl _ _).drew) 1) rfl (by intro u hu; simp at hu; subst hu; rfl) (by unfold maxLen; omega) (by omega) (by have := HB2.out.size; have := hb5.size; omega) ?_
          intro v9 w5 ho9 hg9
          have HOw : World.ownsRow (W2.alloc (.cells #[.string nm] 9)).drew w.heap.size 9 1 (.slice (some ⟨gp, 0, none⟩) dd pc) dd (((placeF R k).take dd).map Value.string) := owns_on HF2.out hb5
          have HK5 : Hid (Blk w5 43 hp #[.int .i64 (dd : Int), .int .i64 m1, .int .i64 m2, .string nm, .string m4]) := blk_other (HK2.out.on hb5) HOw (by decide) hg9
          have HS5 : Hid (Blk w5 36 h #[.int .i64 0, .int .i64 0]) := blk_other (HS2.out.on hb5) HOw (by decide) hg9
          have HL5 : Hid (OwnL w5 w.heap.size (.slice (some ⟨b, off, none⟩) m c1) R) := owns_other (owns_on HL2.out hb5) HOw (by decide) hg9
          have HB5 : Hid (Below w.heap.size w w5) := (below_step HB2.out (Nat.le_refl _) hb5).grown hg9 (below_step HB2.out (Nat.le_refl _) hb5).size (fun j e => (World.ownsRow.lt HOw j e).1)
          have HO5 : Hid (OwnTx w5 w.heap.size v9 (placeF R (k + 1)).length (placeF R (k + 1))) := by
            show World.ownsRow _ _ _ _ _ _ _
            rw [HP1.out, HE1.out, List.map_append]
            exact ho9
          refine hK.out _ _ ⟨HK5.out.cell 0, HK5.out.cell 3⟩ (fun hHeld => ?_)
          clear hK K
          refine take_at (i := 8) (v := ?_) rfl rfl (by kernel_rfl) (by kernel_rfl) (by kernel_rfl) (fun _ _ _ h => h) (Or.inl ⟨by rfl, ?_⟩) (by assumption) ?_
          rotate_left
          · intro w hSw; (try dsimp only at hSw); go_simp; try with_reducible rfl
          try simp only [Act.put, List.setIfInBounds_toArray, List.set_cons_zero, List.set_cons_succ]
          refine wpAnyH_done (by kernel_rfl) (NoPanic.normal ?_) _
          have y1 : w5.cell? ⟨hp, 1, none⟩ = some (.int .i64 m1) := HK5.out.cell 1
          have y2 : w5.cell? ⟨hp, 2, none⟩ = some (.int .i64 m2) := HK5.out.cell 2
          clear ho9 hg9 HOw hb5 HSS hS0 HK2 HB2 HF2 HL2 HS2
          have CF : Hid (Calls _ _ _ _ _) := HFF.out m1 m2 (placeF R (k + 1)) v9 w5 HB5.out (by rw [HP1.out]; have := HPl.out; omega) HO5.out
          obtain ⟨q, hq⟩ : ∃ q, isF (m1, m2) (placeF R (k + 1)) = q := ⟨_, rfl⟩
          have HQ : Hid (isF (m1, m2) (placeF R (k + 1)) = q) := hq
          rw [hq] at CF
          clear hq
          go_wp2_with fail
          refine CF.out.mono ?_
          rintro e w6 ⟨rfl, hb6⟩
          have HK6 : Hid (Blk w6 43 hp #[.int .i64 (dd : Int), .int .i64 m1, .int .i64 m2, .string nm, .string m4]) := HK5.out.on hb6
          have HS6 : Hid (Blk w6 36 h #[.int .i64 0, .int .i64 0]) := HS5.out.on hb6
          have HL6 : Hid (OwnL w6 w.heap.size (.slice (some ⟨b, off, none⟩) m c1) R) := owns_on HL5.out hb6
          have HB6 : Hid (Below w.heap.size w w6) := below_step HB5.out (Nat.le_refl _) hb6
          have HO6 : Hid (OwnTx w6 w.heap.size v9 (placeF R (k + 1)).length (placeF R (k + 1))) := owns_on HO5.out hb6
          clear CF y1 y2 hb6 HK5 HS5 HL5 HB5 HO5
          cases q with
          | false =>
            have HN2 : Hid (∀ j, j < k + 1 → isF (lL R j).2.1 (placeF R (j + 1)) = false) := fun j hj => by
              by_cases e : j = k
              · rw [e, HX.out]; exact HQ.out
              · exact HNo.out j (by omega)
            go_wp2_with fail
            refine ⟨?_, ?_⟩
            · first
              | exact ⟨k + 1, by omega, by go_num, HO6, HN2, HL6, HS6, HB6⟩
              | ((repeat apply Exists.intro); refine ⟨?_, rfl⟩; exact ⟨k + 1, by omega, by go_num, HO6, HN2, HL6, HS6, HB6⟩)
            · simp [intOf] <;> omega
          | true =>
            have X1 := HS6.out
            have y1 : w6.cell? ⟨hp, 1, none⟩ = some (.int .i64 m1) := HK6.out.cell 1
            have y2 : w6.cell? ⟨hp, 2, none⟩ = some (.int .i64 m2) := HK6.out.cell 2
            have HFin : Hid (OwnTx (w6.setRow h #[.int .i64 m1, .int .i64 m2]) w.heap.size v9 (placeF R (k + 1)).length (placeF R (k + 1))) := owns_same HO6.out (fun j hj => setRow_other _ _ _ _ (fun e => by
              have h1 : Blk w6 36 h #[.int .i64 0, .int .i64 0] := X1
              rcases HO6.out.2 with ⟨e2, _⟩ | ⟨g2, _, cur2, e2, _, hb2, _⟩
              · rw [e2] at hj; simp [Value.ownBlock] at hj
              · rw [e2] at hj
                have k2 : g2 = j := Option.some.inj hj
                have h3 : w6.heap[h]? = some (.cells #[.int .i64 0, .int .i64 0] 36 (0, 0)) := h1
                rw [k2, e, h3] at hb2
                injection hb2 with hb2
                injection hb2 with _ h4
                exact absurd h4 (by decide)))
            go_wp2_with (with_reducible refine wpList_storeBlk rfl 36 _ _ rfl h #[.int .i64 0, .int .i64 0] #[.int .i64 m1, .int .i64 m2] (by with_unfolding_all rfl) (by with_unfolding_all rfl) X1 rfl (by kernel_rfl) (by simp [Value.oneCell']) ?_)
            exact bodyPost_rowTmp2 rfl h _ _ _ rfl rfl rfl rfl (X1.setRow _) _ Tryz.underlying36 rfl (by kernel_rfl) ⟨⟨m1, m2, _, 0, rfl, .inr (.inr ⟨rfl, k, by rw [HM.out]; exact hlt, by rw [HX.out]; exact HQ.out, HNo.out, HX.out, HFin.out, rfl⟩)⟩, below_setRow HB6.out HLo.out _⟩
      · obtain rfl : k = m := by omega
        have b0 : ¬ ((k : Int) < (k : Int)) := by omega
        have X1 := HSr.out
        go_wp2_with (with_reducible refine wpList_storeBlk rfl 36 _ _ rfl h #[.int .i64 0, .int .i64 0] #[.int .i64 0, .int .i64 0] (by with_unfolding_all rfl) (by with_unfolding_all rfl) X1 rfl (by kernel_rfl) (by simp [Value.oneCell']) ?_)
        exact bodyPost_rowTmp2 rfl h _ _ _ rfl rfl rfl rfl (X1.setRow _) _ Tryz.underlying36 rfl (by kernel_rfl) ⟨⟨0, 0, _, 3, rfl, .inr (.inl ⟨rfl, fun j hj => HNo.out j (by rw [HM.out] at hj; exact hj), rfl, rfl, rfl, rfl⟩)⟩, below_setRow HB.out HLo.out _⟩

set_option maxRecDepth 100000 in
set_option maxHeartbeats 8000000 in
theorem seekF_any (l : List NodeT) (a : Option Addr) (n c : Nat) (w : World) (hn : n ≤ 90) (hz : ∀ k, k < n → (nL l k).2.2.1.size ≤ 65536 ∧ (nL l k).2.2.2.size ≤ maxLen) (hI : NodesAt w a n l) (hG : Glob8 w) (D : Bool) (hD : D = true ↔ MayV l)
    (g0 : Nat) (isF : Int × Int → List ByteArray → Bool)
    (HF : ∀ (t u : Int) (P : List ByteArray) (pv : Value) (W : World), Below w.heap.size w W → P.length ≤ 90 → OwnTx W w.heap.size pv P.length P → Calls Tryz.prog 41 #[.agg #[.int .i64 t, .int .i64 u], pv, .pointer (some ⟨g0, 0, none⟩)] W fun e W' => e = .returned (.bool (isF (t, u) P)) ∧ Below W.heap.size W W') :
    Calls Tryz.prog 36 #[.slice a n c, .func (.func 41) #[] #[.pointer (some ⟨g0, 0, none⟩)]] w fun e w' => SeekO (linesP l) isF D w.heap.size e w' ∧ Below w.heap.size w w' := by
  have HN : Hid (l.length = n) := hI.1
  have HCL : Hid (∀ W, Below w.heap.size w W → Calls Tryz.prog 12 #[.slice a n c] W fun e w' => ∃ v, e = .returned (.tuple #[v, .int .i64 (if D = true then 0 else 1)]) ∧ OwnL w' W.heap.size v (if D = true then linesP l else []) ∧ Below W.heap.size W w') := fun W hW => linesV_any l a n c W hn hz (hI.below hW) (hG.below hW) D hD
  have HFF : Hid (∀ (t u : Int) (P : List ByteArray) (pv : Value) (W : World), _) := HF
  have A1 : Hid (Blk (w.alloc (.cells #[.int .i64 0, .int .i64 0] 36)) 36 w.heap.size #[.int .i64 0, .int .i64 0]) := Blk.new _ _ _
  have AB : Hid (Below w.heap.size w (w.alloc (.cells #[.int .i64 0, .int .i64 0] 36))) := below_new _ _
  have HR : Hid (D = true → StepsL 0 (linesP l) ∧ (linesP l).length ≤ 90) := fun h => ⟨show_steps l _ _ _ (Int.le_refl _), Nat.le_trans (linesP_len (hD.1 h)) (by rw [hI.1]; exact hn)⟩
  obtain ⟨R, hR⟩ : ∃ R, linesP l = R := ⟨_, rfl⟩
  rw [hR] at HCL HR ⊢
  clear hz hI hG hD HF hR
  go_enter Tryz.func36, Tryz.ntmps36
  go_wp2_with fail
  obtain ⟨w0, hw0⟩ : ∃ w0, w.alloc (.cells #[.int .i64 0, .int .i64 0] 36) = w0 := ⟨_, rfl⟩
  rw [hw0] at A1 AB
  obtain ⟨h, hh⟩ : ∃ h, w.heap.size = h := ⟨_, rfl⟩
  have A2 : Hid (Blk w0 36 h #[.int .i64 0, .int .i64 0]) := by show Blk _ _ _ _; rw [← hh]; exact A1.out
  have HLo : Hid (w.heap.size ≤ h) := by show _ ≤ _; omega
  try rw [hw0]
  try rw [hh]
  clear hw0 hh A1
  refine (HCL.out w0 AB.out).mono ?_
  rintro e w1 ⟨v, rfl, ho, hb1⟩
  have HB1 : Hid (Below w.heap.size w w1) := below_step AB.out (Nat.le_refl _) hb1
  have HS1 : Hid (Blk w1 36 h #[.int .i64 0, .int .i64 0]) := A2.out.on hb1
  cases D with
  | false =>
    rw [if_neg (by simp)]
    have X1 := HS1.out
    clear ho hb1 HCL A2 AB
    go_wp2_with (with_reducible refine wpList_storeBlk rfl 36 _ _ rfl h #[.int .i64 0, .int .i64 0] #[.int .i64 0, .int .i64 0] (by with_unfolding_all rfl) (by with_unfolding_all rfl) X1 rfl (by kernel_rfl) (by simp [Value.oneCell']) ?_)
    exact bodyPost_rowTmp2 rfl h _ _ _ rfl rfl rfl rfl (X1.setRow _) _ Tryz.underlying36 rfl (by kernel_rfl) ⟨⟨0, 0, _, 1, rfl, .inl ⟨rfl, rfl, rfl, rfl, rfl⟩⟩, below_setRow HB1.out HLo.out _⟩
  | true =>
    rw [if_pos rfl] at ho ⊢
    obtain ⟨hSt, hRl⟩ := HR.out rfl
    have HSt : Hid (StepsL 0 R) := hSt
    obtain ⟨a1, c1, rfl, _, _⟩ := OwnL.lines2 ho
    have HO1 : Hid (OwnL w1 w.heap.size (.slice a1 R.length c1) R) := owns_lessV ho AB.out.size
    obtain ⟨m, hm⟩ : ∃ m, R.length = m := ⟨_, rfl⟩
    have HM : Hid (R.length = m) := hm
    rw [hm] at HO1 hRl ⊢
    obtain ⟨i1, hl, hl0, hl1, hl2⟩ := info_parts Tryz.infoStr
    clear ho hb1 HCL A2 AB hSt hm HR
    go_wp2_with fail
    go_loopw [9, 23] (fun pv i wr => ∃ k : Nat, k ≤ m ∧ i = .int .i64 k ∧ Hid (OwnTx wr w.heap.size pv (placeF R k).length (placeF R k)) ∧ Hid (∀ j, j < k → isF (lL R j).2.1 (placeF R (j + 1)) = false) ∧ Hid (OwnL wr w.heap.size (.slice a1 m c1) R) ∧ Hid (Blk wr 36 h #[.int .i64 0, .int .i64 0]) ∧ Hid (Below w.heap.size w wr)) (fun _ i _ => m - (intOf i).toNat)
    case atStart => exact ⟨0, Nat.zero_le _, rfl, OwnTx.nil _ _, fun j hj => by omega, HO1, HS1, HB1⟩
    case round =>
      obtain ⟨k, hk, rfl, HPv, HNo, HLr, HSr, HB⟩ := hrel
      by_cases hlt : k < m
      · have b0 : (k : Int) < (m : Int) := by omega
        have w9 : IntKind.i64.wrap ((k : Int) + 1) = ((k + 1 : Nat) : Int) := by rw [IntKind.wrap_i64]; omega
        have hrl : LinesAt wr a1 m R := by
          obtain ⟨a', c', e, r', _⟩ := OwnL.lines2 HLr.out
          rw [HM.out] at e r'
          injection e with e1 e2 e3
          rw [e1]; exact r'
        obtain ⟨b, off, rfl, _⟩ := hrl.2.some (by omega)
        obtain ⟨x0, x1, x2, x3, x4⟩ := hrl.cells k hlt
        have hst := steps_at R 0 HSt.out k (by rw [HM.out]; exact hlt)
        obtain ⟨hd1, hd2⟩ := place_len HSt.out k (by rw [HM.out]; exact hlt)
        have hpr : ∀ j, j ≤ k → (placeF R j).length ≤ j := fun j => by
          induction j with
          | zero => intro _; exact Nat.le_refl _
          | succ j ih =>
            intro hj
            have h1 := ih (by omega)
            show ((placeF R j).take _ ++ [_]).length ≤ _
            rw [List.length_append, List.length_take]
            simp only [List.length_cons, List.length_nil]
            omega
        have hpk := hpr k (Nat.le_refl _)
        have HE1 : Hid (placeF R (k + 1) = (placeF R k).take (lL R k).1.toNat ++ [(lL R k).2.2.1]) := rfl
        obtain ⟨⟨m0, ⟨m1, m2⟩, nm, m4⟩, hx⟩ : ∃ x, x = lL R k := ⟨_, rfl⟩
        have HX : Hid ((lL R k).2.1 = (m1, m2)) := by show _ = _; rw [← hx]
        rw [← hx] at x0 x1 x2 x3 x4 hst hd1 hd2 HE1
        simp only at x0 x1 x2 x3 x4 hst hd1 hd2 HE1
        obtain ⟨dd, rfl⟩ : ∃ dd : Nat, m0 = (dd : Int) := ⟨m0.toNat, by omega⟩
        rw [Int.toNat_natCast] at hd1 hd2 HE1
        have HP1 : Hid ((placeF R (k + 1)).length = dd + 1) := hd2
        obtain ⟨pa, pc, hpv, _⟩ := OwnTx.strs HPv.out
        subst hpv
        obtain ⟨pl, hpl⟩ : ∃ pl, (placeF R k).length = pl := ⟨_, rfl⟩
        have HPl : Hid ((placeF R k).length = pl) := hpl
        have hcap := owns_cap HPv.out
        rw [hpl] at hd1 hcap hpk ⊢
        have hdl : dd ≤ pl := hd1
        have hdc : (dd : Int) ≤ (pc : Int) := by omega
        have hd0 : (0 : Int) ≤ (dd : Int) := by omega
        have hdk : dd ≤ 90 := by omega
        clear hx hst hd1 hd2 hpr hrl hpl
        rcases hcap with ⟨hpc, ⟨rfl, h0, rfl⟩ | ⟨gp, rfl⟩⟩
        · obtain rfl : dd = 0 := by omega
          have h00 : pl = 0 := h0
          subst h00
          rw [HPl.out] at HPv
          have x0' : wr.cell? ⟨b, off + k * 5, none⟩ = some (.int .i64 0) := x0
          clear x0
          have x0 := x0'
          clear x0'
          have HFr : Hid (OwnTx wr w.heap.size (.slice none 0 0) 0 ((placeF R k).take 0)) := by
            show World.ownsRow _ _ _ _ _ _ _
            rw [List.map_take]
            exact owns_front HPv.out (by first | (rw [HPl.out]; exact hdl) | exact hdl | exact Nat.le_refl _)
          clear HPv
          go_wp2_with fail
          obtain ⟨W2, hW2⟩ : ∃ W2, wr.alloc (.cells #[.int .i64 0, .int .i64 m1, .int .i64 m2, .string nm, .string m4] 43) = W2 := ⟨_, rfl⟩
          obtain ⟨hp, hhp⟩ : ∃ hp, wr.heap.size = hp := ⟨_, rfl⟩
          have HK2 : Hid (Blk W2 43 hp #[.int .i64 0, .int .i64 m1, .int .i64 m2, .string nm, .string m4]) := by show Blk _ _ _ _; rw [← hW2, ← hhp]; exact Blk.new _ _ _
          have hb2 : Below wr.heap.size wr W2 := by rw [← hW2]; exact below_new _ _
          have HB2 : Hid (Below w.heap.size w W2) := below_step HB.out (Nat.le_refl _) hb2
          have HF2 : Hid (OwnTx W2 w.heap.size (.slice none 0 0) 0 ((placeF R k).take 0)) := owns_on HFr.out hb2
          have HL2 : Hid (OwnL W2 w.heap.size (.slice (some ⟨b, off, none⟩) m c1) R) := owns_on HLr.out hb2
          have HS2 : Hid (Blk W2 36 h #[.int .i64 0, .int .i64 0]) := HSr.out.on hb2
          have HSS : Hid (∀ W, Below W2.heap.size W2 W → W.cell? ⟨hp, 0, none⟩ = some (.int .i64 0) ∧ W.cell? ⟨hp, 3, none⟩ = some (.string nm)) := fun W hW => ⟨(HK2.out.on hW).cell 0, (HK2.out.on hW).cell 3⟩
          have hS0 := HSS.out W2 (Below.refl _ _)
          (try rw [hW2])
          (try rw [hhp])
          clear hW2 hhp x0 x1 x2 x3 x4 hb2 HFr HLr HSr HB
          refine wp_region_noPanic ?_
          refine wp_region_held_drew (S := fun W => W.cell? ⟨hp, 0, none⟩ = some (.int .i64 0) ∧ W.cell? ⟨hp, 3, none⟩ = some (.string nm)) (by kernel_rfl) (by first | exact trivial | assumption | exact ⟨by assumption, by assumption⟩) (fun hHeld => ?_)
          refine take_at (i := 0) (v := ?_) rfl rfl (by kernel_rfl) (by kernel_rfl) (by kernel_rfl) (fun _ _ _ h => h) (Or.inl ⟨by rfl, ?_⟩) (by assumption) ?_
          rotate_left
          · intro w hSw; (try dsimp only at hSw); go_simp; try with_reducible rfl
          try simp only [Act.put, List.setIfInBounds_toArray, List.set_cons_zero, List.set_cons_succ]
          refine take_at (i := 1) (v := ?_) rfl rfl (by kernel_rfl) (by kernel_rfl) (by kernel_rfl) (fun _ _ _ h => h) (Or.inl ⟨by rfl, ?_⟩) (by assumption) ?_
          rotate_left
          · intro w hSw; (try dsimp only at hSw); go_simp; try with_reducible rfl
          try simp only [Act.put, List.setIfInBounds_toArray, List.set_cons_zero, List.set_cons_succ]
          refine take_at (i := 2) (v := ?_) rfl rfl (by kernel_rfl) (by kernel_rfl) (by kernel_rfl) (fun _ _ _ h => h) (Or.inl ⟨by rfl, ?_⟩) (by assumption) ?_
          rotate_left
          · intro w hSw; (try dsimp only at hSw); go_simp; try with_reducible rfl
          try simp only [Act.put, List.setIfInBounds_toArray, List.set_cons_zero, List.set_cons_succ]
          refine take_at (i := 3) (v := ?_) rfl rfl (by kernel_rfl) (by kernel_rfl) (by kernel_rfl) (fun _ _ _ h => h) (Or.inl ⟨by rfl, ?_⟩) (by assumption) ?_
          rotate_left
          · intro w hSw; (try dsimp only at hSw); go_simp; try with_reducible rfl
          try simp only [Act.put, List.setIfInBounds_toArray, List.set_cons_zero, List.set_cons_succ]
          refine take_at (i := 4) (v := ?_) rfl rfl (by kernel_rfl) (by kernel_rfl) (by kernel_rfl) (fun _ _ _ h => h) (Or.inl ⟨by rfl, ?_⟩) (by assumption) ?_
          rotate_left
          · intro w hSw; (try dsimp only at hSw); go_simp; try with_reducible rfl
          try simp only [Act.put, List.setIfInBounds_toArray, List.set_cons_zero, List.set_cons_succ]
          refine take_at (i := 5) (v := ?_) rfl rfl (by kernel_rfl) (by kernel_rfl) (by kernel_rfl) (fun _ _ _ h => h) (Or.inl ⟨by rfl, ?_⟩) (by assumption) ?_
          rotate_left
          · intro w hSw; (try dsimp only at hSw); go_simp; try with_reducible rfl
          try simp only [Act.put, List.setIfInBounds_toArray, List.set_cons_zero, List.set_cons_succ]
          refine wpAnyH_ready (rs := [6]) (by kernel_rfl) (by simp) ?_
          refine AllReadyH.cons rfl (fun K hK => ?_) AllReadyH.nil
          go_simp
          have hb5 : Below W2.heap.size W2 (W2.alloc (.cells #[.string nm] 9)).drew := ((Below.refl _ _).alloc (Nat.le_refl _) _).drew
          refine hK.out _ _ (HSS.out _ hb5) (fun hHeld => ?_)
          clear hK K
          refine wpAnyH_ready (rs := [7]) (by kernel_rfl) (by simp) ?_
          refine AllReadyH.cons rfl (fun K hK => ?_) AllReadyH.nil
          refine step_appW rfl (.tmp 30) (.tmp 33) 67 rfl w.heap.size 9 i1 _ 1 16 Tryz.underlying67 hl hl0 hl1 hl2 rfl (by decide) (.slice none 0 0) 0 (((placeF R k).take 0).map Value.string) rfl (show World.ownsRow _ _ _ _ _ _ _ from owns_on HF2.out hb5) (.slice (some ⟨W2.heap.size, 0, none⟩) 1 1) 1 [.string nm] rfl (new_src (show Blk (W2.alloc (.cells #[.string nm] 9)).drew 9 W2.heap.size #[.string nm] from (Blk.new W2 _ _).on (Below.refl _ _).drew) 1) rfl (by intro u hu; simp at hu; subst hu; rfl) (by unfold maxLen; omega) (by omega) (by have := HB2.out.size; have := hb5.size; omega) ?_
          intro v9 w5 ho9 hg9
          have HOw : World.ownsRow (W2.alloc (.cells #[.string nm] 9)).drew w.heap.size 9 1 (.slice none 0 0) 0 (((placeF R k).take 0).map Value.string) := owns_on HF2.out hb5
          have HK5 : Hid (Blk w5 43 hp #[.int .i64 0, .int .i64 m1, .int .i64 m2, .string nm, .string m4]) := blk_other (HK2.out.on hb5) HOw (by decide) hg9
          have HS5 : Hid (Blk w5 36 h #[.int .i64 0, .int .i64 0]) := blk_other (HS2.out.on hb5) HOw (by decide) hg9
          have HL5 : Hid (OwnL w5 w.heap.size (.slice (some ⟨b, off, none⟩) m c1) R) := owns_other (owns_on HL2.out hb5) HOw (by decide) hg9
          have HB5 : Hid (Below w.heap.size w w5) := (below_step HB2.out (Nat.le_refl _) hb5).grown hg9 (below_step HB2.out (Nat.le_refl _) hb5).size (fun j e => (World.ownsRow.lt HOw j e).1)
          have HO5 : Hid (OwnTx w5 w.heap.size v9 (placeF R (k + 1)).length (placeF R (k + 1))) := by
            show World.ownsRow _ _ _ _ _ _ _
            rw [HP1.out, HE1.out, List.map_append]
            exact ho9
          refine hK.out _ _ ⟨HK5.out.cell 0, HK5.out.cell 3⟩ (fun hHeld => ?_)
          clear hK K
          refine take_at (i := 8) (v := ?_) rfl rfl (by kernel_rfl) (by kernel_rfl) (by kernel_rfl) (fun _ _ _ h => h) (Or.inl ⟨by rfl, ?_⟩) (by assumption) ?_
          rotate_left
          · intro w hSw; (try dsimp only at hSw); go_simp; try with_reducible rfl
          try simp only [Act.put, List.setIfInBounds_toArray, List.set_cons_zero, List.set_cons_succ]
          refine wpAnyH_done (by kernel_rfl) (NoPanic.normal ?_) _
          have y1 : w5.cell? ⟨hp, 1, none⟩ = some (.int .i64 m1) := HK5.out.cell 1
          have y2 : w5.cell? ⟨hp, 2, none⟩ = some (.int .i64 m2) := HK5.out.cell 2
          clear ho9 hg9 HOw hb5 HSS hS0 HK2 HB2 HF2 HL2 HS2
          have CF : Hid (Calls _ _ _ _ _) := HFF.out m1 m2 (placeF R (k + 1)) v9 w5 HB5.out (by rw [HP1.out]; have := HPl.out; omega) HO5.out
          obtain ⟨q, hq⟩ : ∃ q, isF (m1, m2) (placeF R (k + 1)) = q := ⟨_, rfl⟩
          have HQ : Hid (isF (m1, m2) (placeF R (k + 1)) = q) := hq
          rw [hq] at CF
          clear hq
          go_wp2_with fail
          refine CF.out.mono ?_
          rintro e w6 ⟨rfl, hb6⟩
          have HK6 : Hid (Blk w6 43 hp #[.int .i64 0, .int .i64 m1, .int .i64 m2, .string nm, .string m4]) := HK5.out.on hb6
          have HS6 : Hid (Blk w6 36 h #[.int .i64 0, .int .i64 0]) := HS5.out.on hb6
          have HL6 : Hid (OwnL w6 w.heap.size (.slice (some ⟨b, off, none⟩) m c1) R) := owns_on HL5.out hb6
          have HB6 : Hid (Below w.heap.size w w6) := below_step HB5.out (Nat.le_refl _) hb6
          have HO6 : Hid (OwnTx w6 w.heap.size v9 (placeF R (k + 1)).length (placeF R (k + 1))) := owns_on HO5.out hb6
          clear CF y1 y2 hb6 HK5 HS5 HL5 HB5 HO5
          cases q with
          | false =>
            have HN2 : Hid (∀ j, j < k + 1 → isF (lL R j).2.1 (placeF R (j + 1)) = false) := fun j hj => by
              by_cases e : j = k
              · rw [e, HX.out]; exact HQ.out
              · exact HNo.out j (by omega)
            go_wp2_with fail
            refine ⟨?_, ?_⟩
            · first
              | exact ⟨k + 1, by omega, by go_num, HO6, HN2, HL6, HS6, HB6⟩
              | ((repeat apply Exists.intro); refine ⟨?_, rfl⟩; exact ⟨k + 1, by omega, by go_num, HO6, HN2, HL6, HS6, HB6⟩)
            · simp [intOf] <;> omega
          | true =>
            have X1 := HS6.out
            have y1 : w6.cell? ⟨hp, 1, none⟩ = some (.int .i64 m1) := HK6.out.cell 1
            have y2 : w6.cell? ⟨hp, 2, none⟩ = some (.int .i64 m2) := HK6.out.cell 2
            have HFin : Hid (OwnTx (w6.setRow h #[.int .i64 m1, .int .i64 m2]) w.heap.size v9 (placeF R (k + 1)).length (placeF R (k + 1))) := owns_same HO6.out (fun j hj => setRow_other _ _ _ _ (fun e => by
              have h1 : Blk w6 36 h #[.int .i64 0, .int .i64 0] := X1
              rcases HO6.out.2 with ⟨e2, _⟩ | ⟨g2, _, cur2, e2, _, hb2, _⟩
              · rw [e2] at hj; simp [Value.ownBlock] at hj
              · rw [e2] at hj
                have k2 : g2 = j := Option.some.inj hj
                have h3 : w6.heap[h]? = some (.cells #[.int .i64 0, .int .i64 0] 36 (0, 0)) := h1
                rw [k2, e, h3] at hb2
                injection hb2 with hb2
                injection hb2 with _ h4
                exact absurd h4 (by decide)))
            go_wp2_with (with_reducible refine wpList_storeBlk rfl 36 _ _ rfl h #[.int .i64 0, .int .i64 0] #[.int .i64 m1, .int .i64 m2] (by with_unfolding_all rfl) (by with_unfolding_all rfl) X1 rfl (by kernel_rfl) (by simp [Value.oneCell']) ?_)
            exact bodyPost_rowTmp2 rfl h _ _ _ rfl rfl rfl rfl (X1.setRow _) _ Tryz.underlying36 rfl (by kernel_rfl) ⟨⟨m1, m2, _, 0, rfl, .inr (.inr ⟨rfl, k, by rw [HM.out]; exact hlt, by rw [HX.out]; exact HQ.out, HNo.out, HX.out, HFin.out, rfl⟩)⟩, below_setRow HB6.out HLo.out _⟩
        · rw [HPl.out] at HPv
          have HFr : Hid (OwnTx wr w.heap.size (.slice (some ⟨gp, 0, none⟩) dd pc) dd ((placeF R k).take dd)) := by
            show World.ownsRow _ _ _ _ _ _ _
            rw [List.map_take]
            exact owns_front HPv.out (by first | (rw [HPl.out]; exact hdl) | exact hdl | exact Nat.le_refl _)
          clear HPv
          go_wp2_with fail
          obtain ⟨W2, hW2⟩ : ∃ W2, wr.alloc (.cells #[.int .i64 (dd : Int), .int .i64 m1, .int .i64 m2, .string nm, .string m4] 43) = W2 := ⟨_, rfl⟩
          obtain ⟨hp, hhp⟩ : ∃ hp, wr.heap.size = hp := ⟨_, rfl⟩
          have HK2 : Hid (Blk W2 43 hp #[.int .i64 (dd : Int), .int .i64 m1, .int .i64 m2, .string nm, .string m4]) := by show Blk _ _ _ _; rw [← hW2, ← hhp]; exact Blk.new _ _ _
          have hb2 : Below wr.heap.size wr W2 := by rw [← hW2]; exact below_new _ _
          have HB2 : Hid (Below w.heap.size w W2) := below_step HB.out (Nat.le_refl _) hb2
          have HF2 : Hid (OwnTx W2 w.heap.size (.slice (some ⟨gp, 0, none⟩) dd pc) dd ((placeF R k).take dd)) := owns_on HFr.out hb2
          have HL2 : Hid (OwnL W2 w.heap.size (.slice (some ⟨b, off, none⟩) m c1) R) := owns_on HLr.out hb2
          have HS2 : Hid (Blk W2 36 h #[.int .i64 0, .int .i64 0]) := HSr.out.on hb2
          have HSS : Hid (∀ W, Below W2.heap.size W2 W → W.cell? ⟨hp, 0, none⟩ = some (.int .i64 (dd : Int)) ∧ W.cell? ⟨hp, 3, none⟩ = some (.string nm)) := fun W hW => ⟨(HK2.out.on hW).cell 0, (HK2.out.on hW).cell 3⟩
          have hS0 := HSS.out W2 (Below.refl _ _)
          (try rw [hW2])
          (try rw [hhp])
          clear hW2 hhp x0 x1 x2 x3 x4 hb2 HFr HLr HSr HB
          refine wp_region_noPanic ?_
          refine wp_region_held_drew (S := fun W => W.cell? ⟨hp, 0, none⟩ = some (.int .i64 (dd : Int)) ∧ W.cell? ⟨hp, 3, none⟩ = some (.string nm)) (by kernel_rfl) (by first | exact trivial | assumption | exact ⟨by assumption, by assumption⟩) (fun hHeld => ?_)
          refine take_at (i := 0) (v := ?_) rfl rfl (by kernel_rfl) (by kernel_rfl) (by kernel_rfl) (fun _ _ _ h => h) (Or.inl ⟨by rfl, ?_⟩) (by assumption) ?_
          rotate_left
          · intro w hSw; (try dsimp only at hSw); go_simp; try with_reducible rfl
          try simp only [Act.put, List.setIfInBounds_toArray, List.set_cons_zero, List.set_cons_succ]
          refine take_at (i := 1) (v := ?_) rfl rfl (by kernel_rfl) (by kernel_rfl) (by kernel_rfl) (fun _ _ _ h => h) (Or.inl ⟨by rfl, ?_⟩) (by assumption) ?_
          rotate_left
          · intro w hSw; (try dsimp only at hSw); go_simp; try with_reducible rfl
          try simp only [Act.put, List.setIfInBounds_toArray, List.set_cons_zero, List.set_cons_succ]
          refine take_at (i := 2) (v := ?_) rfl rfl (by kernel_rfl) (by kernel_rfl) (by kernel_rfl) (fun _ _ _ h => h) (Or.inl ⟨by rfl, ?_⟩) (by assumption) ?_
          rotate_left
          · intro w hSw; (try dsimp only at hSw); go_simp; try with_reducible rfl
          try simp only [Act.put, List.setIfInBounds_toArray, List.set_cons_zero, List.set_cons_succ]
          refine take_at (i := 3) (v := ?_) rfl rfl (by kernel_rfl) (by kernel_rfl) (by kernel_rfl) (fun _ _ _ h => h) (Or.inl ⟨by rfl, ?_⟩) (by assumption) ?_
          rotate_left
          · intro w hSw; (try dsimp only at hSw); go_simp; try with_reducible rfl
          try simp only [Act.put, List.setIfInBounds_toArray, List.set_cons_zero, List.set_cons_succ]
          refine take_at (i := 4) (v := ?_) rfl rfl (by kernel_rfl) (by kernel_rfl) (by kernel_rfl) (fun _ _ _ h => h) (Or.inl ⟨by rfl, ?_⟩) (by assumption) ?_
          rotate_left
          · intro w hSw; (try dsimp only at hSw); go_simp; try with_reducible rfl
          try simp only [Act.put, List.setIfInBounds_toArray, List.set_cons_zero, List.set_cons_succ]
          refine take_at (i := 5) (v := ?_) rfl rfl (by kernel_rfl) (by kernel_rfl) (by kernel_rfl) (fun _ _ _ h => h) (Or.inl ⟨by rfl, ?_⟩) (by assumption) ?_
          rotate_left
          · intro w hSw; (try dsimp only at hSw); go_simp; try with_reducible rfl
          try simp only [Act.put, List.setIfInBounds_toArray, List.set_cons_zero, List.set_cons_succ]
          refine wpAnyH_ready (rs := [6]) (by kernel_rfl) (by simp) ?_
          refine AllReadyH.cons rfl (fun K hK => ?_) AllReadyH.nil
          go_simp
          have hb5 : Below W2.heap.size W2 (W2.alloc (.cells #[.string nm] 9)).drew := ((Below.refl _ _).alloc (Nat.le_refl _) _).drew
          refine hK.out _ _ (HSS.out _ hb5) (fun hHeld => ?_)
          clear hK K
          refine wpAnyH_ready (rs := [7]) (by kernel_rfl) (by simp) ?_
          refine AllReadyH.cons rfl (fun K hK => ?_) AllReadyH.nil
          refine step_appW rfl (.tmp 30) (.tmp 33) 67 rfl w.heap.size 9 i1 _ 1 16 Tryz.underlying67 hl hl0 hl1 hl2 rfl (by decide) (.slice (some ⟨gp, 0, none⟩) dd pc) dd (((placeF R k).take dd).map Value.string) rfl (show World.ownsRow _ _ _ _ _ _ _ from owns_on HF2.out hb5) (.slice (some ⟨W2.heap.size, 0, none⟩) 1 1) 1 [.string nm] rfl (new_src (show Blk (W2.alloc (.cells #[.string nm] 9)).drew 9 W2.heap.size #[.string nm] from (Blk.new W2 _ _).on (Below.refl _ _).drew) 1) rfl (by intro u hu; simp at hu; subst hu; rfl) (by unfold maxLen; omega) (by omega) (by have := HB2.out.size; have := hb5.size; omega) ?_
          intro v9 w5 ho9 hg9
          have HOw : World.ownsRow (W2.alloc (.cells #[.string nm] 9)).drew w.heap.size 9 1 (.slice (some ⟨gp, 0, none⟩) dd pc) dd (((placeF R k).take dd).map Value.string) := owns_on HF2.out hb5
          have HK5 : Hid (Blk w5 43 hp #[.int .i64 (dd : Int), .int .i64 m1, .int .i64 m2, .string nm, .string m4]) := blk_other (HK2.out.on hb5) HOw (by decide) hg9
          have HS5 : Hid (Blk w5 36 h #[.int .i64 0, .int .i64 0]) := blk_other (HS2.out.on hb5) HOw (by decide) hg9
          have HL5 : Hid (OwnL w5 w.heap.size (.slice (some ⟨b, off, none⟩) m c1) R) := owns_other (owns_on HL2.out hb5) HOw (by decide) hg9
          have HB5 : Hid (Below w.heap.size w w5) := (below_step HB2.out (Nat.le_refl _) hb5).grown hg9 (below_step HB2.out (Nat.le_refl _) hb5).size (fun j e => (World.ownsRow.lt HOw j e).1)
          have HO5 : Hid (OwnTx w5 w.heap.size v9 (placeF R (k + 1)).length (placeF R (k + 1))) := by
            show World.ownsRow _ _ _ _ _ _ _
            rw [HP1.out, HE1.out, List.map_append]
            exact ho9
          refine hK.out _ _ ⟨HK5.out.cell 0, HK5.out.cell 3⟩ (fun hHeld => ?_)
          clear hK K
          refine take_at (i := 8) (v := ?_) rfl rfl (by kernel_rfl) (by kernel_rfl) (by kernel_rfl) (fun _ _ _ h => h) (Or.inl ⟨by rfl, ?_⟩) (by assumption) ?_
          rotate_left
          · intro w hSw; (try dsimp only at hSw); go_simp; try with_reducible rfl
          try simp only [Act.put, List.setIfInBounds_toArray, List.set_cons_zero, List.set_cons_succ]
          refine wpAnyH_done (by kernel_rfl) (NoPanic.normal ?_) _
          have y1 : w5.cell? ⟨hp, 1, none⟩ = some (.int .i64 m1) := HK5.out.cell 1
          have y2 : w5.cell? ⟨hp, 2, none⟩ = some (.int .i64 m2) := HK5.out.cell 2
          clear ho9 hg9 HOw hb5 HSS hS0 HK2 HB2 HF2 HL2 HS2
          have CF : Hid (Calls _ _ _ _ _) := HFF.out m1 m2 (placeF R (k + 1)) v9 w5 HB5.out (by rw [HP1.out]; have := HPl.out; omega) HO5.out
          obtain ⟨q, hq⟩ : ∃ q, isF (m1, m2) (placeF R (k + 1)) = q := ⟨_, rfl⟩
          have HQ : Hid (isF (m1, m2) (placeF R (k + 1)) = q) := hq
          rw [hq] at CF
          clear hq
          go_wp2_with fail
          refine CF.out.mono ?_
          rintro e w6 ⟨rfl, hb6⟩
          have HK6 : Hid (Blk w6 43 hp #[.int .i64 (dd : Int), .int .i64 m1, .int .i64 m2, .string nm, .string m4]) := HK5.out.on hb6
          have HS6 : Hid (Blk w6 36 h #[.int .i64 0, .int .i64 0]) := HS5.out.on hb6
          have HL6 : Hid (OwnL w6 w.heap.size (.slice (some ⟨b, off, none⟩) m c1) R) := owns_on HL5.out hb6
          have HB6 : Hid (Below w.heap.size w w6) := below_step HB5.out (Nat.le_refl _) hb6
          have HO6 : Hid (OwnTx w6 w.heap.size v9 (placeF R (k + 1)).length (placeF R (k + 1))) := owns_on HO5.out hb6
          clear CF y1 y2 hb6 HK5 HS5 HL5 HB5 HO5
          cases q with
          | false =>
            have HN2 : Hid (∀ j, j < k + 1 → isF (lL R j).2.1 (placeF R (j + 1)) = false) := fun j hj => by
              by_cases e : j = k
              · rw [e, HX.out]; exact HQ.out
              · exact HNo.out j (by omega)
            go_wp2_with fail
            refine ⟨?_, ?_⟩
            · first
              | exact ⟨k + 1, by omega, by go_num, HO6, HN2, HL6, HS6, HB6⟩
              | ((repeat apply Exists.intro); refine ⟨?_, rfl⟩; exact ⟨k + 1, by omega, by go_num, HO6, HN2, HL6, HS6, HB6⟩)
            · simp [intOf] <;> omega
          | true =>
            have X1 := HS6.out
            have y1 : w6.cell? ⟨hp, 1, none⟩ = some (.int .i64 m1) := HK6.out.cell 1
            have y2 : w6.cell? ⟨hp, 2, none⟩ = some (.int .i64 m2) := HK6.out.cell 2
            have HFin : Hid (OwnTx (w6.setRow h #[.int .i64 m1, .int .i64 m2]) w.heap.size v9 (placeF R (k + 1)).length (placeF R (k + 1))) := owns_same HO6.out (fun j hj => setRow_other _ _ _ _ (fun e => by
              have h1 : Blk w6 36 h #[.int .i64 0, .int .i64 0] := X1
              rcases HO6.out.2 with ⟨e2, _⟩ | ⟨g2, _, cur2, e2, _, hb2, _⟩
              · rw [e2] at hj; simp [Value.ownBlock] at hj
              · rw [e2] at hj
                have k2 : g2 = j := Option.some.inj hj
                have h3 : w6.heap[h]? = some (.cells #[.int .i64 0, .int .i64 0] 36 (0, 0)) := h1
                rw [k2, e, h3] at hb2
                injection hb2 with hb2
                injection hb2 with _ h4
                exact absurd h4 (by decide)))
            go_wp2_with (with_reducible refine wpList_storeBlk rfl 36 _ _ rfl h #[.int .i64 0, .int .i64 0] #[.int .i64 m1, .int .i64 m2] (by with_unfolding_all rfl) (by with_unfolding_all rfl) X1 rfl (by kernel_rfl) (by simp [Value.oneCell']) ?_)
            exact bodyPost_rowTmp2 rfl h _ _ _ rfl rfl rfl rfl (X1.setRow _) _ Tryz.underlying36 rfl (by kernel_rfl) ⟨⟨m1, m2, _, 0, rfl, .inr (.inr ⟨rfl, k, by rw [HM.out]; exact hlt, by rw [HX.out]; exact HQ.out, HNo.out, HX.out, HFin.out, rfl⟩)⟩, below_setRow HB6.out HLo.out _⟩
      · obtain rfl : k = m := by omega
        have b0 : ¬ ((k : Int) < (k : Int)) := by omega
        have X1 := HSr.out
        go_wp2_with (with_reducible refine wpList_storeBlk rfl 36 _ _ rfl h #[.int .i64 0, .int .i64 0] #[.int .i64 0, .int .i64 0] (by with_unfolding_all rfl) (by with_unfolding_all rfl) X1 rfl (by kernel_rfl) (by simp [Value.oneCell']) ?_)
        exact bodyPost_rowTmp2 rfl h _ _ _ rfl rfl rfl rfl (X1.setRow _) _ Tryz.underlying36 rfl (by kernel_rfl) ⟨⟨0, 0, _, 3, rfl, .inr (.inl ⟨rfl, fun j hj => HNo.out j (by rw [HM.out] at hj; exact hj), rfl, rfl, rfl, rfl⟩)⟩, below_setRow HB.out HLo.out _⟩
end Go.Proofs.YtebnmghjdoblaaaGreatDoor

/- The code's Path (layer 12). -/
namespace Go.Proofs.YtebnmghjdoblaaaGreatDoor
open Go.RowKit
set_option linter.unusedSimpArgs false

theorem dist_size (l : List ByteArray) (M : Nat) (h : ∀ s ∈ l, s.size ≤ M) : ∀ k, k ≤ l.length → ∀ s ∈ distF l k, s.size ≤ M + 3 := by
  intro k
  induction k with
  | zero => intro _ s hs; cases hs
  | succ k ih =>
    intro hk s hs
    rw [distF_succ, List.mem_append] at hs
    rcases hs with hs | hs
    · exact ih (by omega) s hs
    · have e : s = pickN (distF l k) (strL l k) (l.length + 1) 2 (strL l k) := by simpa using hs
      have hb : (strL l k).size ≤ M := h _ (by unfold strL; rw [List.getD_eq_getElem?_getD, List.getElem?_eq_getElem (show k < l.length by omega)]; exact List.getElem_mem _)
      rcases pick_of (distF l k) (strL l k) (l.length + 1) 2 (strL l k) with e2 | ⟨j, _, _, e2⟩
      · rw [e, e2]; omega
      · rw [e, e2]
        unfold candB cutR
        have h1 := tailB_size j
        have h2 := posR_le (strL l k) (32 - (tailB j).size)
        rw [ByteArray.size_append, ByteArray.size_extract]
        omega

theorem lines_size {l : List NodeT} {M : Nat} (h : ∀ k, k < l.length → (nL l k).2.2.1.size ≤ M) : ∀ x ∈ linesP l, x.2.2.1.size ≤ M + 3 := by
  refine show_in l _ (fun p d x hx => ?_) _ _ _
  obtain ⟨j, hj, e⟩ := childF_names _ _ _ _ x hx
  rw [e]
  have hd := dist_size ((kidsP l p l.length).map (fun x => x.2.2.1)) M (fun s hs => by
    obtain ⟨y, hy, rfl⟩ := List.mem_map.1 hs
    obtain ⟨i, hi, rfl⟩ := kidsP_mem l p _ y hy
    exact h i hi) (kidsP l p l.length).length (by rw [List.length_map]; exact Nat.le_refl _)
  refine hd _ ?_
  unfold strL
  rw [List.getD_eq_getElem?_getD, List.getElem?_eq_getElem (by rw [distF_length]; exact hj)]
  exact List.getElem_mem _

theorem join_short (M : Nat) : ∀ P : List (List UInt8), (∀ s ∈ P, s.length ≤ M) → (Lib.join P [47]).length ≤ P.length * (M + 1)
  | [], _ => by rw [Lib.join_nil]; simp
  | [x], h => by rw [Lib.join_one]; have := h x (by simp); simp; omega
  | x :: y :: r, h => by
    have h1 := join_short M (y :: r) (fun s hs => h s (List.mem_cons_of_mem _ hs))
    have h2 := h x (by simp)
    rw [join_two, List.length_append, List.length_cons, List.length_cons, Nat.add_mul]
    omega

theorem joinV_any (P : List ByteArray) (pv : Value) (B : Nat) (w : World) (hP : OwnTx w B pv P.length P) (hl : P.length ≤ 90) (hs : ∀ s ∈ P, s.size ≤ 1000000) :
    Calls Tryz.prog 38 #[pv, .string ⟨#[47]⟩] w fun e w' => e = .returned (.string (joinB P)) ∧ Below w.heap.size w w' := by
  have hl2 : (Lib.join (P.map (·.data.toList)) [47]).length ≤ 140737488355328 := by
    have h1 := join_short 1000000 (P.map (·.data.toList)) (fun s h => by
      obtain ⟨y, hy, rfl⟩ := List.mem_map.1 h
      have e : y.data.toList.length = y.size := Array.length_toList
      rw [e]; exact hs y hy)
    rw [List.length_map] at h1
    have : P.length * (1000000 + 1) ≤ 90 * 1000001 := Nat.mul_le_mul_right _ hl
    omega
  obtain ⟨_, ⟨e, h0⟩ | ⟨g, cap, cur, e, _, hg, hc, _, _, h4⟩⟩ := id hP
  · subst e
    obtain rfl : P = [] := List.eq_nil_of_length_eq_zero h0
    refine (Tryz.strings_Join_none none 0 ⟨#[47]⟩ w).mono ?_
    rintro e w' ⟨rfl, rfl⟩
    exact ⟨rfl, Below.refl _ _⟩
  · subst e
    refine (Tryz.strings_Join g 0 cap P ⟨#[47]⟩ w (fun j x hx => ?_) (Array.getElem?_eq_some_iff.1 hg).1 (by omega) hc hl2).mono ?_
    · have hj : j < P.length := (List.getElem?_eq_some_iff.1 hx).1
      have := World.ownsRow.cellAt hP j (by omega)
      rw [Nat.zero_add, this]
      simp [hx, List.getElem?_eq_some_iff.1 hx]
    · rintro e w' ⟨rfl, hb⟩
      exact ⟨rfl, hb⟩


set_option maxRecDepth 100000 in
set_option maxHeartbeats 4000000 in
theorem pathC_any (l : List NodeT) (a : Option Addr) (n c : Nat) (x y : Int) (w : World) (hn : n ≤ 90) (hz : ∀ k, k < n → (nL l k).2.2.1.size ≤ 65536 ∧ (nL l k).2.2.2.size ≤ maxLen) (hI : NodesAt w a n l) (hG : Glob8 w) (D : Bool) (hD : D = true ↔ MayV l)
    (S : ByteArray) (E : Int) (hE : if D = true then PathE (linesP l) (x, y) S E else (S = ⟨#[]⟩ ∧ E = 1)) :
    Calls Tryz.prog 17 #[.slice a n c, .agg #[.int .i64 x, .int .i64 y]] w fun e w' => e = .returned (.tuple #[.string S, .int .i64 E]) ∧ Below w.heap.size w w' := by
  obtain ⟨W0, hW0⟩ : ∃ W0, w.alloc (.cells #[.int .i64 x, .int .i64 y] 36) = W0 := ⟨_, rfl⟩
  obtain ⟨g, hg⟩ : ∃ g, w.heap.size = g := ⟨_, rfl⟩
  have hb0 : Below w.heap.size w W0 := by rw [← hW0]; exact below_new _ _
  have hbk : Blk W0 36 g #[.int .i64 x, .int .i64 y] := by rw [← hW0, ← hg]; exact Blk.new _ _ _
  have CS : Hid (Calls _ _ _ _ _) := seekP_any l a n c W0 hn hz (hI.below hb0) (hG.below hb0) D hD g (fun p _ => decide (p = (x, y))) (fun t u P pv W hW _ _ => path1_any t u x y pv g W _ rfl (hbk.on hW))
  have HB0 : Hid (Below w.heap.size w W0) := hb0
  have HSt : Hid (D = true → StepsL 0 (linesP l) ∧ (linesP l).length ≤ 90 ∧ ∀ s ∈ linesP l, s.2.2.1.size ≤ 1000000) := fun h => ⟨show_steps l _ _ _ (Int.le_refl _), Nat.le_trans (linesP_len (hD.1 h)) (by rw [hI.1]; exact hn), fun s hs => Nat.le_trans (lines_size (M := 65536) (fun k hk => (hz k (by rw [← hI.1]; exact hk)).1) s hs) (by omega)⟩
  have HE : Hid (if D = true then PathE (linesP l) (x, y) S E else (S = ⟨#[]⟩ ∧ E = 1)) := hE
  obtain ⟨R, hR⟩ : ∃ R, linesP l = R := ⟨_, rfl⟩
  rw [hR] at CS HSt HE
  have HW0 : Hid (w.alloc (.cells #[.int .i64 x, .int .i64 y] 36) = W0) := hW0
  have HGg : Hid (w.heap.size = g) := hg
  clear hz hI hG hD hE hR hbk hb0 hW0 hg
  go_enter Tryz.func17, Tryz.ntmps17
  go_wp2_with fail
  rw [HW0.out, HGg.out]
  refine CS.out.mono ?_
  rintro e w2 ⟨⟨t, u, pv, F, rfl, hc⟩, hb2⟩
  have HB2 : Hid (Below w.heap.size w w2) := below_step HB0.out (Nat.le_refl _) hb2
  clear CS hb2
  rcases hc with ⟨rfl, rfl, rfl, rfl, rfl⟩ | ⟨rfl, hno, rfl, rfl, rfl, rfl⟩ | ⟨rfl, i, hi, hyes, hno, hid, hOP, rfl⟩
  · have h := HE.out
    rw [if_neg (by simp)] at h
    obtain ⟨rfl, rfl⟩ := h
    have hOP : OwnTx w2 W0.heap.size (.slice none 0 0) ([] : List ByteArray).length [] := OwnTx.nil _ _
    have hPl : ([] : List ByteArray).length ≤ 90 := by decide
    have hPs : ∀ s ∈ ([] : List ByteArray), s.size ≤ 1000000 := fun s hs => by cases hs
    have hJ : joinB [] = ⟨#[]⟩ := rfl
    have hbx : Below w2.heap.size w2 (w2.alloc (.cells #[.int .i64 0, .int .i64 0] 36)) := below_new _ _
    obtain ⟨w3, hw3⟩ : ∃ w3, w2.alloc (.cells #[.int .i64 0, .int .i64 0] 36) = w3 := ⟨_, rfl⟩
    rw [hw3] at hbx
    have HW3 : Hid (w2.alloc (.cells #[.int .i64 0, .int .i64 0] 36) = w3) := hw3
    have CJ : Hid (Calls _ _ _ _ _) := joinV_any [] (.slice none 0 0) W0.heap.size w3 (owns_on hOP hbx) hPl hPs
    have HB3 : Hid (Below w.heap.size w w3) := below_step HB2.out (Nat.le_refl _) hbx
    rw [hJ] at CJ
    clear hOP hPl hPs hbx hw3
    go_wp2_with fail
    rw [HW3.out]
    refine CJ.out.mono ?_
    rintro e w4 ⟨rfl, hb4⟩
    have HB4 : Hid (Below w.heap.size w w4) := below_step HB3.out (Nat.le_refl _) hb4
    clear CJ hb4
    go_wp2_with fail
    go_ret2
    exact ⟨rfl, HB4.out⟩
  · have h := HE.out
    rw [if_pos rfl] at h
    obtain ⟨rfl, rfl⟩ := h.no (fun j hj => of_decide_eq_false (hno j hj))
    have hOP : OwnTx w2 W0.heap.size (.slice none 0 0) ([] : List ByteArray).length [] := OwnTx.nil _ _
    have hPl : ([] : List ByteArray).length ≤ 90 := by decide
    have hPs : ∀ s ∈ ([] : List ByteArray), s.size ≤ 1000000 := fun s hs => by cases hs
    have hJ : joinB [] = ⟨#[]⟩ := rfl
    have hbx : Below w2.heap.size w2 (w2.alloc (.cells #[.int .i64 0, .int .i64 0] 36)) := below_new _ _
    obtain ⟨w3, hw3⟩ : ∃ w3, w2.alloc (.cells #[.int .i64 0, .int .i64 0] 36) = w3 := ⟨_, rfl⟩
    rw [hw3] at hbx
    have HW3 : Hid (w2.alloc (.cells #[.int .i64 0, .int .i64 0] 36) = w3) := hw3
    have CJ : Hid (Calls _ _ _ _ _) := joinV_any [] (.slice none 0 0) W0.heap.size w3 (owns_on hOP hbx) hPl hPs
    have HB3 : Hid (Below w.heap.size w w3) := below_step HB2.out (Nat.le_refl _) hbx
    rw [hJ] at CJ
    clear hOP hPl hPs hbx hw3
    go_wp2_with fail
    rw [HW3.out]
    refine CJ.out.mono ?_
    rintro e w4 ⟨rfl, hb4⟩
    have HB4 : Hid (Below w.heap.size w w4) := below_step HB3.out (Nat.le_refl _) hb4
    clear CJ hb4
    go_wp2_with fail
    go_ret2
    exact ⟨rfl, HB4.out⟩
  · have h := HE.out
    rw [if_pos rfl] at h
    obtain ⟨hSt, hRl, hRs⟩ := HSt.out rfl
    obtain ⟨hS, rfl⟩ := h.yes hi (of_decide_eq_true hyes) (fun j hj => of_decide_eq_false (hno j hj))
    have hJ : joinB (placeF R (i + 1)) = S := by rw [hS]; exact (path_join hSt i hi).symm
    have hPs : ∀ s ∈ placeF R (i + 1), s.size ≤ 1000000 := fun s hs => by
      obtain ⟨z, hz, rfl⟩ := place_mem R (i + 1) (by omega) s hs
      exact hRs z hz
    have hPl : (placeF R (i + 1)).length ≤ 90 := by
      have : ∀ j, (placeF R j).length ≤ j := fun j => by
        induction j with
        | zero => exact Nat.le_refl _
        | succ j ih =>
          show ((placeF R j).take _ ++ [_]).length ≤ _
          rw [List.length_append, List.length_take]
          simp only [List.length_cons, List.length_nil]
          omega
      exact Nat.le_trans (this (i + 1)) (by omega)
    obtain ⟨PL, hPL⟩ : ∃ PL, placeF R (i + 1) = PL := ⟨_, rfl⟩
    rw [hPL] at hOP hPl hPs hJ
    clear hPL hS hyes hno h hSt hRs
    have hbx : Below w2.heap.size w2 (w2.alloc (.cells #[.int .i64 t, .int .i64 u] 36)) := below_new _ _
    obtain ⟨w3, hw3⟩ : ∃ w3, w2.alloc (.cells #[.int .i64 t, .int .i64 u] 36) = w3 := ⟨_, rfl⟩
    rw [hw3] at hbx
    have HW3 : Hid (w2.alloc (.cells #[.int .i64 t, .int .i64 u] 36) = w3) := hw3
    have CJ : Hid (Calls _ _ _ _ _) := joinV_any PL pv W0.heap.size w3 (owns_on hOP hbx) hPl hPs
    have HB3 : Hid (Below w.heap.size w w3) := below_step HB2.out (Nat.le_refl _) hbx
    rw [hJ] at CJ
    clear hOP hPl hPs hbx hw3
    go_wp2_with fail
    rw [HW3.out]
    refine CJ.out.mono ?_
    rintro e w4 ⟨rfl, hb4⟩
    have HB4 : Hid (Below w.heap.size w w4) := below_step HB3.out (Nat.le_refl _) hb4
    clear CJ hb4
    go_wp2_with fail
    go_ret2
    exact ⟨rfl, HB4.out⟩
end Go.Proofs.YtebnmghjdoblaaaGreatDoor

/- The code's Find (layer 12). -/
namespace Go.Proofs.YtebnmghjdoblaaaGreatDoor
open Go.RowKit
set_option linter.unusedSimpArgs false

/-- The library's own number of bytes up to which it seeks by itself is some number. -/
def MaxL (w : World) : Prop := ∃ m, w.cell? ⟨2, 0, none⟩ = some (.int .i64 m)
theorem MaxL.below {w w' : World} (h : MaxL w) (hb : Below w.heap.size w w') : MaxL w' := by
  obtain ⟨m, hm⟩ := h
  exact ⟨m, by rw [hb.cell (p := ⟨2, 0, none⟩) (World.block_lt_of_cell? w _ hm)]; exact hm⟩

theorem strs_cells (w : World) (NS : List ByteArray) (N : Nat) (t : TypeId) : StrsAt (w.alloc (.cells (Lib.cellsOf NS N) t)) (some ⟨w.heap.size, 0, none⟩) NS.length NS := by
  refine ⟨rfl, .inr ⟨w.heap.size, 0, rfl, fun i hi => ?_⟩⟩
  have hg : (w.alloc (.cells (Lib.cellsOf NS N) t)).heap[w.heap.size]? = some (.cells (Lib.cellsOf NS N) t (0, 0)) := heap_alloc_last w _
  rw [Lib.cell_of_heap hg, Nat.zero_add]
  unfold Lib.cellsOf strL
  rw [List.getElem?_toArray, List.getElem?_append_left (by rw [List.length_map]; exact hi), List.getElem?_map, List.getElem?_eq_getElem hi, List.getD_eq_getElem?_getD, List.getElem?_eq_getElem hi]
  rfl


set_option maxRecDepth 100000 in
set_option maxHeartbeats 8000000 in
theorem findC_any (l : List NodeT) (a : Option Addr) (n c : Nat) (p : ByteArray) (w : World) (hn : n ≤ 90) (hz : ∀ k, k < n → (nL l k).2.2.1.size ≤ 65536 ∧ (nL l k).2.2.2.size ≤ maxLen) (hI : NodesAt w a n l) (hG : Glob8 w) (hM : MaxL w) (hp : p.size < 4294967281) (D : Bool) (hD : D = true ↔ MayV l)
    (id : Int × Int) (E : Int) (hE : if D = true then (if p.size = 0 then (id = (0, 0) ∧ E = 0) else FindV (linesP l) p id E) else (id = (0, 0) ∧ E = 1)) :
    Calls Tryz.prog 19 #[.slice a n c, .string p] w fun e w' => e = .returned (.tuple #[.agg #[.int .i64 id.1, .int .i64 id.2], .int .i64 E]) ∧ Below w.heap.size w w' := by
  obtain ⟨x, y⟩ := id
  obtain ⟨W1, hW1⟩ : ∃ W1, w.alloc (.cells #[.int .i64 0, .int .i64 0] 36) = W1 := ⟨_, rfl⟩
  obtain ⟨h, hh⟩ : ∃ h, w.heap.size = h := ⟨_, rfl⟩
  have hb1 : Below w.heap.size w W1 := by rw [← hW1]; exact below_new _ _
  have HS1 : Hid (Blk W1 36 h #[.int .i64 0, .int .i64 0]) := by show Blk _ _ _ _; rw [← hW1, ← hh]; exact Blk.new _ _ _
  have HLo : Hid (w.heap.size ≤ h) := by show _ ≤ _; omega
  have HB1 : Hid (Below w.heap.size w W1) := hb1
  have HW1 : Hid (w.alloc (.cells #[.int .i64 0, .int .i64 0] 36) = W1) := hW1
  have HH : Hid (w.heap.size = h) := hh
  by_cases hp0 : p.size = 0
  · obtain rfl : p = ⟨#[]⟩ := bt_ext _ _ hp0 (fun i hi => by omega)
    have hxy : x = 0 ∧ y = 0 ∧ E = if D = true then 0 else 1 := by
      cases D with
      | false => rw [if_neg (by simp)] at hE; rw [if_neg (by simp)]; obtain ⟨h1, h2⟩ := hE; cases h1; exact ⟨rfl, rfl, h2⟩
      | true => rw [if_pos rfl, if_pos hp0] at hE; rw [if_pos rfl]; obtain ⟨h1, h2⟩ := hE; cases h1; exact ⟨rfl, rfl, h2⟩
    obtain ⟨rfl, rfl, hEe⟩ := hxy
    have CC : Hid (∀ W, Below w.heap.size w W → Calls Tryz.prog 15 #[.slice a n c] W fun e w' => e = .returned (.int .i64 E) ∧ Below W.heap.size W w') := by
      rw [hEe]
      exact fun W hW => checkC_any l a n c W (by omega) (fun k hk => ⟨Nat.le_trans (hz k hk).1 (by decide), (hz k hk).2⟩) (hI.below hW) (hG.below hW) D hD
    clear hz hI hG hM hp hD hE hEe hp0 hW1 hh hb1
    go_enter Tryz.func19, Tryz.ntmps19
    go_wp2_with fail
    rw [HW1.out, HH.out]
    refine (rootV_any W1).mono ?_
    rintro e w2 ⟨rfl, hb2⟩
    have HS2 : Hid (Blk w2 36 h #[.int .i64 0, .int .i64 0]) := HS1.out.on hb2
    have HB2 : Hid (Below w.heap.size w w2) := below_step HB1.out (Nat.le_refl _) hb2
    clear hb2
    go_wp2_with fail
    refine (CC.out w2 HB2.out).mono ?_
    rintro e w3 ⟨rfl, hb3⟩
    have X1 : Blk w3 36 h #[.int .i64 0, .int .i64 0] := HS2.out.on hb3
    have HBz : Hid (Below w.heap.size w w3) := below_step HB2.out (Nat.le_refl _) hb3
    clear hb3 CC
    go_wp2_with (with_reducible refine wpList_storeBlk rfl 36 _ _ rfl h #[.int .i64 0, .int .i64 0] #[.int .i64 0, .int .i64 0] (by with_unfolding_all rfl) (by with_unfolding_all rfl) X1 rfl (by kernel_rfl) (by simp [Value.oneCell']) ?_)
    exact bodyPost_rowTmp rfl h _ _ rfl rfl rfl (X1.setRow _) _ Tryz.underlying36 rfl (by kernel_rfl) ⟨rfl, below_setRow HBz.out HLo.out _⟩
  · have h1 : ¬ p = ⟨#[]⟩ := fun e => hp0 (by rw [e]; rfl)
    have h4 : ¬ p.toList = [] := fun e => h1 (bytes_ext (by rw [toList_data] at e; exact e))
    have h3 : (p.toList == []) = false := by rw [beq_eq_false_iff_ne]; exact h4
    have h5 : p.toList.isEmpty = false := by cases hh : p.toList with | nil => exact absurd hh h4 | cons => rfl
    have hE' : if D = true then FindV (linesP l) p (x, y) E else ((x, y) = (0, 0) ∧ E = 1) := by
      cases D with
      | false => rw [if_neg (by simp)] at hE ⊢; exact hE
      | true => rw [if_pos rfl, if_neg hp0] at hE; rw [if_pos rfl]; exact hE
    obtain ⟨mx, hmx⟩ := hM.below hb1
    have CSp' := Tryz.strings_SplitN p ⟨#[47]⟩ 513 mx W1 hp hmx (by decide) (by decide) (by decide)
    have hsp := fun P h0 h1 h2 => place_split p P h0 h1 h2
    obtain ⟨NS, hNS⟩ : ∃ NS, Lib.splitB ⟨#[47]⟩ 0 (min 513 (p.size + 1) - 1) p = NS := ⟨_, rfl⟩
    obtain ⟨NC, hNC⟩ : ∃ NC, min 513 (p.size + 1) = NC := ⟨_, rfl⟩
    have hNl : NS.length ≤ 100000 := by
      rw [← hNS]
      have := Lib.splitB_length_le ⟨#[47]⟩ 0 (min 513 (p.size + 1) - 1) p
      omega
    rw [hNS] at CSp'
    simp only [hNS] at hsp
    rw [hNC] at CSp'
    have hW2b := below_new W1 (.cells (Lib.cellsOf NS NC) 9)
    have hst := strs_cells W1 NS NC 9
    obtain ⟨W2, hW2⟩ : ∃ W2, W1.alloc (.cells (Lib.cellsOf NS NC) 9) = W2 := ⟨_, rfl⟩
    rw [hW2] at hW2b hst CSp'
    obtain ⟨k1, hk1⟩ : ∃ k1, W1.heap.size = k1 := ⟨_, rfl⟩
    rw [hk1] at hst CSp'
    have CSp : Hid (Calls _ _ _ _ _) := CSp'
    have hW3b := below_new W2 (.cells #[.slice (some ⟨k1, 0, none⟩) NS.length NC] 67)
    have hbk := Blk.new W2 67 #[.slice (some ⟨k1, 0, none⟩) NS.length NC]
    obtain ⟨W3, hW3⟩ : ∃ W3, W2.alloc (.cells #[.slice (some ⟨k1, 0, none⟩) NS.length NC] 67) = W3 := ⟨_, rfl⟩
    rw [hW3] at hW3b hbk
    have HW3 : Hid (W2.alloc (.cells #[.slice (some ⟨k1, 0, none⟩) NS.length NC] 67) = W3) := hW3
    have hb3 : Below w.heap.size w W3 := below_step (below_step hb1 (Nat.le_refl _) hW2b) (Nat.le_refl _) hW3b
    have CS : Hid (Calls _ _ _ _ _) := seekF_any l a n c W3 hn hz (hI.below hb3) (hG.below hb3) D hD W2.heap.size (fun _ P => decide (P = NS)) (fun t u P pv W hW hPl hP => find1_any t u P NS pv _ W3.heap.size W2.heap.size W _ rfl hP (by omega) (some ⟨k1, 0, none⟩) NC rfl ((hst.below hW3b).below hW) (hbk.on hW))
    have HS3 : Hid (Blk W3 36 h #[.int .i64 0, .int .i64 0]) := (HS1.out.on hW2b).on hW3b
    have HB3 : Hid (Below w.heap.size w W3) := hb3
    have HSt : Hid (D = true → StepsL 0 (linesP l) ∧ (linesP l).length ≤ 90 ∧ ∀ s ∈ linesP l, NoSl s.2.2.1) := fun h => ⟨show_steps l _ _ _ (Int.le_refl _), Nat.le_trans (linesP_len (hD.1 h)) (by rw [hI.1]; exact hn), lines_noSl (hD.1 h) (by rw [hI.1]; exact hn)⟩
    have HE : Hid (if D = true then FindV (linesP l) p (x, y) E else ((x, y) = (0, 0) ∧ E = 1)) := hE'
    obtain ⟨R, hR⟩ : ∃ R, linesP l = R := ⟨_, rfl⟩
    rw [hR] at CS HSt HE
    have HIff : Hid (D = true → ∀ j, j < R.length → (placeF R (j + 1) = NS ↔ pathB R j = p)) := fun hDt j hj => by
      obtain ⟨s1, s2, s3⟩ := HSt.out hDt
      have hpl : ∀ i, (placeF R i).length ≤ i := fun i => by
        induction i with
        | zero => exact Nat.le_refl _
        | succ i ih =>
          show ((placeF R i).take _ ++ [_]).length ≤ _
          rw [List.length_append, List.length_take]
          simp only [List.length_cons, List.length_nil]
          omega
      rw [path_join s1 j hj, ← hsp (placeF R (j + 1)) (by show _ ++ [_] ≠ []; simp) (fun s hs => by
        obtain ⟨z, hz, rfl⟩ := place_mem R (j + 1) (by omega) s hs
        exact s3 z hz) (by have := hpl (j + 1); omega)]
      exact eq_comm
    generalize NS.length = nl at *
    clear hz hI hG hM hp hD hE hE' hR hbk hb1 hW1 hh hst hsp hNS hNC hW2b hW3b hW3 CSp' hmx hk1 hb3 HSt hp0
    clear hW2
    go_enter Tryz.func19, Tryz.ntmps19
    go_wp2_with fail
    rw [HW1.out, HH.out]
    refine CSp.out.mono ?_
    rintro e w2 ⟨rfl, hw2⟩
    rw [hw2]
    clear hw2 w2 CSp
    go_wp2_with fail
    rw [HW3.out]
    refine CS.out.mono ?_
    rintro e w4 ⟨⟨t, u, pv, F, rfl, hc⟩, hb4⟩
    have HB4 : Hid (Below w.heap.size w w4) := below_step HB3.out (Nat.le_refl _) hb4
    have HS4 : Hid (Blk w4 36 h #[.int .i64 0, .int .i64 0]) := HS3.out.on hb4
    have hres : t = x ∧ u = y ∧ F = E := by
      rcases hc with ⟨rfl, rfl, rfl, _, rfl⟩ | ⟨rfl, hno, rfl, rfl, _, rfl⟩ | ⟨rfl, i, hi, hyes, hno, hid, _, rfl⟩
      · have h := HE.out
        rw [if_neg (by simp)] at h
        obtain ⟨e1, rfl⟩ := h
        cases e1
        exact ⟨rfl, rfl, rfl⟩
      · have h := HE.out
        rw [if_pos rfl] at h
        obtain ⟨e1, rfl⟩ := h.no (fun j hj e => of_decide_eq_false (hno j hj) ((HIff.out rfl j hj).2 e))
        cases e1
        exact ⟨rfl, rfl, rfl⟩
      · have h := HE.out
        rw [if_pos rfl] at h
        obtain ⟨e1, rfl⟩ := h.yes hi ((HIff.out rfl i hi).1 (of_decide_eq_true hyes)) (fun j hj e => of_decide_eq_false (hno j hj) ((HIff.out rfl j (by omega)).2 e))
        rw [hid] at e1
        cases e1
        exact ⟨rfl, rfl, rfl⟩
    obtain ⟨rfl, rfl, rfl⟩ := hres
    have hbx := below_new w4 (.cells #[.int .i64 t, .int .i64 u] 36)
    have hb9 := Blk.new w4 36 #[.int .i64 t, .int .i64 u]
    obtain ⟨w5, hw5⟩ : ∃ w5, w4.alloc (.cells #[.int .i64 t, .int .i64 u] 36) = w5 := ⟨_, rfl⟩
    rw [hw5] at hbx hb9
    have X0 : Blk (w4.alloc (.cells #[.int .i64 t, .int .i64 u] 36)) 36 h #[.int .i64 0, .int .i64 0] := by rw [hw5]; exact HS4.out.on hbx
    have HBz : Hid (Below w.heap.size w (w4.alloc (.cells #[.int .i64 t, .int .i64 u] 36))) := by show Below _ _ _; rw [hw5]; exact below_step HB4.out (Nat.le_refl _) hbx
    have X1 := X0
    clear hc hb4 HS3 HB3 hb9 hbx hw5 CS HE
    go_wp2_with (with_reducible refine wpList_storeBlk rfl 36 _ _ rfl h #[.int .i64 0, .int .i64 0] #[.int .i64 t, .int .i64 u] (by with_unfolding_all rfl) (by with_unfolding_all rfl) X1 rfl (by kernel_rfl) (by simp [Value.oneCell']) ?_)
    exact bodyPost_rowTmp rfl h _ _ rfl rfl rfl (X1.setRow _) _ Tryz.underlying36 rfl (by kernel_rfl) ⟨rfl, below_setRow HBz.out HLo.out _⟩
end Go.Proofs.YtebnmghjdoblaaaGreatDoor
