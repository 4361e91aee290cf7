import Derived.Test.YtfbgofbjbfidoaaDoorPadsWalk
namespace Go.Proofs.YtfbgofbjbfidoaaDoor
open Go.RowKit
set_option linter.unusedSimpArgs false

theorem bt_eq (s : ByteArray) (j : Nat) : bt s j = ((s.data[j]?).getD 0).toNat := by
  unfold bt
  rw [List.getD_eq_getElem?_getD]
  simp
theorem bt_extract (s : ByteArray) (a b j : Nat) (h : a + j < b) (hb : b ≤ s.size) : bt (s.extract a b) j = bt s (a + j) := by
  have hb' : b ≤ s.data.size := hb
  rw [bt_eq, bt_eq, ByteArray.data_extract, Array.getElem?_extract]
  rw [if_pos (by omega)]
theorem bt_append_left (s t : ByteArray) (j : Nat) (h : j < s.size) : bt (s ++ t) j = bt s j := by
  have h' : j < s.data.size := h
  rw [bt_eq, bt_eq, ByteArray.data_append, Array.getElem?_append_left h']
theorem bt_append_right (s t : ByteArray) (j : Nat) : bt (s ++ t) (s.size + j) = bt t j := by
  rw [bt_eq, bt_eq, ByteArray.data_append, Array.getElem?_append_right (by show s.data.size ≤ s.data.size + j; omega)]
  rw [show s.size + j - s.data.size = j by show s.data.size + j - s.data.size = j; omega]

section
variable {P : Program} {ops : Array Oper} {o : Oper} {a : Act} {w : World} {K' : Act → World → Prop} {Q : Exit → Act → World → Prop} {E : Prop}
/-- A whole array read, and written, at a step of a region that draws its order. -/
theorem step_loadArr {d : Tmp} (hgd : o.guard = none) (hd : o.dst = some d) (t : TypeId) (x : Operand) (ho : o.op = .load t x) (g : Nat) (l : List Nat) (hx : a.eval x = .pointer (some ⟨g, 0, none⟩)) (h : Arr w t g l)
    (n : Nat) (e : TypeId) (hu : P.underlying t = some (.array n e)) (hi : (P.info? t).map (·.size) = some l.length) (hk : K' (a.put (some d) (.agg (vals l))) w) :
    if Region.wanted o (yielded ops a.tmps) = true then Oper.wp P o a w K' Q else E := by
  rw [if_pos (by simp [Region.wanted, hgd])]
  unfold Oper.wp execOp
  simp only [ho, hx, Instr.loadAt, Instr.sureAddr, Sem.run_bind, Sem.run_pure, Result.andThen_ok, run_loadArr t g l h n e hu hi]
  show K' (a.put o.dst _) w
  rw [hd]; exact hk
theorem step_storeArr (hgd : o.guard = none) (hd : o.dst = none) (t : TypeId) (x y : Operand) (ho : o.op = .store t x y) (g : Nat) (l l' : List Nat) (hx : a.eval x = .pointer (some ⟨g, 0, none⟩)) (hy : a.eval y = .agg (vals l')) (h : Arr w t g l) (hl : l.length = l'.length)
    (hi : (P.info? t).map (·.size) = some l.length) (hk : K' (a.put none undef) (w.setRow g (vals l'))) :
    if Region.wanted o (yielded ops a.tmps) = true then Oper.wp P o a w K' Q else E := by
  rw [if_pos (by simp [Region.wanted, hgd])]
  unfold Oper.wp execOp
  have := run_storeVar_row (P := P) w g t t (vals l) (vals l') h (by rw [vals_size, ← hl]; exact hi) (by rw [vals_size, vals_size, hl]) (vals_one l')
  simp only [ho, hx, hy, Instr.storeAt, Instr.sureAddr, Sem.run_bind, Sem.run_pure, Result.andThen_ok, this]
  show K' (a.put o.dst _) _
  rw [hd]; exact hk
end

theorem Arr.cast {w : World} {t : TypeId} {g : Nat} {l l' : List Nat} (e : l = l') (h : Arr w t g l) : Arr w t g l' := e ▸ h

set_option maxRecDepth 100000 in
set_option maxHeartbeats 4000000 in
theorem behindAll_any (x : List Nat) (s : ByteArray) (w : World) (hx : x.length = 8) (ho : Ok x) (hs : s.size ≤ 1048576) (hK : GlobK w) :
    Calls Tryd.prog 20 #[.agg (vals x), .string s] w fun e w' => e = .returned (.agg (vals (foldN (bt s) x (s.size / 64)))) ∧ Below w.heap.size w w' := by
  have HK : Hid (GlobK w) := hK
  have HL : Hid (∀ k, (foldN (bt s) x k).length = 8) := foldN_length (bt s) x hx
  have HO : Hid (∀ k, Ok (foldN (bt s) x k)) := foldN_ok (bt s) x ho
  have HS : Hid (∀ k, foldN (bt s) x (k + 1) = _) := foldN_succ (bt s) x
  obtain ⟨m, HM⟩ : ∃ m, Hid (m = s.size / 64) := ⟨_, rfl⟩
  have hm : (s.size : Int) / 64 = (m : Int) := by rw [HM.out]; omega
  have hm2 : m ≤ 1048576 := by omega
  obtain ⟨F, HF⟩ : ∃ F : Nat → List Nat, Hid (F = foldN (bt s) x) := ⟨_, rfl⟩
  rw [← HF.out] at HL HO HS
  have HS' : Hid (∀ k, F (k + 1) = behindN (F k) (fun j => bt s (64 * k + j))) := HS
  have H0 : Hid (F 0 = x) := by show _ = _; rw [HF.out]; rfl
  clear hK HS
  go_enter Tryd.func20, Tryd.ntmps20
  go_wp2_with fail
  have V0 : Hid (Arr _ 40 w.heap.size (F 0)) := Arr.cast H0.out.symm <| (Arr.new w 40 x _ rfl).alloc (.cells #[.int .u32 0, .int .u32 0, .int .u32 0, .int .u32 0, .int .u32 0, .int .u32 0, .int .u32 0, .int .u32 0] 40)
  have V1 : Hid (Arr _ 40 (w.heap.size + 1) (tabN 8 (fun _ => 0))) := Arr.new' (w.alloc (.cells (vals x) 40)) 40 (tabN 8 (fun _ => 0)) #[.int .u32 0, .int .u32 0, .int .u32 0, .int .u32 0, .int .u32 0, .int .u32 0, .int .u32 0, .int .u32 0] (w.heap.size + 1) (by simp) (by kernel_rfl)
  have V2 : Below w.heap.size w _ := (below_new w (.cells (vals x) 40)).alloc (by simp) (.cells #[.int .u32 0, .int .u32 0, .int .u32 0, .int .u32 0, .int .u32 0, .int .u32 0, .int .u32 0, .int .u32 0] 40)
  go_loopw [9] (fun i wr => ∃ k : Nat, k ≤ m ∧ i = .int .i64 k ∧ Hid (Arr wr 40 w.heap.size (F k)) ∧ Hid (Arr wr 40 (w.heap.size + 1) (tabN 8 (fun _ => 0))) ∧ Below w.heap.size w wr) (fun i _ => m - (intOf i).toNat)
  case atStart => exact ⟨0, by omega, rfl, V0, V1, V2⟩
  case round =>
    clear V0 V1 V2
    obtain ⟨k, hk, rfl, V0, V1, hbl⟩ := hrel
    by_cases hlt : k < m
    · obtain ⟨p, hp⟩ : ∃ p, p = 64 * k := ⟨_, rfl⟩
      obtain ⟨q, hq⟩ : ∃ q, q = 64 * k + 64 := ⟨_, rfl⟩
      have hms := HM.out
      have hqs : q ≤ s.size := by omega
      have e1 : IntKind.i64.wrap ((k : Int) * 64) = (p : Int) := by rw [i64_small _ (by omega) (by omega)]; omega
      have e2 : IntKind.i64.wrap ((k : Int) + 1) = (k : Int) + 1 := by rw [i64_small _ (by omega) (by omega)]
      have e3 : IntKind.i64.wrap (((k : Int) + 1) * 64) = (q : Int) := by rw [i64_small _ (by omega) (by omega)]; omega
      have b1 : (p : Int) ≤ (q : Int) := by omega
      have b2 : (q : Int) ≤ (s.size : Int) := by omega
      have hes : (s.extract p q).size = 64 := by rw [ByteArray.size_extract]; omega
      have CB : Hid (∀ w, GlobK w → _) := fun w h => behind_any (F k) (s.extract p q) w (HL.out k) (HO.out k) hes h
      have HN : Hid (behindN (F k) (bt (s.extract p q)) = F (k + 1)) := by
        show _ = _
        rw [HS'.out k]
        exact behindN_congr _ _ _ (fun j hj => by rw [bt_extract s p q j (by omega) hqs, hp])
      have hKr : Hid (GlobK wr) := HK.out.below hbl
      clear hms hes hp hq
      have b0 : (k : Int) < (m : Int) := by omega
      go_wp2_with fail
      refine wp_region_noPanic ?_
      refine wp_region_held_drew (S := fun _ => True) (by kernel_rfl) (by first | exact trivial | assumption | exact ⟨by assumption, by assumption⟩) (fun hHeld => ?_)
      refine take_at (i := 1) (v := ?_) rfl rfl (by kernel_rfl) (by kernel_rfl) (by kernel_rfl) (fun _ _ _ h => h) (Or.inl ⟨by rfl, ?_⟩) (by assumption) ?_
      rotate_left
      · intro w hSw; (try dsimp only at hSw); go_simp; try with_reducible rfl
      try simp only [Act.put, List.setIfInBounds_toArray, List.set_cons_zero, List.set_cons_succ]
      refine take_at (i := 2) (v := ?_) rfl rfl (by kernel_rfl) (by kernel_rfl) (by kernel_rfl) (fun _ _ _ h => h) (Or.inl ⟨by rfl, ?_⟩) (by assumption) ?_
      rotate_left
      · intro w hSw; (try dsimp only at hSw); go_simp; try with_reducible rfl
      try simp only [Act.put, List.setIfInBounds_toArray, List.set_cons_zero, List.set_cons_succ]
      refine take_at (i := 3) (v := ?_) rfl rfl (by kernel_rfl) (by kernel_rfl) (by kernel_rfl) (fun _ _ _ h => h) (Or.inl ⟨by rfl, ?_⟩) (by assumption) ?_
      rotate_left
      · intro w hSw; (try dsimp only at hSw); go_simp; try with_reducible rfl
      try simp only [Act.put, List.setIfInBounds_toArray, List.set_cons_zero, List.set_cons_succ]
      refine take_at (i := 4) (v := ?_) rfl rfl (by kernel_rfl) (by kernel_rfl) (by kernel_rfl) (fun _ _ _ h => h) (Or.inl ⟨by rfl, ?_⟩) (by assumption) ?_
      rotate_left
      · intro w hSw; (try dsimp only at hSw); go_simp; try with_reducible rfl
      try simp only [Act.put, List.setIfInBounds_toArray, List.set_cons_zero, List.set_cons_succ]
      refine take_at (i := 5) (v := ?_) rfl rfl (by kernel_rfl) (by kernel_rfl) (by kernel_rfl) (fun _ _ _ h => h) (Or.inl ⟨by rfl, ?_⟩) (by assumption) ?_
      rotate_left
      · intro w hSw; (try dsimp only at hSw); go_simp; try with_reducible rfl
      try simp only [Act.put, List.setIfInBounds_toArray, List.set_cons_zero, List.set_cons_succ]
      refine take_at (i := 6) (v := ?_) rfl rfl (by kernel_rfl) (by kernel_rfl) (by kernel_rfl) (fun _ _ _ h => h) (Or.inl ⟨by rfl, ?_⟩) (by assumption) ?_
      rotate_left
      · intro w hSw; (try dsimp only at hSw); go_simp; try with_reducible rfl
      try simp only [Act.put, List.setIfInBounds_toArray, List.set_cons_zero, List.set_cons_succ]
      refine take_at (i := 7) (v := ?_) rfl rfl (by kernel_rfl) (by kernel_rfl) (by kernel_rfl) (fun _ _ _ h => h) (Or.inl ⟨by rfl, ?_⟩) (by assumption) ?_
      rotate_left
      · intro w hSw; (try dsimp only at hSw); go_simp; try with_reducible rfl
      try simp only [Act.put, List.setIfInBounds_toArray, List.set_cons_zero, List.set_cons_succ]
      refine wpAnyH_ready (rs := [0]) (by kernel_rfl) (by simp) ?_
      refine AllReadyH.cons rfl (fun K hK => ?_) AllReadyH.nil
      refine step_loadArr rfl rfl 40 _ rfl w.heap.size (F k) rfl V0.out 8 39 Tryd.underlying40 (by rw [HL.out]; exact Tryd.arr8) ?_
      refine hK.out _ _ trivial (fun hHeld => ?_)
      clear hK K
      refine wpAnyH_ready (rs := [8]) (by kernel_rfl) (by simp) ?_
      refine AllReadyH.cons rfl (fun K hK => ?_) AllReadyH.nil
      go_simp
      refine (CB.out wr.drew hKr.out).mono ?_
      rintro e w2 ⟨rfl, hb2⟩
      rw [HN.out]
      refine hK.out _ _ trivial (fun hHeld => ?_)
      clear hK K
      refine wpAnyH_ready (rs := [9]) (by kernel_rfl) (by simp) ?_
      refine AllReadyH.cons rfl (fun K hK => ?_) AllReadyH.nil
      have V0' := Arr.below (w := wr.drew) V0.out hb2 V0.out.lt
      have V1' := Arr.below (w := wr.drew) V1.out hb2 V1.out.lt
      have hb2' : Below w.heap.size w w2 := below_step hbl.drew (Nat.le_refl _) hb2
      refine step_storeArr rfl rfl 40 _ _ rfl w.heap.size (F k) (F (k + 1)) rfl rfl V0' (by rw [HL.out, HL.out]) (by rw [HL.out]; exact Tryd.arr8) ?_
      refine hK.out _ _ trivial (fun hHeld => ?_)
      clear hK K
      refine wpAnyH_done (by kernel_rfl) (NoPanic.normal ?_) _
      have V0n : Hid (Arr _ 40 w.heap.size (F (k + 1))) := V0'.setRow (F (k + 1))
      have V1n : Hid (Arr _ 40 (w.heap.size + 1) _) := V1'.setRowOther w.heap.size (by omega) (vals (F (k + 1)))
      have hbn := below_setRow hb2' (Nat.le_refl _) (vals (F (k + 1)))
      clear V0' V1' hb2 hb2' hbl CB HN hKr
      try simp only [Act.put]
      go_wp2
      go_roundw
      case rel => exact ⟨k + 1, by omega, by go_num, V0n, V1n, hbn⟩
      case measure => simp [intOf]; omega
    · have hk' : k = m := by omega
      subst hk'
      have hl8 := HL.out k
      go_wp2_with (first
        | (with_reducible refine wpList_loadArr rfl 40 _ rfl w.heap.size (F k) ?hx V0.out 8 39 Tryd.underlying40 ?hi ?_)
        | (with_reducible refine wpList_storeArr rfl 40 _ _ rfl (w.heap.size + 1) (tabN 8 (fun _ => 0)) (F k) ?hx2 ?hy V1.out ?hl ?hi2 ?_))
      case hx => rfl
      case hi => rw [hl8]; exact Tryd.arr8
      case hl => rw [tabN_length, hl8]
      case hi2 => rw [tabN_length]; exact Tryd.arr8
      rw [← HM.out, ← HF.out]
      exact bodyPost_arr rfl (w.heap.size + 1) (F k) rfl rfl (V1.out.setRow (F k)) 8 39 Tryd.underlying40 (by rw [hl8]; exact Tryd.arr8) ⟨rfl, below_setRow hbl (by omega) _⟩
end Go.Proofs.YtfbgofbjbfidoaaDoor
