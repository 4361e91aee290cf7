/- Layer 20, the code's: Clone of members, isNext, counts, do. -/
import Derived.Test.YtkmdajenbidaaaaDoorGpB
import Derived.Test.YtkmdajenbidaaaaDoorRGpF
import Derived.Test.YtkmdajenbidaaaaDoorTA
import Derived.Lib.AppendZeros
namespace Go.Proofs.YtkmdajenbidaaaaDoor
open Go.RowKit
set_option maxRecDepth 100000
set_option linter.unusedSimpArgs false
set_option linter.unusedVariables false
set_option maxRecDepth 100000

/-- A row of six members in a block. -/
def RowM (w : World) (b c : Nat) (l : List MemT) : Prop := l.length = 6 ∧ 6 ≤ c ∧ c ≤ 9223372036854775807 ∧ ∃ cur, Blk w 42 b cur ∧ cur.size = c * 3 ∧ ∀ i, i < 6 → cur[i * 3]? = some (.int .i64 (mmL l i).1) ∧ cur[i * 3 + 1]? = some (.int .i64 (mmL l i).2.1) ∧ cur[i * 3 + 2]? = some (.bool (mmL l i).2.2)
theorem RowM.at {w : World} {b c : Nat} {l : List MemT} (h : RowM w b c l) : MmsAt w (some ⟨b, 0, none⟩) 6 l := by
  obtain ⟨h6, _, _, cur, hb, _, hc⟩ := h
  refine ⟨h6, .inr ⟨b, 0, rfl, fun i hi => ?_⟩⟩
  obtain ⟨a0, a1, a2⟩ := hc i hi
  rw [Nat.zero_add]
  exact ⟨by rw [hb.cell]; exact a0, by rw [hb.cell]; exact a1, by rw [hb.cell]; exact a2⟩
theorem RowM.lt {w : World} {b c : Nat} {l : List MemT} (h : RowM w b c l) : b < w.heap.size := by
  obtain ⟨_, _, _, cur, hb, _, hc⟩ := h
  exact hb.lt
theorem RowM.same {w w' : World} {b c : Nat} {l : List MemT} (h : RowM w b c l) (hs : w'.heap[b]? = w.heap[b]?) : RowM w' b c l := by
  obtain ⟨h6, h1, h2, cur, hb, hc⟩ := h
  exact ⟨h6, h1, h2, cur, by unfold Blk at *; rw [hs]; exact hb, hc⟩
theorem RowM.on {w w' : World} {b c : Nat} {l : List MemT} (h : RowM w b c l) (hb : Below w.heap.size w w') : RowM w' b c l := h.same (hb.block b h.lt)
theorem RowM.free {w : World} {b c : Nat} {l : List MemT} (h : RowM w b c l) (j : Nat) : w.frozen? ⟨b, j, none⟩ = false := by
  obtain ⟨_, _, _, cur, hb, _, hc⟩ := h
  exact hb.free j
theorem RowM.other {w : World} {b c : Nat} {l : List MemT} (h : RowM w b c l) (p : Addr) (hp : b ≠ p.block) (u : Value) : RowM (w.setCell p u) b c l := by
  obtain ⟨h6, h1, h2, cur, hb, hc⟩ := h
  exact ⟨h6, h1, h2, cur, hb.other p hp u, hc⟩
theorem mmL_set (l : List MemT) (k i : Nat) (x : MemT) (hk : k < l.length) : mmL (l.set k x) i = if i = k then x else mmL l i := by
  unfold mmL
  rw [List.getD_eq_getElem?_getD, List.getD_eq_getElem?_getD, List.getElem?_set]
  by_cases e : k = i
  · subst e; rw [if_pos rfl, if_pos hk, if_pos rfl]; rfl
  · rw [if_neg e, if_neg (fun h => e h.symm)]
theorem RowM.setN {w : World} {b c : Nat} {l : List MemT} (h : RowM w b c l) (k : Nat) (hk : k < 6) (y : Int) : RowM (w.setCell ⟨b, k * 3 + 1, none⟩ (.int .i64 y)) b c (l.set k ((mmL l k).1, y, (mmL l k).2.2)) := by
  obtain ⟨h6, h1, h2, cur, hb, hs, hc⟩ := h
  refine ⟨by rw [List.length_set]; exact h6, h1, h2, _, hb.setAt (k * 3 + 1) _, by rw [Array.size_setIfInBounds]; exact hs, fun i hi => ?_⟩
  rw [mmL_set l k i _ (by omega)]
  simp only [Array.getElem?_setIfInBounds]
  obtain ⟨a0, a1, a2⟩ := hc i hi
  by_cases e : i = k
  · subst e
    rw [if_pos rfl, if_neg (by omega), if_pos rfl, if_pos (by omega), if_neg (by omega)]
    exact ⟨a0, rfl, a2⟩
  · rw [if_neg e, if_neg (by omega), if_neg (by omega), if_neg (by omega)]
    exact ⟨a0, a1, a2⟩
theorem RowM.setI {w : World} {b c : Nat} {l : List MemT} (h : RowM w b c l) (k : Nat) (hk : k < 6) (y : Bool) : RowM (w.setCell ⟨b, k * 3 + 2, none⟩ (.bool y)) b c (l.set k ((mmL l k).1, (mmL l k).2.1, y)) := by
  obtain ⟨h6, h1, h2, cur, hb, hs, hc⟩ := h
  refine ⟨by rw [List.length_set]; exact h6, h1, h2, _, hb.setAt (k * 3 + 2) _, by rw [Array.size_setIfInBounds]; exact hs, fun i hi => ?_⟩
  rw [mmL_set l k i _ (by omega)]
  simp only [Array.getElem?_setIfInBounds]
  obtain ⟨a0, a1, a2⟩ := hc i hi
  by_cases e : i = k
  · subst e
    rw [if_pos rfl, if_neg (by omega), if_neg (by omega), if_pos rfl, if_pos (by omega)]
    exact ⟨a0, a1, rfl⟩
  · rw [if_neg e, if_neg (by omega), if_neg (by omega), if_neg (by omega)]
    exact ⟨a0, a1, a2⟩
theorem OwnM.rowM {w : World} {B : Nat} {v : Value} {l : List MemT} (h : OwnM w B v l) (h6 : l.length = 6) : ∃ b c, v = .slice (some ⟨b, 0, none⟩) 6 c ∧ B ≤ b ∧ RowM w b c l := by
  obtain ⟨hl, hx⟩ := h
  rcases hx with ⟨_, h0⟩ | ⟨g, cap, cur, k1, k2, k3, k4, k5, k6, k7⟩
  · omega
  rw [h6] at k1 k4 k7
  refine ⟨g, cap, k1, k2, h6, k4, by unfold maxLen at k5; omega, cur, k3, k6, fun i hi => ?_⟩
  have hat : ∀ j, j < 3 → ∀ u, (memA (mmL l i))[j]? = some u → cur[i * 3 + j]? = some u := fun j hj u hu => by
    obtain ⟨u', e1, e2⟩ := cellsM_at l i (by omega) j hj
    rw [hu] at e1
    cases e1
    rw [← k7, List.getElem?_take_of_lt (by omega), Array.getElem?_toList] at e2
    exact e2
  exact ⟨hat 0 (by decide) _ rfl, hat 1 (by decide) _ rfl, hat 2 (by decide) _ rfl⟩

theorem byWhoR_any (l : List MemT) (b c k : Nat) (who : Int) (w : World) (hI : RowM w b c l) (hk : k < 6) (h1 : ∀ i, i < 6 → (mmL l i).1 = (i : Int) + 1) (hw : who = (k : Int) + 1) :
    Calls Tryd.prog 9 #[.slice (some ⟨b, 0, none⟩) 6 c, .int .i64 who] w fun e w' => e = .returned (.pointer (some ⟨b, k * 3, none⟩)) ∧ Below w.heap.size w w' := by
  have h := byWho_any l b 0 6 c k who w (by decide) hI.at hk (fun i hi => by rw [h1 i (by omega)]; omega) (by rw [h1 k hk]; omega)
  rw [Nat.zero_add] at h
  exact h

set_option maxHeartbeats 1000000 in
theorem cloneM_n (l : List MemT) (b off c n : Nat) (w : World) (hn : n = 6) (h6 : l.length = 6) (hI : MmsAt w (some ⟨b, off, none⟩) 6 l) :
    Calls Tryd.prog 18 #[.slice (some ⟨b, off, none⟩) n c] w fun e w' => ∃ b' c', e = .returned (.slice (some ⟨b', 0, none⟩) 6 c') ∧ w.heap.size ≤ b' ∧ RowM w' b' c' l ∧ Below w.heap.size w w' := by
  have HN : Hid (n = 6) := hn
  obtain ⟨i0, hi, hz0, hz1, hz2⟩ := info_parts Tryd.infoM20
  have heq := fun (w : World) a n c => Lib.run_eql_slice_nil (P := Tryd.prog) w 24 42 a n c 0 0 Tryd.underlying24
  have hB0 : Below w.heap.size w (w.alloc (.cells #[] 42)) := below_new w _
  have hown : (w.alloc (.cells #[] 42)).ownsRow w.heap.size 42 3 (.slice (some ⟨w.heap.size, 0, none⟩) 0 0) 0 [] := ⟨rfl, .inr ⟨w.heap.size, 0, #[], rfl, Nat.le_refl _, Blk.new w _ _, Nat.le_refl _, Nat.zero_le _, rfl, rfl⟩⟩
  have hsrc := mmsM_src (k := 0) (m := 6) (c := c) (hI.below hB0) (by decide)
  rw [Nat.zero_mul, Nat.add_zero, List.drop_zero, List.take_of_length_le (by omega)] at hsrc
  rcases hsrc with ⟨e, _⟩ | ⟨ad, c2, e, hs⟩
  · cases e
  cases e
  obtain ⟨v', w', hr, h2, h3, _⟩ := run_append_own (P := Tryd.prog) (w.alloc (.cells #[] 42)) w.heap.size 24 0 42 i0 _ 3 24 Tryd.underlying24 hi hz0 hz1 hz2 rfl (by decide) _ 0 [] hown ⟨b, off, none⟩ n c (cellsM l) (by rw [cellsM_len, h6, hn]) hs (cellsM_one l) (by unfold maxLen; omega) (by omega) (by simp)
  rw [Nat.zero_add, List.nil_append] at h2
  have hA : ∀ ty, (Builtin.append_ #[24, 24] ty #[.slice (some ⟨w.heap.size, 0, none⟩) 0 0, .slice (some ⟨b, off, none⟩) n c]).run Tryd.prog (w.alloc (.cells #[] 42)) = .ok v' w' := fun _ => hr
  have HF : Hid (OwnM w' w.heap.size v' l) := by show World.ownsRow _ _ _ _ _ _ _; rw [h6, ← hn]; exact h2
  have HG : Hid (Below w.heap.size w w') := hB0.grown h3 hB0.size (fun k e => by cases e; exact Nat.le_refl _)
  have H6 : Hid (l.length = 6) := h6
  clear hn h2 h3 hr hown hB0 hi hz0 hz1 hz2 hs hI h6
  go_enter Tryd.func18, Tryd.ntmps18
  go_wp2_with (at_builtin; refine Lib.wpList_append_run _ rfl _ _ 24 24 rfl _ _ rfl rfl _ _ (hA _) ?_)
  go_ret
  obtain ⟨b', c', e, hb', hrow⟩ := HF.out.rowM H6.out
  exact ⟨b', c', by rw [← e]; rfl, hb', hrow, HG.out⟩

theorem cloneM_any (l : List MemT) (b off c : Nat) (w : World) (h6 : l.length = 6) (hI : MmsAt w (some ⟨b, off, none⟩) 6 l) :
    Calls Tryd.prog 18 #[.slice (some ⟨b, off, none⟩) 6 c] w fun e w' => ∃ b' c', e = .returned (.slice (some ⟨b', 0, none⟩) 6 c') ∧ w.heap.size ≤ b' ∧ RowM w' b' c' l ∧ Below w.heap.size w w' := cloneM_n l b off c 6 w rfl h6 hI

set_option maxHeartbeats 1000000 in
theorem isNext20_any (Ep Op : Int) (Kd F C S : Int) (H : ByteArray) (k0 k1 k2 k3 k4 k5 k6 : Int) (s7 s8 : ByteArray) (q : Int) (ar : Option Addr) (nr cr : Nat) (l : List MemT) (b off c k : Nat) (w : World) (D : Bool) (hk : k < 6) (hF : F = (k : Int) + 1) (hM : MayL l) (hI : MmsAt w (some ⟨b, off, none⟩) 6 l) (hD : decide (C = (mmL l k).2.1 + 1) = D) :
    Calls Tryd.prog 17 #[.agg #[.int .i64 Ep, .slice (some ⟨b, off, none⟩) 6 c, .int .i64 Op], .agg #[.int .i64 Kd, .int .i64 F, .int .i64 C, .int .i64 S, .string H, .int .i64 k0, .int .i64 k1, .int .i64 k2, .int .i64 k3, .int .i64 k4, .int .i64 k5, .int .i64 k6, .string s7, .string s8, .int .i64 q, .slice ar nr cr]] w fun e w' => e = .returned (.bool D) ∧ Below w.heap.size w w' := by
  obtain ⟨y, hy⟩ : ∃ y, (mmL l k).2.1 = y := ⟨_, rfl⟩
  have hyb := hM.2 k hk
  rw [hy] at hyb hD
  have hyl : 0 ≤ y := hyb.2.1
  have hyu : y ≤ 1099511627775 := hyb.2.2.1
  have e0 : (C == y + 1) = D := by rw [← hD]; by_cases e : C = y + 1 <;> simp [e]
  have CB : Hid (∀ W, Below w.heap.size w W → Calls Tryd.prog 9 #[.slice (some ⟨b, off, none⟩) 6 c, .int .i64 F] W fun e w' => e = .returned (.pointer (some ⟨b, off + k * 3, none⟩)) ∧ Below W.heap.size W w') := fun W hW => byWho_any l b off 6 c k F W (by decide) (hI.below hW) hk (fun i hi => by rw [(hM.2 i (by omega)).1]; omega) (by rw [(hM.2 k hk).1]; omega)
  have y1 : w.cell? ⟨b, off + k * 3 + 1, none⟩ = some (.int .i64 y) := by
    rcases hI.2 with h | ⟨b', off', e, h⟩
    · omega
    · cases e; rw [(h k hk).2.1, hy]
  obtain ⟨o, ho⟩ : ∃ o, off + k * 3 = o := ⟨_, rfl⟩
  rw [ho] at y1 CB
  have HY1 : Hid (w.cell? ⟨b, o + 1, none⟩ = some (.int .i64 y)) := y1
  clear hD hyb hy hM hI hk hF y1 ho
  obtain ⟨w0, hq⟩ : ∃ w0, (w.alloc (.cells #[.int .i64 Ep, .slice (some ⟨b, off, none⟩) 6 c, .int .i64 Op] 26)).alloc (.cells #[.int .i64 Kd, .int .i64 F, .int .i64 C, .int .i64 S, .string H, .int .i64 k0, .int .i64 k1, .int .i64 k2, .int .i64 k3, .int .i64 k4, .int .i64 k5, .int .i64 k6, .string s7, .string s8, .int .i64 q, .slice ar nr cr] 35) = w0 := ⟨_, rfl⟩
  have n0 := below_new w (.cells #[.int .i64 Ep, .slice (some ⟨b, off, none⟩) 6 c, .int .i64 Op] 26)
  have n1 := below_new (w.alloc (.cells #[.int .i64 Ep, .slice (some ⟨b, off, none⟩) 6 c, .int .i64 Op] 26)) (.cells #[.int .i64 Kd, .int .i64 F, .int .i64 C, .int .i64 S, .string H, .int .i64 k0, .int .i64 k1, .int .i64 k2, .int .i64 k3, .int .i64 k4, .int .i64 k5, .int .i64 k6, .string s7, .string s8, .int .i64 q, .slice ar nr cr] 35)
  have hb0 : Below w.heap.size w w0 := by rw [← hq]; exact below_step n0 (Nat.le_refl _) n1
  have g0 : Blk w0 26 w.heap.size #[.int .i64 Ep, .slice (some ⟨b, off, none⟩) 6 c, .int .i64 Op] := by rw [← hq]; exact (Blk.new w _ _).on n1
  have g1 : Blk w0 35 (w.heap.size + 1) #[.int .i64 Kd, .int .i64 F, .int .i64 C, .int .i64 S, .string H, .int .i64 k0, .int .i64 k1, .int .i64 k2, .int .i64 k3, .int .i64 k4, .int .i64 k5, .int .i64 k6, .string s7, .string s8, .int .i64 q, .slice ar nr cr] := by rw [← hq]; exact Blk.new' _ _ _ _ (by simp)
  have HQ : Hid (_ = w0) := hq
  have HB0 : Hid (Below w.heap.size w w0) := hb0
  have CB2 : Hid (∀ p : Beh w0, Calls Tryd.prog 9 #[.slice (some ⟨b, off, none⟩) 6 c, .int .i64 F] p.w' fun e w' => e = .returned (.pointer (some ⟨b, o, none⟩)) ∧ Below p.w'.heap.size p.w' w') := fun p => CB.out p.w' (below_step hb0 (Nat.le_refl _) p.h)
  have c0 : ∀ p : Beh w0, p.w'.cell? ⟨w.heap.size, 1, none⟩ = some (.slice (some ⟨b, off, none⟩) 6 c) := fun p => p.cell (g0.cell 1)
  have c1 : ∀ p : Beh w0, p.w'.cell? ⟨w.heap.size + 1, 1, none⟩ = some (.int .i64 F) := fun p => p.cell (g1.cell 1)
  have c2 : ∀ p : Beh w0, p.w'.cell? ⟨w.heap.size + 1, 2, none⟩ = some (.int .i64 C) := fun p => p.cell (g1.cell 2)
  have c3 : ∀ p : Beh w0, p.w'.cell? ⟨b, o + 1, none⟩ = some (.int .i64 y) := fun p => p.cell (by rw [hb0.cell (World.block_lt_of_cell? w _ HY1.out)]; exact HY1.out)
  have e1 : IntKind.i64.wrap (y + 1) = y + 1 := by rw [IntKind.wrap_i64]; omega
  clear n0 n1 g0 g1 hq hb0 CB HY1
  go_enter Tryd.func17, Tryd.ntmps17
  go_wp2_with fail
  rw [HQ.out]
  have hne_ : Nonempty (Beh w0) := ⟨⟨_, Below.refl _ _⟩⟩
  refine wp_region_quiet_beh (by kernel_rfl) (by kernel_rfl) ?_
  repeat (quiet_step (first | (go_at_call 9; refine Calls.beh_of (CB2.out _))))
  refine wpQuiet_nil ?_
  intro wq hw_
  obtain ⟨⟨wz_, hbq⟩, hw_⟩ := hw_
  subst hw_
  try dsimp only
  clear hne_
  go_wp2_with fail
  go_ret
  exact ⟨rfl, below_step HB0.out (Nat.le_refl _) hbq⟩

end Go.Proofs.YtkmdajenbidaaaaDoor
