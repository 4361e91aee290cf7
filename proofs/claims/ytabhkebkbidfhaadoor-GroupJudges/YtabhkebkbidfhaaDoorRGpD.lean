/- Layer 20, the document's: rows of members that are one's own; New. -/
import Derived.Test.YtabhkebkbidfhaaDoorRGpC
namespace Go.Proofs.YtabhkebkbidfhaaDoor
open Go.RowKit
set_option maxRecDepth 100000
set_option linter.unusedSimpArgs false
set_option linter.unusedVariables false
set_option maxRecDepth 100000

theorem Tryd.infoM20 : (Tryd.prog.info? 46).map (fun i => (i.zero, i.size, i.bytes)) = some (some (.agg #[.int .i64 0, .int .i64 0, .bool false]), 3, 24) := by kernel_rfl

def cellsM (l : List MemT) : List Value := l.flatMap (fun x => (memA x).toList)

theorem cellsM_at (l : List MemT) : ∀ i, i < l.length → ∀ j, j < 3 → ∃ u, (memA (mmL l i))[j]? = some u ∧ (cellsM l)[i * 3 + j]? = some u := by
  induction l with
  | nil => intro i hi; exact absurd hi (Nat.not_lt_zero _)
  | cons x l ih =>
    intro i hi j hj
    have hs : (memA x).toList.length = 3 := rfl
    cases i with
    | zero =>
      refine ⟨(memA x)[j]'(by show j < 3; exact hj), ?_, ?_⟩
      · show (memA x)[j]? = _
        exact Array.getElem?_eq_getElem _
      · show ((memA x).toList ++ cellsM l)[0 * 3 + j]? = _
        rw [Nat.zero_mul, Nat.zero_add, List.getElem?_append_left (by rw [hs]; exact hj), Array.getElem?_toList]
        exact Array.getElem?_eq_getElem _
    | succ i =>
      obtain ⟨u, h1, h2⟩ := ih i (by simp at hi; omega) j hj
      refine ⟨u, ?_, ?_⟩
      · have : mmL (x :: l) (i + 1) = mmL l i := rfl
        rw [this]; exact h1
      · show ((memA x).toList ++ cellsM l)[(i + 1) * 3 + j]? = _
        rw [List.getElem?_append_right (by rw [hs]; omega), hs, show (i + 1) * 3 + j - 3 = i * 3 + j by omega]
        exact h2

def OwnM (w : World) (B : Nat) (v : Value) (l : List MemT) : Prop := w.ownsRow B 46 3 v l.length (cellsM l)

theorem OwnM.rows {w : World} {B : Nat} {v : Value} {l : List MemT} (h : OwnM w B v l) : ∃ a cap, v = .slice a l.length cap ∧ l.length ≤ cap ∧ cap ≤ 9223372036854775807 ∧ MmsAt w a l.length l := by
  obtain ⟨a, cap, hv, hr⟩ := rows_of_owns h (cellsM_at l)
  refine ⟨a, cap, hv, ?_, ?_, rfl, ?_⟩
  · rcases h.2 with ⟨k1, k2⟩ | ⟨g, cap', cur, k1, _, _, k2, _⟩
    · omega
    · rw [hv] at k1
      injection k1 with _ _ e
      omega
  · rcases h.2 with ⟨k1, k2⟩ | ⟨g, cap', cur, k1, _, _, _, k2, _⟩
    · rw [hv] at k1
      injection k1 with _ _ e
      omega
    · rw [hv] at k1
      injection k1 with _ _ e
      unfold maxLen at k2
      omega
  · refine hr.imp id (fun ⟨b, off, e, hc⟩ => ⟨b, off, e, fun i hi => ?_⟩)
    obtain ⟨u0, a0, b0⟩ := hc i hi 0 (by decide)
    obtain ⟨u1, a1, b1⟩ := hc i hi 1 (by decide)
    obtain ⟨u2, a2, b2⟩ := hc i hi 2 (by decide)
    cases a0
    cases a1
    cases a2
    exact ⟨b0, b1, b2⟩

theorem cellsM_snoc (l : List MemT) (x : MemT) : cellsM (l ++ [x]) = cellsM l ++ (memA x).toList := by
  unfold cellsM
  rw [List.flatMap_append]
  simp

theorem memA_one (x : MemT) : ∀ u ∈ (memA x).toList, u.oneCell' = true := by
  intro u hu
  simp [memA] at hu
  rcases hu with rfl | rfl | rfl <;> rfl

theorem below_grown20 {w w' w'' : World} {r : Option Nat} (h : Below w.heap.size w w') (g : w'.grownBy w'' r) (hr : ∀ j, r = some j → w.heap.size ≤ j) : Below w.heap.size w w'' :=
  ⟨g.os.trans h.os, g.tape.trans h.tape, g.output.trans h.output, Nat.le_trans h.size g.size, fun k hk => (g.block k (by have := h.size; omega) (fun e => by have := hr k e.symm; omega)).trans (h.block k hk)⟩

/-- The members of New. -/
def newM (n : Nat) : List MemT := (List.range n).map (fun (i : Nat) => (((i : Int) + 1, 0, decide (i = 0)) : MemT))
theorem newM_len (n : Nat) : (newM n).length = n := by unfold newM; simp
theorem newM_snoc (n : Nat) : newM (n + 1) = newM n ++ [((n : Int) + 1, 0, decide (n = 0))] := by
  unfold newM; rw [List.range_succ, List.map_append]; rfl

/-- The group's cell and its members. -/
def FiG (w W : World) (h B : Nat) (v : Value) (l : List MemT) : Prop := Below w.heap.size w W ∧ Blk W 24 h #[.int .i64 1, v, .int .i64 0] ∧ OwnM W B v l ∧ h < B ∧ w.heap.size < h ∧ B ≤ W.heap.size ∧ Blk W 24 w.heap.size #[.int .i64 0, .slice none 0 0, .int .i64 0]

set_option maxHeartbeats 4000000 in
theorem rnew20_any (w : World) : Calls Tryd.prog 19 #[] w fun e w' => ∃ a c, e = .returned (.agg (grpA (1, newM 6, 0) a c)) ∧ 6 ≤ c ∧ c ≤ 9223372036854775807 ∧ MmsAt w' a 6 (newM 6) ∧ Below w.heap.size w w' := by
  obtain ⟨i0, hi, hz0, hz1, hz2⟩ := info_parts Tryd.infoM20
  obtain ⟨W1, hW1⟩ : ∃ W1, (w.alloc (.cells #[.int .i64 0, .slice none 0 0, .int .i64 0] 24)).alloc (.cells #[.int .i64 1, .slice none 0 0, .int .i64 0] 24) = W1 := ⟨_, rfl⟩
  have HI1 : Hid (FiG w W1 (w.heap.size + 1) (w.heap.size + 1 + 1) (.slice none 0 0) []) := by
    have n0 := below_new w (.cells #[.int .i64 0, .slice none 0 0, .int .i64 0] 24)
    have n1 := below_new (w.alloc (.cells #[.int .i64 0, .slice none 0 0, .int .i64 0] 24)) (.cells #[.int .i64 1, .slice none 0 0, .int .i64 0] 24)
    rw [← hW1]
    refine ⟨below_step n0 (Nat.le_refl _) n1, ?_, World.ownsRow_nil _ _ _ _, Nat.lt_succ_self _, Nat.lt_succ_self _, by simp, (Blk.new w _ _).on n1⟩
    exact Blk.new' _ _ _ _ (by simp)
  have HW1 : Hid (_ = W1) := hW1
  clear hW1
  go_enter Tryd.func19, Tryd.ntmps19
  go_wp2_with fail
  rw [HW1.out]
  obtain ⟨h, hh⟩ : ∃ h, w.heap.size + 1 = h := ⟨_, rfl⟩
  rw [hh] at HI1 ⊢
  clear hh HW1
  go_loopw [2] (fun i wr => ∃ k : Nat, k ≤ 6 ∧ i = .int .i64 ((k : Int) + 1) ∧ Hid (∃ v, FiG w wr h (h + 1) v (newM k))) (fun i _ => 7 - (intOf i).toNat)
  case atStart => exact ⟨0, Nat.zero_le _, rfl, ⟨_, HI1.out⟩⟩
  case round =>
    clear HI1
    obtain ⟨k, hk, rfl, HX⟩ := hrel
    obtain ⟨v, hI⟩ := HX.out
    obtain ⟨t1, t2, t3, t4, t5, t6, t7⟩ := hI
    have HIk : Hid (FiG w wr h (h + 1) v (newM k)) := ⟨t1, t2, t3, t4, t5, t6, t7⟩
    clear t1 t3 t4 t5 t6 HX
    by_cases hlt : k < 6
    · have b0 : (k : Int) + 1 ≤ 6 := by omega
      obtain ⟨bb, hbb⟩ : ∃ bb, decide (k = 0) = bb := ⟨_, rfl⟩
      have b1 : (((k : Int) + 1) == 1) = bb := by
        rw [← hbb]
        by_cases e : k = 0
        · subst e; rfl
        · rw [decide_eq_false e]; simp; omega
      have HBB : Hid (decide (k = 0) = bb) := hbb
      clear hbb
      have b2 : IntKind.i64.wrap ((k : Int) + 1 + 1) = (k : Int) + 1 + 1 := by rw [IntKind.wrap_i64]; omega
      have c1 : wr.cell? ⟨h, 1, none⟩ = some v := t2.cell 1
      have hown := HIk.out.2.2.1
      have hsz := HIk.out.2.2.2.2.2.1
      unfold OwnM at hown
      rw [newM_len] at hown
      clear t2 t7
      go_wp2_with (at_builtin; refine wpList_appR2 rfl (.tmp 9) (.tmp 14) 22 rfl (h + 1) 46 i0 _ 3 24 Tryd.underlying22 hi hz0 hz1 hz2 rfl (by decide) wr v _ _ rfl hown #[.int .i64 ((k : Int) + 1), .int .i64 0, .bool bb] rfl (memA_one ((k : Int) + 1, 0, bb)) rfl (by omega) (by unfold maxLen; omega) hsz ?_)
      intro v4 w4 hown4 hg4
      have HO4 : Hid (OwnM w4 (h + 1) v4 (newM (k + 1))) := by
        show OwnM _ _ _ _
        unfold OwnM
        rw [newM_len, newM_snoc, cellsM_snoc, HBB.out]; exact hown4
      have HK4 : Hid (Blk w4 24 h #[.int .i64 1, v, .int .i64 0]) := (HIk.out.2.1.on (below_new _ _)).grown hg4 (fun e => by have := (World.ownsRow.lt hown h e.symm).1; omega)
      have HZ4 : Hid (Blk w4 24 w.heap.size #[.int .i64 0, .slice none 0 0, .int .i64 0]) := (HIk.out.2.2.2.2.2.2.on (below_new _ _)).grown hg4 (fun e => by have := (World.ownsRow.lt hown _ e.symm).1; have := HIk.out.2.2.2.2.1; omega)
      have HB4 : Hid (Below w.heap.size w w4) := by
        have q1 := HIk.out.1
        have q2 := HIk.out.2.2.2.2.1
        exact below_grown20 (q1.alloc q1.size _) hg4 (fun j hj => by have := (World.ownsRow.lt hown j hj).1; omega)
      have HS4 : Hid (h + 1 ≤ w4.heap.size) := by have := hg4.size; rw [World.size_alloc] at this; show _ ≤ _; omega
      have c0 : w4.cell? ⟨h, 1, none⟩ = some v := HK4.out.cell 1
      have c2 : w4.frozen? ⟨h, 1, none⟩ = false := HK4.out.free 1
      have HW5 : Hid (FiG w (w4.setCell ⟨h, 1, none⟩ v4) h (h + 1) v4 (newM (k + 1))) := by
        have q2 := HIk.out.2.2.2.2.1
        refine ⟨HB4.out.setCell (p := ⟨h, 1, none⟩) (by show w.heap.size ≤ h; omega) _, HK4.out.setAt 1 v4, owns_same HO4.out (fun j hj => Below.heap_setCell w4 ⟨h, 1, none⟩ _ j (by have := (World.ownsRow.lt HO4.out j hj).1; show j ≠ h; omega)), Nat.lt_succ_self _, q2, by show _ ≤ _; have := HS4.out; simpa [World.setCell] using this, HZ4.out.other ⟨h, 1, none⟩ (by show w.heap.size ≠ h; omega) _⟩
      obtain ⟨a4, n4, q4, hv4⟩ : ∃ a n q, v4 = .slice a n q := by
        obtain ⟨a, cap, e, _⟩ := HO4.out.rows
        exact ⟨_, _, _, e⟩
      subst hv4
      obtain ⟨W5, hW5⟩ : ∃ W5, w4.setCell ⟨h, 1, none⟩ (.slice a4 n4 q4) = W5 := ⟨_, rfl⟩
      rw [hW5] at HW5
      clear hown4 hg4 hown HO4 HK4 HB4 HS4 HIk HZ4 c1 hsz
      go_wp2_with fail
      try rw [hW5]
      clear hW5 c0 c2
      refine ⟨?_, ?_⟩
      · first
        | exact ⟨k + 1, by omega, by go_num, ⟨_, HW5.out⟩⟩
        | ((repeat apply Exists.intro); refine ⟨?_, rfl⟩; exact ⟨k + 1, by omega, by go_num, ⟨_, HW5.out⟩⟩)
      · simp [intOf] <;> omega
    · obtain rfl : k = 6 := by omega
      obtain ⟨a, c, hv, hlc, hcm, hit⟩ := HIk.out.2.2.1.rows
      rw [newM_len] at hv hlc hit
      subst hv
      have d0 : wr.cell? ⟨h, 0, none⟩ = some (.int .i64 1) := t2.cell 0
      have d1 : wr.cell? ⟨h, 1, none⟩ = some (.slice a 6 c) := t2.cell 1
      have d2 : wr.cell? ⟨h, 2, none⟩ = some (.int .i64 0) := t2.cell 2
      have X1 : Blk wr 24 w.heap.size #[.int .i64 0, .slice none 0 0, .int .i64 0] := t7
      have HIt : Hid (MmsAt wr a 6 (newM 6)) := hit
      have HLC : Hid (6 ≤ c ∧ c ≤ 9223372036854775807) := ⟨hlc, hcm⟩
      have b0 : ¬ ((6 : Int) + 1 ≤ 6) := by omega
      have hG2 : Blk (wr.setRow w.heap.size #[.int .i64 1, .slice a 6 c, .int .i64 0]) 24 w.heap.size #[.int .i64 1, .slice a 6 c, .int .i64 0] := X1.setRow _
      have HB2 : Hid (Below w.heap.size w (wr.setRow w.heap.size #[.int .i64 1, .slice a 6 c, .int .i64 0])) := below_setRow HIk.out.1 (Nat.le_refl _) _
      have HI2 : Hid (MmsAt (wr.setRow w.heap.size #[.int .i64 1, .slice a 6 c, .int .i64 0]) a 6 (newM 6)) := by
        have h5 := owns_same HIk.out.2.2.1 (fun j hj => setRow_other wr w.heap.size j #[.int .i64 1, .slice a 6 c, .int .i64 0] (by have q1 := (World.ownsRow.lt HIk.out.2.2.1 j hj).1; have q2 := HIk.out.2.2.2.2.1; omega))
        obtain ⟨a', c', e', _, _, h6⟩ := OwnM.rows h5
        rw [newM_len] at e' h6
        injection e' with e1 e2 e3
        cases e1
        exact h6
      obtain ⟨W2, hW2⟩ : ∃ W2, wr.setRow w.heap.size #[.int .i64 1, .slice a 6 c, .int .i64 0] = W2 := ⟨_, rfl⟩
      rw [hW2] at hG2 HB2 HI2
      have e0 : W2.cell? ⟨w.heap.size, 0, none⟩ = some (.int .i64 1) := hG2.cell 0
      have e1 : W2.cell? ⟨w.heap.size, 1, none⟩ = some (.slice a 6 c) := hG2.cell 1
      have e2 : W2.cell? ⟨w.heap.size, 2, none⟩ = some (.int .i64 0) := hG2.cell 2
      have HG2 : Hid (Blk W2 24 w.heap.size #[.int .i64 1, .slice a 6 c, .int .i64 0]) := hG2
      clear hit hlc hcm t2 t7 HIk hG2 HIt e0 e1 e2
      go_wp2_with (with_reducible refine wpList_storeBlk rfl 24 _ _ rfl w.heap.size #[.int .i64 0, .slice none 0 0, .int .i64 0] #[.int .i64 1, .slice a 6 c, .int .i64 0] (by with_unfolding_all rfl) (by with_unfolding_all rfl) X1 rfl (by kernel_rfl) (by kernel_rfl) ?_)
      try rw [hW2]
      clear hW2 X1 d0 d1 d2
      exact bodyPost_row rfl w.heap.size #[.int .i64 1, .slice a 6 c, .int .i64 0] rfl rfl HG2.out _ Tryd.underlying24 rfl (by kernel_rfl) ⟨a, c, rfl, HLC.out.1, HLC.out.2, HI2.out, HB2.out⟩

end Go.Proofs.YtabhkebkbidfhaaDoor
