/- The library's slices.Delete, slices.Clone at operations (layer 11). -/
import Derived.Test.YtaomhhooipfjbaaDoorTmQ
namespace Go.Proofs.YtaomhhooipfjbaaDoor
open Go.RowKit
set_option linter.unusedSimpArgs false

theorem splice_take {α : Type} (L : List α) (d : Nat) (news : List α) (k : Nat) (hk : k ≤ d) (hd : d ≤ L.length) : (splice L d news).take k = L.take k := by
  unfold splice
  rw [List.take_append_of_le_length (by rw [List.length_take]; omega), List.take_take]
  congr 1
  omega

theorem splice_len {α : Type} (L : List α) (d : Nat) (news : List α) (h : d + news.length ≤ L.length) : (splice L d news).length = L.length := length_splice L d news h

theorem cellsO_drop (l : List OpT) (k : Nat) : (cellsO l).drop (k * 9) = cellsO (l.drop k) := by
  induction l generalizing k with
  | nil => simp [cellsO]
  | cons x l ih =>
    cases k with
    | zero => simp
    | succ k =>
      show ((opA x).toList ++ cellsO l).drop ((k + 1) * 9) = _
      have hl : (opA x).toList.length = 9 := rfl
      rw [show (k + 1) * 9 = (opA x).toList.length + k * 9 by rw [hl]; omega, List.drop_append, List.drop_of_length_le (by omega), Nat.add_sub_cancel_left, ih, List.nil_append]
      rfl

theorem cellsO_take (l : List OpT) (k : Nat) : (cellsO l).take (k * 9) = cellsO (l.take k) := by
  induction l generalizing k with
  | nil => simp [cellsO]
  | cons x l ih =>
    cases k with
    | zero => simp [cellsO]
    | succ k =>
      show ((opA x).toList ++ cellsO l).take ((k + 1) * 9) = (opA x).toList ++ cellsO (l.take k)
      have hl : (opA x).toList.length = 9 := rfl
      rw [show (k + 1) * 9 = (opA x).toList.length + k * 9 by rw [hl]; omega, List.take_append, List.take_of_length_le (by omega), Nat.add_sub_cancel_left, ih]

/-- A row of operations of the call's own, with its block. -/
theorem OwnO.blk {w : World} {B : Nat} {v : Value} {l : List OpT} (h : OwnO w B v l) : (v = .slice none 0 0 ∧ l = []) ∨ ∃ g cap cur, v = .slice (some ⟨g, 0, none⟩) l.length cap ∧ B ≤ g ∧ Blk w 30 g cur ∧ l.length ≤ cap ∧ cap ≤ maxLen ∧ cur.size = cap * 9 ∧ cur.toList.take (l.length * 9) = cellsO l := by
  rcases h.2 with ⟨rfl, h0⟩ | ⟨g, cap, cur, h1, h2, h3, h4, h5, h6, h7⟩
  · exact .inl ⟨rfl, List.length_eq_zero_iff.1 h0⟩
  · exact .inr ⟨g, cap, cur, h1, h2, h3, h4, h5, h6, h7⟩

theorem OwnO.of {w : World} {B g cap : Nat} {cur : Array Value} {l : List OpT} {n : Nat} (hn : l.length = n) (hB : B ≤ g) (h : Blk w 30 g cur) (h1 : l.length ≤ cap) (h2 : cap ≤ maxLen) (h3 : cur.size = cap * 9) (h4 : cur.toList.take (l.length * 9) = cellsO l) : OwnO w B (.slice (some ⟨g, 0, none⟩) n cap) l := by
  subst hn
  exact ⟨cellsO_len l, .inr ⟨g, cap, cur, rfl, hB, h, h1, h2, h3, h4⟩⟩

theorem grown_setRow (w : World) (g : Nat) (cs : Array Value) : w.grownBy (w.setRow g cs) (some g) :=
  ⟨rfl, rfl, rfl, by simp [World.setRow], fun k _ hk => setRow_other w g k cs (fun e => hk (by rw [e]))⟩

theorem grown_drew (w : World) (row : Option Nat) : w.grownBy w.drew row := ⟨rfl, rfl, rfl, Nat.le_refl _, fun _ _ _ => rfl⟩




set_option maxRecDepth 100000 in
set_option maxHeartbeats 4000000 in
theorem delete_any (ops : List OpT) (k : Nat) (hk : k ≤ ops.length) (sl : Value) (w : World) (hO : OwnO w 0 sl ops) (hn : ops.length ≤ 60000) :
    Calls Tryd.prog 34 #[sl, .int .i64 0, .int .i64 (k : Int)] w fun e w' => ∃ sl', e = .returned sl' ∧ OwnO w' 0 sl' (ops.drop k) ∧ w.grownBy w' sl.ownBlock ∧ sl'.ownBlock = sl.ownBlock := by
  have HO : Hid (OwnO w 0 sl ops) := hO
  rcases hO.blk with ⟨rfl, rfl⟩ | ⟨g, cap, cur, rfl, _, hb, h1, h2, h3, h4⟩
  · obtain rfl : k = 0 := by simpa using hk
    clear hO
    go_enter Tryd.func34, Tryd.ntmps34
    go_wp2_with fail
    go_ret
    exact ⟨_, rfl, HO.out, ⟨rfl, rfl, rfl, Nat.le_refl _, fun _ _ _ => rfl⟩, rfl⟩
  · obtain ⟨n, hnn⟩ : ∃ n, ops.length = n := ⟨_, rfl⟩
    have hm63 : cap ≤ 9223372036854775807 := h2
    rw [hnn] at hk h1 h4 hn
    rw [hnn]
    by_cases hk0 : k = 0
    · subst hk0
      have HE : Hid (OwnO w 0 (.slice (some ⟨g, 0, none⟩) n cap) ops) := by show OwnO _ _ _ _; rw [← hnn]; exact HO.out
      clear hO HO h4 hb hnn
      go_enter Tryd.func34, Tryd.ntmps34
      go_wp2_with fail
      go_ret
      exact ⟨_, rfl, HE.out, ⟨rfl, rfl, rfl, Nat.le_refl _, fun _ _ _ => rfl⟩, rfl⟩
    · have g0 : ((0 : Int) == (k : Int)) = false := by rw [beq_eq_false_iff_ne]; omega
      have g1 : (k : Int) ≤ (n : Int) := by omega
      have g2 : ¬ ((k : Int) = 0) := by omega
      have g3 : ¬ ((0 : Int) = (k : Int)) := by omega
      have gk : k ≤ cap := by omega
      have HB : Hid (Blk w 30 g cur) := hb
      have H4 : Hid (cur.toList.take (n * 9) = cellsO ops) := h4
      have H3 : Hid (cur.size = cap * 9) := h3
      have HN : Hid (ops.length = n) := hnn
      clear hO HO h4 hb hnn h3 hm63
      have HL : Hid ((cellsO (ops.drop k) ++ cur.toList.drop ((n - k) * 9)).length = cap * 9) := by
        show _ = _
        rw [List.length_append, cellsO_len, List.length_drop, List.length_drop, HN.out, Array.length_toList, H3.out]
        omega
      have HA : Hid (∀ (ad : Addr) (c' : Nat), (∀ j u, (cellsO (ops.drop k))[j]? = some u → w.cell? (ad.add j) = some u) → ∀ ty, (Builtin.append_ #[22, 22] ty #[.slice (some ⟨g, 0, none⟩) 0 cap, .slice (some ad) (n - k) c']).run Tryd.prog w.drew = .ok (.slice (some ⟨g, 0, none⟩) (n - k) cap) (w.drew.setRow g (cellsO (ops.drop k) ++ cur.toList.drop ((n - k) * 9)).toArray)) := fun ad c' hs ty => by
        obtain ⟨i0, hi, hz0, hz1, hz2⟩ := info_parts Tryd.infoOp
        have hl : (cellsO (ops.drop k)).length = (n - k) * i0.size := by rw [cellsO_len, List.length_drop, HN.out, hz1]
        have := run_append_room (P := Tryd.prog) (w := w.drew) 22 ty 30 i0 Tryd.underlying22 hi g 0 cap cur HB.out ad (n - k) c' (cellsO (ops.drop k)) hl hs (cellsO_one _) (by omega) (by rw [hl, hz1, H3.out]; omega)
        rw [this, hl, hz1]
        simp
      by_cases hck : cap - k = 0
      · have hck2 : cap = k := by omega
        have hA := HA.out ⟨g, 0, none⟩ 0 (fun j u hj => by
          have := (List.getElem?_eq_some_iff.1 hj).1
          rw [cellsO_len, List.length_drop, HN.out] at this
          omega)
        obtain rfl : n = k := by omega
        subst hck2
        have HL2 : Hid ((cellsO (ops.drop cap) ++ cur.toList).length = cap * 9) := by
          have := HL.out
          rw [Nat.sub_self, Nat.zero_mul, List.drop_zero] at this
          exact this
        rw [Nat.sub_self, Nat.zero_mul, List.drop_zero] at hA
        clear HL
        have HL := HL2
        clear HA HL2
        go_enter Tryd.func34, Tryd.ntmps34
        go_wp2_with fail
        refine wp_region_noPanic ?_
        refine wp_region_held_drew (S := fun _ => True) (by kernel_rfl) (by first | exact trivial | assumption | exact ⟨by assumption, by assumption⟩) (fun hHeld => ?_)
        refine take_at (i := 0) (v := ?_) rfl rfl (by kernel_rfl) (by kernel_rfl) (by kernel_rfl) (fun _ _ _ h => h) (Or.inl ⟨by rfl, ?_⟩) (by assumption) ?_
        rotate_left
        · intro w hSw; (try dsimp only at hSw); go_simp; try with_reducible rfl
        try simp only [Act.put, List.setIfInBounds_toArray, List.set_cons_zero, List.set_cons_succ]
        refine take_at (i := 1) (v := ?_) rfl rfl (by kernel_rfl) (by kernel_rfl) (by kernel_rfl) (fun _ _ _ h => h) (Or.inl ⟨by rfl, ?_⟩) (by assumption) ?_
        rotate_left
        · intro w hSw; (try dsimp only at hSw); go_simp; try with_reducible rfl
        try simp only [Act.put, List.setIfInBounds_toArray, List.set_cons_zero, List.set_cons_succ]
        refine take_at (i := 2) (v := ?_) rfl rfl (by kernel_rfl) (by kernel_rfl) (by kernel_rfl) (fun _ _ _ h => h) (Or.inl ⟨by rfl, ?_⟩) (by assumption) ?_
        rotate_left
        · intro w hSw; (try dsimp only at hSw); go_simp; try with_reducible rfl
        try simp only [Act.put, List.setIfInBounds_toArray, List.set_cons_zero, List.set_cons_succ]
        refine take_at (i := 3) (v := ?_) rfl rfl (by kernel_rfl) (by kernel_rfl) (by kernel_rfl) (fun _ _ _ h => h) (Or.inl ⟨by rfl, ?_⟩) (by assumption) ?_
        rotate_left
        · intro w hSw; (try dsimp only at hSw); go_simp; try with_reducible rfl
        try simp only [Act.put, List.setIfInBounds_toArray, List.set_cons_zero, List.set_cons_succ]
        refine take_at (i := 4) (v := ?_) rfl rfl (by kernel_rfl) (by kernel_rfl) (by kernel_rfl) (fun _ _ _ h => h) (Or.inl ⟨by rfl, ?_⟩) (by assumption) ?_
        rotate_left
        · intro w hSw; (try dsimp only at hSw); go_simp; try with_reducible rfl
        try simp only [Act.put, List.setIfInBounds_toArray, List.set_cons_zero, List.set_cons_succ]
        refine take_at (i := 5) (v := ?_) rfl rfl (by kernel_rfl) (by kernel_rfl) (by kernel_rfl) (fun _ _ _ h => h) (Or.inl ⟨by rfl, ?_⟩) (by assumption) ?_
        rotate_left
        · intro w hSw; (try dsimp only at hSw); go_simp; try with_reducible rfl
        try simp only [Act.put, List.setIfInBounds_toArray, List.set_cons_zero, List.set_cons_succ]
        refine wpAnyH_ready (rs := [6]) (by kernel_rfl) (by simp) ?_
        refine AllReadyH.cons rfl (fun K hK => ?_) AllReadyH.nil
        refine Lib.wp_append_run _ _ _ 22 22 rfl _ _ rfl rfl _ _ (hA _) ?_
        refine hK.out _ _ trivial (fun hHeld => ?_)
        clear hK K
        refine take_at (i := 7) (v := ?_) rfl rfl (by kernel_rfl) (by kernel_rfl) (by kernel_rfl) (fun _ _ _ h => h) (Or.inl ⟨by rfl, ?_⟩) (by assumption) ?_
        rotate_left
        · intro w hSw; (try dsimp only at hSw); go_simp; try with_reducible rfl
        try simp only [Act.put, List.setIfInBounds_toArray, List.set_cons_zero, List.set_cons_succ]
        refine wpAnyH_done (by kernel_rfl) (NoPanic.normal ?_) _
        obtain ⟨W1, hW1⟩ : ∃ W1, w.drew.setRow g (cellsO (ops.drop cap) ++ cur.toList).toArray = W1 := ⟨_, rfl⟩
        have hB1 : Blk W1 30 g (cellsO (ops.drop cap) ++ cur.toList).toArray := by rw [← hW1]; exact (HB.out.on (Below.refl _ _).drew).setRow _
        have hG1 : w.grownBy W1 (some g) := by rw [← hW1]; exact (grown_drew w _).andThen (grown_setRow _ _ _) (fun j hj => .inr hj)
        rw [hW1]
        obtain ⟨news, hnl, hcl⟩ := run_clearO hB1 0 cap cap (by omega) (by rw [List.size_toArray, HL.out]; omega)
        have hE : (splice (cellsO (ops.drop cap) ++ cur.toList).toArray.toList 0 news).length = cap * 9 := by
          rw [splice_len _ _ _ (by rw [List.toList_toArray, HL.out, hnl]; omega), List.toList_toArray, HL.out]
        have hdl : (ops.drop cap).length = 0 := by rw [List.length_drop, HN.out]; omega
        have HF : Hid (OwnO (W1.setRow g (splice (cellsO (ops.drop cap) ++ cur.toList).toArray.toList 0 news).toArray) 0 (.slice (some ⟨g, 0, none⟩) 0 cap) (ops.drop cap)) := by
          refine OwnO.of hdl (Nat.zero_le _) (hB1.setRow _) (by rw [hdl]; omega) h2 (by rw [List.size_toArray, hE]) ?_
          rw [List.toList_toArray, splice_take _ _ _ _ (by rw [hdl]; omega) (by rw [List.toList_toArray, HL.out]; omega), List.toList_toArray, List.take_append_of_le_length (by rw [cellsO_len]; omega), List.take_of_length_le (by rw [cellsO_len]; omega)]
        have HG : Hid (w.grownBy (W1.setRow g (splice (cellsO (ops.drop cap) ++ cur.toList).toArray.toList 0 news).toArray) (some g)) := hG1.andThen (grown_setRow _ _ _) (fun j hj => .inr hj)
        generalize splice (cellsO (ops.drop cap) ++ cur.toList).toArray.toList 0 news = S at hcl HF HG
        clear hW1 hB1 hG1 HB HL hE hA H3 H4 HN hdl hnl
        go_wp2_with (at_builtin; refine wpList_clearR _ rfl _ 22 rfl _ rfl (hcl _) ?_)
        go_ret
        exact ⟨_, rfl, HF.out, HG.out, rfl⟩
      · have hckN : ¬ (cap = k) := by omega
        have hA := HA.out ⟨g, k * 9, none⟩ (cap - k) (fun j u hj => by
          have hjl := (List.getElem?_eq_some_iff.1 hj).1
          rw [cellsO_len, List.length_drop, HN.out] at hjl
          rw [Go.WideShapes.add_plain, HB.out.cell]
          rw [← cellsO_drop, List.getElem?_drop, ← H4.out, List.getElem?_take_of_lt (by omega)] at hj
          rw [← Array.getElem?_toList]; exact hj)
        clear HA
        go_enter Tryd.func34, Tryd.ntmps34
        go_wp2_with fail
        refine wp_region_noPanic ?_
        refine wp_region_held_drew (S := fun _ => True) (by kernel_rfl) (by first | exact trivial | assumption | exact ⟨by assumption, by assumption⟩) (fun hHeld => ?_)
        refine take_at (i := 0) (v := ?_) rfl rfl (by kernel_rfl) (by kernel_rfl) (by kernel_rfl) (fun _ _ _ h => h) (Or.inl ⟨by rfl, ?_⟩) (by assumption) ?_
        rotate_left
        · intro w hSw; (try dsimp only at hSw); go_simp; try with_reducible rfl
        try simp only [Act.put, List.setIfInBounds_toArray, List.set_cons_zero, List.set_cons_succ]
        refine take_at (i := 1) (v := ?_) rfl rfl (by kernel_rfl) (by kernel_rfl) (by kernel_rfl) (fun _ _ _ h => h) (Or.inl ⟨by rfl, ?_⟩) (by assumption) ?_
        rotate_left
        · intro w hSw; (try dsimp only at hSw); go_simp; try with_reducible rfl
        try simp only [Act.put, List.setIfInBounds_toArray, List.set_cons_zero, List.set_cons_succ]
        refine take_at (i := 2) (v := ?_) rfl rfl (by kernel_rfl) (by kernel_rfl) (by kernel_rfl) (fun _ _ _ h => h) (Or.inl ⟨by rfl, ?_⟩) (by assumption) ?_
        rotate_left
        · intro w hSw; (try dsimp only at hSw); go_simp; try with_reducible rfl
        try simp only [Act.put, List.setIfInBounds_toArray, List.set_cons_zero, List.set_cons_succ]
        refine take_at (i := 3) (v := ?_) rfl rfl (by kernel_rfl) (by kernel_rfl) (by kernel_rfl) (fun _ _ _ h => h) (Or.inl ⟨by rfl, ?_⟩) (by assumption) ?_
        rotate_left
        · intro w hSw; (try dsimp only at hSw); go_simp; try with_reducible rfl
        try simp only [Act.put, List.setIfInBounds_toArray, List.set_cons_zero, List.set_cons_succ]
        refine take_at (i := 4) (v := ?_) rfl rfl (by kernel_rfl) (by kernel_rfl) (by kernel_rfl) (fun _ _ _ h => h) (Or.inl ⟨by rfl, ?_⟩) (by assumption) ?_
        rotate_left
        · intro w hSw; (try dsimp only at hSw); go_simp; try with_reducible rfl
        try simp only [Act.put, List.setIfInBounds_toArray, List.set_cons_zero, List.set_cons_succ]
        refine take_at (i := 5) (v := ?_) rfl rfl (by kernel_rfl) (by kernel_rfl) (by kernel_rfl) (fun _ _ _ h => h) (Or.inl ⟨by rfl, ?_⟩) (by assumption) ?_
        rotate_left
        · intro w hSw; (try dsimp only at hSw); go_simp; try with_reducible rfl
        try simp only [Act.put, List.setIfInBounds_toArray, List.set_cons_zero, List.set_cons_succ]
        refine wpAnyH_ready (rs := [6]) (by kernel_rfl) (by simp) ?_
        refine AllReadyH.cons rfl (fun K hK => ?_) AllReadyH.nil
        refine Lib.wp_append_run _ _ _ 22 22 rfl _ _ rfl rfl _ _ (hA _) ?_
        refine hK.out _ _ trivial (fun hHeld => ?_)
        clear hK K
        refine take_at (i := 7) (v := ?_) rfl rfl (by kernel_rfl) (by kernel_rfl) (by kernel_rfl) (fun _ _ _ h => h) (Or.inl ⟨by rfl, ?_⟩) (by assumption) ?_
        rotate_left
        · intro w hSw; (try dsimp only at hSw); go_simp; try with_reducible rfl
        try simp only [Act.put, List.setIfInBounds_toArray, List.set_cons_zero, List.set_cons_succ]
        refine wpAnyH_done (by kernel_rfl) (NoPanic.normal ?_) _
        obtain ⟨W1, hW1⟩ : ∃ W1, w.drew.setRow g (cellsO (ops.drop k) ++ cur.toList.drop ((n - k) * 9)).toArray = W1 := ⟨_, rfl⟩
        have hB1 : Blk W1 30 g (cellsO (ops.drop k) ++ cur.toList.drop ((n - k) * 9)).toArray := by rw [← hW1]; exact (HB.out.on (Below.refl _ _).drew).setRow _
        have hG1 : w.grownBy W1 (some g) := by rw [← hW1]; exact (grown_drew w _).andThen (grown_setRow _ _ _) (fun j hj => .inr hj)
        rw [hW1]
        obtain ⟨news, hnl, hcl⟩ := run_clearO hB1 ((n - k) * 9) k (cap - (n - k)) (by omega) (by rw [List.size_toArray, HL.out]; omega)
        have hE : (splice (cellsO (ops.drop k) ++ cur.toList.drop ((n - k) * 9)).toArray.toList ((n - k) * 9) news).length = cap * 9 := by
          rw [splice_len _ _ _ (by rw [List.toList_toArray, HL.out, hnl]; omega), List.toList_toArray, HL.out]
        have hdl : (ops.drop k).length = n - k := by rw [List.length_drop, HN.out]
        have HF : Hid (OwnO (W1.setRow g (splice (cellsO (ops.drop k) ++ cur.toList.drop ((n - k) * 9)).toArray.toList ((n - k) * 9) news).toArray) 0 (.slice (some ⟨g, 0, none⟩) (n - k) cap) (ops.drop k)) := by
          refine OwnO.of hdl (Nat.zero_le _) (hB1.setRow _) (by rw [hdl]; omega) h2 (by rw [List.size_toArray, hE]) ?_
          rw [List.toList_toArray, splice_take _ _ _ _ (by rw [hdl]; omega) (by rw [List.toList_toArray, HL.out]; omega), List.toList_toArray, List.take_append_of_le_length (by rw [cellsO_len]; omega), List.take_of_length_le (by rw [cellsO_len]; omega)]
        have HG : Hid (w.grownBy (W1.setRow g (splice (cellsO (ops.drop k) ++ cur.toList.drop ((n - k) * 9)).toArray.toList ((n - k) * 9) news).toArray) (some g)) := hG1.andThen (grown_setRow _ _ _) (fun j hj => .inr hj)
        generalize splice (cellsO (ops.drop k) ++ cur.toList.drop ((n - k) * 9)).toArray.toList ((n - k) * 9) news = S at hcl HF HG
        have gm : (n : Int) - (k : Int) = ((n - k : Nat) : Int) := by omega
        have gm2 : ((n - k : Nat) : Int) ≤ (n : Int) := by omega
        have gm3 : n - (n - k) = k := by omega
        have gm4 : ¬ (cap - (n - k) = 0) := by omega
        have gm5 : ¬ (cap = n - k) := by omega
        clear hW1 hB1 hG1 HB HL hE hA H3 H4 HN hdl hnl
        go_wp2_with (at_builtin; refine wpList_clearR _ rfl _ 22 rfl _ rfl (hcl _) ?_)
        go_ret
        exact ⟨_, rfl, HF.out, HG.out, rfl⟩
end Go.Proofs.YtaomhhooipfjbaaDoor
