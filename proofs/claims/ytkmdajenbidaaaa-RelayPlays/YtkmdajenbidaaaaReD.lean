/- The library's slices.Delete at a relay's records. -/
import Derived.Test.YtkmdajenbidaaaaReA
import Derived.Lib.AppendZerosOnto
import Derived.Lib.Overlaps
import Derived.Laws.CopyOwn
namespace Go.Proofs.Ytkmdajenbidaaaa
open Go.RowKit
set_option maxRecDepth 100000
set_option linter.unusedSimpArgs false
set_option linter.unusedVariables false

/-- A row put behind one of the call's own: the row behind it is the same one, or a new one. -/
theorem append_nx {P : Program} {w : World} {e t ty : TypeId} {i : TypeInfo} {z : Value} {size bytes : Nat} (ht : P.underlying t = some (.slice e)) (hi : P.info? e = some i) (hz : i.zero = some z) (hsize : i.size = size) (hby : i.bytes = bytes) (hzs : z.cells.size = size) (hsz : 0 < size)
    {v : Value} {n : Nat} {xs : List Value} (hown : w.ownsRow 0 e size v n xs) (a : Addr) (m c : Nat) (news : List Value) (hl : news.length = m * size) (hnews : ∀ j u, news[j]? = some u → w.cell? (a.add j) = some u) (h1 : ∀ u ∈ news, u.oneCell' = true) (hb : (n + m) * bytes ≤ 140737488355328) (h63 : n + m ≤ maxLen) :
    ∃ v' w', (Builtin.append_ #[t, t] ty #[v, .slice (some a) m c]).run P w = .ok v' w' ∧ w'.ownsRow 0 e size v' (n + m) (xs ++ news) ∧ w.grownBy w' v.ownBlock ∧ Nx w v.ownBlock v'.ownBlock := by
  obtain ⟨v', w', hr, h2, h3, h4⟩ := run_append_own (P := P) w 0 t ty e i z size bytes ht hi hz hsize hby hzs hsz v n xs hown a m c news hl hnews h1 h63 hb (Nat.zero_le _)
  refine ⟨v', w', hr, h2, h3, ?_⟩
  rcases hown.2 with ⟨rfl, h0⟩ | ⟨g, cap, cur, rfl, _, hg, hnc, hcm, hcs, htake⟩
  · have hb2 : w.ownsRow w.heap.size e size (.slice none 0 0) n xs := ⟨hown.1, .inl ⟨rfl, h0⟩⟩
    obtain ⟨v2, w2, hr2, k2, _⟩ := run_append_own (P := P) w w.heap.size t ty e i z size bytes ht hi hz hsize hby hzs hsz _ n xs hb2 a m c news hl hnews h1 h63 hb (Nat.le_refl _)
    rw [hr] at hr2
    cases hr2
    exact fun k hk => Or.inr (World.ownsRow.lt k2 k hk).1
  · subst hsize
    by_cases hroom : n + m ≤ cap
    · have hfit : n * i.size + news.length ≤ cur.size := by
        rw [hl, hcs, ← Nat.add_mul]
        exact Nat.mul_le_mul_right _ hroom
      have hr2 := run_append_room (P := P) (w := w) t ty e i ht hi g n cap cur hg a m c news hl hnews h1 hroom hfit
      rw [hr] at hr2
      cases hr2
      exact fun k hk => Or.inl hk
    · have hr2 := run_append_grow (P := P) (w := w) t ty e i z ht hi hz ⟨g, 0, none⟩ n cap xs hown.1 (fun j u hj => by
        have hjl := (List.getElem?_eq_some_iff.1 hj).1
        rw [hown.1] at hjl
        rw [Go.WideShapes.add_plain, Nat.zero_add, World.ownsRow.cellAt hown j hjl]; exact hj) a m c news hl hnews (by omega) (by unfold maxLen at h63; omega) (by rw [hby]; exact growslice_fits (by omega) hb)
      rw [hr] at hr2
      cases hr2
      exact fun k hk => Or.inr (by cases hk; exact Nat.le_refl _)

/-- 'clear(s)' of operations in a block. -/
theorem run_clearI {w : World} {g : Nat} {cur : Array Value} (hb : Blk w 31 g cur) (d n c : Nat) (hn : 0 < n) (hfit : d + n * 3 ≤ cur.size) :
    ∃ news : List Value, news.length = n * 3 ∧ ∀ ty, (Builtin.clear_ #[29] ty #[.slice (some ⟨g, d, none⟩) n c]).run Try.prog w = .ok (.tuple #[]) (w.setRow g (splice cur.toList d news).toArray) := by
  obtain ⟨i0, hi, hz0, hz1, hz2⟩ := info_parts Try.infoI19
  refine ⟨(Builtin.zeroCells #[.int .i64 0, .int .i64 0, .string ⟨#[]⟩] n).toList, by simp [Builtin.zeroCells], fun ty => ?_⟩
  have h1 : ∀ u ∈ (Builtin.zeroCells #[.int .i64 0, .int .i64 0, .string ⟨#[]⟩] n).toList, u.oneCell' = true := by
    intro u hu
    simp only [Builtin.zeroCells, Array.toList_map, List.mem_map] at hu
    obtain ⟨k, _, rfl⟩ := hu
    have hk : k % 3 < 3 := Nat.mod_lt _ (by decide)
    rcases (show k % 3 = 0 ∨ k % 3 = 1 ∨ k % 3 = 2 by omega) with h | h | h <;> (simp only [List.size_toArray, List.length_cons, List.length_nil, Nat.zero_add, Nat.reduceAdd, h]; rfl)
  have hst := run_storeCells_at Try.prog g d 31 _ 0 cur w hb (by simp [Builtin.zeroCells]; omega) h1
  simp only [Nat.add_zero] at hst
  unfold Builtin.clear_
  cases n with
  | zero => omega
  | succ n => simp [run_underlying Try.underlying29, zeroValue, typeInfo, hi, hz0, Value.cells, hst, splice]

section
variable {P : Program} {ops : Array Oper} {rest : List Oper} {o : Oper} {a : Act} {K : Act → World → Prop} {Q : Exit → Act → World → Prop}

theorem wpList_clearR (w : World) (hgd : o.guard = none) (s : Operand) (t : TypeId) (ho : o.op = .call { callee := .builtin .clear, args := #[s], argTypes := #[t] }) (u : Value) (hs : a.eval s = u) {v' : Value} {w' : World}
    (hr : (Builtin.clear_ #[t] o.type #[u]).run P w = .ok v' w') (h : wpList P ops Q rest (a.put o.dst v') w') : wpList P ops Q (o :: rest) a w :=
  wpList_plain hgd fun _ hK => by
    unfold Oper.wp execOp
    simp only [ho, resolve, invoke, builtin, Sem.run_bind, Sem.run_pure, Result.andThen_ok, List.map_toArray, List.map_cons, List.map_nil, hs, hr]
    exact hK _ _ h
end

theorem splice_take {α : Type} (L : List α) (d : Nat) (news : List α) (k : Nat) (hk : k ≤ d) (hd : d ≤ L.length) : (splice L d news).take k = L.take k := by
  unfold splice
  rw [List.take_append_of_le_length (by rw [List.length_take]; omega), List.take_take]
  congr 1
  omega

theorem splice_len {α : Type} (L : List α) (d : Nat) (news : List α) (h : d + news.length ≤ L.length) : (splice L d news).length = L.length := length_splice L d news h

theorem cellsI_drop (l : List ItT) (k : Nat) : (cellsI l).drop (k * 3) = cellsI (l.drop k) := by
  induction l generalizing k with
  | nil => simp [cellsI]
  | cons x l ih =>
    cases k with
    | zero => simp
    | succ k =>
      show ((itemA x).toList ++ cellsI l).drop ((k + 1) * 3) = _
      have hl : (itemA x).toList.length = 3 := rfl
      rw [show (k + 1) * 3 = (itemA x).toList.length + k * 3 by rw [hl]; omega, List.drop_append, List.drop_of_length_le (by omega), Nat.add_sub_cancel_left, ih, List.nil_append]
      rfl

theorem cellsI_take (l : List ItT) (k : Nat) : (cellsI l).take (k * 3) = cellsI (l.take k) := by
  induction l generalizing k with
  | nil => simp [cellsI]
  | cons x l ih =>
    cases k with
    | zero => simp [cellsI]
    | succ k =>
      show ((itemA x).toList ++ cellsI l).take ((k + 1) * 3) = (itemA x).toList ++ cellsI (l.take k)
      have hl : (itemA x).toList.length = 3 := rfl
      rw [show (k + 1) * 3 = (itemA x).toList.length + k * 3 by rw [hl]; omega, List.take_append, List.take_of_length_le (by omega), Nat.add_sub_cancel_left, ih]




set_option maxRecDepth 100000 in
set_option maxHeartbeats 4000000 in
theorem deleteI_any (ops : List ItT) (k : Nat) (hk : k ≤ ops.length) (sl : Value) (w : World) (hO : OwnI19 w 0 sl ops) (hn : ops.length ≤ 60000) :
    Calls Try.prog 78 #[sl, .int .i64 0, .int .i64 (k : Int)] w fun e w' => ∃ sl', e = .returned sl' ∧ OwnI19 w' 0 sl' (ops.drop k) ∧ w.grownBy w' sl.ownBlock ∧ sl'.ownBlock = sl.ownBlock := by
  have HO : Hid (OwnI19 w 0 sl ops) := hO
  rcases hO.blk with ⟨rfl, rfl⟩ | ⟨g, cap, cur, rfl, _, hb, h1, h2, h3, h4⟩
  · obtain rfl : k = 0 := by simpa using hk
    clear hO
    go_enter Try.func78, Try.ntmps78
    go_wp2_with fail
    go_ret
    exact ⟨_, rfl, HO.out, ⟨rfl, rfl, rfl, Nat.le_refl _, fun _ _ _ => rfl⟩, rfl⟩
  · obtain ⟨n, hnn⟩ : ∃ n, ops.length = n := ⟨_, rfl⟩
    have hm63 : cap ≤ 9223372036854775807 := h2
    rw [hnn] at hk h1 h4 hn
    rw [hnn]
    by_cases hk0 : k = 0
    · subst hk0
      have HE : Hid (OwnI19 w 0 (.slice (some ⟨g, 0, none⟩) n cap) ops) := by show OwnI19 _ _ _ _; rw [← hnn]; exact HO.out
      clear hO HO h4 hb hnn
      go_enter Try.func78, Try.ntmps78
      go_wp2_with fail
      go_ret
      exact ⟨_, rfl, HE.out, ⟨rfl, rfl, rfl, Nat.le_refl _, fun _ _ _ => rfl⟩, rfl⟩
    · have g0 : ((0 : Int) == (k : Int)) = false := by rw [beq_eq_false_iff_ne]; omega
      have g1 : (k : Int) ≤ (n : Int) := by omega
      have g2 : ¬ ((k : Int) = 0) := by omega
      have g3 : ¬ ((0 : Int) = (k : Int)) := by omega
      have gk : k ≤ cap := by omega
      have HB : Hid (Blk w 31 g cur) := hb
      have H4 : Hid (cur.toList.take (n * 3) = cellsI ops) := h4
      have H3 : Hid (cur.size = cap * 3) := h3
      have HN : Hid (ops.length = n) := hnn
      clear hO HO h4 hb hnn h3 hm63
      have HL : Hid ((cellsI (ops.drop k) ++ cur.toList.drop ((n - k) * 3)).length = cap * 3) := by
        show _ = _
        rw [List.length_append, cellsI_len, List.length_drop, List.length_drop, HN.out, Array.length_toList, H3.out]
        omega
      have HA : Hid (∀ (ad : Addr) (c' : Nat), (∀ j u, (cellsI (ops.drop k))[j]? = some u → w.cell? (ad.add j) = some u) → ∀ ty, (Builtin.append_ #[29, 29] ty #[.slice (some ⟨g, 0, none⟩) 0 cap, .slice (some ad) (n - k) c']).run Try.prog w.drew = .ok (.slice (some ⟨g, 0, none⟩) (n - k) cap) (w.drew.setRow g (cellsI (ops.drop k) ++ cur.toList.drop ((n - k) * 3)).toArray)) := fun ad c' hs ty => by
        obtain ⟨i0, hi, hz0, hz1, hz2⟩ := info_parts Try.infoI19
        have hl : (cellsI (ops.drop k)).length = (n - k) * i0.size := by rw [cellsI_len, List.length_drop, HN.out, hz1]
        have := run_append_room (P := Try.prog) (w := w.drew) 29 ty 31 i0 Try.underlying29 hi g 0 cap cur HB.out ad (n - k) c' (cellsI (ops.drop k)) hl hs (cellsI_one _) (by omega) (by rw [hl, hz1, H3.out]; omega)
        rw [this, hl, hz1]
        simp
      by_cases hck : cap - k = 0
      · have hck2 : cap = k := by omega
        have hA := HA.out ⟨g, 0, none⟩ 0 (fun j u hj => by
          have := (List.getElem?_eq_some_iff.1 hj).1
          rw [cellsI_len, List.length_drop, HN.out] at this
          omega)
        obtain rfl : n = k := by omega
        subst hck2
        have HL2 : Hid ((cellsI (ops.drop cap) ++ cur.toList).length = cap * 3) := by
          have := HL.out
          rw [Nat.sub_self, Nat.zero_mul, List.drop_zero] at this
          exact this
        rw [Nat.sub_self, Nat.zero_mul, List.drop_zero] at hA
        clear HL
        have HL := HL2
        clear HA HL2
        go_enter Try.func78, Try.ntmps78
        go_wp2_with fail
        refine wp_region_noPanic ?_
        refine wp_region_held_drew (S := fun _ => True) (by kernel_rfl) (by first | exact trivial | assumption | exact ⟨by assumption, by assumption⟩) (fun hHeld => ?_)
        refine take_at (i := 0) (v := ?_) rfl rfl (by kernel_rfl) (by kernel_rfl) (by kernel_rfl) (fun _ _ _ h => h) (Or.inl ⟨by rfl, ?_⟩) (by assumption) ?_
        rotate_left
        · intro w hSw; (try dsimp only at hSw); go_simp; try with_reducible rfl
        try simp only [Act.put, List.setIfInBounds_toArray, List.set_cons_zero, List.set_cons_succ]
        refine take_at (i := 1) (v := ?_) rfl rfl (by kernel_rfl) (by kernel_rfl) (by kernel_rfl) (fun _ _ _ h => h) (Or.inl ⟨by rfl, ?_⟩) (by assumption) ?_
        rotate_left
        · intro w hSw; (try dsimp only at hSw); go_simp; try with_reducible rfl
        try simp only [Act.put, List.setIfInBounds_toArray, List.set_cons_zero, List.set_cons_succ]
        refine take_at (i := 2) (v := ?_) rfl rfl (by kernel_rfl) (by kernel_rfl) (by kernel_rfl) (fun _ _ _ h => h) (Or.inl ⟨by rfl, ?_⟩) (by assumption) ?_
        rotate_left
        · intro w hSw; (try dsimp only at hSw); go_simp; try with_reducible rfl
        try simp only [Act.put, List.setIfInBounds_toArray, List.set_cons_zero, List.set_cons_succ]
        refine take_at (i := 3) (v := ?_) rfl rfl (by kernel_rfl) (by kernel_rfl) (by kernel_rfl) (fun _ _ _ h => h) (Or.inl ⟨by rfl, ?_⟩) (by assumption) ?_
        rotate_left
        · intro w hSw; (try dsimp only at hSw); go_simp; try with_reducible rfl
        try simp only [Act.put, List.setIfInBounds_toArray, List.set_cons_zero, List.set_cons_succ]
        refine take_at (i := 4) (v := ?_) rfl rfl (by kernel_rfl) (by kernel_rfl) (by kernel_rfl) (fun _ _ _ h => h) (Or.inl ⟨by rfl, ?_⟩) (by assumption) ?_
        rotate_left
        · intro w hSw; (try dsimp only at hSw); go_simp; try with_reducible rfl
        try simp only [Act.put, List.setIfInBounds_toArray, List.set_cons_zero, List.set_cons_succ]
        refine take_at (i := 5) (v := ?_) rfl rfl (by kernel_rfl) (by kernel_rfl) (by kernel_rfl) (fun _ _ _ h => h) (Or.inl ⟨by rfl, ?_⟩) (by assumption) ?_
        rotate_left
        · intro w hSw; (try dsimp only at hSw); go_simp; try with_reducible rfl
        try simp only [Act.put, List.setIfInBounds_toArray, List.set_cons_zero, List.set_cons_succ]
        refine wpAnyH_ready (rs := [6]) (by kernel_rfl) (by simp) ?_
        refine AllReadyH.cons rfl (fun K hK => ?_) AllReadyH.nil
        refine Lib.wp_append_run _ _ _ 29 29 rfl _ _ rfl rfl _ _ (hA _) ?_
        refine hK.out _ _ trivial (fun hHeld => ?_)
        clear hK K
        refine take_at (i := 7) (v := ?_) rfl rfl (by kernel_rfl) (by kernel_rfl) (by kernel_rfl) (fun _ _ _ h => h) (Or.inl ⟨by rfl, ?_⟩) (by assumption) ?_
        rotate_left
        · intro w hSw; (try dsimp only at hSw); go_simp; try with_reducible rfl
        try simp only [Act.put, List.setIfInBounds_toArray, List.set_cons_zero, List.set_cons_succ]
        refine wpAnyH_done (by kernel_rfl) (NoPanic.normal ?_) _
        obtain ⟨W1, hW1⟩ : ∃ W1, w.drew.setRow g (cellsI (ops.drop cap) ++ cur.toList).toArray = W1 := ⟨_, rfl⟩
        have hB1 : Blk W1 31 g (cellsI (ops.drop cap) ++ cur.toList).toArray := by rw [← hW1]; exact (HB.out.on (Below.refl _ _).drew).setRow _
        have hG1 : w.grownBy W1 (some g) := by rw [← hW1]; exact (grown_drew w _).andThen (grown_setRow _ _ _) (fun j hj => .inr hj)
        rw [hW1]
        obtain ⟨news, hnl, hcl⟩ := run_clearI hB1 0 cap cap (by omega) (by rw [List.size_toArray, HL.out]; omega)
        have hE : (splice (cellsI (ops.drop cap) ++ cur.toList).toArray.toList 0 news).length = cap * 3 := by
          rw [splice_len _ _ _ (by rw [List.toList_toArray, HL.out, hnl]; omega), List.toList_toArray, HL.out]
        have hdl : (ops.drop cap).length = 0 := by rw [List.length_drop, HN.out]; omega
        have HF : Hid (OwnI19 (W1.setRow g (splice (cellsI (ops.drop cap) ++ cur.toList).toArray.toList 0 news).toArray) 0 (.slice (some ⟨g, 0, none⟩) 0 cap) (ops.drop cap)) := by
          refine OwnI19.of hdl (Nat.zero_le _) (hB1.setRow _) (by rw [hdl]; omega) h2 (by rw [List.size_toArray, hE]) ?_
          rw [List.toList_toArray, splice_take _ _ _ _ (by rw [hdl]; omega) (by rw [List.toList_toArray, HL.out]; omega), List.toList_toArray, List.take_append_of_le_length (by rw [cellsI_len]; omega), List.take_of_length_le (by rw [cellsI_len]; omega)]
        have HG : Hid (w.grownBy (W1.setRow g (splice (cellsI (ops.drop cap) ++ cur.toList).toArray.toList 0 news).toArray) (some g)) := hG1.andThen (grown_setRow _ _ _) (fun j hj => .inr hj)
        generalize splice (cellsI (ops.drop cap) ++ cur.toList).toArray.toList 0 news = S at hcl HF HG
        clear hW1 hB1 hG1 HB HL hE hA H3 H4 HN hdl hnl
        go_wp2_with (at_builtin; refine wpList_clearR _ rfl _ 29 rfl _ rfl (hcl _) ?_)
        go_ret
        exact ⟨_, rfl, HF.out, HG.out, rfl⟩
      · have hckN : ¬ (cap = k) := by omega
        have hA := HA.out ⟨g, k * 3, none⟩ (cap - k) (fun j u hj => by
          have hjl := (List.getElem?_eq_some_iff.1 hj).1
          rw [cellsI_len, List.length_drop, HN.out] at hjl
          rw [Go.WideShapes.add_plain, HB.out.cell]
          rw [← cellsI_drop, List.getElem?_drop, ← H4.out, List.getElem?_take_of_lt (by omega)] at hj
          rw [← Array.getElem?_toList]; exact hj)
        clear HA
        go_enter Try.func78, Try.ntmps78
        go_wp2_with fail
        refine wp_region_noPanic ?_
        refine wp_region_held_drew (S := fun _ => True) (by kernel_rfl) (by first | exact trivial | assumption | exact ⟨by assumption, by assumption⟩) (fun hHeld => ?_)
        refine take_at (i := 0) (v := ?_) rfl rfl (by kernel_rfl) (by kernel_rfl) (by kernel_rfl) (fun _ _ _ h => h) (Or.inl ⟨by rfl, ?_⟩) (by assumption) ?_
        rotate_left
        · intro w hSw; (try dsimp only at hSw); go_simp; try with_reducible rfl
        try simp only [Act.put, List.setIfInBounds_toArray, List.set_cons_zero, List.set_cons_succ]
        refine take_at (i := 1) (v := ?_) rfl rfl (by kernel_rfl) (by kernel_rfl) (by kernel_rfl) (fun _ _ _ h => h) (Or.inl ⟨by rfl, ?_⟩) (by assumption) ?_
        rotate_left
        · intro w hSw; (try dsimp only at hSw); go_simp; try with_reducible rfl
        try simp only [Act.put, List.setIfInBounds_toArray, List.set_cons_zero, List.set_cons_succ]
        refine take_at (i := 2) (v := ?_) rfl rfl (by kernel_rfl) (by kernel_rfl) (by kernel_rfl) (fun _ _ _ h => h) (Or.inl ⟨by rfl, ?_⟩) (by assumption) ?_
        rotate_left
        · intro w hSw; (try dsimp only at hSw); go_simp; try with_reducible rfl
        try simp only [Act.put, List.setIfInBounds_toArray, List.set_cons_zero, List.set_cons_succ]
        refine take_at (i := 3) (v := ?_) rfl rfl (by kernel_rfl) (by kernel_rfl) (by kernel_rfl) (fun _ _ _ h => h) (Or.inl ⟨by rfl, ?_⟩) (by assumption) ?_
        rotate_left
        · intro w hSw; (try dsimp only at hSw); go_simp; try with_reducible rfl
        try simp only [Act.put, List.setIfInBounds_toArray, List.set_cons_zero, List.set_cons_succ]
        refine take_at (i := 4) (v := ?_) rfl rfl (by kernel_rfl) (by kernel_rfl) (by kernel_rfl) (fun _ _ _ h => h) (Or.inl ⟨by rfl, ?_⟩) (by assumption) ?_
        rotate_left
        · intro w hSw; (try dsimp only at hSw); go_simp; try with_reducible rfl
        try simp only [Act.put, List.setIfInBounds_toArray, List.set_cons_zero, List.set_cons_succ]
        refine take_at (i := 5) (v := ?_) rfl rfl (by kernel_rfl) (by kernel_rfl) (by kernel_rfl) (fun _ _ _ h => h) (Or.inl ⟨by rfl, ?_⟩) (by assumption) ?_
        rotate_left
        · intro w hSw; (try dsimp only at hSw); go_simp; try with_reducible rfl
        try simp only [Act.put, List.setIfInBounds_toArray, List.set_cons_zero, List.set_cons_succ]
        refine wpAnyH_ready (rs := [6]) (by kernel_rfl) (by simp) ?_
        refine AllReadyH.cons rfl (fun K hK => ?_) AllReadyH.nil
        refine Lib.wp_append_run _ _ _ 29 29 rfl _ _ rfl rfl _ _ (hA _) ?_
        refine hK.out _ _ trivial (fun hHeld => ?_)
        clear hK K
        refine take_at (i := 7) (v := ?_) rfl rfl (by kernel_rfl) (by kernel_rfl) (by kernel_rfl) (fun _ _ _ h => h) (Or.inl ⟨by rfl, ?_⟩) (by assumption) ?_
        rotate_left
        · intro w hSw; (try dsimp only at hSw); go_simp; try with_reducible rfl
        try simp only [Act.put, List.setIfInBounds_toArray, List.set_cons_zero, List.set_cons_succ]
        refine wpAnyH_done (by kernel_rfl) (NoPanic.normal ?_) _
        obtain ⟨W1, hW1⟩ : ∃ W1, w.drew.setRow g (cellsI (ops.drop k) ++ cur.toList.drop ((n - k) * 3)).toArray = W1 := ⟨_, rfl⟩
        have hB1 : Blk W1 31 g (cellsI (ops.drop k) ++ cur.toList.drop ((n - k) * 3)).toArray := by rw [← hW1]; exact (HB.out.on (Below.refl _ _).drew).setRow _
        have hG1 : w.grownBy W1 (some g) := by rw [← hW1]; exact (grown_drew w _).andThen (grown_setRow _ _ _) (fun j hj => .inr hj)
        rw [hW1]
        obtain ⟨news, hnl, hcl⟩ := run_clearI hB1 ((n - k) * 3) k (cap - (n - k)) (by omega) (by rw [List.size_toArray, HL.out]; omega)
        have hE : (splice (cellsI (ops.drop k) ++ cur.toList.drop ((n - k) * 3)).toArray.toList ((n - k) * 3) news).length = cap * 3 := by
          rw [splice_len _ _ _ (by rw [List.toList_toArray, HL.out, hnl]; omega), List.toList_toArray, HL.out]
        have hdl : (ops.drop k).length = n - k := by rw [List.length_drop, HN.out]
        have HF : Hid (OwnI19 (W1.setRow g (splice (cellsI (ops.drop k) ++ cur.toList.drop ((n - k) * 3)).toArray.toList ((n - k) * 3) news).toArray) 0 (.slice (some ⟨g, 0, none⟩) (n - k) cap) (ops.drop k)) := by
          refine OwnI19.of hdl (Nat.zero_le _) (hB1.setRow _) (by rw [hdl]; omega) h2 (by rw [List.size_toArray, hE]) ?_
          rw [List.toList_toArray, splice_take _ _ _ _ (by rw [hdl]; omega) (by rw [List.toList_toArray, HL.out]; omega), List.toList_toArray, List.take_append_of_le_length (by rw [cellsI_len]; omega), List.take_of_length_le (by rw [cellsI_len]; omega)]
        have HG : Hid (w.grownBy (W1.setRow g (splice (cellsI (ops.drop k) ++ cur.toList.drop ((n - k) * 3)).toArray.toList ((n - k) * 3) news).toArray) (some g)) := hG1.andThen (grown_setRow _ _ _) (fun j hj => .inr hj)
        generalize splice (cellsI (ops.drop k) ++ cur.toList.drop ((n - k) * 3)).toArray.toList ((n - k) * 3) news = S at hcl HF HG
        have gm : (n : Int) - (k : Int) = ((n - k : Nat) : Int) := by omega
        have gm2 : ((n - k : Nat) : Int) ≤ (n : Int) := by omega
        have gm3 : n - (n - k) = k := by omega
        have gm4 : ¬ (cap - (n - k) = 0) := by omega
        have gm5 : ¬ (cap = n - k) := by omega
        clear hW1 hB1 hG1 HB HL hE hA H3 H4 HN hdl hnl
        go_wp2_with (at_builtin; refine wpList_clearR _ rfl _ 29 rfl _ rfl (hcl _) ?_)
        go_ret
        exact ⟨_, rfl, HF.out, HG.out, rfl⟩
end Go.Proofs.Ytkmdajenbidaaaa
