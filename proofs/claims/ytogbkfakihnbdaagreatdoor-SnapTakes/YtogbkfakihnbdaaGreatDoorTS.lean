import Derived.Test.YtogbkfakihnbdaaGreatDoorRT
import Derived.Test.YtogbkfakihnbdaaGreatDoorBA
import Derived.Lib.AppendZerosOnto
import Derived.Lib.Overlaps
import Derived.Laws.CopyOwn
import Derived.Laws.Externs
import Derived.Lib.SliceRun
/- The document's Apply (layer 11). -/
namespace Go.Proofs.YtogbkfakihnbdaaGreatDoor
open Go.RowKit
set_option linter.unusedSimpArgs false

/-- Operations of the call's own. -/
def cellsO (l : List OpT) : List Value := l.flatMap (fun x => (opA x).toList)

theorem cellsO_at (l : List OpT) : ∀ i, i < l.length → ∀ j, j < 9 → ∃ u, (opA (oL l i))[j]? = some u ∧ (cellsO l)[i * 9 + j]? = some u := by
  induction l with
  | nil => intro i hi; exact absurd hi (Nat.not_lt_zero _)
  | cons x l ih =>
    intro i hi j hj
    have hs : (opA x).toList.length = 9 := rfl
    cases i with
    | zero =>
      refine ⟨(opA x)[j]'(by show j < 9; exact hj), ?_, ?_⟩
      · show (opA x)[j]? = _
        exact Array.getElem?_eq_getElem _
      · show ((opA x).toList ++ cellsO l)[0 * 9 + j]? = _
        rw [Nat.zero_mul, Nat.zero_add, List.getElem?_append_left (by rw [hs]; exact hj), Array.getElem?_toList]
        exact Array.getElem?_eq_getElem _
    | succ i =>
      obtain ⟨u, h1, h2⟩ := ih i (by simp at hi; omega) j hj
      refine ⟨u, ?_, ?_⟩
      · have : oL (x :: l) (i + 1) = oL l i := rfl
        rw [this]; exact h1
      · show ((opA x).toList ++ cellsO l)[(i + 1) * 9 + j]? = _
        rw [List.getElem?_append_right (by rw [hs]; omega), hs, show (i + 1) * 9 + j - 9 = i * 9 + j by omega]
        exact h2

theorem cellsO_app (l m : List OpT) : cellsO (l ++ m) = cellsO l ++ cellsO m := by
  unfold cellsO; rw [List.flatMap_append]

theorem cellsO_len (l : List OpT) : (cellsO l).length = l.length * 9 := by
  induction l with
  | nil => rfl
  | cons x l ih =>
    show ((opA x).toList ++ cellsO l).length = _
    rw [List.length_append, ih, List.length_cons]
    show 9 + _ = _
    omega

theorem opA_one (x : OpT) : ∀ u ∈ (opA x).toList, u.oneCell' = true := by
  intro u hu
  simp [opA] at hu
  rcases hu with rfl | rfl | rfl | rfl | rfl | rfl | rfl | rfl | rfl <;> rfl

theorem cellsO_one (l : List OpT) : ∀ u ∈ cellsO l, u.oneCell' = true := by
  intro u hu
  unfold cellsO at hu
  obtain ⟨x, _, hx⟩ := List.mem_flatMap.1 hu
  exact opA_one x u hx

def OwnO (w : World) (B : Nat) (v : Value) (l : List OpT) : Prop := w.ownsRow B 37 9 v l.length (cellsO l)

theorem OwnO.nil (w : World) (B : Nat) : OwnO w B (.slice none 0 0) [] := World.ownsRow_nil _ _ _ _

theorem OwnO.ops {w : World} {B : Nat} {v : Value} {l : List OpT} (h : OwnO w B v l) : ∃ a cap, v = .slice a l.length cap ∧ OpsAt w a l.length l ∧ SliceOk a l.length cap := by
  obtain ⟨a, cap, hv, hr⟩ := rows_of_owns h (cellsO_at l)
  refine ⟨a, cap, hv, ⟨rfl, hr⟩, ?_⟩
  rcases h.2 with ⟨e, _⟩ | ⟨g, cap', cur, e, _, _, hnc, _⟩
  · rw [e] at hv; injection hv with e1 e2 e3; exact .inl ⟨e1.symm, e2.symm, e3.symm⟩
  · rw [e] at hv; cases hv; exact .inr ⟨_, rfl, hnc⟩

theorem Tryz.infoOp : (Tryz.prog.info? 37).map (fun i => (i.zero, i.size, i.bytes)) = some (some (.agg #[.int .i64 0, .int .i64 0, .int .i64 0, .int .i64 0, .int .i64 0, .int .i64 0, .int .i64 0, .string ⟨#[]⟩, .string ⟨#[]⟩]), 9, 88) := by kernel_rfl

/-- The operations from the k'th on, and the first k, put behind others. -/
theorem opsO_src {w : World} {b off n k m c : Nat} {l : List OpT} (h : OpsAt w (some ⟨b, off, none⟩) n l) (hk : k + m ≤ n) : SrcAt w (.slice (some ⟨b, off + k * 9, none⟩) m c) m (cellsO ((l.drop k).take m)) := by
  refine .inr ⟨_, c, rfl, fun j u hj => ?_⟩
  have hln := h.1
  have hjl := (List.getElem?_eq_some_iff.1 hj).1
  rw [cellsO_len, List.length_take, List.length_drop] at hjl
  have hi : j / 9 < ((l.drop k).take m).length := by rw [List.length_take, List.length_drop]; omega
  obtain ⟨u', h1, h2⟩ := cellsO_at ((l.drop k).take m) (j / 9) hi (j % 9) (by omega)
  rw [show j / 9 * 9 + j % 9 = j by omega, hj] at h2
  cases h2
  obtain ⟨b', off', ha, hc⟩ := h.2.some (by omega)
  cases ha
  obtain ⟨u2, h3, h4⟩ := hc (k + j / 9) (by omega) (j % 9) (by omega)
  have e : oL ((l.drop k).take m) (j / 9) = oL l (k + j / 9) := by
    unfold oL
    rw [List.getD_eq_getElem?_getD, List.getD_eq_getElem?_getD, List.getElem?_take_of_lt (by omega), List.getElem?_drop]
  rw [e, h3] at h1
  cases h1
  rw [Go.WideShapes.add_plain, ← h4]
  congr 2
  omega

end Go.Proofs.YtogbkfakihnbdaaGreatDoor

/- Operations of the call's own: put behind, copied, cleared. Plain facts. -/
namespace Go.Proofs.YtogbkfakihnbdaaGreatDoor
open Go.RowKit
set_option linter.unusedSimpArgs false

/-- A row put behind one of the call's own: the row behind it is the same one, or a new one. -/
theorem append_nx {P : Program} {w : World} {e t ty : TypeId} {i : TypeInfo} {z : Value} {size bytes : Nat} (ht : P.underlying t = some (.slice e)) (hi : P.info? e = some i) (hz : i.zero = some z) (hsize : i.size = size) (hby : i.bytes = bytes) (hzs : z.cells.size = size) (hsz : 0 < size)
    {v : Value} {n : Nat} {xs : List Value} (hown : w.ownsRow 0 e size v n xs) (a : Addr) (m c : Nat) (news : List Value) (hl : news.length = m * size) (hnews : ∀ j u, news[j]? = some u → w.cell? (a.add j) = some u) (h1 : ∀ u ∈ news, u.oneCell' = true) (hb : (n + m) * bytes ≤ 140737488355328) (h63 : n + m ≤ maxLen) :
    ∃ v' w', (Builtin.append_ #[t, t] ty #[v, .slice (some a) m c]).run P w = .ok v' w' ∧ w'.ownsRow 0 e size v' (n + m) (xs ++ news) ∧ w.grownBy w' v.ownBlock ∧ Nx w v.ownBlock v'.ownBlock := by
  obtain ⟨v', w', hr, h2, h3, h4⟩ := run_append_own (P := P) w 0 t ty e i z size bytes ht hi hz hsize hby hzs hsz v n xs hown a m c news hl hnews h1 h63 hb (Nat.zero_le _)
  refine ⟨v', w', hr, h2, h3, ?_⟩
  rcases hown.2 with ⟨rfl, h0⟩ | ⟨g, cap, cur, rfl, _, hg, hnc, hcm, hcs, htake⟩
  · have hb2 : w.ownsRow w.heap.size e size (.slice none 0 0) n xs := ⟨hown.1, .inl ⟨rfl, h0⟩⟩
    obtain ⟨v2, w2, hr2, k2, _⟩ := run_append_own (P := P) w w.heap.size t ty e i z size bytes ht hi hz hsize hby hzs hsz _ n xs hb2 a m c news hl hnews h1 h63 hb (Nat.le_refl _)
    rw [hr] at hr2
    cases hr2
    exact fun k hk => Or.inr (World.ownsRow.lt k2 k hk).1
  · subst hsize
    by_cases hroom : n + m ≤ cap
    · have hfit : n * i.size + news.length ≤ cur.size := by
        rw [hl, hcs, ← Nat.add_mul]
        exact Nat.mul_le_mul_right _ hroom
      have hr2 := run_append_room (P := P) (w := w) t ty e i ht hi g n cap cur hg a m c news hl hnews h1 hroom hfit
      rw [hr] at hr2
      cases hr2
      exact fun k hk => Or.inl hk
    · have hr2 := run_append_grow (P := P) (w := w) t ty e i z ht hi hz ⟨g, 0, none⟩ n cap xs hown.1 (fun j u hj => by
        have hjl := (List.getElem?_eq_some_iff.1 hj).1
        rw [hown.1] at hjl
        rw [Go.WideShapes.add_plain, Nat.zero_add, World.ownsRow.cellAt hown j hjl]; exact hj) a m c news hl hnews (by omega) (by unfold maxLen at h63; omega) (by rw [hby]; exact growslice_fits (by omega) hb)
      rw [hr] at hr2
      cases hr2
      exact fun k hk => Or.inr (by cases hk; exact Nat.le_refl _)

/-- 'copy(d, s)' of operations into a block. -/
theorem run_copyO {w : World} {g : Nat} {cur : Array Value} (hb : Blk w 37 g cur) (d dLen dc : Nat) (ad : Addr) (sLen sc m : Nat) (news : List Value) (hm : Nat.min sLen dLen = m) (hl : news.length = m * 9) (hsrc : ∀ j u, news[j]? = some u → w.cell? (ad.add j) = some u) (h1 : ∀ u ∈ news, u.oneCell' = true) (hfit : d + news.length ≤ cur.size) (ty : TypeId) :
    (Builtin.copy_ #[24, 24] ty #[.slice (some ⟨g, d, none⟩) dLen dc, .slice (some ad) sLen sc]).run Tryz.prog w = .ok (.int .i64 (m : Int)) (w.setRow g (splice cur.toList d news).toArray) := by
  obtain ⟨i0, hi, hz0, hz1, hz2⟩ := info_parts Tryz.infoOp
  have hf := run_firstCells_some (P := Tryz.prog) w 9 m ad sLen sc news hl hsrc
  have hst := run_storeCells_at Tryz.prog g d 37 news 0 cur w hb (by simpa using hfit) h1
  simp only [Nat.add_zero] at hst
  unfold Builtin.copy_
  simp [run_underlying Tryz.underlying24, sizeOf, typeInfo, hi, hz1, Builtin.lenOf, hm, hf, hst, splice, goInt]

section
variable {P : Program} {ops : Array Oper} {rest : List Oper} {o : Oper} {a : Act} {K : Act → World → Prop} {Q : Exit → Act → World → Prop}

theorem wp_copyR (w : World) (d s : Operand) (t t' : TypeId) (ho : o.op = .call { callee := .builtin .copy, args := #[d, s], argTypes := #[t, t'] }) (v u : Value) (hd : a.eval d = v) (hs : a.eval s = u) {v' : Value} {w' : World}
    (hr : (Builtin.copy_ #[t, t'] o.type #[v, u]).run P w = .ok v' w') (h : K (a.put o.dst v') w') : o.wp P a w K Q := by
  unfold Oper.wp execOp
  simp only [ho, resolve, invoke, builtin, Sem.run_bind, Sem.run_pure, Result.andThen_ok, List.map_toArray, List.map_cons, List.map_nil, hd, hs, hr]
  exact h

theorem wpList_copyR (w : World) (hgd : o.guard = none) (d s : Operand) (t t' : TypeId) (ho : o.op = .call { callee := .builtin .copy, args := #[d, s], argTypes := #[t, t'] }) (v u : Value) (hd : a.eval d = v) (hs : a.eval s = u) {v' : Value} {w' : World}
    (hr : (Builtin.copy_ #[t, t'] o.type #[v, u]).run P w = .ok v' w') (h : wpList P ops Q rest (a.put o.dst v') w') : wpList P ops Q (o :: rest) a w :=
  wpList_plain hgd fun _ hK => wp_copyR w d s t t' ho v u hd hs hr (hK _ _ h)

end
end Go.Proofs.YtogbkfakihnbdaaGreatDoor

/- The library's slices.Delete, slices.Clone at operations (layer 11). -/
namespace Go.Proofs.YtogbkfakihnbdaaGreatDoor
open Go.RowKit
set_option linter.unusedSimpArgs false

theorem splice_take {α : Type} (L : List α) (d : Nat) (news : List α) (k : Nat) (hk : k ≤ d) (hd : d ≤ L.length) : (splice L d news).take k = L.take k := by
  unfold splice
  rw [List.take_append_of_le_length (by rw [List.length_take]; omega), List.take_take]
  congr 1
  omega

theorem splice_len {α : Type} (L : List α) (d : Nat) (news : List α) (h : d + news.length ≤ L.length) : (splice L d news).length = L.length := length_splice L d news h

theorem cellsO_drop (l : List OpT) (k : Nat) : (cellsO l).drop (k * 9) = cellsO (l.drop k) := by
  induction l generalizing k with
  | nil => simp [cellsO]
  | cons x l ih =>
    cases k with
    | zero => simp
    | succ k =>
      show ((opA x).toList ++ cellsO l).drop ((k + 1) * 9) = _
      have hl : (opA x).toList.length = 9 := rfl
      rw [show (k + 1) * 9 = (opA x).toList.length + k * 9 by rw [hl]; omega, List.drop_append, List.drop_of_length_le (by omega), Nat.add_sub_cancel_left, ih, List.nil_append]
      rfl

theorem cellsO_take (l : List OpT) (k : Nat) : (cellsO l).take (k * 9) = cellsO (l.take k) := by
  induction l generalizing k with
  | nil => simp [cellsO]
  | cons x l ih =>
    cases k with
    | zero => simp [cellsO]
    | succ k =>
      show ((opA x).toList ++ cellsO l).take ((k + 1) * 9) = (opA x).toList ++ cellsO (l.take k)
      have hl : (opA x).toList.length = 9 := rfl
      rw [show (k + 1) * 9 = (opA x).toList.length + k * 9 by rw [hl]; omega, List.take_append, List.take_of_length_le (by omega), Nat.add_sub_cancel_left, ih]

/-- A row of operations of the call's own, with its block. -/
theorem OwnO.blk {w : World} {B : Nat} {v : Value} {l : List OpT} (h : OwnO w B v l) : (v = .slice none 0 0 ∧ l = []) ∨ ∃ g cap cur, v = .slice (some ⟨g, 0, none⟩) l.length cap ∧ B ≤ g ∧ Blk w 37 g cur ∧ l.length ≤ cap ∧ cap ≤ maxLen ∧ cur.size = cap * 9 ∧ cur.toList.take (l.length * 9) = cellsO l := by
  rcases h.2 with ⟨rfl, h0⟩ | ⟨g, cap, cur, h1, h2, h3, h4, h5, h6, h7⟩
  · exact .inl ⟨rfl, List.length_eq_zero_iff.1 h0⟩
  · exact .inr ⟨g, cap, cur, h1, h2, h3, h4, h5, h6, h7⟩

theorem OwnO.of {w : World} {B g cap : Nat} {cur : Array Value} {l : List OpT} {n : Nat} (hn : l.length = n) (hB : B ≤ g) (h : Blk w 37 g cur) (h1 : l.length ≤ cap) (h2 : cap ≤ maxLen) (h3 : cur.size = cap * 9) (h4 : cur.toList.take (l.length * 9) = cellsO l) : OwnO w B (.slice (some ⟨g, 0, none⟩) n cap) l := by
  subst hn
  exact ⟨cellsO_len l, .inr ⟨g, cap, cur, rfl, hB, h, h1, h2, h3, h4⟩⟩

theorem grown_setRow (w : World) (g : Nat) (cs : Array Value) : w.grownBy (w.setRow g cs) (some g) :=
  ⟨rfl, rfl, rfl, by simp [World.setRow], fun k _ hk => setRow_other w g k cs (fun e => hk (by rw [e]))⟩

theorem grown_drew (w : World) (row : Option Nat) : w.grownBy w.drew row := ⟨rfl, rfl, rfl, Nat.le_refl _, fun _ _ _ => rfl⟩

end Go.Proofs.YtogbkfakihnbdaaGreatDoor

/- The library's slices.Insert, slices.Clone at operations (layer 11). -/
namespace Go.Proofs.YtogbkfakihnbdaaGreatDoor
open Go.RowKit
set_option linter.unusedSimpArgs false

theorem splice_up {α : Type} (L v d : List α) (p q : Nat) (hq : q = p + v.length) (hL : q + d.length ≤ L.length) : (splice (splice L p v) q d).take (q + d.length) = L.take p ++ (v ++ d) := by
  subst hq
  have h1 : (splice L p v).take (p + v.length) = L.take p ++ v := by
    unfold splice
    rw [← List.append_assoc, List.take_append_of_le_length (by rw [List.length_append, List.length_take]; omega), List.take_of_length_le (by rw [List.length_append, List.length_take]; omega)]
  rw [show splice (splice L p v) (p + v.length) d = (splice L p v).take (p + v.length) ++ (d ++ (splice L p v).drop (p + v.length + d.length)) from rfl, h1, ← List.append_assoc, List.take_append_of_le_length (by rw [List.length_append, List.length_append, List.length_take]; omega), List.take_of_length_le (by rw [List.length_append, List.length_append, List.length_take]; omega), List.append_assoc]

theorem splice_down {α : Type} (L v d : List α) (p q : Nat) (hq : q = p + v.length) (hL : q + d.length ≤ L.length) : (splice (splice L q d) p v).take (q + d.length) = L.take p ++ (v ++ d) := by
  subst hq
  have h1 : (splice L (p + v.length) d).take p = L.take p := splice_take L _ d p (by omega) (by omega)
  have h2 : (splice L (p + v.length) d).drop (p + v.length) = d ++ L.drop (p + v.length + d.length) := by
    unfold splice
    rw [List.drop_append_of_le_length (by rw [List.length_take]; omega), List.drop_of_length_le (by rw [List.length_take]; omega), List.nil_append]
  rw [show splice (splice L (p + v.length) d) p v = (splice L (p + v.length) d).take p ++ (v ++ (splice L (p + v.length) d).drop (p + v.length)) from rfl, h1, h2, ← List.append_assoc, ← List.append_assoc, List.take_append_of_le_length (by rw [List.length_append, List.length_append, List.length_take]; omega), List.take_of_length_le (by rw [List.length_append, List.length_append, List.length_take]; omega), List.append_assoc]

theorem cellsO_put (ops : List OpT) (o : OpT) (i : Nat) : cellsO (ops.take i ++ o :: ops.drop i) = cellsO (ops.take i) ++ ((opA o).toList ++ cellsO (ops.drop i)) := by
  rw [cellsO_app]; rfl

set_option maxRecDepth 100000 in
set_option maxHeartbeats 4000000 in
/-- At the end. -/
theorem insert_end (ops : List OpT) (o : OpT) (sl : Value) (vb : Nat) (w : World) (hO : OwnO w 0 sl ops) (hn : ops.length ≤ 60000) (hv : Blk w 37 vb (opA o)) :
    Calls Tryz.prog 92 #[sl, .int .i64 (ops.length : Int), .slice (some ⟨vb, 0, none⟩) 1 1] w fun e w' => ∃ sl', e = .returned sl' ∧ OwnO w' 0 sl' (ops ++ [o]) ∧ w.grownBy w' sl.ownBlock ∧ Nx w sl.ownBlock sl'.ownBlock := by
  obtain ⟨i0, hi, hz0, hz1, hz2⟩ := info_parts Tryz.infoOp
  obtain ⟨v', w', hr, h2, h3, h4⟩ := append_nx (P := Tryz.prog) (ty := 0) Tryz.underlying24 hi hz0 hz1 hz2 rfl (by decide) hO ⟨vb, 0, none⟩ 1 1 (opA o).toList rfl (fun j u hj => by
    rw [Go.WideShapes.add_plain, Nat.zero_add, hv.cell j]
    simpa using hj) (opA_one o) (by omega) (by unfold maxLen; omega)
  have hA : ∀ ty, (Builtin.append_ #[24, 24] ty #[sl, .slice (some ⟨vb, 0, none⟩) 1 1]).run Tryz.prog w = .ok v' w' := fun _ => hr
  have HF : Hid (OwnO w' 0 v' (ops ++ [o])) := by
    show Go.World.ownsRow _ _ _ _ _ _ _
    rw [List.length_append, cellsO_app]
    have e : cellsO [o] = (opA o).toList := List.append_nil _
    rw [e]; exact h2
  have H3 : Hid (w.grownBy w' sl.ownBlock) := h3
  have H4 : Hid (Nx w sl.ownBlock v'.ownBlock) := h4
  rcases hO.blk with ⟨rfl, rfl⟩ | ⟨g, cap, cur, rfl, _, hb, k1, k2, k3, k4⟩
  · clear h2 h3 h4 hr hO hv hi hz0 hz1 hz2
    go_enter Tryz.func92, Tryz.ntmps92
    go_wp2_with (at_builtin; refine Lib.wpList_append_run _ rfl _ _ 24 24 rfl _ _ rfl rfl _ _ (hA _) ?_)
    go_ret
    exact ⟨_, rfl, HF.out, H3.out, H4.out⟩
  · obtain ⟨n, hnn⟩ : ∃ n, ops.length = n := ⟨_, rfl⟩
    rw [hnn] at hA k1 hn H3 H4 ⊢
    have hm63 : cap ≤ 9223372036854775807 := k2
    clear h2 h3 h4 hr hO hv hi hz0 hz1 hz2 hnn hb k3 k4
    by_cases hcn : cap = n
    · subst hcn
      go_enter Tryz.func92, Tryz.ntmps92
      go_wp2_with (at_builtin; refine Lib.wpList_append_run _ rfl _ _ 24 24 rfl _ _ rfl rfl _ _ (hA _) ?_)
      go_ret
      exact ⟨_, rfl, HF.out, H3.out, H4.out⟩
    · have hcn2 : ¬ (cap - n = 0) := by omega
      go_enter Tryz.func92, Tryz.ntmps92
      go_wp2_with (at_builtin; refine Lib.wpList_append_run _ rfl _ _ 24 24 rfl _ _ rfl rfl _ _ (hA _) ?_)
      go_ret
      exact ⟨_, rfl, HF.out, H3.out, H4.out⟩

theorem blk_shape {w : World} {t : TypeId} {g : Nat} {cur : Array Value} (h : Blk w t g cur) : w.shape? g = some (t, cur.size) := by
  unfold Blk at h
  simp [World.shape?, h]

/-- The new one does not lie among the others. -/
theorem overlaps_no {w : World} {g vb : Nat} {cur cs : Array Value} (hg : Blk w 37 g cur) (hv : Blk w 37 vb cs) (hne : vb ≠ g) (h0 : cur.size ≠ 0) (off lb cb : Nat) :
    (callFunc 101 #[.slice (some ⟨vb, 0, none⟩) 1 1, .slice (some ⟨g, off, none⟩) lb cb]).run Tryz.prog w = .ok (.value (.bool false)) w := by
  rw [run_callFunc_extern Tryz.func101 (by kernel_rfl) (by kernel_rfl) (by kernel_rfl) (e := Extern.SlicesOverlaps.overlaps #[24, 24] #[4]) (by kernel_rfl),
    Lib.run_overlaps_apart w 24 4 37 Tryz.underlying24 9 Tryz.sizeOf37 ⟨vb, 0, none⟩ ⟨g, off, none⟩ 1 1 lb cb hne _ _ _ _ (blk_shape hv) (blk_shape hg) h0 (hv.free 0) (hv.free _)]
  rfl

set_option maxRecDepth 100000 in
set_option maxHeartbeats 1000000 in
/-- In their midst, with room. -/
theorem insert_room (ops : List OpT) (o : OpT) (i : Nat) (g cap vb : Nat) (cur : Array Value) (w : World) (hi : i < ops.length) (hn : ops.length ≤ 60000) (hb : Blk w 37 g cur) (h1 : ops.length + 1 ≤ cap) (h2 : cap ≤ maxLen) (h3 : cur.size = cap * 9) (h4 : cur.toList.take (ops.length * 9) = cellsO ops) (hv : Blk w 37 vb (opA o)) (hne : vb ≠ g) :
    Calls Tryz.prog 92 #[.slice (some ⟨g, 0, none⟩) ops.length cap, .int .i64 (i : Int), .slice (some ⟨vb, 0, none⟩) 1 1] w fun e w' => e = .returned (.slice (some ⟨g, 0, none⟩) (ops.length + 1) cap) ∧ OwnO w' 0 (.slice (some ⟨g, 0, none⟩) (ops.length + 1) cap) (ops.take i ++ o :: ops.drop i) ∧ w.grownBy w' (some g) := by
  obtain ⟨n, hnn⟩ : ∃ n, ops.length = n := ⟨_, rfl⟩
  have hdl : (cellsO (ops.drop i)).length = (n - i) * 9 := by rw [cellsO_len, List.length_drop, hnn]
  rw [hnn] at hi hn h1 h4 ⊢
  have hov := fun lb cb => overlaps_no hb hv hne (by rw [h3]; omega) ((i + 1) * 9) lb cb
  have hc1 : ∀ ty dc sc, (Builtin.copy_ #[24, 24] ty #[.slice (some ⟨g, (i + 1) * 9, none⟩) (n - i) dc, .slice (some ⟨g, i * 9, none⟩) (n + 1 - i) sc]).run Tryz.prog w.drew = .ok (.int .i64 ((n - i : Nat) : Int)) (w.drew.setRow g (splice cur.toList ((i + 1) * 9) (cellsO (ops.drop i))).toArray) := fun ty dc sc =>
    run_copyO (hb.on (Below.refl _ _).drew) ((i + 1) * 9) _ _ ⟨g, i * 9, none⟩ _ _ (n - i) _ (by simp only [Nat.min_def]; split <;> omega) hdl (fun j u hj => by
      have hjl := (List.getElem?_eq_some_iff.1 hj).1
      rw [hdl] at hjl
      rw [Go.WideShapes.add_plain]
      show w.cell? _ = _
      rw [hb.cell]
      rw [← cellsO_drop, List.getElem?_drop, ← h4, List.getElem?_take_of_lt (by omega)] at hj
      rw [← Array.getElem?_toList]; exact hj) (cellsO_one _) (by rw [hdl, h3]; omega) ty
  obtain ⟨S1, hS1⟩ : ∃ S1, splice cur.toList ((i + 1) * 9) (cellsO (ops.drop i)) = S1 := ⟨_, rfl⟩
  have hL1 : S1.length = cap * 9 := by rw [← hS1, splice_len _ _ _ (by rw [hdl, Array.length_toList, h3]; omega), Array.length_toList, h3]
  rw [hS1] at hc1
  obtain ⟨W1, hW1⟩ : ∃ W1, w.drew.setRow g S1.toArray = W1 := ⟨_, rfl⟩
  rw [hW1] at hc1
  have hB1 : Blk W1 37 g S1.toArray := by rw [← hW1]; exact (hb.on (Below.refl _ _).drew).setRow _
  have hV1 : Blk W1 37 vb (opA o) := by rw [← hW1]; exact (hv.on (Below.refl _ _).drew).setRowOther g hne _
  have hG1 : w.grownBy W1 (some g) := by rw [← hW1]; exact (grown_drew w _).andThen (grown_setRow _ _ _) (fun j hj => .inr hj)
  have hc2 : ∀ ty dc, (Builtin.copy_ #[24, 24] ty #[.slice (some ⟨g, i * 9, none⟩) (n + 1 - i) dc, .slice (some ⟨vb, 0, none⟩) 1 1]).run Tryz.prog W1 = .ok (.int .i64 ((1 : Nat) : Int)) (W1.setRow g (splice S1.toArray.toList (i * 9) (opA o).toList).toArray) := fun ty dc =>
    run_copyO hB1 (i * 9) _ _ ⟨vb, 0, none⟩ _ _ 1 _ (by simp only [Nat.min_def]; split <;> omega) rfl (fun j u hj => by
      rw [Go.WideShapes.add_plain, Nat.zero_add, hV1.cell j]
      simpa using hj) (opA_one o) (by rw [List.size_toArray, hL1]; show i * 9 + 9 ≤ _; omega) ty
  have HF : Hid (OwnO (W1.setRow g (splice S1.toArray.toList (i * 9) (opA o).toList).toArray) 0 (.slice (some ⟨g, 0, none⟩) (n + 1) cap) (ops.take i ++ o :: ops.drop i)) := by
    have hlen : (ops.take i ++ o :: ops.drop i).length = n + 1 := by rw [List.length_append, List.length_cons, List.length_take, List.length_drop, hnn]; omega
    refine OwnO.of hlen (Nat.zero_le _) (hB1.setRow _) (by rw [hlen]; omega) h2 (by rw [List.size_toArray, splice_len _ _ _ (by rw [List.toList_toArray, hL1]; show i * 9 + 9 ≤ _; omega), List.toList_toArray, hL1]) ?_
    have hq := splice_down cur.toList (opA o).toList (cellsO (ops.drop i)) (i * 9) ((i + 1) * 9) (by show _ = i * 9 + 9; omega) (by rw [hdl, Array.length_toList, h3]; omega)
    rw [hlen, List.toList_toArray, List.toList_toArray, ← hS1, show (n + 1) * 9 = (i + 1) * 9 + (cellsO (ops.drop i)).length by rw [hdl]; omega, hq, cellsO_put]
    congr 1
    rw [← cellsO_take, ← h4, List.take_take]
    congr 1
    omega
  have HG : Hid (w.grownBy (W1.setRow g (splice S1.toArray.toList (i * 9) (opA o).toList).toArray) (some g)) := hG1.andThen (grown_setRow _ _ _) (fun j hj => .inr hj)
  generalize splice S1.toArray.toList (i * 9) (opA o).toList = S2 at hc2 HF HG
  have g1 : ((i : Int) == (n : Int)) = false := by rw [beq_eq_false_iff_ne]; omega
  have g2 : ¬ ((i : Int) = (n : Int)) := by omega
  have g3 : ¬ ((cap : Int) < (n : Int) + 1) := by omega
  have g4 : (n : Int) + 1 ≤ (cap : Int) := by omega
  have g5 : (i : Int) ≤ (n : Int) := by omega
  have g6 : (i : Int) + 1 ≤ (n : Int) + 1 := by omega
  have g7 : ¬ (cap = i) := by omega
  have g8 : ¬ (cap = i + 1) := by omega
  have g9 : ¬ (cap - i = 0) := by omega
  have g10 : ¬ (cap - (i + 1) = 0) := by omega
  have g11 : (i : Int) ≤ (n : Int) + 1 := by omega
  have hm63 : cap ≤ 9223372036854775807 := h2
  have HW1 : Hid (w.drew.setRow g S1.toArray = W1) := hW1
  clear hb h3 h4 hv hB1 hV1 hG1 hdl hL1 hS1 hnn hW1
  go_enter Tryz.func92, Tryz.ntmps92
  go_wp2_with (simp only [hov])
  have hw1 : IntKind.i64.wrap ((i : Int) + 1) = (i : Int) + 1 := by rw [IntKind.wrap_i64]; omega
  have hw2 : (0 : Int) ≤ (i : Int) + 1 := by omega
  have hw3 : ((i : Int) + 1).toNat = i + 1 := by omega
  refine wp_region_noPanic ?_
  refine wp_region_held_drew (S := fun _ => True) (by kernel_rfl) (by first | exact trivial | assumption | exact ⟨by assumption, by assumption⟩) (fun hHeld => ?_)
  refine tk 0 (v := ?_) rfl rfl ?_ ?_
  rotate_left
  · intro w hSw; (try dsimp only at hSw); go_simp; try with_reducible rfl
  try simp only [Act.put, za, zb, zc]
  refine tk 1 (v := ?_) rfl rfl ?_ ?_
  rotate_left
  · intro w hSw; (try dsimp only at hSw); go_simp; try with_reducible rfl
  try simp only [Act.put, za, zb, zc]
  refine tk 2 (v := ?_) rfl rfl ?_ ?_
  rotate_left
  · intro w hSw; (try dsimp only at hSw); go_simp; try with_reducible rfl
  try simp only [Act.put, za, zb, zc]
  refine tk 3 (v := ?_) rfl rfl ?_ ?_
  rotate_left
  · intro w hSw; (try dsimp only at hSw); go_simp; try with_reducible rfl
  try simp only [Act.put, za, zb, zc]
  refine tk 4 (v := ?_) rfl rfl ?_ ?_
  rotate_left
  · intro w hSw; (try dsimp only at hSw); go_simp; try with_reducible rfl
  try simp only [Act.put, za, zb, zc]
  refine tk 5 (v := ?_) rfl rfl ?_ ?_
  rotate_left
  · intro w hSw; (try dsimp only at hSw); go_simp; try with_reducible rfl
  try simp only [Act.put, za, zb, zc]
  refine tk 6 (v := ?_) rfl rfl ?_ ?_
  rotate_left
  · intro w hSw; (try dsimp only at hSw); go_simp; try with_reducible rfl
  try simp only [Act.put, za, zb, zc]
  refine tk 7 (v := ?_) rfl rfl ?_ ?_
  rotate_left
  · intro w hSw; (try dsimp only at hSw); go_simp; try with_reducible rfl
  try simp only [Act.put, za, zb, zc]
  refine wpAnyH_ready (rs := [8]) (by kernel_rfl) (by simp) ?_
  refine AllReadyH.cons rfl (fun K hK => ?_) AllReadyH.nil
  refine wp_copyR _ _ _ 24 24 rfl _ _ rfl rfl (hc1 _ _ _) ?_
  refine hK.out _ _ trivial (fun hHeld => ?_)
  clear hK K
  refine wpAnyH_done (by kernel_rfl) (NoPanic.normal ?_) _
  clear hc1 hov HW1
  go_wp2_with (at_builtin; refine wpList_copyR _ rfl _ _ 24 24 rfl _ _ rfl rfl (hc2 _ _) ?_)
  go_ret
  exact ⟨rfl, HF.out, HG.out⟩

set_option maxRecDepth 100000 in
set_option maxHeartbeats 1000000 in
/-- In their midst, without room. -/
theorem insert_grow (ops : List OpT) (o : OpT) (i : Nat) (g cap vb : Nat) (cur : Array Value) (w : World) (hi : i < ops.length) (hn : ops.length ≤ 60000) (hb : Blk w 37 g cur) (h1 : cap = ops.length) (h3 : cur.size = cap * 9) (h4 : cur.toList.take (ops.length * 9) = cellsO ops) (hv : Blk w 37 vb (opA o)) :
    Calls Tryz.prog 92 #[.slice (some ⟨g, 0, none⟩) ops.length cap, .int .i64 (i : Int), .slice (some ⟨vb, 0, none⟩) 1 1] w fun e w' => ∃ G, e = .returned (.slice (some ⟨w.heap.size, 0, none⟩) (ops.length + 1) G) ∧ OwnO w' 0 (.slice (some ⟨w.heap.size, 0, none⟩) (ops.length + 1) G) (ops.take i ++ o :: ops.drop i) ∧ w.grownBy w' none := by
  obtain ⟨i0, hi0, hz0, hz1, hz2⟩ := info_parts Tryz.infoOp
  obtain ⟨n, hnn⟩ : ∃ n, ops.length = n := ⟨_, rfl⟩
  have hdl : (cellsO (ops.drop i)).length = (n - i) * 9 := by rw [cellsO_len, List.length_drop, hnn]
  have htl : (cellsO (ops.take i)).length = i * 9 := by rw [cellsO_len, List.length_take, hnn]; omega
  rw [hnn] at hi hn h1 h4 ⊢
  subst h1
  have hgw := hb.lt
  have hvw := hv.lt
  have hold : (Builtin.firstCells i0.size i (.slice (some ⟨g, 0, none⟩) i cap)).run Tryz.prog w.drew = .ok (cellsO (ops.take i)).toArray w.drew := by
    rw [hz1]
    exact run_firstCells_some w.drew 9 i ⟨g, 0, none⟩ i cap (cellsO (ops.take i)) htl (fun j u hj => by
      have hjl := (List.getElem?_eq_some_iff.1 hj).1
      rw [htl] at hjl
      rw [Go.WideShapes.add_plain, Nat.zero_add]
      show w.cell? _ = _
      rw [hb.cell]
      rw [← cellsO_take, List.getElem?_take_of_lt hjl, ← h4, List.getElem?_take_of_lt (by omega)] at hj
      rw [← Array.getElem?_toList]; exact hj)
  obtain ⟨G, hG⟩ : ∃ G, G = grownCap w (cap + 1) cap 37 := ⟨_, rfl⟩
  have hGn : cap + 1 ≤ G := by rw [hG]; exact grownCap_ge w _ _ _
  have hG63 : G ≤ maxLen := by rw [hG]; exact grownCap_le_maxLen w (cap + 1) cap _ (by unfold maxLen; omega)
  obtain ⟨ROW, hROW⟩ : ∃ ROW : Array Value, ROW = (cellsO (ops.take i)).toArray ++ Builtin.zeroCells (Value.agg #[.int .i64 0, .int .i64 0, .int .i64 0, .int .i64 0, .int .i64 0, .int .i64 0, .int .i64 0, .string ⟨#[]⟩, .string ⟨#[]⟩]).cells (cap + 1 - i) ++ Builtin.zeroCells (Value.agg #[.int .i64 0, .int .i64 0, .int .i64 0, .int .i64 0, .int .i64 0, .int .i64 0, .int .i64 0, .string ⟨#[]⟩, .string ⟨#[]⟩]).cells (G - (cap + 1)) := ⟨_, rfl⟩
  have hRl : ROW.size = G * 9 := by
    rw [hROW]
    simp [Builtin.zeroCells, Value.cells, htl]
    omega
  have hRt : ROW.toList.take (i * 9) = cellsO (ops.take i) := by
    rw [hROW, Array.toList_append, Array.toList_append, List.append_assoc, List.toList_toArray, List.take_append_of_le_length (by rw [htl]; omega), List.take_of_length_le (by rw [htl]; omega)]
  have hZ : ∀ ty, (Builtin.append_ #[24, 3] ty #[.slice (some ⟨g, 0, none⟩) i cap, .int .i64 ((cap : Int) + 1 - (i : Int))]).run Tryz.prog w = .ok (.slice (some ⟨w.heap.size, 0, none⟩) (cap + 1) G) (w.drew.alloc (.cells ROW 37)) := fun ty => by
    have h := Lib.run_append_grow_zeros (P := Tryz.prog) w 24 3 ty 37 i0 _ .i64 .i64 Tryz.underlying24 Tryz.underlying3 hi0 hz0 (some ⟨g, 0, none⟩) i cap (cellsO (ops.take i)) hold (cap + 1 - i) (by omega) (by rw [hz1]; decide) (by omega) (by omega) (by rw [hz2]; omega) (by rw [hz2, show i + (cap + 1 - i) = cap + 1 by omega]; exact growslice_fits (by omega) (by omega))
    rw [show i + (cap + 1 - i) = cap + 1 by omega, ← hG, ← hROW] at h
    rw [show (cap : Int) + 1 - (i : Int) = ((cap + 1 - i : Nat) : Int) by omega]
    exact h
  obtain ⟨W1, hW1⟩ : ∃ W1, w.drew.alloc (.cells ROW 37) = W1 := ⟨_, rfl⟩
  rw [hW1] at hZ
  have hbw : Below w.heap.size w W1 := by rw [← hW1]; exact (Below.refl _ w).drew.alloc (Nat.le_refl _) _
  have hB1 : Blk W1 37 w.heap.size ROW := by rw [← hW1]; exact Blk.new w.drew _ _
  have hV1 : Blk W1 37 vb (opA o) := hv.on hbw
  have hO1 : Blk W1 37 g cur := hb.on hbw
  have hc2 : ∀ ty dc, (Builtin.copy_ #[24, 24] ty #[.slice (some ⟨w.heap.size, i * 9, none⟩) (cap + 1 - i) dc, .slice (some ⟨vb, 0, none⟩) 1 1]).run Tryz.prog W1 = .ok (.int .i64 ((1 : Nat) : Int)) (W1.setRow w.heap.size (splice ROW.toList (i * 9) (opA o).toList).toArray) := fun ty dc =>
    run_copyO hB1 (i * 9) _ _ ⟨vb, 0, none⟩ _ _ 1 _ (by simp only [Nat.min_def]; split <;> omega) rfl (fun j u hj => by
      rw [Go.WideShapes.add_plain, Nat.zero_add, hV1.cell j]
      simpa using hj) (opA_one o) (by rw [hRl]; show i * 9 + 9 ≤ _; omega) ty
  obtain ⟨S1, hS1⟩ : ∃ S1, splice ROW.toList (i * 9) (opA o).toList = S1 := ⟨_, rfl⟩
  have hL1 : S1.length = G * 9 := by rw [← hS1, splice_len _ _ _ (by show i * 9 + 9 ≤ _; rw [Array.length_toList, hRl]; omega), Array.length_toList, hRl]
  rw [hS1] at hc2
  obtain ⟨W2, hW2⟩ : ∃ W2, W1.setRow w.heap.size S1.toArray = W2 := ⟨_, rfl⟩
  rw [hW2] at hc2
  have hB2 : Blk W2 37 w.heap.size S1.toArray := by rw [← hW2]; exact hB1.setRow _
  have hO2 : Blk W2 37 g cur := by rw [← hW2]; exact hO1.setRowOther _ (by omega) _
  have hbw2 : Below w.heap.size w W2 := by rw [← hW2]; exact below_setRow hbw (Nat.le_refl _) _
  have hc1 : ∀ ty dc sc, (Builtin.copy_ #[24, 24] ty #[.slice (some ⟨w.heap.size, (i + 1) * 9, none⟩) (cap - i) dc, .slice (some ⟨g, i * 9, none⟩) (cap - i) sc]).run Tryz.prog W2.drew = .ok (.int .i64 ((cap - i : Nat) : Int)) (W2.drew.setRow w.heap.size (splice S1.toArray.toList ((i + 1) * 9) (cellsO (ops.drop i))).toArray) := fun ty dc sc =>
    run_copyO (hB2.on (Below.refl _ _).drew) ((i + 1) * 9) _ _ ⟨g, i * 9, none⟩ _ _ (cap - i) _ (by simp only [Nat.min_def]; split <;> omega) hdl (fun j u hj => by
      have hjl := (List.getElem?_eq_some_iff.1 hj).1
      rw [hdl] at hjl
      rw [Go.WideShapes.add_plain]
      show W2.cell? _ = _
      rw [hO2.cell]
      rw [← cellsO_drop, List.getElem?_drop, ← h4, List.getElem?_take_of_lt (by omega)] at hj
      rw [← Array.getElem?_toList]; exact hj) (cellsO_one _) (by rw [hdl, List.size_toArray, hL1]; omega) ty
  have HF : Hid (OwnO (W2.drew.setRow w.heap.size (splice S1.toArray.toList ((i + 1) * 9) (cellsO (ops.drop i))).toArray) 0 (.slice (some ⟨w.heap.size, 0, none⟩) (cap + 1) G) (ops.take i ++ o :: ops.drop i)) := by
    have hlen : (ops.take i ++ o :: ops.drop i).length = cap + 1 := by rw [List.length_append, List.length_cons, List.length_take, List.length_drop, hnn]; omega
    refine OwnO.of hlen (Nat.zero_le _) ((hB2.on (Below.refl _ _).drew).setRow _) (by rw [hlen]; omega) hG63 (by rw [List.size_toArray, splice_len _ _ _ (by rw [List.toList_toArray, hL1, hdl]; omega), List.toList_toArray, hL1]) ?_
    have hq := splice_up ROW.toList (opA o).toList (cellsO (ops.drop i)) (i * 9) ((i + 1) * 9) (by show _ = i * 9 + 9; omega) (by rw [hdl, Array.length_toList, hRl]; omega)
    rw [hlen, List.toList_toArray, List.toList_toArray, ← hS1, show (cap + 1) * 9 = (i + 1) * 9 + (cellsO (ops.drop i)).length by rw [hdl]; omega, hq, cellsO_put, hRt]
  have HG : Hid (w.grownBy (W2.drew.setRow w.heap.size (splice S1.toArray.toList ((i + 1) * 9) (cellsO (ops.drop i))).toArray) none) := by
    have hb3 : Below w.heap.size w (W2.drew.setRow w.heap.size (splice S1.toArray.toList ((i + 1) * 9) (cellsO (ops.drop i))).toArray) := below_setRow hbw2.drew (Nat.le_refl _) _
    exact ⟨hb3.os, hb3.tape, hb3.output, hb3.size, fun k hk _ => hb3.block k hk⟩
  generalize splice S1.toArray.toList ((i + 1) * 9) (cellsO (ops.drop i)) = S2 at hc1 HF HG
  have g1 : ((i : Int) == (cap : Int)) = false := by rw [beq_eq_false_iff_ne]; omega
  have g2 : ¬ ((i : Int) = (cap : Int)) := by omega
  have g3 : (cap : Int) < (cap : Int) + 1 := by omega
  have g5 : (i : Int) ≤ (cap : Int) := by omega
  have g6 : (i : Int) + 1 ≤ (cap : Int) + 1 := by omega
  have g7 : ¬ (cap = i) := by omega
  have g8 : ¬ (G = i + 1) := by omega
  have g9 : ¬ (cap - i = 0) := by omega
  have g10 : ¬ (G - (i + 1) = 0) := by omega
  have g11 : (i : Int) ≤ (cap : Int) + 1 := by omega
  have g12 : ¬ (G = i) := by omega
  have g13 : ¬ (G - i = 0) := by omega
  have hm63 : G ≤ 9223372036854775807 := hG63
  clear hb h3 h4 hv hB1 hV1 hO1 hB2 hO2 hdl htl hL1 hS1 hnn hW1 hW2 hbw hbw2 hold hG hGn hG63 hROW hRl hRt hi0 hz0 hz1 hz2
  go_enter Tryz.func92, Tryz.ntmps92
  go_wp2_with (first
    | (at_builtin; refine Lib.wpList_append_run _ rfl _ _ 24 3 rfl _ _ rfl rfl _ _ (hZ _) ?_)
    | (at_builtin; refine wpList_copyR _ rfl _ _ 24 24 rfl _ _ rfl rfl (hc2 _ _) ?_))
  have hw1 : IntKind.i64.wrap ((i : Int) + 1) = (i : Int) + 1 := by rw [IntKind.wrap_i64]; omega
  have hw2 : (0 : Int) ≤ (i : Int) + 1 := by omega
  have hw3 : ((i : Int) + 1).toNat = i + 1 := by omega
  refine wp_region_noPanic ?_
  refine wp_region_held_drew (S := fun _ => True) (by kernel_rfl) (by first | exact trivial | assumption | exact ⟨by assumption, by assumption⟩) (fun hHeld => ?_)
  refine tk 0 (v := ?_) rfl rfl ?_ ?_
  rotate_left
  · intro w hSw; (try dsimp only at hSw); go_simp; try with_reducible rfl
  try simp only [Act.put, za, zb, zc]
  refine tk 1 (v := ?_) rfl rfl ?_ ?_
  rotate_left
  · intro w hSw; (try dsimp only at hSw); go_simp; try with_reducible rfl
  try simp only [Act.put, za, zb, zc]
  refine tk 2 (v := ?_) rfl rfl ?_ ?_
  rotate_left
  · intro w hSw; (try dsimp only at hSw); go_simp; try with_reducible rfl
  try simp only [Act.put, za, zb, zc]
  refine tk 3 (v := ?_) rfl rfl ?_ ?_
  rotate_left
  · intro w hSw; (try dsimp only at hSw); go_simp; try with_reducible rfl
  try simp only [Act.put, za, zb, zc]
  refine tk 4 (v := ?_) rfl rfl ?_ ?_
  rotate_left
  · intro w hSw; (try dsimp only at hSw); go_simp; try with_reducible rfl
  try simp only [Act.put, za, zb, zc]
  refine tk 5 (v := ?_) rfl rfl ?_ ?_
  rotate_left
  · intro w hSw; (try dsimp only at hSw); go_simp; try with_reducible rfl
  try simp only [Act.put, za, zb, zc]
  refine tk 6 (v := ?_) rfl rfl ?_ ?_
  rotate_left
  · intro w hSw; (try dsimp only at hSw); go_simp; try with_reducible rfl
  try simp only [Act.put, za, zb, zc]
  refine tk 7 (v := ?_) rfl rfl ?_ ?_
  rotate_left
  · intro w hSw; (try dsimp only at hSw); go_simp; try with_reducible rfl
  try simp only [Act.put, za, zb, zc]
  refine wpAnyH_ready (rs := [8]) (by kernel_rfl) (by simp) ?_
  refine AllReadyH.cons rfl (fun K hK => ?_) AllReadyH.nil
  refine wp_copyR _ _ _ 24 24 rfl _ _ rfl rfl (hc1 _ _ _) ?_
  refine hK.out _ _ trivial (fun hHeld => ?_)
  clear hK K
  refine wpAnyH_done (by kernel_rfl) (NoPanic.normal ?_) _
  clear hc1 hc2 hZ
  go_wp2_with fail
  go_ret
  exact ⟨G, rfl, HF.out, HG.out⟩

theorem insert_any (ops : List OpT) (o : OpT) (i : Nat) (hi : i ≤ ops.length) (sl : Value) (vb : Nat) (w : World) (hO : OwnO w 0 sl ops) (hn : ops.length ≤ 60000) (hv : Blk w 37 vb (opA o)) (hne : sl.ownBlock ≠ some vb) :
    Calls Tryz.prog 92 #[sl, .int .i64 (i : Int), .slice (some ⟨vb, 0, none⟩) 1 1] w fun e w' => ∃ sl', e = .returned sl' ∧ OwnO w' 0 sl' (ops.take i ++ o :: ops.drop i) ∧ w.grownBy w' sl.ownBlock ∧ Nx w sl.ownBlock sl'.ownBlock := by
  by_cases hin : i = ops.length
  · subst hin
    rw [List.take_length, List.drop_length]
    exact insert_end ops o sl vb w hO hn hv
  · rcases hO.blk with ⟨rfl, rfl⟩ | ⟨g, cap, cur, rfl, _, hb, h1, h2, h3, h4⟩
    · exact absurd (Nat.le_zero.1 hi) hin
    · by_cases hc : ops.length + 1 ≤ cap
      · refine (insert_room ops o i g cap vb cur w (by omega) hn hb hc h2 h3 h4 hv (fun e => hne (by rw [e]; rfl))).mono ?_
        rintro e w' ⟨rfl, k1, k2⟩
        exact ⟨_, rfl, k1, k2, Nx.refl _ _⟩
      · refine (insert_grow ops o i g cap vb cur w (by omega) hn hb (by omega) h3 h4 hv).mono ?_
        rintro e w' ⟨G, rfl, k1, k2⟩
        exact ⟨_, rfl, k1, k2.but _, fun k hk => .inr (by cases hk; exact Nat.le_refl _)⟩

end Go.Proofs.YtogbkfakihnbdaaGreatDoor

/- Rows of operations and of nodes, and snapshots by value, among a law's parameters. -/
namespace Go.Proofs.YtogbkfakihnbdaaGreatDoor
open Go.ChangeShapes Go.WideShapes Go.RowKit

end Go.Proofs.YtogbkfakihnbdaaGreatDoor
