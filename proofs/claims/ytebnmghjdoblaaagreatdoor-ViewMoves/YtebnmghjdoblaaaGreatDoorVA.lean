import Derived.Test.YtebnmghjdoblaaaGreatDoorRT
import Derived.Test.YtebnmghjdoblaaaGreatDoorBA
import Derived.Test.YtebnmghjdoblaaaGreatDoorG
import Derived.Lib.AppendStr
import Derived.Deep.DeepCutAuto
import Derived.Deep.CutBlock
import Derived.Test.YtebnmghjdoblaaaGreatDoorR8b
/- Lines on plain data; the document's find, SameLines (layer 12). -/
namespace Go.Proofs.YtebnmghjdoblaaaGreatDoor
open Go.RowKit
set_option linter.unusedSimpArgs false

/-- A line: its depth, its number, its name, its value. -/
abbrev LineT := Int × (Int × Int) × ByteArray × ByteArray

def lineA (x : LineT) : Array Value := #[.int .i64 x.1, .int .i64 x.2.1.1, .int .i64 x.2.1.2, .string x.2.2.1, .string x.2.2.2]

def lL (l : List LineT) (i : Nat) : LineT := l.getD i (0, (0, 0), ByteArray.empty, ByteArray.empty)

def LinesAt (w : World) (a : Option Addr) (n : Nat) (l : List LineT) : Prop := l.length = n ∧ RowsAt w a n 5 (fun i => lineA (lL l i))

theorem LinesAt.below {w w' : World} {a : Option Addr} {n : Nat} {l : List LineT} (h : LinesAt w a n l) (hb : Below w.heap.size w w') : LinesAt w' a n l := ⟨h.1, h.2.below (Nat.le_refl _) hb⟩

theorem LinesAt.cells {w : World} {b off n : Nat} {l : List LineT} (h : LinesAt w (some ⟨b, off, none⟩) n l) (i : Nat) (hi : i < n) :
    w.cell? ⟨b, off + i * 5, none⟩ = some (.int .i64 (lL l i).1) ∧ w.cell? ⟨b, off + i * 5 + 1, none⟩ = some (.int .i64 (lL l i).2.1.1) ∧ w.cell? ⟨b, off + i * 5 + 2, none⟩ = some (.int .i64 (lL l i).2.1.2) ∧ w.cell? ⟨b, off + i * 5 + 3, none⟩ = some (.string (lL l i).2.2.1) ∧ w.cell? ⟨b, off + i * 5 + 4, none⟩ = some (.string (lL l i).2.2.2) := by
  obtain ⟨b', off', ha, hc⟩ := h.2.some (by omega)
  simp only [Option.some.injEq, Addr.mk.injEq] at ha
  obtain ⟨rfl, rfl, _⟩ := ha
  have hh : ∀ j, j < 5 → ∀ v, (lineA (lL l i))[j]? = some v → w.cell? ⟨b, off + i * 5 + j, none⟩ = some v := fun j hj v hv => by
    obtain ⟨u, h1, h2⟩ := hc i hi j hj
    rw [h2, ← h1]; exact hv
  exact ⟨hh 0 (by decide) _ rfl, hh 1 (by decide) _ rfl, hh 2 (by decide) _ rfl, hh 3 (by decide) _ rfl, hh 4 (by decide) _ rfl⟩

set_option maxRecDepth 100000 in
set_option maxHeartbeats 1000000 in
theorem lineEq (x y : LineT) (w : World) : (Op.equalIn 10000 43 (.agg (lineA x)) (.agg (lineA y))).run Tryz.prog w = .ok (decide (x = y)) w := by
  obtain ⟨k, ⟨a, b⟩, s, t⟩ := x
  obtain ⟨k', ⟨a', b'⟩, s', t'⟩ := y
  have u3 := Tryz.underlying3
  have a3 := Tryz.isAgg3
  have z3 := Tryz.sizeOf3
  have u9 := Tryz.underlying9
  have a9 := Tryz.isAgg9
  have z9 := Tryz.sizeOf9
  unfold lineA
  rw [show (10000 : Nat) = 9999 + 1 from rfl, Op.equalIn]
  simp only [Sem.run_bind, run_underlying Tryz.underlying43, Result.andThen_ok]
  go_simp
  simp only [txt_iff, ite_ok, Bool.and_true, Bool.and_assoc]

theorem lineEq_is (x y : LineT) (D : Bool) (h : decide (x = y) = D) (w : World) : (Op.equalIn 10000 43 (.agg (lineA x)) (.agg (lineA y))).run Tryz.prog w = .ok D w := by
  rw [lineEq, ← h]

/-- Lines of the call's own. -/
def cellsL (l : List LineT) : List Value := l.flatMap (fun x => (lineA x).toList)

theorem cellsL_at (l : List LineT) : ∀ i, i < l.length → ∀ j, j < 5 → ∃ u, (lineA (lL l i))[j]? = some u ∧ (cellsL l)[i * 5 + j]? = some u := by
  induction l with
  | nil => intro i hi; exact absurd hi (Nat.not_lt_zero _)
  | cons x l ih =>
    intro i hi j hj
    have hs : (lineA x).toList.length = 5 := rfl
    cases i with
    | zero =>
      refine ⟨(lineA x)[j]'(by show j < 5; exact hj), ?_, ?_⟩
      · show (lineA x)[j]? = _
        exact Array.getElem?_eq_getElem _
      · show ((lineA x).toList ++ cellsL l)[0 * 5 + j]? = _
        rw [Nat.zero_mul, Nat.zero_add, List.getElem?_append_left (by rw [hs]; exact hj), Array.getElem?_toList]
        exact Array.getElem?_eq_getElem _
    | succ i =>
      obtain ⟨u, h1, h2⟩ := ih i (by simp at hi; omega) j hj
      refine ⟨u, ?_, ?_⟩
      · have : lL (x :: l) (i + 1) = lL l i := rfl
        rw [this]; exact h1
      · show ((lineA x).toList ++ cellsL l)[(i + 1) * 5 + j]? = _
        rw [List.getElem?_append_right (by rw [hs]; omega), hs, show (i + 1) * 5 + j - 5 = i * 5 + j by omega]
        exact h2

theorem cellsL_app (l m : List LineT) : cellsL (l ++ m) = cellsL l ++ cellsL m := by
  unfold cellsL; rw [List.flatMap_append]

theorem cellsL_one1 (x : LineT) : cellsL [x] = (lineA x).toList := by unfold cellsL; simp

theorem cellsL_len (l : List LineT) : (cellsL l).length = l.length * 5 := by
  induction l with
  | nil => rfl
  | cons x l ih =>
    show ((lineA x).toList ++ cellsL l).length = _
    rw [List.length_append, ih, List.length_cons]
    show 5 + _ = _
    omega

theorem lineA_one (x : LineT) : ∀ u ∈ (lineA x).toList, u.oneCell' = true := by
  intro u hu
  simp [lineA] at hu
  rcases hu with rfl | rfl | rfl | rfl | rfl <;> rfl

theorem cellsL_one (l : List LineT) : ∀ u ∈ cellsL l, u.oneCell' = true := by
  intro u hu
  unfold cellsL at hu
  obtain ⟨x, _, hx⟩ := List.mem_flatMap.1 hu
  exact lineA_one x u hx

def OwnL (w : World) (B : Nat) (v : Value) (l : List LineT) : Prop := w.ownsRow B 43 5 v l.length (cellsL l)

theorem OwnL.nil (w : World) (B : Nat) : OwnL w B (.slice none 0 0) [] := World.ownsRow_nil _ _ _ _

theorem OwnL.lines {w : World} {B : Nat} {v : Value} {l : List LineT} (h : OwnL w B v l) : ∃ a cap, v = .slice a l.length cap ∧ LinesAt w a l.length l ∧ SliceOk a l.length cap := by
  obtain ⟨a, cap, hv, hr⟩ := rows_of_owns h (cellsL_at l)
  refine ⟨a, cap, hv, ⟨rfl, hr⟩, ?_⟩
  rcases h.2 with ⟨e, _⟩ | ⟨g, cap', cur, e, _, _, hnc, _⟩
  · rw [e] at hv; injection hv with e1 e2 e3; exact .inl ⟨e1.symm, e2.symm, e3.symm⟩
  · rw [e] at hv; cases hv; exact .inr ⟨_, rfl, hnc⟩

theorem Tryz.infoLine : (Tryz.prog.info? 43).map (fun i => (i.zero, i.size, i.bytes)) = some (some (.agg #[.int .i64 0, .int .i64 0, .int .i64 0, .string ⟨#[]⟩, .string ⟨#[]⟩]), 5, 56) := by kernel_rfl

set_option maxRecDepth 100000 in
set_option maxHeartbeats 2000000 in
theorem rfindV_any (l : List ((Int × Int) × (Int × Int) × ByteArray × ByteArray)) (id : Int × Int) (r : Int) (hr : FindE l id r) (a : Option Addr) (n c : Nat) (w : World) (hn : n ≤ 1048576) (hI : NodesAt w a n l) :
    Calls Tryz.prog 74 #[.slice a n c, stampV id] w fun e w' => e = .returned (.int .i64 r) ∧ Below w.heap.size w w' := by
  have HI : Hid (NodesAt w a n l) := hI
  have HR : Hid (FindE l id r) := hr
  have hln := hI.1
  clear hI hr
  obtain ⟨t, u⟩ := id
  show Calls Tryz.prog _ #[.slice a n c, .agg #[.int .i64 t, .int .i64 u]] w _
  go_enter Tryz.func74, Tryz.ntmps74
  go_wp2_with fail
  generalize hq : World.alloc w _ = w0
  have hb0 : Below w.heap.size w w0 := by rw [← hq]; exact below_new w _
  have d0 : w0.cell? ⟨w.heap.size, 0, none⟩ = some (.int .i64 t) := by rw [← hq]; simp
  have d1 : w0.cell? ⟨w.heap.size, 1, none⟩ = some (.int .i64 u) := by rw [← hq]; simp
  have HI0 : Hid (NodesAt w0 a n l) := HI.out.below hb0
  clear hq HI
  go_loopw [5] (fun i wr => ∃ k : Nat, k ≤ n ∧ i = .int .i64 k ∧ Hid (∀ j, j < k → (nL l j).1 ≠ (t, u)) ∧ Below w0.heap.size w0 wr) (fun i _ => n - (intOf i).toNat)
  case atStart => exact ⟨0, Nat.zero_le _, rfl, fun j hj => absurd hj (Nat.not_lt_zero _), Below.refl _ _⟩
  case round =>
    obtain ⟨k, hk, rfl, HN, hbl⟩ := hrel
    by_cases hlt : k < n
    · obtain ⟨b, off, rfl, _⟩ := HI0.out.2.some (by omega)
      obtain ⟨q0, q1, _⟩ := HI0.out.cells k hlt
      have x0 : wr.cell? ⟨b, off + k * 6, none⟩ = some (.int .i64 (nL l k).1.1) := by rw [hbl.cell (World.block_lt_of_cell? w0 _ q0)]; exact q0
      have x1 : wr.cell? ⟨b, off + k * 6 + 1, none⟩ = some (.int .i64 (nL l k).1.2) := by rw [hbl.cell (World.block_lt_of_cell? w0 _ q1)]; exact q1
      have y0 : wr.cell? ⟨w.heap.size, 0, none⟩ = some (.int .i64 t) := by rw [hbl.cell (World.block_lt_of_cell? w0 _ d0)]; exact d0
      have y1 : wr.cell? ⟨w.heap.size, 1, none⟩ = some (.int .i64 u) := by rw [hbl.cell (World.block_lt_of_cell? w0 _ d1)]; exact d1
      have b0 : (k : Int) < (n : Int) := by omega
      by_cases he : (nL l k).1 = (t, u)
      · have hE := fun w => stampEq_is (nL l k).1 (t, u) true (decide_eq_true he) w
        obtain rfl : r = (k : Int) := findE_uniq HR.out (.inr ⟨k, rfl, by omega, he, HN.out⟩)
        clear HR HN he q0 q1 d0 d1
        obtain ⟨⟨p, q⟩, hpq⟩ : ∃ s, s = (nL l k).1 := ⟨_, rfl⟩
        rw [← hpq] at x0 x1 hE
        clear hpq
        go_wp2_with fail
        go_quiet (fail)
        go_wp2_with fail
        go_ret
        exact ⟨rfl, below_drewN (below_step hb0 (Nat.le_refl _) hbl) _⟩
      · have hE := fun w => stampEq_is (nL l k).1 (t, u) false (decide_eq_false he) w
        have HN' : Hid (∀ j, j < k + 1 → (nL l j).1 ≠ (t, u)) := by
          show ∀ j, _
          intro j hj
          by_cases e : j = k
          · subst e; exact he
          · exact HN.out j (by omega)
        clear HN he q0 q1 d0 d1
        obtain ⟨⟨p, q⟩, hpq⟩ : ∃ s, s = (nL l k).1 := ⟨_, rfl⟩
        rw [← hpq] at x0 x1 hE
        clear hpq
        go_wp2_with fail
        go_quiet (fail)
        go_wp2_with fail
        refine ⟨⟨k + 1, by omega, by go_num, HN', below_drewN hbl _⟩, ?_⟩
        simp [intOf]; omega
    · have hk' : k = n := by omega
      subst hk'
      obtain rfl : r = -1 := findE_uniq HR.out (.inl ⟨rfl, fun i hi => HN.out i (by omega)⟩)
      go_wp2
      go_ret
      exact ⟨rfl, below_step hb0 (Nat.le_refl _) hbl⟩

set_option maxRecDepth 100000 in
set_option maxHeartbeats 2000000 in
theorem rsameLines_any (l m : List (Int × (Int × Int) × ByteArray × ByteArray)) (D : Bool) (hD : D = true ↔ l = m) (a a' : Option Addr) (n n' c c' : Nat) (w : World) (hn : n ≤ 1048576) (hn' : n' ≤ 1048576) (hI : LinesAt w a n l) (hI' : LinesAt w a' n' m) :
    Calls Tryz.prog 14 #[.slice a n c, .slice a' n' c'] w fun e w' => e = .returned (.bool D) ∧ Below w.heap.size w w' := by
  have HI : Hid (LinesAt w a n l) := hI
  have HI' : Hid (LinesAt w a' n' m) := hI'
  have HD : Hid (D = true ↔ l = m) := hD
  have hl := hI.1
  have hl' := hI'.1
  clear hI hI' hD
  by_cases hnn : n = n'
  · subst hnn
    have g0 : ((n : Int) != (n : Int)) = false := by simp
    go_enter Tryz.func14, Tryz.ntmps14
    go_wp2_with fail
    go_loopw [5] (fun i wr => ∃ k : Nat, k ≤ n ∧ i = .int .i64 k ∧ Hid (∀ j, j < k → lL l j = lL m j) ∧ Below w.heap.size w wr) (fun i _ => n - (intOf i).toNat)
    case atStart => exact ⟨0, Nat.zero_le _, rfl, fun j hj => absurd hj (Nat.not_lt_zero _), Below.refl _ _⟩
    case round =>
      obtain ⟨k, hk, rfl, HN, hbl⟩ := hrel
      by_cases hlt : k < n
      · have HIr := HI.out.below hbl
        have HIr' := HI'.out.below hbl
        obtain ⟨b, off, rfl, _⟩ := HIr.2.some (by omega)
        obtain ⟨b', off', rfl, _⟩ := HIr'.2.some (by omega)
        obtain ⟨x0, x1, x2, x3, x4⟩ := HIr.cells k hlt
        obtain ⟨y0, y1, y2, y3, y4⟩ := HIr'.cells k hlt
        have b0 : (k : Int) < (n : Int) := by omega
        clear HIr HIr'
        by_cases he : lL l k = lL m k
        · have hE := fun w => lineEq_is (lL l k) (lL m k) true (decide_eq_true he) w
          have HN' : Hid (∀ j, j < k + 1 → lL l j = lL m j) := by
            show ∀ j, _
            intro j hj
            by_cases e : j = k
            · subst e; exact he
            · exact HN.out j (by omega)
          clear HN he
          obtain ⟨⟨p0, ⟨p1, p2⟩, p5, p6⟩, hp⟩ : ∃ s, s = lL l k := ⟨_, rfl⟩
          obtain ⟨⟨q0, ⟨q1, q2⟩, q5, q6⟩, hq⟩ : ∃ s, s = lL m k := ⟨_, rfl⟩
          rw [← hp] at x0 x1 x2 x3 x4 hE
          rw [← hq] at y0 y1 y2 y3 y4 hE
          simp only [lineA] at hE
          clear hp hq
          go_wp2_with fail
          go_quiet (fail)
          go_wp2_with fail
          refine ⟨⟨k + 1, by omega, by go_num, HN', below_drewN hbl _⟩, ?_⟩
          simp [intOf]; omega
        · have hE := fun w => lineEq_is (lL l k) (lL m k) false (decide_eq_false he) w
          obtain rfl : D = false := by
            cases D with
            | false => rfl
            | true => exact absurd (congrArg (fun z => lL z k) (HD.out.1 rfl)) he
          clear HN he HD
          obtain ⟨⟨p0, ⟨p1, p2⟩, p5, p6⟩, hp⟩ : ∃ s, s = lL l k := ⟨_, rfl⟩
          obtain ⟨⟨q0, ⟨q1, q2⟩, q5, q6⟩, hq⟩ : ∃ s, s = lL m k := ⟨_, rfl⟩
          rw [← hp] at x0 x1 x2 x3 x4 hE
          rw [← hq] at y0 y1 y2 y3 y4 hE
          simp only [lineA] at hE
          clear hp hq
          go_wp2_with fail
          go_quiet (fail)
          go_wp2_with fail
          go_ret
          exact ⟨rfl, below_drewN hbl _⟩
      · have hk' : k = n := by omega
        subst hk'
        obtain rfl : D = true := HD.out.2 (same_list _ l m (by omega) (fun i hi => HN.out i (by omega)))
        go_wp2
        go_ret
        exact ⟨rfl, hbl⟩
  · have g0 : ((n : Int) != (n' : Int)) = true := by rw [bne_iff_ne]; omega
    obtain rfl : D = false := by
      cases D with
      | false => rfl
      | true => have := congrArg List.length (HD.out.1 rfl); omega
    clear HD HI HI'
    go_enter Tryz.func14, Tryz.ntmps14
    go_wp2_with fail
    go_ret
    exact ⟨rfl, Below.refl _ _⟩

end Go.Proofs.YtebnmghjdoblaaaGreatDoor

/- Append of one to a row of the call's own, whatever it holds. -/

namespace Go.Proofs.YtebnmghjdoblaaaGreatDoor
open Go.RowKit

theorem wpList_appG {P : Program} {ops : Array Oper} {rest : List Oper} {o : Oper} {a : Act} {Q : Exit → Act → World → Prop} (hgd : o.guard = none) (s x : Operand) (t : TypeId)
    (ho : o.op = .call { callee := .builtin .append, args := #[s, x], argTypes := #[t, t] })
    (B : Nat) (e : TypeId) (i : TypeInfo) (z : Value) (c bytes : Nat) (ht : P.underlying t = some (.slice e)) (hi : P.info? e = some i) (hz : i.zero = some z) (hsize : i.size = c) (hby : i.bytes = bytes) (hzs : z.cells.size = c) (hc : 0 < c)
    (W : World) (v : Value) (n : Nat) (xs : List Value) (hs : a.eval s = v) (hown : W.ownsRow B e c v n xs) (cs : Array Value) (hcs : cs.size = c) (h1 : ∀ u ∈ cs.toList, u.oneCell' = true) (hx : a.eval x = .slice (some ⟨W.heap.size, 0, none⟩) 1 1)
    (hn : (n + 1) * bytes ≤ 140737488355328) (hn' : n + 1 ≤ maxLen) (hB : B ≤ W.heap.size)
    (h : ∀ v' w', w'.ownsRow B e c v' (n + 1) (xs ++ cs.toList) → Below B W w' → wpList P ops Q rest (a.put o.dst v') w') :
    wpList P ops Q (o :: rest) a (W.alloc (.cells cs e)) := by
  refine wpList_append_own _ hgd s x t ho B e i z c bytes ht hi hz hsize hby hzs hc v n _ hs (World.ownsRow.alloc hown _) ⟨W.heap.size, 0, none⟩ 1 1 cs.toList hx (by simp [hcs]) ?_ h1 hn' hn (by simp; omega) ?_
  · intro j u hj
    rw [Go.WideShapes.add_plain, Nat.zero_add, cell_of_row _ _ _ cs e (0, 0) (heap_alloc_last W _)]
    simpa using hj
  · intro v' w' h1 h2 _
    exact h v' w' h1 (((Below.refl B W).alloc hB _).grown h2 (by simp; omega) (fun k hk => (World.ownsRow.lt hown k hk).1))
end Go.Proofs.YtebnmghjdoblaaaGreatDoor

/- The document's Text (layer 12). -/
namespace Go.Proofs.YtebnmghjdoblaaaGreatDoor
open Go.RowKit
set_option linter.unusedSimpArgs false

theorem ext_whole (s : ByteArray) : s.extract 0 s.size = s := by
  refine bt_ext _ _ (by rw [ByteArray.size_extract]; omega) (fun i hi => ?_)
  rw [ByteArray.size_extract] at hi
  rw [bt_extract s 0 s.size i (by omega) (by omega), Nat.zero_add]

/-- A row of bytes of the call's own, as a text. -/
theorem conv_cells {P : Program} {w : World} {B n : Nat} {e : TypeId} {v : Value} {s : ByteArray} (h : w.ownsRow B e 1 v n (Lib.strCells s)) (src dst : TypeId) (hs : P.underlying src = some (.slice e)) (he : P.underlying e = some (.int .u8)) (hd : P.underlying dst = some .string) :
    (convert src dst v).run P w = .ok (.string s) w := by
  have hn : s.size = n := by have := h.1; rw [Lib.strCells_length] at this; omega
  rcases h.2 with ⟨rfl, rfl⟩ | ⟨g, cap, cur, rfl, r⟩
  · have : s = ⟨#[]⟩ := by apply bt_ext; exact hn; intro i hi; omega
    subst this
    exact run_convert_bytes_nil w src e hs he 0 0 dst hd
  · have := (row_of_owns h).conv (P := P) (bt_lt _) n cap (by omega) src dst hs he hd
    rw [this]
    congr 2
    refine bt_ext _ _ ?_ (fun j hj => ?_)
    · show (bytesOf n (bt s)).toArray.size = _
      rw [List.size_toArray, bytesOf_length]; omega
    · have hj' : j < n := by
        have h2 : (bytesOf n (bt s)).toArray.size = n := by rw [List.size_toArray, bytesOf_length]
        have h3 : j < (bytesOf n (bt s)).toArray.size := hj
        omega
      exact bt_bytesOf n (bt s) j hj' (bt_lt s j)

theorem app_none (X : ByteArray) : X ++ (⟨#[]⟩ : ByteArray) = X := ByteArray.append_empty

/-- So many times two blanks. -/
def blanksB : Nat → ByteArray
  | 0 => ⟨#[]⟩
  | k + 1 => blanksB k ++ ⟨#[32, 32]⟩

theorem blanksB_size (k : Nat) : (blanksB k).size = 2 * k := by
  induction k with
  | zero => rfl
  | succ k ih => show (blanksB k ++ ⟨#[32, 32]⟩).size = _; rw [ByteArray.size_append, ih]; show _ + 2 = _; omega

/-- How deep a line is shown. -/
def deepN (d : Int) : Nat := if d ≤ 512 then d.toNat else 0

/-- A line as text. -/
def lineB (x : LineT) : ByteArray := ((blanksB (deepN x.1) ++ x.2.2.1) ++ (if x.2.2.2.size = 0 then ⟨#[]⟩ else ⟨#[61]⟩ ++ x.2.2.2)) ++ ⟨#[10]⟩

/-- Lines as text. -/
def textB (l : List LineT) : Nat → ByteArray
  | 0 => ⟨#[]⟩
  | k + 1 => textB l k ++ lineB (lL l k)

theorem deepN_le (d : Int) : deepN d ≤ 512 := by unfold deepN; split <;> omega

theorem lineB_size (x : LineT) (h1 : x.2.2.1.size ≤ 1048576) (h2 : x.2.2.2.size ≤ 1048576) : (lineB x).size ≤ 2100000 := by
  unfold lineB
  have := deepN_le x.1
  rw [ByteArray.size_append, ByteArray.size_append, ByteArray.size_append, blanksB_size]
  have e1 : (⟨#[10]⟩ : ByteArray).size = 1 := rfl
  split
  · have e2 : (⟨#[]⟩ : ByteArray).size = 0 := rfl
    omega
  · rw [ByteArray.size_append]
    have e2 : (⟨#[61]⟩ : ByteArray).size = 1 := rfl
    omega

theorem textB_size (l : List LineT) (hz : ∀ k, k < l.length → (lL l k).2.2.1.size ≤ 1048576 ∧ (lL l k).2.2.2.size ≤ 1048576) : ∀ k, k ≤ l.length → (textB l k).size ≤ 2100000 * k := by
  intro k
  induction k with
  | zero => intro _; exact Nat.le_refl _
  | succ k ih =>
    intro hk
    have h1 := ih (by omega)
    have h2 := lineB_size (lL l k) (hz k (by omega)).1 (hz k (by omega)).2
    show (textB l k ++ lineB (lL l k)).size ≤ _
    rw [ByteArray.size_append]
    omega



set_option maxRecDepth 100000 in
set_option maxHeartbeats 8000000 in
theorem rtextV_any (l : List LineT) (a : Option Addr) (n c : Nat) (w : World) (hn : n ≤ 1000) (hz : ∀ k, k < n → (lL l k).2.2.1.size ≤ 1048576 ∧ (lL l k).2.2.2.size ≤ 1048576) (hI : LinesAt w a n l) :
    Calls Tryz.prog 22 #[.slice a n c] w fun e w' => e = .returned (.string (textB l n)) ∧ Below w.heap.size w w' := by
  have HI : Hid (LinesAt w a n l) := hI
  have HZ : Hid (∀ k, k < n → (lL l k).2.2.1.size ≤ 1048576 ∧ (lL l k).2.2.2.size ≤ 1048576) := hz
  have HT : Hid (∀ k, k ≤ n → (textB l k).size ≤ 2100000 * k) := fun k hk => textB_size l (fun j hj => hz j (by rw [← hI.1]; exact hj)) k (by rw [hI.1]; exact hk)
  obtain ⟨E, hE⟩ : ∃ E, textB l n = E := ⟨_, rfl⟩
  have HE : Hid (textB l n = E) := hE
  rw [hE]
  clear hI hz hE
  obtain ⟨i0, hi, hz0, hz1, hz2⟩ := info_parts Tryz.info5
  go_enter Tryz.func22, Tryz.ntmps22
  go_wp2_with fail
  go_loopw [3, 4] (fun v i wr => ∃ (k : Nat) (S : ByteArray), k ≤ n ∧ i = .int .i64 k ∧ Hid (S = textB l k) ∧ Hid (wr.ownsRow w.heap.size 5 1 v S.size (Lib.strCells S)) ∧ Hid (Below w.heap.size w wr)) (fun _ i _ => n - (intOf i).toNat)
  case atStart => exact ⟨0, ⟨#[]⟩, Nat.zero_le _, rfl, rfl, World.ownsRow_nil _ _ _ _, Below.refl _ _⟩
  case round =>
    obtain ⟨k, S, hk, rfl, HS, HO, HB⟩ := hrel
    by_cases hlt : k < n
    · have b0 : (k : Int) < (n : Int) := by omega
      obtain ⟨b, off, rfl, _⟩ := HI.out.2.some (by omega)
      have HC : Hid (∀ W, Below w.heap.size w W → W.cell? ⟨b, off + k * 5, none⟩ = some (.int .i64 (lL l k).1) ∧ W.cell? ⟨b, off + k * 5 + 3, none⟩ = some (.string (lL l k).2.2.1) ∧ W.cell? ⟨b, off + k * 5 + 4, none⟩ = some (.string (lL l k).2.2.2)) := fun W hW => by
        obtain ⟨x0, _, _, x3, x4⟩ := (HI.out.below hW).cells k hlt
        exact ⟨x0, x3, x4⟩
      obtain ⟨hz3, hz4⟩ := HZ.out k hlt
      have hS0 : S.size ≤ 2100000 * k := by rw [HS.out]; exact HT.out k hk
      have HS' : Hid (S ++ lineB (lL l k) = textB l (k + 1)) := by show _ = _; rw [HS.out]; rfl
      obtain ⟨⟨d, id, nm, vl⟩, hx⟩ : ∃ x, x = lL l k := ⟨_, rfl⟩
      simp only [← hx] at HC hz3 hz4 HS'
      clear hx HS
      have HD : Hid (deepN d = if d ≤ 512 then d.toNat else 0) := rfl
      obtain ⟨q, hq⟩ : ∃ q, deepN d = q := ⟨_, rfl⟩
      have hq5 : q ≤ 512 := by rw [← hq]; exact deepN_le d
      rw [hq] at HD
      have HQ : Hid (deepN d = q) := hq
      clear hq
      go_upto_block 2 with fail
      go_cut [3, 5] (fun v kv wx => ∃ j : Nat, kv = .int .i64 j ∧ Hid (wx.ownsRow w.heap.size 5 1 v (S ++ blanksB q).size (Lib.strCells (S ++ blanksB q))) ∧ Hid (Below w.heap.size w wx))
      case first =>
        go_wp2_with fail
        go_loopw [3, 5] (fun v kv wx => ∃ j : Nat, j ≤ q ∧ kv = .int .i64 j ∧ Hid (wx.ownsRow w.heap.size 5 1 v (S ++ blanksB j).size (Lib.strCells (S ++ blanksB j))) ∧ Hid (Below w.heap.size w wx)) (fun _ kv _ => 512 - (intOf kv).toNat)
        case atStart =>
          refine ⟨0, Nat.zero_le _, rfl, ?_, HB⟩
          show World.ownsRow _ _ _ _ _ _ _
          rw [show S ++ blanksB 0 = S from ByteArray.append_empty]
          exact HO.out
        case round =>
          clear HO HB
          obtain ⟨j, hj, rfl, HO, HB⟩ := hrel
          obtain ⟨x0, _, _⟩ := HC.out wr HB.out
          have hsz : Hid ((S ++ blanksB j).size = S.size + 2 * j) := by show _ = _; rw [ByteArray.size_append, blanksB_size]
          by_cases hjq : j < q
          · have c0 : (j : Int) < d := by have := HD.out; split at this <;> omega
            have c1 : d ≤ 512 := by have := HD.out; split at this <;> omega
            have e2 : (⟨#[32, 32]⟩ : ByteArray).size = 2 := rfl
            go_wp2_with (at_builtin; refine Lib.wpList_append_own_string _ rfl _ _ 50 9 rfl w.heap.size 5 i0 Tryz.underlying50 Tryz.underlying9 hi hz0 hz1 hz2 _ _ _ rfl HO.out ⟨#[32, 32]⟩ rfl (by have := hsz.out; rw [e2]; unfold maxLen; omega) (by have := hsz.out; rw [e2]; omega) HB.out.size ?_)
            intro v4 w4 ho4 hg4 _
            have HO4 : Hid (w4.ownsRow w.heap.size 5 1 v4 (S ++ blanksB (j + 1)).size (Lib.strCells (S ++ blanksB (j + 1)))) := by
              show World.ownsRow _ _ _ _ _ _ _
              have e3 : S ++ blanksB (j + 1) = (S ++ blanksB j) ++ ⟨#[32, 32]⟩ := by show S ++ (blanksB j ++ _) = _; rw [ByteArray.append_assoc]
              rw [e3, strCells_append, ByteArray.size_append, ByteArray.size_append]
              exact ho4
            have HB4 : Hid (Below w.heap.size w w4) := HB.out.grown hg4 HB.out.size (fun k hk => (World.ownsRow.lt HO.out k hk).1)
            have w9 : IntKind.i64.wrap ((j : Int) + 1) = ((j + 1 : Nat) : Int) := by rw [IntKind.wrap_i64]; omega
            clear ho4 hg4 HO HB
            go_wp2_with fail
            refine ⟨?_, ?_⟩
            · exact ⟨j + 1, by omega, (by first | rfl | go_num | trivial), HO4, HB4⟩
            · simp [intOf] <;> omega
          · obtain rfl : j = q := by omega
            by_cases hjd : (j : Int) < d
            · have c1 : ¬ (d ≤ 512) := by have := HD.out; split at this <;> omega
              go_wp2_with fail
              go_meet
              case rel => exact ⟨j, rfl, HO, HB⟩
            · go_wp2_with fail
              go_meet
              case rel => exact ⟨j, rfl, HO, HB⟩
      case rest =>
        clear HO HB
        obtain ⟨j, rfl, HO, HB⟩ := hcut
        obtain ⟨_, x3, _⟩ := HC.out wc HB.out
        have hsz : Hid ((S ++ blanksB q).size = S.size + 2 * q) := by show _ = _; rw [ByteArray.size_append, blanksB_size]
        go_wp2_with (at_builtin; refine Lib.wpList_append_own_string _ rfl _ _ 50 9 rfl w.heap.size 5 i0 Tryz.underlying50 Tryz.underlying9 hi hz0 hz1 hz2 _ _ _ rfl HO.out nm rfl (by have := hsz.out; unfold maxLen; omega) (by have := hsz.out; omega) HB.out.size ?_)
        intro v4 w4 ho4 hg4 _
        have HB4 : Hid (Below w.heap.size w w4) := HB.out.grown hg4 HB.out.size (fun k hk => (World.ownsRow.lt HO.out k hk).1)
        obtain ⟨A, hA⟩ : ∃ A, (S ++ blanksB q) ++ nm = A := ⟨_, rfl⟩
        have hAs : Hid (A.size = S.size + 2 * q + nm.size) := by show _ = _; rw [← hA, ByteArray.size_append, hsz.out]
        have HA : Hid ((S ++ blanksB q) ++ nm = A) := hA
        have HO4 : Hid (w4.ownsRow w.heap.size 5 1 v4 A.size (Lib.strCells A)) := by
          show World.ownsRow _ _ _ _ _ _ _
          rw [← hA, strCells_append, ByteArray.size_append, ByteArray.size_append]
          exact ho4
        clear hA
        obtain ⟨_, _, x4⟩ := HC.out w4 HB4.out
        clear ho4 hg4 HO HB x3
        by_cases hv0 : vl.size = 0
        · obtain rfl : vl = ⟨#[]⟩ := bt_ext _ _ hv0 (fun i hi => by omega)
          have HS2 : Hid (A ++ ⟨#[10]⟩ = textB l (k + 1)) := by
            show _ = _
            rw [← HS'.out, ← HA.out]
            unfold lineB
            rw [if_pos hv0, HQ.out, app_none]
            simp only [ByteArray.append_assoc]
          go_wp2_with (at_builtin; refine wpList_appG rfl (.tmp 54) (.tmp 55) 50 rfl w.heap.size 5 i0 _ 1 1 Tryz.underlying50 hi hz0 hz1 hz2 rfl (by decide) w4 v4 _ _ rfl HO4.out #[.int .u8 10] rfl (by simp [Value.oneCell']) rfl (by have := hAs.out; omega) (by have := hAs.out; unfold maxLen; omega) HB4.out.size ?_)
          intro v7 w7 ho7 hb7
          have HB7 : Hid (Below w.heap.size w w7) := HB4.out.trans hb7
          have HO7 : Hid (w7.ownsRow w.heap.size 5 1 v7 (A ++ ⟨#[10]⟩).size (Lib.strCells (A ++ ⟨#[10]⟩))) := by
            show World.ownsRow _ _ _ _ _ _ _
            rw [strCells_append, ByteArray.size_append]
            exact ho7
          have w9 : IntKind.i64.wrap ((k : Int) + 1) = ((k + 1 : Nat) : Int) := by rw [IntKind.wrap_i64]; omega
          clear ho7 hb7
          go_wp2_with fail
          refine ⟨?_, ?_⟩
          · exact ⟨k + 1, _, by omega, (by first | rfl | go_num | trivial), HS2, HO7, HB7⟩
          · simp [intOf] <;> omega
        · have h1 : ¬ vl = ⟨#[]⟩ := fun e => hv0 (by rw [e]; rfl)
          have h4 : ¬ vl.toList = [] := fun e => h1 (bytes_ext (by rw [toList_data] at e; exact e))
          have h3 : (vl.toList == []) = false := by rw [beq_eq_false_iff_ne]; exact h4
          have h5 : vl.toList.isEmpty = false := by cases hh : vl.toList with | nil => exact absurd hh h4 | cons => rfl
          go_wp2_with (at_builtin; refine wpList_appG rfl (.tmp 44) (.tmp 45) 50 rfl w.heap.size 5 i0 _ 1 1 Tryz.underlying50 hi hz0 hz1 hz2 rfl (by decide) w4 v4 _ _ rfl HO4.out #[.int .u8 61] rfl (by simp [Value.oneCell']) rfl (by have := hAs.out; omega) (by have := hAs.out; unfold maxLen; omega) HB4.out.size ?_)
          intro v5 w5 ho5 hb5
          have HB5 : Hid (Below w.heap.size w w5) := HB4.out.trans hb5
          have HO5 : Hid (w5.ownsRow w.heap.size 5 1 v5 (A ++ ⟨#[61]⟩).size (Lib.strCells (A ++ ⟨#[61]⟩))) := by
            show World.ownsRow _ _ _ _ _ _ _
            rw [strCells_append, ByteArray.size_append]
            exact ho5
          obtain ⟨_, _, x5⟩ := HC.out w5 HB5.out
          have hA5 : Hid ((A ++ ⟨#[61]⟩).size = A.size + 1) := by show _ = _; rw [ByteArray.size_append]; rfl
          clear ho5 hb5 HO4 HB4 x4
          go_wp2_with (at_builtin; refine Lib.wpList_append_own_string _ rfl _ _ 50 9 rfl w.heap.size 5 i0 Tryz.underlying50 Tryz.underlying9 hi hz0 hz1 hz2 _ _ _ rfl HO5.out vl rfl (by have := hAs.out; have := hA5.out; unfold maxLen; omega) (by have := hAs.out; have := hA5.out; omega) HB5.out.size ?_)
          intro v6 w6 ho6 hg6 _
          have HB6 : Hid (Below w.heap.size w w6) := HB5.out.grown hg6 HB5.out.size (fun k hk => (World.ownsRow.lt HO5.out k hk).1)
          obtain ⟨A2, hA2⟩ : ∃ A2, (A ++ ⟨#[61]⟩) ++ vl = A2 := ⟨_, rfl⟩
          have hA2s : Hid (A2.size = A.size + 1 + vl.size) := by show _ = _; rw [← hA2, ByteArray.size_append, hA5.out]
          have HO6 : Hid (w6.ownsRow w.heap.size 5 1 v6 A2.size (Lib.strCells A2)) := by
            show World.ownsRow _ _ _ _ _ _ _
            rw [← hA2, strCells_append, ByteArray.size_append, ByteArray.size_append]
            exact ho6
          have HS2 : Hid (A2 ++ ⟨#[10]⟩ = textB l (k + 1)) := by
            show _ = _
            rw [← HS'.out, ← hA2, ← HA.out]
            unfold lineB
            rw [if_neg hv0, HQ.out]
            simp only [ByteArray.append_assoc]
          clear ho6 hg6 HO5 HB5 x5 hA2
          go_wp2_with (at_builtin; refine wpList_appG rfl (.tmp 54) (.tmp 55) 50 rfl w.heap.size 5 i0 _ 1 1 Tryz.underlying50 hi hz0 hz1 hz2 rfl (by decide) w6 v6 _ _ rfl HO6.out #[.int .u8 10] rfl (by simp [Value.oneCell']) rfl (by have := hAs.out; have := hA2s.out; omega) (by have := hAs.out; have := hA2s.out; unfold maxLen; omega) HB6.out.size ?_)
          intro v7 w7 ho7 hb7
          have HB7 : Hid (Below w.heap.size w w7) := HB6.out.trans hb7
          have HO7 : Hid (w7.ownsRow w.heap.size 5 1 v7 (A2 ++ ⟨#[10]⟩).size (Lib.strCells (A2 ++ ⟨#[10]⟩))) := by
            show World.ownsRow _ _ _ _ _ _ _
            rw [strCells_append, ByteArray.size_append]
            exact ho7
          have w9 : IntKind.i64.wrap ((k : Int) + 1) = ((k + 1 : Nat) : Int) := by rw [IntKind.wrap_i64]; omega
          clear ho7 hb7
          go_wp2_with fail
          refine ⟨?_, ?_⟩
          · exact ⟨k + 1, _, by omega, (by first | rfl | go_num | trivial), HS2, HO7, HB7⟩
          · simp [intOf] <;> omega
    · obtain rfl : k = n := by omega
      obtain rfl : S = E := HS.out.trans HE.out
      have b0 : ¬ ((k : Int) < (k : Int)) := by omega
      have hcv := conv_cells (P := Tryz.prog) HO.out 50 9 Tryz.underlying50 Tryz.underlying5 Tryz.underlying9
      go_wp2_with fail
      go_ret
      exact ⟨rfl, HB.out⟩
end Go.Proofs.YtebnmghjdoblaaaGreatDoor

/- The document's path (layer 12). -/
namespace Go.Proofs.YtebnmghjdoblaaaGreatDoor
open Go.RowKit
set_option linter.unusedSimpArgs false

/-- The names of those above, ahead of a name. -/
def pathF (l : List LineT) : Nat → Int → ByteArray → ByteArray
  | 0, _, s => s
  | i + 1, d, s => if (lL l i).1 < d then pathF l i (lL l i).1 (((lL l i).2.2.1 ++ ⟨#[47]⟩) ++ s) else pathF l i d s

/-- The place of a line. -/
def pathB (l : List LineT) (k : Nat) : ByteArray := pathF l k (lL l k).1 (lL l k).2.2.1

set_option maxRecDepth 100000 in
set_option maxHeartbeats 4000000 in
theorem rpath_any (l : List LineT) (a : Option Addr) (n c k : Nat) (w : World) (hn : n ≤ 60000) (hk : k < n) (hz : ∀ j, j < n → (lL l j).2.2.1.size ≤ 1048576) (hI : LinesAt w a n l) :
    Calls Tryz.prog 39 #[.slice a n c, .int .i64 k] w fun e w' => e = .returned (.string (pathB l k)) ∧ w' = w := by
  have HZ : Hid (∀ j, j < n → (lL l j).2.2.1.size ≤ 1048576) := hz
  obtain ⟨E, hE⟩ : ∃ E, pathB l k = E := ⟨_, rfl⟩
  have HE : Hid (pathF l k (lL l k).1 (lL l k).2.2.1 = E) := hE
  rw [hE]
  obtain ⟨b, off, rfl, _⟩ := hI.2.some (by omega)
  have HI : Hid (LinesAt w (some ⟨b, off, none⟩) n l) := hI
  obtain ⟨x0, _, _, x3, _⟩ := hI.cells k hk
  have hz0 := hz k hk
  have b0 : (k : Int) < (n : Int) := by omega
  have w0 : IntKind.i64.wrap ((k : Int) - 1) = (k : Int) - 1 := by rw [IntKind.wrap_i64]; omega
  obtain ⟨⟨d, id, nm, vl⟩, hx⟩ : ∃ x, x = lL l k := ⟨_, rfl⟩
  rw [← hx] at x0 x3 hz0 HE
  simp only at x0 x3 hz0 HE
  clear hE hI hz hx
  go_enter Tryz.func39, Tryz.ntmps39
  go_wp2_with fail
  clear x0 x3
  go_loopw [5, 6, 7] (fun sv dv iv wr => ∃ (r : Nat) (s : ByteArray) (d : Int), r ≤ k ∧ sv = .string s ∧ dv = .int .i64 d ∧ iv = .int .i64 ((r : Int) - 1) ∧ Hid (pathF l r d s = E) ∧ Hid (s.size + 1048577 * r ≤ 1048577 * (k + 1)) ∧ wr = w) (fun _ _ iv _ => (intOf iv + 1).toNat)
  case atStart => exact ⟨k, nm, d, Nat.le_refl _, rfl, rfl, rfl, HE, (by show _ ≤ _; omega), rfl⟩
  case round =>
    clear HE hz0
    obtain ⟨r, s, d, hr, rfl, rfl, rfl, HE, HS, rfl⟩ := hrel
    cases r with
    | zero =>
      obtain rfl : s = E := HE.out
      go_wp2_with fail
      go_ret
      exact ⟨rfl, rfl⟩
    | succ i =>
      have hin : i < n := by omega
      obtain ⟨x0, _, _, x3, _⟩ := HI.out.cells i hin
      have hz1 := HZ.out i hin
      have hHS := HS.out
      rw [show ((i + 1 : Nat) : Int) - 1 = (i : Int) by omega]
      have b1 : (0 : Int) ≤ (i : Int) := by omega
      have b2 : (i : Int) < (n : Int) := by omega
      have w1 : IntKind.i64.wrap ((i : Int) - 1) = (i : Int) - 1 := by rw [IntKind.wrap_i64]; omega
      have HU : Hid ((if (lL l i).1 < d then pathF l i (lL l i).1 (((lL l i).2.2.1 ++ ⟨#[47]⟩) ++ s) else pathF l i d s) = E) := HE.out
      obtain ⟨⟨d', id', nm', vl'⟩, hx⟩ : ∃ x, x = lL l i := ⟨_, rfl⟩
      rw [← hx] at x0 x3 hz1 HU
      simp only at x0 x3 hz1 HU
      clear hx HE HS
      by_cases hd : d' < d
      · have HE' : Hid (pathF l i d' ((nm' ++ ⟨#[47]⟩) ++ s) = E) := by have h := HU.out; rw [if_pos hd] at h; exact h
        have e1 : (⟨#[47]⟩ : ByteArray).size = 1 := rfl
        have HS' : Hid (((nm' ++ ⟨#[47]⟩) ++ s).size + 1048577 * i ≤ 1048577 * (k + 1)) := by
          show _ ≤ _
          rw [ByteArray.size_append, ByteArray.size_append, e1]; omega
        clear HU
        go_wp2_with fail
        refine ⟨?_, ?_⟩
        · exact ⟨i, _, d', by omega, rfl, rfl, (by first | rfl | trivial), HE', HS', (by first | rfl | trivial)⟩
        · simp [intOf] <;> omega
      · have HE' : Hid (pathF l i d s = E) := by have h := HU.out; rw [if_neg hd] at h; exact h
        have HS' : Hid (s.size + 1048577 * i ≤ 1048577 * (k + 1)) := by show _ ≤ _; omega
        clear HU
        go_wp2_with fail
        refine ⟨?_, ?_⟩
        · exact ⟨i, _, d, by omega, rfl, rfl, (by first | rfl | trivial), HE', HS', (by first | rfl | trivial)⟩
        · simp [intOf] <;> omega
end Go.Proofs.YtebnmghjdoblaaaGreatDoor

/- The children of a parent on plain data; rows side by side (layer 12). -/
namespace Go.Proofs.YtebnmghjdoblaaaGreatDoor
open Go.ChangeShapes Go.WideShapes Go.RowKit
set_option linter.unusedSimpArgs false

/-- Which of the first nodes have a parent. -/
def kidsP (l : List NodeT) (p : Int × Int) : Nat → List NodeT
  | 0 => []
  | k + 1 => if (nL l k).2.1 = p then kidsP l p k ++ [nL l k] else kidsP l p k

theorem kidsP_len (l : List NodeT) (p : Int × Int) : ∀ k, (kidsP l p k).length ≤ k := by
  intro k
  induction k with
  | zero => exact Nat.le_refl _
  | succ k ih =>
    unfold kidsP
    split
    · rw [List.length_append]; show _ + 1 ≤ _; omega
    · omega

theorem kidsP_mem (l : List NodeT) (p : Int × Int) : ∀ k x, x ∈ kidsP l p k → ∃ j, j < k ∧ x = nL l j := by
  intro k
  induction k with
  | zero => intro x h; exact absurd h List.not_mem_nil
  | succ k ih =>
    intro x h
    unfold kidsP at h
    split at h
    · rcases List.mem_append.1 h with h | h
      · obtain ⟨j, hj, e⟩ := ih x h; exact ⟨j, by omega, e⟩
      · exact ⟨k, by omega, List.mem_singleton.1 h⟩
    · obtain ⟨j, hj, e⟩ := ih x h; exact ⟨j, by omega, e⟩

/-- Does a text stand ahead of another? -/
def ltT (a b : ByteArray) : Bool := Op.bytesLess a.toList b.toList

/-- Where a name stands among lines. -/
def posL (nm : ByteArray) : List LineT → Nat
  | [] => 0
  | x :: l => if ltT x.2.2.1 nm = true then posL nm l + 1 else 0

theorem posL_le (nm : ByteArray) : ∀ l, posL nm l ≤ l.length := by
  intro l
  induction l with
  | nil => exact Nat.le_refl _
  | cons x l ih =>
    unfold posL
    split
    · rw [List.length_cons]; omega
    · exact Nat.zero_le _

theorem posL_is (nm : ByteArray) : ∀ (l : List LineT) (k : Nat), k ≤ l.length → (∀ j, j < k → ltT (lL l j).2.2.1 nm = true) → (k = l.length ∨ ltT (lL l k).2.2.1 nm = false) → posL nm l = k := by
  intro l
  induction l with
  | nil => intro k h _ _; show 0 = k; simp at h; omega
  | cons x l ih =>
    intro k h1 h2 h3
    cases k with
    | zero =>
      unfold posL
      rcases h3 with h3 | h3
      · simp at h3
      · have h4 : ltT x.2.2.1 nm = false := h3
        rw [if_neg (by rw [h4]; simp)]
    | succ k =>
      have h4 : ltT x.2.2.1 nm = true := h2 0 (by omega)
      unfold posL
      rw [if_pos h4, ih k (by simp at h1; omega) (fun j hj => h2 (j + 1) (by omega)) (by
        rcases h3 with h3 | h3
        · exact .inl (by simp at h3; exact h3)
        · exact .inr h3)]

/-- A line among lines. -/
def insL (x : LineT) (l : List LineT) : List LineT := l.take (posL x.2.2.1 l) ++ [x] ++ l.drop (posL x.2.2.1 l)

theorem insL_len (x : LineT) (l : List LineT) : (insL x l).length = l.length + 1 := by
  unfold insL
  have := posL_le x.2.2.1 l
  simp only [List.length_append, List.length_take, List.length_drop, List.length_cons, List.length_nil]
  omega

/-- The lines of children, so far. -/
def childF (ks : List NodeT) (ns : List ByteArray) (d : Int) : Nat → List LineT
  | 0 => []
  | i + 1 => insL (d, (nL ks i).1, strL ns i, (nL ks i).2.2.2) (childF ks ns d i)

theorem childF_len (ks : List NodeT) (ns : List ByteArray) (d : Int) : ∀ i, (childF ks ns d i).length = i := by
  intro i
  induction i with
  | zero => rfl
  | succ i ih => show (insL _ _).length = _; rw [insL_len, ih]

/-- The lines of a parent's children. -/
def childP (l : List NodeT) (p : Int × Int) (d : Int) : List LineT := childF (kidsP l p l.length) (distF ((kidsP l p l.length).map (fun x => x.2.2.1)) (kidsP l p l.length).length) d (kidsP l p l.length).length

theorem owns_lessV {w : World} {B B' n c : Nat} {e : TypeId} {v : Value} {xs : List Value} (h : w.ownsRow B e c v n xs) (hb : B' ≤ B) : w.ownsRow B' e c v n xs := by
  obtain ⟨hl, h | ⟨g, cap, cur, hv, hB, r⟩⟩ := h
  · exact ⟨hl, .inl h⟩
  · exact ⟨hl, .inr ⟨g, cap, cur, hv, Nat.le_trans hb hB, r⟩⟩

/-- Two rows of the call's own, of other types: what is put behind one leaves the other. -/
theorem owns_other {W w' : World} {B1 B2 c1 c2 n1 n2 : Nat} {e1 e2 : TypeId} {v1 v2 : Value} {xs1 xs2 : List Value} (h1 : W.ownsRow B1 e1 c1 v1 n1 xs1) (h2 : W.ownsRow B2 e2 c2 v2 n2 xs2) (hne : e1 ≠ e2) (hg : W.grownBy w' v2.ownBlock) : w'.ownsRow B1 e1 c1 v1 n1 xs1 := by
  refine owns_same h1 (fun k hk => hg.block k (World.ownsRow.lt h1 k hk).2 (fun e => ?_))
  rcases h1.2 with ⟨rfl, _⟩ | ⟨g1, _, cur1, rfl, _, hb1, _⟩
  · cases hk
  · rcases h2.2 with ⟨rfl, _⟩ | ⟨g2, _, cur2, rfl, _, hb2, _⟩
    · cases e
    · have k1 : g1 = k := Option.some.inj hk
      have k2 : k = g2 := Option.some.inj e
      rw [k1] at hb1
      rw [← k2, hb1] at hb2
      have := Option.some.inj hb2
      injection this with _ h4
      exact hne h4

theorem OwnL.lines2 {w : World} {B : Nat} {v : Value} {l : List LineT} (h : OwnL w B v l) : ∃ a cap, v = .slice a l.length cap ∧ LinesAt w a l.length l ∧ ((a = none ∧ l.length = 0 ∧ cap = 0) ∨ ∃ g, a = some ⟨g, 0, none⟩ ∧ l.length ≤ cap) := by
  obtain ⟨a, cap, hv, hr⟩ := rows_of_owns h (cellsL_at l)
  refine ⟨a, cap, hv, ⟨rfl, hr⟩, ?_⟩
  rcases h.2 with ⟨e, _⟩ | ⟨g, cap', cur, e, _, _, hnc, _⟩
  · rw [e] at hv; injection hv with e1 e2 e3; exact .inl ⟨e1.symm, e2.symm, e3.symm⟩
  · rw [e] at hv; injection hv with e1 e2 e3; exact .inr ⟨g, e1.symm, by omega⟩

theorem nodeA_oneV (x : (Int × Int) × (Int × Int) × ByteArray × ByteArray) : ∀ u ∈ (nodeA x).toList, u.oneCell' = true := by
  intro u hu
  simp [nodeA] at hu
  rcases hu with rfl | rfl | rfl | rfl | rfl | rfl <;> rfl

theorem Tryz.infoNodeV : (Tryz.prog.info? 45).map (fun i => (i.zero, i.size, i.bytes)) = some (some (.agg #[.int .i64 0, .int .i64 0, .int .i64 0, .int .i64 0, .string ⟨#[]⟩, .string ⟨#[]⟩]), 6, 64) := by kernel_rfl

theorem step_appW {P : Program} {ops : Array Oper} {o : Oper} {a : Act} {w : World} {K' : Act → World → Prop} {Q : Exit → Act → World → Prop} {E : Prop} (hgd : o.guard = none) (s x : Operand) (t : TypeId)
    (ho : o.op = .call { callee := .builtin .append, args := #[s, x], argTypes := #[t, t] })
    (base : Nat) (e : TypeId) (i : TypeInfo) (z : Value) (size bytes : Nat) (ht : P.underlying t = some (.slice e)) (hi : P.info? e = some i) (hz : i.zero = some z)
    (hsize : i.size = size) (hby : i.bytes = bytes) (hzs : z.cells.size = size) (hsz : 0 < size)
    (v : Value) (n : Nat) (xs : List Value) (hs : a.eval s = v) (hown : w.ownsRow base e size v n xs)
    (src : Value) (m : Nat) (news : List Value) (hx : a.eval x = src) (hsrc : SrcAt w src m news) (hl : news.length = m * size) (h1 : ∀ u ∈ news, u.oneCell' = true)
    (h63 : n + m ≤ maxLen) (hbytes : (n + m) * bytes ≤ 140737488355328) (hbase : base ≤ w.heap.size)
    (h : ∀ v' w', w'.ownsRow base e size v' (n + m) (xs ++ news) → w.grownBy w' v.ownBlock → K' (a.put o.dst v') w') :
    if Region.wanted o (yielded ops a.tmps) = true then Oper.wp P o a w K' Q else E := by
  rw [if_pos (by simp [Region.wanted, hgd])]
  rcases hsrc with ⟨rfl, rfl, rfl⟩ | ⟨ad, c, rfl, hnews⟩
  · have hrun := run_append_owned_none (P := P) (w := w) base t o.type e i size ht hi v n xs hown
    unfold Oper.wp
    simp [execOp, ho, resolve, invoke, builtin, hs, hx, hrun, Result.andThen]
    exact h v w (by rw [List.append_nil]; exact hown) ⟨rfl, rfl, rfl, Nat.le_refl _, fun _ _ _ => rfl⟩
  · exact wp_append_own w s x t ho base e i z size bytes ht hi hz hsize hby hzs hsz v n xs hs hown ad m c news hx hl hnews h1 h63 hbytes hbase fun v' w' h2 h3 _ => h v' w' h2 h3

/-- The first lines of a row, and those from the k'th on, as what is put behind another. -/
theorem lines_src {w : World} {b off n k m c : Nat} {l : List LineT} (h : LinesAt w (some ⟨b, off, none⟩) n l) (hk : k + m ≤ n) : SrcAt w (.slice (some ⟨b, off + k * 5, none⟩) m c) m (cellsL ((l.drop k).take m)) := by
  refine .inr ⟨_, c, rfl, fun j u hj => ?_⟩
  have hln := h.1
  have hjl := (List.getElem?_eq_some_iff.1 hj).1
  rw [cellsL_len, List.length_take, List.length_drop] at hjl
  have hi : j / 5 < ((l.drop k).take m).length := by rw [List.length_take, List.length_drop]; omega
  obtain ⟨v, h1, h2⟩ := cellsL_at ((l.drop k).take m) (j / 5) hi (j % 5) (by omega)
  rw [show j / 5 * 5 + j % 5 = j by omega, hj] at h2
  obtain ⟨b', off', ha, hc⟩ := h.2.some (by omega)
  simp only [Option.some.injEq, Addr.mk.injEq] at ha
  obtain ⟨rfl, rfl, _⟩ := ha
  obtain ⟨v', g1, g2⟩ := hc (k + j / 5) (by omega) (j % 5) (by omega)
  have e : lL ((l.drop k).take m) (j / 5) = lL l (k + j / 5) := by
    unfold lL
    rw [List.getD_eq_getElem?_getD, List.getD_eq_getElem?_getD, List.getElem?_take, if_pos (by omega), List.getElem?_drop]
  rw [e] at h1
  have h3 : some v = some v' := h1.symm.trans g1
  have h4 : v = v' := Option.some.inj h3
  have h5 : u = v := Option.some.inj h2
  rw [Go.WideShapes.add_plain, h5, h4, ← g2]
  congr 2
  omega
end Go.Proofs.YtebnmghjdoblaaaGreatDoor
