/- The code's hold, within (layer 11). -/
import Derived.Test.YtaomhhooipfjbaaDoorTmA
import Derived.Test.YtaomhhooipfjbaaDoorMapN
import Derived.Test.YtaomhhooipfjbaaDoorTrM
namespace Go.Proofs.YtaomhhooipfjbaaDoor
open Go.RowKit
set_option linter.unusedSimpArgs false

theorem MapN.on {w w' : World} {r : Nat} {ns : List NodeT} (h : MapN w r ns) (hb : Below w.heap.size w w') : MapN w' r ns := h.block (hb.block r h.lt)

/-- A look-up as the walk meets it. -/
theorem mapN_two {w : World} {r : Nat} {ns : List NodeT} (h : MapN w r ns) (x y : Int) : ∃ (n : NodeT) (b : Bool), look ns (x, y) = (if b then some n else none) ∧
    ∀ w', Below w.heap.size w w' → (Instr.lookup 50 (.map (some r)) (.agg #[.int .i64 x, .int .i64 y]) true).run Tryd.prog w' = .ok (.tuple #[.agg #[.int .i64 n.1.1, .int .i64 n.1.2, .int .i64 n.2.1.1, .int .i64 n.2.1.2, .string n.2.2.1, .string n.2.2.2], .bool b]) w' := by
  refine ⟨(YtaomhhooipfjbaaDoor.look ns (x, y)).getD node0, (YtaomhhooipfjbaaDoor.look ns (x, y)).isSome, ?_, fun w' hb => (h.on hb).look (x, y) true⟩
  cases YtaomhhooipfjbaaDoor.look ns (x, y) <;> rfl

theorem mapN_len {w : World} {r : Nat} {ns : List NodeT} (h : MapN w r ns) (ty : TypeId) : (Builtin.len_ #[50] ty #[.map (some r)]).run Tryd.prog w = .ok (.int .i64 (ns.length : Int)) w := by
  obtain ⟨es, clock, h1, h2⟩ := h.len
  unfold Builtin.len_
  simp [Sem.run_bind, run_underlying (show Tryd.prog.underlying 50 = some (.map 28 40) by first | exact Tryd.underlying50 | kernel_rfl), MapKept.run_getObj_map h1, goInt, h2]


set_option maxRecDepth 100000 in
set_option maxHeartbeats 2000000 in
theorem hold_any (ns : List NodeT) (r : Nat) (s : Int × Int) (w : World) (hM : MapN w r ns) :
    Calls Tryd.prog 61 #[.map (some r), stampV s] w fun e w' => e = .returned (.bool (holdB ns s)) ∧ Below w.heap.size w w' := by
  have CT' := fun w => isTop_any s w
  obtain ⟨D, hD⟩ : ∃ D, holdB ns s = D := ⟨_, rfl⟩
  unfold holdB at hD
  obtain ⟨B, hB⟩ : ∃ B, (decide (s = (0, 0)) || decide (s = (0, 1))) = B := ⟨_, rfl⟩
  rw [hB] at CT' hD
  obtain ⟨x, y⟩ := s
  obtain ⟨n, b, hb, hl⟩ := mapN_two hM x y
  rw [hb] at hD
  rw [show holdB ns (x, y) = D by unfold holdB; rw [hb, hB]; exact hD]
  have CT : Hid (∀ w, Calls Tryd.prog 64 #[.agg #[.int .i64 x, .int .i64 y]] w fun e w' => e = .returned (.bool B) ∧ Below w.heap.size w w') := CT'
  have hl1 := fun o => hl (w.alloc o) (below_new w o)
  show Calls Tryd.prog _ #[_, .agg #[.int .i64 x, .int .i64 y]] w _
  clear CT' hB hb hl hM
  cases b with
  | true =>
    obtain rfl : D = true := by rw [← hD]; rfl
    clear hD
    go_enter Tryd.func61, Tryd.ntmps61
    go_wp2_with fail
    go_ret
    exact ⟨rfl, (below_new w _).alloc (by simp) _⟩
  | false =>
    obtain rfl : D = B := by rw [← hD]; rfl
    clear hD
    go_enter Tryd.func61, Tryd.ntmps61
    go_wp2_with fail
    refine (CT.out _).mono ?_
    rintro e w1 ⟨rfl, hb1⟩
    have hB1 := below_step ((below_new w _).alloc (by simp) _) (Nat.le_refl _) hb1
    clear CT hb1
    go_wp2_with fail
    go_ret
    exact ⟨rfl, hB1⟩

theorem stampEq_no (x y t u : Int) (D : Bool) (h : decide ((x, y) = (t, u)) = D) (w : World) : (Op.equalIn 10000 28 (.agg #[.int .i64 x, .int .i64 y]) (.agg #[.int .i64 t, .int .i64 u])).run Tryd.prog w = .ok D w := by
  rw [stampEq, h]

set_option maxRecDepth 100000 in
set_option maxHeartbeats 4000000 in
theorem within_any (ns : List NodeT) (r : Nat) (p id : Int × Int) (w : World) (hM : MapN w r ns) (hn : ns.length ≤ 1048576) :
    Calls Tryd.prog 62 #[.map (some r), stampV p, stampV id] w fun e w' => e = .returned (.bool (withinF ns id ns.length p)) ∧ Below w.heap.size w w' := by
  obtain ⟨E, HE⟩ : ∃ E, Hid (E = withinF ns id ns.length p) := ⟨_, rfl⟩
  rw [← HE.out]
  obtain ⟨t, u⟩ := id
  obtain ⟨x, y⟩ := p
  show Calls Tryd.prog _ #[_, .agg #[.int .i64 x, .int .i64 y], .agg #[.int .i64 t, .int .i64 u]] w _
  have A1 : Hid (Blk ((w.alloc (.cells #[.int .i64 x, .int .i64 y] 28)).alloc (.cells #[.int .i64 t, .int .i64 u] 28)) 28 w.heap.size #[.int .i64 x, .int .i64 y]) := (Blk.new _ _ _).alloc _
  have A2 : Hid (Blk ((w.alloc (.cells #[.int .i64 x, .int .i64 y] 28)).alloc (.cells #[.int .i64 t, .int .i64 u] 28)) 28 (w.heap.size + 1) #[.int .i64 t, .int .i64 u]) := Blk.new' _ _ _ _ (by simp)
  have AB : Below w.heap.size w ((w.alloc (.cells #[.int .i64 x, .int .i64 y] 28)).alloc (.cells #[.int .i64 t, .int .i64 u] 28)) := (below_new w _).alloc (by simp) _
  have HM : Hid (MapN w r ns) := hM
  obtain ⟨n, hnn⟩ : ∃ n, ns.length = n := ⟨_, rfl⟩
  have hlen := fun ty => mapN_len (hM.on AB) ty
  rw [hnn] at hn hlen HE
  clear hM hnn
  go_enter Tryd.func62, Tryd.ntmps62
  go_wp2_with fail
  go_loopw [11] (fun i wr => ∃ (k : Nat) (q : Int × Int), k ≤ n ∧ i = .int .i64 k ∧ Hid (Blk wr 28 w.heap.size #[.int .i64 q.1, .int .i64 q.2]) ∧ Hid (Blk wr 28 (w.heap.size + 1) #[.int .i64 t, .int .i64 u]) ∧ Hid (E = withinF ns (t, u) (n - k) q) ∧ Below w.heap.size w wr) (fun i _ => n - (intOf i).toNat)
  case atStart => exact ⟨0, (x, y), Nat.zero_le _, rfl, A1, A2, HE, AB⟩
  case round =>
    clear A1 A2 AB HE hlen
    obtain ⟨k, ⟨x, y⟩, hk, rfl, B1, B2, HE, hbl⟩ := hrel
    have c0 : wr.cell? ⟨w.heap.size, 0, none⟩ = some (.int .i64 x) := B1.out.cell 0
    have c1 : wr.cell? ⟨w.heap.size, 1, none⟩ = some (.int .i64 y) := B1.out.cell 1
    have d0 : wr.cell? ⟨w.heap.size + 1, 0, none⟩ = some (.int .i64 t) := B2.out.cell 0
    have d1 : wr.cell? ⟨w.heap.size + 1, 1, none⟩ = some (.int .i64 u) := B2.out.cell 1
    by_cases hlt : k < n
    · have b0 : (k : Int) < (n : Int) := by omega
      have HU : Hid (withinF ns (t, u) (n - k) (x, y) = if (x, y) = (t, u) then true else match look ns (x, y) with | none => false | some m => withinF ns (t, u) (n - (k + 1)) m.2.1) := by
        show _ = _
        rw [show n - k = (n - (k + 1)) + 1 by omega]; rfl
      by_cases he : (x, y) = (t, u)
      · have hE := fun w => stampEq_no x y t u true (decide_eq_true he) w
        obtain rfl : E = true := by rw [HE.out, HU.out, if_pos he]
        clear HE HU he B1 B2 HM
        go_wp2_with fail
        go_ret
        exact ⟨rfl, hbl⟩
      · have hE := fun w => stampEq_no x y t u false (decide_eq_false he) w
        obtain ⟨m, b, hb, hl⟩ := mapN_two (HM.out.on hbl) x y
        rw [if_neg he, hb] at HU
        have hl1 := hl wr (Below.refl _ _)
        clear hl hb
        cases b with
        | false =>
          obtain rfl : E = false := by rw [HE.out, HU.out]; rfl
          clear HE HU he B1 B2 HM
          go_wp2_with fail
          go_ret
          exact ⟨rfl, hbl.alloc (hbl.size) _⟩
        | true =>
          have HE' : Hid (E = withinF ns (t, u) (n - (k + 1)) m.2.1) := by show _ = _; rw [HE.out, HU.out]; rfl
          obtain ⟨⟨m1, m2⟩, ⟨m3, m4⟩, m5, m6⟩ := m
          clear HE HU he
          have X1 := B1.out.alloc (.cells #[.int .i64 m1, .int .i64 m2, .int .i64 m3, .int .i64 m4, .string m5, .string m6] 40)
          have X2 := B2.out.alloc (.cells #[.int .i64 m1, .int .i64 m2, .int .i64 m3, .int .i64 m4, .string m5, .string m6] 40)
          have hB1 := hbl.alloc hbl.size (.cells #[.int .i64 m1, .int .i64 m2, .int .i64 m3, .int .i64 m4, .string m5, .string m6] 40)
          go_wp2_with (with_reducible refine wpList_storeBlkH rfl 28 _ _ rfl w.heap.size #[.int .i64 x, .int .i64 y] #[.int .i64 m3, .int .i64 m4] ?hx ?hy X1 rfl ?hi ?h1 ?_)
          try (case hx => rfl)
          try (case hy => rfl)
          try (case hi => first | kernel_rfl | (refine Option.map_eq_some_iff.1 (?_ : (Tryd.prog.info? 28).map (·.size) = some 2); kernel_rfl))
          try (case h1 => simp [Value.oneCell'])
          unfold Hid
          have Y1 := X1.setRow #[.int .i64 m3, .int .i64 m4]
          have Y2 := X2.setRowOther w.heap.size (by omega) #[.int .i64 m3, .int .i64 m4]
          have hB2 := below_setRow hB1 (Nat.le_refl _) #[.int .i64 m3, .int .i64 m4]
          clear X1 X2 hB1 B1 B2 c0 c1 d0 d1 hl1 hE hbl
          go_wp2_with fail
          refine ⟨⟨k + 1, (m3, m4), by omega, by go_num, Y1, Y2, HE', hB2⟩, ?_⟩
          simp [intOf]; omega
    · obtain rfl : E = false := by rw [HE.out, show n - k = 0 by omega]; rfl
      have b0 : ¬ ((k : Int) < (n : Int)) := by omega
      clear HE B1 B2 HM
      go_wp2
      go_ret
      exact ⟨rfl, hbl⟩
end Go.Proofs.YtaomhhooipfjbaaDoor
