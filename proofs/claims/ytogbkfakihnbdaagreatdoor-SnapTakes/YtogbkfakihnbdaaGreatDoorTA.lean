import Derived.Test.YtogbkfakihnbdaaGreatDoorG
import Derived.BigQuiet
import Derived.Deep.QuietTactic
import Derived.Sort.Grow
import Derived.Test.YtogbkfakihnbdaaGreatDoorCkA
import Derived.Test.YtogbkfakihnbdaaGreatDoorRT
import Derived.Test.YtogbkfakihnbdaaGreatDoorMP
import Derived.Test.YtogbkfakihnbdaaGreatDoorTX
import Derived.Shelf.Abstract
/- A region that draws its order, whose operations only read and whose callees leave what was there as it was: walked once. Plain facts. -/
namespace Go.Proofs.YtogbkfakihnbdaaGreatDoor
open Go.RowKit
set_option linter.unusedSimpArgs false

/-- A world behind another, with all that was there as it was. -/
structure Beh (w : World) where
  w' : World
  h : Below w.heap.size w w'

theorem wp_region_quiet_beh {P : Program} {id : Nat} {Q : Exit → Act → World → Prop} {a : Act} {w : World} {l : List Oper} (hm : P.follows .mixedOrders = true) (hB : Region.lexB .any l.toArray = true)
    (h : wpQuiet P l.toArray (fun w' => ∃ p : Beh w, w' = p.w') (fun a' => ∀ w', (∃ p : Beh w, w' = p.w') → Q .normal a' w') l a) : (Code.region id l.toArray true).wp P Q a w :=
  wp_region_quiet (C := fun w' => ∃ p : Beh w, w' = p.w') hm hB ⟨⟨w.drew, (Below.refl _ _).drew⟩, rfl⟩ (by simpa using h)

/-- A callee's contract, met in a world behind w. -/
theorem Calls.beh_of {P : Program} {f : FuncId} {args : Array Value} {w : World} {p : Beh w} {v : Value} (h : Calls P f args p.w' fun e w' => e = .returned v ∧ Below p.w'.heap.size p.w' w') :
    Calls P f args p.w' fun e w'' => e = .returned v ∧ ∃ q : Beh w, w'' = q.w' :=
  h.mono fun _ w' ⟨he, hb⟩ => ⟨he, ⟨⟨w', below_step p.h (Nat.le_refl _) hb⟩, rfl⟩⟩

theorem Beh.cell {w : World} (p : Beh w) {a : Addr} {v : Value} (h : w.cell? a = some v) : p.w'.cell? a = some v := by
  rw [p.h.cell (World.block_lt_of_cell? w _ h)]; exact h
end Go.Proofs.YtogbkfakihnbdaaGreatDoor

/- The code's root, trash, isTop, isStamp, mayHold, isValue (layer 11). -/
namespace Go.Proofs.YtogbkfakihnbdaaGreatDoor
open Go.RowKit
set_option linter.unusedSimpArgs false

set_option maxHeartbeats 1000000 in
theorem root_any (w : World) : Calls Tryz.prog 52 #[] w fun e w' => e = .returned (.agg #[.int .i64 0, .int .i64 0]) ∧ Below w.heap.size w w' := by
  have HB : Hid (Blk (w.alloc (.cells #[.int .i64 0, .int .i64 0] 26)) 26 w.heap.size #[.int .i64 0, .int .i64 0]) := Blk.new _ _ _
  go_enter Tryz.func52, Tryz.ntmps52
  go_wp2_with fail
  exact bodyPost_row rfl w.heap.size #[.int .i64 0, .int .i64 0] rfl rfl HB.out _ Tryz.underlying26 rfl (by kernel_rfl) ⟨rfl, below_new w _⟩

set_option maxHeartbeats 1000000 in
theorem trash_any (w : World) : Calls Tryz.prog 99 #[] w fun e w' => e = .returned (.agg #[.int .i64 0, .int .i64 1]) ∧ Below w.heap.size w w' := by
  have HB : Hid (Blk (w.alloc (.cells #[.int .i64 0, .int .i64 0] 26)) 26 w.heap.size #[.int .i64 0, .int .i64 0]) := Blk.new _ _ _
  go_enter Tryz.func99, Tryz.ntmps99
  go_wp2_with (with_reducible refine wpList_storeBlk rfl 26 _ _ rfl w.heap.size #[.int .i64 0, .int .i64 0] #[.int .i64 0, .int .i64 1] ?hx ?hy HB.out rfl ?hi ?h1 ?_)
  try (case hx => rfl)
  try (case hy => rfl)
  try (case hi => kernel_rfl)
  try (case h1 => simp [Value.oneCell'])
  exact bodyPost_row rfl w.heap.size #[.int .i64 0, .int .i64 1] rfl rfl (HB.out.setRow _) _ Tryz.underlying26 rfl (by kernel_rfl) ⟨rfl, below_setRow (below_new w _) (Nat.le_refl _) _⟩

set_option maxRecDepth 100000 in
set_option maxHeartbeats 2000000 in
theorem isTop_any (s : Int × Int) (w : World) : Calls Tryz.prog 86 #[stampV s] w fun e w' => e = .returned (.bool (decide (s = (0, 0)) || decide (s = (0, 1)))) ∧ Below w.heap.size w w' := by
  have CR : Hid (∀ w, _) := root_any
  have CT : Hid (∀ w, _) := trash_any
  obtain ⟨t, u⟩ := s
  show Calls Tryz.prog _ #[.agg #[.int .i64 t, .int .i64 u]] w _
  have e0 := fun w => stampEq t u 0 0 w
  have e1 := fun w => stampEq t u 0 1 w
  by_cases h0 : (t, u) = (0, 0)
  · rw [decide_eq_true h0] at e0 ⊢
    rw [Bool.true_or]
    clear h0 e1
    go_enter Tryz.func86, Tryz.ntmps86
    go_wp2_with fail
    generalize hq : World.alloc w _ = w0 at *
    have hb0 : Below w.heap.size w w0 := by rw [← hq]; exact below_new w _
    have c0 : ∀ p : Beh w0, p.w'.cell? ⟨w.heap.size, 0, none⟩ = some (.int .i64 t) := fun p => p.cell (by rw [← hq]; simp)
    have c1 : ∀ p : Beh w0, p.w'.cell? ⟨w.heap.size, 1, none⟩ = some (.int .i64 u) := fun p => p.cell (by rw [← hq]; simp)
    clear hq
    have hne_ : Nonempty (Beh w0) := ⟨⟨_, Below.refl _ _⟩⟩
    refine wp_region_quiet_beh (by kernel_rfl) (by kernel_rfl) ?_
    repeat (quiet_step (first | (go_at_call 52; refine Calls.beh_of (CR.out _)) | (go_at_call 99; refine Calls.beh_of (CT.out _))))
    refine wpQuiet_nil ?_
    intro wq hw_
    obtain ⟨⟨wz_, hbq⟩, hw_⟩ := hw_
    subst hw_
    try dsimp only
    clear hne_
    go_wp2_with fail
    go_ret
    exact ⟨rfl, below_step hb0 (Nat.le_refl _) hbq⟩
  · rw [decide_eq_false h0] at e0 ⊢
    by_cases h1 : (t, u) = (0, 1)
    · rw [decide_eq_true h1] at e1 ⊢
      rw [Bool.false_or]
      clear h0 h1
      go_enter Tryz.func86, Tryz.ntmps86
      go_wp2_with fail
      generalize hq : World.alloc w _ = w0 at *
      have hb0 : Below w.heap.size w w0 := by rw [← hq]; exact below_new w _
      have c0 : ∀ p : Beh w0, p.w'.cell? ⟨w.heap.size, 0, none⟩ = some (.int .i64 t) := fun p => p.cell (by rw [← hq]; simp)
      have c1 : ∀ p : Beh w0, p.w'.cell? ⟨w.heap.size, 1, none⟩ = some (.int .i64 u) := fun p => p.cell (by rw [← hq]; simp)
      clear hq
      have hne_ : Nonempty (Beh w0) := ⟨⟨_, Below.refl _ _⟩⟩
      refine wp_region_quiet_beh (by kernel_rfl) (by kernel_rfl) ?_
      repeat (quiet_step (first | (go_at_call 52; refine Calls.beh_of (CR.out _)) | (go_at_call 99; refine Calls.beh_of (CT.out _))))
      refine wpQuiet_nil ?_
      intro wq hw_
      obtain ⟨⟨wz_, hbq⟩, hw_⟩ := hw_
      subst hw_
      try dsimp only
      clear hne_
      go_wp2_with fail
      go_ret
      exact ⟨rfl, below_step hb0 (Nat.le_refl _) hbq⟩
    · rw [decide_eq_false h1] at e1 ⊢
      rw [Bool.false_or]
      clear h0 h1
      go_enter Tryz.func86, Tryz.ntmps86
      go_wp2_with fail
      generalize hq : World.alloc w _ = w0 at *
      have hb0 : Below w.heap.size w w0 := by rw [← hq]; exact below_new w _
      have c0 : ∀ p : Beh w0, p.w'.cell? ⟨w.heap.size, 0, none⟩ = some (.int .i64 t) := fun p => p.cell (by rw [← hq]; simp)
      have c1 : ∀ p : Beh w0, p.w'.cell? ⟨w.heap.size, 1, none⟩ = some (.int .i64 u) := fun p => p.cell (by rw [← hq]; simp)
      clear hq
      have hne_ : Nonempty (Beh w0) := ⟨⟨_, Below.refl _ _⟩⟩
      refine wp_region_quiet_beh (by kernel_rfl) (by kernel_rfl) ?_
      repeat (quiet_step (first | (go_at_call 52; refine Calls.beh_of (CR.out _)) | (go_at_call 99; refine Calls.beh_of (CT.out _))))
      refine wpQuiet_nil ?_
      intro wq hw_
      obtain ⟨⟨wz_, hbq⟩, hw_⟩ := hw_
      subst hw_
      try dsimp only
      clear hne_
      go_wp2_with fail
      go_ret
      exact ⟨rfl, below_step hb0 (Nat.le_refl _) hbq⟩

set_option maxHeartbeats 1000000 in
theorem isStamp_any (s : Int × Int) (w : World) : Calls Tryz.prog 53 #[stampV s] w fun e w' => e = .returned (.bool (decide (MayS s))) ∧ Below w.heap.size w w' := by
  have C' := fun w => checkS_any s w
  obtain ⟨D, hD⟩ : ∃ D, decide (MayS s) = D := ⟨_, rfl⟩
  rw [hD]
  obtain ⟨t, u⟩ := s
  show Calls Tryz.prog _ #[.agg #[.int .i64 t, .int .i64 u]] w _
  by_cases h : MayS (t, u)
  · obtain rfl : D = true := by rw [← hD]; exact decide_eq_true h
    rw [if_pos h] at C'
    have C : Hid (∀ w, Calls Tryz.prog 68 #[.agg #[.int .i64 t, .int .i64 u]] w fun e w' => e = .returned (.int .i64 0) ∧ Below w.heap.size w w') := C'
    clear C' h hD
    go_enter Tryz.func53, Tryz.ntmps53
    go_wp2_with fail
    refine (C.out _).mono ?_
    rintro e w1 ⟨rfl, hb1⟩
    have hB1 := below_step (below_new w _) (Nat.le_refl _) hb1
    clear C hb1
    go_wp2_with fail
    go_ret
    exact ⟨rfl, hB1⟩
  · obtain rfl : D = false := by rw [← hD]; exact decide_eq_false h
    rw [if_neg h] at C'
    have C : Hid (∀ w, Calls Tryz.prog 68 #[.agg #[.int .i64 t, .int .i64 u]] w fun e w' => e = .returned (.int .i64 1) ∧ Below w.heap.size w w') := C'
    clear C' h hD
    go_enter Tryz.func53, Tryz.ntmps53
    go_wp2_with fail
    refine (C.out _).mono ?_
    rintro e w1 ⟨rfl, hb1⟩
    have hB1 := below_step (below_new w _) (Nat.le_refl _) hb1
    clear C hb1
    go_wp2_with fail
    go_ret
    exact ⟨rfl, hB1⟩

set_option maxRecDepth 100000 in
set_option maxHeartbeats 2000000 in
theorem mayHold_any (s : Int × Int) (w : World) : Calls Tryz.prog 77 #[stampV s] w fun e w' => e = .returned (.bool (decide (ParS s))) ∧ Below w.heap.size w w' := by
  have CT' := fun w => isTop_any s w
  have CS' := fun w => isStamp_any s w
  have hp : ParS s ↔ (MayS s ∨ s = (0, 0) ∨ s = (0, 1)) := by
    obtain ⟨t, u⟩ := s
    simp only [ParS, Prod.mk.injEq]
    constructor
    · rintro (h | ⟨h1, h2 | h2⟩)
      · exact .inl h
      · exact .inr (.inl ⟨h1, h2⟩)
      · exact .inr (.inr ⟨h1, h2⟩)
    · rintro (h | ⟨h1, h2⟩ | ⟨h1, h2⟩)
      · exact .inl h
      · exact .inr ⟨h1, .inl h2⟩
      · exact .inr ⟨h1, .inr h2⟩
  obtain ⟨D, hD⟩ : ∃ D, decide (ParS s) = D := ⟨_, rfl⟩
  obtain ⟨B, hB⟩ : ∃ B, (decide (s = (0, 0)) || decide (s = (0, 1))) = B := ⟨_, rfl⟩
  obtain ⟨A, hA⟩ : ∃ A, decide (MayS s) = A := ⟨_, rfl⟩
  have hd : D = (B || A) := by
    rw [← hD, ← hB, ← hA]
    by_cases h : ParS s
    · rw [decide_eq_true h]
      rcases hp.1 h with h1 | h1 | h1
      · rw [decide_eq_true h1, Bool.or_true]
      · rw [decide_eq_true h1, Bool.true_or, Bool.true_or]
      · rw [decide_eq_true h1, Bool.or_true, Bool.true_or]
    · rw [decide_eq_false h, decide_eq_false (fun k => h (hp.2 (.inl k))), decide_eq_false (fun k => h (hp.2 (.inr (.inl k)))), decide_eq_false (fun k => h (hp.2 (.inr (.inr k))))]
      rfl
  rw [hD]
  rw [hB] at CT'
  rw [hA] at CS'
  clear hD hB hA hp
  obtain ⟨t, u⟩ := s
  have CT : Hid (∀ w, Calls Tryz.prog 86 #[.agg #[.int .i64 t, .int .i64 u]] w fun e w' => e = .returned (.bool B) ∧ Below w.heap.size w w') := CT'
  have CS : Hid (∀ w, Calls Tryz.prog 53 #[.agg #[.int .i64 t, .int .i64 u]] w fun e w' => e = .returned (.bool A) ∧ Below w.heap.size w w') := CS'
  clear CT' CS'
  show Calls Tryz.prog _ #[.agg #[.int .i64 t, .int .i64 u]] w _
  cases B with
  | true =>
    obtain rfl : D = true := hd
    clear CS
    go_enter Tryz.func77, Tryz.ntmps77
    go_wp2_with fail
    refine (CT.out _).mono ?_
    rintro e w1 ⟨rfl, hb1⟩
    have c0 : w1.cell? ⟨w.heap.size, 0, none⟩ = some (.int .i64 t) := by rw [hb1.cell (p := ⟨w.heap.size, 0, none⟩) (by simp)]; simp
    have c1 : w1.cell? ⟨w.heap.size, 1, none⟩ = some (.int .i64 u) := by rw [hb1.cell (p := ⟨w.heap.size, 1, none⟩) (by simp)]; simp
    have hB1 := below_step (below_new w _) (Nat.le_refl _) hb1
    clear CT hb1
    go_wp2_with fail
    go_ret
    exact ⟨rfl, hB1⟩
  | false =>
    obtain rfl : D = A := hd
    go_enter Tryz.func77, Tryz.ntmps77
    go_wp2_with fail
    refine (CT.out _).mono ?_
    rintro e w1 ⟨rfl, hb1⟩
    have c0 : w1.cell? ⟨w.heap.size, 0, none⟩ = some (.int .i64 t) := by rw [hb1.cell (p := ⟨w.heap.size, 0, none⟩) (by simp)]; simp
    have c1 : w1.cell? ⟨w.heap.size, 1, none⟩ = some (.int .i64 u) := by rw [hb1.cell (p := ⟨w.heap.size, 1, none⟩) (by simp)]; simp
    have hB1 := below_step (below_new w _) (Nat.le_refl _) hb1
    clear CT hb1
    go_wp2_with fail
    refine (CS.out _).mono ?_
    rintro e w2 ⟨rfl, hb2⟩
    have hB2 := below_step hB1 (Nat.le_refl _) hb2
    clear CS hB1 hb2 c0 c1
    go_wp2_with fail
    go_ret
    exact ⟨rfl, hB2⟩

set_option maxHeartbeats 1000000 in
theorem isValue_any (s : ByteArray) (w : World) (hs : s.size ≤ 9223372036854775807) : Calls Tryz.prog 71 #[.string s] w fun e w' => e = .returned (.bool (decide (s.size ≤ 64))) ∧ w' = w := by
  obtain ⟨D, hD⟩ : ∃ D, decide (s.size ≤ 64) = D := ⟨_, rfl⟩
  rw [hD]
  by_cases h : s.size ≤ 64
  · obtain rfl : D = true := by rw [← hD]; exact decide_eq_true h
    have g : decide ((s.size : Int) ≤ 64) = true := by simp; omega
    clear hD
    go_enter Tryz.func71, Tryz.ntmps71
    go_wp2
    go_ret
    exact ⟨rfl, rfl⟩
  · obtain rfl : D = false := by rw [← hD]; exact decide_eq_false h
    have g : decide ((s.size : Int) ≤ 64) = false := by simp; omega
    clear hD
    go_enter Tryz.func71, Tryz.ntmps71
    go_wp2
    go_ret
    exact ⟨rfl, rfl⟩
end Go.Proofs.YtogbkfakihnbdaaGreatDoor

/- The code's hold, within (layer 11). -/
namespace Go.Proofs.YtogbkfakihnbdaaGreatDoor
open Go.RowKit
set_option linter.unusedSimpArgs false

theorem MapN.on {w w' : World} {r : Nat} {ns : List NodeT} (h : MapN w r ns) (hb : Below w.heap.size w w') : MapN w' r ns := h.block (hb.block r h.lt)

/-- A look-up as the walk meets it. -/
theorem mapN_two {w : World} {r : Nat} {ns : List NodeT} (h : MapN w r ns) (x y : Int) : ∃ (n : NodeT) (b : Bool), look ns (x, y) = (if b then some n else none) ∧
    ∀ w', Below w.heap.size w w' → (Instr.lookup 99 (.map (some r)) (.agg #[.int .i64 x, .int .i64 y]) true).run Tryz.prog w' = .ok (.tuple #[.agg #[.int .i64 n.1.1, .int .i64 n.1.2, .int .i64 n.2.1.1, .int .i64 n.2.1.2, .string n.2.2.1, .string n.2.2.2], .bool b]) w' := by
  refine ⟨(YtogbkfakihnbdaaGreatDoor.look ns (x, y)).getD node0, (YtogbkfakihnbdaaGreatDoor.look ns (x, y)).isSome, ?_, fun w' hb => (h.on hb).look (x, y) true⟩
  cases YtogbkfakihnbdaaGreatDoor.look ns (x, y) <;> rfl

theorem mapN_len {w : World} {r : Nat} {ns : List NodeT} (h : MapN w r ns) (ty : TypeId) : (Builtin.len_ #[99] ty #[.map (some r)]).run Tryz.prog w = .ok (.int .i64 (ns.length : Int)) w := by
  obtain ⟨es, clock, h1, h2⟩ := h.len
  unfold Builtin.len_
  simp [Sem.run_bind, run_underlying (show Tryz.prog.underlying 99 = some (.map 26 47) by first | exact Tryz.underlying99 | kernel_rfl), MapKept.run_getObj_map h1, goInt, h2]

set_option maxRecDepth 100000 in
set_option maxHeartbeats 2000000 in
theorem hold_any (ns : List NodeT) (r : Nat) (s : Int × Int) (w : World) (hM : MapN w r ns) :
    Calls Tryz.prog 72 #[.map (some r), stampV s] w fun e w' => e = .returned (.bool (holdB ns s)) ∧ Below w.heap.size w w' := by
  have CT' := fun w => isTop_any s w
  obtain ⟨D, hD⟩ : ∃ D, holdB ns s = D := ⟨_, rfl⟩
  unfold holdB at hD
  obtain ⟨B, hB⟩ : ∃ B, (decide (s = (0, 0)) || decide (s = (0, 1))) = B := ⟨_, rfl⟩
  rw [hB] at CT' hD
  obtain ⟨x, y⟩ := s
  obtain ⟨n, b, hb, hl⟩ := mapN_two hM x y
  rw [hb] at hD
  rw [show holdB ns (x, y) = D by unfold holdB; rw [hb, hB]; exact hD]
  have CT : Hid (∀ w, Calls Tryz.prog 86 #[.agg #[.int .i64 x, .int .i64 y]] w fun e w' => e = .returned (.bool B) ∧ Below w.heap.size w w') := CT'
  have hl1 := fun o => hl (w.alloc o) (below_new w o)
  show Calls Tryz.prog _ #[_, .agg #[.int .i64 x, .int .i64 y]] w _
  clear CT' hB hb hl hM
  cases b with
  | true =>
    obtain rfl : D = true := by rw [← hD]; rfl
    clear hD
    go_enter Tryz.func72, Tryz.ntmps72
    go_wp2_with fail
    go_ret
    exact ⟨rfl, (below_new w _).alloc (by simp) _⟩
  | false =>
    obtain rfl : D = B := by rw [← hD]; rfl
    clear hD
    go_enter Tryz.func72, Tryz.ntmps72
    go_wp2_with fail
    refine (CT.out _).mono ?_
    rintro e w1 ⟨rfl, hb1⟩
    have hB1 := below_step ((below_new w _).alloc (by simp) _) (Nat.le_refl _) hb1
    clear CT hb1
    go_wp2_with fail
    go_ret
    exact ⟨rfl, hB1⟩

theorem stampEq_no (x y t u : Int) (D : Bool) (h : decide ((x, y) = (t, u)) = D) (w : World) : (Op.equalIn 10000 26 (.agg #[.int .i64 x, .int .i64 y]) (.agg #[.int .i64 t, .int .i64 u])).run Tryz.prog w = .ok D w := by
  rw [stampEq, h]

set_option maxRecDepth 100000 in
set_option maxHeartbeats 4000000 in
theorem within_any (ns : List NodeT) (r : Nat) (p id : Int × Int) (w : World) (hM : MapN w r ns) (hn : ns.length ≤ 1048576) :
    Calls Tryz.prog 73 #[.map (some r), stampV p, stampV id] w fun e w' => e = .returned (.bool (withinF ns id ns.length p)) ∧ Below w.heap.size w w' := by
  obtain ⟨E, HE⟩ : ∃ E, Hid (E = withinF ns id ns.length p) := ⟨_, rfl⟩
  rw [← HE.out]
  obtain ⟨t, u⟩ := id
  obtain ⟨x, y⟩ := p
  show Calls Tryz.prog _ #[_, .agg #[.int .i64 x, .int .i64 y], .agg #[.int .i64 t, .int .i64 u]] w _
  have A1 : Hid (Blk ((w.alloc (.cells #[.int .i64 x, .int .i64 y] 26)).alloc (.cells #[.int .i64 t, .int .i64 u] 26)) 26 w.heap.size #[.int .i64 x, .int .i64 y]) := (Blk.new _ _ _).alloc _
  have A2 : Hid (Blk ((w.alloc (.cells #[.int .i64 x, .int .i64 y] 26)).alloc (.cells #[.int .i64 t, .int .i64 u] 26)) 26 (w.heap.size + 1) #[.int .i64 t, .int .i64 u]) := Blk.new' _ _ _ _ (by simp)
  have AB : Below w.heap.size w ((w.alloc (.cells #[.int .i64 x, .int .i64 y] 26)).alloc (.cells #[.int .i64 t, .int .i64 u] 26)) := (below_new w _).alloc (by simp) _
  have HM : Hid (MapN w r ns) := hM
  obtain ⟨n, hnn⟩ : ∃ n, ns.length = n := ⟨_, rfl⟩
  have hlen := fun ty => mapN_len (hM.on AB) ty
  rw [hnn] at hn hlen HE
  clear hM hnn
  go_enter Tryz.func73, Tryz.ntmps73
  go_wp2_with fail
  go_loopw [11] (fun i wr => ∃ (k : Nat) (q : Int × Int), k ≤ n ∧ i = .int .i64 k ∧ Hid (Blk wr 26 w.heap.size #[.int .i64 q.1, .int .i64 q.2]) ∧ Hid (Blk wr 26 (w.heap.size + 1) #[.int .i64 t, .int .i64 u]) ∧ Hid (E = withinF ns (t, u) (n - k) q) ∧ Below w.heap.size w wr) (fun i _ => n - (intOf i).toNat)
  case atStart => exact ⟨0, (x, y), Nat.zero_le _, rfl, A1, A2, HE, AB⟩
  case round =>
    clear A1 A2 AB HE hlen
    obtain ⟨k, ⟨x, y⟩, hk, rfl, B1, B2, HE, hbl⟩ := hrel
    have c0 : wr.cell? ⟨w.heap.size, 0, none⟩ = some (.int .i64 x) := B1.out.cell 0
    have c1 : wr.cell? ⟨w.heap.size, 1, none⟩ = some (.int .i64 y) := B1.out.cell 1
    have d0 : wr.cell? ⟨w.heap.size + 1, 0, none⟩ = some (.int .i64 t) := B2.out.cell 0
    have d1 : wr.cell? ⟨w.heap.size + 1, 1, none⟩ = some (.int .i64 u) := B2.out.cell 1
    by_cases hlt : k < n
    · have b0 : (k : Int) < (n : Int) := by omega
      have HU : Hid (withinF ns (t, u) (n - k) (x, y) = if (x, y) = (t, u) then true else match look ns (x, y) with | none => false | some m => withinF ns (t, u) (n - (k + 1)) m.2.1) := by
        show _ = _
        rw [show n - k = (n - (k + 1)) + 1 by omega]; rfl
      by_cases he : (x, y) = (t, u)
      · have hE := fun w => stampEq_no x y t u true (decide_eq_true he) w
        obtain rfl : E = true := by rw [HE.out, HU.out, if_pos he]
        clear HE HU he B1 B2 HM
        go_wp2_with fail
        go_ret
        exact ⟨rfl, hbl⟩
      · have hE := fun w => stampEq_no x y t u false (decide_eq_false he) w
        obtain ⟨m, b, hb, hl⟩ := mapN_two (HM.out.on hbl) x y
        rw [if_neg he, hb] at HU
        have hl1 := hl wr (Below.refl _ _)
        clear hl hb
        cases b with
        | false =>
          obtain rfl : E = false := by rw [HE.out, HU.out]; rfl
          clear HE HU he B1 B2 HM
          go_wp2_with fail
          go_ret
          exact ⟨rfl, hbl.alloc (hbl.size) _⟩
        | true =>
          have HE' : Hid (E = withinF ns (t, u) (n - (k + 1)) m.2.1) := by show _ = _; rw [HE.out, HU.out]; rfl
          obtain ⟨⟨m1, m2⟩, ⟨m3, m4⟩, m5, m6⟩ := m
          clear HE HU he
          have X1 := B1.out.alloc (.cells #[.int .i64 m1, .int .i64 m2, .int .i64 m3, .int .i64 m4, .string m5, .string m6] 47)
          have X2 := B2.out.alloc (.cells #[.int .i64 m1, .int .i64 m2, .int .i64 m3, .int .i64 m4, .string m5, .string m6] 47)
          have hB1 := hbl.alloc hbl.size (.cells #[.int .i64 m1, .int .i64 m2, .int .i64 m3, .int .i64 m4, .string m5, .string m6] 47)
          go_wp2_with (with_reducible refine wpList_storeBlkH rfl 26 _ _ rfl w.heap.size #[.int .i64 x, .int .i64 y] #[.int .i64 m3, .int .i64 m4] ?hx ?hy X1 rfl ?hi ?h1 ?_)
          try (case hx => rfl)
          try (case hy => rfl)
          try (case hi => first | kernel_rfl | (refine Option.map_eq_some_iff.1 (?_ : (Tryz.prog.info? 26).map (·.size) = some 2); kernel_rfl))
          try (case h1 => simp [Value.oneCell'])
          unfold Hid
          have Y1 := X1.setRow #[.int .i64 m3, .int .i64 m4]
          have Y2 := X2.setRowOther w.heap.size (by omega) #[.int .i64 m3, .int .i64 m4]
          have hB2 := below_setRow hB1 (Nat.le_refl _) #[.int .i64 m3, .int .i64 m4]
          clear X1 X2 hB1 B1 B2 c0 c1 d0 d1 hl1 hE hbl
          go_wp2_with fail
          refine ⟨⟨k + 1, (m3, m4), by omega, by go_num, Y1, Y2, HE', hB2⟩, ?_⟩
          simp [intOf]; omega
    · obtain rfl : E = false := by rw [HE.out, show n - k = 0 by omega]; rfl
      have b0 : ¬ ((k : Int) < (n : Int)) := by omega
      clear HE B1 B2 HM
      go_wp2
      go_ret
      exact ⟨rfl, hbl⟩
end Go.Proofs.YtogbkfakihnbdaaGreatDoor

/- The code's change, create, move, do (layer 11). -/
namespace Go.Proofs.YtogbkfakihnbdaaGreatDoor
open Go.RowKit
set_option linter.unusedSimpArgs false

theorem MapN.grown {w w' : World} {r : Nat} {row : Option Nat} {ns : List NodeT} (h : MapN w r ns) (hg : w.grownBy w' row) (hr : some r ≠ row) : MapN w' r ns := h.block (hg.block r h.lt hr)

end Go.Proofs.YtogbkfakihnbdaaGreatDoor

/- The code's closures of do and move; create, move, do (layer 11). -/
namespace Go.Proofs.YtogbkfakihnbdaaGreatDoor
open Go.RowKit
set_option linter.unusedSimpArgs false

theorem grown_set (w : World) (g j : Nat) (v : Value) : w.grownBy (w.setCell ⟨g, j, none⟩ v) (some g) :=
  ⟨rfl, rfl, rfl, by simp [World.setCell], fun k _ hk => Below.heap_setCell w ⟨g, j, none⟩ v k (fun e => hk (by rw [e]))⟩

end Go.Proofs.YtogbkfakihnbdaaGreatDoor
