import Derived.Test.YtjmbnoacbmmcdaaGreatDoorG
import Derived.BigQuiet
import Derived.Deep.QuietTactic
import Derived.Sort.Grow
import Derived.Test.YtjmbnoacbmmcdaaGreatDoorCkA
import Derived.Test.YtjmbnoacbmmcdaaGreatDoorRT
import Derived.Test.YtjmbnoacbmmcdaaGreatDoorMP
import Derived.Test.YtjmbnoacbmmcdaaGreatDoorTX
import Derived.Shelf.Abstract
/- A region that draws its order, whose operations only read and whose callees leave what was there as it was: walked once. Plain facts. -/
namespace Go.Proofs.YtjmbnoacbmmcdaaGreatDoor
open Go.RowKit
set_option linter.unusedSimpArgs false

/-- A world behind another, with all that was there as it was. -/
structure Beh (w : World) where
  w' : World
  h : Below w.heap.size w w'

theorem wp_region_quiet_beh {P : Program} {id : Nat} {Q : Exit → Act → World → Prop} {a : Act} {w : World} {l : List Oper} (hm : P.follows .mixedOrders = true) (hB : Region.lexB .any l.toArray = true)
    (h : wpQuiet P l.toArray (fun w' => ∃ p : Beh w, w' = p.w') (fun a' => ∀ w', (∃ p : Beh w, w' = p.w') → Q .normal a' w') l a) : (Code.region id l.toArray true).wp P Q a w :=
  wp_region_quiet (C := fun w' => ∃ p : Beh w, w' = p.w') hm hB ⟨⟨w.drew, (Below.refl _ _).drew⟩, rfl⟩ (by simpa using h)

/-- A callee's contract, met in a world behind w. -/
theorem Calls.beh_of {P : Program} {f : FuncId} {args : Array Value} {w : World} {p : Beh w} {v : Value} (h : Calls P f args p.w' fun e w' => e = .returned v ∧ Below p.w'.heap.size p.w' w') :
    Calls P f args p.w' fun e w'' => e = .returned v ∧ ∃ q : Beh w, w'' = q.w' :=
  h.mono fun _ w' ⟨he, hb⟩ => ⟨he, ⟨⟨w', below_step p.h (Nat.le_refl _) hb⟩, rfl⟩⟩

theorem Beh.cell {w : World} (p : Beh w) {a : Addr} {v : Value} (h : w.cell? a = some v) : p.w'.cell? a = some v := by
  rw [p.h.cell (World.block_lt_of_cell? w _ h)]; exact h
end Go.Proofs.YtjmbnoacbmmcdaaGreatDoor

/- The code's root, trash, isTop, isStamp, mayHold, isValue (layer 11). -/
namespace Go.Proofs.YtjmbnoacbmmcdaaGreatDoor
open Go.RowKit
set_option linter.unusedSimpArgs false

set_option maxHeartbeats 1000000 in
theorem root_any (w : World) : Calls Tryz.prog 24 #[] w fun e w' => e = .returned (.agg #[.int .i64 0, .int .i64 0]) ∧ Below w.heap.size w w' := by
  have HB : Hid (Blk (w.alloc (.cells #[.int .i64 0, .int .i64 0] 25)) 25 w.heap.size #[.int .i64 0, .int .i64 0]) := Blk.new _ _ _
  go_enter Tryz.func24, Tryz.ntmps24
  go_wp2_with fail
  exact bodyPost_row rfl w.heap.size #[.int .i64 0, .int .i64 0] rfl rfl HB.out _ Tryz.underlying25 rfl (by kernel_rfl) ⟨rfl, below_new w _⟩

set_option maxHeartbeats 1000000 in
theorem trash_any (w : World) : Calls Tryz.prog 65 #[] w fun e w' => e = .returned (.agg #[.int .i64 0, .int .i64 1]) ∧ Below w.heap.size w w' := by
  have HB : Hid (Blk (w.alloc (.cells #[.int .i64 0, .int .i64 0] 25)) 25 w.heap.size #[.int .i64 0, .int .i64 0]) := Blk.new _ _ _
  go_enter Tryz.func65, Tryz.ntmps65
  go_wp2_with (with_reducible refine wpList_storeBlk rfl 25 _ _ rfl w.heap.size #[.int .i64 0, .int .i64 0] #[.int .i64 0, .int .i64 1] ?hx ?hy HB.out rfl ?hi ?h1 ?_)
  try (case hx => rfl)
  try (case hy => rfl)
  try (case hi => kernel_rfl)
  try (case h1 => simp [Value.oneCell'])
  exact bodyPost_row rfl w.heap.size #[.int .i64 0, .int .i64 1] rfl rfl (HB.out.setRow _) _ Tryz.underlying25 rfl (by kernel_rfl) ⟨rfl, below_setRow (below_new w _) (Nat.le_refl _) _⟩

set_option maxRecDepth 100000 in
set_option maxHeartbeats 2000000 in
theorem isTop_any (s : Int × Int) (w : World) : Calls Tryz.prog 78 #[stampV s] w fun e w' => e = .returned (.bool (decide (s = (0, 0)) || decide (s = (0, 1)))) ∧ Below w.heap.size w w' := by
  have CR : Hid (∀ w, _) := root_any
  have CT : Hid (∀ w, _) := trash_any
  obtain ⟨t, u⟩ := s
  show Calls Tryz.prog _ #[.agg #[.int .i64 t, .int .i64 u]] w _
  have e0 := fun w => stampEq t u 0 0 w
  have e1 := fun w => stampEq t u 0 1 w
  by_cases h0 : (t, u) = (0, 0)
  · rw [decide_eq_true h0] at e0 ⊢
    rw [Bool.true_or]
    clear h0 e1
    go_enter Tryz.func78, Tryz.ntmps78
    go_wp2_with fail
    generalize hq : World.alloc w _ = w0 at *
    have hb0 : Below w.heap.size w w0 := by rw [← hq]; exact below_new w _
    have c0 : ∀ p : Beh w0, p.w'.cell? ⟨w.heap.size, 0, none⟩ = some (.int .i64 t) := fun p => p.cell (by rw [← hq]; simp)
    have c1 : ∀ p : Beh w0, p.w'.cell? ⟨w.heap.size, 1, none⟩ = some (.int .i64 u) := fun p => p.cell (by rw [← hq]; simp)
    clear hq
    have hne_ : Nonempty (Beh w0) := ⟨⟨_, Below.refl _ _⟩⟩
    refine wp_region_quiet_beh (by kernel_rfl) (by kernel_rfl) ?_
    repeat (quiet_step (first | (go_at_call 24; refine Calls.beh_of (CR.out _)) | (go_at_call 65; refine Calls.beh_of (CT.out _))))
    refine wpQuiet_nil ?_
    intro wq hw_
    obtain ⟨⟨wz_, hbq⟩, hw_⟩ := hw_
    subst hw_
    try dsimp only
    clear hne_
    go_wp2_with fail
    go_ret
    exact ⟨rfl, below_step hb0 (Nat.le_refl _) hbq⟩
  · rw [decide_eq_false h0] at e0 ⊢
    by_cases h1 : (t, u) = (0, 1)
    · rw [decide_eq_true h1] at e1 ⊢
      rw [Bool.false_or]
      clear h0 h1
      go_enter Tryz.func78, Tryz.ntmps78
      go_wp2_with fail
      generalize hq : World.alloc w _ = w0 at *
      have hb0 : Below w.heap.size w w0 := by rw [← hq]; exact below_new w _
      have c0 : ∀ p : Beh w0, p.w'.cell? ⟨w.heap.size, 0, none⟩ = some (.int .i64 t) := fun p => p.cell (by rw [← hq]; simp)
      have c1 : ∀ p : Beh w0, p.w'.cell? ⟨w.heap.size, 1, none⟩ = some (.int .i64 u) := fun p => p.cell (by rw [← hq]; simp)
      clear hq
      have hne_ : Nonempty (Beh w0) := ⟨⟨_, Below.refl _ _⟩⟩
      refine wp_region_quiet_beh (by kernel_rfl) (by kernel_rfl) ?_
      repeat (quiet_step (first | (go_at_call 24; refine Calls.beh_of (CR.out _)) | (go_at_call 65; refine Calls.beh_of (CT.out _))))
      refine wpQuiet_nil ?_
      intro wq hw_
      obtain ⟨⟨wz_, hbq⟩, hw_⟩ := hw_
      subst hw_
      try dsimp only
      clear hne_
      go_wp2_with fail
      go_ret
      exact ⟨rfl, below_step hb0 (Nat.le_refl _) hbq⟩
    · rw [decide_eq_false h1] at e1 ⊢
      rw [Bool.false_or]
      clear h0 h1
      go_enter Tryz.func78, Tryz.ntmps78
      go_wp2_with fail
      generalize hq : World.alloc w _ = w0 at *
      have hb0 : Below w.heap.size w w0 := by rw [← hq]; exact below_new w _
      have c0 : ∀ p : Beh w0, p.w'.cell? ⟨w.heap.size, 0, none⟩ = some (.int .i64 t) := fun p => p.cell (by rw [← hq]; simp)
      have c1 : ∀ p : Beh w0, p.w'.cell? ⟨w.heap.size, 1, none⟩ = some (.int .i64 u) := fun p => p.cell (by rw [← hq]; simp)
      clear hq
      have hne_ : Nonempty (Beh w0) := ⟨⟨_, Below.refl _ _⟩⟩
      refine wp_region_quiet_beh (by kernel_rfl) (by kernel_rfl) ?_
      repeat (quiet_step (first | (go_at_call 24; refine Calls.beh_of (CR.out _)) | (go_at_call 65; refine Calls.beh_of (CT.out _))))
      refine wpQuiet_nil ?_
      intro wq hw_
      obtain ⟨⟨wz_, hbq⟩, hw_⟩ := hw_
      subst hw_
      try dsimp only
      clear hne_
      go_wp2_with fail
      go_ret
      exact ⟨rfl, below_step hb0 (Nat.le_refl _) hbq⟩

set_option maxHeartbeats 1000000 in
theorem isStamp_any (s : Int × Int) (w : World) : Calls Tryz.prog 29 #[stampV s] w fun e w' => e = .returned (.bool (decide (MayS s))) ∧ Below w.heap.size w w' := by
  have C' := fun w => checkS_any s w
  obtain ⟨D, hD⟩ : ∃ D, decide (MayS s) = D := ⟨_, rfl⟩
  rw [hD]
  obtain ⟨t, u⟩ := s
  show Calls Tryz.prog _ #[.agg #[.int .i64 t, .int .i64 u]] w _
  by_cases h : MayS (t, u)
  · obtain rfl : D = true := by rw [← hD]; exact decide_eq_true h
    rw [if_pos h] at C'
    have C : Hid (∀ w, Calls Tryz.prog 51 #[.agg #[.int .i64 t, .int .i64 u]] w fun e w' => e = .returned (.int .i64 0) ∧ Below w.heap.size w w') := C'
    clear C' h hD
    go_enter Tryz.func29, Tryz.ntmps29
    go_wp2_with fail
    refine (C.out _).mono ?_
    rintro e w1 ⟨rfl, hb1⟩
    have hB1 := below_step (below_new w _) (Nat.le_refl _) hb1
    clear C hb1
    go_wp2_with fail
    go_ret
    exact ⟨rfl, hB1⟩
  · obtain rfl : D = false := by rw [← hD]; exact decide_eq_false h
    rw [if_neg h] at C'
    have C : Hid (∀ w, Calls Tryz.prog 51 #[.agg #[.int .i64 t, .int .i64 u]] w fun e w' => e = .returned (.int .i64 1) ∧ Below w.heap.size w w') := C'
    clear C' h hD
    go_enter Tryz.func29, Tryz.ntmps29
    go_wp2_with fail
    refine (C.out _).mono ?_
    rintro e w1 ⟨rfl, hb1⟩
    have hB1 := below_step (below_new w _) (Nat.le_refl _) hb1
    clear C hb1
    go_wp2_with fail
    go_ret
    exact ⟨rfl, hB1⟩

set_option maxRecDepth 100000 in
set_option maxHeartbeats 2000000 in
theorem mayHold_any (s : Int × Int) (w : World) : Calls Tryz.prog 52 #[stampV s] w fun e w' => e = .returned (.bool (decide (ParS s))) ∧ Below w.heap.size w w' := by
  have CT' := fun w => isTop_any s w
  have CS' := fun w => isStamp_any s w
  have hp : ParS s ↔ (MayS s ∨ s = (0, 0) ∨ s = (0, 1)) := by
    obtain ⟨t, u⟩ := s
    simp only [ParS, Prod.mk.injEq]
    constructor
    · rintro (h | ⟨h1, h2 | h2⟩)
      · exact .inl h
      · exact .inr (.inl ⟨h1, h2⟩)
      · exact .inr (.inr ⟨h1, h2⟩)
    · rintro (h | ⟨h1, h2⟩ | ⟨h1, h2⟩)
      · exact .inl h
      · exact .inr ⟨h1, .inl h2⟩
      · exact .inr ⟨h1, .inr h2⟩
  obtain ⟨D, hD⟩ : ∃ D, decide (ParS s) = D := ⟨_, rfl⟩
  obtain ⟨B, hB⟩ : ∃ B, (decide (s = (0, 0)) || decide (s = (0, 1))) = B := ⟨_, rfl⟩
  obtain ⟨A, hA⟩ : ∃ A, decide (MayS s) = A := ⟨_, rfl⟩
  have hd : D = (B || A) := by
    rw [← hD, ← hB, ← hA]
    by_cases h : ParS s
    · rw [decide_eq_true h]
      rcases hp.1 h with h1 | h1 | h1
      · rw [decide_eq_true h1, Bool.or_true]
      · rw [decide_eq_true h1, Bool.true_or, Bool.true_or]
      · rw [decide_eq_true h1, Bool.or_true, Bool.true_or]
    · rw [decide_eq_false h, decide_eq_false (fun k => h (hp.2 (.inl k))), decide_eq_false (fun k => h (hp.2 (.inr (.inl k)))), decide_eq_false (fun k => h (hp.2 (.inr (.inr k))))]
      rfl
  rw [hD]
  rw [hB] at CT'
  rw [hA] at CS'
  clear hD hB hA hp
  obtain ⟨t, u⟩ := s
  have CT : Hid (∀ w, Calls Tryz.prog 78 #[.agg #[.int .i64 t, .int .i64 u]] w fun e w' => e = .returned (.bool B) ∧ Below w.heap.size w w') := CT'
  have CS : Hid (∀ w, Calls Tryz.prog 29 #[.agg #[.int .i64 t, .int .i64 u]] w fun e w' => e = .returned (.bool A) ∧ Below w.heap.size w w') := CS'
  clear CT' CS'
  show Calls Tryz.prog _ #[.agg #[.int .i64 t, .int .i64 u]] w _
  cases B with
  | true =>
    obtain rfl : D = true := hd
    clear CS
    go_enter Tryz.func52, Tryz.ntmps52
    go_wp2_with fail
    refine (CT.out _).mono ?_
    rintro e w1 ⟨rfl, hb1⟩
    have c0 : w1.cell? ⟨w.heap.size, 0, none⟩ = some (.int .i64 t) := by rw [hb1.cell (p := ⟨w.heap.size, 0, none⟩) (by simp)]; simp
    have c1 : w1.cell? ⟨w.heap.size, 1, none⟩ = some (.int .i64 u) := by rw [hb1.cell (p := ⟨w.heap.size, 1, none⟩) (by simp)]; simp
    have hB1 := below_step (below_new w _) (Nat.le_refl _) hb1
    clear CT hb1
    go_wp2_with fail
    go_ret
    exact ⟨rfl, hB1⟩
  | false =>
    obtain rfl : D = A := hd
    go_enter Tryz.func52, Tryz.ntmps52
    go_wp2_with fail
    refine (CT.out _).mono ?_
    rintro e w1 ⟨rfl, hb1⟩
    have c0 : w1.cell? ⟨w.heap.size, 0, none⟩ = some (.int .i64 t) := by rw [hb1.cell (p := ⟨w.heap.size, 0, none⟩) (by simp)]; simp
    have c1 : w1.cell? ⟨w.heap.size, 1, none⟩ = some (.int .i64 u) := by rw [hb1.cell (p := ⟨w.heap.size, 1, none⟩) (by simp)]; simp
    have hB1 := below_step (below_new w _) (Nat.le_refl _) hb1
    clear CT hb1
    go_wp2_with fail
    refine (CS.out _).mono ?_
    rintro e w2 ⟨rfl, hb2⟩
    have hB2 := below_step hB1 (Nat.le_refl _) hb2
    clear CS hB1 hb2 c0 c1
    go_wp2_with fail
    go_ret
    exact ⟨rfl, hB2⟩

set_option maxHeartbeats 1000000 in
theorem isValue_any (s : ByteArray) (w : World) (hs : s.size ≤ 9223372036854775807) : Calls Tryz.prog 54 #[.string s] w fun e w' => e = .returned (.bool (decide (s.size ≤ 64))) ∧ w' = w := by
  obtain ⟨D, hD⟩ : ∃ D, decide (s.size ≤ 64) = D := ⟨_, rfl⟩
  rw [hD]
  by_cases h : s.size ≤ 64
  · obtain rfl : D = true := by rw [← hD]; exact decide_eq_true h
    have g : decide ((s.size : Int) ≤ 64) = true := by simp; omega
    clear hD
    go_enter Tryz.func54, Tryz.ntmps54
    go_wp2
    go_ret
    exact ⟨rfl, rfl⟩
  · obtain rfl : D = false := by rw [← hD]; exact decide_eq_false h
    have g : decide ((s.size : Int) ≤ 64) = false := by simp; omega
    clear hD
    go_enter Tryz.func54, Tryz.ntmps54
    go_wp2
    go_ret
    exact ⟨rfl, rfl⟩
end Go.Proofs.YtjmbnoacbmmcdaaGreatDoor

/- The code's hold, within (layer 11). -/
namespace Go.Proofs.YtjmbnoacbmmcdaaGreatDoor
open Go.RowKit
set_option linter.unusedSimpArgs false

theorem MapN.on {w w' : World} {r : Nat} {ns : List NodeT} (h : MapN w r ns) (hb : Below w.heap.size w w') : MapN w' r ns := h.block (hb.block r h.lt)

/-- A look-up as the walk meets it. -/
theorem mapN_two {w : World} {r : Nat} {ns : List NodeT} (h : MapN w r ns) (x y : Int) : ∃ (n : NodeT) (b : Bool), look ns (x, y) = (if b then some n else none) ∧
    ∀ w', Below w.heap.size w w' → (Instr.lookup 60 (.map (some r)) (.agg #[.int .i64 x, .int .i64 y]) true).run Tryz.prog w' = .ok (.tuple #[.agg #[.int .i64 n.1.1, .int .i64 n.1.2, .int .i64 n.2.1.1, .int .i64 n.2.1.2, .string n.2.2.1, .string n.2.2.2], .bool b]) w' := by
  refine ⟨(YtjmbnoacbmmcdaaGreatDoor.look ns (x, y)).getD node0, (YtjmbnoacbmmcdaaGreatDoor.look ns (x, y)).isSome, ?_, fun w' hb => (h.on hb).look (x, y) true⟩
  cases YtjmbnoacbmmcdaaGreatDoor.look ns (x, y) <;> rfl

theorem mapN_len {w : World} {r : Nat} {ns : List NodeT} (h : MapN w r ns) (ty : TypeId) : (Builtin.len_ #[60] ty #[.map (some r)]).run Tryz.prog w = .ok (.int .i64 (ns.length : Int)) w := by
  obtain ⟨es, clock, h1, h2⟩ := h.len
  unfold Builtin.len_
  simp [Sem.run_bind, run_underlying (show Tryz.prog.underlying 60 = some (.map 25 44) by first | exact Tryz.underlying60 | kernel_rfl), MapKept.run_getObj_map h1, goInt, h2]

set_option maxRecDepth 100000 in
set_option maxHeartbeats 2000000 in
theorem hold_any (ns : List NodeT) (r : Nat) (s : Int × Int) (w : World) (hM : MapN w r ns) :
    Calls Tryz.prog 71 #[.map (some r), stampV s] w fun e w' => e = .returned (.bool (holdB ns s)) ∧ Below w.heap.size w w' := by
  have CT' := fun w => isTop_any s w
  obtain ⟨D, hD⟩ : ∃ D, holdB ns s = D := ⟨_, rfl⟩
  unfold holdB at hD
  obtain ⟨B, hB⟩ : ∃ B, (decide (s = (0, 0)) || decide (s = (0, 1))) = B := ⟨_, rfl⟩
  rw [hB] at CT' hD
  obtain ⟨x, y⟩ := s
  obtain ⟨n, b, hb, hl⟩ := mapN_two hM x y
  rw [hb] at hD
  rw [show holdB ns (x, y) = D by unfold holdB; rw [hb, hB]; exact hD]
  have CT : Hid (∀ w, Calls Tryz.prog 78 #[.agg #[.int .i64 x, .int .i64 y]] w fun e w' => e = .returned (.bool B) ∧ Below w.heap.size w w') := CT'
  have hl1 := fun o => hl (w.alloc o) (below_new w o)
  show Calls Tryz.prog _ #[_, .agg #[.int .i64 x, .int .i64 y]] w _
  clear CT' hB hb hl hM
  cases b with
  | true =>
    obtain rfl : D = true := by rw [← hD]; rfl
    clear hD
    go_enter Tryz.func71, Tryz.ntmps71
    go_wp2_with fail
    go_ret
    exact ⟨rfl, (below_new w _).alloc (by simp) _⟩
  | false =>
    obtain rfl : D = B := by rw [← hD]; rfl
    clear hD
    go_enter Tryz.func71, Tryz.ntmps71
    go_wp2_with fail
    refine (CT.out _).mono ?_
    rintro e w1 ⟨rfl, hb1⟩
    have hB1 := below_step ((below_new w _).alloc (by simp) _) (Nat.le_refl _) hb1
    clear CT hb1
    go_wp2_with fail
    go_ret
    exact ⟨rfl, hB1⟩

theorem stampEq_no (x y t u : Int) (D : Bool) (h : decide ((x, y) = (t, u)) = D) (w : World) : (Op.equalIn 10000 25 (.agg #[.int .i64 x, .int .i64 y]) (.agg #[.int .i64 t, .int .i64 u])).run Tryz.prog w = .ok D w := by
  rw [stampEq, h]

set_option maxRecDepth 100000 in
set_option maxHeartbeats 4000000 in
theorem within_any (ns : List NodeT) (r : Nat) (p id : Int × Int) (w : World) (hM : MapN w r ns) (hn : ns.length ≤ 1048576) :
    Calls Tryz.prog 72 #[.map (some r), stampV p, stampV id] w fun e w' => e = .returned (.bool (withinF ns id ns.length p)) ∧ Below w.heap.size w w' := by
  obtain ⟨E, HE⟩ : ∃ E, Hid (E = withinF ns id ns.length p) := ⟨_, rfl⟩
  rw [← HE.out]
  obtain ⟨t, u⟩ := id
  obtain ⟨x, y⟩ := p
  show Calls Tryz.prog _ #[_, .agg #[.int .i64 x, .int .i64 y], .agg #[.int .i64 t, .int .i64 u]] w _
  have A1 : Hid (Blk ((w.alloc (.cells #[.int .i64 x, .int .i64 y] 25)).alloc (.cells #[.int .i64 t, .int .i64 u] 25)) 25 w.heap.size #[.int .i64 x, .int .i64 y]) := (Blk.new _ _ _).alloc _
  have A2 : Hid (Blk ((w.alloc (.cells #[.int .i64 x, .int .i64 y] 25)).alloc (.cells #[.int .i64 t, .int .i64 u] 25)) 25 (w.heap.size + 1) #[.int .i64 t, .int .i64 u]) := Blk.new' _ _ _ _ (by simp)
  have AB : Below w.heap.size w ((w.alloc (.cells #[.int .i64 x, .int .i64 y] 25)).alloc (.cells #[.int .i64 t, .int .i64 u] 25)) := (below_new w _).alloc (by simp) _
  have HM : Hid (MapN w r ns) := hM
  obtain ⟨n, hnn⟩ : ∃ n, ns.length = n := ⟨_, rfl⟩
  have hlen := fun ty => mapN_len (hM.on AB) ty
  rw [hnn] at hn hlen HE
  clear hM hnn
  go_enter Tryz.func72, Tryz.ntmps72
  go_wp2_with fail
  go_loopw [11] (fun i wr => ∃ (k : Nat) (q : Int × Int), k ≤ n ∧ i = .int .i64 k ∧ Hid (Blk wr 25 w.heap.size #[.int .i64 q.1, .int .i64 q.2]) ∧ Hid (Blk wr 25 (w.heap.size + 1) #[.int .i64 t, .int .i64 u]) ∧ Hid (E = withinF ns (t, u) (n - k) q) ∧ Below w.heap.size w wr) (fun i _ => n - (intOf i).toNat)
  case atStart => exact ⟨0, (x, y), Nat.zero_le _, rfl, A1, A2, HE, AB⟩
  case round =>
    clear A1 A2 AB HE hlen
    obtain ⟨k, ⟨x, y⟩, hk, rfl, B1, B2, HE, hbl⟩ := hrel
    have c0 : wr.cell? ⟨w.heap.size, 0, none⟩ = some (.int .i64 x) := B1.out.cell 0
    have c1 : wr.cell? ⟨w.heap.size, 1, none⟩ = some (.int .i64 y) := B1.out.cell 1
    have d0 : wr.cell? ⟨w.heap.size + 1, 0, none⟩ = some (.int .i64 t) := B2.out.cell 0
    have d1 : wr.cell? ⟨w.heap.size + 1, 1, none⟩ = some (.int .i64 u) := B2.out.cell 1
    by_cases hlt : k < n
    · have b0 : (k : Int) < (n : Int) := by omega
      have HU : Hid (withinF ns (t, u) (n - k) (x, y) = if (x, y) = (t, u) then true else match look ns (x, y) with | none => false | some m => withinF ns (t, u) (n - (k + 1)) m.2.1) := by
        show _ = _
        rw [show n - k = (n - (k + 1)) + 1 by omega]; rfl
      by_cases he : (x, y) = (t, u)
      · have hE := fun w => stampEq_no x y t u true (decide_eq_true he) w
        obtain rfl : E = true := by rw [HE.out, HU.out, if_pos he]
        clear HE HU he B1 B2 HM
        go_wp2_with fail
        go_ret
        exact ⟨rfl, hbl⟩
      · have hE := fun w => stampEq_no x y t u false (decide_eq_false he) w
        obtain ⟨m, b, hb, hl⟩ := mapN_two (HM.out.on hbl) x y
        rw [if_neg he, hb] at HU
        have hl1 := hl wr (Below.refl _ _)
        clear hl hb
        cases b with
        | false =>
          obtain rfl : E = false := by rw [HE.out, HU.out]; rfl
          clear HE HU he B1 B2 HM
          go_wp2_with fail
          go_ret
          exact ⟨rfl, hbl.alloc (hbl.size) _⟩
        | true =>
          have HE' : Hid (E = withinF ns (t, u) (n - (k + 1)) m.2.1) := by show _ = _; rw [HE.out, HU.out]; rfl
          obtain ⟨⟨m1, m2⟩, ⟨m3, m4⟩, m5, m6⟩ := m
          clear HE HU he
          have X1 := B1.out.alloc (.cells #[.int .i64 m1, .int .i64 m2, .int .i64 m3, .int .i64 m4, .string m5, .string m6] 44)
          have X2 := B2.out.alloc (.cells #[.int .i64 m1, .int .i64 m2, .int .i64 m3, .int .i64 m4, .string m5, .string m6] 44)
          have hB1 := hbl.alloc hbl.size (.cells #[.int .i64 m1, .int .i64 m2, .int .i64 m3, .int .i64 m4, .string m5, .string m6] 44)
          go_wp2_with (with_reducible refine wpList_storeBlkH rfl 25 _ _ rfl w.heap.size #[.int .i64 x, .int .i64 y] #[.int .i64 m3, .int .i64 m4] ?hx ?hy X1 rfl ?hi ?h1 ?_)
          try (case hx => rfl)
          try (case hy => rfl)
          try (case hi => first | kernel_rfl | (refine Option.map_eq_some_iff.1 (?_ : (Tryz.prog.info? 25).map (·.size) = some 2); kernel_rfl))
          try (case h1 => simp [Value.oneCell'])
          unfold Hid
          have Y1 := X1.setRow #[.int .i64 m3, .int .i64 m4]
          have Y2 := X2.setRowOther w.heap.size (by omega) #[.int .i64 m3, .int .i64 m4]
          have hB2 := below_setRow hB1 (Nat.le_refl _) #[.int .i64 m3, .int .i64 m4]
          clear X1 X2 hB1 B1 B2 c0 c1 d0 d1 hl1 hE hbl
          go_wp2_with fail
          refine ⟨⟨k + 1, (m3, m4), by omega, by go_num, Y1, Y2, HE', hB2⟩, ?_⟩
          simp [intOf]; omega
    · obtain rfl : E = false := by rw [HE.out, show n - k = 0 by omega]; rfl
      have b0 : ¬ ((k : Int) < (n : Int)) := by omega
      clear HE B1 B2 HM
      go_wp2
      go_ret
      exact ⟨rfl, hbl⟩
end Go.Proofs.YtjmbnoacbmmcdaaGreatDoor

/- The code's change, create, move, do (layer 11). -/
namespace Go.Proofs.YtjmbnoacbmmcdaaGreatDoor
open Go.RowKit
set_option linter.unusedSimpArgs false

theorem grown_of_below {w w' : World} (h : Below w.heap.size w w') (row : Option Nat) : w.grownBy w' row := ⟨h.os, h.tape, h.output, h.size, fun i hi _ => h.block i hi⟩

theorem MapN.grown {w w' : World} {r : Nat} {row : Option Nat} {ns : List NodeT} (h : MapN w r ns) (hg : w.grownBy w' row) (hr : some r ≠ row) : MapN w' r ns := h.block (hg.block r h.lt hr)

set_option maxRecDepth 100000 in
set_option maxHeartbeats 4000000 in
/-- A node turned by a function that is handed its address. -/
theorem change_any (ns : List NodeT) (r : Nat) (id : Int × Int) (f : NodeT → NodeT) (hf : ∀ n, (f n).1 = n.1) (gf B : Nat) (w : World) (hM : MapN w r ns) (eg : ∀ args w, (callFunc gf args).run Tryz.prog w = .ok (.enter gf args) w)
    (hC : ∀ (n : NodeT) (g : Nat) (W : World), Below w.heap.size w W → w.heap.size ≤ g → Blk W 44 g (nodeA n) → Calls Tryz.prog gf #[.pointer (some ⟨g, 0, none⟩), .pointer (some ⟨B, 0, none⟩)] W fun e W' => e = .returned (.tuple #[]) ∧ Blk W' 44 g (nodeA (f n)) ∧ W.grownBy W' (some g)) :
    Calls Tryz.prog 66 #[.map (some r), stampV id, .func (.func gf) #[] #[.pointer (some ⟨B, 0, none⟩)]] w fun e w' => e = .returned (.tuple #[]) ∧ MapN w' r (changeP ns id f) ∧ w.grownBy w' (some r) := by
  obtain ⟨E, HE⟩ : ∃ E, Hid (E = changeP ns id f) := ⟨_, rfl⟩
  rw [← HE.out]
  obtain ⟨x, y⟩ := id
  obtain ⟨n, b, hb, hl⟩ := mapN_two hM x y
  have hl1 := fun o => hl (w.alloc o) (below_new w o)
  have HM : Hid (MapN w r ns) := hM
  have HL : Hid (look ns (x, y) = if b then some n else none) := hb
  have hrl := hM.lt
  show Calls Tryz.prog _ #[_, .agg #[.int .i64 x, .int .i64 y], _] w _
  clear hl hM hb
  cases b with
  | false =>
    have hE : E = ns := by rw [HE.out]; unfold changeP; rw [HL.out]; rfl
    have HE' : Hid (E = ns) := hE
    clear hE HE HL hC eg
    go_enter Tryz.func66, Tryz.ntmps66
    go_wp2_with fail
    go_end0
    rw [HE'.out]
    have hbb := (below_new w (.cells #[.int .i64 x, .int .i64 y] 25)).alloc (by simp) (.cells #[.int .i64 n.1.1, .int .i64 n.1.2, .int .i64 n.2.1.1, .int .i64 n.2.1.2, .string n.2.2.1, .string n.2.2.2] 44)
    exact ⟨rfl, HM.out.on hbb, grown_of_below hbb _⟩
  | true =>
    have HE' : Hid (E = withR (f n) ns) := by show _ = _; rw [HE.out]; unfold changeP; rw [HL.out]; rfl
    have hid : n.1 = (x, y) := (look_mem HL.out).2
    have HF : Hid ((f n).1 = (x, y)) := (hf n).trans hid
    have HC : Hid (∀ (W : World), Below w.heap.size w W → Blk W 44 (w.heap.size + 1) (nodeA n) → Calls Tryz.prog gf #[.pointer (some ⟨w.heap.size + 1, 0, none⟩), .pointer (some ⟨B, 0, none⟩)] W fun e W' => e = .returned (.tuple #[]) ∧ Blk W' 44 (w.heap.size + 1) (nodeA (f n)) ∧ W.grownBy W' (some (w.heap.size + 1))) := fun W hW hB => hC n _ W hW (by omega) hB
    clear HE HL hC hf hid
    go_enter Tryz.func66, Tryz.ntmps66
    go_wp2_with fail
    obtain ⟨W1, hW1⟩ : ∃ W1, (w.alloc (.cells #[.int .i64 x, .int .i64 y] 25)).alloc (.cells #[.int .i64 n.1.1, .int .i64 n.1.2, .int .i64 n.2.1.1, .int .i64 n.2.1.2, .string n.2.2.1, .string n.2.2.2] 44) = W1 := ⟨_, rfl⟩
    rw [hW1]
    have hB1 : Below w.heap.size w W1 := by rw [← hW1]; exact (below_new w _).alloc (by simp) _
    have hK1 : Blk W1 44 (w.heap.size + 1) (nodeA n) := by rw [← hW1]; exact Blk.new' _ _ _ _ (by simp)
    have hI1 : Blk W1 25 w.heap.size #[.int .i64 x, .int .i64 y] := by rw [← hW1]; exact (Blk.new _ _ _).alloc _
    clear hW1
    refine (HC.out W1 hB1 hK1).mono ?_
    rintro e w2 ⟨rfl, hK2, hg2⟩
    have hI2 := hI1.grown hg2 (by simp)
    have c0 : w2.cell? ⟨w.heap.size, 0, none⟩ = some (.int .i64 x) := hI2.cell 0
    have c1 : w2.cell? ⟨w.heap.size, 1, none⟩ = some (.int .i64 y) := hI2.cell 1
    have hM2 : MapN w2 r ns := (HM.out.on hB1).grown hg2 (by simp; omega)
    obtain ⟨w3, hp, hM3, hg3⟩ := hM2.put (f n)
    have hG3 : Hid (w.grownBy w3 (some r)) := ((grown_of_below hB1 (some r)).andThen hg2 (fun j hj => .inl (by cases hj; omega))).andThen hg3 (fun j hj => .inr hj)
    have HM3 : Hid (MapN w3 r E) := by show MapN w3 r E; rw [HE'.out]; exact hM3
    rw [HF.out] at hp
    obtain ⟨⟨⟨m1, m2⟩, ⟨m3, m4⟩, m5, m6⟩, hm⟩ : ∃ m, m = f n := ⟨_, rfl⟩
    rw [← hm] at hp hK2
    have k0 : w2.cell? ⟨w.heap.size + 1, 0, none⟩ = some (.int .i64 m1) := hK2.cell 0
    have k1 : w2.cell? ⟨w.heap.size + 1, 1, none⟩ = some (.int .i64 m2) := hK2.cell 1
    have k2 : w2.cell? ⟨w.heap.size + 1, 2, none⟩ = some (.int .i64 m3) := hK2.cell 2
    have k3 : w2.cell? ⟨w.heap.size + 1, 3, none⟩ = some (.int .i64 m4) := hK2.cell 3
    have k4 : w2.cell? ⟨w.heap.size + 1, 4, none⟩ = some (.string m5) := hK2.cell 4
    have k5 : w2.cell? ⟨w.heap.size + 1, 5, none⟩ = some (.string m6) := hK2.cell 5
    simp only [keyV, nodeV, nodeA] at hp
    clear HC HM HE' HF hm hK2 hI1 hI2 hB1 hK1 hg2 hM2 hM3 hg3 hl1
    go_wp2_with fail
    go_end0
    exact ⟨rfl, HM3.out, hG3.out⟩
end Go.Proofs.YtjmbnoacbmmcdaaGreatDoor

/- The code's closures of do and move; create, move, do (layer 11). -/
namespace Go.Proofs.YtjmbnoacbmmcdaaGreatDoor
open Go.RowKit
set_option linter.unusedSimpArgs false

theorem grown_set (w : World) (g j : Nat) (v : Value) : w.grownBy (w.setCell ⟨g, j, none⟩ v) (some g) :=
  ⟨rfl, rfl, rfl, by simp [World.setCell], fun k _ hk => Below.heap_setCell w ⟨g, j, none⟩ v k (fun e => hk (by rw [e]))⟩

set_option maxRecDepth 100000 in
set_option maxHeartbeats 2000000 in
theorem do1_any (o : OpT) (B g : Nat) (n : NodeT) (w : World) (hO : Blk w 37 B (opA o)) (hN : Blk w 44 g (nodeA n)) :
    Calls Tryz.prog 67 #[.pointer (some ⟨g, 0, none⟩), .pointer (some ⟨B, 0, none⟩)] w fun e w' => e = .returned (.tuple #[]) ∧ Blk w' 44 g (nodeA (n.1, n.2.1, o.2.2.2.2.1, n.2.2.2)) ∧ w.grownBy w' (some g) := by
  have c7 : w.cell? ⟨B, 7, none⟩ = some (.string o.2.2.2.2.1) := hO.cell 7
  have k4 : w.cell? ⟨g, 4, none⟩ = some (.string n.2.2.1) := hN.cell 4
  have f4 : w.frozen? ⟨g, 4, none⟩ = false := hN.free 4
  have HN : Hid (Blk w 44 g (nodeA n)) := hN
  clear hO hN
  go_enter Tryz.func67, Tryz.ntmps67
  go_wp2_with fail
  go_end0
  refine ⟨rfl, ?_, grown_set _ _ _ _⟩
  exact HN.out.setAt 4 (.string o.2.2.2.2.1)

set_option maxRecDepth 100000 in
set_option maxHeartbeats 2000000 in
theorem do2_any (o : OpT) (B g : Nat) (n : NodeT) (w : World) (hO : Blk w 37 B (opA o)) (hN : Blk w 44 g (nodeA n)) :
    Calls Tryz.prog 68 #[.pointer (some ⟨g, 0, none⟩), .pointer (some ⟨B, 0, none⟩)] w fun e w' => e = .returned (.tuple #[]) ∧ Blk w' 44 g (nodeA (n.1, n.2.1, n.2.2.1, o.2.2.2.2.2)) ∧ w.grownBy w' (some g) := by
  have c8 : w.cell? ⟨B, 8, none⟩ = some (.string o.2.2.2.2.2) := hO.cell 8
  have k5 : w.cell? ⟨g, 5, none⟩ = some (.string n.2.2.2) := hN.cell 5
  have f5 : w.frozen? ⟨g, 5, none⟩ = false := hN.free 5
  have HN : Hid (Blk w 44 g (nodeA n)) := hN
  clear hO hN
  go_enter Tryz.func68, Tryz.ntmps68
  go_wp2_with fail
  go_end0
  refine ⟨rfl, ?_, grown_set _ _ _ _⟩
  exact HN.out.setAt 5 (.string o.2.2.2.2.2)

set_option maxRecDepth 100000 in
set_option maxHeartbeats 2000000 in
theorem move1_any (p : Int × Int) (B g : Nat) (n : NodeT) (w : World) (hO : Blk w 25 B #[.int .i64 p.1, .int .i64 p.2]) (hN : Blk w 44 g (nodeA n)) :
    Calls Tryz.prog 81 #[.pointer (some ⟨g, 0, none⟩), .pointer (some ⟨B, 0, none⟩)] w fun e w' => e = .returned (.tuple #[]) ∧ Blk w' 44 g (nodeA (n.1, p, n.2.2.1, n.2.2.2)) ∧ w.grownBy w' (some g) := by
  have c0 : w.cell? ⟨B, 0, none⟩ = some (.int .i64 p.1) := hO.cell 0
  have c1 : w.cell? ⟨B, 1, none⟩ = some (.int .i64 p.2) := hO.cell 1
  have k2 : w.cell? ⟨g, 2, none⟩ = some (.int .i64 n.2.1.1) := hN.cell 2
  have f2 : w.frozen? ⟨g, 2, none⟩ = false := hN.free 2
  have k3 : w.cell? ⟨g, 3, none⟩ = some (.int .i64 n.2.1.2) := hN.cell 3
  have f3 : w.frozen? ⟨g, 3, none⟩ = false := hN.free 3
  have HN : Hid (Blk w 44 g (nodeA n)) := hN
  clear hO hN
  go_enter Tryz.func81, Tryz.ntmps81
  go_wp2_with fail
  go_end0
  refine ⟨rfl, ?_, ?_⟩
  · exact (HN.out.setAt 2 (.int .i64 p.1)).setAt 3 (.int .i64 p.2)
  · exact (grown_set _ _ _ _).andThen (grown_set _ _ _ _) (fun j hj => .inr hj)

set_option maxRecDepth 100000 in
set_option maxHeartbeats 4000000 in
theorem create_any (ns : List NodeT) (r : Nat) (o : OpT) (w : World) (hM : MapN w r ns) :
    Calls Tryz.prog 63 #[.map (some r), .agg (opA o)] w fun e w' => e = .returned (.tuple #[]) ∧ MapN w' r (createP ns o) ∧ w.grownBy w' (some r) := by
  obtain ⟨E, HE⟩ : ∃ E, Hid (E = createP ns o) := ⟨_, rfl⟩
  rw [← HE.out]
  obtain ⟨k0, ⟨k1, k2⟩, ⟨k3, k4⟩, ⟨k5, k6⟩, s7, s8⟩ := o
  obtain ⟨n, b, hb, hl⟩ := mapN_two hM k3 k4
  have hl1 := fun o => hl (w.alloc o) (below_new w o)
  have HM : Hid (MapN w r ns) := hM
  have HL : Hid (look ns (k3, k4) = if b then some n else none) := hb
  have hrl := hM.lt
  show Calls Tryz.prog _ #[_, .agg #[.int .i64 k0, .int .i64 k1, .int .i64 k2, .int .i64 k3, .int .i64 k4, .int .i64 k5, .int .i64 k6, .string s7, .string s8]] w _
  clear hl hM hb
  have hbb := (below_new w (.cells #[.int .i64 k0, .int .i64 k1, .int .i64 k2, .int .i64 k3, .int .i64 k4, .int .i64 k5, .int .i64 k6, .string s7, .string s8] 37)).alloc (by simp) (.cells #[.int .i64 n.1.1, .int .i64 n.1.2, .int .i64 n.2.1.1, .int .i64 n.2.1.2, .string n.2.2.1, .string n.2.2.2] 44)
  cases b with
  | true =>
    have HE' : Hid (E = ns) := by show _ = _; rw [HE.out]; unfold createP; rw [HL.out]; rfl
    clear HE HL
    go_enter Tryz.func63, Tryz.ntmps63
    go_wp2_with fail
    go_end0
    rw [HE'.out]
    exact ⟨rfl, HM.out.on hbb, grown_of_below hbb _⟩
  | false =>
    have CH' := hold_any ns r (k5, k6) _ (HM.out.on hbb)
    obtain ⟨D, hD⟩ : ∃ D, holdB ns (k5, k6) = D := ⟨_, rfl⟩
    rw [hD] at CH'
    have CH : Hid (Calls _ _ _ _ _) := CH'
    have HE' : Hid (E = if D = true then withR ((k3, k4), (k5, k6), s7, ⟨#[]⟩) ns else ns) := by
      show _ = _
      rw [HE.out, ← hD]; unfold createP; rw [HL.out]; rfl
    clear HE HL CH' hD
    cases D with
    | false =>
      go_enter Tryz.func63, Tryz.ntmps63
      go_wp2_with fail
      refine CH.out.mono ?_
      rintro e w1 ⟨rfl, hb1⟩
      have hB1 : Below w.heap.size w w1 := below_step hbb (Nat.le_refl _) hb1
      clear CH hb1 hl1
      go_wp2_with fail
      go_end0
      rw [HE'.out]
      exact ⟨rfl, HM.out.on hB1, grown_of_below hB1 _⟩
    | true =>
      go_enter Tryz.func63, Tryz.ntmps63
      go_wp2_with fail
      refine CH.out.mono ?_
      rintro e w1 ⟨rfl, hb1⟩
      have hB1 : Below w.heap.size w w1 := below_step hbb (Nat.le_refl _) hb1
      have c3 : w1.cell? ⟨w.heap.size, 3, none⟩ = some (.int .i64 k3) := by rw [hb1.cell (p := ⟨w.heap.size, 3, none⟩) (by simp; try omega)]; simp
      have c4 : w1.cell? ⟨w.heap.size, 4, none⟩ = some (.int .i64 k4) := by rw [hb1.cell (p := ⟨w.heap.size, 4, none⟩) (by simp; try omega)]; simp
      have c5 : w1.cell? ⟨w.heap.size, 5, none⟩ = some (.int .i64 k5) := by rw [hb1.cell (p := ⟨w.heap.size, 5, none⟩) (by simp; try omega)]; simp
      have c6 : w1.cell? ⟨w.heap.size, 6, none⟩ = some (.int .i64 k6) := by rw [hb1.cell (p := ⟨w.heap.size, 6, none⟩) (by simp; try omega)]; simp
      have c7 : w1.cell? ⟨w.heap.size, 7, none⟩ = some (.string s7) := by rw [hb1.cell (p := ⟨w.heap.size, 7, none⟩) (by simp; try omega)]; simp
      obtain ⟨w3, hp, hM3, hg3⟩ := (HM.out.on hB1).put ((k3, k4), (k5, k6), s7, ⟨#[]⟩)
      have HG3 : Hid (w.grownBy w3 (some r)) := (grown_of_below hB1 (some r)).andThen hg3 (fun j hj => .inr hj)
      have HM3 : Hid (MapN w3 r E) := by show MapN w3 r E; rw [HE'.out]; exact hM3
      simp only [keyV, nodeV, nodeA] at hp
      clear CH hb1 hl1 hB1 HM HE' hM3 hg3 hbb
      go_wp2_with fail
      go_end0
      exact ⟨rfl, HM3.out, HG3.out⟩

set_option maxRecDepth 100000 in
set_option maxHeartbeats 4000000 in
theorem move_any (ns : List NodeT) (r : Nat) (id p : Int × Int) (w : World) (hM : MapN w r ns) (hn : ns.length ≤ 1048576) :
    Calls Tryz.prog 64 #[.map (some r), stampV id, stampV p] w fun e w' => e = .returned (.tuple #[]) ∧ MapN w' r (moveP ns id p) ∧ w.grownBy w' (some r) := by
  obtain ⟨E, HE⟩ : ∃ E, Hid (E = moveP ns id p) := ⟨_, rfl⟩
  rw [← HE.out]
  obtain ⟨x, y⟩ := id
  obtain ⟨t, u⟩ := p
  have HM : Hid (MapN w r ns) := hM
  have CH' := fun W (hb : Below w.heap.size w W) => hold_any ns r (t, u) W (hM.on hb)
  have CW' := fun W (hb : Below w.heap.size w W) => within_any ns r (t, u) (x, y) W (hM.on hb) hn
  have CC : Hid (∀ W, Below w.heap.size w W → Blk W 25 (w.heap.size + 1) #[.int .i64 t, .int .i64 u] → Calls Tryz.prog 66 #[.map (some r), .agg #[.int .i64 x, .int .i64 y], .func (.func 81) #[] #[.pointer (some ⟨w.heap.size + 1, 0, none⟩)]] W fun e w' => e = .returned (.tuple #[]) ∧ MapN w' r (changeP ns (x, y) (fun n => (n.1, (t, u), n.2.2.1, n.2.2.2))) ∧ W.grownBy w' (some r)) := fun W hb hB =>
    change_any ns r (x, y) (fun n => (n.1, (t, u), n.2.2.1, n.2.2.2)) (fun _ => rfl) 81 (w.heap.size + 1) W (hM.on hb) (enters_of Tryz.func81 (by kernel_rfl) rfl) (fun n g W' h1 h2 h3 => move1_any (t, u) (w.heap.size + 1) g n W' (hB.on h1) h3)
  have hrl := hM.lt
  show Calls Tryz.prog _ #[_, .agg #[.int .i64 x, .int .i64 y], .agg #[.int .i64 t, .int .i64 u]] w _
  unfold moveP at HE
  generalize holdB ns (t, u) = D at CH' HE
  generalize withinF ns (x, y) ns.length (t, u) = V at CW' HE
  have CH : Hid (∀ W, _) := CH'
  have CW : Hid (∀ W, _) := CW'
  clear CH' CW' hM
  obtain ⟨W0, hW0⟩ : ∃ W0, (w.alloc (.cells #[.int .i64 x, .int .i64 y] 25)).alloc (.cells #[.int .i64 t, .int .i64 u] 25) = W0 := ⟨_, rfl⟩
  have HW0 : Hid ((w.alloc (.cells #[.int .i64 x, .int .i64 y] 25)).alloc (.cells #[.int .i64 t, .int .i64 u] 25) = W0) := hW0
  have hB0 : Below w.heap.size w W0 := by rw [← hW0]; exact (below_new w _).alloc (by simp) _
  have K1 : Blk W0 25 w.heap.size #[.int .i64 x, .int .i64 y] := by rw [← hW0]; exact (Blk.new _ _ _).alloc _
  have K2 : Blk W0 25 (w.heap.size + 1) #[.int .i64 t, .int .i64 u] := by rw [← hW0]; exact Blk.new' _ _ _ _ (by simp)
  clear hW0
  cases D with
  | false =>
    have HE' : Hid (E = ns) := HE
    go_enter Tryz.func64, Tryz.ntmps64
    go_wp2_with fail
    rw [HW0.out]
    refine (CH.out _ hB0).mono ?_
    rintro e w1 ⟨rfl, hb1⟩
    have hB1 := below_step hB0 (Nat.le_refl _) hb1
    clear CH CW CC K1 K2 HW0 hB0 hb1 HE
    go_wp2_with fail
    go_end0
    rw [HE'.out]
    exact ⟨rfl, HM.out.on hB1, grown_of_below hB1 _⟩
  | true =>
    go_enter Tryz.func64, Tryz.ntmps64
    go_wp2_with fail
    rw [HW0.out]
    refine (CH.out _ hB0).mono ?_
    rintro e w1 ⟨rfl, hb1⟩
    have hB1 := below_step hB0 (Nat.le_refl _) hb1
    have L1 := K1.on hb1
    have L2 := K2.on hb1
    have c0 : w1.cell? ⟨w.heap.size, 0, none⟩ = some (.int .i64 x) := L1.cell 0
    have c1 : w1.cell? ⟨w.heap.size, 1, none⟩ = some (.int .i64 y) := L1.cell 1
    have d0 : w1.cell? ⟨w.heap.size + 1, 0, none⟩ = some (.int .i64 t) := L2.cell 0
    have d1 : w1.cell? ⟨w.heap.size + 1, 1, none⟩ = some (.int .i64 u) := L2.cell 1
    clear CH K1 K2 HW0 hB0 hb1
    go_wp2_with fail
    refine (CW.out _ hB1).mono ?_
    rintro e w2 ⟨rfl, hb2⟩
    have hB2 := below_step hB1 (Nat.le_refl _) hb2
    have M1 := L1.on hb2
    have M2 := L2.on hb2
    have c0 : w2.cell? ⟨w.heap.size, 0, none⟩ = some (.int .i64 x) := M1.cell 0
    have c1 : w2.cell? ⟨w.heap.size, 1, none⟩ = some (.int .i64 y) := M1.cell 1
    clear CW L1 L2 hB1 hb2 d0 d1
    cases V with
    | true =>
      have HE' : Hid (E = ns) := HE
      clear HE CC M1 M2
      go_wp2_with fail
      go_end0
      rw [HE'.out]
      exact ⟨rfl, HM.out.on hB2, grown_of_below hB2 _⟩
    | false =>
      have HE' : Hid (E = changeP ns (x, y) (fun n => (n.1, (t, u), n.2.2.1, n.2.2.2))) := HE
      clear HE
      go_wp2_with fail
      refine (CC.out _ hB2 M2).mono ?_
      rintro e w3 ⟨rfl, hM3, hg3⟩
      have HM3 : Hid (MapN w3 r E) := by show MapN w3 r E; rw [HE'.out]; exact hM3
      have HG3 : Hid (w.grownBy w3 (some r)) := (grown_of_below hB2 (some r)).andThen hg3 (fun j hj => .inr hj)
      clear CC M1 M2 hB2 c0 c1 hM3 hg3 HE' HM
      go_wp2_with fail
      go_end0
      exact ⟨rfl, HM3.out, HG3.out⟩

set_option maxRecDepth 100000 in
set_option maxHeartbeats 8000000 in
theorem do_any (ns : List NodeT) (r : Nat) (o : OpT) (w : World) (hM : MapN w r ns) (hn : ns.length ≤ 1048576) :
    Calls Tryz.prog 38 #[.map (some r), .agg (opA o)] w fun e w' => e = .returned (.tuple #[]) ∧ MapN w' r (doC ns o) ∧ w.grownBy w' (some r) := by
  obtain ⟨E, HE⟩ : ∃ E, Hid (E = doC ns o) := ⟨_, rfl⟩
  rw [← HE.out]
  unfold doC at HE
  have hrl := hM.lt
  by_cases h1 : o.1 = 1
  · have HE' : Hid (E = createP ns o) := by show _ = _; rw [HE.out, if_pos h1]
    obtain ⟨k0, ⟨k1, k2⟩, ⟨k3, k4⟩, ⟨k5, k6⟩, s7, s8⟩ := o
    show Calls Tryz.prog _ #[_, .agg #[.int .i64 k0, .int .i64 k1, .int .i64 k2, .int .i64 k3, .int .i64 k4, .int .i64 k5, .int .i64 k6, .string s7, .string s8]] w _
    have hB0 : Below w.heap.size w (w.alloc (.cells #[.int .i64 k0, .int .i64 k1, .int .i64 k2, .int .i64 k3, .int .i64 k4, .int .i64 k5, .int .i64 k6, .string s7, .string s8] 37)) := below_new w _
    simp only at h1
    have C : Hid (Calls _ _ _ _ _) := create_any ns r (k0, (k1, k2), (k3, k4), (k5, k6), s7, s8) _ (hM.on hB0)
    have g1 : (k0 == 1) = true := by rw [beq_iff_eq]; exact h1
    clear hM HE h1
    go_enter Tryz.func38, Tryz.ntmps38
    go_wp2_with fail
    refine C.out.mono ?_
    rintro e w3 ⟨rfl, hM3, hg3⟩
    have HM3 : Hid (MapN w3 r E) := by show MapN w3 r E; rw [HE'.out]; exact hM3
    have HG3 : Hid (w.grownBy w3 (some r)) := (grown_of_below hB0 (some r)).andThen hg3 (fun j hj => .inr hj)
    clear C hM3 hg3 hB0 HE'
    go_wp2_with fail
    go_end0
    exact ⟨rfl, HM3.out, HG3.out⟩
  · by_cases h2 : o.1 = 2
    · have HE' : Hid (E = moveP ns o.2.2.1 o.2.2.2.1) := by show _ = _; rw [HE.out, if_neg h1, if_pos h2]
      obtain ⟨k0, ⟨k1, k2⟩, ⟨k3, k4⟩, ⟨k5, k6⟩, s7, s8⟩ := o
      show Calls Tryz.prog _ #[_, .agg #[.int .i64 k0, .int .i64 k1, .int .i64 k2, .int .i64 k3, .int .i64 k4, .int .i64 k5, .int .i64 k6, .string s7, .string s8]] w _
      have hB0 : Below w.heap.size w (w.alloc (.cells #[.int .i64 k0, .int .i64 k1, .int .i64 k2, .int .i64 k3, .int .i64 k4, .int .i64 k5, .int .i64 k6, .string s7, .string s8] 37)) := below_new w _
      simp only at h1
      simp only at h2
      have C : Hid (Calls _ _ _ _ _) := move_any ns r (k3, k4) (k5, k6) _ (hM.on hB0) hn
      have g1 : (k0 == 1) = false := by rw [beq_eq_false_iff_ne]; exact h1
      have g2 : (k0 == 2) = true := by rw [beq_iff_eq]; exact h2
      clear hM HE h1 h2
      go_enter Tryz.func38, Tryz.ntmps38
      go_wp2_with fail
      refine C.out.mono ?_
      rintro e w3 ⟨rfl, hM3, hg3⟩
      have HM3 : Hid (MapN w3 r E) := by show MapN w3 r E; rw [HE'.out]; exact hM3
      have HG3 : Hid (w.grownBy w3 (some r)) := (grown_of_below hB0 (some r)).andThen hg3 (fun j hj => .inr hj)
      clear C hM3 hg3 hB0 HE'
      go_wp2_with fail
      go_end0
      exact ⟨rfl, HM3.out, HG3.out⟩
    · by_cases h3 : o.1 = 5
      · have HE' : Hid (E = moveP ns o.2.2.1 (0, 1)) := by show _ = _; rw [HE.out, if_neg h1, if_neg h2, if_pos h3]
        obtain ⟨k0, ⟨k1, k2⟩, ⟨k3, k4⟩, ⟨k5, k6⟩, s7, s8⟩ := o
        show Calls Tryz.prog _ #[_, .agg #[.int .i64 k0, .int .i64 k1, .int .i64 k2, .int .i64 k3, .int .i64 k4, .int .i64 k5, .int .i64 k6, .string s7, .string s8]] w _
        have hB0 : Below w.heap.size w (w.alloc (.cells #[.int .i64 k0, .int .i64 k1, .int .i64 k2, .int .i64 k3, .int .i64 k4, .int .i64 k5, .int .i64 k6, .string s7, .string s8] 37)) := below_new w _
        simp only at h1
        simp only at h2 h3
        have C : Hid (∀ W, Below w.heap.size w W → _) := fun W hb => move_any ns r (k3, k4) (0, 1) W (hM.on hb) hn
        have CT : Hid (∀ w, _) := trash_any
        have g1 : (k0 == 1) = false := by rw [beq_eq_false_iff_ne]; exact h1
        have g2 : (k0 == 2) = false := by rw [beq_eq_false_iff_ne]; exact h2
        have g3 : (k0 == 5) = true := by rw [beq_iff_eq]; exact h3
        have HM : Hid (MapN w r ns) := hM
        clear hM HE h1 h2 h3
        go_enter Tryz.func38, Tryz.ntmps38
        go_wp2_with fail
        obtain ⟨W0, hW0⟩ : ∃ W0, w.alloc (.cells #[.int .i64 k0, .int .i64 k1, .int .i64 k2, .int .i64 k3, .int .i64 k4, .int .i64 k5, .int .i64 k6, .string s7, .string s8] 37) = W0 := ⟨_, rfl⟩
        rw [hW0] at hB0 ⊢
        have HS : Hid (∀ W, Below W0.heap.size W0 W → W.cell? ⟨w.heap.size, 3, none⟩ = some (.int .i64 k3) ∧ W.cell? ⟨w.heap.size, 4, none⟩ = some (.int .i64 k4)) := fun W hW => by
          have hlt : w.heap.size < W0.heap.size := by rw [← hW0]; simp
          refine ⟨(hW.cell (p := ⟨w.heap.size, 3, none⟩) hlt).trans ?_, (hW.cell (p := ⟨w.heap.size, 4, none⟩) hlt).trans ?_⟩ <;> (rw [← hW0]; simp)
        clear hW0
        have hS0 := HS.out W0 (Below.refl _ _)
        refine wp_region_noPanic ?_
        refine wp_region_held_drew (S := fun W => W.cell? ⟨w.heap.size, 3, none⟩ = some (.int .i64 k3) ∧ W.cell? ⟨w.heap.size, 4, none⟩ = some (.int .i64 k4)) (by kernel_rfl) (by first | exact trivial | assumption | exact ⟨by assumption, by assumption⟩) (fun hHeld => ?_)
        refine tk 0 (v := ?_) rfl rfl ?_ ?_
        rotate_left
        · intro w hSw; (try dsimp only at hSw); go_simp; try with_reducible rfl
        try simp only [Act.put, za, zb, zc]
        refine tk 1 (v := ?_) rfl rfl ?_ ?_
        rotate_left
        · intro w hSw; (try dsimp only at hSw); go_simp; try with_reducible rfl
        try simp only [Act.put, za, zb, zc]
        refine tk 2 (v := ?_) rfl rfl ?_ ?_
        rotate_left
        · intro w hSw; (try dsimp only at hSw); go_simp; try with_reducible rfl
        try simp only [Act.put, za, zb, zc]
        refine wpAnyH_ready (rs := [3]) (by kernel_rfl) (by simp) ?_
        refine AllReadyH.cons rfl (fun K hK => ?_) AllReadyH.nil
        go_simp
        refine (CT.out _).mono ?_
        rintro e w1 ⟨rfl, hb1⟩
        have hb1' := below_step (Below.refl W0.heap.size W0).drew (Nat.le_refl _) hb1
        refine hK.out _ _ (HS.out _ hb1') (fun hHeld => ?_)
        clear hK K
        refine wpAnyH_ready (rs := [4]) (by kernel_rfl) (by simp) ?_
        refine AllReadyH.cons rfl (fun K hK => ?_) AllReadyH.nil
        go_simp
        have hB1 := below_step hB0 (Nat.le_refl _) hb1'
        refine (C.out w1 hB1).mono ?_
        rintro e w3 ⟨rfl, hM3, hg3⟩
        have hS3 : w3.cell? ⟨w.heap.size, 3, none⟩ = some (.int .i64 k3) ∧ w3.cell? ⟨w.heap.size, 4, none⟩ = some (.int .i64 k4) := by
          obtain ⟨q1, q2⟩ := HS.out _ hb1'
          refine ⟨hg3.cell q1 (by simp; omega), hg3.cell q2 (by simp; omega)⟩
        refine hK.out _ _ hS3 (fun hHeld => ?_)
        clear hK K
        refine wpAnyH_done (by kernel_rfl) (NoPanic.normal ?_) _
        have HM3 : Hid (MapN w3 r E) := by show MapN w3 r E; rw [HE'.out]; exact hM3
        have HG3 : Hid (w.grownBy w3 (some r)) := (grown_of_below hB1 (some r)).andThen hg3 (fun j hj => .inr hj)
        clear C CT HS hM3 hg3 hB0 HE' hS3 hS0 hB1 hb1 hb1'
        go_wp2_with fail
        go_end0
        exact ⟨rfl, HM3.out, HG3.out⟩
      · by_cases h4 : o.1 = 3
        · have HE' : Hid (E = changeP ns o.2.2.1 (fun n => (n.1, n.2.1, o.2.2.2.2.1, n.2.2.2))) := by show _ = _; rw [HE.out, if_neg h1, if_neg h2, if_neg h3, if_pos h4]
          obtain ⟨k0, ⟨k1, k2⟩, ⟨k3, k4⟩, ⟨k5, k6⟩, s7, s8⟩ := o
          show Calls Tryz.prog _ #[_, .agg #[.int .i64 k0, .int .i64 k1, .int .i64 k2, .int .i64 k3, .int .i64 k4, .int .i64 k5, .int .i64 k6, .string s7, .string s8]] w _
          have hB0 : Below w.heap.size w (w.alloc (.cells #[.int .i64 k0, .int .i64 k1, .int .i64 k2, .int .i64 k3, .int .i64 k4, .int .i64 k5, .int .i64 k6, .string s7, .string s8] 37)) := below_new w _
          simp only at h1
          simp only at h2 h3 h4
          have C : Hid (Calls _ _ _ _ _) := change_any ns r (k3, k4) (fun n => (n.1, n.2.1, s7, n.2.2.2)) (fun _ => rfl) 67 w.heap.size _ (hM.on hB0) (enters_of Tryz.func67 (by kernel_rfl) rfl) (fun n g W' q1 q2 q3 => do1_any (k0, (k1, k2), (k3, k4), (k5, k6), s7, s8) w.heap.size g n W' ((Blk.new _ _ _).on q1) q3)
          have g1 : (k0 == 1) = false := by rw [beq_eq_false_iff_ne]; exact h1
          have g2 : (k0 == 2) = false := by rw [beq_eq_false_iff_ne]; exact h2
          have g3 : (k0 == 5) = false := by rw [beq_eq_false_iff_ne]; exact h3
          have g4 : (k0 == 3) = true := by rw [beq_iff_eq]; exact h4
          clear hM HE h1 h2 h3 h4
          go_enter Tryz.func38, Tryz.ntmps38
          go_wp2_with fail
          refine C.out.mono ?_
          rintro e w3 ⟨rfl, hM3, hg3⟩
          have HM3 : Hid (MapN w3 r E) := by show MapN w3 r E; rw [HE'.out]; exact hM3
          have HG3 : Hid (w.grownBy w3 (some r)) := (grown_of_below hB0 (some r)).andThen hg3 (fun j hj => .inr hj)
          clear C hM3 hg3 hB0 HE'
          go_wp2_with fail
          go_end0
          exact ⟨rfl, HM3.out, HG3.out⟩
        · by_cases h5 : o.1 = 4
          · have HE' : Hid (E = changeP ns o.2.2.1 (fun n => (n.1, n.2.1, n.2.2.1, o.2.2.2.2.2))) := by show _ = _; rw [HE.out, if_neg h1, if_neg h2, if_neg h3, if_neg h4, if_pos h5]
            obtain ⟨k0, ⟨k1, k2⟩, ⟨k3, k4⟩, ⟨k5, k6⟩, s7, s8⟩ := o
            show Calls Tryz.prog _ #[_, .agg #[.int .i64 k0, .int .i64 k1, .int .i64 k2, .int .i64 k3, .int .i64 k4, .int .i64 k5, .int .i64 k6, .string s7, .string s8]] w _
            have hB0 : Below w.heap.size w (w.alloc (.cells #[.int .i64 k0, .int .i64 k1, .int .i64 k2, .int .i64 k3, .int .i64 k4, .int .i64 k5, .int .i64 k6, .string s7, .string s8] 37)) := below_new w _
            simp only at h1
            simp only at h2 h3 h4 h5
            have C : Hid (Calls _ _ _ _ _) := change_any ns r (k3, k4) (fun n => (n.1, n.2.1, n.2.2.1, s8)) (fun _ => rfl) 68 w.heap.size _ (hM.on hB0) (enters_of Tryz.func68 (by kernel_rfl) rfl) (fun n g W' q1 q2 q3 => do2_any (k0, (k1, k2), (k3, k4), (k5, k6), s7, s8) w.heap.size g n W' ((Blk.new _ _ _).on q1) q3)
            have g1 : (k0 == 1) = false := by rw [beq_eq_false_iff_ne]; exact h1
            have g2 : (k0 == 2) = false := by rw [beq_eq_false_iff_ne]; exact h2
            have g3 : (k0 == 5) = false := by rw [beq_eq_false_iff_ne]; exact h3
            have g4 : (k0 == 3) = false := by rw [beq_eq_false_iff_ne]; exact h4
            have g5 : (k0 == 4) = true := by rw [beq_iff_eq]; exact h5
            clear hM HE h1 h2 h3 h4 h5
            go_enter Tryz.func38, Tryz.ntmps38
            go_wp2_with fail
            refine C.out.mono ?_
            rintro e w3 ⟨rfl, hM3, hg3⟩
            have HM3 : Hid (MapN w3 r E) := by show MapN w3 r E; rw [HE'.out]; exact hM3
            have HG3 : Hid (w.grownBy w3 (some r)) := (grown_of_below hB0 (some r)).andThen hg3 (fun j hj => .inr hj)
            clear C hM3 hg3 hB0 HE'
            go_wp2_with fail
            go_end0
            exact ⟨rfl, HM3.out, HG3.out⟩
          · have HE' : Hid (E = ns) := by show _ = _; rw [HE.out, if_neg h1, if_neg h2, if_neg h3, if_neg h4, if_neg h5]
            obtain ⟨k0, ⟨k1, k2⟩, ⟨k3, k4⟩, ⟨k5, k6⟩, s7, s8⟩ := o
            show Calls Tryz.prog _ #[_, .agg #[.int .i64 k0, .int .i64 k1, .int .i64 k2, .int .i64 k3, .int .i64 k4, .int .i64 k5, .int .i64 k6, .string s7, .string s8]] w _
            have hB0 : Below w.heap.size w (w.alloc (.cells #[.int .i64 k0, .int .i64 k1, .int .i64 k2, .int .i64 k3, .int .i64 k4, .int .i64 k5, .int .i64 k6, .string s7, .string s8] 37)) := below_new w _
            simp only at h1
            simp only at h2 h3 h4 h5
            have g1 : (k0 == 1) = false := by rw [beq_eq_false_iff_ne]; exact h1
            have g2 : (k0 == 2) = false := by rw [beq_eq_false_iff_ne]; exact h2
            have g3 : (k0 == 5) = false := by rw [beq_eq_false_iff_ne]; exact h3
            have g4 : (k0 == 3) = false := by rw [beq_eq_false_iff_ne]; exact h4
            have g5 : (k0 == 4) = false := by rw [beq_eq_false_iff_ne]; exact h5
            have HM : Hid (MapN w r ns) := hM
            have HB0 : Hid (Below _ _ _) := hB0
            clear hM HE h1 h2 h3 h4 h5 hB0
            go_enter Tryz.func38, Tryz.ntmps38
            go_wp2_with fail
            go_end0
            rw [HE'.out]
            exact ⟨rfl, HM.out.on HB0.out, grown_of_below HB0.out _⟩
end Go.Proofs.YtjmbnoacbmmcdaaGreatDoor
