import Derived.Test.YtebnmghjdoblaaaGreatDoorR10
import Derived.Test.YtebnmghjdoblaaaGreatDoorBA
import Derived.BigQuiet
/- Rows of structs; the document's parent, find (layer 11). -/
namespace Go.Proofs.YtebnmghjdoblaaaGreatDoor
open Go.RowKit
set_option linter.unusedSimpArgs false

/-- Nodes. -/
def nL (l : List ((Int × Int) × (Int × Int) × ByteArray × ByteArray)) (i : Nat) : (Int × Int) × (Int × Int) × ByteArray × ByteArray := l.getD i ((0, 0), (0, 0), ByteArray.empty, ByteArray.empty)

def NodesAt (w : World) (a : Option Addr) (n : Nat) (l : List ((Int × Int) × (Int × Int) × ByteArray × ByteArray)) : Prop := l.length = n ∧ RowsAt w a n 6 (fun i => nodeA (nL l i))

theorem NodesAt.below {w w' : World} {a : Option Addr} {n : Nat} {l : List ((Int × Int) × (Int × Int) × ByteArray × ByteArray)} (h : NodesAt w a n l) (hb : Below w.heap.size w w') : NodesAt w' a n l := ⟨h.1, h.2.below (Nat.le_refl _) hb⟩

theorem NodesAt.cells {w : World} {b off n : Nat} {l : List ((Int × Int) × (Int × Int) × ByteArray × ByteArray)} (h : NodesAt w (some ⟨b, off, none⟩) n l) (i : Nat) (hi : i < n) :
    w.cell? ⟨b, off + i * 6, none⟩ = some (.int .i64 (nL l i).1.1) ∧ w.cell? ⟨b, off + i * 6 + 1, none⟩ = some (.int .i64 (nL l i).1.2) ∧ w.cell? ⟨b, off + i * 6 + 2, none⟩ = some (.int .i64 (nL l i).2.1.1) ∧ w.cell? ⟨b, off + i * 6 + 3, none⟩ = some (.int .i64 (nL l i).2.1.2) ∧ w.cell? ⟨b, off + i * 6 + 4, none⟩ = some (.string (nL l i).2.2.1) ∧ w.cell? ⟨b, off + i * 6 + 5, none⟩ = some (.string (nL l i).2.2.2) := by
  obtain ⟨b', off', ha, hc⟩ := h.2.some (by omega)
  simp only [Option.some.injEq, Addr.mk.injEq] at ha
  obtain ⟨rfl, rfl, _⟩ := ha
  have hh : ∀ j, j < 6 → ∀ v, (nodeA (nL l i))[j]? = some v → w.cell? ⟨b, off + i * 6 + j, none⟩ = some v := fun j hj v hv => by
    obtain ⟨u, h1, h2⟩ := hc i hi j hj
    rw [h2, ← h1]; exact hv
  exact ⟨hh 0 (by decide) _ rfl, hh 1 (by decide) _ rfl, hh 2 (by decide) _ rfl, hh 3 (by decide) _ rfl, hh 4 (by decide) _ rfl, hh 5 (by decide) _ rfl⟩

/-- May a stamp be one of a parent? -/
abbrev ParS (s : Int × Int) : Prop := MayS s ∨ (s.1 = 0 ∧ (s.2 = 0 ∨ s.2 = 1))


set_option maxRecDepth 100000 in
set_option maxHeartbeats 2000000 in
theorem rparent_any (s : Int × Int) (w : World) :
    Calls Tryz.prog 65 #[stampV s] w fun e w' => e = .returned (.bool (decide (ParS s))) ∧ Below w.heap.size w w' := by
  have C' := fun w => rmayS_any s w
  obtain ⟨D, hD⟩ : ∃ D, decide (ParS s) = D := ⟨_, rfl⟩
  rw [hD]
  by_cases h : MayS s
  · obtain rfl : D = true := by rw [← hD]; exact decide_eq_true (.inl h)
    rw [decide_eq_true h] at C'
    obtain ⟨t, u⟩ := s
    have C : Hid (∀ w, Calls Tryz.prog 50 #[.agg #[.int .i64 t, .int .i64 u]] w fun e w' => e = .returned (.bool true) ∧ Below w.heap.size w w') := C'
    show Calls Tryz.prog _ #[.agg #[.int .i64 t, .int .i64 u]] w _
    clear C' h hD
    go_enter Tryz.func65, Tryz.ntmps65
    go_wp2_with fail
    refine (C.out _).mono ?_
    rintro e w1 ⟨rfl, hb1⟩
    have c0 : w1.cell? ⟨w.heap.size, 0, none⟩ = some (.int .i64 t) := by rw [hb1.cell (p := ⟨w.heap.size, 0, none⟩) (by simp)]; simp
    have c1 : w1.cell? ⟨w.heap.size, 1, none⟩ = some (.int .i64 u) := by rw [hb1.cell (p := ⟨w.heap.size, 1, none⟩) (by simp)]; simp
    have hB1 := below_step (below_new w _) (Nat.le_refl _) hb1
    clear C hb1
    go_wp2_with fail
    go_ret
    exact ⟨rfl, hB1⟩
  · rw [decide_eq_false h] at C'
    obtain ⟨t, u⟩ := s
    have C : Hid (∀ w, Calls Tryz.prog 50 #[.agg #[.int .i64 t, .int .i64 u]] w fun e w' => e = .returned (.bool false) ∧ Below w.heap.size w w') := C'
    show Calls Tryz.prog _ #[.agg #[.int .i64 t, .int .i64 u]] w _
    by_cases h1 : t = 0
    · have g1 : (t == 0) = true := by rw [beq_iff_eq]; exact h1
      by_cases h2 : u = 0
      · obtain rfl : D = true := by rw [← hD]; exact decide_eq_true (.inr ⟨h1, .inl h2⟩)
        have g2 : (u == 0) = true := by rw [beq_iff_eq]; exact h2
        clear C' h hD h1 h2
        go_enter Tryz.func65, Tryz.ntmps65
        go_wp2_with fail
        refine (C.out _).mono ?_
        rintro e w1 ⟨rfl, hb1⟩
        have c0 : w1.cell? ⟨w.heap.size, 0, none⟩ = some (.int .i64 t) := by rw [hb1.cell (p := ⟨w.heap.size, 0, none⟩) (by simp)]; simp
        have c1 : w1.cell? ⟨w.heap.size, 1, none⟩ = some (.int .i64 u) := by rw [hb1.cell (p := ⟨w.heap.size, 1, none⟩) (by simp)]; simp
        have hB1 := below_step (below_new w _) (Nat.le_refl _) hb1
        clear C hb1
        go_wp2_with fail
        go_ret
        exact ⟨rfl, hB1⟩
      · have g2 : (u == 0) = false := by rw [beq_eq_false_iff_ne]; exact h2
        by_cases h3 : u = 1
        · obtain rfl : D = true := by rw [← hD]; exact decide_eq_true (.inr ⟨h1, .inr h3⟩)
          have g3 : (u == 1) = true := by rw [beq_iff_eq]; exact h3
          clear C' h hD h1 h2 h3
          go_enter Tryz.func65, Tryz.ntmps65
          go_wp2_with fail
          refine (C.out _).mono ?_
          rintro e w1 ⟨rfl, hb1⟩
          have c0 : w1.cell? ⟨w.heap.size, 0, none⟩ = some (.int .i64 t) := by rw [hb1.cell (p := ⟨w.heap.size, 0, none⟩) (by simp)]; simp
          have c1 : w1.cell? ⟨w.heap.size, 1, none⟩ = some (.int .i64 u) := by rw [hb1.cell (p := ⟨w.heap.size, 1, none⟩) (by simp)]; simp
          have hB1 := below_step (below_new w _) (Nat.le_refl _) hb1
          clear C hb1
          go_wp2_with fail
          go_ret
          exact ⟨rfl, hB1⟩
        · obtain rfl : D = false := by rw [← hD]; exact decide_eq_false (fun k => k.elim h (fun k => k.2.elim h2 h3))
          have g3 : (u == 1) = false := by rw [beq_eq_false_iff_ne]; exact h3
          clear C' h hD h1 h2 h3
          go_enter Tryz.func65, Tryz.ntmps65
          go_wp2_with fail
          refine (C.out _).mono ?_
          rintro e w1 ⟨rfl, hb1⟩
          have c0 : w1.cell? ⟨w.heap.size, 0, none⟩ = some (.int .i64 t) := by rw [hb1.cell (p := ⟨w.heap.size, 0, none⟩) (by simp)]; simp
          have c1 : w1.cell? ⟨w.heap.size, 1, none⟩ = some (.int .i64 u) := by rw [hb1.cell (p := ⟨w.heap.size, 1, none⟩) (by simp)]; simp
          have hB1 := below_step (below_new w _) (Nat.le_refl _) hb1
          clear C hb1
          go_wp2_with fail
          go_ret
          exact ⟨rfl, hB1⟩
    · obtain rfl : D = false := by rw [← hD]; exact decide_eq_false (fun k => k.elim h (fun k => h1 k.1))
      have g1 : (t == 0) = false := by rw [beq_eq_false_iff_ne]; exact h1
      clear C' h hD h1
      go_enter Tryz.func65, Tryz.ntmps65
      go_wp2_with fail
      refine (C.out _).mono ?_
      rintro e w1 ⟨rfl, hb1⟩
      have c0 : w1.cell? ⟨w.heap.size, 0, none⟩ = some (.int .i64 t) := by rw [hb1.cell (p := ⟨w.heap.size, 0, none⟩) (by simp)]; simp
      have c1 : w1.cell? ⟨w.heap.size, 1, none⟩ = some (.int .i64 u) := by rw [hb1.cell (p := ⟨w.heap.size, 1, none⟩) (by simp)]; simp
      have hB1 := below_step (below_new w _) (Nat.le_refl _) hb1
      clear C hb1
      go_wp2_with fail
      go_ret
      exact ⟨rfl, hB1⟩

/-- Where a node stands; -1: nowhere. -/
def FindE (l : List ((Int × Int) × (Int × Int) × ByteArray × ByteArray)) (id : Int × Int) (r : Int) : Prop :=
  (r = -1 ∧ ∀ i, i < l.length → (nL l i).1 ≠ id) ∨ ∃ i : Nat, r = (i : Int) ∧ i < l.length ∧ (nL l i).1 = id ∧ ∀ j, j < i → (nL l j).1 ≠ id

theorem findE_uniq {l : List ((Int × Int) × (Int × Int) × ByteArray × ByteArray)} {id : Int × Int} {r q : Int} (h : FindE l id r) (k : FindE l id q) : r = q := by
  rcases h with ⟨h1, h2⟩ | ⟨i, h1, h2, h3, h4⟩ <;> rcases k with ⟨k1, k2⟩ | ⟨j, k1, k2, k3, k4⟩
  · omega
  · exact absurd k3 (h2 j k2)
  · exact absurd h3 (k2 i h2)
  · rcases Nat.lt_trichotomy i j with h | h | h
    · exact absurd h3 (k4 i h)
    · omega
    · exact absurd k3 (h4 j h)

theorem findE_is (l : List ((Int × Int) × (Int × Int) × ByteArray × ByteArray)) (id : Int × Int) : ∃ r, FindE l id r := by
  have key : ∀ k, (∀ i, i < k → i < l.length → (nL l i).1 ≠ id) ∨ ∃ i, i < k ∧ i < l.length ∧ (nL l i).1 = id ∧ ∀ j, j < i → (nL l j).1 ≠ id := by
    intro k
    induction k with
    | zero => exact .inl (fun i hi => absurd hi (Nat.not_lt_zero _))
    | succ k ih =>
      rcases ih with h | ⟨i, h1, h2⟩
      · by_cases hk : k < l.length ∧ (nL l k).1 = id
        · exact .inr ⟨k, by omega, hk.1, hk.2, fun j hj => h j hj (by omega)⟩
        · refine .inl (fun i hi hl => ?_)
          by_cases e : i = k
          · subst e; exact fun h' => hk ⟨hl, h'⟩
          · exact h i (by omega) hl
      · exact .inr ⟨i, by omega, h2⟩
  rcases key l.length with h | ⟨i, _, h2, h3, h4⟩
  · exact ⟨-1, .inl ⟨rfl, fun i hi => h i hi hi⟩⟩
  · exact ⟨i, .inr ⟨i, rfl, h2, h3, h4⟩⟩

end Go.Proofs.YtebnmghjdoblaaaGreatDoor

/- The document's find, under (layer 11). -/
namespace Go.Proofs.YtebnmghjdoblaaaGreatDoor
open Go.RowKit
set_option linter.unusedSimpArgs false

theorem stampEq_is (a b : Int × Int) (D : Bool) (h : decide (a = b) = D) (w : World) : (Op.equalIn 10000 36 (.agg #[.int .i64 a.1, .int .i64 a.2]) (.agg #[.int .i64 b.1, .int .i64 b.2])).run Tryz.prog w = .ok D w := by
  rw [stampEq, ← h]

set_option maxRecDepth 100000 in
set_option maxHeartbeats 2000000 in
theorem rfind_any (l : List ((Int × Int) × (Int × Int) × ByteArray × ByteArray)) (id : Int × Int) (r : Int) (hr : FindE l id r) (a : Option Addr) (n c : Nat) (w : World) (hn : n ≤ 1048576) (hI : NodesAt w a n l) :
    Calls Tryz.prog 66 #[.slice a n c, stampV id] w fun e w' => e = .returned (.int .i64 r) ∧ Below w.heap.size w w' := by
  have HI : Hid (NodesAt w a n l) := hI
  have HR : Hid (FindE l id r) := hr
  have hln := hI.1
  clear hI hr
  obtain ⟨t, u⟩ := id
  show Calls Tryz.prog _ #[.slice a n c, .agg #[.int .i64 t, .int .i64 u]] w _
  go_enter Tryz.func66, Tryz.ntmps66
  go_wp2_with fail
  generalize hq : World.alloc w _ = w0
  have hb0 : Below w.heap.size w w0 := by rw [← hq]; exact below_new w _
  have d0 : w0.cell? ⟨w.heap.size, 0, none⟩ = some (.int .i64 t) := by rw [← hq]; simp
  have d1 : w0.cell? ⟨w.heap.size, 1, none⟩ = some (.int .i64 u) := by rw [← hq]; simp
  have HI0 : Hid (NodesAt w0 a n l) := HI.out.below hb0
  clear hq HI
  go_loopw [5] (fun i wr => ∃ k : Nat, k ≤ n ∧ i = .int .i64 k ∧ Hid (∀ j, j < k → (nL l j).1 ≠ (t, u)) ∧ Below w0.heap.size w0 wr) (fun i _ => n - (intOf i).toNat)
  case atStart => exact ⟨0, Nat.zero_le _, rfl, fun j hj => absurd hj (Nat.not_lt_zero _), Below.refl _ _⟩
  case round =>
    obtain ⟨k, hk, rfl, HN, hbl⟩ := hrel
    by_cases hlt : k < n
    · obtain ⟨b, off, rfl, _⟩ := HI0.out.2.some (by omega)
      obtain ⟨q0, q1, _⟩ := HI0.out.cells k hlt
      have x0 : wr.cell? ⟨b, off + k * 6, none⟩ = some (.int .i64 (nL l k).1.1) := by rw [hbl.cell (World.block_lt_of_cell? w0 _ q0)]; exact q0
      have x1 : wr.cell? ⟨b, off + k * 6 + 1, none⟩ = some (.int .i64 (nL l k).1.2) := by rw [hbl.cell (World.block_lt_of_cell? w0 _ q1)]; exact q1
      have y0 : wr.cell? ⟨w.heap.size, 0, none⟩ = some (.int .i64 t) := by rw [hbl.cell (World.block_lt_of_cell? w0 _ d0)]; exact d0
      have y1 : wr.cell? ⟨w.heap.size, 1, none⟩ = some (.int .i64 u) := by rw [hbl.cell (World.block_lt_of_cell? w0 _ d1)]; exact d1
      have b0 : (k : Int) < (n : Int) := by omega
      by_cases he : (nL l k).1 = (t, u)
      · have hE := fun w => stampEq_is (nL l k).1 (t, u) true (decide_eq_true he) w
        obtain rfl : r = (k : Int) := findE_uniq HR.out (.inr ⟨k, rfl, by omega, he, HN.out⟩)
        clear HR HN he q0 q1 d0 d1
        obtain ⟨⟨p, q⟩, hpq⟩ : ∃ s, s = (nL l k).1 := ⟨_, rfl⟩
        rw [← hpq] at x0 x1 hE
        clear hpq
        go_wp2_with fail
        go_quiet (fail)
        go_wp2_with fail
        go_ret
        exact ⟨rfl, below_drewN (below_step hb0 (Nat.le_refl _) hbl) _⟩
      · have hE := fun w => stampEq_is (nL l k).1 (t, u) false (decide_eq_false he) w
        have HN' : Hid (∀ j, j < k + 1 → (nL l j).1 ≠ (t, u)) := by
          show ∀ j, _
          intro j hj
          by_cases e : j = k
          · subst e; exact he
          · exact HN.out j (by omega)
        clear HN he q0 q1 d0 d1
        obtain ⟨⟨p, q⟩, hpq⟩ : ∃ s, s = (nL l k).1 := ⟨_, rfl⟩
        rw [← hpq] at x0 x1 hE
        clear hpq
        go_wp2_with fail
        go_quiet (fail)
        go_wp2_with fail
        refine ⟨⟨k + 1, by omega, by go_num, HN', below_drewN hbl _⟩, ?_⟩
        simp [intOf]; omega
    · have hk' : k = n := by omega
      subst hk'
      obtain rfl : r = -1 := findE_uniq HR.out (.inl ⟨rfl, fun i hi => HN.out i (by omega)⟩)
      go_wp2
      go_ret
      exact ⟨rfl, below_step hb0 (Nat.le_refl _) hbl⟩

end Go.Proofs.YtebnmghjdoblaaaGreatDoor

/- The document's under (layer 11). -/
namespace Go.Proofs.YtebnmghjdoblaaaGreatDoor
open Go.RowKit
set_option linter.unusedSimpArgs false

def findK (l : List ((Int × Int) × (Int × Int) × ByteArray × ByteArray)) (id : Int × Int) : Nat → Nat → Int
  | 0, _ => -1
  | f + 1, k => if (nL l k).1 = id then (k : Int) else findK l id f (k + 1)

def findI (l : List ((Int × Int) × (Int × Int) × ByteArray × ByteArray)) (id : Int × Int) : Int := findK l id l.length 0

theorem findK_E (l : List ((Int × Int) × (Int × Int) × ByteArray × ByteArray)) (id : Int × Int) (f : Nat) : ∀ k, k + f = l.length → (∀ j, j < k → (nL l j).1 ≠ id) → FindE l id (findK l id f k) := by
  induction f with
  | zero => exact fun k hk h => .inl ⟨rfl, fun i hi => h i (by omega)⟩
  | succ f ih =>
    intro k hk h
    unfold findK
    by_cases he : (nL l k).1 = id
    · rw [if_pos he]; exact .inr ⟨k, rfl, by omega, he, h⟩
    · rw [if_neg he]
      refine ih (k + 1) (by omega) (fun j hj => ?_)
      by_cases e : j = k
      · subst e; exact he
      · exact h j (by omega)

theorem findI_E (l : List ((Int × Int) × (Int × Int) × ByteArray × ByteArray)) (id : Int × Int) : FindE l id (findI l id) := findK_E l id l.length 0 (by omega) (fun j hj => absurd hj (Nat.not_lt_zero _))

theorem findI_lt (l : List ((Int × Int) × (Int × Int) × ByteArray × ByteArray)) (id : Int × Int) : findI l id = -1 ∨ ∃ k : Nat, findI l id = (k : Int) ∧ k < l.length ∧ (nL l k).1 = id := by
  rcases findI_E l id with ⟨h1, _⟩ | ⟨i, h1, h2, h3, _⟩
  · exact .inl h1
  · exact .inr ⟨i, h1, h2, h3⟩

/-- Is a stamp a node's, or below it? -/
def underF (l : List ((Int × Int) × (Int × Int) × ByteArray × ByteArray)) (id : Int × Int) : Nat → (Int × Int) → Bool
  | 0, _ => true
  | f + 1, p => if p = id then true else if findI l p < 0 then false else underF l id f (nL l (findI l p).toNat).2.1

set_option maxRecDepth 100000 in
set_option maxHeartbeats 4000000 in
theorem runder_any (l : List ((Int × Int) × (Int × Int) × ByteArray × ByteArray)) (p id : Int × Int) (a : Option Addr) (n c : Nat) (w : World) (hn : n ≤ 1048576) (hI : NodesAt w a n l) :
    Calls Tryz.prog 68 #[.slice a n c, stampV p, stampV id] w fun e w' => e = .returned (.bool (underF l id (n + 1) p)) ∧ Below w.heap.size w w' := by
  have hln := hI.1
  obtain ⟨E, HE⟩ : ∃ E, Hid (E = underF l id (n + 1) p) := ⟨_, rfl⟩
  rw [← HE.out]
  obtain ⟨t, u⟩ := id
  obtain ⟨x, y⟩ := p
  show Calls Tryz.prog _ #[.slice a n c, .agg #[.int .i64 x, .int .i64 y], .agg #[.int .i64 t, .int .i64 u]] w _
  have A1 : Hid (Blk ((w.alloc (.cells #[.int .i64 x, .int .i64 y] 36)).alloc (.cells #[.int .i64 t, .int .i64 u] 36)) 36 w.heap.size #[.int .i64 x, .int .i64 y]) := (Blk.new _ _ _).alloc _
  have A2 : Hid (Blk ((w.alloc (.cells #[.int .i64 x, .int .i64 y] 36)).alloc (.cells #[.int .i64 t, .int .i64 u] 36)) 36 (w.heap.size + 1) #[.int .i64 t, .int .i64 u]) := Blk.new' _ _ _ _ (by simp)
  have AB : Below w.heap.size w ((w.alloc (.cells #[.int .i64 x, .int .i64 y] 36)).alloc (.cells #[.int .i64 t, .int .i64 u] 36)) := (below_new w _).alloc (by simp) _
  have HI : Hid (NodesAt w a n l) := hI
  clear hI
  go_enter Tryz.func68, Tryz.ntmps68
  go_wp2_with fail
  go_loopw [7] (fun i wr => ∃ (k : Nat) (q : Int × Int), k ≤ n + 1 ∧ i = .int .i64 k ∧ Hid (Blk wr 36 w.heap.size #[.int .i64 q.1, .int .i64 q.2]) ∧ Hid (Blk wr 36 (w.heap.size + 1) #[.int .i64 t, .int .i64 u]) ∧ Hid (E = underF l (t, u) (n + 1 - k) q) ∧ Below w.heap.size w wr) (fun i _ => n + 1 - (intOf i).toNat)
  case atStart => exact ⟨0, (x, y), Nat.zero_le _, rfl, A1, A2, HE, AB⟩
  case round =>
    clear A1 A2 AB HE
    obtain ⟨k, ⟨x, y⟩, hk, rfl, B1, B2, HE, hbl⟩ := hrel
    have HIr : Hid (NodesAt wr a n l) := HI.out.below hbl
    have c0 : wr.cell? ⟨w.heap.size, 0, none⟩ = some (.int .i64 x) := B1.out.cell 0
    have c1 : wr.cell? ⟨w.heap.size, 1, none⟩ = some (.int .i64 y) := B1.out.cell 1
    have d0 : wr.cell? ⟨w.heap.size + 1, 0, none⟩ = some (.int .i64 t) := B2.out.cell 0
    have d1 : wr.cell? ⟨w.heap.size + 1, 1, none⟩ = some (.int .i64 u) := B2.out.cell 1
    by_cases hlt : k ≤ n
    · have b0 : (k : Int) ≤ (n : Int) := by omega
      have HU : Hid (underF l (t, u) (n + 1 - k) (x, y) = if (x, y) = (t, u) then true else if findI l (x, y) < 0 then false else underF l (t, u) (n + 1 - (k + 1)) (nL l (findI l (x, y)).toNat).2.1) := by
        show _ = _
        rw [show n + 1 - k = (n + 1 - (k + 1)) + 1 by omega]; rfl
      by_cases he : (x, y) = (t, u)
      · have hE := fun w => stampEq_is (x, y) (t, u) true (decide_eq_true he) w
        obtain rfl : E = true := by rw [HE.out, HU.out, if_pos he]
        clear HE HU he B1 B2 HI HIr
        go_wp2_with fail
        go_ret
        exact ⟨rfl, hbl⟩
      · have hE := fun w => stampEq_is (x, y) (t, u) false (decide_eq_false he) w
        have CF : Hid (Calls Tryz.prog 66 #[.slice a n c, .agg #[.int .i64 x, .int .i64 y]] wr fun e w' => e = .returned (.int .i64 (findI l (x, y))) ∧ Below wr.heap.size wr w') := rfind_any l (x, y) _ (findI_E l _) a n c wr hn HIr.out
        rw [if_neg he] at HU
        rcases findI_lt l (x, y) with hf | ⟨j, hf, hj, _⟩
        · obtain rfl : E = false := by rw [HE.out, HU.out, if_pos (by omega)]
          rw [hf] at CF
          clear HE HU he B1 B2 HI HIr hf
          go_wp2_with fail
          refine CF.out.mono ?_
          rintro e w1 ⟨rfl, hb1⟩
          have hB1 := below_step hbl (Nat.le_refl _) hb1
          clear CF hb1
          go_wp2_with fail
          go_ret
          exact ⟨rfl, hB1⟩
        · rw [hf] at CF
          rw [if_neg (by omega), show (findI l (x, y)).toNat = j by omega] at HU
          rw [HU.out] at HE
          obtain ⟨⟨x', y'⟩, hxy⟩ : ∃ s, s = (nL l j).2.1 := ⟨_, rfl⟩
          rw [← hxy] at HE
          have j0 : (j : Int) < (n : Int) := by omega
          have j1 : ¬ ((j : Int) < 0) := by omega
          have j2 : decide ((j : Int) < 0) = false := by simp
          clear HU he hf
          go_wp2_with fail
          refine CF.out.mono ?_
          rintro e w1 ⟨rfl, hb1⟩
          have hB1 := below_step hbl (Nat.le_refl _) hb1
          have X1 := B1.out.on hb1
          have X2 := B2.out.on hb1
          obtain ⟨b, off, rfl, _⟩ := HIr.out.2.some (by omega)
          obtain ⟨_, _, q2, q3, _⟩ := (HIr.out.below hb1).cells j (by omega)
          rw [← hxy] at q2 q3
          clear CF hb1 B1 B2 HIr c0 c1 d0 d1 hxy hbl hE
          go_wp2_with (with_reducible refine wpList_storeBlkH rfl 36 _ _ rfl w.heap.size #[.int .i64 x, .int .i64 y] #[.int .i64 x', .int .i64 y'] ?hx ?hy X1 rfl ?hi ?h1 ?_)
          case hx => rfl
          case hy => rfl
          case hi => kernel_rfl
          case h1 => simp [Value.oneCell']
          unfold Hid
          have Y1 := X1.setRow #[.int .i64 x', .int .i64 y']
          have Y2 := X2.setRowOther w.heap.size (by omega) #[.int .i64 x', .int .i64 y']
          have hB2 := below_setRow hB1 (Nat.le_refl _) #[.int .i64 x', .int .i64 y']
          clear X1 X2 hB1 q2 q3
          go_wp2_with fail
          refine ⟨⟨k + 1, (x', y'), by omega, by go_num, Y1, Y2, HE, hB2⟩, ?_⟩
          simp [intOf]; omega
    · obtain rfl : E = true := by rw [HE.out, show n + 1 - k = 0 by omega]; rfl
      have b0 : ¬ ((k : Int) ≤ (n : Int)) := by omega
      clear HE B1 B2 HI HIr
      go_wp2
      go_ret
      exact ⟨rfl, hbl⟩

end Go.Proofs.YtebnmghjdoblaaaGreatDoor

/- The document's SameNodes, SameOps, Light (layer 11). -/
namespace Go.Proofs.YtebnmghjdoblaaaGreatDoor
open Go.RowKit
set_option linter.unusedSimpArgs false

/-- Operations. -/
def oL (l : List (Int × (Int × Int) × (Int × Int) × (Int × Int) × ByteArray × ByteArray)) (i : Nat) : Int × (Int × Int) × (Int × Int) × (Int × Int) × ByteArray × ByteArray := l.getD i (0, (0, 0), (0, 0), (0, 0), ByteArray.empty, ByteArray.empty)

def OpsAt (w : World) (a : Option Addr) (n : Nat) (l : List (Int × (Int × Int) × (Int × Int) × (Int × Int) × ByteArray × ByteArray)) : Prop := l.length = n ∧ RowsAt w a n 9 (fun i => opA (oL l i))

theorem OpsAt.below {w w' : World} {a : Option Addr} {n : Nat} {l : List (Int × (Int × Int) × (Int × Int) × (Int × Int) × ByteArray × ByteArray)} (h : OpsAt w a n l) (hb : Below w.heap.size w w') : OpsAt w' a n l := ⟨h.1, h.2.below (Nat.le_refl _) hb⟩

theorem OpsAt.cells {w : World} {b off n : Nat} {l : List (Int × (Int × Int) × (Int × Int) × (Int × Int) × ByteArray × ByteArray)} (h : OpsAt w (some ⟨b, off, none⟩) n l) (i : Nat) (hi : i < n) :
    w.cell? ⟨b, off + i * 9, none⟩ = some (.int .i64 (oL l i).1) ∧ w.cell? ⟨b, off + i * 9 + 1, none⟩ = some (.int .i64 (oL l i).2.1.1) ∧ w.cell? ⟨b, off + i * 9 + 2, none⟩ = some (.int .i64 (oL l i).2.1.2) ∧ w.cell? ⟨b, off + i * 9 + 3, none⟩ = some (.int .i64 (oL l i).2.2.1.1) ∧ w.cell? ⟨b, off + i * 9 + 4, none⟩ = some (.int .i64 (oL l i).2.2.1.2) ∧ w.cell? ⟨b, off + i * 9 + 5, none⟩ = some (.int .i64 (oL l i).2.2.2.1.1) ∧ w.cell? ⟨b, off + i * 9 + 6, none⟩ = some (.int .i64 (oL l i).2.2.2.1.2) ∧ w.cell? ⟨b, off + i * 9 + 7, none⟩ = some (.string (oL l i).2.2.2.2.1) ∧ w.cell? ⟨b, off + i * 9 + 8, none⟩ = some (.string (oL l i).2.2.2.2.2) := by
  obtain ⟨b', off', ha, hc⟩ := h.2.some (by omega)
  simp only [Option.some.injEq, Addr.mk.injEq] at ha
  obtain ⟨rfl, rfl, _⟩ := ha
  have hh : ∀ j, j < 9 → ∀ v, (opA (oL l i))[j]? = some v → w.cell? ⟨b, off + i * 9 + j, none⟩ = some v := fun j hj v hv => by
    obtain ⟨u, h1, h2⟩ := hc i hi j hj
    rw [h2, ← h1]; exact hv
  exact ⟨hh 0 (by decide) _ rfl, hh 1 (by decide) _ rfl, hh 2 (by decide) _ rfl, hh 3 (by decide) _ rfl, hh 4 (by decide) _ rfl, hh 5 (by decide) _ rfl, hh 6 (by decide) _ rfl, hh 7 (by decide) _ rfl, hh 8 (by decide) _ rfl⟩

theorem nodeEq_is (x y : (Int × Int) × (Int × Int) × ByteArray × ByteArray) (D : Bool) (h : decide (x = y) = D) (w : World) : (Op.equalIn 10000 45 (.agg (nodeA x)) (.agg (nodeA y))).run Tryz.prog w = .ok D w := by
  rw [nodeEq, ← h]

theorem opEq_is (x y : Int × (Int × Int) × (Int × Int) × (Int × Int) × ByteArray × ByteArray) (D : Bool) (h : decide (x = y) = D) (w : World) : (Op.equalIn 10000 56 (.agg (opA x)) (.agg (opA y))).run Tryz.prog w = .ok D w := by
  rw [opEq, ← h]

theorem same_list {α : Type} (d : α) (l m : List α) (h : l.length = m.length) (k : ∀ i, i < l.length → l.getD i d = m.getD i d) : l = m := by
  apply List.ext_getElem h
  intro i h1 h2
  have := k i h1
  rw [List.getD_eq_getElem?_getD, List.getD_eq_getElem?_getD, List.getElem?_eq_getElem h1, List.getElem?_eq_getElem h2] at this
  exact this

/-- Has an operation few bytes? -/
def LightO (o : Int × (Int × Int) × (Int × Int) × (Int × Int) × ByteArray × ByteArray) : Prop := o.2.2.2.2.1.size ≤ 200 ∧ o.2.2.2.2.2.size ≤ 200


set_option maxRecDepth 100000 in
set_option maxHeartbeats 2000000 in
theorem rlight_any (o : Int × (Int × Int) × (Int × Int) × (Int × Int) × ByteArray × ByteArray) (D : Bool) (hD : D = true ↔ LightO o) (w : World) (h7 : o.2.2.2.2.1.size ≤ maxLen) (h8 : o.2.2.2.2.2.size ≤ maxLen) :
    Calls Tryz.prog 24 #[.agg (opA o)] w fun e w' => e = .returned (.bool D) ∧ Below w.heap.size w w' := by
  obtain ⟨k, ⟨a, b⟩, ⟨c, d⟩, ⟨e, f⟩, s, t⟩ := o
  have h7' : s.size ≤ 9223372036854775807 := h7
  have h8' : t.size ≤ 9223372036854775807 := h8
  unfold opA
  show Calls Tryz.prog _ #[.agg #[.int .i64 k, .int .i64 a, .int .i64 b, .int .i64 c, .int .i64 d, .int .i64 e, .int .i64 f, .string s, .string t]] w _
  by_cases h1 : s.size ≤ 200
  · have g1 : decide ((s.size : Int) ≤ 200) = true := by simp; omega
    by_cases h2 : t.size ≤ 200
    · have g2 : decide ((t.size : Int) ≤ 200) = true := by simp; omega
      obtain rfl : D = true := hD.2 ⟨h1, h2⟩
      clear hD h1 h2 h7 h8
      go_enter Tryz.func24, Tryz.ntmps24
      go_wp2
      go_ret
      exact ⟨rfl, below_new w _⟩
    · have g2 : decide ((t.size : Int) ≤ 200) = false := by simp; omega
      obtain rfl : D = false := by
        cases D with
        | false => rfl
        | true => exact absurd (hD.1 rfl).2 h2
      clear hD h1 h2 h7 h8
      go_enter Tryz.func24, Tryz.ntmps24
      go_wp2
      go_ret
      exact ⟨rfl, below_new w _⟩
  · have g1 : decide ((s.size : Int) ≤ 200) = false := by simp; omega
    obtain rfl : D = false := by
      cases D with
      | false => rfl
      | true => exact absurd (hD.1 rfl).1 h1
    clear hD h1 h7 h8
    go_enter Tryz.func24, Tryz.ntmps24
    go_wp2
    go_ret
    exact ⟨rfl, below_new w _⟩

end Go.Proofs.YtebnmghjdoblaaaGreatDoor

/- Rows of structs of the call's own; the document's with (layer 11). -/
namespace Go.Proofs.YtebnmghjdoblaaaGreatDoor
open Go.RowKit
set_option linter.unusedSimpArgs false

/-- Nodes of the call's own. -/
def cellsN (l : List ((Int × Int) × (Int × Int) × ByteArray × ByteArray)) : List Value := l.flatMap (fun x => (nodeA x).toList)

theorem cellsN_at (l : List ((Int × Int) × (Int × Int) × ByteArray × ByteArray)) : ∀ i, i < l.length → ∀ j, j < 6 → ∃ u, (nodeA (nL l i))[j]? = some u ∧ (cellsN l)[i * 6 + j]? = some u := by
  induction l with
  | nil => intro i hi; exact absurd hi (Nat.not_lt_zero _)
  | cons x l ih =>
    intro i hi j hj
    have hs : (nodeA x).toList.length = 6 := rfl
    cases i with
    | zero =>
      refine ⟨(nodeA x)[j]'(by show j < 6; exact hj), ?_, ?_⟩
      · show (nodeA x)[j]? = _
        exact Array.getElem?_eq_getElem _
      · show ((nodeA x).toList ++ cellsN l)[0 * 6 + j]? = _
        rw [Nat.zero_mul, Nat.zero_add, List.getElem?_append_left (by rw [hs]; exact hj), Array.getElem?_toList]
        exact Array.getElem?_eq_getElem _
    | succ i =>
      obtain ⟨u, h1, h2⟩ := ih i (by simp at hi; omega) j hj
      refine ⟨u, ?_, ?_⟩
      · have : nL (x :: l) (i + 1) = nL l i := rfl
        rw [this]; exact h1
      · show ((nodeA x).toList ++ cellsN l)[(i + 1) * 6 + j]? = _
        rw [List.getElem?_append_right (by rw [hs]; omega), hs, show (i + 1) * 6 + j - 6 = i * 6 + j by omega]
        exact h2

def OwnN (w : World) (B : Nat) (v : Value) (l : List ((Int × Int) × (Int × Int) × ByteArray × ByteArray)) : Prop := w.ownsRow B 45 6 v l.length (cellsN l)

theorem OwnN.nodes {w : World} {B : Nat} {v : Value} {l : List ((Int × Int) × (Int × Int) × ByteArray × ByteArray)} (h : OwnN w B v l) : ∃ a cap, v = .slice a l.length cap ∧ NodesAt w a l.length l := by
  obtain ⟨a, cap, hv, hr⟩ := rows_of_owns h (cellsN_at l)
  exact ⟨a, cap, hv, rfl, hr⟩

theorem OwnN.nil (w : World) (B : Nat) : OwnN w B (.slice none 0 0) [] := World.ownsRow_nil _ _ _ _

theorem cellsN_snoc (l : List ((Int × Int) × (Int × Int) × ByteArray × ByteArray)) (x : (Int × Int) × (Int × Int) × ByteArray × ByteArray) : cellsN (l ++ [x]) = cellsN l ++ (nodeA x).toList := by
  unfold cellsN
  rw [List.flatMap_append]
  simp

/-- Nodes with one in place of its like, or more: behind the first k. -/
def withF (l : List ((Int × Int) × (Int × Int) × ByteArray × ByteArray)) (x : (Int × Int) × (Int × Int) × ByteArray × ByteArray) : Nat → List ((Int × Int) × (Int × Int) × ByteArray × ByteArray) × Bool
  | 0 => ([], false)
  | k + 1 =>
    let p := if (withF l x k).2 = false ∧ ¬ LessS (nL l k).1 x.1 then ((withF l x k).1 ++ [x], true) else withF l x k
    if (nL l k).1 = x.1 then p else (p.1 ++ [nL l k], p.2)

def withP (l : List ((Int × Int) × (Int × Int) × ByteArray × ByteArray)) (x : (Int × Int) × (Int × Int) × ByteArray × ByteArray) : List ((Int × Int) × (Int × Int) × ByteArray × ByteArray) :=
  if (withF l x l.length).2 then (withF l x l.length).1 else (withF l x l.length).1 ++ [x]

theorem withF_le (l : List ((Int × Int) × (Int × Int) × ByteArray × ByteArray)) (x : (Int × Int) × (Int × Int) × ByteArray × ByteArray) (k : Nat) : (withF l x k).1.length + (if (withF l x k).2 then 0 else 1) ≤ k + 1 := by
  induction k with
  | zero => exact Nat.le_refl _
  | succ k ih =>
    unfold withF
    simp only []
    generalize withF l x k = p at *
    obtain ⟨O, d⟩ := p
    cases d <;> (split <;> split <;> simp_all <;> omega)

end Go.Proofs.YtebnmghjdoblaaaGreatDoor

/- Layer 11 on plain data: what it is to do an operation. Definitions alone. -/
namespace Go.Proofs.YtebnmghjdoblaaaGreatDoor
open Go.RowKit
set_option linter.unusedSimpArgs false

abbrev NodeT := (Int × Int) × (Int × Int) × ByteArray × ByteArray

abbrev OpT := Int × (Int × Int) × (Int × Int) × (Int × Int) × ByteArray × ByteArray

/-- The parent that an operation names. -/
def parO (o : OpT) : Int × Int := if o.1 = 5 then (0, 1) else o.2.2.2.1

/-- Is a parent there? -/
def thereP (l : List NodeT) (p : Int × Int) : Bool := if p.1 = 0 then true else decide (0 ≤ findI l p)

/-- Nodes behind an operation. -/
def doP (l : List NodeT) (o : OpT) : List NodeT :=
  if o.1 = 1 then (if 0 ≤ findI l o.2.2.1 then l else if thereP l (parO o) = true then withP l (o.2.2.1, parO o, o.2.2.2.2.1, ⟨#[]⟩) else l)
  else if findI l o.2.2.1 < 0 then l
  else if o.1 = 3 then withP l ((nL l (findI l o.2.2.1).toNat).1, (nL l (findI l o.2.2.1).toNat).2.1, o.2.2.2.2.1, (nL l (findI l o.2.2.1).toNat).2.2.2)
  else if o.1 = 4 then withP l ((nL l (findI l o.2.2.1).toNat).1, (nL l (findI l o.2.2.1).toNat).2.1, (nL l (findI l o.2.2.1).toNat).2.2.1, o.2.2.2.2.2)
  else if thereP l (parO o) = true then (if underF l o.2.2.1 (l.length + 1) (parO o) = true then l else withP l ((nL l (findI l o.2.2.1).toNat).1, parO o, (nL l (findI l o.2.2.1).toNat).2.2.1, (nL l (findI l o.2.2.1).toNat).2.2.2))
  else l

end Go.Proofs.YtebnmghjdoblaaaGreatDoor

/- Layer 11 on plain data: nodes as a sorted list, and as a look-up. Nothing of the program. -/
namespace Go.Proofs.YtebnmghjdoblaaaGreatDoor
open Go.RowKit
set_option linter.unusedSimpArgs false

/-- Nodes by rising numbers. -/
def SortN (l : List NodeT) : Prop := l.Pairwise (fun a b => LessS a.1 b.1)

/-- The node of a number. -/
def look (l : List NodeT) (id : Int × Int) : Option NodeT := l.find? (fun x => decide (x.1 = id))

/-- One in place of its like, or more. -/
def withR (x : NodeT) : List NodeT → List NodeT
  | [] => [x]
  | y :: l => if LessS y.1 x.1 then y :: withR x l else x :: (y :: l).filter (fun z => decide (z.1 ≠ x.1))

def stepW (x : NodeT) (p : List NodeT × Bool) (y : NodeT) : List NodeT × Bool :=
  let q := if p.2 = false ∧ ¬ LessS y.1 x.1 then (p.1 ++ [x], true) else p
  if y.1 = x.1 then q else (q.1 ++ [y], q.2)

theorem withF_fold (l : List NodeT) (x : NodeT) (k : Nat) (h : k ≤ l.length) : withF l x k = (l.take k).foldl (stepW x) ([], false) := by
  induction k with
  | zero => rfl
  | succ k ih =>
    have hk : k < l.length := by omega
    rw [List.take_succ_eq_append_getElem hk, List.foldl_append, ← ih (by omega)]
    have e : nL l k = l[k] := by unfold nL; rw [List.getD_eq_getElem?_getD, List.getElem?_eq_getElem hk]; rfl
    show _ = stepW x (withF l x k) l[k]
    rw [← e]; rfl

theorem stepW_done (x : NodeT) (l : List NodeT) (acc : List NodeT) : l.foldl (stepW x) (acc, true) = (acc ++ l.filter (fun z => decide (z.1 ≠ x.1)), true) := by
  induction l generalizing acc with
  | nil => simp
  | cons y l ih =>
    rw [List.foldl_cons]
    by_cases h : y.1 = x.1
    · rw [show stepW x (acc, true) y = (acc, true) by simp [stepW, h], ih]
      simp [h]
    · rw [show stepW x (acc, true) y = (acc ++ [y], true) by simp [stepW, h], ih]
      simp [h]

theorem stepW_all (x : NodeT) (l : List NodeT) (acc : List NodeT) : (if (l.foldl (stepW x) (acc, false)).2 then (l.foldl (stepW x) (acc, false)).1 else (l.foldl (stepW x) (acc, false)).1 ++ [x]) = acc ++ withR x l := by
  induction l generalizing acc with
  | nil => simp [withR]
  | cons y l ih =>
    rw [List.foldl_cons]
    by_cases hl : LessS y.1 x.1
    · have hne : y.1 ≠ x.1 := fun e => by rw [e] at hl; exact lessS_self _ hl
      rw [show stepW x (acc, false) y = (acc ++ [y], false) by simp only [stepW, hl, not_true_eq_false, and_false, if_false, hne], ih]
      rw [show withR x (y :: l) = if LessS y.1 x.1 then y :: withR x l else x :: (y :: l).filter (fun z => decide (z.1 ≠ x.1)) from rfl, if_pos hl, List.append_assoc]; rfl
    · by_cases h : y.1 = x.1
      · rw [show stepW x (acc, false) y = (acc ++ [x], true) by simp [stepW, h, lessS_self], stepW_done]
        rw [show withR x (y :: l) = if LessS y.1 x.1 then y :: withR x l else x :: (y :: l).filter (fun z => decide (z.1 ≠ x.1)) from rfl, if_neg hl]
        simp [h]
      · rw [show stepW x (acc, false) y = (acc ++ [x] ++ [y], true) by simp only [stepW, hl, not_false_eq_true, and_self, if_true, if_false, h], stepW_done]
        rw [show withR x (y :: l) = if LessS y.1 x.1 then y :: withR x l else x :: (y :: l).filter (fun z => decide (z.1 ≠ x.1)) from rfl, if_neg hl]
        simp [h]

theorem withP_R (l : List NodeT) (x : NodeT) : withP l x = withR x l := by
  unfold withP
  rw [withF_fold l x l.length (Nat.le_refl _), List.take_length]
  have := stepW_all x l []
  rw [List.nil_append] at this
  exact this

theorem withR_mem (x : NodeT) (l : List NodeT) (y : NodeT) : y ∈ withR x l ↔ y = x ∨ (y ∈ l ∧ y.1 ≠ x.1) := by
  induction l with
  | nil => simp [withR]
  | cons z l ih =>
    unfold withR
    by_cases hl : LessS z.1 x.1
    · have hne : z.1 ≠ x.1 := fun e => by rw [e] at hl; exact lessS_self _ hl
      rw [if_pos hl, List.mem_cons, ih, List.mem_cons]
      constructor
      · rintro (rfl | h | ⟨h1, h2⟩)
        · exact .inr ⟨.inl rfl, hne⟩
        · exact .inl h
        · exact .inr ⟨.inr h1, h2⟩
      · rintro (h | ⟨rfl | h1, h2⟩)
        · exact .inr (.inl h)
        · exact .inl rfl
        · exact .inr (.inr ⟨h1, h2⟩)
    · rw [if_neg hl, List.mem_cons, List.mem_filter]
      simp

theorem lessS_or (a b : Int × Int) (h : ¬ LessS a b) (hne : a ≠ b) : LessS b a := by
  rcases (lessS_one a b).2 hne with k | k
  · exact absurd k h
  · exact k

theorem withR_sort (x : NodeT) (l : List NodeT) (h : SortN l) : SortN (withR x l) := by
  induction l with
  | nil => exact List.pairwise_singleton _ _
  | cons z l ih =>
    unfold SortN at h
    rw [List.pairwise_cons] at h
    unfold withR
    by_cases hl : LessS z.1 x.1
    · rw [if_pos hl]
      unfold SortN
      rw [List.pairwise_cons]
      refine ⟨fun y hy => ?_, ih h.2⟩
      rcases (withR_mem x l y).1 hy with rfl | ⟨h1, _⟩
      · exact hl
      · exact h.1 y h1
    · rw [if_neg hl]
      unfold SortN
      rw [List.pairwise_cons]
      refine ⟨fun y hy => ?_, List.Pairwise.filter _ (List.pairwise_cons.2 h)⟩
      rw [List.mem_filter] at hy
      obtain ⟨hy, hne⟩ := hy
      have hne : y.1 ≠ x.1 := by simpa using hne
      rcases List.mem_cons.1 hy with rfl | h1
      · exact lessS_or _ _ hl hne
      · have hzy := h.1 y h1
        by_cases e : z.1 = x.1
        · rw [← e]; exact hzy
        · exact lessS_trans _ _ _ (lessS_or _ _ hl e) hzy

theorem look_mem {l : List NodeT} {id : Int × Int} {x : NodeT} (h : look l id = some x) : x ∈ l ∧ x.1 = id := by
  unfold look at h
  exact ⟨List.mem_of_find?_eq_some h, by simpa using List.find?_some h⟩

theorem look_none {l : List NodeT} {id : Int × Int} : look l id = none ↔ ∀ x ∈ l, x.1 ≠ id := by
  unfold look
  rw [List.find?_eq_none]
  simp

theorem sortN_uniq {l : List NodeT} (h : SortN l) {x y : NodeT} (hx : x ∈ l) (hy : y ∈ l) (e : x.1 = y.1) : x = y := by
  induction l with
  | nil => cases hx
  | cons z l ih =>
    unfold SortN at h
    rw [List.pairwise_cons] at h
    rcases List.mem_cons.1 hx with rfl | hx
    · rcases List.mem_cons.1 hy with rfl | hy
      · rfl
      · have := h.1 y hy
        rw [e] at this
        exact absurd this (lessS_self _)
    · rcases List.mem_cons.1 hy with e2 | hy2
      · have := h.1 x hx
        rw [e, e2] at this
        exact absurd this (lessS_self _)
      · exact ih h.2 hx hy2

theorem look_is {l : List NodeT} (h : SortN l) {x : NodeT} (hx : x ∈ l) : look l x.1 = some x := by
  cases hl : look l x.1 with
  | none => exact absurd rfl (look_none.1 hl x hx)
  | some y =>
    obtain ⟨h1, h2⟩ := look_mem hl
    rw [sortN_uniq h h1 hx h2]

theorem look_with {l : List NodeT} (h : SortN l) (x : NodeT) (id : Int × Int) : look (withR x l) id = if id = x.1 then some x else look l id := by
  have hs := withR_sort x l h
  by_cases e : id = x.1
  · rw [if_pos e, e]
    exact look_is hs ((withR_mem x l x).2 (.inl rfl))
  · rw [if_neg e]
    cases hl : look l id with
    | none =>
      rw [look_none]
      intro y hy
      rcases (withR_mem x l y).1 hy with rfl | ⟨h1, _⟩
      · exact fun e2 => e e2.symm
      · exact look_none.1 hl y h1
    | some y =>
      obtain ⟨h1, h2⟩ := look_mem hl
      have : y ∈ withR x l := (withR_mem x l y).2 (.inr ⟨h1, by rw [h2]; exact e⟩)
      have := look_is hs this
      rw [h2] at this; exact this

/-- Two sorted lists with the same look-ups are one. -/
theorem sortN_ext {l m : List NodeT} (hl : SortN l) (hm : SortN m) (h : ∀ id, look l id = look m id) : l = m := by
  have hmem : ∀ x, x ∈ l ↔ x ∈ m := fun x => ⟨fun hx => (look_mem (by rw [← h]; exact look_is hl hx)).1, fun hx => (look_mem (by rw [h]; exact look_is hm hx)).1⟩
  clear h
  induction l generalizing m with
  | nil =>
    cases m with
    | nil => rfl
    | cons y m => exact absurd ((hmem y).2 (List.mem_cons_self ..)) (by simp)
  | cons x l ih =>
    cases m with
    | nil => exact absurd ((hmem x).1 (List.mem_cons_self ..)) (by simp)
    | cons y m =>
      unfold SortN at hl hm
      rw [List.pairwise_cons] at hl hm
      have e : x = y := by
        rcases List.mem_cons.1 ((hmem x).1 (List.mem_cons_self ..)) with e | hx
        · exact e
        · rcases List.mem_cons.1 ((hmem y).2 (List.mem_cons_self ..)) with e | hy
          · exact e.symm
          · exact absurd (hl.1 y hy) (lessS_not _ _ (hm.1 x hx))
      subst e
      congr 1
      refine ih hl.2 hm.2 (fun z => ⟨fun hz => ?_, fun hz => ?_⟩)
      · rcases List.mem_cons.1 ((hmem z).1 (List.mem_cons_of_mem _ hz)) with e | h
        · subst e; exact absurd (hl.1 z hz) (lessS_self _)
        · exact h
      · rcases List.mem_cons.1 ((hmem z).2 (List.mem_cons_of_mem _ hz)) with e | h
        · subst e; exact absurd (hm.1 z hz) (lessS_self _)
        · exact h

theorem withR_len (x : NodeT) (l : List NodeT) : (withR x l).length ≤ l.length + 1 := by
  induction l with
  | nil => exact Nat.le_refl _
  | cons y l ih =>
    rw [show withR x (y :: l) = if LessS y.1 x.1 then y :: withR x l else x :: (y :: l).filter (fun z => decide (z.1 ≠ x.1)) from rfl]
    split
    · rw [List.length_cons, List.length_cons]; omega
    · rw [List.length_cons]
      have := List.length_filter_le (fun z : NodeT => decide (z.1 ≠ x.1)) (y :: l)
      omega

theorem doP_len (l : List NodeT) (o : OpT) : (doP l o).length ≤ l.length + 1 := by
  unfold doP
  simp only [withP_R]
  (repeat' split) <;> first | omega | exact withR_len _ _

/-- Nodes behind operations. -/
def nodesP (l : List NodeT) (ops : List OpT) : List NodeT := ops.foldl doP l

theorem nodesP_len (l : List NodeT) (ops : List OpT) : (nodesP l ops).length ≤ l.length + ops.length := by
  unfold nodesP
  induction ops generalizing l with
  | nil => exact Nat.le_refl _
  | cons o ops ih =>
    rw [List.foldl_cons, List.length_cons]
    have a := ih (doP l o)
    have b := doP_len l o
    omega

theorem nodesP_step (l : List NodeT) (ops : List OpT) (k : Nat) (h : k < ops.length) : nodesP l (ops.take (k + 1)) = doP (nodesP l (ops.take k)) (oL ops k) := by
  unfold nodesP
  rw [List.take_succ_eq_append_getElem h, List.foldl_append]
  have e : oL ops k = ops[k] := by unfold oL; rw [List.getD_eq_getElem?_getD, List.getElem?_eq_getElem h]; rfl
  rw [e]; rfl

end Go.Proofs.YtebnmghjdoblaaaGreatDoor
