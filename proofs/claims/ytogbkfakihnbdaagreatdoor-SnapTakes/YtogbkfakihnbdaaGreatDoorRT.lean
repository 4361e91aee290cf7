import Derived.Test.YtogbkfakihnbdaaGreatDoorR10
import Derived.Test.YtogbkfakihnbdaaGreatDoorBA
import Derived.BigQuiet
/- Rows of structs; the document's parent, find (layer 11). -/
namespace Go.Proofs.YtogbkfakihnbdaaGreatDoor
open Go.RowKit
set_option linter.unusedSimpArgs false

/-- Nodes. -/
def nL (l : List ((Int × Int) × (Int × Int) × ByteArray × ByteArray)) (i : Nat) : (Int × Int) × (Int × Int) × ByteArray × ByteArray := l.getD i ((0, 0), (0, 0), ByteArray.empty, ByteArray.empty)

def NodesAt (w : World) (a : Option Addr) (n : Nat) (l : List ((Int × Int) × (Int × Int) × ByteArray × ByteArray)) : Prop := l.length = n ∧ RowsAt w a n 6 (fun i => nodeA (nL l i))

theorem NodesAt.below {w w' : World} {a : Option Addr} {n : Nat} {l : List ((Int × Int) × (Int × Int) × ByteArray × ByteArray)} (h : NodesAt w a n l) (hb : Below w.heap.size w w') : NodesAt w' a n l := ⟨h.1, h.2.below (Nat.le_refl _) hb⟩

theorem NodesAt.cells {w : World} {b off n : Nat} {l : List ((Int × Int) × (Int × Int) × ByteArray × ByteArray)} (h : NodesAt w (some ⟨b, off, none⟩) n l) (i : Nat) (hi : i < n) :
    w.cell? ⟨b, off + i * 6, none⟩ = some (.int .i64 (nL l i).1.1) ∧ w.cell? ⟨b, off + i * 6 + 1, none⟩ = some (.int .i64 (nL l i).1.2) ∧ w.cell? ⟨b, off + i * 6 + 2, none⟩ = some (.int .i64 (nL l i).2.1.1) ∧ w.cell? ⟨b, off + i * 6 + 3, none⟩ = some (.int .i64 (nL l i).2.1.2) ∧ w.cell? ⟨b, off + i * 6 + 4, none⟩ = some (.string (nL l i).2.2.1) ∧ w.cell? ⟨b, off + i * 6 + 5, none⟩ = some (.string (nL l i).2.2.2) := by
  obtain ⟨b', off', ha, hc⟩ := h.2.some (by omega)
  simp only [Option.some.injEq, Addr.mk.injEq] at ha
  obtain ⟨rfl, rfl, _⟩ := ha
  have hh : ∀ j, j < 6 → ∀ v, (nodeA (nL l i))[j]? = some v → w.cell? ⟨b, off + i * 6 + j, none⟩ = some v := fun j hj v hv => by
    obtain ⟨u, h1, h2⟩ := hc i hi j hj
    rw [h2, ← h1]; exact hv
  exact ⟨hh 0 (by decide) _ rfl, hh 1 (by decide) _ rfl, hh 2 (by decide) _ rfl, hh 3 (by decide) _ rfl, hh 4 (by decide) _ rfl, hh 5 (by decide) _ rfl⟩

/-- May a stamp be one of a parent? -/
abbrev ParS (s : Int × Int) : Prop := MayS s ∨ (s.1 = 0 ∧ (s.2 = 0 ∨ s.2 = 1))

set_option maxRecDepth 100000 in
set_option maxHeartbeats 2000000 in
theorem rparent_any (s : Int × Int) (w : World) :
    Calls Tryz.prog 80 #[stampV s] w fun e w' => e = .returned (.bool (decide (ParS s))) ∧ Below w.heap.size w w' := by
  have C' := fun w => rmayS_any s w
  obtain ⟨D, hD⟩ : ∃ D, decide (ParS s) = D := ⟨_, rfl⟩
  rw [hD]
  by_cases h : MayS s
  · obtain rfl : D = true := by rw [← hD]; exact decide_eq_true (.inl h)
    rw [decide_eq_true h] at C'
    obtain ⟨t, u⟩ := s
    have C : Hid (∀ w, Calls Tryz.prog 65 #[.agg #[.int .i64 t, .int .i64 u]] w fun e w' => e = .returned (.bool true) ∧ Below w.heap.size w w') := C'
    show Calls Tryz.prog _ #[.agg #[.int .i64 t, .int .i64 u]] w _
    clear C' h hD
    go_enter Tryz.func80, Tryz.ntmps80
    go_wp2_with fail
    refine (C.out _).mono ?_
    rintro e w1 ⟨rfl, hb1⟩
    have c0 : w1.cell? ⟨w.heap.size, 0, none⟩ = some (.int .i64 t) := by rw [hb1.cell (p := ⟨w.heap.size, 0, none⟩) (by simp)]; simp
    have c1 : w1.cell? ⟨w.heap.size, 1, none⟩ = some (.int .i64 u) := by rw [hb1.cell (p := ⟨w.heap.size, 1, none⟩) (by simp)]; simp
    have hB1 := below_step (below_new w _) (Nat.le_refl _) hb1
    clear C hb1
    go_wp2_with fail
    go_ret
    exact ⟨rfl, hB1⟩
  · rw [decide_eq_false h] at C'
    obtain ⟨t, u⟩ := s
    have C : Hid (∀ w, Calls Tryz.prog 65 #[.agg #[.int .i64 t, .int .i64 u]] w fun e w' => e = .returned (.bool false) ∧ Below w.heap.size w w') := C'
    show Calls Tryz.prog _ #[.agg #[.int .i64 t, .int .i64 u]] w _
    by_cases h1 : t = 0
    · have g1 : (t == 0) = true := by rw [beq_iff_eq]; exact h1
      by_cases h2 : u = 0
      · obtain rfl : D = true := by rw [← hD]; exact decide_eq_true (.inr ⟨h1, .inl h2⟩)
        have g2 : (u == 0) = true := by rw [beq_iff_eq]; exact h2
        clear C' h hD h1 h2
        go_enter Tryz.func80, Tryz.ntmps80
        go_wp2_with fail
        refine (C.out _).mono ?_
        rintro e w1 ⟨rfl, hb1⟩
        have c0 : w1.cell? ⟨w.heap.size, 0, none⟩ = some (.int .i64 t) := by rw [hb1.cell (p := ⟨w.heap.size, 0, none⟩) (by simp)]; simp
        have c1 : w1.cell? ⟨w.heap.size, 1, none⟩ = some (.int .i64 u) := by rw [hb1.cell (p := ⟨w.heap.size, 1, none⟩) (by simp)]; simp
        have hB1 := below_step (below_new w _) (Nat.le_refl _) hb1
        clear C hb1
        go_wp2_with fail
        go_ret
        exact ⟨rfl, hB1⟩
      · have g2 : (u == 0) = false := by rw [beq_eq_false_iff_ne]; exact h2
        by_cases h3 : u = 1
        · obtain rfl : D = true := by rw [← hD]; exact decide_eq_true (.inr ⟨h1, .inr h3⟩)
          have g3 : (u == 1) = true := by rw [beq_iff_eq]; exact h3
          clear C' h hD h1 h2 h3
          go_enter Tryz.func80, Tryz.ntmps80
          go_wp2_with fail
          refine (C.out _).mono ?_
          rintro e w1 ⟨rfl, hb1⟩
          have c0 : w1.cell? ⟨w.heap.size, 0, none⟩ = some (.int .i64 t) := by rw [hb1.cell (p := ⟨w.heap.size, 0, none⟩) (by simp)]; simp
          have c1 : w1.cell? ⟨w.heap.size, 1, none⟩ = some (.int .i64 u) := by rw [hb1.cell (p := ⟨w.heap.size, 1, none⟩) (by simp)]; simp
          have hB1 := below_step (below_new w _) (Nat.le_refl _) hb1
          clear C hb1
          go_wp2_with fail
          go_ret
          exact ⟨rfl, hB1⟩
        · obtain rfl : D = false := by rw [← hD]; exact decide_eq_false (fun k => k.elim h (fun k => k.2.elim h2 h3))
          have g3 : (u == 1) = false := by rw [beq_eq_false_iff_ne]; exact h3
          clear C' h hD h1 h2 h3
          go_enter Tryz.func80, Tryz.ntmps80
          go_wp2_with fail
          refine (C.out _).mono ?_
          rintro e w1 ⟨rfl, hb1⟩
          have c0 : w1.cell? ⟨w.heap.size, 0, none⟩ = some (.int .i64 t) := by rw [hb1.cell (p := ⟨w.heap.size, 0, none⟩) (by simp)]; simp
          have c1 : w1.cell? ⟨w.heap.size, 1, none⟩ = some (.int .i64 u) := by rw [hb1.cell (p := ⟨w.heap.size, 1, none⟩) (by simp)]; simp
          have hB1 := below_step (below_new w _) (Nat.le_refl _) hb1
          clear C hb1
          go_wp2_with fail
          go_ret
          exact ⟨rfl, hB1⟩
    · obtain rfl : D = false := by rw [← hD]; exact decide_eq_false (fun k => k.elim h (fun k => h1 k.1))
      have g1 : (t == 0) = false := by rw [beq_eq_false_iff_ne]; exact h1
      clear C' h hD h1
      go_enter Tryz.func80, Tryz.ntmps80
      go_wp2_with fail
      refine (C.out _).mono ?_
      rintro e w1 ⟨rfl, hb1⟩
      have c0 : w1.cell? ⟨w.heap.size, 0, none⟩ = some (.int .i64 t) := by rw [hb1.cell (p := ⟨w.heap.size, 0, none⟩) (by simp)]; simp
      have c1 : w1.cell? ⟨w.heap.size, 1, none⟩ = some (.int .i64 u) := by rw [hb1.cell (p := ⟨w.heap.size, 1, none⟩) (by simp)]; simp
      have hB1 := below_step (below_new w _) (Nat.le_refl _) hb1
      clear C hb1
      go_wp2_with fail
      go_ret
      exact ⟨rfl, hB1⟩

/-- Where a node stands; -1: nowhere. -/
def FindE (l : List ((Int × Int) × (Int × Int) × ByteArray × ByteArray)) (id : Int × Int) (r : Int) : Prop :=
  (r = -1 ∧ ∀ i, i < l.length → (nL l i).1 ≠ id) ∨ ∃ i : Nat, r = (i : Int) ∧ i < l.length ∧ (nL l i).1 = id ∧ ∀ j, j < i → (nL l j).1 ≠ id

theorem findE_uniq {l : List ((Int × Int) × (Int × Int) × ByteArray × ByteArray)} {id : Int × Int} {r q : Int} (h : FindE l id r) (k : FindE l id q) : r = q := by
  rcases h with ⟨h1, h2⟩ | ⟨i, h1, h2, h3, h4⟩ <;> rcases k with ⟨k1, k2⟩ | ⟨j, k1, k2, k3, k4⟩
  · omega
  · exact absurd k3 (h2 j k2)
  · exact absurd h3 (k2 i h2)
  · rcases Nat.lt_trichotomy i j with h | h | h
    · exact absurd h3 (k4 i h)
    · omega
    · exact absurd k3 (h4 j h)

end Go.Proofs.YtogbkfakihnbdaaGreatDoor

/- The document's find, under (layer 11). -/
namespace Go.Proofs.YtogbkfakihnbdaaGreatDoor
open Go.RowKit
set_option linter.unusedSimpArgs false

theorem stampEq_is (a b : Int × Int) (D : Bool) (h : decide (a = b) = D) (w : World) : (Op.equalIn 10000 26 (.agg #[.int .i64 a.1, .int .i64 a.2]) (.agg #[.int .i64 b.1, .int .i64 b.2])).run Tryz.prog w = .ok D w := by
  rw [stampEq, ← h]

set_option maxRecDepth 100000 in
set_option maxHeartbeats 2000000 in
theorem rfind_any (l : List ((Int × Int) × (Int × Int) × ByteArray × ByteArray)) (id : Int × Int) (r : Int) (hr : FindE l id r) (a : Option Addr) (n c : Nat) (w : World) (hn : n ≤ 1048576) (hI : NodesAt w a n l) :
    Calls Tryz.prog 81 #[.slice a n c, stampV id] w fun e w' => e = .returned (.int .i64 r) ∧ Below w.heap.size w w' := by
  have HI : Hid (NodesAt w a n l) := hI
  have HR : Hid (FindE l id r) := hr
  have hln := hI.1
  clear hI hr
  obtain ⟨t, u⟩ := id
  show Calls Tryz.prog _ #[.slice a n c, .agg #[.int .i64 t, .int .i64 u]] w _
  go_enter Tryz.func81, Tryz.ntmps81
  go_wp2_with fail
  generalize hq : World.alloc w _ = w0
  have hb0 : Below w.heap.size w w0 := by rw [← hq]; exact below_new w _
  have d0 : w0.cell? ⟨w.heap.size, 0, none⟩ = some (.int .i64 t) := by rw [← hq]; simp
  have d1 : w0.cell? ⟨w.heap.size, 1, none⟩ = some (.int .i64 u) := by rw [← hq]; simp
  have HI0 : Hid (NodesAt w0 a n l) := HI.out.below hb0
  clear hq HI
  go_loopw [5] (fun i wr => ∃ k : Nat, k ≤ n ∧ i = .int .i64 k ∧ Hid (∀ j, j < k → (nL l j).1 ≠ (t, u)) ∧ Below w0.heap.size w0 wr) (fun i _ => n - (intOf i).toNat)
  case atStart => exact ⟨0, Nat.zero_le _, rfl, fun j hj => absurd hj (Nat.not_lt_zero _), Below.refl _ _⟩
  case round =>
    obtain ⟨k, hk, rfl, HN, hbl⟩ := hrel
    by_cases hlt : k < n
    · obtain ⟨b, off, rfl, _⟩ := HI0.out.2.some (by omega)
      obtain ⟨q0, q1, _⟩ := HI0.out.cells k hlt
      have x0 : wr.cell? ⟨b, off + k * 6, none⟩ = some (.int .i64 (nL l k).1.1) := by rw [hbl.cell (World.block_lt_of_cell? w0 _ q0)]; exact q0
      have x1 : wr.cell? ⟨b, off + k * 6 + 1, none⟩ = some (.int .i64 (nL l k).1.2) := by rw [hbl.cell (World.block_lt_of_cell? w0 _ q1)]; exact q1
      have y0 : wr.cell? ⟨w.heap.size, 0, none⟩ = some (.int .i64 t) := by rw [hbl.cell (World.block_lt_of_cell? w0 _ d0)]; exact d0
      have y1 : wr.cell? ⟨w.heap.size, 1, none⟩ = some (.int .i64 u) := by rw [hbl.cell (World.block_lt_of_cell? w0 _ d1)]; exact d1
      have b0 : (k : Int) < (n : Int) := by omega
      by_cases he : (nL l k).1 = (t, u)
      · have hE := fun w => stampEq_is (nL l k).1 (t, u) true (decide_eq_true he) w
        obtain rfl : r = (k : Int) := findE_uniq HR.out (.inr ⟨k, rfl, by omega, he, HN.out⟩)
        clear HR HN he q0 q1 d0 d1
        obtain ⟨⟨p, q⟩, hpq⟩ : ∃ s, s = (nL l k).1 := ⟨_, rfl⟩
        rw [← hpq] at x0 x1 hE
        clear hpq
        go_wp2_with fail
        go_quiet (fail)
        go_wp2_with fail
        go_ret
        exact ⟨rfl, below_drewN (below_step hb0 (Nat.le_refl _) hbl) _⟩
      · have hE := fun w => stampEq_is (nL l k).1 (t, u) false (decide_eq_false he) w
        have HN' : Hid (∀ j, j < k + 1 → (nL l j).1 ≠ (t, u)) := by
          show ∀ j, _
          intro j hj
          by_cases e : j = k
          · subst e; exact he
          · exact HN.out j (by omega)
        clear HN he q0 q1 d0 d1
        obtain ⟨⟨p, q⟩, hpq⟩ : ∃ s, s = (nL l k).1 := ⟨_, rfl⟩
        rw [← hpq] at x0 x1 hE
        clear hpq
        go_wp2_with fail
        go_quiet (fail)
        go_wp2_with fail
        refine ⟨⟨k + 1, by omega, by go_num, HN', below_drewN hbl _⟩, ?_⟩
        simp [intOf]; omega
    · have hk' : k = n := by omega
      subst hk'
      obtain rfl : r = -1 := findE_uniq HR.out (.inl ⟨rfl, fun i hi => HN.out i (by omega)⟩)
      go_wp2
      go_ret
      exact ⟨rfl, below_step hb0 (Nat.le_refl _) hbl⟩

end Go.Proofs.YtogbkfakihnbdaaGreatDoor

/- The document's under (layer 11). -/
namespace Go.Proofs.YtogbkfakihnbdaaGreatDoor
open Go.RowKit
set_option linter.unusedSimpArgs false

def findK (l : List ((Int × Int) × (Int × Int) × ByteArray × ByteArray)) (id : Int × Int) : Nat → Nat → Int
  | 0, _ => -1
  | f + 1, k => if (nL l k).1 = id then (k : Int) else findK l id f (k + 1)

def findI (l : List ((Int × Int) × (Int × Int) × ByteArray × ByteArray)) (id : Int × Int) : Int := findK l id l.length 0

theorem findK_E (l : List ((Int × Int) × (Int × Int) × ByteArray × ByteArray)) (id : Int × Int) (f : Nat) : ∀ k, k + f = l.length → (∀ j, j < k → (nL l j).1 ≠ id) → FindE l id (findK l id f k) := by
  induction f with
  | zero => exact fun k hk h => .inl ⟨rfl, fun i hi => h i (by omega)⟩
  | succ f ih =>
    intro k hk h
    unfold findK
    by_cases he : (nL l k).1 = id
    · rw [if_pos he]; exact .inr ⟨k, rfl, by omega, he, h⟩
    · rw [if_neg he]
      refine ih (k + 1) (by omega) (fun j hj => ?_)
      by_cases e : j = k
      · subst e; exact he
      · exact h j (by omega)

theorem findI_E (l : List ((Int × Int) × (Int × Int) × ByteArray × ByteArray)) (id : Int × Int) : FindE l id (findI l id) := findK_E l id l.length 0 (by omega) (fun j hj => absurd hj (Nat.not_lt_zero _))

theorem findI_lt (l : List ((Int × Int) × (Int × Int) × ByteArray × ByteArray)) (id : Int × Int) : findI l id = -1 ∨ ∃ k : Nat, findI l id = (k : Int) ∧ k < l.length ∧ (nL l k).1 = id := by
  rcases findI_E l id with ⟨h1, _⟩ | ⟨i, h1, h2, h3, _⟩
  · exact .inl h1
  · exact .inr ⟨i, h1, h2, h3⟩

/-- Is a stamp a node's, or below it? -/
def underF (l : List ((Int × Int) × (Int × Int) × ByteArray × ByteArray)) (id : Int × Int) : Nat → (Int × Int) → Bool
  | 0, _ => true
  | f + 1, p => if p = id then true else if findI l p < 0 then false else underF l id f (nL l (findI l p).toNat).2.1

set_option maxRecDepth 100000 in
set_option maxHeartbeats 4000000 in
theorem runder_any (l : List ((Int × Int) × (Int × Int) × ByteArray × ByteArray)) (p id : Int × Int) (a : Option Addr) (n c : Nat) (w : World) (hn : n ≤ 1048576) (hI : NodesAt w a n l) :
    Calls Tryz.prog 82 #[.slice a n c, stampV p, stampV id] w fun e w' => e = .returned (.bool (underF l id (n + 1) p)) ∧ Below w.heap.size w w' := by
  have hln := hI.1
  obtain ⟨E, HE⟩ : ∃ E, Hid (E = underF l id (n + 1) p) := ⟨_, rfl⟩
  rw [← HE.out]
  obtain ⟨t, u⟩ := id
  obtain ⟨x, y⟩ := p
  show Calls Tryz.prog _ #[.slice a n c, .agg #[.int .i64 x, .int .i64 y], .agg #[.int .i64 t, .int .i64 u]] w _
  have A1 : Hid (Blk ((w.alloc (.cells #[.int .i64 x, .int .i64 y] 26)).alloc (.cells #[.int .i64 t, .int .i64 u] 26)) 26 w.heap.size #[.int .i64 x, .int .i64 y]) := (Blk.new _ _ _).alloc _
  have A2 : Hid (Blk ((w.alloc (.cells #[.int .i64 x, .int .i64 y] 26)).alloc (.cells #[.int .i64 t, .int .i64 u] 26)) 26 (w.heap.size + 1) #[.int .i64 t, .int .i64 u]) := Blk.new' _ _ _ _ (by simp)
  have AB : Below w.heap.size w ((w.alloc (.cells #[.int .i64 x, .int .i64 y] 26)).alloc (.cells #[.int .i64 t, .int .i64 u] 26)) := (below_new w _).alloc (by simp) _
  have HI : Hid (NodesAt w a n l) := hI
  clear hI
  go_enter Tryz.func82, Tryz.ntmps82
  go_wp2_with fail
  go_loopw [7] (fun i wr => ∃ (k : Nat) (q : Int × Int), k ≤ n + 1 ∧ i = .int .i64 k ∧ Hid (Blk wr 26 w.heap.size #[.int .i64 q.1, .int .i64 q.2]) ∧ Hid (Blk wr 26 (w.heap.size + 1) #[.int .i64 t, .int .i64 u]) ∧ Hid (E = underF l (t, u) (n + 1 - k) q) ∧ Below w.heap.size w wr) (fun i _ => n + 1 - (intOf i).toNat)
  case atStart => exact ⟨0, (x, y), Nat.zero_le _, rfl, A1, A2, HE, AB⟩
  case round =>
    clear A1 A2 AB HE
    obtain ⟨k, ⟨x, y⟩, hk, rfl, B1, B2, HE, hbl⟩ := hrel
    have HIr : Hid (NodesAt wr a n l) := HI.out.below hbl
    have c0 : wr.cell? ⟨w.heap.size, 0, none⟩ = some (.int .i64 x) := B1.out.cell 0
    have c1 : wr.cell? ⟨w.heap.size, 1, none⟩ = some (.int .i64 y) := B1.out.cell 1
    have d0 : wr.cell? ⟨w.heap.size + 1, 0, none⟩ = some (.int .i64 t) := B2.out.cell 0
    have d1 : wr.cell? ⟨w.heap.size + 1, 1, none⟩ = some (.int .i64 u) := B2.out.cell 1
    by_cases hlt : k ≤ n
    · have b0 : (k : Int) ≤ (n : Int) := by omega
      have HU : Hid (underF l (t, u) (n + 1 - k) (x, y) = if (x, y) = (t, u) then true else if findI l (x, y) < 0 then false else underF l (t, u) (n + 1 - (k + 1)) (nL l (findI l (x, y)).toNat).2.1) := by
        show _ = _
        rw [show n + 1 - k = (n + 1 - (k + 1)) + 1 by omega]; rfl
      by_cases he : (x, y) = (t, u)
      · have hE := fun w => stampEq_is (x, y) (t, u) true (decide_eq_true he) w
        obtain rfl : E = true := by rw [HE.out, HU.out, if_pos he]
        clear HE HU he B1 B2 HI HIr
        go_wp2_with fail
        go_ret
        exact ⟨rfl, hbl⟩
      · have hE := fun w => stampEq_is (x, y) (t, u) false (decide_eq_false he) w
        have CF : Hid (Calls Tryz.prog 81 #[.slice a n c, .agg #[.int .i64 x, .int .i64 y]] wr fun e w' => e = .returned (.int .i64 (findI l (x, y))) ∧ Below wr.heap.size wr w') := rfind_any l (x, y) _ (findI_E l _) a n c wr hn HIr.out
        rw [if_neg he] at HU
        rcases findI_lt l (x, y) with hf | ⟨j, hf, hj, _⟩
        · obtain rfl : E = false := by rw [HE.out, HU.out, if_pos (by omega)]
          rw [hf] at CF
          clear HE HU he B1 B2 HI HIr hf
          go_wp2_with fail
          refine CF.out.mono ?_
          rintro e w1 ⟨rfl, hb1⟩
          have hB1 := below_step hbl (Nat.le_refl _) hb1
          clear CF hb1
          go_wp2_with fail
          go_ret
          exact ⟨rfl, hB1⟩
        · rw [hf] at CF
          rw [if_neg (by omega), show (findI l (x, y)).toNat = j by omega] at HU
          rw [HU.out] at HE
          obtain ⟨⟨x', y'⟩, hxy⟩ : ∃ s, s = (nL l j).2.1 := ⟨_, rfl⟩
          rw [← hxy] at HE
          have j0 : (j : Int) < (n : Int) := by omega
          have j1 : ¬ ((j : Int) < 0) := by omega
          have j2 : decide ((j : Int) < 0) = false := by simp
          clear HU he hf
          go_wp2_with fail
          refine CF.out.mono ?_
          rintro e w1 ⟨rfl, hb1⟩
          have hB1 := below_step hbl (Nat.le_refl _) hb1
          have X1 := B1.out.on hb1
          have X2 := B2.out.on hb1
          obtain ⟨b, off, rfl, _⟩ := HIr.out.2.some (by omega)
          obtain ⟨_, _, q2, q3, _⟩ := (HIr.out.below hb1).cells j (by omega)
          rw [← hxy] at q2 q3
          clear CF hb1 B1 B2 HIr c0 c1 d0 d1 hxy hbl hE
          go_wp2_with (with_reducible refine wpList_storeBlkH rfl 26 _ _ rfl w.heap.size #[.int .i64 x, .int .i64 y] #[.int .i64 x', .int .i64 y'] ?hx ?hy X1 rfl ?hi ?h1 ?_)
          case hx => rfl
          case hy => rfl
          case hi => kernel_rfl
          case h1 => simp [Value.oneCell']
          unfold Hid
          have Y1 := X1.setRow #[.int .i64 x', .int .i64 y']
          have Y2 := X2.setRowOther w.heap.size (by omega) #[.int .i64 x', .int .i64 y']
          have hB2 := below_setRow hB1 (Nat.le_refl _) #[.int .i64 x', .int .i64 y']
          clear X1 X2 hB1 q2 q3
          go_wp2_with fail
          refine ⟨⟨k + 1, (x', y'), by omega, by go_num, Y1, Y2, HE, hB2⟩, ?_⟩
          simp [intOf]; omega
    · obtain rfl : E = true := by rw [HE.out, show n + 1 - k = 0 by omega]; rfl
      have b0 : ¬ ((k : Int) ≤ (n : Int)) := by omega
      clear HE B1 B2 HI HIr
      go_wp2
      go_ret
      exact ⟨rfl, hbl⟩

end Go.Proofs.YtogbkfakihnbdaaGreatDoor

/- The document's SameNodes, SameOps, Light (layer 11). -/
namespace Go.Proofs.YtogbkfakihnbdaaGreatDoor
open Go.RowKit
set_option linter.unusedSimpArgs false

/-- Operations. -/
def oL (l : List (Int × (Int × Int) × (Int × Int) × (Int × Int) × ByteArray × ByteArray)) (i : Nat) : Int × (Int × Int) × (Int × Int) × (Int × Int) × ByteArray × ByteArray := l.getD i (0, (0, 0), (0, 0), (0, 0), ByteArray.empty, ByteArray.empty)

def OpsAt (w : World) (a : Option Addr) (n : Nat) (l : List (Int × (Int × Int) × (Int × Int) × (Int × Int) × ByteArray × ByteArray)) : Prop := l.length = n ∧ RowsAt w a n 9 (fun i => opA (oL l i))

theorem OpsAt.below {w w' : World} {a : Option Addr} {n : Nat} {l : List (Int × (Int × Int) × (Int × Int) × (Int × Int) × ByteArray × ByteArray)} (h : OpsAt w a n l) (hb : Below w.heap.size w w') : OpsAt w' a n l := ⟨h.1, h.2.below (Nat.le_refl _) hb⟩

theorem OpsAt.cells {w : World} {b off n : Nat} {l : List (Int × (Int × Int) × (Int × Int) × (Int × Int) × ByteArray × ByteArray)} (h : OpsAt w (some ⟨b, off, none⟩) n l) (i : Nat) (hi : i < n) :
    w.cell? ⟨b, off + i * 9, none⟩ = some (.int .i64 (oL l i).1) ∧ w.cell? ⟨b, off + i * 9 + 1, none⟩ = some (.int .i64 (oL l i).2.1.1) ∧ w.cell? ⟨b, off + i * 9 + 2, none⟩ = some (.int .i64 (oL l i).2.1.2) ∧ w.cell? ⟨b, off + i * 9 + 3, none⟩ = some (.int .i64 (oL l i).2.2.1.1) ∧ w.cell? ⟨b, off + i * 9 + 4, none⟩ = some (.int .i64 (oL l i).2.2.1.2) ∧ w.cell? ⟨b, off + i * 9 + 5, none⟩ = some (.int .i64 (oL l i).2.2.2.1.1) ∧ w.cell? ⟨b, off + i * 9 + 6, none⟩ = some (.int .i64 (oL l i).2.2.2.1.2) ∧ w.cell? ⟨b, off + i * 9 + 7, none⟩ = some (.string (oL l i).2.2.2.2.1) ∧ w.cell? ⟨b, off + i * 9 + 8, none⟩ = some (.string (oL l i).2.2.2.2.2) := by
  obtain ⟨b', off', ha, hc⟩ := h.2.some (by omega)
  simp only [Option.some.injEq, Addr.mk.injEq] at ha
  obtain ⟨rfl, rfl, _⟩ := ha
  have hh : ∀ j, j < 9 → ∀ v, (opA (oL l i))[j]? = some v → w.cell? ⟨b, off + i * 9 + j, none⟩ = some v := fun j hj v hv => by
    obtain ⟨u, h1, h2⟩ := hc i hi j hj
    rw [h2, ← h1]; exact hv
  exact ⟨hh 0 (by decide) _ rfl, hh 1 (by decide) _ rfl, hh 2 (by decide) _ rfl, hh 3 (by decide) _ rfl, hh 4 (by decide) _ rfl, hh 5 (by decide) _ rfl, hh 6 (by decide) _ rfl, hh 7 (by decide) _ rfl, hh 8 (by decide) _ rfl⟩

theorem nodeEq_is (x y : (Int × Int) × (Int × Int) × ByteArray × ByteArray) (D : Bool) (h : decide (x = y) = D) (w : World) : (Op.equalIn 10000 47 (.agg (nodeA x)) (.agg (nodeA y))).run Tryz.prog w = .ok D w := by
  rw [nodeEq, ← h]

theorem opEq_is (x y : Int × (Int × Int) × (Int × Int) × (Int × Int) × ByteArray × ByteArray) (D : Bool) (h : decide (x = y) = D) (w : World) : (Op.equalIn 10000 37 (.agg (opA x)) (.agg (opA y))).run Tryz.prog w = .ok D w := by
  rw [opEq, ← h]

theorem same_list {α : Type} (d : α) (l m : List α) (h : l.length = m.length) (k : ∀ i, i < l.length → l.getD i d = m.getD i d) : l = m := by
  apply List.ext_getElem h
  intro i h1 h2
  have := k i h1
  rw [List.getD_eq_getElem?_getD, List.getD_eq_getElem?_getD, List.getElem?_eq_getElem h1, List.getElem?_eq_getElem h2] at this
  exact this

set_option maxRecDepth 100000 in
set_option maxHeartbeats 2000000 in
theorem rsameNodes_any (l m : List ((Int × Int) × (Int × Int) × ByteArray × ByteArray)) (D : Bool) (hD : D = true ↔ l = m) (a a' : Option Addr) (n n' c c' : Nat) (w : World) (hn : n ≤ 1048576) (hn' : n' ≤ 1048576) (hI : NodesAt w a n l) (hI' : NodesAt w a' n' m) :
    Calls Tryz.prog 26 #[.slice a n c, .slice a' n' c'] w fun e w' => e = .returned (.bool D) ∧ Below w.heap.size w w' := by
  have HI : Hid (NodesAt w a n l) := hI
  have HI' : Hid (NodesAt w a' n' m) := hI'
  have HD : Hid (D = true ↔ l = m) := hD
  have hl := hI.1
  have hl' := hI'.1
  clear hI hI' hD
  by_cases hnn : n = n'
  · subst hnn
    have g0 : ((n : Int) != (n : Int)) = false := by simp
    go_enter Tryz.func26, Tryz.ntmps26
    go_wp2_with fail
    go_loopw [5] (fun i wr => ∃ k : Nat, k ≤ n ∧ i = .int .i64 k ∧ Hid (∀ j, j < k → nL l j = nL m j) ∧ Below w.heap.size w wr) (fun i _ => n - (intOf i).toNat)
    case atStart => exact ⟨0, Nat.zero_le _, rfl, fun j hj => absurd hj (Nat.not_lt_zero _), Below.refl _ _⟩
    case round =>
      obtain ⟨k, hk, rfl, HN, hbl⟩ := hrel
      by_cases hlt : k < n
      · have HIr := HI.out.below hbl
        have HIr' := HI'.out.below hbl
        obtain ⟨b, off, rfl, _⟩ := HIr.2.some (by omega)
        obtain ⟨b', off', rfl, _⟩ := HIr'.2.some (by omega)
        obtain ⟨x0, x1, x2, x3, x4, x5⟩ := HIr.cells k hlt
        obtain ⟨y0, y1, y2, y3, y4, y5⟩ := HIr'.cells k hlt
        have b0 : (k : Int) < (n : Int) := by omega
        clear HIr HIr'
        by_cases he : nL l k = nL m k
        · have hE := fun w => nodeEq_is (nL l k) (nL m k) true (decide_eq_true he) w
          have HN' : Hid (∀ j, j < k + 1 → nL l j = nL m j) := by
            show ∀ j, _
            intro j hj
            by_cases e : j = k
            · subst e; exact he
            · exact HN.out j (by omega)
          clear HN he
          obtain ⟨⟨⟨p1, p2⟩, ⟨p3, p4⟩, p5, p6⟩, hp⟩ : ∃ s, s = nL l k := ⟨_, rfl⟩
          obtain ⟨⟨⟨q1, q2⟩, ⟨q3, q4⟩, q5, q6⟩, hq⟩ : ∃ s, s = nL m k := ⟨_, rfl⟩
          rw [← hp] at x0 x1 x2 x3 x4 x5 hE
          rw [← hq] at y0 y1 y2 y3 y4 y5 hE
          simp only [nodeA] at hE
          clear hp hq
          go_wp2_with fail
          go_quiet (fail)
          go_wp2_with fail
          refine ⟨⟨k + 1, by omega, by go_num, HN', below_drewN hbl _⟩, ?_⟩
          simp [intOf]; omega
        · have hE := fun w => nodeEq_is (nL l k) (nL m k) false (decide_eq_false he) w
          obtain rfl : D = false := by
            cases D with
            | false => rfl
            | true => exact absurd (congrArg (fun z => nL z k) (HD.out.1 rfl)) he
          clear HN he HD
          obtain ⟨⟨⟨p1, p2⟩, ⟨p3, p4⟩, p5, p6⟩, hp⟩ : ∃ s, s = nL l k := ⟨_, rfl⟩
          obtain ⟨⟨⟨q1, q2⟩, ⟨q3, q4⟩, q5, q6⟩, hq⟩ : ∃ s, s = nL m k := ⟨_, rfl⟩
          rw [← hp] at x0 x1 x2 x3 x4 x5 hE
          rw [← hq] at y0 y1 y2 y3 y4 y5 hE
          simp only [nodeA] at hE
          clear hp hq
          go_wp2_with fail
          go_quiet (fail)
          go_wp2_with fail
          go_ret
          exact ⟨rfl, below_drewN hbl _⟩
      · have hk' : k = n := by omega
        subst hk'
        obtain rfl : D = true := HD.out.2 (same_list _ l m (by omega) (fun i hi => HN.out i (by omega)))
        go_wp2
        go_ret
        exact ⟨rfl, hbl⟩
  · have g0 : ((n : Int) != (n' : Int)) = true := by rw [bne_iff_ne]; omega
    obtain rfl : D = false := by
      cases D with
      | false => rfl
      | true => have := congrArg List.length (HD.out.1 rfl); omega
    clear HD HI HI'
    go_enter Tryz.func26, Tryz.ntmps26
    go_wp2_with fail
    go_ret
    exact ⟨rfl, Below.refl _ _⟩

set_option maxRecDepth 100000 in
set_option maxHeartbeats 2000000 in
theorem rsameOps_any (l m : List (Int × (Int × Int) × (Int × Int) × (Int × Int) × ByteArray × ByteArray)) (D : Bool) (hD : D = true ↔ l = m) (a a' : Option Addr) (n n' c c' : Nat) (w : World) (hn : n ≤ 1048576) (hn' : n' ≤ 1048576) (hI : OpsAt w a n l) (hI' : OpsAt w a' n' m) :
    Calls Tryz.prog 27 #[.slice a n c, .slice a' n' c'] w fun e w' => e = .returned (.bool D) ∧ Below w.heap.size w w' := by
  have HI : Hid (OpsAt w a n l) := hI
  have HI' : Hid (OpsAt w a' n' m) := hI'
  have HD : Hid (D = true ↔ l = m) := hD
  have hl := hI.1
  have hl' := hI'.1
  clear hI hI' hD
  by_cases hnn : n = n'
  · subst hnn
    have g0 : ((n : Int) != (n : Int)) = false := by simp
    go_enter Tryz.func27, Tryz.ntmps27
    go_wp2_with fail
    go_loopw [5] (fun i wr => ∃ k : Nat, k ≤ n ∧ i = .int .i64 k ∧ Hid (∀ j, j < k → oL l j = oL m j) ∧ Below w.heap.size w wr) (fun i _ => n - (intOf i).toNat)
    case atStart => exact ⟨0, Nat.zero_le _, rfl, fun j hj => absurd hj (Nat.not_lt_zero _), Below.refl _ _⟩
    case round =>
      obtain ⟨k, hk, rfl, HN, hbl⟩ := hrel
      by_cases hlt : k < n
      · have HIr := HI.out.below hbl
        have HIr' := HI'.out.below hbl
        obtain ⟨b, off, rfl, _⟩ := HIr.2.some (by omega)
        obtain ⟨b', off', rfl, _⟩ := HIr'.2.some (by omega)
        obtain ⟨x0, x1, x2, x3, x4, x5, x6, x7, x8⟩ := HIr.cells k hlt
        obtain ⟨y0, y1, y2, y3, y4, y5, y6, y7, y8⟩ := HIr'.cells k hlt
        have b0 : (k : Int) < (n : Int) := by omega
        clear HIr HIr'
        by_cases he : oL l k = oL m k
        · have hE := fun w => opEq_is (oL l k) (oL m k) true (decide_eq_true he) w
          have HN' : Hid (∀ j, j < k + 1 → oL l j = oL m j) := by
            show ∀ j, _
            intro j hj
            by_cases e : j = k
            · subst e; exact he
            · exact HN.out j (by omega)
          clear HN he
          obtain ⟨⟨p0, ⟨p1, p2⟩, ⟨p3, p4⟩, ⟨p5, p6⟩, p7, p8⟩, hp⟩ : ∃ s, s = oL l k := ⟨_, rfl⟩
          obtain ⟨⟨q0, ⟨q1, q2⟩, ⟨q3, q4⟩, ⟨q5, q6⟩, q7, q8⟩, hq⟩ : ∃ s, s = oL m k := ⟨_, rfl⟩
          rw [← hp] at x0 x1 x2 x3 x4 x5 x6 x7 x8 hE
          rw [← hq] at y0 y1 y2 y3 y4 y5 y6 y7 y8 hE
          simp only [opA] at hE
          clear hp hq
          go_wp2_with fail
          go_quiet (fail)
          go_wp2_with fail
          refine ⟨⟨k + 1, by omega, by go_num, HN', below_drewN hbl _⟩, ?_⟩
          simp [intOf]; omega
        · have hE := fun w => opEq_is (oL l k) (oL m k) false (decide_eq_false he) w
          obtain rfl : D = false := by
            cases D with
            | false => rfl
            | true => exact absurd (congrArg (fun z => oL z k) (HD.out.1 rfl)) he
          clear HN he HD
          obtain ⟨⟨p0, ⟨p1, p2⟩, ⟨p3, p4⟩, ⟨p5, p6⟩, p7, p8⟩, hp⟩ : ∃ s, s = oL l k := ⟨_, rfl⟩
          obtain ⟨⟨q0, ⟨q1, q2⟩, ⟨q3, q4⟩, ⟨q5, q6⟩, q7, q8⟩, hq⟩ : ∃ s, s = oL m k := ⟨_, rfl⟩
          rw [← hp] at x0 x1 x2 x3 x4 x5 x6 x7 x8 hE
          rw [← hq] at y0 y1 y2 y3 y4 y5 y6 y7 y8 hE
          simp only [opA] at hE
          clear hp hq
          go_wp2_with fail
          go_quiet (fail)
          go_wp2_with fail
          go_ret
          exact ⟨rfl, below_drewN hbl _⟩
      · have hk' : k = n := by omega
        subst hk'
        obtain rfl : D = true := HD.out.2 (same_list _ l m (by omega) (fun i hi => HN.out i (by omega)))
        go_wp2
        go_ret
        exact ⟨rfl, hbl⟩
  · have g0 : ((n : Int) != (n' : Int)) = true := by rw [bne_iff_ne]; omega
    obtain rfl : D = false := by
      cases D with
      | false => rfl
      | true => have := congrArg List.length (HD.out.1 rfl); omega
    clear HD HI HI'
    go_enter Tryz.func27, Tryz.ntmps27
    go_wp2_with fail
    go_ret
    exact ⟨rfl, Below.refl _ _⟩

end Go.Proofs.YtogbkfakihnbdaaGreatDoor

/- Rows of structs of the call's own; the document's with (layer 11). -/
namespace Go.Proofs.YtogbkfakihnbdaaGreatDoor
open Go.RowKit
set_option linter.unusedSimpArgs false

/-- Nodes of the call's own. -/
def cellsN (l : List ((Int × Int) × (Int × Int) × ByteArray × ByteArray)) : List Value := l.flatMap (fun x => (nodeA x).toList)

theorem cellsN_at (l : List ((Int × Int) × (Int × Int) × ByteArray × ByteArray)) : ∀ i, i < l.length → ∀ j, j < 6 → ∃ u, (nodeA (nL l i))[j]? = some u ∧ (cellsN l)[i * 6 + j]? = some u := by
  induction l with
  | nil => intro i hi; exact absurd hi (Nat.not_lt_zero _)
  | cons x l ih =>
    intro i hi j hj
    have hs : (nodeA x).toList.length = 6 := rfl
    cases i with
    | zero =>
      refine ⟨(nodeA x)[j]'(by show j < 6; exact hj), ?_, ?_⟩
      · show (nodeA x)[j]? = _
        exact Array.getElem?_eq_getElem _
      · show ((nodeA x).toList ++ cellsN l)[0 * 6 + j]? = _
        rw [Nat.zero_mul, Nat.zero_add, List.getElem?_append_left (by rw [hs]; exact hj), Array.getElem?_toList]
        exact Array.getElem?_eq_getElem _
    | succ i =>
      obtain ⟨u, h1, h2⟩ := ih i (by simp at hi; omega) j hj
      refine ⟨u, ?_, ?_⟩
      · have : nL (x :: l) (i + 1) = nL l i := rfl
        rw [this]; exact h1
      · show ((nodeA x).toList ++ cellsN l)[(i + 1) * 6 + j]? = _
        rw [List.getElem?_append_right (by rw [hs]; omega), hs, show (i + 1) * 6 + j - 6 = i * 6 + j by omega]
        exact h2

def OwnN (w : World) (B : Nat) (v : Value) (l : List ((Int × Int) × (Int × Int) × ByteArray × ByteArray)) : Prop := w.ownsRow B 47 6 v l.length (cellsN l)

theorem OwnN.nodes {w : World} {B : Nat} {v : Value} {l : List ((Int × Int) × (Int × Int) × ByteArray × ByteArray)} (h : OwnN w B v l) : ∃ a cap, v = .slice a l.length cap ∧ NodesAt w a l.length l := by
  obtain ⟨a, cap, hv, hr⟩ := rows_of_owns h (cellsN_at l)
  exact ⟨a, cap, hv, rfl, hr⟩

theorem OwnN.nil (w : World) (B : Nat) : OwnN w B (.slice none 0 0) [] := World.ownsRow_nil _ _ _ _

theorem cellsN_snoc (l : List ((Int × Int) × (Int × Int) × ByteArray × ByteArray)) (x : (Int × Int) × (Int × Int) × ByteArray × ByteArray) : cellsN (l ++ [x]) = cellsN l ++ (nodeA x).toList := by
  unfold cellsN
  rw [List.flatMap_append]
  simp

/-- Nodes with one in place of its like, or more: behind the first k. -/
def withF (l : List ((Int × Int) × (Int × Int) × ByteArray × ByteArray)) (x : (Int × Int) × (Int × Int) × ByteArray × ByteArray) : Nat → List ((Int × Int) × (Int × Int) × ByteArray × ByteArray) × Bool
  | 0 => ([], false)
  | k + 1 =>
    let p := if (withF l x k).2 = false ∧ ¬ LessS (nL l k).1 x.1 then ((withF l x k).1 ++ [x], true) else withF l x k
    if (nL l k).1 = x.1 then p else (p.1 ++ [nL l k], p.2)

def withP (l : List ((Int × Int) × (Int × Int) × ByteArray × ByteArray)) (x : (Int × Int) × (Int × Int) × ByteArray × ByteArray) : List ((Int × Int) × (Int × Int) × ByteArray × ByteArray) :=
  if (withF l x l.length).2 then (withF l x l.length).1 else (withF l x l.length).1 ++ [x]

end Go.Proofs.YtogbkfakihnbdaaGreatDoor

/- Layer 11 on plain data: what it is to do an operation. Definitions alone. -/
namespace Go.Proofs.YtogbkfakihnbdaaGreatDoor
open Go.RowKit
set_option linter.unusedSimpArgs false

abbrev NodeT := (Int × Int) × (Int × Int) × ByteArray × ByteArray

abbrev OpT := Int × (Int × Int) × (Int × Int) × (Int × Int) × ByteArray × ByteArray

/-- The parent that an operation names. -/
def parO (o : OpT) : Int × Int := if o.1 = 5 then (0, 1) else o.2.2.2.1

/-- Is a parent there? -/
def thereP (l : List NodeT) (p : Int × Int) : Bool := if p.1 = 0 then true else decide (0 ≤ findI l p)

/-- Nodes behind an operation. -/
def doP (l : List NodeT) (o : OpT) : List NodeT :=
  if o.1 = 1 then (if 0 ≤ findI l o.2.2.1 then l else if thereP l (parO o) = true then withP l (o.2.2.1, parO o, o.2.2.2.2.1, ⟨#[]⟩) else l)
  else if findI l o.2.2.1 < 0 then l
  else if o.1 = 3 then withP l ((nL l (findI l o.2.2.1).toNat).1, (nL l (findI l o.2.2.1).toNat).2.1, o.2.2.2.2.1, (nL l (findI l o.2.2.1).toNat).2.2.2)
  else if o.1 = 4 then withP l ((nL l (findI l o.2.2.1).toNat).1, (nL l (findI l o.2.2.1).toNat).2.1, (nL l (findI l o.2.2.1).toNat).2.2.1, o.2.2.2.2.2)
  else if thereP l (parO o) = true then (if underF l o.2.2.1 (l.length + 1) (parO o) = true then l else withP l ((nL l (findI l o.2.2.1).toNat).1, parO o, (nL l (findI l o.2.2.1).toNat).2.2.1, (nL l (findI l o.2.2.1).toNat).2.2.2))
  else l

end Go.Proofs.YtogbkfakihnbdaaGreatDoor

/- Layer 11 on plain data: nodes as a sorted list, and as a look-up. Nothing of the program. -/
namespace Go.Proofs.YtogbkfakihnbdaaGreatDoor
open Go.RowKit
set_option linter.unusedSimpArgs false

/-- Nodes by rising numbers. -/
def SortN (l : List NodeT) : Prop := l.Pairwise (fun a b => LessS a.1 b.1)

/-- The node of a number. -/
def look (l : List NodeT) (id : Int × Int) : Option NodeT := l.find? (fun x => decide (x.1 = id))

/-- One in place of its like, or more. -/
def withR (x : NodeT) : List NodeT → List NodeT
  | [] => [x]
  | y :: l => if LessS y.1 x.1 then y :: withR x l else x :: (y :: l).filter (fun z => decide (z.1 ≠ x.1))

theorem withR_mem (x : NodeT) (l : List NodeT) (y : NodeT) : y ∈ withR x l ↔ y = x ∨ (y ∈ l ∧ y.1 ≠ x.1) := by
  induction l with
  | nil => simp [withR]
  | cons z l ih =>
    unfold withR
    by_cases hl : LessS z.1 x.1
    · have hne : z.1 ≠ x.1 := fun e => by rw [e] at hl; exact lessS_self _ hl
      rw [if_pos hl, List.mem_cons, ih, List.mem_cons]
      constructor
      · rintro (rfl | h | ⟨h1, h2⟩)
        · exact .inr ⟨.inl rfl, hne⟩
        · exact .inl h
        · exact .inr ⟨.inr h1, h2⟩
      · rintro (h | ⟨rfl | h1, h2⟩)
        · exact .inr (.inl h)
        · exact .inl rfl
        · exact .inr (.inr ⟨h1, h2⟩)
    · rw [if_neg hl, List.mem_cons, List.mem_filter]
      simp

theorem lessS_or (a b : Int × Int) (h : ¬ LessS a b) (hne : a ≠ b) : LessS b a := by
  rcases (lessS_one a b).2 hne with k | k
  · exact absurd k h
  · exact k

theorem withR_sort (x : NodeT) (l : List NodeT) (h : SortN l) : SortN (withR x l) := by
  induction l with
  | nil => exact List.pairwise_singleton _ _
  | cons z l ih =>
    unfold SortN at h
    rw [List.pairwise_cons] at h
    unfold withR
    by_cases hl : LessS z.1 x.1
    · rw [if_pos hl]
      unfold SortN
      rw [List.pairwise_cons]
      refine ⟨fun y hy => ?_, ih h.2⟩
      rcases (withR_mem x l y).1 hy with rfl | ⟨h1, _⟩
      · exact hl
      · exact h.1 y h1
    · rw [if_neg hl]
      unfold SortN
      rw [List.pairwise_cons]
      refine ⟨fun y hy => ?_, List.Pairwise.filter _ (List.pairwise_cons.2 h)⟩
      rw [List.mem_filter] at hy
      obtain ⟨hy, hne⟩ := hy
      have hne : y.1 ≠ x.1 := by simpa using hne
      rcases List.mem_cons.1 hy with rfl | h1
      · exact lessS_or _ _ hl hne
      · have hzy := h.1 y h1
        by_cases e : z.1 = x.1
        · rw [← e]; exact hzy
        · exact lessS_trans _ _ _ (lessS_or _ _ hl e) hzy

theorem look_mem {l : List NodeT} {id : Int × Int} {x : NodeT} (h : look l id = some x) : x ∈ l ∧ x.1 = id := by
  unfold look at h
  exact ⟨List.mem_of_find?_eq_some h, by simpa using List.find?_some h⟩

theorem look_none {l : List NodeT} {id : Int × Int} : look l id = none ↔ ∀ x ∈ l, x.1 ≠ id := by
  unfold look
  rw [List.find?_eq_none]
  simp

theorem sortN_uniq {l : List NodeT} (h : SortN l) {x y : NodeT} (hx : x ∈ l) (hy : y ∈ l) (e : x.1 = y.1) : x = y := by
  induction l with
  | nil => cases hx
  | cons z l ih =>
    unfold SortN at h
    rw [List.pairwise_cons] at h
    rcases List.mem_cons.1 hx with rfl | hx
    · rcases List.mem_cons.1 hy with rfl | hy
      · rfl
      · have := h.1 y hy
        rw [e] at this
        exact absurd this (lessS_self _)
    · rcases List.mem_cons.1 hy with e2 | hy2
      · have := h.1 x hx
        rw [e, e2] at this
        exact absurd this (lessS_self _)
      · exact ih h.2 hx hy2

theorem look_is {l : List NodeT} (h : SortN l) {x : NodeT} (hx : x ∈ l) : look l x.1 = some x := by
  cases hl : look l x.1 with
  | none => exact absurd rfl (look_none.1 hl x hx)
  | some y =>
    obtain ⟨h1, h2⟩ := look_mem hl
    rw [sortN_uniq h h1 hx h2]

/-- Nodes behind operations. -/
def nodesP (l : List NodeT) (ops : List OpT) : List NodeT := ops.foldl doP l

end Go.Proofs.YtogbkfakihnbdaaGreatDoor
