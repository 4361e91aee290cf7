import Derived.Test.YtebnmghjdoblaaaGreatDoorVA
import Derived.Test.YtebnmghjdoblaaaGreatDoorTk
import Derived.Test.YtebnmghjdoblaaaGreatDoorTX
import Derived.Deep.DeepCutAuto
import Derived.Deep.CutBlock
/- The document's top (layer 12). -/
namespace Go.Proofs.YtebnmghjdoblaaaGreatDoor
open Go.RowKit
set_option linter.unusedSimpArgs false

/-- To what a stamp's parents lead. -/
def topF (l : List ((Int × Int) × (Int × Int) × ByteArray × ByteArray)) : Nat → (Int × Int) → Int × Int
  | 0, _ => (1, 1)
  | f + 1, p => if findI l p < 0 then p else topF l f (nL l (findI l p).toNat).2.1

set_option maxRecDepth 100000 in
set_option maxHeartbeats 4000000 in
theorem rtop_any (l : List ((Int × Int) × (Int × Int) × ByteArray × ByteArray)) (p : Int × Int) (a : Option Addr) (n c : Nat) (w : World) (hn : n ≤ 1048576) (hI : NodesAt w a n l) :
    Calls Tryz.prog 52 #[.slice a n c, stampV p] w fun e w' => e = .returned (.agg #[.int .i64 (topF l (n + 1) p).1, .int .i64 (topF l (n + 1) p).2]) ∧ Below w.heap.size w w' := by
  have hln := hI.1
  obtain ⟨⟨E1, E2⟩, HE⟩ : ∃ E, Hid (E = topF l (n + 1) p) := ⟨_, rfl⟩
  rw [← HE.out]
  obtain ⟨x, y⟩ := p
  show Calls Tryz.prog _ #[.slice a n c, .agg #[.int .i64 x, .int .i64 y]] w _
  have A1 : Hid (Blk ((w.alloc (.cells #[.int .i64 x, .int .i64 y] 36)).alloc (.cells #[.int .i64 0, .int .i64 0] 36)) 36 w.heap.size #[.int .i64 x, .int .i64 y]) := (Blk.new _ _ _).alloc _
  have A2 : Hid (Blk ((w.alloc (.cells #[.int .i64 x, .int .i64 y] 36)).alloc (.cells #[.int .i64 0, .int .i64 0] 36)) 36 (w.heap.size + 1) #[.int .i64 0, .int .i64 0]) := Blk.new' _ _ _ _ (by simp)
  have AB : Below w.heap.size w ((w.alloc (.cells #[.int .i64 x, .int .i64 y] 36)).alloc (.cells #[.int .i64 0, .int .i64 0] 36)) := (below_new w _).alloc (by simp) _
  have HI : Hid (NodesAt w a n l) := hI
  clear hI
  go_enter Tryz.func52, Tryz.ntmps52
  go_wp2_with fail
  go_loopw [5] (fun i wr => ∃ (k : Nat) (q : Int × Int), k ≤ n + 1 ∧ i = .int .i64 k ∧ Hid (Blk wr 36 w.heap.size #[.int .i64 q.1, .int .i64 q.2]) ∧ Hid (Blk wr 36 (w.heap.size + 1) #[.int .i64 0, .int .i64 0]) ∧ Hid ((E1, E2) = topF l (n + 1 - k) q) ∧ Below w.heap.size w wr) (fun i _ => n + 1 - (intOf i).toNat)
  case atStart => exact ⟨0, (x, y), Nat.zero_le _, rfl, A1, A2, HE, AB⟩
  case round =>
    clear A1 A2 AB HE
    obtain ⟨k, ⟨x, y⟩, hk, rfl, B1, B2, HE, hbl⟩ := hrel
    have HIr : Hid (NodesAt wr a n l) := HI.out.below hbl
    have c0 : wr.cell? ⟨w.heap.size, 0, none⟩ = some (.int .i64 x) := B1.out.cell 0
    have c1 : wr.cell? ⟨w.heap.size, 1, none⟩ = some (.int .i64 y) := B1.out.cell 1
    by_cases hlt : k ≤ n
    · have b0 : (k : Int) ≤ (n : Int) := by omega
      have HU : Hid (topF l (n + 1 - k) (x, y) = if findI l (x, y) < 0 then (x, y) else topF l (n + 1 - (k + 1)) (nL l (findI l (x, y)).toNat).2.1) := by
        show _ = _
        rw [show n + 1 - k = (n + 1 - (k + 1)) + 1 by omega]; rfl
      have CF : Hid (Calls Tryz.prog 74 #[.slice a n c, .agg #[.int .i64 x, .int .i64 y]] wr fun e w' => e = .returned (.int .i64 (findI l (x, y))) ∧ Below wr.heap.size wr w') := rfindV_any l (x, y) _ (findI_E l _) a n c wr hn HIr.out
      rcases findI_lt l (x, y) with hf | ⟨j, hf, hj, _⟩
      · obtain ⟨rfl, rfl⟩ : E1 = x ∧ E2 = y := by
          have h := HE.out
          rw [HU.out, if_pos (by omega)] at h
          exact ⟨congrArg Prod.fst h, congrArg Prod.snd h⟩
        rw [hf] at CF
        clear HE HU HI HIr hf
        go_wp2_with fail
        refine CF.out.mono ?_
        rintro e w1 ⟨rfl, hb1⟩
        have hB1 := below_step hbl (Nat.le_refl _) hb1
        have X1 := B1.out.on hb1
        have X2 := B2.out.on hb1
        have d0 : w1.cell? ⟨w.heap.size, 0, none⟩ = some (.int .i64 E1) := X1.cell 0
        have d1 : w1.cell? ⟨w.heap.size, 1, none⟩ = some (.int .i64 E2) := X1.cell 1
        clear CF hb1 B1 B2 c0 c1 hbl
        go_wp2_with (with_reducible refine wpList_storeBlk rfl 36 _ _ rfl (w.heap.size + 1) #[.int .i64 0, .int .i64 0] #[.int .i64 E1, .int .i64 E2] (by with_unfolding_all rfl) (by with_unfolding_all rfl) X2 rfl (by kernel_rfl) (by kernel_rfl) ?_)
        exact bodyPost_row rfl (w.heap.size + 1) _ rfl rfl (X2.setRow _) _ Tryz.underlying36 rfl (by kernel_rfl) ⟨rfl, below_setRow hB1 (by omega) _⟩
      · rw [hf] at CF
        rw [if_neg (by omega), show (findI l (x, y)).toNat = j by omega] at HU
        rw [HU.out] at HE
        obtain ⟨⟨x', y'⟩, hxy⟩ : ∃ s, s = (nL l j).2.1 := ⟨_, rfl⟩
        rw [← hxy] at HE
        have j0 : (j : Int) < (n : Int) := by omega
        have j1 : ¬ ((j : Int) < 0) := by omega
        have j2 : decide ((j : Int) < 0) = false := by simp
        clear HU hf
        go_wp2_with fail
        refine CF.out.mono ?_
        rintro e w1 ⟨rfl, hb1⟩
        have hB1 := below_step hbl (Nat.le_refl _) hb1
        have X1 := B1.out.on hb1
        have X2 := B2.out.on hb1
        obtain ⟨b, off, rfl, _⟩ := HIr.out.2.some (by omega)
        obtain ⟨_, _, q2, q3, _⟩ := (HIr.out.below hb1).cells j (by omega)
        rw [← hxy] at q2 q3
        clear CF hb1 B1 B2 HIr c0 c1 hxy hbl
        have Y1 := X1.setRow #[.int .i64 x', .int .i64 y']
        have Y2 := X2.setRowOther w.heap.size (by omega) #[.int .i64 x', .int .i64 y']
        have hB2 := below_setRow hB1 (Nat.le_refl _) #[.int .i64 x', .int .i64 y']
        go_wp2_with (with_reducible refine wpList_storeBlk rfl 36 _ _ rfl w.heap.size #[.int .i64 x, .int .i64 y] #[.int .i64 x', .int .i64 y'] (by with_unfolding_all rfl) (by with_unfolding_all rfl) X1 rfl (by kernel_rfl) (by kernel_rfl) ?_)
        refine ⟨⟨k + 1, (x', y'), by omega, by go_num, Y1, Y2, HE, hB2⟩, ?_⟩
        simp [intOf]; omega
    · obtain ⟨rfl, rfl⟩ : E1 = 1 ∧ E2 = 1 := by
        have h := HE.out
        rw [show n + 1 - k = 0 by omega] at h
        exact ⟨congrArg Prod.fst h, congrArg Prod.snd h⟩
      have b0 : ¬ ((k : Int) ≤ (n : Int)) := by omega
      have X2 := B2.out
      clear HE B1 B2 HI HIr c0 c1
      go_wp2_with (with_reducible refine wpList_storeBlk rfl 36 _ _ rfl (w.heap.size + 1) #[.int .i64 0, .int .i64 0] #[.int .i64 1, .int .i64 1] (by with_unfolding_all rfl) (by with_unfolding_all rfl) X2 rfl (by kernel_rfl) (by kernel_rfl) ?_)
      exact bodyPost_row rfl (w.heap.size + 1) _ rfl rfl (X2.setRow _) _ Tryz.underlying36 rfl (by kernel_rfl) ⟨rfl, below_setRow hbl (by omega) _⟩

end Go.Proofs.YtebnmghjdoblaaaGreatDoor

/- The document's May, Check (layer 12). -/
namespace Go.Proofs.YtebnmghjdoblaaaGreatDoor
open Go.RowKit
set_option linter.unusedSimpArgs false

/-- May the k'th node be? Ahead of its parent. -/
def VH (l : List NodeT) (k : Nat) : Prop := MayS (nL l k).1 ∧ (0 < k → LessS (nL l (k - 1)).1 (nL l k).1) ∧ NameP (nL l k).2.2.1 ∧ (nL l k).2.2.2.size ≤ 64

def TopOk (t : Int × Int) : Prop := t.1 = 0 ∧ (t.2 = 0 ∨ t.2 = 1)

/-- May nodes be a tree's? -/
def MayV (l : List NodeT) : Prop := l.length ≤ 512 ∧ (∀ k, k < l.length → VH l k) ∧ ∀ k, k < l.length → TopOk (topF l (l.length + 1) (nL l k).1)

theorem topOk_dec (t : Int × Int) : TopOk t ∨ ¬ TopOk t := Classical.em _

set_option maxRecDepth 100000 in
set_option maxHeartbeats 16000000 in
theorem rmayV_any (l : List NodeT) (a : Option Addr) (n c : Nat) (w : World) (D : Bool) (hD : D = true ↔ MayV l) (hn : n ≤ 60000) (hz : ∀ k, k < n → (nL l k).2.2.1.size ≤ 1048576 ∧ (nL l k).2.2.2.size ≤ maxLen) (hI : NodesAt w a n l) :
    Calls Tryz.prog 31 #[.slice a n c] w fun e w' => e = .returned (.bool D) ∧ Below w.heap.size w w' := by
  have HI : Hid (NodesAt w a n l) := hI
  have HL : Hid (l.length = n) := hI.1
  have HZ : Hid (∀ k, k < n → (nL l k).2.2.1.size ≤ 1048576 ∧ (nL l k).2.2.2.size ≤ maxLen) := hz
  have HD : Hid (D = true ↔ MayV l) := hD
  have HF : Hid (¬ (∀ k, k < n → VH l k) → D = false) := fun h => by
    cases D with
    | false => rfl
    | true => exact absurd (by rw [← hI.1]; exact (hD.1 rfl).2.1) h
  clear hI hz hD
  by_cases h512 : 512 < n
  · have b0 : (512 : Int) < (n : Int) := by omega
    obtain rfl : D = false := by
      cases D with
      | false => rfl
      | true => have := (HD.out.1 rfl).1; rw [HL.out] at this; omega
    go_enter Tryz.func31, Tryz.ntmps31
    go_wp2_with fail
    go_ret
    exact ⟨rfl, Below.refl _ _⟩
  have b0 : ¬ ((512 : Int) < (n : Int)) := by omega
  go_enter Tryz.func31, Tryz.ntmps31
  go_wp2_with fail
  go_loopw [3] (fun i wr => ∃ k : Nat, k ≤ n ∧ i = .int .i64 k ∧ Hid (∀ j, j < k → VH l j) ∧ Below w.heap.size w wr) (fun i _ => n - (intOf i).toNat)
  case atStart => exact ⟨0, Nat.zero_le _, rfl, fun j hj => absurd hj (Nat.not_lt_zero _), Below.refl _ _⟩
  case round =>
    obtain ⟨k, hk, rfl, HA, hbl⟩ := hrel
    by_cases hlt : k < n
    · have b1 : (k : Int) < (n : Int) := by omega
      obtain ⟨b, off, rfl, _⟩ := HI.out.2.some (by omega)
      have hIr := HI.out.below hbl
      obtain ⟨x0, x1, _, _, x4, x5⟩ := hIr.cells k hlt
      have hz5 := HZ.out k hlt
      obtain ⟨⟨⟨m1, m2⟩, ⟨m3, m4⟩, m5, m6⟩, hkk⟩ : ∃ s, s = nL l k := ⟨_, rfl⟩
      have HK : Hid (((m1, m2), (m3, m4), m5, m6) = nL l k) := hkk
      rw [← hkk] at x0 x1 x4 x5 hz5
      simp only at x0 x1 x4 x5 hz5
      have hl6 : m6.size ≤ 9223372036854775807 := hz5.2
      obtain ⟨X, hX⟩ := nameX_is m5
      have HXy : Hid (NameP m5 → X = 0) := fun h => by rcases hX with ⟨e, _⟩ | ⟨_, h2⟩; exact e; exact absurd h h2
      have HXn : Hid (¬ NameP m5 → X = 80) := fun h => by rcases hX with ⟨_, h2⟩ | ⟨e, _⟩; exact absurd h2 h; exact e
      have CN : Hid (∀ W, Calls Tryz.prog 51 #[.string m5] W fun e w' => e = .returned (.int .i64 X) ∧ Below W.heap.size W w') := fun W => name_on m5 X hX W W (Below.refl _ _) hz5.1
      have HB : Hid (Below wr.heap.size wr wr.drew) := (Below.refl _ _).drew
      clear hkk hz5 hX
      by_cases hms : MayS (m1, m2)
      · have hS : Hid (MayS (m1, m2)) := hms
        have CM' : ∀ W, _ := fun W => rmayS_any (m1, m2) W
        rw [decide_eq_true hms] at CM'
        have CM : Hid (∀ W, Calls Tryz.prog 50 #[.agg #[.int .i64 m1, .int .i64 m2]] W fun e w' => e = .returned (.bool true) ∧ Below W.heap.size W w') := CM'
        clear CM' hms
        by_cases hk0 : 0 < k
        · have b2 : (0 : Int) < (k : Int) := by omega
          obtain ⟨j, hj⟩ : ∃ j, k - 1 = j := ⟨_, rfl⟩
          have b3 : (j : Int) < (n : Int) := by omega
          have wj : IntKind.i64.wrap ((k : Int) - 1) = (j : Int) := by rw [IntKind.wrap_i64]; omega
          obtain ⟨y0, y1, _⟩ := hIr.cells j (by omega)
          obtain ⟨⟨⟨p1, p2⟩, pr⟩, hpp⟩ : ∃ s, s = nL l j := ⟨_, rfl⟩
          rw [← hpp] at y0 y1
          have HP : Hid ((p1, p2) = (nL l (k - 1)).1) := by show _ = _; rw [hj, ← hpp]
          have hS0 : wr.cell? ⟨b, off + k * 6, none⟩ = some (.int .i64 m1) ∧ wr.cell? ⟨b, off + k * 6 + 1, none⟩ = some (.int .i64 m2) ∧ wr.cell? ⟨b, off + k * 6 + 4, none⟩ = some (.string m5) ∧ wr.cell? ⟨b, off + k * 6 + 5, none⟩ = some (.string m6) ∧ wr.cell? ⟨b, off + j * 6, none⟩ = some (.int .i64 p1) ∧ wr.cell? ⟨b, off + j * 6 + 1, none⟩ = some (.int .i64 p2) := ⟨x0, x1, x4, x5, y0, y1⟩
          have HS : Hid (∀ W, Below wr.heap.size wr W → W.cell? ⟨b, off + k * 6, none⟩ = some (.int .i64 m1) ∧ W.cell? ⟨b, off + k * 6 + 1, none⟩ = some (.int .i64 m2) ∧ W.cell? ⟨b, off + k * 6 + 4, none⟩ = some (.string m5) ∧ W.cell? ⟨b, off + k * 6 + 5, none⟩ = some (.string m6) ∧ W.cell? ⟨b, off + j * 6, none⟩ = some (.int .i64 p1) ∧ W.cell? ⟨b, off + j * 6 + 1, none⟩ = some (.int .i64 p2)) := fun W hW => ⟨by rw [hW.cell (World.block_lt_of_cell? wr _ x0)]; exact x0, by rw [hW.cell (World.block_lt_of_cell? wr _ x1)]; exact x1, by rw [hW.cell (World.block_lt_of_cell? wr _ x4)]; exact x4, by rw [hW.cell (World.block_lt_of_cell? wr _ x5)]; exact x5, by rw [hW.cell (World.block_lt_of_cell? wr _ y0)]; exact y0, by rw [hW.cell (World.block_lt_of_cell? wr _ y1)]; exact y1⟩
          by_cases hls : LessS (p1, p2) (m1, m2)
          · have CL' : ∀ W, _ := fun W => rless_any (p1, p2) (m1, m2) W
            rw [decide_eq_true hls] at CL'
            have CL : Hid (∀ W, Calls Tryz.prog 47 #[.agg #[.int .i64 p1, .int .i64 p2], .agg #[.int .i64 m1, .int .i64 m2]] W fun e w' => e = .returned (.bool true) ∧ Below W.heap.size W w') := CL'
            have HLs : Hid (LessS (p1, p2) (m1, m2)) := hls
            clear CL' hpp hj hIr y0 y1 x0 x1 x4 x5 hls
            go_wp2_with fail
            refine wp_region_noPanic ?_
            refine wp_region_held_drew (S := fun W => W.cell? ⟨b, off + k * 6, none⟩ = some (.int .i64 m1) ∧ W.cell? ⟨b, off + k * 6 + 1, none⟩ = some (.int .i64 m2) ∧ W.cell? ⟨b, off + k * 6 + 4, none⟩ = some (.string m5) ∧ W.cell? ⟨b, off + k * 6 + 5, none⟩ = some (.string m6) ∧ W.cell? ⟨b, off + j * 6, none⟩ = some (.int .i64 p1) ∧ W.cell? ⟨b, off + j * 6 + 1, none⟩ = some (.int .i64 p2)) (by kernel_rfl) (by first | exact trivial | assumption | exact ⟨by assumption, by assumption⟩) (fun hHeld => ?_)
            refine tk 0 (v := ?_) rfl rfl ?_ ?_
            rotate_left
            · intro w hSw; (try dsimp only at hSw); go_simp; try with_reducible rfl
            try simp only [Act.put, za, zb, zc]
            refine tk 1 (v := ?_) rfl rfl ?_ ?_
            rotate_left
            · intro w hSw; (try dsimp only at hSw); go_simp; try with_reducible rfl
            try simp only [Act.put, za, zb, zc]
            refine tk 2 (v := ?_) rfl rfl ?_ ?_
            rotate_left
            · intro w hSw; (try dsimp only at hSw); go_simp; try with_reducible rfl
            try simp only [Act.put, za, zb, zc]
            refine tk 3 (v := ?_) rfl rfl ?_ ?_
            rotate_left
            · intro w hSw; (try dsimp only at hSw); go_simp; try with_reducible rfl
            try simp only [Act.put, za, zb, zc]
            refine tk 4 (v := ?_) rfl rfl ?_ ?_
            rotate_left
            · intro w hSw; (try dsimp only at hSw); go_simp; try with_reducible rfl
            try simp only [Act.put, za, zb, zc]
            refine wpAnyH_ready (rs := [5]) (by kernel_rfl) (by simp) ?_
            refine AllReadyH.cons rfl (fun K hK => ?_) AllReadyH.nil
            go_simp
            refine (CM.out _).mono ?_
            rintro e w3 ⟨rfl, hb3⟩
            have HB1 : Hid (Below wr.heap.size wr w3) := below_step HB.out (Nat.le_refl _) hb3
            clear hb3 HB
            have HB := HB1
            clear HB1
            refine hK.out _ _ (HS.out _ HB.out) (fun hHeld => ?_)
            clear hK K
            refine tk 6 (v := ?_) rfl rfl ?_ ?_
            rotate_left
            · intro w hSw; (try dsimp only at hSw); go_simp; try with_reducible rfl
            try simp only [Act.put, za, zb, zc]
            refine tk 7 (v := ?_) rfl rfl ?_ ?_
            rotate_left
            · intro w hSw; (try dsimp only at hSw); go_simp; try with_reducible rfl
            try simp only [Act.put, za, zb, zc]
            refine tk 8 (v := ?_) rfl rfl ?_ ?_
            rotate_left
            · intro w hSw; (try dsimp only at hSw); go_simp; try with_reducible rfl
            try simp only [Act.put, za, zb, zc]
            refine tk 9 (v := ?_) rfl rfl ?_ ?_
            rotate_left
            · intro w hSw; (try dsimp only at hSw); go_simp; try with_reducible rfl
            try simp only [Act.put, za, zb, zc]
            refine tk 10 (v := ?_) rfl rfl ?_ ?_
            rotate_left
            · intro w hSw; (try dsimp only at hSw); go_simp; try with_reducible rfl
            try simp only [Act.put, za, zb, zc]
            refine tk 11 (v := ?_) rfl rfl ?_ ?_
            rotate_left
            · intro w hSw; (try dsimp only at hSw); go_simp; try with_reducible rfl
            try simp only [Act.put, za, zb, zc]
            refine tk 12 (v := ?_) rfl rfl ?_ ?_
            rotate_left
            · intro w hSw; (try dsimp only at hSw); go_simp; try with_reducible rfl
            try simp only [Act.put, za, zb, zc]
            refine tk 13 (v := ?_) rfl rfl ?_ ?_
            rotate_left
            · intro w hSw; (try dsimp only at hSw); go_simp; try with_reducible rfl
            try simp only [Act.put, za, zb, zc]
            refine tk 14 (v := ?_) rfl rfl ?_ ?_
            rotate_left
            · intro w hSw; (try dsimp only at hSw); go_simp; try with_reducible rfl
            try simp only [Act.put, za, zb, zc]
            refine tk 15 (v := ?_) rfl rfl ?_ ?_
            rotate_left
            · intro w hSw; (try dsimp only at hSw); go_simp; try with_reducible rfl
            try simp only [Act.put, za, zb, zc]
            refine tk 16 (v := ?_) rfl rfl ?_ ?_
            rotate_left
            · intro w hSw; (try dsimp only at hSw); go_simp; try with_reducible rfl
            try simp only [Act.put, za, zb, zc]
            refine tk 17 (v := ?_) rfl rfl ?_ ?_
            rotate_left
            · intro w hSw; (try dsimp only at hSw); go_simp; try with_reducible rfl
            try simp only [Act.put, za, zb, zc]
            refine tk 18 (v := ?_) rfl rfl ?_ ?_
            rotate_left
            · intro w hSw; (try dsimp only at hSw); go_simp; try with_reducible rfl
            try simp only [Act.put, za, zb, zc]
            refine tk 19 (v := ?_) rfl rfl ?_ ?_
            rotate_left
            · intro w hSw; (try dsimp only at hSw); go_simp; try with_reducible rfl
            try simp only [Act.put, za, zb, zc]
            refine tk 20 (v := ?_) rfl rfl ?_ ?_
            rotate_left
            · intro w hSw; (try dsimp only at hSw); go_simp; try with_reducible rfl
            try simp only [Act.put, za, zb, zc]
            refine tk 21 (v := ?_) rfl rfl ?_ ?_
            rotate_left
            · intro w hSw; (try dsimp only at hSw); go_simp; try with_reducible rfl
            try simp only [Act.put, za, zb, zc]
            refine wpAnyH_ready (rs := [22]) (by kernel_rfl) (by simp) ?_
            refine AllReadyH.cons rfl (fun K hK => ?_) AllReadyH.nil
            go_simp
            refine (CL.out _).mono ?_
            rintro e w3 ⟨rfl, hb3⟩
            have HB1 : Hid (Below wr.heap.size wr w3) := below_step HB.out (Nat.le_refl _) hb3
            clear hb3 HB
            have HB := HB1
            clear HB1
            refine hK.out _ _ (HS.out _ HB.out) (fun hHeld => ?_)
            clear hK K
            refine tk 23 (v := ?_) rfl rfl ?_ ?_
            rotate_left
            · intro w hSw; (try dsimp only at hSw); go_simp; try with_reducible rfl
            try simp only [Act.put, za, zb, zc]
            refine tk 24 (v := ?_) rfl rfl ?_ ?_
            rotate_left
            · intro w hSw; (try dsimp only at hSw); go_simp; try with_reducible rfl
            try simp only [Act.put, za, zb, zc]
            refine tk 25 (v := ?_) rfl rfl ?_ ?_
            rotate_left
            · intro w hSw; (try dsimp only at hSw); go_simp; try with_reducible rfl
            try simp only [Act.put, za, zb, zc]
            refine tk 26 (v := ?_) rfl rfl ?_ ?_
            rotate_left
            · intro w hSw; (try dsimp only at hSw); go_simp; try with_reducible rfl
            try simp only [Act.put, za, zb, zc]
            refine tk 27 (v := ?_) rfl rfl ?_ ?_
            rotate_left
            · intro w hSw; (try dsimp only at hSw); go_simp; try with_reducible rfl
            try simp only [Act.put, za, zb, zc]
            refine tk 28 (v := ?_) rfl rfl ?_ ?_
            rotate_left
            · intro w hSw; (try dsimp only at hSw); go_simp; try with_reducible rfl
            try simp only [Act.put, za, zb, zc]
            refine tk 29 (v := ?_) rfl rfl ?_ ?_
            rotate_left
            · intro w hSw; (try dsimp only at hSw); go_simp; try with_reducible rfl
            try simp only [Act.put, za, zb, zc]
            refine tk 30 (v := ?_) rfl rfl ?_ ?_
            rotate_left
            · intro w hSw; (try dsimp only at hSw); go_simp; try with_reducible rfl
            try simp only [Act.put, za, zb, zc]
            refine tk 31 (v := ?_) rfl rfl ?_ ?_
            rotate_left
            · intro w hSw; (try dsimp only at hSw); go_simp; try with_reducible rfl
            try simp only [Act.put, za, zb, zc]
            refine wpAnyH_ready (rs := [32]) (by kernel_rfl) (by simp) ?_
            refine AllReadyH.cons rfl (fun K hK => ?_) AllReadyH.nil
            go_simp
            refine (CN.out _).mono ?_
            rintro e w3 ⟨rfl, hb3⟩
            have HB1 : Hid (Below wr.heap.size wr w3) := below_step HB.out (Nat.le_refl _) hb3
            clear hb3 HB
            have HB := HB1
            clear HB1
            refine hK.out _ _ (HS.out _ HB.out) (fun hHeld => ?_)
            clear hK K
            by_cases hnm : NameP m5
            · obtain rfl : X = 0 := HXy.out hnm
              by_cases hv : m6.size ≤ 64
              · have hv1 : ¬ ((64 : Int) < (m6.size : Int)) := by omega
                refine tk 33 (v := ?_) rfl rfl ?_ ?_
                rotate_left
                · intro w hSw; (try dsimp only at hSw); go_simp; try with_reducible rfl
                try simp only [Act.put, za, zb, zc]
                refine tk 34 (v := ?_) rfl rfl ?_ ?_
                rotate_left
                · intro w hSw; (try dsimp only at hSw); go_simp; try with_reducible rfl
                try simp only [Act.put, za, zb, zc]
                refine tk 35 (v := ?_) rfl rfl ?_ ?_
                rotate_left
                · intro w hSw; (try dsimp only at hSw); go_simp; try with_reducible rfl
                try simp only [Act.put, za, zb, zc]
                refine tk 36 (v := ?_) rfl rfl ?_ ?_
                rotate_left
                · intro w hSw; (try dsimp only at hSw); go_simp; try with_reducible rfl
                try simp only [Act.put, za, zb, zc]
                refine tk 37 (v := ?_) rfl rfl ?_ ?_
                rotate_left
                · intro w hSw; (try dsimp only at hSw); go_simp; try with_reducible rfl
                try simp only [Act.put, za, zb, zc]
                refine tk 38 (v := ?_) rfl rfl ?_ ?_
                rotate_left
                · intro w hSw; (try dsimp only at hSw); go_simp; try with_reducible rfl
                try simp only [Act.put, za, zb, zc]
                refine tk 39 (v := ?_) rfl rfl ?_ ?_
                rotate_left
                · intro w hSw; (try dsimp only at hSw); go_simp; try with_reducible rfl
                try simp only [Act.put, za, zb, zc]
                refine tk 40 (v := ?_) rfl rfl ?_ ?_
                rotate_left
                · intro w hSw; (try dsimp only at hSw); go_simp; try with_reducible rfl
                try simp only [Act.put, za, zb, zc]
                refine tk 41 (v := ?_) rfl rfl ?_ ?_
                rotate_left
                · intro w hSw; (try dsimp only at hSw); go_simp; try with_reducible rfl
                try simp only [Act.put, za, zb, zc]
                refine tk 42 (v := ?_) rfl rfl ?_ ?_
                rotate_left
                · intro w hSw; (try dsimp only at hSw); go_simp; try with_reducible rfl
                try simp only [Act.put, za, zb, zc]
                refine tk 43 (v := ?_) rfl rfl ?_ ?_
                rotate_left
                · intro w hSw; (try dsimp only at hSw); go_simp; try with_reducible rfl
                try simp only [Act.put, za, zb, zc]
                refine wpAnyH_done (by kernel_rfl) (NoPanic.normal ?_) _
                have HA' : Hid (∀ j, j < k + 1 → VH l j) := fun j hj => by
                  by_cases e : j = k
                  · rw [e]; exact ⟨by rw [← HK.out]; exact hS.out, fun _ => by rw [← HK.out, ← HP.out]; exact HLs.out, by rw [← HK.out]; exact hnm, by rw [← HK.out]; exact hv⟩
                  · exact HA.out j (by omega)
                have hbl' := below_step hbl (Nat.le_refl _) HB.out
                go_wp2_with fail
                refine ⟨⟨k + 1, by omega, by go_num, HA', hbl'⟩, ?_⟩
                simp [intOf]; omega

              · have hv1 : (64 : Int) < (m6.size : Int) := by omega
                refine tk 33 (v := ?_) rfl rfl ?_ ?_
                rotate_left
                · intro w hSw; (try dsimp only at hSw); go_simp; try with_reducible rfl
                try simp only [Act.put, za, zb, zc]
                refine tk 34 (v := ?_) rfl rfl ?_ ?_
                rotate_left
                · intro w hSw; (try dsimp only at hSw); go_simp; try with_reducible rfl
                try simp only [Act.put, za, zb, zc]
                refine tk 35 (v := ?_) rfl rfl ?_ ?_
                rotate_left
                · intro w hSw; (try dsimp only at hSw); go_simp; try with_reducible rfl
                try simp only [Act.put, za, zb, zc]
                refine tk 36 (v := ?_) rfl rfl ?_ ?_
                rotate_left
                · intro w hSw; (try dsimp only at hSw); go_simp; try with_reducible rfl
                try simp only [Act.put, za, zb, zc]
                refine tk 37 (v := ?_) rfl rfl ?_ ?_
                rotate_left
                · intro w hSw; (try dsimp only at hSw); go_simp; try with_reducible rfl
                try simp only [Act.put, za, zb, zc]
                refine tk 38 (v := ?_) rfl rfl ?_ ?_
                rotate_left
                · intro w hSw; (try dsimp only at hSw); go_simp; try with_reducible rfl
                try simp only [Act.put, za, zb, zc]
                refine tk 39 (v := ?_) rfl rfl ?_ ?_
                rotate_left
                · intro w hSw; (try dsimp only at hSw); go_simp; try with_reducible rfl
                try simp only [Act.put, za, zb, zc]
                refine tk 40 (v := ?_) rfl rfl ?_ ?_
                rotate_left
                · intro w hSw; (try dsimp only at hSw); go_simp; try with_reducible rfl
                try simp only [Act.put, za, zb, zc]
                refine tk 41 (v := ?_) rfl rfl ?_ ?_
                rotate_left
                · intro w hSw; (try dsimp only at hSw); go_simp; try with_reducible rfl
                try simp only [Act.put, za, zb, zc]
                refine tk 42 (v := ?_) rfl rfl ?_ ?_
                rotate_left
                · intro w hSw; (try dsimp only at hSw); go_simp; try with_reducible rfl
                try simp only [Act.put, za, zb, zc]
                refine tk 43 (v := ?_) rfl rfl ?_ ?_
                rotate_left
                · intro w hSw; (try dsimp only at hSw); go_simp; try with_reducible rfl
                try simp only [Act.put, za, zb, zc]
                refine wpAnyH_done (by kernel_rfl) (NoPanic.normal ?_) _
                obtain rfl := HF.out (fun h => hv (by have h2 := (h k (by omega)).2.2.2; rw [← HK.out] at h2; exact h2))
                go_wp2_with fail
                go_ret
                exact ⟨rfl, below_step hbl (Nat.le_refl _) HB.out⟩

            · obtain rfl : X = 80 := HXn.out hnm
              refine tk 33 (v := ?_) rfl rfl ?_ ?_
              rotate_left
              · intro w hSw; (try dsimp only at hSw); go_simp; try with_reducible rfl
              try simp only [Act.put, za, zb, zc]
              refine tk 34 (v := ?_) rfl rfl ?_ ?_
              rotate_left
              · intro w hSw; (try dsimp only at hSw); go_simp; try with_reducible rfl
              try simp only [Act.put, za, zb, zc]
              refine tk 35 (v := ?_) rfl rfl ?_ ?_
              rotate_left
              · intro w hSw; (try dsimp only at hSw); go_simp; try with_reducible rfl
              try simp only [Act.put, za, zb, zc]
              refine tn 36 rfl rfl ?_
              try simp only [Act.put, za, zb, zc]
              refine tn 37 rfl rfl ?_
              try simp only [Act.put, za, zb, zc]
              refine tn 38 rfl rfl ?_
              try simp only [Act.put, za, zb, zc]
              refine tn 39 rfl rfl ?_
              try simp only [Act.put, za, zb, zc]
              refine tn 40 rfl rfl ?_
              try simp only [Act.put, za, zb, zc]
              refine tn 41 rfl rfl ?_
              try simp only [Act.put, za, zb, zc]
              refine tn 42 rfl rfl ?_
              try simp only [Act.put, za, zb, zc]
              refine tk 43 (v := ?_) rfl rfl ?_ ?_
              rotate_left
              · intro w hSw; (try dsimp only at hSw); go_simp; try with_reducible rfl
              try simp only [Act.put, za, zb, zc]
              refine wpAnyH_done (by kernel_rfl) (NoPanic.normal ?_) _
              obtain rfl := HF.out (fun h => hnm (by have h2 := (h k (by omega)).2.2.1; rw [← HK.out] at h2; exact h2))
              go_wp2_with fail
              go_ret
              exact ⟨rfl, below_step hbl (Nat.le_refl _) HB.out⟩


          · have CL' : ∀ W, _ := fun W => rless_any (p1, p2) (m1, m2) W
            rw [decide_eq_false hls] at CL'
            have CL : Hid (∀ W, Calls Tryz.prog 47 #[.agg #[.int .i64 p1, .int .i64 p2], .agg #[.int .i64 m1, .int .i64 m2]] W fun e w' => e = .returned (.bool false) ∧ Below W.heap.size W w') := CL'
            clear CL' hpp hj hIr y0 y1 x0 x1 x4 x5
            go_wp2_with fail
            refine wp_region_noPanic ?_
            refine wp_region_held_drew (S := fun W => W.cell? ⟨b, off + k * 6, none⟩ = some (.int .i64 m1) ∧ W.cell? ⟨b, off + k * 6 + 1, none⟩ = some (.int .i64 m2) ∧ W.cell? ⟨b, off + k * 6 + 4, none⟩ = some (.string m5) ∧ W.cell? ⟨b, off + k * 6 + 5, none⟩ = some (.string m6) ∧ W.cell? ⟨b, off + j * 6, none⟩ = some (.int .i64 p1) ∧ W.cell? ⟨b, off + j * 6 + 1, none⟩ = some (.int .i64 p2)) (by kernel_rfl) (by first | exact trivial | assumption | exact ⟨by assumption, by assumption⟩) (fun hHeld => ?_)
            refine tk 0 (v := ?_) rfl rfl ?_ ?_
            rotate_left
            · intro w hSw; (try dsimp only at hSw); go_simp; try with_reducible rfl
            try simp only [Act.put, za, zb, zc]
            refine tk 1 (v := ?_) rfl rfl ?_ ?_
            rotate_left
            · intro w hSw; (try dsimp only at hSw); go_simp; try with_reducible rfl
            try simp only [Act.put, za, zb, zc]
            refine tk 2 (v := ?_) rfl rfl ?_ ?_
            rotate_left
            · intro w hSw; (try dsimp only at hSw); go_simp; try with_reducible rfl
            try simp only [Act.put, za, zb, zc]
            refine tk 3 (v := ?_) rfl rfl ?_ ?_
            rotate_left
            · intro w hSw; (try dsimp only at hSw); go_simp; try with_reducible rfl
            try simp only [Act.put, za, zb, zc]
            refine tk 4 (v := ?_) rfl rfl ?_ ?_
            rotate_left
            · intro w hSw; (try dsimp only at hSw); go_simp; try with_reducible rfl
            try simp only [Act.put, za, zb, zc]
            refine wpAnyH_ready (rs := [5]) (by kernel_rfl) (by simp) ?_
            refine AllReadyH.cons rfl (fun K hK => ?_) AllReadyH.nil
            go_simp
            refine (CM.out _).mono ?_
            rintro e w3 ⟨rfl, hb3⟩
            have HB1 : Hid (Below wr.heap.size wr w3) := below_step HB.out (Nat.le_refl _) hb3
            clear hb3 HB
            have HB := HB1
            clear HB1
            refine hK.out _ _ (HS.out _ HB.out) (fun hHeld => ?_)
            clear hK K
            refine tk 6 (v := ?_) rfl rfl ?_ ?_
            rotate_left
            · intro w hSw; (try dsimp only at hSw); go_simp; try with_reducible rfl
            try simp only [Act.put, za, zb, zc]
            refine tk 7 (v := ?_) rfl rfl ?_ ?_
            rotate_left
            · intro w hSw; (try dsimp only at hSw); go_simp; try with_reducible rfl
            try simp only [Act.put, za, zb, zc]
            refine tk 8 (v := ?_) rfl rfl ?_ ?_
            rotate_left
            · intro w hSw; (try dsimp only at hSw); go_simp; try with_reducible rfl
            try simp only [Act.put, za, zb, zc]
            refine tk 9 (v := ?_) rfl rfl ?_ ?_
            rotate_left
            · intro w hSw; (try dsimp only at hSw); go_simp; try with_reducible rfl
            try simp only [Act.put, za, zb, zc]
            refine tk 10 (v := ?_) rfl rfl ?_ ?_
            rotate_left
            · intro w hSw; (try dsimp only at hSw); go_simp; try with_reducible rfl
            try simp only [Act.put, za, zb, zc]
            refine tk 11 (v := ?_) rfl rfl ?_ ?_
            rotate_left
            · intro w hSw; (try dsimp only at hSw); go_simp; try with_reducible rfl
            try simp only [Act.put, za, zb, zc]
            refine tk 12 (v := ?_) rfl rfl ?_ ?_
            rotate_left
            · intro w hSw; (try dsimp only at hSw); go_simp; try with_reducible rfl
            try simp only [Act.put, za, zb, zc]
            refine tk 13 (v := ?_) rfl rfl ?_ ?_
            rotate_left
            · intro w hSw; (try dsimp only at hSw); go_simp; try with_reducible rfl
            try simp only [Act.put, za, zb, zc]
            refine tk 14 (v := ?_) rfl rfl ?_ ?_
            rotate_left
            · intro w hSw; (try dsimp only at hSw); go_simp; try with_reducible rfl
            try simp only [Act.put, za, zb, zc]
            refine tk 15 (v := ?_) rfl rfl ?_ ?_
            rotate_left
            · intro w hSw; (try dsimp only at hSw); go_simp; try with_reducible rfl
            try simp only [Act.put, za, zb, zc]
            refine tk 16 (v := ?_) rfl rfl ?_ ?_
            rotate_left
            · intro w hSw; (try dsimp only at hSw); go_simp; try with_reducible rfl
            try simp only [Act.put, za, zb, zc]
            refine tk 17 (v := ?_) rfl rfl ?_ ?_
            rotate_left
            · intro w hSw; (try dsimp only at hSw); go_simp; try with_reducible rfl
            try simp only [Act.put, za, zb, zc]
            refine tk 18 (v := ?_) rfl rfl ?_ ?_
            rotate_left
            · intro w hSw; (try dsimp only at hSw); go_simp; try with_reducible rfl
            try simp only [Act.put, za, zb, zc]
            refine tk 19 (v := ?_) rfl rfl ?_ ?_
            rotate_left
            · intro w hSw; (try dsimp only at hSw); go_simp; try with_reducible rfl
            try simp only [Act.put, za, zb, zc]
            refine tk 20 (v := ?_) rfl rfl ?_ ?_
            rotate_left
            · intro w hSw; (try dsimp only at hSw); go_simp; try with_reducible rfl
            try simp only [Act.put, za, zb, zc]
            refine tk 21 (v := ?_) rfl rfl ?_ ?_
            rotate_left
            · intro w hSw; (try dsimp only at hSw); go_simp; try with_reducible rfl
            try simp only [Act.put, za, zb, zc]
            refine wpAnyH_ready (rs := [22]) (by kernel_rfl) (by simp) ?_
            refine AllReadyH.cons rfl (fun K hK => ?_) AllReadyH.nil
            go_simp
            refine (CL.out _).mono ?_
            rintro e w3 ⟨rfl, hb3⟩
            have HB1 : Hid (Below wr.heap.size wr w3) := below_step HB.out (Nat.le_refl _) hb3
            clear hb3 HB
            have HB := HB1
            clear HB1
            refine hK.out _ _ (HS.out _ HB.out) (fun hHeld => ?_)
            clear hK K
            refine tk 23 (v := ?_) rfl rfl ?_ ?_
            rotate_left
            · intro w hSw; (try dsimp only at hSw); go_simp; try with_reducible rfl
            try simp only [Act.put, za, zb, zc]
            refine tk 24 (v := ?_) rfl rfl ?_ ?_
            rotate_left
            · intro w hSw; (try dsimp only at hSw); go_simp; try with_reducible rfl
            try simp only [Act.put, za, zb, zc]
            refine tk 25 (v := ?_) rfl rfl ?_ ?_
            rotate_left
            · intro w hSw; (try dsimp only at hSw); go_simp; try with_reducible rfl
            try simp only [Act.put, za, zb, zc]
            refine tk 26 (v := ?_) rfl rfl ?_ ?_
            rotate_left
            · intro w hSw; (try dsimp only at hSw); go_simp; try with_reducible rfl
            try simp only [Act.put, za, zb, zc]
            refine tn 27 rfl rfl ?_
            try simp only [Act.put, za, zb, zc]
            refine tn 28 rfl rfl ?_
            try simp only [Act.put, za, zb, zc]
            refine tn 29 rfl rfl ?_
            try simp only [Act.put, za, zb, zc]
            refine tn 30 rfl rfl ?_
            try simp only [Act.put, za, zb, zc]
            refine tn 31 rfl rfl ?_
            try simp only [Act.put, za, zb, zc]
            refine tn 32 rfl rfl ?_
            try simp only [Act.put, za, zb, zc]
            refine tn 33 rfl rfl ?_
            try simp only [Act.put, za, zb, zc]
            refine tk 34 (v := ?_) rfl rfl ?_ ?_
            rotate_left
            · intro w hSw; (try dsimp only at hSw); go_simp; try with_reducible rfl
            try simp only [Act.put, za, zb, zc]
            refine tk 35 (v := ?_) rfl rfl ?_ ?_
            rotate_left
            · intro w hSw; (try dsimp only at hSw); go_simp; try with_reducible rfl
            try simp only [Act.put, za, zb, zc]
            refine tn 36 rfl rfl ?_
            try simp only [Act.put, za, zb, zc]
            refine tn 37 rfl rfl ?_
            try simp only [Act.put, za, zb, zc]
            refine tn 38 rfl rfl ?_
            try simp only [Act.put, za, zb, zc]
            refine tn 39 rfl rfl ?_
            try simp only [Act.put, za, zb, zc]
            refine tn 40 rfl rfl ?_
            try simp only [Act.put, za, zb, zc]
            refine tn 41 rfl rfl ?_
            try simp only [Act.put, za, zb, zc]
            refine tn 42 rfl rfl ?_
            try simp only [Act.put, za, zb, zc]
            refine tk 43 (v := ?_) rfl rfl ?_ ?_
            rotate_left
            · intro w hSw; (try dsimp only at hSw); go_simp; try with_reducible rfl
            try simp only [Act.put, za, zb, zc]
            refine wpAnyH_done (by kernel_rfl) (NoPanic.normal ?_) _
            obtain rfl := HF.out (fun h => hls (by have h2 := (h k (by omega)).2.1 hk0; rw [← HK.out, ← HP.out] at h2; exact h2))
            go_wp2_with fail
            go_ret
            exact ⟨rfl, below_step hbl (Nat.le_refl _) HB.out⟩

        · have b2 : ¬ ((0 : Int) < (k : Int)) := by omega
          have hS0 : wr.cell? ⟨b, off + k * 6, none⟩ = some (.int .i64 m1) ∧ wr.cell? ⟨b, off + k * 6 + 1, none⟩ = some (.int .i64 m2) ∧ wr.cell? ⟨b, off + k * 6 + 4, none⟩ = some (.string m5) ∧ wr.cell? ⟨b, off + k * 6 + 5, none⟩ = some (.string m6) := ⟨x0, x1, x4, x5⟩
          have HS : Hid (∀ W, Below wr.heap.size wr W → W.cell? ⟨b, off + k * 6, none⟩ = some (.int .i64 m1) ∧ W.cell? ⟨b, off + k * 6 + 1, none⟩ = some (.int .i64 m2) ∧ W.cell? ⟨b, off + k * 6 + 4, none⟩ = some (.string m5) ∧ W.cell? ⟨b, off + k * 6 + 5, none⟩ = some (.string m6)) := fun W hW => ⟨by rw [hW.cell (World.block_lt_of_cell? wr _ x0)]; exact x0, by rw [hW.cell (World.block_lt_of_cell? wr _ x1)]; exact x1, by rw [hW.cell (World.block_lt_of_cell? wr _ x4)]; exact x4, by rw [hW.cell (World.block_lt_of_cell? wr _ x5)]; exact x5⟩
          clear hIr x0 x1 x4 x5
          go_wp2_with fail
          refine wp_region_noPanic ?_
          refine wp_region_held_drew (S := fun W => W.cell? ⟨b, off + k * 6, none⟩ = some (.int .i64 m1) ∧ W.cell? ⟨b, off + k * 6 + 1, none⟩ = some (.int .i64 m2) ∧ W.cell? ⟨b, off + k * 6 + 4, none⟩ = some (.string m5) ∧ W.cell? ⟨b, off + k * 6 + 5, none⟩ = some (.string m6)) (by kernel_rfl) (by first | exact trivial | assumption | exact ⟨by assumption, by assumption⟩) (fun hHeld => ?_)
          refine tk 0 (v := ?_) rfl rfl ?_ ?_
          rotate_left
          · intro w hSw; (try dsimp only at hSw); go_simp; try with_reducible rfl
          try simp only [Act.put, za, zb, zc]
          refine tk 1 (v := ?_) rfl rfl ?_ ?_
          rotate_left
          · intro w hSw; (try dsimp only at hSw); go_simp; try with_reducible rfl
          try simp only [Act.put, za, zb, zc]
          refine tk 2 (v := ?_) rfl rfl ?_ ?_
          rotate_left
          · intro w hSw; (try dsimp only at hSw); go_simp; try with_reducible rfl
          try simp only [Act.put, za, zb, zc]
          refine tk 3 (v := ?_) rfl rfl ?_ ?_
          rotate_left
          · intro w hSw; (try dsimp only at hSw); go_simp; try with_reducible rfl
          try simp only [Act.put, za, zb, zc]
          refine tk 4 (v := ?_) rfl rfl ?_ ?_
          rotate_left
          · intro w hSw; (try dsimp only at hSw); go_simp; try with_reducible rfl
          try simp only [Act.put, za, zb, zc]
          refine wpAnyH_ready (rs := [5]) (by kernel_rfl) (by simp) ?_
          refine AllReadyH.cons rfl (fun K hK => ?_) AllReadyH.nil
          go_simp
          refine (CM.out _).mono ?_
          rintro e w3 ⟨rfl, hb3⟩
          have HB1 : Hid (Below wr.heap.size wr w3) := below_step HB.out (Nat.le_refl _) hb3
          clear hb3 HB
          have HB := HB1
          clear HB1
          refine hK.out _ _ (HS.out _ HB.out) (fun hHeld => ?_)
          clear hK K
          refine tk 6 (v := ?_) rfl rfl ?_ ?_
          rotate_left
          · intro w hSw; (try dsimp only at hSw); go_simp; try with_reducible rfl
          try simp only [Act.put, za, zb, zc]
          refine tk 7 (v := ?_) rfl rfl ?_ ?_
          rotate_left
          · intro w hSw; (try dsimp only at hSw); go_simp; try with_reducible rfl
          try simp only [Act.put, za, zb, zc]
          refine tk 8 (v := ?_) rfl rfl ?_ ?_
          rotate_left
          · intro w hSw; (try dsimp only at hSw); go_simp; try with_reducible rfl
          try simp only [Act.put, za, zb, zc]
          refine tk 9 (v := ?_) rfl rfl ?_ ?_
          rotate_left
          · intro w hSw; (try dsimp only at hSw); go_simp; try with_reducible rfl
          try simp only [Act.put, za, zb, zc]
          refine tk 10 (v := ?_) rfl rfl ?_ ?_
          rotate_left
          · intro w hSw; (try dsimp only at hSw); go_simp; try with_reducible rfl
          try simp only [Act.put, za, zb, zc]
          refine tn 11 rfl rfl ?_
          try simp only [Act.put, za, zb, zc]
          refine tn 12 rfl rfl ?_
          try simp only [Act.put, za, zb, zc]
          refine tn 13 rfl rfl ?_
          try simp only [Act.put, za, zb, zc]
          refine tn 14 rfl rfl ?_
          try simp only [Act.put, za, zb, zc]
          refine tn 15 rfl rfl ?_
          try simp only [Act.put, za, zb, zc]
          refine tn 16 rfl rfl ?_
          try simp only [Act.put, za, zb, zc]
          refine tn 17 rfl rfl ?_
          try simp only [Act.put, za, zb, zc]
          refine tn 18 rfl rfl ?_
          try simp only [Act.put, za, zb, zc]
          refine tn 19 rfl rfl ?_
          try simp only [Act.put, za, zb, zc]
          refine tn 20 rfl rfl ?_
          try simp only [Act.put, za, zb, zc]
          refine tn 21 rfl rfl ?_
          try simp only [Act.put, za, zb, zc]
          refine tn 22 rfl rfl ?_
          try simp only [Act.put, za, zb, zc]
          refine tn 23 rfl rfl ?_
          try simp only [Act.put, za, zb, zc]
          refine tk 24 (v := ?_) rfl rfl ?_ ?_
          rotate_left
          · intro w hSw; (try dsimp only at hSw); go_simp; try with_reducible rfl
          try simp only [Act.put, za, zb, zc]
          refine tk 25 (v := ?_) rfl rfl ?_ ?_
          rotate_left
          · intro w hSw; (try dsimp only at hSw); go_simp; try with_reducible rfl
          try simp only [Act.put, za, zb, zc]
          refine tk 26 (v := ?_) rfl rfl ?_ ?_
          rotate_left
          · intro w hSw; (try dsimp only at hSw); go_simp; try with_reducible rfl
          try simp only [Act.put, za, zb, zc]
          refine tk 27 (v := ?_) rfl rfl ?_ ?_
          rotate_left
          · intro w hSw; (try dsimp only at hSw); go_simp; try with_reducible rfl
          try simp only [Act.put, za, zb, zc]
          refine tk 28 (v := ?_) rfl rfl ?_ ?_
          rotate_left
          · intro w hSw; (try dsimp only at hSw); go_simp; try with_reducible rfl
          try simp only [Act.put, za, zb, zc]
          refine tk 29 (v := ?_) rfl rfl ?_ ?_
          rotate_left
          · intro w hSw; (try dsimp only at hSw); go_simp; try with_reducible rfl
          try simp only [Act.put, za, zb, zc]
          refine tk 30 (v := ?_) rfl rfl ?_ ?_
          rotate_left
          · intro w hSw; (try dsimp only at hSw); go_simp; try with_reducible rfl
          try simp only [Act.put, za, zb, zc]
          refine tk 31 (v := ?_) rfl rfl ?_ ?_
          rotate_left
          · intro w hSw; (try dsimp only at hSw); go_simp; try with_reducible rfl
          try simp only [Act.put, za, zb, zc]
          refine wpAnyH_ready (rs := [32]) (by kernel_rfl) (by simp) ?_
          refine AllReadyH.cons rfl (fun K hK => ?_) AllReadyH.nil
          go_simp
          refine (CN.out _).mono ?_
          rintro e w3 ⟨rfl, hb3⟩
          have HB1 : Hid (Below wr.heap.size wr w3) := below_step HB.out (Nat.le_refl _) hb3
          clear hb3 HB
          have HB := HB1
          clear HB1
          refine hK.out _ _ (HS.out _ HB.out) (fun hHeld => ?_)
          clear hK K
          by_cases hnm : NameP m5
          · obtain rfl : X = 0 := HXy.out hnm
            by_cases hv : m6.size ≤ 64
            · have hv1 : ¬ ((64 : Int) < (m6.size : Int)) := by omega
              refine tk 33 (v := ?_) rfl rfl ?_ ?_
              rotate_left
              · intro w hSw; (try dsimp only at hSw); go_simp; try with_reducible rfl
              try simp only [Act.put, za, zb, zc]
              refine tk 34 (v := ?_) rfl rfl ?_ ?_
              rotate_left
              · intro w hSw; (try dsimp only at hSw); go_simp; try with_reducible rfl
              try simp only [Act.put, za, zb, zc]
              refine tk 35 (v := ?_) rfl rfl ?_ ?_
              rotate_left
              · intro w hSw; (try dsimp only at hSw); go_simp; try with_reducible rfl
              try simp only [Act.put, za, zb, zc]
              refine tk 36 (v := ?_) rfl rfl ?_ ?_
              rotate_left
              · intro w hSw; (try dsimp only at hSw); go_simp; try with_reducible rfl
              try simp only [Act.put, za, zb, zc]
              refine tk 37 (v := ?_) rfl rfl ?_ ?_
              rotate_left
              · intro w hSw; (try dsimp only at hSw); go_simp; try with_reducible rfl
              try simp only [Act.put, za, zb, zc]
              refine tk 38 (v := ?_) rfl rfl ?_ ?_
              rotate_left
              · intro w hSw; (try dsimp only at hSw); go_simp; try with_reducible rfl
              try simp only [Act.put, za, zb, zc]
              refine tk 39 (v := ?_) rfl rfl ?_ ?_
              rotate_left
              · intro w hSw; (try dsimp only at hSw); go_simp; try with_reducible rfl
              try simp only [Act.put, za, zb, zc]
              refine tk 40 (v := ?_) rfl rfl ?_ ?_
              rotate_left
              · intro w hSw; (try dsimp only at hSw); go_simp; try with_reducible rfl
              try simp only [Act.put, za, zb, zc]
              refine tk 41 (v := ?_) rfl rfl ?_ ?_
              rotate_left
              · intro w hSw; (try dsimp only at hSw); go_simp; try with_reducible rfl
              try simp only [Act.put, za, zb, zc]
              refine tk 42 (v := ?_) rfl rfl ?_ ?_
              rotate_left
              · intro w hSw; (try dsimp only at hSw); go_simp; try with_reducible rfl
              try simp only [Act.put, za, zb, zc]
              refine tk 43 (v := ?_) rfl rfl ?_ ?_
              rotate_left
              · intro w hSw; (try dsimp only at hSw); go_simp; try with_reducible rfl
              try simp only [Act.put, za, zb, zc]
              refine wpAnyH_done (by kernel_rfl) (NoPanic.normal ?_) _
              have HA' : Hid (∀ j, j < k + 1 → VH l j) := fun j hj => by
                by_cases e : j = k
                · rw [e]; exact ⟨by rw [← HK.out]; exact hS.out, fun h => absurd h hk0, by rw [← HK.out]; exact hnm, by rw [← HK.out]; exact hv⟩
                · exact HA.out j (by omega)
              have hbl' := below_step hbl (Nat.le_refl _) HB.out
              go_wp2_with fail
              refine ⟨⟨k + 1, by omega, by go_num, HA', hbl'⟩, ?_⟩
              simp [intOf]; omega

            · have hv1 : (64 : Int) < (m6.size : Int) := by omega
              refine tk 33 (v := ?_) rfl rfl ?_ ?_
              rotate_left
              · intro w hSw; (try dsimp only at hSw); go_simp; try with_reducible rfl
              try simp only [Act.put, za, zb, zc]
              refine tk 34 (v := ?_) rfl rfl ?_ ?_
              rotate_left
              · intro w hSw; (try dsimp only at hSw); go_simp; try with_reducible rfl
              try simp only [Act.put, za, zb, zc]
              refine tk 35 (v := ?_) rfl rfl ?_ ?_
              rotate_left
              · intro w hSw; (try dsimp only at hSw); go_simp; try with_reducible rfl
              try simp only [Act.put, za, zb, zc]
              refine tk 36 (v := ?_) rfl rfl ?_ ?_
              rotate_left
              · intro w hSw; (try dsimp only at hSw); go_simp; try with_reducible rfl
              try simp only [Act.put, za, zb, zc]
              refine tk 37 (v := ?_) rfl rfl ?_ ?_
              rotate_left
              · intro w hSw; (try dsimp only at hSw); go_simp; try with_reducible rfl
              try simp only [Act.put, za, zb, zc]
              refine tk 38 (v := ?_) rfl rfl ?_ ?_
              rotate_left
              · intro w hSw; (try dsimp only at hSw); go_simp; try with_reducible rfl
              try simp only [Act.put, za, zb, zc]
              refine tk 39 (v := ?_) rfl rfl ?_ ?_
              rotate_left
              · intro w hSw; (try dsimp only at hSw); go_simp; try with_reducible rfl
              try simp only [Act.put, za, zb, zc]
              refine tk 40 (v := ?_) rfl rfl ?_ ?_
              rotate_left
              · intro w hSw; (try dsimp only at hSw); go_simp; try with_reducible rfl
              try simp only [Act.put, za, zb, zc]
              refine tk 41 (v := ?_) rfl rfl ?_ ?_
              rotate_left
              · intro w hSw; (try dsimp only at hSw); go_simp; try with_reducible rfl
              try simp only [Act.put, za, zb, zc]
              refine tk 42 (v := ?_) rfl rfl ?_ ?_
              rotate_left
              · intro w hSw; (try dsimp only at hSw); go_simp; try with_reducible rfl
              try simp only [Act.put, za, zb, zc]
              refine tk 43 (v := ?_) rfl rfl ?_ ?_
              rotate_left
              · intro w hSw; (try dsimp only at hSw); go_simp; try with_reducible rfl
              try simp only [Act.put, za, zb, zc]
              refine wpAnyH_done (by kernel_rfl) (NoPanic.normal ?_) _
              obtain rfl := HF.out (fun h => hv (by have h2 := (h k (by omega)).2.2.2; rw [← HK.out] at h2; exact h2))
              go_wp2_with fail
              go_ret
              exact ⟨rfl, below_step hbl (Nat.le_refl _) HB.out⟩

          · obtain rfl : X = 80 := HXn.out hnm
            refine tk 33 (v := ?_) rfl rfl ?_ ?_
            rotate_left
            · intro w hSw; (try dsimp only at hSw); go_simp; try with_reducible rfl
            try simp only [Act.put, za, zb, zc]
            refine tk 34 (v := ?_) rfl rfl ?_ ?_
            rotate_left
            · intro w hSw; (try dsimp only at hSw); go_simp; try with_reducible rfl
            try simp only [Act.put, za, zb, zc]
            refine tk 35 (v := ?_) rfl rfl ?_ ?_
            rotate_left
            · intro w hSw; (try dsimp only at hSw); go_simp; try with_reducible rfl
            try simp only [Act.put, za, zb, zc]
            refine tn 36 rfl rfl ?_
            try simp only [Act.put, za, zb, zc]
            refine tn 37 rfl rfl ?_
            try simp only [Act.put, za, zb, zc]
            refine tn 38 rfl rfl ?_
            try simp only [Act.put, za, zb, zc]
            refine tn 39 rfl rfl ?_
            try simp only [Act.put, za, zb, zc]
            refine tn 40 rfl rfl ?_
            try simp only [Act.put, za, zb, zc]
            refine tn 41 rfl rfl ?_
            try simp only [Act.put, za, zb, zc]
            refine tn 42 rfl rfl ?_
            try simp only [Act.put, za, zb, zc]
            refine tk 43 (v := ?_) rfl rfl ?_ ?_
            rotate_left
            · intro w hSw; (try dsimp only at hSw); go_simp; try with_reducible rfl
            try simp only [Act.put, za, zb, zc]
            refine wpAnyH_done (by kernel_rfl) (NoPanic.normal ?_) _
            obtain rfl := HF.out (fun h => hnm (by have h2 := (h k (by omega)).2.2.1; rw [← HK.out] at h2; exact h2))
            go_wp2_with fail
            go_ret
            exact ⟨rfl, below_step hbl (Nat.le_refl _) HB.out⟩


      · have CM' : ∀ W, _ := fun W => rmayS_any (m1, m2) W
        rw [decide_eq_false hms] at CM'
        have CM : Hid (∀ W, Calls Tryz.prog 50 #[.agg #[.int .i64 m1, .int .i64 m2]] W fun e w' => e = .returned (.bool false) ∧ Below W.heap.size W w') := CM'
        have hS0 : wr.cell? ⟨b, off + k * 6, none⟩ = some (.int .i64 m1) ∧ wr.cell? ⟨b, off + k * 6 + 1, none⟩ = some (.int .i64 m2) ∧ wr.cell? ⟨b, off + k * 6 + 4, none⟩ = some (.string m5) ∧ wr.cell? ⟨b, off + k * 6 + 5, none⟩ = some (.string m6) := ⟨x0, x1, x4, x5⟩
        have HS : Hid (∀ W, Below wr.heap.size wr W → W.cell? ⟨b, off + k * 6, none⟩ = some (.int .i64 m1) ∧ W.cell? ⟨b, off + k * 6 + 1, none⟩ = some (.int .i64 m2) ∧ W.cell? ⟨b, off + k * 6 + 4, none⟩ = some (.string m5) ∧ W.cell? ⟨b, off + k * 6 + 5, none⟩ = some (.string m6)) := fun W hW => ⟨by rw [hW.cell (World.block_lt_of_cell? wr _ x0)]; exact x0, by rw [hW.cell (World.block_lt_of_cell? wr _ x1)]; exact x1, by rw [hW.cell (World.block_lt_of_cell? wr _ x4)]; exact x4, by rw [hW.cell (World.block_lt_of_cell? wr _ x5)]; exact x5⟩
        clear CM' hIr x0 x1 x4 x5
        go_wp2_with fail
        refine wp_region_noPanic ?_
        refine wp_region_held_drew (S := fun W => W.cell? ⟨b, off + k * 6, none⟩ = some (.int .i64 m1) ∧ W.cell? ⟨b, off + k * 6 + 1, none⟩ = some (.int .i64 m2) ∧ W.cell? ⟨b, off + k * 6 + 4, none⟩ = some (.string m5) ∧ W.cell? ⟨b, off + k * 6 + 5, none⟩ = some (.string m6)) (by kernel_rfl) (by first | exact trivial | assumption | exact ⟨by assumption, by assumption⟩) (fun hHeld => ?_)
        refine tk 0 (v := ?_) rfl rfl ?_ ?_
        rotate_left
        · intro w hSw; (try dsimp only at hSw); go_simp; try with_reducible rfl
        try simp only [Act.put, za, zb, zc]
        refine tk 1 (v := ?_) rfl rfl ?_ ?_
        rotate_left
        · intro w hSw; (try dsimp only at hSw); go_simp; try with_reducible rfl
        try simp only [Act.put, za, zb, zc]
        refine tk 2 (v := ?_) rfl rfl ?_ ?_
        rotate_left
        · intro w hSw; (try dsimp only at hSw); go_simp; try with_reducible rfl
        try simp only [Act.put, za, zb, zc]
        refine tk 3 (v := ?_) rfl rfl ?_ ?_
        rotate_left
        · intro w hSw; (try dsimp only at hSw); go_simp; try with_reducible rfl
        try simp only [Act.put, za, zb, zc]
        refine tk 4 (v := ?_) rfl rfl ?_ ?_
        rotate_left
        · intro w hSw; (try dsimp only at hSw); go_simp; try with_reducible rfl
        try simp only [Act.put, za, zb, zc]
        refine wpAnyH_ready (rs := [5]) (by kernel_rfl) (by simp) ?_
        refine AllReadyH.cons rfl (fun K hK => ?_) AllReadyH.nil
        go_simp
        refine (CM.out _).mono ?_
        rintro e w3 ⟨rfl, hb3⟩
        have HB1 : Hid (Below wr.heap.size wr w3) := below_step HB.out (Nat.le_refl _) hb3
        clear hb3 HB
        have HB := HB1
        clear HB1
        refine hK.out _ _ (HS.out _ HB.out) (fun hHeld => ?_)
        clear hK K
        refine tk 6 (v := ?_) rfl rfl ?_ ?_
        rotate_left
        · intro w hSw; (try dsimp only at hSw); go_simp; try with_reducible rfl
        try simp only [Act.put, za, zb, zc]
        refine tk 7 (v := ?_) rfl rfl ?_ ?_
        rotate_left
        · intro w hSw; (try dsimp only at hSw); go_simp; try with_reducible rfl
        try simp only [Act.put, za, zb, zc]
        refine tn 8 rfl rfl ?_
        try simp only [Act.put, za, zb, zc]
        refine tn 9 rfl rfl ?_
        try simp only [Act.put, za, zb, zc]
        refine tn 10 rfl rfl ?_
        try simp only [Act.put, za, zb, zc]
        refine tn 11 rfl rfl ?_
        try simp only [Act.put, za, zb, zc]
        refine tn 12 rfl rfl ?_
        try simp only [Act.put, za, zb, zc]
        refine tn 13 rfl rfl ?_
        try simp only [Act.put, za, zb, zc]
        refine tn 14 rfl rfl ?_
        try simp only [Act.put, za, zb, zc]
        refine tn 15 rfl rfl ?_
        try simp only [Act.put, za, zb, zc]
        refine tn 16 rfl rfl ?_
        try simp only [Act.put, za, zb, zc]
        refine tn 17 rfl rfl ?_
        try simp only [Act.put, za, zb, zc]
        refine tn 18 rfl rfl ?_
        try simp only [Act.put, za, zb, zc]
        refine tn 19 rfl rfl ?_
        try simp only [Act.put, za, zb, zc]
        refine tn 20 rfl rfl ?_
        try simp only [Act.put, za, zb, zc]
        refine tn 21 rfl rfl ?_
        try simp only [Act.put, za, zb, zc]
        refine tn 22 rfl rfl ?_
        try simp only [Act.put, za, zb, zc]
        refine tn 23 rfl rfl ?_
        try simp only [Act.put, za, zb, zc]
        refine tn 24 rfl rfl ?_
        try simp only [Act.put, za, zb, zc]
        refine tk 25 (v := ?_) rfl rfl ?_ ?_
        rotate_left
        · intro w hSw; (try dsimp only at hSw); go_simp; try with_reducible rfl
        try simp only [Act.put, za, zb, zc]
        refine tk 26 (v := ?_) rfl rfl ?_ ?_
        rotate_left
        · intro w hSw; (try dsimp only at hSw); go_simp; try with_reducible rfl
        try simp only [Act.put, za, zb, zc]
        refine tn 27 rfl rfl ?_
        try simp only [Act.put, za, zb, zc]
        refine tn 28 rfl rfl ?_
        try simp only [Act.put, za, zb, zc]
        refine tn 29 rfl rfl ?_
        try simp only [Act.put, za, zb, zc]
        refine tn 30 rfl rfl ?_
        try simp only [Act.put, za, zb, zc]
        refine tn 31 rfl rfl ?_
        try simp only [Act.put, za, zb, zc]
        refine tn 32 rfl rfl ?_
        try simp only [Act.put, za, zb, zc]
        refine tn 33 rfl rfl ?_
        try simp only [Act.put, za, zb, zc]
        refine tk 34 (v := ?_) rfl rfl ?_ ?_
        rotate_left
        · intro w hSw; (try dsimp only at hSw); go_simp; try with_reducible rfl
        try simp only [Act.put, za, zb, zc]
        refine tk 35 (v := ?_) rfl rfl ?_ ?_
        rotate_left
        · intro w hSw; (try dsimp only at hSw); go_simp; try with_reducible rfl
        try simp only [Act.put, za, zb, zc]
        refine tn 36 rfl rfl ?_
        try simp only [Act.put, za, zb, zc]
        refine tn 37 rfl rfl ?_
        try simp only [Act.put, za, zb, zc]
        refine tn 38 rfl rfl ?_
        try simp only [Act.put, za, zb, zc]
        refine tn 39 rfl rfl ?_
        try simp only [Act.put, za, zb, zc]
        refine tn 40 rfl rfl ?_
        try simp only [Act.put, za, zb, zc]
        refine tn 41 rfl rfl ?_
        try simp only [Act.put, za, zb, zc]
        refine tn 42 rfl rfl ?_
        try simp only [Act.put, za, zb, zc]
        refine tk 43 (v := ?_) rfl rfl ?_ ?_
        rotate_left
        · intro w hSw; (try dsimp only at hSw); go_simp; try with_reducible rfl
        try simp only [Act.put, za, zb, zc]
        refine wpAnyH_done (by kernel_rfl) (NoPanic.normal ?_) _
        obtain rfl := HF.out (fun h => hms (by have h2 := (h k (by omega)).1; rw [← HK.out] at h2; exact h2))
        go_wp2_with fail
        go_ret
        exact ⟨rfl, below_step hbl (Nat.le_refl _) HB.out⟩

    · obtain rfl : k = n := by omega
      have b1 : ¬ ((k : Int) < (k : Int)) := by omega
      go_wp2_with fail
      have HF2 : Hid (¬ (∀ j, j < k → TopOk (topF l (k + 1) (nL l j).1)) → D = false) := fun h => by
        cases D with
        | false => rfl
        | true => exact absurd (by have h2 := (HD.out.1 rfl).2.2; rw [HL.out] at h2; exact h2) h
      clear HF
      go_loopw [4] (fun i wr => ∃ q : Nat, q ≤ k ∧ i = .int .i64 q ∧ Hid (∀ j, j < q → TopOk (topF l (k + 1) (nL l j).1)) ∧ Below w.heap.size w wr) (fun i _ => k - (intOf i).toNat)
      case atStart => exact ⟨0, Nat.zero_le _, rfl, fun j hj => absurd hj (Nat.not_lt_zero _), hbl⟩
      case round =>
        clear hbl b1
        obtain ⟨q, hq, rfl, HT, hbl⟩ := hrel
        by_cases hlt : q < k
        · have b1 : (q : Int) < (k : Int) := by omega
          obtain ⟨b, off, rfl, _⟩ := HI.out.2.some (by omega)
          have hIr := HI.out.below hbl
          obtain ⟨x0, x1, _⟩ := hIr.cells q hlt
          have CT' : ∀ W, Below w.heap.size w W → _ := fun W hW => rtop_any l (nL l q).1 (some ⟨b, off, none⟩) k c W (by omega) (HI.out.below hW)
          obtain ⟨⟨t1, t2⟩, ht⟩ : ∃ t, t = topF l (k + 1) (nL l q).1 := ⟨_, rfl⟩
          rw [← ht] at CT'
          obtain ⟨⟨m1, m2⟩, hmm⟩ : ∃ s, s = (nL l q).1 := ⟨_, rfl⟩
          rw [← hmm] at x0 x1 CT'
          simp only [stampV] at CT' x0 x1
          have CT : Hid (∀ W, Below w.heap.size w W → _) := CT'
          have HTq : Hid ((t1, t2) = topF l (k + 1) (nL l q).1) := ht
          clear CT' hIr ht hmm
          go_wp2_with fail
          refine (CT.out wr hbl).mono ?_
          rintro e w1 ⟨rfl, hb1⟩
          have hb2 : Below w1.heap.size w1 ((w1.alloc (.cells #[.int .i64 0, .int .i64 0] 36)).setRow w1.heap.size #[.int .i64 t1, .int .i64 t2]) := below_setRow (below_new _ _) (Nat.le_refl _) _
          have X1 : Blk (w1.alloc (.cells #[.int .i64 0, .int .i64 0] 36)) 36 w1.heap.size #[.int .i64 0, .int .i64 0] := Blk.new _ _ _
          have HX : Hid (Blk ((w1.alloc (.cells #[.int .i64 0, .int .i64 0] 36)).setRow w1.heap.size #[.int .i64 t1, .int .i64 t2]) 36 w1.heap.size #[.int .i64 t1, .int .i64 t2]) := X1.setRow _
          have HB : Hid (Below w.heap.size w ((w1.alloc (.cells #[.int .i64 0, .int .i64 0] 36)).setRow w1.heap.size #[.int .i64 t1, .int .i64 t2])) := below_step (below_step hbl (Nat.le_refl _) hb1) (Nat.le_refl _) hb2
          obtain ⟨w2, hw2⟩ : ∃ w2, ((w1.alloc (.cells #[.int .i64 0, .int .i64 0] 36)).setRow w1.heap.size #[.int .i64 t1, .int .i64 t2]) = w2 := ⟨_, rfl⟩
          rw [hw2] at HX HB
          have z0 : w2.cell? ⟨w1.heap.size, 0, none⟩ = some (.int .i64 t1) := HX.out.cell 0
          have z1 : w2.cell? ⟨w1.heap.size, 1, none⟩ = some (.int .i64 t2) := HX.out.cell 1
          clear hb1 hb2 hbl x0 x1 CT
          by_cases ht1 : t1 = 0
          · subst ht1
            by_cases ht2 : t2 = 0
            · subst ht2
              have HT' : Hid (∀ j, j < q + 1 → TopOk (topF l (k + 1) (nL l j).1)) := fun j hj => by
                by_cases e : j = q
                · rw [e, ← HTq.out]; exact ⟨rfl, .inl rfl⟩
                · exact HT.out j (by omega)
              go_wp2_with (with_reducible refine wpList_storeBlk rfl 36 _ _ rfl w1.heap.size #[.int .i64 0, .int .i64 0] #[.int .i64 0, .int .i64 0] (by with_unfolding_all rfl) (by with_unfolding_all rfl) X1 rfl (by kernel_rfl) (by kernel_rfl) ?_)
              try rw [hw2]
              refine ⟨⟨q + 1, by omega, by go_num, HT', HB.out⟩, ?_⟩
              simp [intOf]; omega
            · have e2 : (t2 == 0) = false := by rw [beq_eq_false_iff_ne]; exact ht2
              by_cases ht3 : t2 = 1
              · subst ht3
                have HT' : Hid (∀ j, j < q + 1 → TopOk (topF l (k + 1) (nL l j).1)) := fun j hj => by
                  by_cases e : j = q
                  · rw [e, ← HTq.out]; exact ⟨rfl, .inr rfl⟩
                  · exact HT.out j (by omega)
                go_wp2_with (with_reducible refine wpList_storeBlk rfl 36 _ _ rfl w1.heap.size #[.int .i64 0, .int .i64 0] #[.int .i64 0, .int .i64 1] (by with_unfolding_all rfl) (by with_unfolding_all rfl) X1 rfl (by kernel_rfl) (by kernel_rfl) ?_)
                try rw [hw2]
                refine ⟨⟨q + 1, by omega, by go_num, HT', HB.out⟩, ?_⟩
                simp [intOf]; omega
              · have e3 : (t2 == 1) = false := by rw [beq_eq_false_iff_ne]; exact ht3
                have e4 : (t2 != 0) = true := by rw [bne_iff_ne]; exact ht2
                have e5 : (t2 != 1) = true := by rw [bne_iff_ne]; exact ht3
                obtain rfl := HF2.out (fun h => by have h2 := h q hlt; rw [← HTq.out] at h2; rcases h2.2 with h3 | h3; exact ht2 h3; exact ht3 h3)
                go_wp2_with (with_reducible refine wpList_storeBlk rfl 36 _ _ rfl w1.heap.size #[.int .i64 0, .int .i64 0] #[.int .i64 0, .int .i64 t2] (by with_unfolding_all rfl) (by with_unfolding_all rfl) X1 rfl (by kernel_rfl) (by kernel_rfl) ?_)
                try rw [hw2]
                go_ret
                exact ⟨rfl, HB.out⟩
          · have e1 : (t1 == 0) = false := by rw [beq_eq_false_iff_ne]; exact ht1
            obtain rfl := HF2.out (fun h => by have h2 := h q hlt; rw [← HTq.out] at h2; exact ht1 h2.1)
            go_wp2_with (with_reducible refine wpList_storeBlk rfl 36 _ _ rfl w1.heap.size #[.int .i64 0, .int .i64 0] #[.int .i64 t1, .int .i64 t2] (by with_unfolding_all rfl) (by with_unfolding_all rfl) X1 rfl (by kernel_rfl) (by kernel_rfl) ?_)
            try rw [hw2]
            go_ret
            exact ⟨rfl, HB.out⟩
        · obtain rfl : q = k := by omega
          have b1 : ¬ ((q : Int) < (q : Int)) := by omega
          obtain rfl : D = true := HD.out.2 ⟨by rw [HL.out]; omega, by rw [HL.out]; exact HA.out, by rw [HL.out]; exact HT.out⟩
          go_wp2_with fail
          go_ret
          exact ⟨rfl, hbl⟩

set_option maxHeartbeats 1000000 in
theorem rcheckV_any (l : List NodeT) (a : Option Addr) (n c : Nat) (w : World) (D : Bool) (hD : D = true ↔ MayV l) (hn : n ≤ 60000) (hz : ∀ k, k < n → (nL l k).2.2.1.size ≤ 1048576 ∧ (nL l k).2.2.2.size ≤ maxLen) (hI : NodesAt w a n l) :
    Calls Tryz.prog 16 #[.slice a n c] w fun e w' => e = .returned (.int .i64 (if D = true then 0 else 1)) ∧ Below w.heap.size w w' := by
  have C : Hid (Calls _ _ _ _ _) := rmayV_any l a n c w D hD hn hz hI
  clear hD hz hI
  cases D with
  | true =>
    rw [if_pos rfl]
    go_enter Tryz.func16, Tryz.ntmps16
    go_wp2_with fail
    refine C.out.mono ?_
    rintro e w1 ⟨rfl, hb1⟩
    go_wp2_with fail
    go_ret
    exact ⟨rfl, hb1⟩
  | false =>
    rw [if_neg (by simp)]
    go_enter Tryz.func16, Tryz.ntmps16
    go_wp2_with fail
    refine C.out.mono ?_
    rintro e w1 ⟨rfl, hb1⟩
    go_wp2_with fail
    go_ret
    exact ⟨rfl, hb1⟩
end Go.Proofs.YtebnmghjdoblaaaGreatDoor

/- The document's children (layer 12). -/
namespace Go.Proofs.YtebnmghjdoblaaaGreatDoor
open Go.RowKit
set_option linter.unusedSimpArgs false

set_option maxRecDepth 100000 in
set_option maxHeartbeats 16000000 in
theorem rchildren_any (l : List NodeT) (p : Int × Int) (d : Int) (a : Option Addr) (n c : Nat) (w : World) (hn : n ≤ 90) (hz : ∀ k, k < n → (nL l k).2.2.1.size ≤ 65536) (hI : NodesAt w a n l) :
    Calls Tryz.prog 32 #[.slice a n c, stampV p, .int .i64 d] w fun e w' => ∃ v, e = .returned v ∧ OwnL w' w.heap.size v (childP l p d) ∧ Below w.heap.size w w' := by
  obtain ⟨i0, hi, hz0, hz1, hz2⟩ := info_parts Tryz.infoNodeV
  obtain ⟨j0, hj, hj0, hj1, hj2⟩ := info_parts Tryz.infoS
  have HZ : Hid (∀ k, k < n → (nL l k).2.2.1.size ≤ 65536) := hz
  have HL : Hid (l.length = n) := hI.1
  have HI : Hid (NodesAt w a n l) := hI
  obtain ⟨R, hR⟩ : ∃ R, childP l p d = R := ⟨_, rfl⟩
  have HR : Hid (childP l p d = R) := hR
  rw [hR]
  obtain ⟨t, u⟩ := p
  show Calls Tryz.prog _ #[.slice a n c, .agg #[.int .i64 t, .int .i64 u], .int .i64 d] w _
  clear hI hz hR
  go_enter Tryz.func32, Tryz.ntmps32
  go_wp2_with fail
  generalize hq : World.alloc w _ = w0
  have HB0 : Hid (Below w.heap.size w w0) := by show Below _ _ _; rw [← hq]; exact below_new w _
  have HS0 : Hid (Blk w0 36 w.heap.size #[.int .i64 t, .int .i64 u]) := by show Blk _ _ _ _; rw [← hq]; exact Blk.new _ _ _
  clear hq
  go_loopw [7, 8, 9] (fun v7 v8 i wr => ∃ k : Nat, k ≤ n ∧ i = .int .i64 k ∧ Hid (wr.ownsRow w0.heap.size 9 1 v7 (kidsP l (t, u) k).length (((kidsP l (t, u) k).map (fun x => x.2.2.1)).map Value.string)) ∧ Hid (OwnN wr w0.heap.size v8 (kidsP l (t, u) k)) ∧ Hid (Below w0.heap.size w0 wr)) (fun _ _ i _ => n - (intOf i).toNat)
  case atStart => exact ⟨0, Nat.zero_le _, rfl, World.ownsRow_nil _ _ _ _, OwnN.nil _ _, Below.refl _ _⟩
  case round =>
    obtain ⟨k, hk, rfl, H7, H8, HB⟩ := hrel
    by_cases hlt : k < n
    · have b0 : (k : Int) < (n : Int) := by omega
      obtain ⟨b, off, rfl, _⟩ := HI.out.2.some (by omega)
      have hbw : Below w.heap.size w wr := HB0.out.trans (HB.out.mono HB0.out.size)
      obtain ⟨x0, x1, x2, x3, x4, x5⟩ := (HI.out.below hbw).cells k hlt
      have y0 : wr.cell? ⟨w.heap.size, 0, none⟩ = some (.int .i64 t) := (HS0.out.on HB.out).cell 0
      have y1 : wr.cell? ⟨w.heap.size, 1, none⟩ = some (.int .i64 u) := (HS0.out.on HB.out).cell 1
      have HKl := kidsP_len l (t, u) k
      have HN : Hid (kidsP l (t, u) (k + 1) = if (nL l k).2.1 = (t, u) then kidsP l (t, u) k ++ [nL l k] else kidsP l (t, u) k) := rfl
      have w9 : IntKind.i64.wrap ((k : Int) + 1) = ((k + 1 : Nat) : Int) := by rw [IntKind.wrap_i64]; omega
      by_cases he : (nL l k).2.1 = (t, u)
      · have hE := fun w => stampEq_is (nL l k).2.1 (t, u) true (decide_eq_true he) w
        rw [if_pos he] at HN
        obtain ⟨⟨⟨m1, m2⟩, ⟨m3, m4⟩, m5, m6⟩, hkk⟩ : ∃ s, s = nL l k := ⟨_, rfl⟩
        rw [← hkk] at x0 x1 x2 x3 x4 x5 hE HN
        simp only at x0 x1 x2 x3 x4 x5 hE
        clear he hkk
        obtain ⟨K, hK⟩ : ∃ K, kidsP l (t, u) k = K := ⟨_, rfl⟩
        rw [hK] at H7 H8 HKl HN
        clear hK hbw
        go_wp2_with fail
        go_quiet (fail)
        generalize hq1 : World.drewN wr _ = w1
        have HB1 : Hid (Below w0.heap.size w0 w1) := by show Below _ _ _; rw [← hq1]; exact below_drewN HB.out _
        have H71 : Hid (w1.ownsRow w0.heap.size 9 1 u7 K.length ((K.map (fun x => x.2.2.1)).map Value.string)) := by show World.ownsRow _ _ _ _ _ _ _; rw [← hq1]; exact H7.out
        have H81 : Hid (w1.ownsRow w0.heap.size 45 6 u8 K.length (cellsN K)) := by show World.ownsRow _ _ _ _ _ _ _; rw [← hq1]; exact H8.out
        have x0' : w1.cell? ⟨b, off + k * 6, none⟩ = some (.int .i64 m1) := by rw [← hq1]; exact x0
        have x1' : w1.cell? ⟨b, off + k * 6 + 1, none⟩ = some (.int .i64 m2) := by rw [← hq1]; exact x1
        have x2' : w1.cell? ⟨b, off + k * 6 + 2, none⟩ = some (.int .i64 m3) := by rw [← hq1]; exact x2
        have x3' : w1.cell? ⟨b, off + k * 6 + 3, none⟩ = some (.int .i64 m4) := by rw [← hq1]; exact x3
        have x4' : w1.cell? ⟨b, off + k * 6 + 4, none⟩ = some (.string m5) := by rw [← hq1]; exact x4
        have x5' : w1.cell? ⟨b, off + k * 6 + 5, none⟩ = some (.string m6) := by rw [← hq1]; exact x5
        have HX : Hid (∀ W, Below w0.heap.size w0 W → W.cell? ⟨b, off + k * 6 + 4, none⟩ = some (.string m5)) := fun W hW => by
          obtain ⟨_, _, _, _, z4, _⟩ := (HI.out.below (HB0.out.trans (hW.mono HB0.out.size))).cells k hlt
          obtain ⟨_, _, _, _, q4, _⟩ := (HI.out.below (HB0.out.trans (HB.out.mono HB0.out.size))).cells k hlt
          rw [z4, ← q4]; exact x4
        clear hq1 x0 x1 x2 x3 x4 x5 y0 y1 H7 H8 HB hE
        have hs1 := HB1.out.size
        go_wp2_with (at_builtin; refine wpList_appR2 rfl (.tmp 27) (.tmp 32) 22 rfl w0.heap.size 45 i0 _ 6 64 Tryz.underlying22 hi hz0 hz1 hz2 rfl (by decide) w1 u8 _ _ rfl H81.out #[.int .i64 m1, .int .i64 m2, .int .i64 m3, .int .i64 m4, .string m5, .string m6] rfl (nodeA_oneV ((m1, m2), (m3, m4), m5, m6)) rfl (by omega) (by unfold maxLen; omega) hs1 ?_)
        intro v8 w2 ho8 hg8
        have HB2 : Hid (Below w0.heap.size w0 w2) := HB1.out.trans (((Below.refl w0.heap.size w1).alloc hs1 _).grown hg8 (by simp; omega) (fun k hk => (World.ownsRow.lt H81.out k hk).1))
        have H72 : Hid (w2.ownsRow w0.heap.size 9 1 u7 K.length ((K.map (fun x => x.2.2.1)).map Value.string)) := owns_other (H71.out.alloc _) (H81.out.alloc _) (by decide) hg8
        have H82 : Hid (w2.ownsRow w0.heap.size 45 6 v8 (K.length + 1) (cellsN K ++ (nodeA ((m1, m2), (m3, m4), m5, m6)).toList)) := ho8
        have x4 := HX.out w2 HB2.out
        have hs2 := HB2.out.size
        clear ho8 hg8 H71 H81 HB1 x0' x1' x2' x3' x4' x5' HX hs1
        go_wp2_with (at_builtin; refine wpList_appR2 rfl (.tmp 34) (.tmp 40) 67 rfl w0.heap.size 9 j0 _ 1 16 Tryz.underlying67 hj hj0 hj1 hj2 rfl (by decide) w2 u7 _ _ rfl H72.out #[.string m5] rfl (by simp [Value.oneCell']) rfl (by omega) (by unfold maxLen; omega) hs2 ?_)
        intro v7 w3 ho7 hg7
        have HB3 : Hid (Below w0.heap.size w0 w3) := HB2.out.trans (((Below.refl w0.heap.size w2).alloc hs2 _).grown hg7 (by simp; omega) (fun k hk => (World.ownsRow.lt H72.out k hk).1))
        have H83 : Hid (OwnN w3 w0.heap.size v8 (kidsP l (t, u) (k + 1))) := by
          have h := owns_other (H82.out.alloc (.cells #[.string m5] 9)) (H72.out.alloc _) (by decide) hg7
          show World.ownsRow _ _ _ _ _ _ _
          rw [HN.out, List.length_append, cellsN_snoc]
          exact h
        have H73 : Hid (w3.ownsRow w0.heap.size 9 1 v7 (kidsP l (t, u) (k + 1)).length (((kidsP l (t, u) (k + 1)).map (fun x => x.2.2.1)).map Value.string)) := by
          show World.ownsRow _ _ _ _ _ _ _
          rw [HN.out, List.length_append, List.map_append, List.map_append, List.map_map]
          exact ho7
        clear ho7 hg7 H72 H82 HB2 x4 hs2
        go_wp2_with fail
        refine ⟨?_, ?_⟩
        · exact ⟨k + 1, by omega, (by first | rfl | go_num | trivial), H73, H83, HB3⟩
        · simp [intOf] <;> omega
      · have hE := fun w => stampEq_is (nL l k).2.1 (t, u) false (decide_eq_false he) w
        rw [if_neg he] at HN
        obtain ⟨⟨m3, m4⟩, hkk⟩ : ∃ s, s = (nL l k).2.1 := ⟨_, rfl⟩
        rw [← hkk] at x2 x3 hE
        simp only at x2 x3 hE
        have H7' : Hid (wr.ownsRow w0.heap.size 9 1 u7 (kidsP l (t, u) (k + 1)).length (((kidsP l (t, u) (k + 1)).map (fun x => x.2.2.1)).map Value.string)) := by show World.ownsRow _ _ _ _ _ _ _; rw [HN.out]; exact H7.out
        have H8' : Hid (OwnN wr w0.heap.size u8 (kidsP l (t, u) (k + 1))) := by show OwnN _ _ _ _; rw [HN.out]; exact H8.out
        clear he hkk hbw x0 x1 x4 x5 H7 H8 HN HKl
        go_wp2_with fail
        go_quiet (fail)
        go_wp2_with fail
        refine ⟨?_, ?_⟩
        · exact ⟨k + 1, by omega, (by first | rfl | go_num | trivial), H7', H8', below_drewN HB.out _⟩
        · simp [intOf] <;> omega
    · obtain rfl : k = n := by omega
      have b0 : ¬ ((k : Int) < (k : Int)) := by omega
      obtain ⟨K, hK⟩ : ∃ K, kidsP l (t, u) k = K := ⟨_, rfl⟩
      have hm := kidsP_len l (t, u) k
      have HMz : Hid (∀ i, i < (K.map (fun x => x.2.2.1)).length → (strL (K.map (fun x => x.2.2.1)) i).size ≤ 65536) := fun i hi => by
        have hmem : strL (K.map (fun x => x.2.2.1)) i ∈ K.map (fun x => x.2.2.1) := by
          unfold strL
          rw [List.getD_eq_getElem?_getD, List.getElem?_eq_getElem hi]
          exact List.getElem_mem hi
        obtain ⟨x, hx, e⟩ := List.mem_map.1 hmem
        rw [← hK] at hx
        obtain ⟨j, hj, e2⟩ := kidsP_mem l (t, u) k x hx
        rw [← e, e2]
        exact HZ.out j hj
      have HRR : Hid (childF K (distF (K.map (fun x => x.2.2.1)) K.length) d K.length = R) := by
        have h := HR.out
        unfold childP at h
        rw [HL.out, hK] at h
        exact h
      rw [hK] at H7 H8 hm
      clear hK HR
      obtain ⟨a7, c7, rfl, s7⟩ := OwnTx.strs (show OwnTx wr w0.heap.size u7 K.length (K.map (fun x => x.2.2.1)) from H7.out)
      obtain ⟨a8, c8, rfl, r8⟩ := OwnN.nodes H8.out
      have hlen : (K.map (fun x => x.2.2.1)).length = K.length := by rw [List.length_map]
      have CD : Hid (Calls _ _ _ _ _) := rdistinct_any (K.map (fun x => x.2.2.1)) a7 K.length c7 wr (by omega) (fun i hi => HMz.out i (by rw [hlen]; exact hi)) s7
      obtain ⟨ns, hns⟩ : ∃ ns, distF (K.map (fun x => x.2.2.1)) K.length = ns := ⟨_, rfl⟩
      rw [hns] at CD HRR
      obtain ⟨m, hmm⟩ : ∃ m, K.length = m := ⟨_, rfl⟩
      have HKm : Hid (K.length = m) := hmm
      rw [hmm] at CD HRR r8 hm ⊢
      clear hns hlen hmm H7 H8 HMz s7
      go_wp2_with fail
      refine CD.out.mono ?_
      rintro e w2 ⟨v9, rfl, o9, hb2⟩
      obtain ⟨a9, c9, rfl, s9⟩ := OwnTx.strs o9
      have HK2 : Hid (NodesAt w2 a8 m K) := r8.below hb2
      have HN2 : Hid (StrsAt w2 a9 m ns) := s9
      have HB2 : Hid (Below w.heap.size w w2) := below_step (HB0.out.trans (HB.out.mono HB0.out.size)) (Nat.le_refl _) hb2
      clear CD r8 o9 s9 hb2 HB HB0 HS0 HI HZ
      obtain ⟨i1, hl, hl0, hl1, hl2⟩ := info_parts Tryz.infoLine
      go_wp2_with fail
      go_loopw [10, 11] (fun v10 i wr => ∃ q : Nat, q ≤ m ∧ i = .int .i64 q ∧ Hid (OwnL wr w2.heap.size v10 (childF K ns d q)) ∧ Hid (Below w2.heap.size w2 wr)) (fun _ i _ => m - (intOf i).toNat)
      case atStart => exact ⟨0, Nat.zero_le _, rfl, OwnL.nil _ _, Below.refl _ _⟩
      case round =>
        obtain ⟨q, hq, rfl, HO, HB⟩ := hrel
        by_cases hqm : q < m
        · have c0 : (q : Int) < (m : Int) := by omega
          have w9 : IntKind.i64.wrap ((q : Int) + 1) = ((q + 1 : Nat) : Int) := by rw [IntKind.wrap_i64]; omega
          obtain ⟨wq, hwq⟩ : ∃ wq, wq = wr := ⟨_, rfl⟩
          subst hwq
          obtain ⟨b8, f8, rfl, _⟩ := HK2.out.2.some (by omega)
          obtain ⟨_, h9 | ⟨b9, f9, rfl, hc9⟩⟩ := HN2.out
          · omega
          have HC : Hid (∀ W, Below wq.heap.size wq W → W.cell? ⟨b9, f9 + q, none⟩ = some (.string (strL ns q)) ∧ W.cell? ⟨b8, f8 + q * 6, none⟩ = some (.int .i64 (nL K q).1.1) ∧ W.cell? ⟨b8, f8 + q * 6 + 1, none⟩ = some (.int .i64 (nL K q).1.2) ∧ W.cell? ⟨b8, f8 + q * 6 + 5, none⟩ = some (.string (nL K q).2.2.2)) := fun W hW => by
            have hW2 := below_step HB.out (Nat.le_refl _) hW
            obtain ⟨_, h9 | ⟨b9', f9', e9, hc⟩⟩ := HN2.out.below hW2
            · omega
            · cases e9
              obtain ⟨x0, x1, _, _, _, x5⟩ := (HK2.out.below hW2).cells q hqm
              exact ⟨hc q hqm, x0, x1, x5⟩
          have HO' : Hid (childF K ns d (q + 1) = insL (d, (nL K q).1, strL ns q, (nL K q).2.2.2) (childF K ns d q)) := rfl
          have hOl := childF_len K ns d q
          obtain ⟨O, hO⟩ : ∃ O, childF K ns d q = O := ⟨_, rfl⟩
          rw [hO] at HO HO' hOl
          obtain ⟨nm, hnm⟩ : ∃ nm, strL ns q = nm := ⟨_, rfl⟩
          rw [hnm] at HO'
          simp only [hnm] at HC
          obtain ⟨⟨⟨k1, k2⟩, kp, kn, kv⟩, hkk⟩ : ∃ x, x = nL K q := ⟨_, rfl⟩
          simp only [← hkk] at HC HO'
          have hPle := posL_le nm O
          obtain ⟨P, hP⟩ : ∃ P, posL nm O = P := ⟨_, rfl⟩
          have HP : Hid (posL nm O = P) := hP
          rw [hP, hOl] at hPle
          have HOl : Hid (O.length = q) := hOl
          clear hO hnm hkk hP hOl hc9
          obtain ⟨a10, c10, rfl, r10, sok⟩ := OwnL.lines2 HO.out
          rw [HOl.out] at r10 sok ⊢
          have HLo : Hid (LinesAt wq a10 q O) := r10
          have HSk : Hid ((a10 = none ∧ q = 0 ∧ c10 = 0) ∨ ∃ g, a10 = some ⟨g, 0, none⟩ ∧ q ≤ c10) := sok
          clear r10 sok HO
          go_upto_block 4 with fail
          go_cut [12] (fun kv wx => kv = .int .i64 P ∧ Hid (Below wq.heap.size wq wx))
          case first =>
            go_wp2_with fail
            go_loopw [12] (fun kv wr => ∃ j : Nat, j ≤ q ∧ kv = .int .i64 j ∧ Hid (∀ i, i < j → ltT (lL O i).2.2.1 nm = true) ∧ Hid (Below wq.heap.size wq wr)) (fun kv _ => q - (intOf kv).toNat)
            case atStart => exact ⟨0, Nat.zero_le _, rfl, fun i hi => absurd hi (Nat.not_lt_zero _), Below.refl _ _⟩
            case round =>
              obtain ⟨j, hj, rfl, HA, HW⟩ := hrel
              have wj : IntKind.i64.wrap ((j : Int) + 1) = ((j + 1 : Nat) : Int) := by rw [IntKind.wrap_i64]; omega
              obtain ⟨y9, _, _, _⟩ := HC.out wr HW.out
              have HWd : Hid (Below wq.heap.size wq wr.drew) := HW.out.drew
              by_cases hjq : j < q
              · obtain ⟨b10, f10, rfl, _⟩ := HLo.out.2.some (by omega)
                obtain ⟨_, _, _, x3, _⟩ := (HLo.out.below HW.out).cells j hjq
                have d0 : (j : Int) < (q : Int) := by omega
                have HA2 : Hid (ltT (lL O j).2.2.1 nm = true → ∀ i, i < j + 1 → ltT (lL O i).2.2.1 nm = true) := fun h i hi => by
                  by_cases e : i = j
                  · rw [e]; exact h
                  · exact HA.out i (by omega)
                have HA3 : Hid (ltT (lL O j).2.2.1 nm = false → P = j) := fun h => by rw [← HP.out]; exact posL_is nm O j (by rw [HOl.out]; exact hj) HA.out (.inr h)
                obtain ⟨nj, hnj⟩ : ∃ nj, (lL O j).2.2.1 = nj := ⟨_, rfl⟩
                rw [hnj] at x3 HA2 HA3
                have hS0 : wr.cell? ⟨b10, f10 + j * 5 + 3, none⟩ = some (.string nj) ∧ wr.cell? ⟨b9, f9 + q, none⟩ = some (.string nm) := ⟨x3, y9⟩
                clear hnj x3 y9 HA
                by_cases hl2 : ltT nj nm = true
                · have hlb : Op.bytesLess nj.toList nm.toList = true := hl2
                  go_wp2_with fail
                  refine wp_region_noPanic ?_
                  refine wp_region_held_drew (S := fun W => W.cell? ⟨b10, f10 + j * 5 + 3, none⟩ = some (.string nj) ∧ W.cell? ⟨b9, f9 + q, none⟩ = some (.string nm)) (by kernel_rfl) (by first | exact trivial | assumption | exact ⟨by assumption, by assumption⟩) (fun hHeld => ?_)
                  refine tk 0 (v := ?_) rfl rfl ?_ ?_
                  rotate_left
                  · intro w hSw; (try dsimp only at hSw); go_simp; try with_reducible rfl
                  try simp only [Act.put, za, zb, zc]
                  refine tk 1 (v := ?_) rfl rfl ?_ ?_
                  rotate_left
                  · intro w hSw; (try dsimp only at hSw); go_simp; try with_reducible rfl
                  try simp only [Act.put, za, zb, zc]
                  refine tk 2 (v := ?_) rfl rfl ?_ ?_
                  rotate_left
                  · intro w hSw; (try dsimp only at hSw); go_simp; try with_reducible rfl
                  try simp only [Act.put, za, zb, zc]
                  refine tk 3 (v := ?_) rfl rfl ?_ ?_
                  rotate_left
                  · intro w hSw; (try dsimp only at hSw); go_simp; try with_reducible rfl
                  try simp only [Act.put, za, zb, zc]
                  refine tk 4 (v := ?_) rfl rfl ?_ ?_
                  rotate_left
                  · intro w hSw; (try dsimp only at hSw); go_simp; try with_reducible rfl
                  try simp only [Act.put, za, zb, zc]
                  refine tk 5 (v := ?_) rfl rfl ?_ ?_
                  rotate_left
                  · intro w hSw; (try dsimp only at hSw); go_simp; try with_reducible rfl
                  try simp only [Act.put, za, zb, zc]
                  refine tk 6 (v := ?_) rfl rfl ?_ ?_
                  rotate_left
                  · intro w hSw; (try dsimp only at hSw); go_simp; try with_reducible rfl
                  try simp only [Act.put, za, zb, zc]
                  refine tk 7 (v := ?_) rfl rfl ?_ ?_
                  rotate_left
                  · intro w hSw; (try dsimp only at hSw); go_simp; try with_reducible rfl
                  try simp only [Act.put, za, zb, zc]
                  refine tk 8 (v := ?_) rfl rfl ?_ ?_
                  rotate_left
                  · intro w hSw; (try dsimp only at hSw); go_simp; try with_reducible rfl
                  try simp only [Act.put, za, zb, zc]
                  refine tk 9 (v := ?_) rfl rfl ?_ ?_
                  rotate_left
                  · intro w hSw; (try dsimp only at hSw); go_simp; try with_reducible rfl
                  try simp only [Act.put, za, zb, zc]
                  refine tk 10 (v := ?_) rfl rfl ?_ ?_
                  rotate_left
                  · intro w hSw; (try dsimp only at hSw); go_simp; try with_reducible rfl
                  try simp only [Act.put, za, zb, zc]
                  refine tk 11 (v := ?_) rfl rfl ?_ ?_
                  rotate_left
                  · intro w hSw; (try dsimp only at hSw); go_simp; try with_reducible rfl
                  try simp only [Act.put, za, zb, zc]
                  refine tk 12 (v := ?_) rfl rfl ?_ ?_
                  rotate_left
                  · intro w hSw; (try dsimp only at hSw); go_simp; try with_reducible rfl
                  try simp only [Act.put, za, zb, zc]
                  refine tk 13 (v := ?_) rfl rfl ?_ ?_
                  rotate_left
                  · intro w hSw; (try dsimp only at hSw); go_simp; try with_reducible rfl
                  try simp only [Act.put, za, zb, zc]
                  refine tk 14 (v := ?_) rfl rfl ?_ ?_
                  rotate_left
                  · intro w hSw; (try dsimp only at hSw); go_simp; try with_reducible rfl
                  try simp only [Act.put, za, zb, zc]
                  refine tk 15 (v := ?_) rfl rfl ?_ ?_
                  rotate_left
                  · intro w hSw; (try dsimp only at hSw); go_simp; try with_reducible rfl
                  try simp only [Act.put, za, zb, zc]
                  refine wpAnyH_done (by kernel_rfl) (NoPanic.normal ?_) _
                  go_wp2_with fail
                  refine ⟨?_, ?_⟩
                  · exact ⟨j + 1, by omega, (by first | rfl | go_num | trivial), HA2.out hl2, HWd⟩
                  · simp [intOf] <;> omega
                · have hl3 : ltT nj nm = false := by cases h : ltT nj nm with | false => rfl | true => exact absurd h hl2
                  have hlb : Op.bytesLess nj.toList nm.toList = false := hl3
                  obtain rfl : P = j := HA3.out hl3
                  go_wp2_with fail
                  refine wp_region_noPanic ?_
                  refine wp_region_held_drew (S := fun W => W.cell? ⟨b10, f10 + P * 5 + 3, none⟩ = some (.string nj) ∧ W.cell? ⟨b9, f9 + q, none⟩ = some (.string nm)) (by kernel_rfl) (by first | exact trivial | assumption | exact ⟨by assumption, by assumption⟩) (fun hHeld => ?_)
                  refine tk 0 (v := ?_) rfl rfl ?_ ?_
                  rotate_left
                  · intro w hSw; (try dsimp only at hSw); go_simp; try with_reducible rfl
                  try simp only [Act.put, za, zb, zc]
                  refine tk 1 (v := ?_) rfl rfl ?_ ?_
                  rotate_left
                  · intro w hSw; (try dsimp only at hSw); go_simp; try with_reducible rfl
                  try simp only [Act.put, za, zb, zc]
                  refine tk 2 (v := ?_) rfl rfl ?_ ?_
                  rotate_left
                  · intro w hSw; (try dsimp only at hSw); go_simp; try with_reducible rfl
                  try simp only [Act.put, za, zb, zc]
                  refine tk 3 (v := ?_) rfl rfl ?_ ?_
                  rotate_left
                  · intro w hSw; (try dsimp only at hSw); go_simp; try with_reducible rfl
                  try simp only [Act.put, za, zb, zc]
                  refine tk 4 (v := ?_) rfl rfl ?_ ?_
                  rotate_left
                  · intro w hSw; (try dsimp only at hSw); go_simp; try with_reducible rfl
                  try simp only [Act.put, za, zb, zc]
                  refine tk 5 (v := ?_) rfl rfl ?_ ?_
                  rotate_left
                  · intro w hSw; (try dsimp only at hSw); go_simp; try with_reducible rfl
                  try simp only [Act.put, za, zb, zc]
                  refine tk 6 (v := ?_) rfl rfl ?_ ?_
                  rotate_left
                  · intro w hSw; (try dsimp only at hSw); go_simp; try with_reducible rfl
                  try simp only [Act.put, za, zb, zc]
                  refine tk 7 (v := ?_) rfl rfl ?_ ?_
                  rotate_left
                  · intro w hSw; (try dsimp only at hSw); go_simp; try with_reducible rfl
                  try simp only [Act.put, za, zb, zc]
                  refine tk 8 (v := ?_) rfl rfl ?_ ?_
                  rotate_left
                  · intro w hSw; (try dsimp only at hSw); go_simp; try with_reducible rfl
                  try simp only [Act.put, za, zb, zc]
                  refine tk 9 (v := ?_) rfl rfl ?_ ?_
                  rotate_left
                  · intro w hSw; (try dsimp only at hSw); go_simp; try with_reducible rfl
                  try simp only [Act.put, za, zb, zc]
                  refine tk 10 (v := ?_) rfl rfl ?_ ?_
                  rotate_left
                  · intro w hSw; (try dsimp only at hSw); go_simp; try with_reducible rfl
                  try simp only [Act.put, za, zb, zc]
                  refine tk 11 (v := ?_) rfl rfl ?_ ?_
                  rotate_left
                  · intro w hSw; (try dsimp only at hSw); go_simp; try with_reducible rfl
                  try simp only [Act.put, za, zb, zc]
                  refine tk 12 (v := ?_) rfl rfl ?_ ?_
                  rotate_left
                  · intro w hSw; (try dsimp only at hSw); go_simp; try with_reducible rfl
                  try simp only [Act.put, za, zb, zc]
                  refine tk 13 (v := ?_) rfl rfl ?_ ?_
                  rotate_left
                  · intro w hSw; (try dsimp only at hSw); go_simp; try with_reducible rfl
                  try simp only [Act.put, za, zb, zc]
                  refine tk 14 (v := ?_) rfl rfl ?_ ?_
                  rotate_left
                  · intro w hSw; (try dsimp only at hSw); go_simp; try with_reducible rfl
                  try simp only [Act.put, za, zb, zc]
                  refine tk 15 (v := ?_) rfl rfl ?_ ?_
                  rotate_left
                  · intro w hSw; (try dsimp only at hSw); go_simp; try with_reducible rfl
                  try simp only [Act.put, za, zb, zc]
                  refine wpAnyH_done (by kernel_rfl) (NoPanic.normal ?_) _
                  go_wp2_with fail
                  go_meet
                  case rel => exact ⟨rfl, HWd⟩
              · have hjj : P = j := by rw [← HP.out]; exact posL_is nm O j (by rw [HOl.out]; exact hj) HA.out (.inl (by rw [HOl.out]; omega))
                subst hjj
                have d0 : ¬ ((P : Int) < (q : Int)) := by omega
                go_wp2_with fail
                refine wp_region_noPanic ?_
                refine wp_region_held_drew (S := fun _ => True) (by kernel_rfl) (by first | exact trivial | assumption | exact ⟨by assumption, by assumption⟩) (fun hHeld => ?_)
                refine tk 0 (v := ?_) rfl rfl ?_ ?_
                rotate_left
                · intro w hSw; (try dsimp only at hSw); go_simp; try with_reducible rfl
                try simp only [Act.put, za, zb, zc]
                refine tk 1 (v := ?_) rfl rfl ?_ ?_
                rotate_left
                · intro w hSw; (try dsimp only at hSw); go_simp; try with_reducible rfl
                try simp only [Act.put, za, zb, zc]
                refine tk 2 (v := ?_) rfl rfl ?_ ?_
                rotate_left
                · intro w hSw; (try dsimp only at hSw); go_simp; try with_reducible rfl
                try simp only [Act.put, za, zb, zc]
                refine tk 3 (v := ?_) rfl rfl ?_ ?_
                rotate_left
                · intro w hSw; (try dsimp only at hSw); go_simp; try with_reducible rfl
                try simp only [Act.put, za, zb, zc]
                refine tk 4 (v := ?_) rfl rfl ?_ ?_
                rotate_left
                · intro w hSw; (try dsimp only at hSw); go_simp; try with_reducible rfl
                try simp only [Act.put, za, zb, zc]
                refine tn 5 rfl rfl ?_
                try simp only [Act.put, za, zb, zc]
                refine tn 6 rfl rfl ?_
                try simp only [Act.put, za, zb, zc]
                refine tn 7 rfl rfl ?_
                try simp only [Act.put, za, zb, zc]
                refine tn 8 rfl rfl ?_
                try simp only [Act.put, za, zb, zc]
                refine tn 9 rfl rfl ?_
                try simp only [Act.put, za, zb, zc]
                refine tn 10 rfl rfl ?_
                try simp only [Act.put, za, zb, zc]
                refine tn 11 rfl rfl ?_
                try simp only [Act.put, za, zb, zc]
                refine tn 12 rfl rfl ?_
                try simp only [Act.put, za, zb, zc]
                refine tn 13 rfl rfl ?_
                try simp only [Act.put, za, zb, zc]
                refine tn 14 rfl rfl ?_
                try simp only [Act.put, za, zb, zc]
                refine tk 15 (v := ?_) rfl rfl ?_ ?_
                rotate_left
                · intro w hSw; (try dsimp only at hSw); go_simp; try with_reducible rfl
                try simp only [Act.put, za, zb, zc]
                refine wpAnyH_done (by kernel_rfl) (NoPanic.normal ?_) _
                go_wp2_with fail
                go_meet
                case rel => exact ⟨rfl, HWd⟩
          case rest =>
            obtain ⟨rfl, HW⟩ := hcut
            have HLc : Hid (LinesAt wc a10 q O) := HLo.out.below HW.out
            have d1 : (0 : Int) ≤ (P : Int) := by omega
            have d2 : (P : Int) ≤ (q : Int) := by omega
            rcases HSk.out with ⟨rfl, hq0, rfl⟩ | ⟨g, rfl, hcap⟩
            · obtain rfl : P = 0 := by omega
              subst hq0
              have e0 : ((0 : Nat) : Int) = 0 := rfl
              simp only [e0]
              go_wp2_with fail
              obtain rfl : O = [] := List.eq_nil_of_length_eq_zero HOl.out
              have H13 : Hid (wc.ownsRow wc.heap.size 43 5 (.slice none 0 0) 0 []) := World.ownsRow_nil _ _ _ _
              have HC0 : Hid (∀ W, Below wq.heap.size wq W → W.cell? ⟨b9, f9, none⟩ = some (.string nm) ∧ W.cell? ⟨b8, f8, none⟩ = some (.int .i64 k1) ∧ W.cell? ⟨b8, f8 + 1, none⟩ = some (.int .i64 k2) ∧ W.cell? ⟨b8, f8 + 5, none⟩ = some (.string kv)) := fun W hW => by
                have h := HC.out W hW
                simp only [Nat.zero_mul, Nat.add_zero] at h
                exact h
              have hS0 := HC0.out wc HW.out
              clear HC
              refine wp_region_noPanic ?_
              refine wp_region_held_drew (S := fun W => W.cell? ⟨b9, f9, none⟩ = some (.string nm) ∧ W.cell? ⟨b8, f8, none⟩ = some (.int .i64 k1) ∧ W.cell? ⟨b8, f8 + 1, none⟩ = some (.int .i64 k2) ∧ W.cell? ⟨b8, f8 + 5, none⟩ = some (.string kv)) (by kernel_rfl) (by first | exact trivial | assumption | exact ⟨by assumption, by assumption⟩) (fun hHeld => ?_)
              refine tk 0 (v := ?_) rfl rfl ?_ ?_
              rotate_left
              · intro w hSw; (try dsimp only at hSw); go_simp; try with_reducible rfl
              try simp only [Act.put, za, zb, zc]
              refine tk 1 (v := ?_) rfl rfl ?_ ?_
              rotate_left
              · intro w hSw; (try dsimp only at hSw); go_simp; try with_reducible rfl
              try simp only [Act.put, za, zb, zc]
              refine tk 2 (v := ?_) rfl rfl ?_ ?_
              rotate_left
              · intro w hSw; (try dsimp only at hSw); go_simp; try with_reducible rfl
              try simp only [Act.put, za, zb, zc]
              refine tk 3 (v := ?_) rfl rfl ?_ ?_
              rotate_left
              · intro w hSw; (try dsimp only at hSw); go_simp; try with_reducible rfl
              try simp only [Act.put, za, zb, zc]
              refine tk 4 (v := ?_) rfl rfl ?_ ?_
              rotate_left
              · intro w hSw; (try dsimp only at hSw); go_simp; try with_reducible rfl
              try simp only [Act.put, za, zb, zc]
              refine tk 5 (v := ?_) rfl rfl ?_ ?_
              rotate_left
              · intro w hSw; (try dsimp only at hSw); go_simp; try with_reducible rfl
              try simp only [Act.put, za, zb, zc]
              refine tk 6 (v := ?_) rfl rfl ?_ ?_
              rotate_left
              · intro w hSw; (try dsimp only at hSw); go_simp; try with_reducible rfl
              try simp only [Act.put, za, zb, zc]
              refine tk 7 (v := ?_) rfl rfl ?_ ?_
              rotate_left
              · intro w hSw; (try dsimp only at hSw); go_simp; try with_reducible rfl
              try simp only [Act.put, za, zb, zc]
              refine tk 8 (v := ?_) rfl rfl ?_ ?_
              rotate_left
              · intro w hSw; (try dsimp only at hSw); go_simp; try with_reducible rfl
              try simp only [Act.put, za, zb, zc]
              refine tk 9 (v := ?_) rfl rfl ?_ ?_
              rotate_left
              · intro w hSw; (try dsimp only at hSw); go_simp; try with_reducible rfl
              try simp only [Act.put, za, zb, zc]
              refine tk 10 (v := ?_) rfl rfl ?_ ?_
              rotate_left
              · intro w hSw; (try dsimp only at hSw); go_simp; try with_reducible rfl
              try simp only [Act.put, za, zb, zc]
              refine tk 11 (v := ?_) rfl rfl ?_ ?_
              rotate_left
              · intro w hSw; (try dsimp only at hSw); go_simp; try with_reducible rfl
              try simp only [Act.put, za, zb, zc]
              refine tk 12 (v := ?_) rfl rfl ?_ ?_
              rotate_left
              · intro w hSw; (try dsimp only at hSw); go_simp; try with_reducible rfl
              try simp only [Act.put, za, zb, zc]
              refine tk 13 (v := ?_) rfl rfl ?_ ?_
              rotate_left
              · intro w hSw; (try dsimp only at hSw); go_simp; try with_reducible rfl
              try simp only [Act.put, za, zb, zc]
              refine tk 14 (v := ?_) rfl rfl ?_ ?_
              rotate_left
              · intro w hSw; (try dsimp only at hSw); go_simp; try with_reducible rfl
              try simp only [Act.put, za, zb, zc]
              refine tk 15 (v := ?_) rfl rfl ?_ ?_
              rotate_left
              · intro w hSw; (try dsimp only at hSw); go_simp; try with_reducible rfl
              try simp only [Act.put, za, zb, zc]
              refine tk 16 (v := ?_) rfl rfl ?_ ?_
              rotate_left
              · intro w hSw; (try dsimp only at hSw); go_simp; try with_reducible rfl
              try simp only [Act.put, za, zb, zc]
              refine wpAnyH_ready (rs := [17]) (by kernel_rfl) (by simp) ?_
              refine AllReadyH.cons rfl (fun K hK => ?_) AllReadyH.nil
              go_simp
              have hb5 : Below wc.heap.size wc (wc.alloc (.cells #[.int .i64 d, .int .i64 k1, .int .i64 k2, .string nm, .string kv] 43)).drew := ((Below.refl _ _).alloc (Nat.le_refl _) _).drew
              refine hK.out _ _ (HC0.out _ (below_step HW.out (Nat.le_refl _) hb5)) (fun hHeld => ?_)
              clear hK K
              refine wpAnyH_ready (rs := [18]) (by kernel_rfl) (by simp) ?_
              refine AllReadyH.cons rfl (fun K hK => ?_) AllReadyH.nil
              refine step_appW rfl (.tmp 79) (.tmp 96) 28 rfl wc.heap.size 43 i1 _ 5 56 Tryz.underlying28 hl hl0 hl1 hl2 rfl (by decide) (.slice none 0 0) 0 [] rfl (World.ownsRow_nil _ _ _ _) (.slice (some ⟨wc.heap.size, 0, none⟩) 1 1) 1 (lineA (d, (k1, k2), nm, kv)).toList rfl (new_src (show Blk (wc.alloc (.cells #[.int .i64 d, .int .i64 k1, .int .i64 k2, .string nm, .string kv] 43)).drew 43 wc.heap.size #[.int .i64 d, .int .i64 k1, .int .i64 k2, .string nm, .string kv] from Blk.new wc _ _) 1) rfl (lineA_one (d, (k1, k2), nm, kv)) (by unfold maxLen; omega) (by omega) hb5.size ?_
              intro v14 w5 ho14 hg14
              have HB5 : Hid (Below wc.heap.size wc w5) := hb5.grown hg14 hb5.size (fun k hk => by cases hk)
              have HW5 : Hid (Below wq.heap.size wq w5) := HW.out.trans (HB5.out.mono HW.out.size)
              have H14 : Hid (w5.ownsRow wc.heap.size 43 5 v14 1 (lineA (d, (k1, k2), nm, kv)).toList) := by first | exact ho14 | (show World.ownsRow _ _ _ _ _ _ _; simpa using ho14)
              refine hK.out _ _ (HC0.out _ HW5.out) (fun hHeld => ?_)
              clear hK K
              refine tk 19 (v := ?_) rfl rfl ?_ ?_
              rotate_left
              · intro w hSw; (try dsimp only at hSw); go_simp; try with_reducible rfl
              try simp only [Act.put, za, zb, zc]
              refine wpAnyH_done (by kernel_rfl) (NoPanic.normal ?_) _
              clear ho14 hg14 H13 hb5 hS0
              go_wp2_with (at_builtin; refine wpList_appW (by rfl) (.tmp 98) (.tmp 101) 28 rfl wc.heap.size 43 i1 _ 5 56 Tryz.underlying28 hl hl0 hl1 hl2 rfl (by decide) v14 1 _ rfl H14.out (.slice none 0 0) 0 [] rfl (.inl ⟨rfl, rfl, rfl⟩) rfl (by simp) (by unfold maxLen; omega) (by omega) HB5.out.size ?_)
              intro v15 w6 ho15 hg15
              have HB6 : Hid (Below wc.heap.size wc w6) := HB5.out.grown hg15 HB5.out.size (fun k hk => (World.ownsRow.lt H14.out k hk).1)
              have HB7 : Hid (Below w2.heap.size w2 w6) := HB.out.trans ((HW.out.trans (HB6.out.mono HW.out.size)).mono HB.out.size)
              have HO7 : Hid (OwnL w6 w2.heap.size v15 (childF K ns d (0 + 1))) := by
                show World.ownsRow _ _ _ _ _ _ _
                rw [HO'.out]
                have h := owns_lessV ho15 (Nat.le_trans HB.out.size HW.out.size)
                show World.ownsRow _ _ _ _ _ 1 (cellsL [(d, (k1, k2), nm, kv)])
                rw [cellsL_one1]
                first | exact h | simpa using h
              clear ho15 hg15 H14 HB5 HW5 HB6
              go_wp2_with fail
              refine ⟨?_, ?_⟩
              · exact ⟨0 + 1, by omega, (by first | rfl | go_num | trivial), HO7, HB7⟩
              · simp [intOf] <;> omega
            · have hs1 : SrcAt wc (.slice (some ⟨g, 0, none⟩) P c10) P (cellsL (O.take P)) := by
                have h := lines_src (k := 0) (m := P) (c := c10) HLc.out (by omega)
                simpa using h
              have d3 : (P : Int) ≤ (c10 : Int) := by omega
              have HS1 : Hid (SrcAt wc (.slice (some ⟨g, 0, none⟩) P c10) P (cellsL (O.take P))) := hs1
              clear hs1
              go_wp2_with (at_builtin; refine wpList_appW (by rfl) (.tmp 74) (.tmp 77) 28 rfl wc.heap.size 43 i1 _ 5 56 Tryz.underlying28 hl hl0 hl1 hl2 rfl (by decide) (.slice none 0 0) 0 [] rfl (World.ownsRow_nil _ _ _ _) (.slice (some ⟨g, 0, none⟩) P c10) P (cellsL (O.take P)) rfl HS1.out (by rw [cellsL_len, List.length_take, HOl.out]; congr 1; omega) (cellsL_one _) (by unfold maxLen; omega) (by omega) (Nat.le_refl _) ?_)
              intro v13 w4 ho13 hg13
              have HB4 : Hid (Below wc.heap.size wc w4) := (Below.refl _ _).grown hg13 (Nat.le_refl _) (fun k hk => by cases hk)
              have H13 : Hid (w4.ownsRow wc.heap.size 43 5 v13 P (cellsL (O.take P))) := by first | exact ho13 | (have h := ho13; rw [Nat.zero_add, List.nil_append] at h; exact h)
              have HW4 : Hid (Below wq.heap.size wq w4) := HW.out.trans (HB4.out.mono HW.out.size)
              obtain ⟨y9, z0, z1, z5⟩ := HC.out w4 HW4.out
              have hS0 : w4.cell? ⟨b9, f9 + q, none⟩ = some (.string nm) ∧ w4.cell? ⟨b8, f8 + q * 6, none⟩ = some (.int .i64 k1) ∧ w4.cell? ⟨b8, f8 + q * 6 + 1, none⟩ = some (.int .i64 k2) ∧ w4.cell? ⟨b8, f8 + q * 6 + 5, none⟩ = some (.string kv) := ⟨y9, z0, z1, z5⟩
              clear ho13 hg13 y9 z0 z1 z5
              go_wp2_with fail
              refine wp_region_noPanic ?_
              refine wp_region_held_drew (S := fun W => W.cell? ⟨b9, f9 + q, none⟩ = some (.string nm) ∧ W.cell? ⟨b8, f8 + q * 6, none⟩ = some (.int .i64 k1) ∧ W.cell? ⟨b8, f8 + q * 6 + 1, none⟩ = some (.int .i64 k2) ∧ W.cell? ⟨b8, f8 + q * 6 + 5, none⟩ = some (.string kv)) (by kernel_rfl) (by first | exact trivial | assumption | exact ⟨by assumption, by assumption⟩) (fun hHeld => ?_)
              refine tk 0 (v := ?_) rfl rfl ?_ ?_
              rotate_left
              · intro w hSw; (try dsimp only at hSw); go_simp; try with_reducible rfl
              try simp only [Act.put, za, zb, zc]
              refine tk 1 (v := ?_) rfl rfl ?_ ?_
              rotate_left
              · intro w hSw; (try dsimp only at hSw); go_simp; try with_reducible rfl
              try simp only [Act.put, za, zb, zc]
              refine tk 2 (v := ?_) rfl rfl ?_ ?_
              rotate_left
              · intro w hSw; (try dsimp only at hSw); go_simp; try with_reducible rfl
              try simp only [Act.put, za, zb, zc]
              refine tk 3 (v := ?_) rfl rfl ?_ ?_
              rotate_left
              · intro w hSw; (try dsimp only at hSw); go_simp; try with_reducible rfl
              try simp only [Act.put, za, zb, zc]
              refine tk 4 (v := ?_) rfl rfl ?_ ?_
              rotate_left
              · intro w hSw; (try dsimp only at hSw); go_simp; try with_reducible rfl
              try simp only [Act.put, za, zb, zc]
              refine tk 5 (v := ?_) rfl rfl ?_ ?_
              rotate_left
              · intro w hSw; (try dsimp only at hSw); go_simp; try with_reducible rfl
              try simp only [Act.put, za, zb, zc]
              refine tk 6 (v := ?_) rfl rfl ?_ ?_
              rotate_left
              · intro w hSw; (try dsimp only at hSw); go_simp; try with_reducible rfl
              try simp only [Act.put, za, zb, zc]
              refine tk 7 (v := ?_) rfl rfl ?_ ?_
              rotate_left
              · intro w hSw; (try dsimp only at hSw); go_simp; try with_reducible rfl
              try simp only [Act.put, za, zb, zc]
              refine tk 8 (v := ?_) rfl rfl ?_ ?_
              rotate_left
              · intro w hSw; (try dsimp only at hSw); go_simp; try with_reducible rfl
              try simp only [Act.put, za, zb, zc]
              refine tk 9 (v := ?_) rfl rfl ?_ ?_
              rotate_left
              · intro w hSw; (try dsimp only at hSw); go_simp; try with_reducible rfl
              try simp only [Act.put, za, zb, zc]
              refine tk 10 (v := ?_) rfl rfl ?_ ?_
              rotate_left
              · intro w hSw; (try dsimp only at hSw); go_simp; try with_reducible rfl
              try simp only [Act.put, za, zb, zc]
              refine tk 11 (v := ?_) rfl rfl ?_ ?_
              rotate_left
              · intro w hSw; (try dsimp only at hSw); go_simp; try with_reducible rfl
              try simp only [Act.put, za, zb, zc]
              refine tk 12 (v := ?_) rfl rfl ?_ ?_
              rotate_left
              · intro w hSw; (try dsimp only at hSw); go_simp; try with_reducible rfl
              try simp only [Act.put, za, zb, zc]
              refine tk 13 (v := ?_) rfl rfl ?_ ?_
              rotate_left
              · intro w hSw; (try dsimp only at hSw); go_simp; try with_reducible rfl
              try simp only [Act.put, za, zb, zc]
              refine tk 14 (v := ?_) rfl rfl ?_ ?_
              rotate_left
              · intro w hSw; (try dsimp only at hSw); go_simp; try with_reducible rfl
              try simp only [Act.put, za, zb, zc]
              refine tk 15 (v := ?_) rfl rfl ?_ ?_
              rotate_left
              · intro w hSw; (try dsimp only at hSw); go_simp; try with_reducible rfl
              try simp only [Act.put, za, zb, zc]
              refine tk 16 (v := ?_) rfl rfl ?_ ?_
              rotate_left
              · intro w hSw; (try dsimp only at hSw); go_simp; try with_reducible rfl
              try simp only [Act.put, za, zb, zc]
              refine wpAnyH_ready (rs := [17]) (by kernel_rfl) (by simp) ?_
              refine AllReadyH.cons rfl (fun K hK => ?_) AllReadyH.nil
              go_simp
              have hb5 : Below w4.heap.size w4 (w4.alloc (.cells #[.int .i64 d, .int .i64 k1, .int .i64 k2, .string nm, .string kv] 43)).drew := ((Below.refl _ _).alloc (Nat.le_refl _) _).drew
              refine hK.out _ _ (HC.out _ (below_step HW4.out (Nat.le_refl _) hb5)) (fun hHeld => ?_)
              clear hK K
              refine wpAnyH_ready (rs := [18]) (by kernel_rfl) (by simp) ?_
              refine AllReadyH.cons rfl (fun K hK => ?_) AllReadyH.nil
              refine step_appW rfl (.tmp 79) (.tmp 96) 28 rfl wc.heap.size 43 i1 _ 5 56 Tryz.underlying28 hl hl0 hl1 hl2 rfl (by decide) v13 P (cellsL (O.take P)) rfl (show World.ownsRow _ _ _ _ _ _ _ from owns_on H13.out hb5) (.slice (some ⟨w4.heap.size, 0, none⟩) 1 1) 1 (lineA (d, (k1, k2), nm, kv)).toList rfl (new_src (show Blk (w4.alloc (.cells #[.int .i64 d, .int .i64 k1, .int .i64 k2, .string nm, .string kv] 43)).drew 43 w4.heap.size #[.int .i64 d, .int .i64 k1, .int .i64 k2, .string nm, .string kv] from Blk.new w4 _ _) 1) rfl (lineA_one (d, (k1, k2), nm, kv)) (by unfold maxLen; omega) (by omega) (by have h1 := HB4.out.size; have h2 := hb5.size; omega) ?_
              intro v14 w5 ho14 hg14
              have HB5 : Hid (Below wc.heap.size wc w5) := by
                have h1 := HB4.out.trans (hb5.mono HB4.out.size)
                exact h1.grown hg14 h1.size (fun k hk => (World.ownsRow.lt H13.out k hk).1)
              have HW5 : Hid (Below wq.heap.size wq w5) := HW.out.trans (HB5.out.mono HW.out.size)
              have H14 : Hid (w5.ownsRow wc.heap.size 43 5 v14 (P + 1) (cellsL (O.take P) ++ (lineA (d, (k1, k2), nm, kv)).toList)) := ho14
              refine hK.out _ _ (HC.out _ HW5.out) (fun hHeld => ?_)
              clear hK K
              refine tk 19 (v := ?_) rfl rfl ?_ ?_
              rotate_left
              · intro w hSw; (try dsimp only at hSw); go_simp; try with_reducible rfl
              try simp only [Act.put, za, zb, zc]
              refine wpAnyH_done (by kernel_rfl) (NoPanic.normal ?_) _
              clear ho14 hg14 H13 HB4 HW4 hb5 hS0
              have hLw := HLc.out.below HB5.out
              by_cases hcp : c10 = P
              · have HS3 : Hid (∀ cc, SrcAt w5 (.slice (some ⟨g, 0, none⟩) (q - P) cc) (q - P) (cellsL (O.drop P))) := fun cc => .inr ⟨_, cc, rfl, fun j u hj => by
                  have h1 := (List.getElem?_eq_some_iff.1 hj).1
                  rw [cellsL_len, List.length_drop, HOl.out] at h1
                  omega⟩
                clear hLw
                go_wp2_with (at_builtin; refine wpList_appW (by rfl) (.tmp 98) (.tmp 101) 28 rfl wc.heap.size 43 i1 _ 5 56 Tryz.underlying28 hl hl0 hl1 hl2 rfl (by decide) v14 (P + 1) _ rfl H14.out _ (q - P) (cellsL (O.drop P)) rfl (by first | exact HS3.out _ | simpa using HS3.out _) (by rw [cellsL_len, List.length_drop, HOl.out]) (cellsL_one _) (by unfold maxLen; omega) (by omega) HB5.out.size ?_)
                intro v15 w6 ho15 hg15
                have HB6 : Hid (Below wc.heap.size wc w6) := HB5.out.grown hg15 HB5.out.size (fun k hk => (World.ownsRow.lt H14.out k hk).1)
                have HB7 : Hid (Below w2.heap.size w2 w6) := HB.out.trans ((HW.out.trans (HB6.out.mono HW.out.size)).mono HB.out.size)
                have HO7 : Hid (OwnL w6 w2.heap.size v15 (childF K ns d (q + 1))) := by
                  show World.ownsRow _ _ _ _ _ _ _
                  rw [HO'.out]
                  unfold insL
                  rw [show posL (d, (k1, k2), nm, kv).2.2.1 O = P from HP.out, cellsL_app, cellsL_app, cellsL_one1]
                  have h := owns_lessV ho15 (Nat.le_trans HB.out.size HW.out.size)
                  rw [show (O.take P ++ [(d, (k1, k2), nm, kv)] ++ O.drop P).length = P + 1 + (q - P) by simp only [List.length_append, List.length_take, List.length_drop, List.length_cons, List.length_nil, HOl.out]; omega]
                  first | exact h | (rw [List.append_assoc]; exact h)
                clear ho15 hg15 H14 HB5 HW5 HB6
                go_wp2_with fail
                refine ⟨?_, ?_⟩
                · exact ⟨q + 1, by omega, (by first | rfl | go_num | trivial), HO7, HB7⟩
                · simp [intOf] <;> omega
              · have HS3 : Hid (∀ cc, SrcAt w5 (.slice (some ⟨g, P * 5, none⟩) (q - P) cc) (q - P) (cellsL (O.drop P))) := fun cc => by
                  have h := lines_src (k := P) (m := q - P) (c := cc) hLw (by omega)
                  rw [List.take_of_length_le (by rw [List.length_drop, HOl.out]; exact Nat.le_refl _), Nat.zero_add] at h
                  exact h
                have d4 : ¬ (c10 - P = 0) := by omega
                clear hLw
                go_wp2_with (at_builtin; refine wpList_appW (by rfl) (.tmp 98) (.tmp 101) 28 rfl wc.heap.size 43 i1 _ 5 56 Tryz.underlying28 hl hl0 hl1 hl2 rfl (by decide) v14 (P + 1) _ rfl H14.out _ (q - P) (cellsL (O.drop P)) rfl (by first | exact HS3.out _ | simpa using HS3.out _) (by rw [cellsL_len, List.length_drop, HOl.out]) (cellsL_one _) (by unfold maxLen; omega) (by omega) HB5.out.size ?_)
                intro v15 w6 ho15 hg15
                have HB6 : Hid (Below wc.heap.size wc w6) := HB5.out.grown hg15 HB5.out.size (fun k hk => (World.ownsRow.lt H14.out k hk).1)
                have HB7 : Hid (Below w2.heap.size w2 w6) := HB.out.trans ((HW.out.trans (HB6.out.mono HW.out.size)).mono HB.out.size)
                have HO7 : Hid (OwnL w6 w2.heap.size v15 (childF K ns d (q + 1))) := by
                  show World.ownsRow _ _ _ _ _ _ _
                  rw [HO'.out]
                  unfold insL
                  rw [show posL (d, (k1, k2), nm, kv).2.2.1 O = P from HP.out, cellsL_app, cellsL_app, cellsL_one1]
                  have h := owns_lessV ho15 (Nat.le_trans HB.out.size HW.out.size)
                  rw [show (O.take P ++ [(d, (k1, k2), nm, kv)] ++ O.drop P).length = P + 1 + (q - P) by simp only [List.length_append, List.length_take, List.length_drop, List.length_cons, List.length_nil, HOl.out]; omega]
                  first | exact h | (rw [List.append_assoc]; exact h)
                clear ho15 hg15 H14 HB5 HW5 HB6
                go_wp2_with fail
                refine ⟨?_, ?_⟩
                · exact ⟨q + 1, by omega, (by first | rfl | go_num | trivial), HO7, HB7⟩
                · simp [intOf] <;> omega
        · obtain rfl : q = m := by omega
          have c0 : ¬ ((q : Int) < (q : Int)) := by omega
          have HF : Hid (OwnL wr w.heap.size u10 R) := by
            have h := HO.out
            rw [HRR.out] at h
            exact owns_lessV h HB2.out.size
          go_wp2_with fail
          go_ret
          exact ⟨_, rfl, HF.out, HB2.out.trans (HB.out.mono HB2.out.size)⟩
end Go.Proofs.YtebnmghjdoblaaaGreatDoor

/- The document's Lines (layer 12). -/
namespace Go.Proofs.YtebnmghjdoblaaaGreatDoor
open Go.RowKit
set_option linter.unusedSimpArgs false

/-- A line's children behind it. -/
def stepL (l : List NodeT) (o : List LineT) (i : Nat) : List LineT := o.take (i + 1) ++ childP l (lL o i).2.1 ((lL o i).1 + 1) ++ o.drop (i + 1)

/-- The lines when the first i of them have their children. -/
def linesI (l : List NodeT) : Nat → List LineT
  | 0 => childP l (0, 0) 0
  | i + 1 => stepL l (linesI l i) i

/-- All of them have. -/
def LinesR (l : List NodeT) (R : List LineT) : Prop := ∃ i, (∀ j, j < i → j < (linesI l j).length) ∧ (linesI l i).length = i ∧ R = linesI l i

theorem LinesR.uniq {l : List NodeT} {R S : List LineT} (h1 : LinesR l R) (h2 : LinesR l S) : R = S := by
  obtain ⟨i, a1, a2, a3⟩ := h1
  obtain ⟨j, b1, b2, b3⟩ := h2
  have hij : i = j := by
    rcases Nat.lt_trichotomy i j with h | h | h
    · have := b1 i h; omega
    · exact h
    · have := a1 j h; omega
  rw [a3, b3, hij]

theorem insL_mem (x : LineT) (o : List LineT) (y : LineT) (h : y ∈ insL x o) : y = x ∨ y ∈ o := by
  unfold insL at h
  rcases List.mem_append.1 h with h | h
  · rcases List.mem_append.1 h with h | h
    · exact .inr (List.mem_of_mem_take h)
    · exact .inl (List.mem_singleton.1 h)
  · exact .inr (List.mem_of_mem_drop h)

theorem childF_deep (ks : List NodeT) (ns : List ByteArray) (d : Int) : ∀ i, ∀ y ∈ childF ks ns d i, y.1 = d := by
  intro i
  induction i with
  | zero => intro y h; exact absurd h List.not_mem_nil
  | succ i ih =>
    intro y h
    rcases insL_mem _ _ y h with h | h
    · rw [h]
    · exact ih y h

theorem lL_mem (l : List LineT) (i : Nat) (h : i < l.length) : lL l i ∈ l := by
  unfold lL
  rw [List.getD_eq_getElem?_getD, List.getElem?_eq_getElem h]
  exact List.getElem_mem h

theorem linesI_deep (l : List NodeT) : ∀ i, (∀ j, j < i → j < (linesI l j).length) → ∀ y ∈ linesI l i, 0 ≤ y.1 ∧ y.1 ≤ i := by
  intro i
  induction i with
  | zero => intro _ y h; have := childF_deep _ _ _ _ y h; omega
  | succ i ih =>
    intro hj y h
    have hi := ih (fun j h => hj j (by omega))
    have hx := hi _ (lL_mem _ i (hj i (by omega)))
    have h : y ∈ stepL l (linesI l i) i := h
    unfold stepL at h
    rcases List.mem_append.1 h with h | h
    · rcases List.mem_append.1 h with h | h
      · have := hi y (List.mem_of_mem_take h); omega
      · have := childF_deep _ _ _ _ y h; omega
    · have := hi y (List.mem_of_mem_drop h); omega

theorem ownL_src {w : World} {B : Nat} {v : Value} {l : List LineT} (h : OwnL w B v l) : SrcAt w v l.length (cellsL l) := by
  obtain ⟨a, cap, rfl, hr, h0 | ⟨g, rfl, hc⟩⟩ := OwnL.lines2 h
  · obtain ⟨rfl, h1, rfl⟩ := h0
    have hl : l = [] := List.eq_nil_of_length_eq_zero h1
    subst hl
    exact .inl ⟨rfl, rfl, rfl⟩
  · have h2 := lines_src (k := 0) (m := l.length) (c := cap) hr (by omega)
    rw [List.drop_zero, List.take_length, Nat.zero_mul, Nat.add_zero] at h2
    exact h2


set_option maxRecDepth 100000 in
set_option maxHeartbeats 16000000 in
theorem rlinesV_any (l : List NodeT) (a : Option Addr) (n c : Nat) (w : World) (D : Bool) (hD : D = true ↔ MayV l) (R : List LineT) (hR : D = true → LinesR l R) (hF : D = true → ∀ i, (∀ j, j < i → j < (linesI l j).length) → (linesI l i).length ≤ 90) (hn : n ≤ 90) (hz : ∀ k, k < n → (nL l k).2.2.1.size ≤ 65536 ∧ (nL l k).2.2.2.size ≤ maxLen) (hI : NodesAt w a n l) :
    Calls Tryz.prog 13 #[.slice a n c] w fun e w' => ∃ v, e = .returned (.tuple #[v, .int .i64 (if D = true then 0 else 1)]) ∧ OwnL w' w.heap.size v (if D = true then R else []) ∧ Below w.heap.size w w' := by
  have CM : Hid (Calls _ _ _ _ _) := rmayV_any l a n c w D hD (by omega) (fun k hk => ⟨Nat.le_trans (hz k hk).1 (by decide), (hz k hk).2⟩) hI
  have HI : Hid (NodesAt w a n l) := hI
  have CC : Hid (∀ (p : Int × Int) (d : Int) W, Below w.heap.size w W → Calls Tryz.prog 32 #[.slice a n c, .agg #[.int .i64 p.1, .int .i64 p.2], .int .i64 d] W fun e w' => ∃ v, e = .returned v ∧ OwnL w' W.heap.size v (childP l p d) ∧ Below W.heap.size W w') := fun p d W hW => rchildren_any l p d a n c W hn (fun k hk => (hz k hk).1) (hI.below hW)
  clear hD hz hI
  cases D with
  | false =>
    rw [if_neg (by simp), if_neg (by simp)]
    clear hR CC hF HI
    go_enter Tryz.func13, Tryz.ntmps13
    go_wp2_with fail
    refine CM.out.mono ?_
    rintro e w1 ⟨rfl, hb1⟩
    clear CM
    go_wp2_with fail
    go_ret2
    exact ⟨_, rfl, OwnL.nil _ _, hb1⟩
  | true =>
    rw [if_pos rfl, if_pos rfl]
    have HR : Hid (LinesR l R) := hR rfl
    have HF : Hid (∀ i, (∀ j, j < i → j < (linesI l j).length) → (linesI l i).length ≤ 90) := hF rfl
    obtain ⟨i1, hl, hl0, hl1, hl2⟩ := info_parts Tryz.infoLine
    clear hR hF
    go_enter Tryz.func13, Tryz.ntmps13
    go_wp2_with fail
    refine CM.out.mono ?_
    rintro e w1 ⟨rfl, hb1⟩
    have HB1 : Hid (Below w.heap.size w w1) := hb1
    clear CM hb1
    have C0 : Hid (Calls _ _ _ _ _) := CC.out (0, 0) 0 w1 HB1.out
    go_wp2_with fail
    refine C0.out.mono ?_
    rintro e w2 ⟨v4, rfl, ho4, hb2⟩
    have HO2 : Hid (OwnL w2 w.heap.size v4 (linesI l 0)) := owns_lessV ho4 HB1.out.size
    have HB2 : Hid (Below w.heap.size w w2) := below_step HB1.out (Nat.le_refl _) hb2
    clear C0 ho4 hb2 HB1
    go_wp2_with fail
    go_loopw [4, 5] (fun v i wr => ∃ k : Nat, i = .int .i64 k ∧ Hid (∀ j, j < k → j < (linesI l j).length) ∧ Hid (k ≤ (linesI l k).length) ∧ Hid (OwnL wr w.heap.size v (linesI l k)) ∧ Hid (Below w.heap.size w wr)) (fun _ i _ => 91 - (intOf i).toNat)
    case atStart => exact ⟨0, rfl, fun j hj => absurd hj (Nat.not_lt_zero _), Nat.zero_le _, HO2, HB2⟩
    case round =>
      clear HO2 HB2
      obtain ⟨k, rfl, HJ, HK, HO, HB⟩ := hrel
      have hf := HF.out k HJ.out
      have hk := HK.out
      have HJ' : Hid (k < (linesI l k).length → ∀ j, j < k + 1 → j < (linesI l j).length) := fun h j hj => by
        by_cases e : j = k
        · rw [e]; exact h
        · exact HJ.out j (by omega)
      have HE : Hid ((linesI l k).length = k → R = linesI l k) := fun h => LinesR.uniq HR.out ⟨k, HJ.out, h, rfl⟩
      have HD : Hid (∀ y ∈ linesI l k, 0 ≤ y.1 ∧ y.1 ≤ k) := linesI_deep l k HJ.out
      have HS : Hid (linesI l (k + 1) = stepL l (linesI l k) k) := rfl
      obtain ⟨O, hO⟩ : ∃ O, linesI l k = O := ⟨_, rfl⟩
      rw [hO] at HO HK hf hk HJ' HE HD HS
      clear hO
      obtain ⟨a4, c4, rfl, r4, s4⟩ := OwnL.lines2 HO.out
      have HL4 : Hid (LinesAt wr a4 O.length O) := r4
      obtain ⟨q, hq⟩ : ∃ q, O.length = q := ⟨_, rfl⟩
      have HQ : Hid (O.length = q) := hq
      rw [hq] at HL4 HK hf hk s4 HJ' HE HO ⊢
      clear hq r4
      by_cases hkq : k < q
      · have b0 : (k : Int) < (q : Int) := by omega
        rcases s4 with ⟨_, h0, _⟩ | ⟨g, rfl, hcap⟩
        · omega
        obtain ⟨y0, y1, y2, _, _⟩ := HL4.out.cells k hkq
        have hdd := HD.out _ (lL_mem O k (by rw [HQ.out]; exact hkq))
        have HC2 : Hid (∀ W, Below wr.heap.size wr W → W.cell? ⟨g, 0 + k * 5, none⟩ = some (.int .i64 (lL O k).1) ∧ W.cell? ⟨g, 0 + k * 5 + 1, none⟩ = some (.int .i64 (lL O k).2.1.1) ∧ W.cell? ⟨g, 0 + k * 5 + 2, none⟩ = some (.int .i64 (lL O k).2.1.2)) := fun W hW => by
          obtain ⟨z0, z1, z2, _, _⟩ := (HL4.out.below hW).cells k hkq
          exact ⟨z0, z1, z2⟩
        have HS2 : Hid (linesI l (k + 1) = O.take (k + 1) ++ childP l (lL O k).2.1 ((lL O k).1 + 1) ++ O.drop (k + 1)) := by show _ = _; rw [HS.out]; rfl
        obtain ⟨⟨dd, ⟨p1, p2⟩, pn, pv⟩, hpp⟩ : ∃ x, x = lL O k := ⟨_, rfl⟩
        simp only [← hpp] at HC2 HS2 hdd
        simp only [Nat.zero_add] at HC2
        obtain ⟨Cc, hCc⟩ : ∃ Cc, childP l (p1, p2) (dd + 1) = Cc := ⟨_, rfl⟩
        have CK : Hid (∀ W, Below w.heap.size w W → Calls Tryz.prog 32 #[.slice a n c, .agg #[.int .i64 p1, .int .i64 p2], .int .i64 (dd + 1)] W fun e w' => ∃ v, e = .returned v ∧ OwnL w' W.heap.size v Cc ∧ Below W.heap.size W w') := fun W hW => by
          have h := CC.out (p1, p2) (dd + 1) W hW
          rw [hCc] at h
          exact h
        rw [hCc] at HS2
        have HCl : Hid ((linesI l (k + 1)).length ≤ 90) := HF.out (k + 1) (HJ'.out hkq)
        have hcl : Cc.length ≤ 90 := by
          have h := HCl.out
          rw [HS2.out] at h
          simp only [List.length_append] at h
          omega
        have wd : IntKind.i64.wrap (dd + 1) = dd + 1 := by rw [IntKind.wrap_i64]; omega
        have wk : IntKind.i64.wrap ((k : Int) + 1) = ((k + 1 : Nat) : Int) := by rw [IntKind.wrap_i64]; omega
        have HS1 : Hid (SrcAt wr (.slice (some ⟨g, 0, none⟩) (k + 1) c4) (k + 1) (cellsL (O.take (k + 1)))) := by
          have h := lines_src (k := 0) (m := k + 1) (c := c4) HL4.out (by omega)
          show SrcAt _ _ _ _
          simpa using h
        have d3 : ((k + 1 : Nat) : Int) ≤ (c4 : Int) := by omega
        have d5 : (0 : Int) ≤ ((k + 1 : Nat) : Int) := by omega
        clear hpp hCc y0 y1 y2 HS HD HE HK CC
        go_wp2_with (at_builtin; refine wpList_appW (by rfl) (.tmp 19) (.tmp 23) 28 rfl wr.heap.size 43 i1 _ 5 56 Tryz.underlying28 hl hl0 hl1 hl2 rfl (by decide) (.slice none 0 0) 0 [] rfl (World.ownsRow_nil _ _ _ _) (.slice (some ⟨g, 0, none⟩) (k + 1) c4) (k + 1) (cellsL (O.take (k + 1))) rfl HS1.out (by rw [cellsL_len, List.length_take, HQ.out]; congr 1; omega) (cellsL_one _) (by unfold maxLen; omega) (by omega) (Nat.le_refl _) ?_)
        intro v6 w4 ho6 hg6
        have HB4 : Hid (Below wr.heap.size wr w4) := (Below.refl _ _).grown hg6 (Nat.le_refl _) (fun k hk => by cases hk)
        have H6 : Hid (w4.ownsRow wr.heap.size 43 5 v6 (k + 1) (cellsL (O.take (k + 1)))) := by first | exact ho6 | (have h := ho6; rw [Nat.zero_add, List.nil_append] at h; exact h)
        have hS0 := HC2.out w4 HB4.out
        have HBw4 : Hid (Below w.heap.size w w4.drew) := (below_step HB.out (Nat.le_refl _) HB4.out).drew
        clear ho6 hg6 HS1
        go_wp2_with fail
        refine wp_region_noPanic ?_
        refine wp_region_held_drew (S := fun W => W.cell? ⟨g, k * 5, none⟩ = some (.int .i64 dd) ∧ W.cell? ⟨g, k * 5 + 1, none⟩ = some (.int .i64 p1) ∧ W.cell? ⟨g, k * 5 + 2, none⟩ = some (.int .i64 p2)) (by kernel_rfl) (by first | exact trivial | assumption | exact ⟨by assumption, by assumption⟩) (fun hHeld => ?_)
        refine take_at (i := 0) (v := ?_) rfl rfl (by kernel_rfl) (by kernel_rfl) (by kernel_rfl) (fun _ _ _ h => h) (Or.inl ⟨by rfl, ?_⟩) (by assumption) ?_
        rotate_left
        · intro w hSw; (try dsimp only at hSw); go_simp; try with_reducible rfl
        try simp only [Act.put, List.setIfInBounds_toArray, List.set_cons_zero, List.set_cons_succ]
        refine take_at (i := 1) (v := ?_) rfl rfl (by kernel_rfl) (by kernel_rfl) (by kernel_rfl) (fun _ _ _ h => h) (Or.inl ⟨by rfl, ?_⟩) (by assumption) ?_
        rotate_left
        · intro w hSw; (try dsimp only at hSw); go_simp; try with_reducible rfl
        try simp only [Act.put, List.setIfInBounds_toArray, List.set_cons_zero, List.set_cons_succ]
        refine take_at (i := 2) (v := ?_) rfl rfl (by kernel_rfl) (by kernel_rfl) (by kernel_rfl) (fun _ _ _ h => h) (Or.inl ⟨by rfl, ?_⟩) (by assumption) ?_
        rotate_left
        · intro w hSw; (try dsimp only at hSw); go_simp; try with_reducible rfl
        try simp only [Act.put, List.setIfInBounds_toArray, List.set_cons_zero, List.set_cons_succ]
        refine take_at (i := 3) (v := ?_) rfl rfl (by kernel_rfl) (by kernel_rfl) (by kernel_rfl) (fun _ _ _ h => h) (Or.inl ⟨by rfl, ?_⟩) (by assumption) ?_
        rotate_left
        · intro w hSw; (try dsimp only at hSw); go_simp; try with_reducible rfl
        try simp only [Act.put, List.setIfInBounds_toArray, List.set_cons_zero, List.set_cons_succ]
        refine take_at (i := 4) (v := ?_) rfl rfl (by kernel_rfl) (by kernel_rfl) (by kernel_rfl) (fun _ _ _ h => h) (Or.inl ⟨by rfl, ?_⟩) (by assumption) ?_
        rotate_left
        · intro w hSw; (try dsimp only at hSw); go_simp; try with_reducible rfl
        try simp only [Act.put, List.setIfInBounds_toArray, List.set_cons_zero, List.set_cons_succ]
        refine take_at (i := 5) (v := ?_) rfl rfl (by kernel_rfl) (by kernel_rfl) (by kernel_rfl) (fun _ _ _ h => h) (Or.inl ⟨by rfl, ?_⟩) (by assumption) ?_
        rotate_left
        · intro w hSw; (try dsimp only at hSw); go_simp; try with_reducible rfl
        try simp only [Act.put, List.setIfInBounds_toArray, List.set_cons_zero, List.set_cons_succ]
        refine take_at (i := 6) (v := ?_) rfl rfl (by kernel_rfl) (by kernel_rfl) (by kernel_rfl) (fun _ _ _ h => h) (Or.inl ⟨by rfl, ?_⟩) (by assumption) ?_
        rotate_left
        · intro w hSw; (try dsimp only at hSw); go_simp; try with_reducible rfl
        try simp only [Act.put, List.setIfInBounds_toArray, List.set_cons_zero, List.set_cons_succ]
        refine take_at (i := 7) (v := ?_) rfl rfl (by kernel_rfl) (by kernel_rfl) (by kernel_rfl) (fun _ _ _ h => h) (Or.inl ⟨by rfl, ?_⟩) (by assumption) ?_
        rotate_left
        · intro w hSw; (try dsimp only at hSw); go_simp; try with_reducible rfl
        try simp only [Act.put, List.setIfInBounds_toArray, List.set_cons_zero, List.set_cons_succ]
        refine take_at (i := 8) (v := ?_) rfl rfl (by kernel_rfl) (by kernel_rfl) (by kernel_rfl) (fun _ _ _ h => h) (Or.inl ⟨by rfl, ?_⟩) (by assumption) ?_
        rotate_left
        · intro w hSw; (try dsimp only at hSw); go_simp; try with_reducible rfl
        try simp only [Act.put, List.setIfInBounds_toArray, List.set_cons_zero, List.set_cons_succ]
        refine take_at (i := 9) (v := ?_) rfl rfl (by kernel_rfl) (by kernel_rfl) (by kernel_rfl) (fun _ _ _ h => h) (Or.inl ⟨by rfl, ?_⟩) (by assumption) ?_
        rotate_left
        · intro w hSw; (try dsimp only at hSw); go_simp; try with_reducible rfl
        try simp only [Act.put, List.setIfInBounds_toArray, List.set_cons_zero, List.set_cons_succ]
        refine take_at (i := 10) (v := ?_) rfl rfl (by kernel_rfl) (by kernel_rfl) (by kernel_rfl) (fun _ _ _ h => h) (Or.inl ⟨by rfl, ?_⟩) (by assumption) ?_
        rotate_left
        · intro w hSw; (try dsimp only at hSw); go_simp; try with_reducible rfl
        try simp only [Act.put, List.setIfInBounds_toArray, List.set_cons_zero, List.set_cons_succ]
        refine take_at (i := 11) (v := ?_) rfl rfl (by kernel_rfl) (by kernel_rfl) (by kernel_rfl) (fun _ _ _ h => h) (Or.inl ⟨by rfl, ?_⟩) (by assumption) ?_
        rotate_left
        · intro w hSw; (try dsimp only at hSw); go_simp; try with_reducible rfl
        try simp only [Act.put, List.setIfInBounds_toArray, List.set_cons_zero, List.set_cons_succ]
        refine take_at (i := 12) (v := ?_) rfl rfl (by kernel_rfl) (by kernel_rfl) (by kernel_rfl) (fun _ _ _ h => h) (Or.inl ⟨by rfl, ?_⟩) (by assumption) ?_
        rotate_left
        · intro w hSw; (try dsimp only at hSw); go_simp; try with_reducible rfl
        try simp only [Act.put, List.setIfInBounds_toArray, List.set_cons_zero, List.set_cons_succ]
        refine wpAnyH_ready (rs := [13]) (by kernel_rfl) (by simp) ?_
        refine AllReadyH.cons rfl (fun K hK => ?_) AllReadyH.nil
        go_simp
        refine (CK.out _ HBw4.out).mono ?_
        rintro e w5 ⟨v38, rfl, ho38, hb5⟩
        have HB5 : Hid (Below wr.heap.size wr w5) := below_step HB4.out.drew (Nat.le_refl _) hb5
        have H65 : Hid (w5.ownsRow wr.heap.size 43 5 v6 (k + 1) (cellsL (O.take (k + 1)))) := owns_on (w := w4.drew) H6.out hb5
        have HS38 : Hid (SrcAt w5 v38 Cc.length (cellsL Cc)) := ownL_src ho38
        clear ho38 hb5 H6 CK HBw4
        refine hK.out _ _ (HC2.out _ HB5.out) (fun hHeld => ?_)
        clear hK K
        refine wpAnyH_ready (rs := [14]) (by kernel_rfl) (by simp) ?_
        refine AllReadyH.cons rfl (fun K hK => ?_) AllReadyH.nil
        refine step_appW rfl (.tmp 25) (.tmp 38) 28 rfl wr.heap.size 43 i1 _ 5 56 Tryz.underlying28 hl hl0 hl1 hl2 rfl (by decide) v6 (k + 1) (cellsL (O.take (k + 1))) rfl H65.out v38 Cc.length (cellsL Cc) rfl HS38.out (by rw [cellsL_len]) (cellsL_one _) (by unfold maxLen; omega) (by omega) HB5.out.size ?_
        intro v39 w6 ho39 hg39
        have HB6 : Hid (Below wr.heap.size wr w6) := HB5.out.grown hg39 HB5.out.size (fun k hk => (World.ownsRow.lt H65.out k hk).1)
        have H39 : Hid (w6.ownsRow wr.heap.size 43 5 v39 (k + 1 + Cc.length) (cellsL (O.take (k + 1)) ++ cellsL Cc)) := ho39
        clear ho39 hg39 H65 HS38
        refine hK.out _ _ (HC2.out _ HB6.out) (fun hHeld => ?_)
        clear hK K
        refine take_at (i := 15) (v := ?_) rfl rfl (by kernel_rfl) (by kernel_rfl) (by kernel_rfl) (fun _ _ _ h => h) (Or.inl ⟨by rfl, ?_⟩) (by assumption) ?_
        rotate_left
        · intro w hSw; (try dsimp only at hSw); go_simp; try with_reducible rfl
        try simp only [Act.put, List.setIfInBounds_toArray, List.set_cons_zero, List.set_cons_succ]
        refine wpAnyH_done (by kernel_rfl) (NoPanic.normal ?_) _
        have hLw := HL4.out.below HB6.out
        clear hS0 HB4 HB5 HC2
        by_cases hcp : c4 = k + 1
        · have HS3 : Hid (∀ cc, SrcAt w6 (.slice (some ⟨g, 0, none⟩) (q - (k + 1)) cc) (q - (k + 1)) (cellsL (O.drop (k + 1)))) := fun cc => .inr ⟨_, cc, rfl, fun j u hj => by
            have h1 := (List.getElem?_eq_some_iff.1 hj).1
            rw [cellsL_len, List.length_drop, HQ.out] at h1
            omega⟩
          have d4 : c4 - (k + 1) = 0 := by omega
          clear hLw
          go_wp2_with (at_builtin; refine wpList_appW (by rfl) (.tmp 40) (.tmp 44) 28 rfl wr.heap.size 43 i1 _ 5 56 Tryz.underlying28 hl hl0 hl1 hl2 rfl (by decide) v39 (k + 1 + Cc.length) _ rfl H39.out _ (q - (k + 1)) (cellsL (O.drop (k + 1))) rfl (by first | exact HS3.out _ | simpa using HS3.out _) (by rw [cellsL_len, List.length_drop, HQ.out]) (cellsL_one _) (by unfold maxLen; omega) (by omega) HB6.out.size ?_)
          intro v15 w7 ho15 hg15
          have HB7 : Hid (Below w.heap.size w w7) := HB.out.trans ((HB6.out.grown hg15 HB6.out.size (fun k hk => (World.ownsRow.lt H39.out k hk).1)).mono HB.out.size)
          have HO7 : Hid (OwnL w7 w.heap.size v15 (linesI l (k + 1))) := by
            show World.ownsRow _ _ _ _ _ _ _
            rw [HS2.out, cellsL_app, cellsL_app]
            have h := owns_lessV ho15 HB.out.size
            rw [show (O.take (k + 1) ++ Cc ++ O.drop (k + 1)).length = k + 1 + Cc.length + (q - (k + 1)) by simp only [List.length_append, List.length_take, List.length_drop, HQ.out]; omega]
            first | exact h | (rw [List.append_assoc]; exact h)
          have HK7 : Hid (k + 1 ≤ (linesI l (k + 1)).length) := by
            show _ ≤ _
            rw [HS2.out]
            simp only [List.length_append, List.length_take, HQ.out]
            omega
          clear ho15 hg15 H39 HB6
          go_wp2_with fail
          refine ⟨?_, ?_⟩
          · exact ⟨k + 1, (by first | rfl | go_num | trivial), HJ'.out hkq, HK7, HO7, HB7⟩
          · simp [intOf] <;> omega
        · have HS3 : Hid (∀ cc, SrcAt w6 (.slice (some ⟨g, (k + 1) * 5, none⟩) (q - (k + 1)) cc) (q - (k + 1)) (cellsL (O.drop (k + 1)))) := fun cc => by
            have h := lines_src (k := k + 1) (m := q - (k + 1)) (c := cc) hLw (by omega)
            rw [List.take_of_length_le (by rw [List.length_drop, HQ.out]; exact Nat.le_refl _), Nat.zero_add] at h
            exact h
          have d4 : ¬ (c4 - (k + 1) = 0) := by omega
          clear hLw
          go_wp2_with (at_builtin; refine wpList_appW (by rfl) (.tmp 40) (.tmp 44) 28 rfl wr.heap.size 43 i1 _ 5 56 Tryz.underlying28 hl hl0 hl1 hl2 rfl (by decide) v39 (k + 1 + Cc.length) _ rfl H39.out _ (q - (k + 1)) (cellsL (O.drop (k + 1))) rfl (by first | exact HS3.out _ | simpa using HS3.out _) (by rw [cellsL_len, List.length_drop, HQ.out]) (cellsL_one _) (by unfold maxLen; omega) (by omega) HB6.out.size ?_)
          intro v15 w7 ho15 hg15
          have HB7 : Hid (Below w.heap.size w w7) := HB.out.trans ((HB6.out.grown hg15 HB6.out.size (fun k hk => (World.ownsRow.lt H39.out k hk).1)).mono HB.out.size)
          have HO7 : Hid (OwnL w7 w.heap.size v15 (linesI l (k + 1))) := by
            show World.ownsRow _ _ _ _ _ _ _
            rw [HS2.out, cellsL_app, cellsL_app]
            have h := owns_lessV ho15 HB.out.size
            rw [show (O.take (k + 1) ++ Cc ++ O.drop (k + 1)).length = k + 1 + Cc.length + (q - (k + 1)) by simp only [List.length_append, List.length_take, List.length_drop, HQ.out]; omega]
            first | exact h | (rw [List.append_assoc]; exact h)
          have HK7 : Hid (k + 1 ≤ (linesI l (k + 1)).length) := by
            show _ ≤ _
            rw [HS2.out]
            simp only [List.length_append, List.length_take, HQ.out]
            omega
          clear ho15 hg15 H39 HB6
          go_wp2_with fail
          refine ⟨?_, ?_⟩
          · exact ⟨k + 1, (by first | rfl | go_num | trivial), HJ'.out hkq, HK7, HO7, HB7⟩
          · simp [intOf] <;> omega
      · have hqk : q = k := by omega
        have b0 : ¬ ((k : Int) < (q : Int)) := by omega
        have hRR : R = O := HE.out hqk
        have HFin : Hid (OwnL wr w.heap.size (.slice a4 q c4) R) := by show OwnL _ _ _ _; rw [hRR]; exact HO.out
        clear hRR HE HO hqk
        go_wp2_with fail
        go_ret2
        exact ⟨_, rfl, HFin.out, HB.out⟩
end Go.Proofs.YtebnmghjdoblaaaGreatDoor

/- The document's Path, Find (layer 12). -/
namespace Go.Proofs.YtebnmghjdoblaaaGreatDoor
open Go.RowKit
set_option linter.unusedSimpArgs false

/-- The first line of a number: its place; none. -/
def PathE (R : List LineT) (id : Int × Int) (S : ByteArray) (e : Int) : Prop := (∃ i, i < R.length ∧ (lL R i).2.1 = id ∧ (∀ j, j < i → (lL R j).2.1 ≠ id) ∧ S = pathB R i ∧ e = 0) ∨ ((∀ j, j < R.length → (lL R j).2.1 ≠ id) ∧ S = ⟨#[]⟩ ∧ e = 3)

theorem PathE.yes {R : List LineT} {id : Int × Int} {S : ByteArray} {e : Int} (h : PathE R id S e) {i : Nat} (hi : i < R.length) (h1 : (lL R i).2.1 = id) (h2 : ∀ j, j < i → (lL R j).2.1 ≠ id) : S = pathB R i ∧ e = 0 := by
  rcases h with ⟨j, hj, a1, a2, a3, a4⟩ | ⟨h, _⟩
  · have : i = j := by
      rcases Nat.lt_trichotomy i j with h | h | h
      · exact absurd h1 (a2 i h)
      · exact h
      · exact absurd a1 (h2 j h)
    rw [this]; exact ⟨a3, a4⟩
  · exact absurd h1 (h i hi)

theorem PathE.no {R : List LineT} {id : Int × Int} {S : ByteArray} {e : Int} (h : PathE R id S e) (h1 : ∀ j, j < R.length → (lL R j).2.1 ≠ id) : S = ⟨#[]⟩ ∧ e = 3 := by
  rcases h with ⟨j, hj, a1, _⟩ | ⟨_, h2, h3⟩
  · exact absurd a1 (h1 j hj)
  · exact ⟨h2, h3⟩

/-- The first line at a place: its number; none. -/
def FindV (R : List LineT) (p : ByteArray) (id : Int × Int) (e : Int) : Prop := (∃ i, i < R.length ∧ pathB R i = p ∧ (∀ j, j < i → pathB R j ≠ p) ∧ id = (lL R i).2.1 ∧ e = 0) ∨ ((∀ j, j < R.length → pathB R j ≠ p) ∧ id = (0, 0) ∧ e = 3)

theorem FindV.yes {R : List LineT} {p : ByteArray} {id : Int × Int} {e : Int} (h : FindV R p id e) {i : Nat} (hi : i < R.length) (h1 : pathB R i = p) (h2 : ∀ j, j < i → pathB R j ≠ p) : id = (lL R i).2.1 ∧ e = 0 := by
  rcases h with ⟨j, hj, a1, a2, a3, a4⟩ | ⟨h, _⟩
  · have : i = j := by
      rcases Nat.lt_trichotomy i j with h | h | h
      · exact absurd h1 (a2 i h)
      · exact h
      · exact absurd a1 (h2 j h)
    rw [this]; exact ⟨a3, a4⟩
  · exact absurd h1 (h i hi)

theorem FindV.no {R : List LineT} {p : ByteArray} {id : Int × Int} {e : Int} (h : FindV R p id e) (h1 : ∀ j, j < R.length → pathB R j ≠ p) : id = (0, 0) ∧ e = 3 := by
  rcases h with ⟨j, hj, a1, _⟩ | ⟨_, h2, h3⟩
  · exact absurd a1 (h1 j hj)
  · exact ⟨h2, h3⟩

theorem beq_bytesV (a b : ByteArray) : (a.toList == b.toList) = decide (a = b) := by
  by_cases h : a = b
  · rw [h]; simp
  · rw [decide_eq_false h, beq_eq_false_iff_ne]
    exact fun e => h (bytes_ext (by rw [toList_data, toList_data] at e; exact e))

set_option maxRecDepth 100000 in
set_option maxHeartbeats 8000000 in
theorem rpathV_any (id : Int × Int) (a : Option Addr) (n c : Nat) (w : World) (D : Bool) (R : List LineT) (hRl : R.length ≤ 90) (hRz : ∀ j, j < R.length → (lL R j).2.2.1.size ≤ 1048576)
    (CL : ∀ W, Below w.heap.size w W → Calls Tryz.prog 13 #[.slice a n c] W fun e w' => ∃ v, e = .returned (.tuple #[v, .int .i64 (if D = true then 0 else 1)]) ∧ OwnL w' W.heap.size v (if D = true then R else []) ∧ Below W.heap.size W w')
    (S : ByteArray) (E : Int) (hE : if D = true then PathE R id S E else (S = ⟨#[]⟩ ∧ E = 1)) :
    Calls Tryz.prog 18 #[.slice a n c, stampV id] w fun e w' => e = .returned (.tuple #[.string S, .int .i64 E]) ∧ Below w.heap.size w w' := by
  have HCL : Hid (∀ W, Below w.heap.size w W → _) := CL
  clear CL
  obtain ⟨t, u⟩ := id
  show Calls Tryz.prog _ #[.slice a n c, .agg #[.int .i64 t, .int .i64 u]] w _
  have A1 : Hid (Blk (w.alloc (.cells #[.int .i64 t, .int .i64 u] 36)) 36 w.heap.size #[.int .i64 t, .int .i64 u]) := Blk.new _ _ _
  have AB : Hid (Below w.heap.size w (w.alloc (.cells #[.int .i64 t, .int .i64 u] 36))) := below_new _ _
  go_enter Tryz.func18, Tryz.ntmps18
  go_wp2_with fail
  obtain ⟨w0, hw0⟩ : ∃ w0, w.alloc (.cells #[.int .i64 t, .int .i64 u] 36) = w0 := ⟨_, rfl⟩
  rw [hw0] at A1 AB
  try rw [hw0]
  clear hw0
  refine (HCL.out w0 AB.out).mono ?_
  rintro e w1 ⟨v, rfl, ho, hb1⟩
  have HB1 : Hid (Below w.heap.size w w1) := below_step AB.out (Nat.le_refl _) hb1
  have HS1 : Hid (Blk w1 36 w.heap.size #[.int .i64 t, .int .i64 u]) := A1.out.on hb1
  cases D with
  | false =>
    rw [if_neg (by simp)] at hE
    obtain ⟨rfl, rfl⟩ := hE
    rw [if_neg (by simp)]
    clear ho hb1 HCL A1 AB
    go_wp2_with fail
    go_ret2
    exact ⟨rfl, HB1.out⟩
  | true =>
    rw [if_pos rfl] at hE ho ⊢
    have HE : Hid (PathE R (t, u) S E) := hE
    obtain ⟨a1, c1, rfl, r1, _⟩ := OwnL.lines2 ho
    have HR1 : Hid (LinesAt w1 a1 R.length R) := r1
    obtain ⟨m, hm⟩ : ∃ m, R.length = m := ⟨_, rfl⟩
    have HM : Hid (R.length = m) := hm
    have HRz : Hid (∀ j, j < R.length → (lL R j).2.2.1.size ≤ 1048576) := hRz
    rw [hm] at HR1 hRl ⊢
    clear hE ho hb1 HCL A1 AB r1 hm hRz
    go_wp2_with fail
    go_loopw [8] (fun i wr => ∃ k : Nat, k ≤ m ∧ i = .int .i64 k ∧ Hid (∀ j, j < k → (lL R j).2.1 ≠ (t, u)) ∧ Hid (Below w1.heap.size w1 wr)) (fun i _ => m - (intOf i).toNat)
    case atStart => exact ⟨0, Nat.zero_le _, rfl, fun j hj => absurd hj (Nat.not_lt_zero _), Below.refl _ _⟩
    case round =>
      obtain ⟨k, hk, rfl, HN, HB⟩ := hrel
      by_cases hlt : k < m
      · have b0 : (k : Int) < (m : Int) := by omega
        obtain ⟨b, off, rfl, _⟩ := HR1.out.2.some (by omega)
        have hIr := HR1.out.below HB.out
        obtain ⟨_, x1, x2, _, _⟩ := hIr.cells k hlt
        have y0 : wr.cell? ⟨w.heap.size, 0, none⟩ = some (.int .i64 t) := (HS1.out.on HB.out).cell 0
        have y1 : wr.cell? ⟨w.heap.size, 1, none⟩ = some (.int .i64 u) := (HS1.out.on HB.out).cell 1
        have w9 : IntKind.i64.wrap ((k : Int) + 1) = ((k + 1 : Nat) : Int) := by rw [IntKind.wrap_i64]; omega
        by_cases he : (lL R k).2.1 = (t, u)
        · have hE := fun w => stampEq_is (lL R k).2.1 (t, u) true (decide_eq_true he) w
          obtain ⟨rfl, rfl⟩ := HE.out.yes (by rw [HM.out]; exact hlt) he HN.out
          have CP : Hid (∀ W, Below w1.heap.size w1 W → Calls Tryz.prog 39 #[.slice (some ⟨b, off, none⟩) m c1, .int .i64 k] W fun e w' => e = .returned (.string (pathB R k)) ∧ w' = W) := fun W hW => rpath_any R (some ⟨b, off, none⟩) m c1 k W (by omega) hlt (fun j hj => HRz.out j (by rw [HM.out]; exact hj)) (HR1.out.below hW)
          obtain ⟨⟨p, q⟩, hpq⟩ : ∃ s, s = (lL R k).2.1 := ⟨_, rfl⟩
          rw [← hpq] at x1 x2 hE
          simp only at x1 x2 hE
          obtain ⟨T, hT⟩ : ∃ T, pathB R k = T := ⟨_, rfl⟩
          simp only [hT] at CP ⊢
          have HT : Hid (pathB R k = T) := hT
          clear hpq he hIr HE HN hT
          go_wp2_with fail
          go_quiet (fail)
          go_wp2_with fail
          refine (CP.out _ (below_drewN HB.out _)).mono ?_
          rintro e w3 ⟨rfl, rfl⟩
          clear CP
          go_wp2_with fail
          go_ret2
          exact ⟨by rw [HT.out]; rfl, below_step HB1.out (Nat.le_refl _) (below_drewN HB.out _)⟩
        · have hE := fun w => stampEq_is (lL R k).2.1 (t, u) false (decide_eq_false he) w
          have HN' : Hid (∀ j, j < k + 1 → (lL R j).2.1 ≠ (t, u)) := fun j hj => by
            by_cases e : j = k
            · rw [e]; exact he
            · exact HN.out j (by omega)
          obtain ⟨⟨p, q⟩, hpq⟩ : ∃ s, s = (lL R k).2.1 := ⟨_, rfl⟩
          rw [← hpq] at x1 x2 hE
          simp only at x1 x2 hE
          clear hpq he hIr HN
          go_wp2_with fail
          go_quiet (fail)
          go_wp2_with fail
          refine ⟨?_, ?_⟩
          · exact ⟨k + 1, by omega, (by first | rfl | go_num | trivial), HN', below_drewN HB.out _⟩
          · simp [intOf] <;> omega
      · obtain rfl : k = m := by omega
        have b0 : ¬ ((k : Int) < (k : Int)) := by omega
        obtain ⟨rfl, rfl⟩ := HE.out.no (fun j hj => HN.out j (by rw [← HM.out]; exact hj))
        go_wp2_with fail
        go_ret2
        exact ⟨rfl, below_step HB1.out (Nat.le_refl _) HB.out⟩

set_option maxRecDepth 100000 in
set_option maxHeartbeats 8000000 in
theorem rfindP_any (p : ByteArray) (a : Option Addr) (n c : Nat) (w : World) (D : Bool) (R : List LineT) (hRl : R.length ≤ 90) (hRz : ∀ j, j < R.length → (lL R j).2.2.1.size ≤ 1048576)
    (CL : ∀ W, Below w.heap.size w W → Calls Tryz.prog 13 #[.slice a n c] W fun e w' => ∃ v, e = .returned (.tuple #[v, .int .i64 (if D = true then 0 else 1)]) ∧ OwnL w' W.heap.size v (if D = true then R else []) ∧ Below W.heap.size W w')
    (id : Int × Int) (E : Int) (hE : if D = true then (if p.size = 0 then (id = (0, 0) ∧ E = 0) else FindV R p id E) else (id = (0, 0) ∧ E = 1)) :
    Calls Tryz.prog 20 #[.slice a n c, .string p] w fun e w' => e = .returned (.tuple #[.agg #[.int .i64 id.1, .int .i64 id.2], .int .i64 E]) ∧ Below w.heap.size w w' := by
  have HCL : Hid (∀ W, Below w.heap.size w W → _) := CL
  clear CL
  obtain ⟨t, u⟩ := id
  have A1 : Hid (Blk (w.alloc (.cells #[.int .i64 0, .int .i64 0] 36)) 36 w.heap.size #[.int .i64 0, .int .i64 0]) := Blk.new _ _ _
  have AB : Hid (Below w.heap.size w (w.alloc (.cells #[.int .i64 0, .int .i64 0] 36))) := below_new _ _
  go_enter Tryz.func20, Tryz.ntmps20
  go_wp2_with fail
  obtain ⟨w0, hw0⟩ : ∃ w0, w.alloc (.cells #[.int .i64 0, .int .i64 0] 36) = w0 := ⟨_, rfl⟩
  rw [hw0] at A1 AB
  obtain ⟨h, hh⟩ : ∃ h, w.heap.size = h := ⟨_, rfl⟩
  have A2 : Hid (Blk w0 36 h #[.int .i64 0, .int .i64 0]) := by show Blk _ _ _ _; rw [← hh]; exact A1.out
  have HLo : Hid (w.heap.size ≤ h) := by show _ ≤ _; omega
  try rw [hw0]
  try rw [hh]
  clear hw0 hh A1
  refine (HCL.out w0 AB.out).mono ?_
  rintro e w1 ⟨v, rfl, ho, hb1⟩
  have HB1 : Hid (Below w.heap.size w w1) := below_step AB.out (Nat.le_refl _) hb1
  have HS1 : Hid (Blk w1 36 h #[.int .i64 0, .int .i64 0]) := A2.out.on hb1
  cases D with
  | false =>
    rw [if_neg (by simp)] at hE
    obtain ⟨he1, rfl⟩ := hE
    cases he1
    rw [if_neg (by simp)]
    have X1 := HS1.out
    clear ho hb1 HCL A2 AB
    go_wp2_with (with_reducible refine wpList_storeBlk rfl 36 _ _ rfl h #[.int .i64 0, .int .i64 0] #[.int .i64 0, .int .i64 0] (by with_unfolding_all rfl) (by with_unfolding_all rfl) X1 rfl (by kernel_rfl) (by kernel_rfl) ?_)
    exact bodyPost_rowTmp rfl h _ _ rfl rfl rfl (X1.setRow _) _ Tryz.underlying36 rfl (by kernel_rfl) ⟨rfl, below_setRow HB1.out HLo.out _⟩
  | true =>
    rw [if_pos rfl] at hE ho ⊢
    by_cases hp : p.size = 0
    · rw [if_pos hp] at hE
      obtain ⟨he1, rfl⟩ := hE
      cases he1
      obtain rfl : p = ⟨#[]⟩ := bt_ext _ _ hp (fun i hi => by omega)
      have X1 := HS1.out
      clear ho hb1 HCL A2 AB
      go_wp2_with (with_reducible refine wpList_storeBlk rfl 36 _ _ rfl h #[.int .i64 0, .int .i64 0] #[.int .i64 0, .int .i64 0] (by with_unfolding_all rfl) (by with_unfolding_all rfl) X1 rfl (by kernel_rfl) (by kernel_rfl) ?_)
      exact bodyPost_rowTmp rfl h _ _ rfl rfl rfl (X1.setRow _) _ Tryz.underlying36 rfl (by kernel_rfl) ⟨rfl, below_setRow HB1.out HLo.out _⟩
    · rw [if_neg hp] at hE
      have HE : Hid (FindV R p (t, u) E) := hE
      have h1 : ¬ p = ⟨#[]⟩ := fun e => hp (by rw [e]; rfl)
      have h4 : ¬ p.toList = [] := fun e => h1 (bytes_ext (by rw [toList_data] at e; exact e))
      have h3 : (p.toList == []) = false := by rw [beq_eq_false_iff_ne]; exact h4
      have h5 : p.toList.isEmpty = false := by cases hh : p.toList with | nil => exact absurd hh h4 | cons => rfl
      obtain ⟨a1, c1, rfl, r1, _⟩ := OwnL.lines2 ho
      have HR1 : Hid (LinesAt w1 a1 R.length R) := r1
      obtain ⟨m, hm⟩ : ∃ m, R.length = m := ⟨_, rfl⟩
      have HM : Hid (R.length = m) := hm
      have HRz : Hid (∀ j, j < R.length → (lL R j).2.2.1.size ≤ 1048576) := hRz
      rw [hm] at HR1 hRl ⊢
      clear hE ho hb1 HCL A2 AB r1 hm hRz
      go_wp2_with fail
      clear h1 h3 h4 h5
      go_loopw [8] (fun i wr => ∃ k : Nat, k ≤ m ∧ i = .int .i64 k ∧ Hid (∀ j, j < k → pathB R j ≠ p) ∧ Hid (Below w1.heap.size w1 wr)) (fun i _ => m - (intOf i).toNat)
      case atStart => exact ⟨0, Nat.zero_le _, rfl, fun j hj => absurd hj (Nat.not_lt_zero _), Below.refl _ _⟩
      case round =>
        obtain ⟨k, hk, rfl, HN, HB⟩ := hrel
        have X1 := HS1.out.on HB.out
        have HBf : Hid (Below w.heap.size w wr) := below_step HB1.out (Nat.le_refl _) HB.out
        by_cases hlt : k < m
        · have b0 : (k : Int) < (m : Int) := by omega
          obtain ⟨b, off, rfl, _⟩ := HR1.out.2.some (by omega)
          obtain ⟨_, x1, x2, _, _⟩ := (HR1.out.below HB.out).cells k hlt
          have CP : Hid (Calls Tryz.prog 39 #[.slice (some ⟨b, off, none⟩) m c1, .int .i64 k] wr fun e w' => e = .returned (.string (pathB R k)) ∧ w' = wr) := rpath_any R (some ⟨b, off, none⟩) m c1 k wr (by omega) hlt (fun j hj => HRz.out j (by rw [HM.out]; exact hj)) (HR1.out.below HB.out)
          have w9 : IntKind.i64.wrap ((k : Int) + 1) = ((k + 1 : Nat) : Int) := by rw [IntKind.wrap_i64]; omega
          have hbq := beq_bytesV (pathB R k) p
          by_cases he : pathB R k = p
          · obtain ⟨hid, rfl⟩ := HE.out.yes (by rw [HM.out]; exact hlt) he HN.out
            rw [decide_eq_true he] at hbq
            rw [← hid] at x1 x2
            simp only at x1 x2
            obtain ⟨T, hT⟩ : ∃ T, pathB R k = T := ⟨_, rfl⟩
            rw [hT] at CP hbq
            clear hid he hT HN HE
            go_wp2_with fail
            refine CP.out.mono ?_
            rintro e w3 ⟨rfl, rfl⟩
            clear CP
            go_wp2_with (with_reducible refine wpList_storeBlk rfl 36 _ _ rfl h #[.int .i64 0, .int .i64 0] #[.int .i64 t, .int .i64 u] (by with_unfolding_all rfl) (by with_unfolding_all rfl) X1 rfl (by kernel_rfl) (by kernel_rfl) ?_)
            exact bodyPost_rowTmp rfl h _ _ rfl rfl rfl (X1.setRow _) _ Tryz.underlying36 rfl (by kernel_rfl) ⟨rfl, below_setRow HBf.out HLo.out _⟩
          · rw [decide_eq_false he] at hbq
            have HN' : Hid (∀ j, j < k + 1 → pathB R j ≠ p) := fun j hj => by
              by_cases e : j = k
              · rw [e]; exact he
              · exact HN.out j (by omega)
            obtain ⟨T, hT⟩ : ∃ T, pathB R k = T := ⟨_, rfl⟩
            rw [hT] at CP hbq
            clear he hT HN X1
            go_wp2_with fail
            refine CP.out.mono ?_
            rintro e w3 ⟨rfl, rfl⟩
            clear CP
            go_wp2_with fail
            refine ⟨?_, ?_⟩
            · exact ⟨k + 1, by omega, (by first | rfl | go_num | trivial), HN', HB⟩
            · simp [intOf] <;> omega
        · obtain rfl : k = m := by omega
          have b0 : ¬ ((k : Int) < (k : Int)) := by omega
          obtain ⟨he1, rfl⟩ := HE.out.no (fun j hj => HN.out j (by rw [← HM.out]; exact hj))
          cases he1
          go_wp2_with (with_reducible refine wpList_storeBlk rfl 36 _ _ rfl h #[.int .i64 0, .int .i64 0] #[.int .i64 0, .int .i64 0] (by with_unfolding_all rfl) (by with_unfolding_all rfl) X1 rfl (by kernel_rfl) (by kernel_rfl) ?_)
          exact bodyPost_rowTmp rfl h _ _ rfl rfl rfl (X1.setRow _) _ Tryz.underlying36 rfl (by kernel_rfl) ⟨rfl, below_setRow HBf.out HLo.out _⟩
end Go.Proofs.YtebnmghjdoblaaaGreatDoor
