import Derived.Test.YtaakmcihpdbilaaGreatDoorR17
import Derived.Test.YtaakmcihpdbilaaGreatDoorBA
import Derived.LaidEqlPtr
import Derived.Laws.CopyOwn
/- Layer 17, the code's device: New, given, has, Size, Off, Writes; one that nobody made. -/
namespace Go.Proofs.YtaakmcihpdbilaaGreatDoor
open Go.RowKit
set_option maxRecDepth 100000
set_option linter.unusedSimpArgs false
set_option maxRecDepth 100000

/-- The bytes of blocks, one behind the other; blocks of 64 bytes each. -/
def flatB (L : List ByteArray) (j : Nat) : Nat := bt (strL L (j / 64)) (j % 64)

def AllB (L : List ByteArray) : Prop := ∀ i, i < L.length → (strL L i).size = 64

def RowC (w : World) (b : Nat) (L : List ByteArray) : Prop := ∃ cs, Blk w 70 b cs ∧ cs.size = 64 * L.length ∧ ∀ j, j < 64 * L.length → cs[j]? = some (.int .u8 ((flatB L j : Nat) : Int))

theorem RowC.on {w w' : World} {b : Nat} {L : List ByteArray} (h : RowC w b L) (hb : Below w.heap.size w w') : RowC w' b L := by
  obtain ⟨cs, h1, h2⟩ := h
  exact ⟨cs, h1.on hb, h2⟩
theorem RowC.lt {w : World} {b : Nat} {L : List ByteArray} (h : RowC w b L) : b < w.heap.size := by
  obtain ⟨cs, h1, _⟩ := h
  exact h1.lt
theorem RowC.kept {w w' : World} {b g : Nat} {r : Option Nat} {L : List ByteArray} (h : RowC w b L) (k : Kept2 g r w w') (hg : b ≠ g) (hr : some b ≠ r) : RowC w' b L := by
  obtain ⟨cs, h1, h2⟩ := h
  exact ⟨cs, h1.kept k hg hr, h2⟩
theorem RowC.other {w : World} {b : Nat} {L : List ByteArray} (h : RowC w b L) (p : Addr) (hp : b ≠ p.block) (u : Value) : RowC (w.setCell p u) b L := by
  obtain ⟨cs, h1, h2⟩ := h
  exact ⟨cs, h1.other p hp u, h2⟩

theorem AllB.set {L : List ByteArray} (h : AllB L) (k : Nat) (s : ByteArray) (hs : s.size = 64) : AllB (L.set k s) := by
  intro i hi
  rw [List.length_set] at hi
  have h1 := h i hi
  unfold strL at h1 ⊢
  rw [List.getD_eq_getElem?_getD, List.getElem?_set]
  by_cases e : k = i
  · subst e
    rw [if_pos rfl, if_pos hi]
    exact hs
  · rw [if_neg e, ← List.getD_eq_getElem?_getD]; exact h1
theorem strL_set (L : List ByteArray) (k i : Nat) (s : ByteArray) (hk : k < L.length) : strL (L.set k s) i = if i = k then s else strL L i := by
  unfold strL
  rw [List.getD_eq_getElem?_getD, List.getD_eq_getElem?_getD, List.getElem?_set]
  by_cases e : i = k
  · subst e
    rw [if_pos rfl, if_pos rfl, if_pos hk]; rfl
  · rw [if_neg (fun h => e h.symm), if_neg e]

/-- Block k is s now. -/
theorem RowC.put {w : World} {b : Nat} {L : List ByteArray} (cs : Array Value) (h1 : Blk w 70 b cs) (h2 : cs.size = 64 * L.length) (h3 : ∀ j, j < 64 * L.length → cs[j]? = some (.int .u8 ((flatB L j : Nat) : Int))) (k : Nat) (hk : k < L.length) (s : ByteArray) (hs : s.size = 64) :
    RowC (w.setRow b (splice cs.toList (k * 64) (Lib.strCells s)).toArray) b (L.set k s) := by
  have hl : (Lib.strCells s).length = 64 := by rw [Lib.strCells_length]; exact hs
  have hsz : (splice cs.toList (k * 64) (Lib.strCells s)).length = cs.size := by
    rw [length_splice _ _ _ (by rw [hl, Array.length_toList]; omega), Array.length_toList]
  refine ⟨_, h1.setRow _, by rw [List.size_toArray, hsz, List.length_set]; exact h2, fun j hj => ?_⟩
  rw [List.length_set] at hj
  unfold flatB
  rw [strL_set _ _ _ _ hk, List.getElem?_toArray]
  unfold splice
  have htl : (cs.toList.take (k * 64)).length = k * 64 := by rw [List.length_take, Array.length_toList]; omega
  by_cases c1 : j < k * 64
  · rw [List.getElem?_append_left (by rw [htl]; exact c1), List.getElem?_take, if_pos c1, Array.getElem?_toList, if_neg (by omega)]
    exact h3 j hj
  · rw [List.getElem?_append_right (by rw [htl]; omega), htl]
    by_cases c2 : j < k * 64 + 64
    · rw [List.getElem?_append_left (by rw [hl]; omega), strCells_bt s _ (by rw [hs]; omega), if_pos (by omega), show j - k * 64 = j % 64 by omega]
    · rw [List.getElem?_append_right (by rw [hl]; omega), hl, List.getElem?_drop, Array.getElem?_toList, if_neg (by omega), show k * 64 + 64 + (j - k * 64 - 64) = j by omega]
      exact h3 j hj

/-- 'copy' of a text into a block. -/
theorem run_copyK {P : Program} {w : World} (dT sT ty elem : TypeId) (g d n c : Nat) (s : ByteArray) (cur : Array Value) (t : TypeId)
    (hu : P.underlying dT = some (.slice elem)) (hs : (P.info? elem).map (·.size) = some 1) (hg : Blk w t g cur) (hle : s.size ≤ n) (hfit : d + s.size ≤ cur.size) :
    (Builtin.copy_ #[dT, sT] ty #[.slice (some ⟨g, d, none⟩) n c, .string s]).run P w = .ok (goInt s.size) (w.setRow g (splice cur.toList d (Lib.strCells s)).toArray) := by
  have hlen : (Lib.strCells s).length = s.size := Lib.strCells_length s
  have hst := run_storeCells_at P g d t (Lib.strCells s) 0 cur w hg (by rw [hlen]; omega) (by
    intro v hv
    unfold Lib.strCells at hv
    obtain ⟨x, _, rfl⟩ := List.mem_map.1 hv
    rfl)
  simp only [Nat.add_zero] at hst
  have hmin : Nat.min s.size n = s.size := Nat.min_eq_left hle
  have htk : List.take s.size (List.map (fun b : UInt8 => Value.int IntKind.u8 (b.toNat : Int)) s.data.toList) = Lib.strCells s := by
    rw [List.take_of_length_le (by rw [List.length_map, Array.length_toList]; exact Nat.le_refl _)]
    rfl
  cases hq : P.info? elem with
  | none => simp [hq] at hs
  | some i =>
    simp [Builtin.copy_, run_underlying hu, Builtin.lenOf, Builtin.firstCells, sizeOf, typeInfo, hq, hmin]
    rw [htk, hst]
    simp [Result.andThen, splice]

/-- A block's bytes are its text. -/
theorem RowC.conv {w : World} {b : Nat} {L : List ByteArray} (h : RowC w b L) (ha : AllB L) (k c : Nat) (hk : k < L.length) :
    (convert 43 9 (.slice (some ⟨b, k * 64, none⟩) 64 c)).run Tryz.prog w = .ok (.string (strL L k)) w := by
  obtain ⟨cs, h1, h2, h3⟩ := h
  have hr := run_convert_bytes_arg (P := Tryz.prog) w 43 5 Tryz.underlying43 Tryz.underlying5 b (k * 64) 64 c (tab 64 fun i => (bt (strL L k) i : Int)) (tab_length _ _) (fun i hi => by
    rw [tab_getD _ _ _ hi, h1.cell, h3 _ (by omega)]
    unfold flatB
    rw [show (k * 64 + i) / 64 = k by omega, show (k * 64 + i) % 64 = i by omega]) 9 Tryz.underlying9
  rw [hr]
  congr 2
  rw [← nums_bytesOf 64 (bt (strL L k)) (fun i _ => bt_lt _ i), str_nums]
  exact bytesOf_bt _ 64 (ha k hk)

/-- A device of the code at block g, its blocks at block b: as the document's, but that the fuse says nothing while it is off. -/
def DevAt (w : World) (g b : Nat) (D : DevT) : Prop :=
  ∃ F : Int, Blk w 57 g #[.pointer (some ⟨g, 0, none⟩), .slice (some ⟨b, 0, none⟩) D.1.length D.1.length, .bool D.2.2.1, .int .i64 F, .int .i64 D.2.2.2] ∧ RowC w b D.1 ∧ g ≠ b ∧ AllB D.1 ∧ D.1.length ≤ 4096 ∧ (D.2.2.1 = false → F = D.2.1) ∧ -1 ≤ F ∧ F ≤ 9223372036854775807

def DevBad (w : World) (g : Nat) : Prop := Blk w 57 g #[.pointer none, .slice none 0 0, .bool false, .int .i64 0, .int .i64 0]

def NoDev (w : World) (p : Value) : Prop := p = .pointer none ∨ ∃ g, p = .pointer (some ⟨g, 0, none⟩) ∧ DevBad w g

def DevTo (w : World) (g b : Nat) (D' : DevT) (w' : World) : Prop := DevAt w' g b D' ∧ Kept2 g (some b) w w'

theorem DevAt.on {w w' : World} {g b : Nat} {D : DevT} (h : DevAt w g b D) (hb : Below w.heap.size w w') : DevAt w' g b D := by
  obtain ⟨F, h1, h2, h3⟩ := h
  exact ⟨F, h1.on hb, h2.on hb, h3⟩
theorem DevAt.kept {w w' : World} {g b g' : Nat} {r : Option Nat} {D : DevT} (h : DevAt w g b D) (k : Kept2 g' r w w') (h1 : g ≠ g') (h2 : some g ≠ r) (h3 : b ≠ g') (h4 : some b ≠ r) : DevAt w' g b D := by
  obtain ⟨F, a1, a2, a3⟩ := h
  exact ⟨F, a1.kept k h1 h2, a2.kept k h3 h4, a3⟩
theorem DevAt.lt {w : World} {g b : Nat} {D : DevT} (h : DevAt w g b D) : g < w.heap.size ∧ b < w.heap.size := by
  obtain ⟨F, h1, h2, h3⟩ := h
  exact ⟨h1.lt, h2.lt⟩
theorem DevTo.same {w : World} {g b : Nat} {D : DevT} (h : DevAt w g b D) : DevTo w g b D w := ⟨h, Kept2.refl _ _ _⟩
theorem DevTo.below {w w' : World} {g b : Nat} {D' : DevT} (h : DevTo w g b D' w') (B : Nat) (hB : B ≤ w.heap.size) (hg : B ≤ g) (hb : B ≤ b) : Below B w w' := h.2.below B hB hg (fun k hk => by cases hk; exact hb)
theorem NoDev.on {w w' : World} {p : Value} (h : NoDev w p) (hb : Below w.heap.size w w') : NoDev w' p := h.imp id (fun ⟨g, e, h⟩ => ⟨g, e, Blk.on h hb⟩)

theorem Tryz.devInfo : (Tryz.prog.info? 57).map (·.size) = some 5 := by kernel_rfl

theorem eql_nil_ptr17 {P : Program} {tp te : TypeId} (w : World) (a : Addr) (hp : P.underlying tp = some (.pointer te)) : (binOp .eql tp (.pointer none) (.pointer (some a))).run P w = .ok (.bool false) w := by
  have h : ∀ d : Nat, (Op.equalIn (d + 1) tp (.pointer none) (.pointer (some a))).run P w = .ok false w := fun d => by
    simp [Op.equalIn, run_underlying hp]
  simp only [binOp]
  simp [Op.equal, Op.maxDepth, h 9999]

set_option maxHeartbeats 1000000 in
theorem dgiven_any (g b : Nat) (D : DevT) (w : World) (h : DevAt w g b D) :
    Calls Tryz.prog 37 #[.pointer (some ⟨g, 0, none⟩)] w fun e w' => e = .returned (.bool true) ∧ w' = w := by
  obtain ⟨F, h, _⟩ := h
  obtain ⟨j, hj, _⟩ := Option.map_eq_some_iff.1 Tryz.devInfo
  have c0 : w.cell? ⟨g, 0, none⟩ = some (.pointer (some ⟨g, 0, none⟩)) := h.cell 0
  have hq := run_eql_ptr_same (P := Tryz.prog) w ⟨g, 0, none⟩ Tryz.underlying24 hj
  clear h
  go_enter Tryz.func37, Tryz.ntmps37
  go_wp2
  go_ret
  exact ⟨rfl, rfl⟩

set_option maxHeartbeats 1000000 in
theorem dgiven_no (p : Value) (w : World) (h : NoDev w p) :
    Calls Tryz.prog 37 #[p] w fun e w' => e = .returned (.bool false) ∧ w' = w := by
  rcases h with rfl | ⟨g, rfl, h⟩
  · go_enter Tryz.func37, Tryz.ntmps37
    go_wp2
    go_ret
    exact ⟨rfl, rfl⟩
  · have c0 : w.cell? ⟨g, 0, none⟩ = some (.pointer none) := Blk.cell h 0
    have hq := eql_nil_ptr17 (P := Tryz.prog) w ⟨g, 0, none⟩ Tryz.underlying24
    go_enter Tryz.func37, Tryz.ntmps37
    go_wp2
    go_ret
    exact ⟨rfl, rfl⟩


set_option maxHeartbeats 1000000 in
theorem dsize_any (g b : Nat) (D : DevT) (w : World) (h : DevAt w g b D) :
    Calls Tryz.prog 32 #[.pointer (some ⟨g, 0, none⟩)] w fun e w' => e = .returned (.int .i64 (D.1.length : Int)) ∧ w' = w := by
  have HC : Hid (∀ w', w' = w → Calls Tryz.prog 37 #[.pointer (some ⟨g, 0, none⟩)] w' fun e w'' => e = .returned (.bool true) ∧ w'' = w') := fun w' e => by subst e; exact dgiven_any g b D _ h
  obtain ⟨F, h, _⟩ := h
  have c1 : w.cell? ⟨g, 1, none⟩ = some (.slice (some ⟨b, 0, none⟩) D.1.length D.1.length) := h.cell 1
  clear h
  go_enter Tryz.func32, Tryz.ntmps32
  go_wp2_with fail
  refine (HC.out _ rfl).mono ?_
  rintro e w1 ⟨rfl, hw1⟩
  subst hw1
  go_wp2
  go_ret
  exact ⟨rfl, rfl⟩

set_option maxHeartbeats 1000000 in
theorem dsize_no (p : Value) (w : World) (h : NoDev w p) :
    Calls Tryz.prog 32 #[p] w fun e w' => e = .returned (.int .i64 0) ∧ w' = w := by
  have HC : Hid (∀ w', w' = w → Calls Tryz.prog 37 #[p] w' fun e w'' => e = .returned (.bool false) ∧ w'' = w') := fun w' e => by subst e; exact dgiven_no p _ h
  clear h
  go_enter Tryz.func32, Tryz.ntmps32
  go_wp2_with fail
  refine (HC.out _ rfl).mono ?_
  rintro e w1 ⟨rfl, hw1⟩
  subst hw1
  go_wp2
  go_ret
  exact ⟨rfl, rfl⟩

set_option maxHeartbeats 1000000 in
theorem doff_any (g b : Nat) (D : DevT) (w : World) (h : DevAt w g b D) :
    Calls Tryz.prog 33 #[.pointer (some ⟨g, 0, none⟩)] w fun e w' => e = .returned (.bool D.2.2.1) ∧ w' = w := by
  have HC : Hid (∀ w', w' = w → Calls Tryz.prog 37 #[.pointer (some ⟨g, 0, none⟩)] w' fun e w'' => e = .returned (.bool true) ∧ w'' = w') := fun w' e => by subst e; exact dgiven_any g b D _ h
  obtain ⟨F, h, _⟩ := h
  have c1 : w.cell? ⟨g, 2, none⟩ = some (.bool D.2.2.1) := h.cell 2
  clear h
  go_enter Tryz.func33, Tryz.ntmps33
  go_wp2_with fail
  refine (HC.out _ rfl).mono ?_
  rintro e w1 ⟨rfl, hw1⟩
  subst hw1
  go_wp2
  go_ret
  exact ⟨rfl, rfl⟩

set_option maxHeartbeats 1000000 in
theorem doff_no (p : Value) (w : World) (h : NoDev w p) :
    Calls Tryz.prog 33 #[p] w fun e w' => e = .returned (.bool false) ∧ w' = w := by
  have HC : Hid (∀ w', w' = w → Calls Tryz.prog 37 #[p] w' fun e w'' => e = .returned (.bool false) ∧ w'' = w') := fun w' e => by subst e; exact dgiven_no p _ h
  clear h
  go_enter Tryz.func33, Tryz.ntmps33
  go_wp2_with fail
  refine (HC.out _ rfl).mono ?_
  rintro e w1 ⟨rfl, hw1⟩
  subst hw1
  go_wp2
  go_ret
  exact ⟨rfl, rfl⟩

end Go.Proofs.YtaakmcihpdbilaaGreatDoor

/- Layer 17, the code's device: has, New, Read, Fuse, On. -/
namespace Go.Proofs.YtaakmcihpdbilaaGreatDoor
open Go.RowKit
set_option maxRecDepth 100000
set_option linter.unusedSimpArgs false
set_option maxRecDepth 100000


set_option maxHeartbeats 1000000 in
theorem dhas_any (g b : Nat) (D : DevT) (k : Int) (w : World) (h : DevAt w g b D) (r : Bool) (hr : r = true ↔ MayB D k) :
    Calls Tryz.prog 28 #[.pointer (some ⟨g, 0, none⟩), .int .i64 k] w fun e w' => e = .returned (.bool r) ∧ w' = w := by
  have HC : Hid (∀ w', w' = w → Calls Tryz.prog 37 #[.pointer (some ⟨g, 0, none⟩)] w' fun e w'' => e = .returned (.bool true) ∧ w'' = w') := fun w' e => by subst e; exact dgiven_any g b D _ h
  obtain ⟨F, h, _⟩ := h
  have c1 : w.cell? ⟨g, 1, none⟩ = some (.slice (some ⟨b, 0, none⟩) D.1.length D.1.length) := h.cell 1
  clear h
  by_cases h0 : 0 ≤ k
  · have q0 : decide (0 ≤ k) = true := decide_eq_true h0
    by_cases h1 : k < (D.1.length : Int)
    · have q1 : decide (k < (D.1.length : Int)) = true := decide_eq_true h1
      obtain rfl : r = true := hr.2 ⟨h0, h1⟩
      clear hr
      go_enter Tryz.func28, Tryz.ntmps28
      go_wp2_with fail
      refine (HC.out _ rfl).mono ?_
      rintro e w1 ⟨rfl, hw1⟩
      subst hw1
      go_wp2
      go_ret
      exact ⟨rfl, rfl⟩
    · have q1 : decide (k < (D.1.length : Int)) = false := decide_eq_false h1
      obtain rfl : r = false := Bool.eq_false_iff.2 (fun e => h1 (hr.1 e).2)
      clear hr
      go_enter Tryz.func28, Tryz.ntmps28
      go_wp2_with fail
      refine (HC.out _ rfl).mono ?_
      rintro e w1 ⟨rfl, hw1⟩
      subst hw1
      go_wp2
      go_ret
      exact ⟨rfl, rfl⟩
  · have q0 : decide (0 ≤ k) = false := decide_eq_false h0
    obtain rfl : r = false := Bool.eq_false_iff.2 (fun e => h0 (hr.1 e).1)
    clear hr
    go_enter Tryz.func28, Tryz.ntmps28
    go_wp2_with fail
    refine (HC.out _ rfl).mono ?_
    rintro e w1 ⟨rfl, hw1⟩
    subst hw1
    go_wp2
    go_ret
    exact ⟨rfl, rfl⟩

set_option maxHeartbeats 1000000 in
theorem dhas_no (p : Value) (k : Int) (w : World) (h : NoDev w p) :
    Calls Tryz.prog 28 #[p, .int .i64 k] w fun e w' => e = .returned (.bool false) ∧ w' = w := by
  have HC : Hid (∀ w', w' = w → Calls Tryz.prog 37 #[p] w' fun e w'' => e = .returned (.bool false) ∧ w'' = w') := fun w' e => by subst e; exact dgiven_no p _ h
  clear h
  go_enter Tryz.func28, Tryz.ntmps28
  go_wp2_with fail
  refine (HC.out _ rfl).mono ?_
  rintro e w1 ⟨rfl, hw1⟩
  subst hw1
  go_wp2
  go_ret
  exact ⟨rfl, rfl⟩


set_option maxHeartbeats 1000000 in
theorem dread_no (p : Value) (k : Int) (w : World) (h : NoDev w p) :
    Calls Tryz.prog 14 #[p, .int .i64 k] w fun e w' => e = .returned (.tuple #[.string ⟨#[]⟩, .int .i64 1]) ∧ w' = w := by
  have HC : Hid (∀ w', w' = w → Calls Tryz.prog 28 #[p, .int .i64 k] w' fun e w'' => e = .returned (.bool false) ∧ w'' = w') := fun w' e => by subst e; exact dhas_no p k _ h
  clear h
  go_enter Tryz.func14, Tryz.ntmps14
  go_wp2_with fail
  refine (HC.out _ rfl).mono ?_
  rintro e w1 ⟨rfl, hw1⟩
  subst hw1
  go_wp2
  go_ret2
  exact ⟨rfl, rfl⟩

set_option maxHeartbeats 1000000 in
theorem dread_arg (g b : Nat) (D : DevT) (k : Int) (w : World) (h : DevAt w g b D) (hk : ¬ MayB D k) :
    Calls Tryz.prog 14 #[.pointer (some ⟨g, 0, none⟩), .int .i64 k] w fun e w' => e = .returned (.tuple #[.string ⟨#[]⟩, .int .i64 1]) ∧ w' = w := by
  have HC : Hid (∀ w', w' = w → Calls Tryz.prog 28 #[.pointer (some ⟨g, 0, none⟩), .int .i64 k] w' fun e w'' => e = .returned (.bool false) ∧ w'' = w') := fun w' e => by
    subst e
    exact dhas_any g b D k _ h false ⟨fun e => (by cases e), fun e => absurd e hk⟩
  clear h hk
  go_enter Tryz.func14, Tryz.ntmps14
  go_wp2_with fail
  refine (HC.out _ rfl).mono ?_
  rintro e w1 ⟨rfl, hw1⟩
  subst hw1
  go_wp2
  go_ret2
  exact ⟨rfl, rfl⟩

set_option maxHeartbeats 1000000 in
theorem dread_any (g b : Nat) (D : DevT) (k : Nat) (w : World) (h : DevAt w g b D) (hk : k < D.1.length) :
    Calls Tryz.prog 14 #[.pointer (some ⟨g, 0, none⟩), .int .i64 (k : Int)] w fun e w' => e = .returned (.tuple #[.string (readB D k).1, .int .i64 (readB D k).2]) ∧ w' = w := by
  have HC : Hid (∀ w', w' = w → Calls Tryz.prog 28 #[.pointer (some ⟨g, 0, none⟩), .int .i64 (k : Int)] w' fun e w'' => e = .returned (.bool true) ∧ w'' = w') := fun w' e => by
    subst e
    exact dhas_any g b D k _ h true ⟨fun _ => ⟨by omega, by omega⟩, fun _ => rfl⟩
  obtain ⟨F, h, hr, _, ha, hl, _⟩ := h
  have c1 : w.cell? ⟨g, 1, none⟩ = some (.slice (some ⟨b, 0, none⟩) D.1.length D.1.length) := h.cell 1
  have c2 : w.cell? ⟨g, 2, none⟩ = some (.bool D.2.2.1) := h.cell 2
  have hcv := hr.conv ha k 64 hk
  have q1 : (k : Int) < (D.1.length : Int) := by omega
  have q0 : (0 : Int) ≤ (k : Int) := by omega
  unfold readB
  clear h hr ha
  obtain ⟨L, F2, O, N⟩ := D
  simp only at c1 c2 hcv q1 hk hl ⊢
  cases O with
  | true =>
    go_enter Tryz.func14, Tryz.ntmps14
    go_wp2_with fail
    refine (HC.out _ rfl).mono ?_
    rintro e w1 ⟨rfl, hw1⟩
    subst hw1
    go_wp2
    go_ret2
    exact ⟨rfl, rfl⟩
  | false =>
    go_enter Tryz.func14, Tryz.ntmps14
    go_wp2_with fail
    refine (HC.out _ rfl).mono ?_
    rintro e w1 ⟨rfl, hw1⟩
    subst hw1
    go_wp2
    go_ret2
    exact ⟨rfl, rfl⟩

set_option maxHeartbeats 1000000 in
theorem don_no (p : Value) (w : World) (h : NoDev w p) :
    Calls Tryz.prog 18 #[p] w fun e w' => e = .returned (.int .i64 1) ∧ w' = w := by
  have HC : Hid (∀ w', w' = w → Calls Tryz.prog 37 #[p] w' fun e w'' => e = .returned (.bool false) ∧ w'' = w') := fun w' e => by subst e; exact dgiven_no p _ h
  clear h
  go_enter Tryz.func18, Tryz.ntmps18
  go_wp2_with fail
  refine (HC.out _ rfl).mono ?_
  rintro e w1 ⟨rfl, hw1⟩
  subst hw1
  go_wp2
  go_ret
  exact ⟨rfl, rfl⟩

set_option maxHeartbeats 1000000 in
theorem dfuse_no (p : Value) (k : Int) (w : World) (h : NoDev w p) :
    Calls Tryz.prog 27 #[p, .int .i64 k] w fun e w' => e = .returned (.int .i64 1) ∧ w' = w := by
  have HC : Hid (∀ w', w' = w → Calls Tryz.prog 37 #[p] w' fun e w'' => e = .returned (.bool false) ∧ w'' = w') := fun w' e => by subst e; exact dgiven_no p _ h
  clear h
  go_enter Tryz.func27, Tryz.ntmps27
  go_wp2_with fail
  refine (HC.out _ rfl).mono ?_
  rintro e w1 ⟨rfl, hw1⟩
  subst hw1
  go_wp2
  go_ret
  exact ⟨rfl, rfl⟩

/-- The cells of a device turned: its blocks stay. -/
theorem DevAt.turn {w w' : World} {g b : Nat} {D D' : DevT} {F : Int} (h : DevAt w g b D) (hL : D'.1 = D.1) (hk : Kept2 g none w w') (hb : Blk w' 57 g #[.pointer (some ⟨g, 0, none⟩), .slice (some ⟨b, 0, none⟩) D.1.length D.1.length, .bool D'.2.2.1, .int .i64 F, .int .i64 D'.2.2.2]) (hF : D'.2.2.1 = false → F = D'.2.1) (h1 : -1 ≤ F) (h2 : F ≤ 9223372036854775807) : DevTo w g b D' w' := by
  obtain ⟨F0, _, a2, a3, a4, a5, _⟩ := h
  refine ⟨⟨F, by rw [hL]; exact hb, by rw [hL]; exact a2.kept hk (fun e => a3 e.symm) (fun e => by cases e), a3, by rw [hL]; exact a4, by rw [hL]; exact a5, hF, h1, h2⟩, ⟨hk.os, hk.tape, hk.output, hk.size, fun k h1 h2 _ => hk.block k h1 h2 (fun e => by cases e)⟩⟩

set_option maxHeartbeats 2000000 in
theorem don_any (g b : Nat) (D : DevT) (w : World) (h : DevAt w g b D) :
    Calls Tryz.prog 18 #[.pointer (some ⟨g, 0, none⟩)] w fun e w' => e = .returned (.int .i64 0) ∧ DevTo w g b (onB D) w' := by
  have HC : Hid (∀ w', w' = w → Calls Tryz.prog 37 #[.pointer (some ⟨g, 0, none⟩)] w' fun e w'' => e = .returned (.bool true) ∧ w'' = w') := fun w' e => by subst e; exact dgiven_any g b D _ h
  obtain ⟨F, hb, _⟩ := id h
  have H : Hid (DevAt w g b D) := h
  have HB : Hid (Blk w 57 g #[.pointer (some ⟨g, 0, none⟩), .slice (some ⟨b, 0, none⟩) D.1.length D.1.length, .bool D.2.2.1, .int .i64 F, .int .i64 D.2.2.2]) := hb
  have c2 : w.cell? ⟨g, 2, none⟩ = some (.bool D.2.2.1) := hb.cell 2
  have f2 := hb.free 2
  have c3 : (w.setCell ⟨g, 2, none⟩ (.bool false)).cell? ⟨g, 3, none⟩ = some (.int .i64 F) := (hb.setAt 2 _).cell 3
  have f3 := (hb.setAt 2 (.bool false)).free 3
  clear hb h
  go_enter Tryz.func18, Tryz.ntmps18
  go_wp2_with fail
  refine (HC.out _ rfl).mono ?_
  rintro e w1 ⟨rfl, hw1⟩
  subst hw1
  go_wp2
  go_ret
  refine ⟨rfl, H.out.turn rfl (((Kept2.refl g none w1).setCell ⟨g, 2, none⟩ rfl _).setCell ⟨g, 3, none⟩ rfl _) ((HB.out.setAt 2 _).setAt 3 _) (fun _ => rfl) (by decide) (by decide)⟩


set_option maxHeartbeats 2000000 in
theorem dfuse_any (g b : Nat) (D : DevT) (n : Int) (w : World) (h : DevAt w g b D) (hn : n ≤ 9223372036854775807) :
    Calls Tryz.prog 27 #[.pointer (some ⟨g, 0, none⟩), .int .i64 n] w fun e w' => e = .returned (.int .i64 0) ∧ DevTo w g b (fuseB D n) w' := by
  have HC : Hid (∀ w', w' = w → Calls Tryz.prog 37 #[.pointer (some ⟨g, 0, none⟩)] w' fun e w'' => e = .returned (.bool true) ∧ w'' = w') := fun w' e => by subst e; exact dgiven_any g b D _ h
  obtain ⟨F, hb, _⟩ := id h
  have H : Hid (DevAt w g b D) := h
  have HB : Hid (Blk w 57 g #[.pointer (some ⟨g, 0, none⟩), .slice (some ⟨b, 0, none⟩) D.1.length D.1.length, .bool D.2.2.1, .int .i64 F, .int .i64 D.2.2.2]) := hb
  have c3 : w.cell? ⟨g, 3, none⟩ = some (.int .i64 F) := hb.cell 3
  have f3 := hb.free 3
  clear hb h
  by_cases h1 : n < -1
  · skip
    go_enter Tryz.func27, Tryz.ntmps27
    go_wp2_with fail
    refine (HC.out _ rfl).mono ?_
    rintro e w1 ⟨rfl, hw1⟩
    subst hw1
    go_wp2
    go_ret
    refine ⟨rfl, H.out.turn rfl ((Kept2.refl g none w1).setCell ⟨g, 3, none⟩ rfl _) (HB.out.setAt 3 _) (fun _ => by unfold fuseB; simp only; omega) (by omega) (by omega)⟩
  · skip
    go_enter Tryz.func27, Tryz.ntmps27
    go_wp2_with fail
    refine (HC.out _ rfl).mono ?_
    rintro e w1 ⟨rfl, hw1⟩
    subst hw1
    go_wp2
    go_ret
    refine ⟨rfl, H.out.turn rfl ((Kept2.refl g none w1).setCell ⟨g, 3, none⟩ rfl _) (HB.out.setAt 3 _) (fun _ => by unfold fuseB; simp only; omega) (by omega) (by omega)⟩

theorem Tryz.infoCell : (Tryz.prog.info? 70).map (fun i => (i.zero, i.size, i.bytes)) = some (some (.agg (List.replicate 64 (Value.int .u8 0)).toArray), 64, 64) := by kernel_rfl

theorem bt_noughts (m i : Nat) : bt (zeroB m) i = 0 := by
  rw [bt_eq]
  unfold zeroB
  by_cases h : i < m
  · simp [h]
  · simp [h]
theorem made_noughts (m n j : Nat) (hm : 0 < m) (hj : j < m * n) : (madeCells (Value.agg (List.replicate m (Value.int .u8 0)).toArray).cells (n * m))[j]? = some (.int .u8 (((0 : Nat)) : Int)) := by
  have hj2 : j < n * m := by rw [Nat.mul_comm]; exact hj
  have h6 : j % m < m := Nat.mod_lt _ hm
  unfold madeCells
  simp [hj2, Value.cells, h6]

theorem made_blocks (w : World) (n : Nat) (hn : n ≤ 4096) :
    ∃ w', (Instr.makeSlice 55 (.int .i64 (n : Int)) (.int .i64 (n : Int))).run Tryz.prog w = .ok (.slice (some ⟨w.heap.size, 0, none⟩) n n) w' ∧ RowC w' w.heap.size (List.replicate n (zeroB 64)) ∧ Below w.heap.size w w' ∧ w'.heap.size = w.heap.size + 1 := by
  obtain ⟨i0, hi, hz0, hz1, hz2⟩ := info_parts Tryz.infoCell
  have hr := run_make (P := Tryz.prog) w 55 70 i0 _ Tryz.underlying55 hi hz0 .i64 .i64 n n (by omega) (Int.le_refl _) (by rw [hz2]; omega) (by omega)
  rw [hz1, Int.toNat_natCast] at hr
  refine ⟨_, hr, ⟨_, Blk.new _ _ _, by rw [size_madeCells, List.length_replicate]; omega, fun j hj => ?_⟩, below_new w _, by simp⟩
  rw [List.length_replicate] at hj
  have e1 : flatB (List.replicate n (zeroB 64)) j = 0 := by
    unfold flatB strL
    rw [List.getD_eq_getElem?_getD, List.getElem?_replicate, if_pos (by omega)]
    exact bt_noughts 64 _
  rw [e1]
  exact made_noughts 64 n j (by decide) hj

set_option maxHeartbeats 1000000 in
theorem dnew_no (n : Int) (w : World) (h : ¬ (1 ≤ n ∧ n ≤ 4096)) :
    Calls Tryz.prog 5 #[.int .i64 n] w fun e w' => e = .returned (.tuple #[.pointer none, .int .i64 1]) ∧ w' = w := by
  by_cases h0 : n < 1
  · have q0 : decide (n < 1) = true := decide_eq_true h0
    clear h
    go_enter Tryz.func5, Tryz.ntmps5
    go_wp2
    go_ret2
    exact ⟨rfl, rfl⟩
  · have q0 : decide (n < 1) = false := decide_eq_false h0
    have q1 : decide (4096 < n) = true := decide_eq_true (by omega)
    clear h
    go_enter Tryz.func5, Tryz.ntmps5
    go_wp2
    go_ret2
    exact ⟨rfl, rfl⟩

theorem newB_all (n : Nat) : AllB (newB n).1 := by
  intro i hi
  unfold newB at hi ⊢
  simp only [List.length_replicate] at hi
  unfold strL
  rw [List.getD_eq_getElem?_getD, List.getElem?_replicate, if_pos hi]
  rfl

set_option maxHeartbeats 2000000 in
theorem dnew_any (n : Nat) (w : World) (h : 1 ≤ n ∧ n ≤ 4096) :
    Calls Tryz.prog 5 #[.int .i64 (n : Int)] w fun e w' => ∃ g b, e = .returned (.tuple #[.pointer (some ⟨g, 0, none⟩), .int .i64 0]) ∧ DevAt w' g b (newB n) ∧ w.heap.size ≤ g ∧ w.heap.size ≤ b ∧ Below w.heap.size w w' := by
  have q0 : decide ((n : Int) < 1) = false := decide_eq_false (by omega)
  have q1 : decide ((4096 : Int) < (n : Int)) = false := decide_eq_false (by omega)
  obtain ⟨w2, hmk, R2, hb2, hs2⟩ := made_blocks w n h.2
  have HR2 : Hid (RowC w2 w.heap.size (List.replicate n (zeroB 64))) := R2
  have HB2 : Hid (Below w.heap.size w w2) := hb2
  have HS2 : Hid (w2.heap.size = w.heap.size + 1) := hs2
  have A1 : Blk (w2.alloc (.cells #[.pointer none, .slice (some ⟨w.heap.size, 0, none⟩) n n, .bool false, .int .i64 (-1), .int .i64 0] 57)) 57 w2.heap.size #[.pointer none, .slice (some ⟨w.heap.size, 0, none⟩) n n, .bool false, .int .i64 (-1), .int .i64 0] := Blk.new _ _ _
  have c0 : (w2.alloc (.cells #[.pointer none, .slice (some ⟨w.heap.size, 0, none⟩) n n, .bool false, .int .i64 (-1), .int .i64 0] 57)).cell? ⟨w2.heap.size, 0, none⟩ = some (.pointer none) := A1.cell 0
  have f0 := A1.free 0
  have HA : Hid (Blk (w2.alloc (.cells #[.pointer none, .slice (some ⟨w.heap.size, 0, none⟩) n n, .bool false, .int .i64 (-1), .int .i64 0] 57)) 57 w2.heap.size #[.pointer none, .slice (some ⟨w.heap.size, 0, none⟩) n n, .bool false, .int .i64 (-1), .int .i64 0]) := A1
  have HN : Hid (n ≤ 4096) := h.2
  clear A1 R2 hb2 hs2 h
  go_enter Tryz.func5, Tryz.ntmps5
  go_wp2
  go_ret2
  have hs := HS2.out
  have hlen : (newB n).1.length = n := by unfold newB; simp
  refine ⟨_, _, rfl, ⟨-1, ?_, HR2.out.on (below_new w2 _), by omega, newB_all n, by rw [hlen]; exact HN.out, fun _ => rfl, by decide, by decide⟩, by omega, Nat.le_refl _, HB2.out.alloc (by omega) _⟩
  rw [hlen]
  exact Blk.new _ _ _

end Go.Proofs.YtaakmcihpdbilaaGreatDoor

/- Layer 17, the code's device: burn, Write. -/
namespace Go.Proofs.YtaakmcihpdbilaaGreatDoor
open Go.RowKit
set_option maxRecDepth 100000
set_option linter.unusedSimpArgs false
set_option maxRecDepth 100000

theorem Tryz.sizeU8 : (Tryz.prog.info? 5).map (·.size) = some 1 := by kernel_rfl

theorem Kept2.setRowR {g b : Nat} {a w : World} (h : Kept2 g (some b) a w) (cs : Array Value) : Kept2 g (some b) a (w.setRow b cs) :=
  ⟨h.os, h.tape, h.output, by have := h.size; simpa [World.setRow] using this, fun k hk hg hr => by rw [setRow_other w b k cs (fun e => hr (by rw [e]))]; exact h.block k hk hg hr⟩


set_option maxHeartbeats 2000000 in
theorem dburn_no (g b : Nat) (D : DevT) (w : World) (h : DevAt w g b D) (ho : D.2.2.1 = true ∨ D.2.1 = 0) :
    Calls Tryz.prog 29 #[.pointer (some ⟨g, 0, none⟩)] w fun e w' => e = .returned (.bool false) ∧ DevTo w g b (offB D) w' := by
  obtain ⟨F, hb, _, _, _, _, hF, h1, h2⟩ := id h
  have H : Hid (DevAt w g b D) := h
  have HB : Hid (Blk w 57 g #[.pointer (some ⟨g, 0, none⟩), .slice (some ⟨b, 0, none⟩) D.1.length D.1.length, .bool D.2.2.1, .int .i64 F, .int .i64 D.2.2.2]) := hb
  have HX : Hid (-1 ≤ F ∧ F ≤ 9223372036854775807) := ⟨h1, h2⟩
  have c2 : w.cell? ⟨g, 2, none⟩ = some (.bool D.2.2.1) := hb.cell 2
  have c3 : w.cell? ⟨g, 3, none⟩ = some (.int .i64 F) := hb.cell 3
  by_cases hf : F = 0
  · subst hf
    have f2 := hb.free 2
    have c3' : (w.setCell ⟨g, 2, none⟩ (.bool true)).cell? ⟨g, 3, none⟩ = some (.int .i64 0) := (hb.setAt 2 _).cell 3
    have f3 := (hb.setAt 2 (.bool true)).free 3
    have c2' : ((w.setCell ⟨g, 2, none⟩ (.bool true)).setCell ⟨g, 3, none⟩ (.int .i64 (-1))).cell? ⟨g, 2, none⟩ = some (.bool true) := ((hb.setAt 2 (.bool true)).setAt 3 (.int .i64 (-1))).cell 2
    clear hb h hF h1 h2 ho
    go_enter Tryz.func29, Tryz.ntmps29
    go_wp2
    go_ret
    exact ⟨rfl, H.out.turn rfl (((Kept2.refl g none w).setCell ⟨g, 2, none⟩ rfl _).setCell ⟨g, 3, none⟩ rfl _) ((HB.out.setAt 2 _).setAt 3 _) (fun _ => rfl) (by decide) (by decide)⟩
  · have ht : D.2.2.1 = true := by
      rcases ho with e | e
      · exact e
      · cases hh : D.2.2.1 with
        | true => rfl
        | false => exact absurd ((hF hh).trans e) hf
    have q3 : (F == 0) = false := by rw [beq_eq_false_iff_ne]; exact hf
    rw [ht] at c2
    rw [ht] at HB
    clear hb h hF h1 h2 ho
    go_enter Tryz.func29, Tryz.ntmps29
    go_wp2
    go_ret
    exact ⟨rfl, H.out.turn (F := F) rfl (Kept2.refl g none w) HB.out (fun e => by cases e) HX.out.1 HX.out.2⟩

/-- A device behind a write's power. -/
def burnB (D : DevT) : DevT := (D.1, (if 0 < D.2.1 then D.2.1 - 1 else D.2.1), false, D.2.2.2)

set_option maxHeartbeats 2000000 in
theorem dburn_yes (g b : Nat) (D : DevT) (w : World) (h : DevAt w g b D) (ho : D.2.2.1 = false) (hf : D.2.1 ≠ 0) :
    Calls Tryz.prog 29 #[.pointer (some ⟨g, 0, none⟩)] w fun e w' => e = .returned (.bool true) ∧ DevTo w g b (burnB D) w' := by
  obtain ⟨F, hb, _, _, _, _, hF, h1, h2⟩ := id h
  obtain rfl := hF ho
  rw [ho] at hb
  have H : Hid (DevAt w g b D) := h
  have HB : Hid (Blk w 57 g #[.pointer (some ⟨g, 0, none⟩), .slice (some ⟨b, 0, none⟩) D.1.length D.1.length, .bool false, .int .i64 D.2.1, .int .i64 D.2.2.2]) := hb
  have c2 : w.cell? ⟨g, 2, none⟩ = some (.bool false) := hb.cell 2
  have c3 : w.cell? ⟨g, 3, none⟩ = some (.int .i64 D.2.1) := hb.cell 3
  have f3 := hb.free 3
  have q3 : (D.2.1 == 0) = false := by rw [beq_eq_false_iff_ne]; exact hf
  clear hb h hF
  generalize hz : D.2.1 = z at *
  by_cases hm : z = -1
  · subst hm
    clear h1 h2 q3 hf
    go_enter Tryz.func29, Tryz.ntmps29
    go_wp2
    go_ret
    exact ⟨rfl, H.out.turn (F := -1) rfl (Kept2.refl g none w) HB.out (fun _ => by unfold burnB; simp only [hz]; rfl) (by decide) (by decide)⟩
  · have q4 : (z != -1) = true := by rw [bne_iff_ne]; exact hm
    have q5 : Hid (0 < z ∧ z ≤ 9223372036854775807) := ⟨by omega, h2⟩
    have wr : IntKind.i64.wrap (z - 1) = z - 1 := by rw [IntKind.wrap_i64]; omega
    clear h1 h2 hm hf
    go_enter Tryz.func29, Tryz.ntmps29
    go_wp2
    go_ret
    have := q5.out
    exact ⟨rfl, H.out.turn (F := z - 1) rfl ((Kept2.refl g none w).setCell ⟨g, 3, none⟩ rfl _) (HB.out.setAt 3 _) (fun _ => by unfold burnB; simp only [hz]; rw [if_pos this.1]) (by omega) (by omega)⟩


set_option maxHeartbeats 1000000 in
theorem dwrite_no (p : Value) (k : Int) (s : ByteArray) (w : World) (h : NoDev w p) :
    Calls Tryz.prog 11 #[p, .int .i64 k, .string s] w fun e w' => e = .returned (.int .i64 1) ∧ w' = w := by
  have HC : Hid (∀ w', w' = w → Calls Tryz.prog 28 #[p, .int .i64 k] w' fun e w'' => e = .returned (.bool false) ∧ w'' = w') := fun w' e => by subst e; exact dhas_no p k _ h
  clear h
  go_enter Tryz.func11, Tryz.ntmps11
  go_wp2_with fail
  refine (HC.out _ rfl).mono ?_
  rintro e w1 ⟨rfl, hw1⟩
  subst hw1
  go_wp2
  go_ret
  exact ⟨rfl, rfl⟩

set_option maxHeartbeats 1000000 in
theorem dwrite_arg (g b : Nat) (D : DevT) (k : Int) (s : ByteArray) (w : World) (h : DevAt w g b D) (hk : ¬ MayWr D k s) :
    Calls Tryz.prog 11 #[.pointer (some ⟨g, 0, none⟩), .int .i64 k, .string s] w fun e w' => e = .returned (.int .i64 1) ∧ w' = w := by
  by_cases h0 : MayB D k
  · have HC : Hid (∀ w', w' = w → Calls Tryz.prog 28 #[.pointer (some ⟨g, 0, none⟩), .int .i64 k] w' fun e w'' => e = .returned (.bool true) ∧ w'' = w') := fun w' e => by
      subst e
      exact dhas_any g b D k _ h true ⟨fun _ => h0, fun _ => rfl⟩
    have q2 : ((s.size : Int) != 64) = true := by rw [bne_iff_ne]; exact fun e => hk ⟨h0, by omega⟩
    clear h hk h0
    go_enter Tryz.func11, Tryz.ntmps11
    go_wp2_with fail
    refine (HC.out _ rfl).mono ?_
    rintro e w1 ⟨rfl, hw1⟩
    subst hw1
    go_wp2
    go_ret
    exact ⟨rfl, rfl⟩
  · have HC : Hid (∀ w', w' = w → Calls Tryz.prog 28 #[.pointer (some ⟨g, 0, none⟩), .int .i64 k] w' fun e w'' => e = .returned (.bool false) ∧ w'' = w') := fun w' e => by
      subst e
      exact dhas_any g b D k _ h false ⟨fun e => (by cases e), fun e => absurd e h0⟩
    clear h hk h0
    go_enter Tryz.func11, Tryz.ntmps11
    go_wp2_with fail
    refine (HC.out _ rfl).mono ?_
    rintro e w1 ⟨rfl, hw1⟩
    subst hw1
    go_wp2
    go_ret
    exact ⟨rfl, rfl⟩

set_option maxHeartbeats 1000000 in
theorem dwrite_off (g b : Nat) (D : DevT) (k : Nat) (s : ByteArray) (w : World) (h : DevAt w g b D) (hk : k < D.1.length) (hs : s.size = 64) (ho : D.2.2.1 = true ∨ D.2.1 = 0) :
    Calls Tryz.prog 11 #[.pointer (some ⟨g, 0, none⟩), .int .i64 (k : Int), .string s] w fun e w' => e = .returned (.int .i64 170) ∧ DevTo w g b (offB D) w' := by
  have HC : Hid (∀ w', w' = w → Calls Tryz.prog 28 #[.pointer (some ⟨g, 0, none⟩), .int .i64 (k : Int)] w' fun e w'' => e = .returned (.bool true) ∧ w'' = w') := fun w' e => by
    subst e
    exact dhas_any g b D k _ h true ⟨fun _ => ⟨by omega, by omega⟩, fun _ => rfl⟩
  have CB : Hid (∀ w', w' = w → Calls Tryz.prog 29 #[.pointer (some ⟨g, 0, none⟩)] w' fun e w'' => e = .returned (.bool false) ∧ DevTo w' g b (offB D) w'') := fun w' e => by subst e; exact dburn_no g b D _ h ho
  have q2 : ((s.size : Int) != 64) = false := by rw [bne_eq_false_iff_eq]; omega
  clear h hk ho hs
  go_enter Tryz.func11, Tryz.ntmps11
  go_wp2_with fail
  refine (HC.out _ rfl).mono ?_
  rintro e w1 ⟨rfl, hw1⟩
  subst hw1
  go_wp2_with fail
  refine (CB.out _ rfl).mono ?_
  rintro e w2 ⟨rfl, hd⟩
  go_wp2
  go_ret
  exact ⟨rfl, hd⟩

set_option maxHeartbeats 2000000 in
theorem dwrite_yes (g b : Nat) (D : DevT) (k : Nat) (s : ByteArray) (w : World) (h : DevAt w g b D) (hk : k < D.1.length) (hs : s.size = 64) (ho : D.2.2.1 = false) (hf : D.2.1 ≠ 0) (hN : 0 ≤ D.2.2.2 ∧ D.2.2.2 < 1152921504606846976) :
    Calls Tryz.prog 11 #[.pointer (some ⟨g, 0, none⟩), .int .i64 (k : Int), .string s] w fun e w' => e = .returned (.int .i64 0) ∧ DevTo w g b (writeB D k s).1 w' := by
  have HC : Hid (∀ w', w' = w → Calls Tryz.prog 28 #[.pointer (some ⟨g, 0, none⟩), .int .i64 (k : Int)] w' fun e w'' => e = .returned (.bool true) ∧ w'' = w') := fun w' e => by
    subst e
    exact dhas_any g b D k _ h true ⟨fun _ => ⟨by omega, by omega⟩, fun _ => rfl⟩
  have CB : Hid (∀ w', w' = w → Calls Tryz.prog 29 #[.pointer (some ⟨g, 0, none⟩)] w' fun e w'' => e = .returned (.bool true) ∧ DevTo w' g b (burnB D) w'') := fun w' e => by subst e; exact dburn_yes g b D _ h ho hf
  have q2 : ((s.size : Int) != 64) = false := by rw [bne_eq_false_iff_eq]; omega
  have HX : Hid (s.size = 64 ∧ k < D.1.length ∧ D.2.2.1 = false ∧ D.2.1 ≠ 0) := ⟨hs, hk, ho, hf⟩
  have q1 : (k : Int) < (D.1.length : Int) := by omega
  have q0 : (0 : Int) ≤ (k : Int) := by omega
  have wr : IntKind.i64.wrap (D.2.2.2 + 1) = D.2.2.2 + 1 := by rw [IntKind.wrap_i64]; omega
  clear h hk ho hs hf hN
  go_enter Tryz.func11, Tryz.ntmps11
  go_wp2_with fail
  refine (HC.out _ rfl).mono ?_
  rintro e w1 ⟨rfl, hw1⟩
  subst hw1
  go_wp2_with fail
  refine (CB.out _ rfl).mono ?_
  rintro e w2 ⟨rfl, hd⟩
  obtain ⟨hs, hk, ho, hf⟩ := HX.out
  obtain ⟨⟨F, hb, hr, hne, ha, hl, hF, h1, h2⟩, hk2⟩ := hd
  obtain ⟨cs, r1, r2, r3⟩ := hr
  have c1 : w2.cell? ⟨g, 1, none⟩ = some (.slice (some ⟨b, 0, none⟩) D.1.length D.1.length) := hb.cell 1
  have r2' : cs.size = 64 * D.1.length := r2
  have hcp := fun ty => run_copyK (P := Tryz.prog) 43 9 ty 5 b (k * 64) 64 64 s cs 70 Tryz.underlying43 Tryz.sizeU8 r1 (by omega) (by omega)
  have hrp : RowC (w2.setRow b (splice cs.toList (k * 64) (Lib.strCells s)).toArray) b (D.1.set k s) := RowC.put cs r1 r2 r3 k hk s hs
  have hb3 := hb.setRowOther b hne (splice cs.toList (k * 64) (Lib.strCells s)).toArray
  have hk3 : Kept2 g (some b) w1 (w2.setRow b (splice cs.toList (k * 64) (Lib.strCells s)).toArray) := hk2.setRowR _
  generalize w2.setRow b (splice cs.toList (k * 64) (Lib.strCells s)).toArray = w3 at *
  have c4 : w3.cell? ⟨g, 4, none⟩ = some (.int .i64 D.2.2.2) := hb3.cell 4
  have f4 := hb3.free 4
  have HZ : Hid (RowC w3 b (D.1.set k s) ∧ Kept2 g (some b) w1 w3 ∧ AllB D.1 ∧ D.1.length ≤ 4096 ∧ F = (burnB D).2.1 ∧ -1 ≤ F ∧ F ≤ 9223372036854775807) := ⟨hrp, hk3, ha, hl, hF rfl, h1, h2⟩
  have HB3 : Hid (Blk w3 57 g #[.pointer (some ⟨g, 0, none⟩), .slice (some ⟨b, 0, none⟩) D.1.length D.1.length, .bool false, .int .i64 F, .int .i64 D.2.2.2]) := hb3
  clear hrp hk3 ha hl hF h1 h2 hb3 hb r1 r2 r3 r2' hk2
  go_wp2
  go_ret
  obtain ⟨z1, z2, z3, z4, z5, z6, z7⟩ := HZ.out
  have e1 : writeB D k s = ((D.1.set k s, (burnB D).2.1, false, D.2.2.2 + 1), 0) := by
    unfold writeB burnB
    rw [if_neg (by rintro (e | e); · rw [ho] at e; cases e
                   · exact hf e)]
  rw [e1]
  refine ⟨rfl, ⟨F, ?_, z1.other ⟨g, 4, none⟩ (fun e => hne e.symm) _, hne, z3.set k s hs, by show (D.1.set k s).length ≤ 4096; rw [List.length_set]; exact z4, fun _ => z5, z6, z7⟩, z2.setCell ⟨g, 4, none⟩ rfl _⟩
  show Blk _ _ _ #[_, .slice _ (D.1.set k s).length (D.1.set k s).length, _, _, _]
  rw [List.length_set]
  exact HB3.out.setAt 4 _

end Go.Proofs.YtaakmcihpdbilaaGreatDoor

/- Layer 17: a block of one byte (the law's own filled). -/
namespace Go.Proofs.YtaakmcihpdbilaaGreatDoor
open Go.RowKit
set_option maxRecDepth 100000
set_option linter.unusedSimpArgs false
set_option maxRecDepth 100000

def filledB (c : Nat) : ByteArray := ⟨(bytesOf 64 (fun _ => c)).toArray⟩
theorem filledB_size (c : Nat) : (filledB c).size = 64 := by
  unfold filledB
  show (bytesOf 64 (fun _ => c)).toArray.size = 64
  rw [List.size_toArray, bytesOf_length]
theorem filledB_zero : filledB 0 = zeroB 64 := by
  unfold filledB zeroB
  congr 2
theorem filledB_inj {c d : Nat} (hc : c < 256) (hd : d < 256) (h : filledB c = filledB d) : c = d := by
  have h1 : (bytesOf 64 (fun _ => c)).toArray.toList = (bytesOf 64 (fun _ => d)).toArray.toList := congrArg (fun b => b.data.toList) h
  rw [List.toList_toArray, List.toList_toArray] at h1
  have h2 := congrArg (fun l => l[0]?) h1
  unfold bytesOf at h2
  simp at h2
  have h3 := congrArg UInt8.toNat h2
  simp at h3
  omega
def fillF (c k i : Nat) : Nat := if i < k then c else 0
theorem fillF_set (c k : Nat) : (fun i => if i = k then c else fillF c k i) = fillF c (k + 1) := by
  funext i
  unfold fillF
  by_cases h : i = k
  · rw [if_pos h, if_pos (by omega)]
  · rw [if_neg h]
    by_cases h2 : i < k
    · rw [if_pos h2, if_pos (by omega)]
    · rw [if_neg h2, if_neg (by omega)]

end Go.Proofs.YtaakmcihpdbilaaGreatDoor

/- Layer 17: awake. -/
namespace Go.Proofs.YtaakmcihpdbilaaGreatDoor
open Go.RowKit
set_option maxRecDepth 100000
set_option linter.unusedSimpArgs false
set_option maxRecDepth 100000

theorem DevTo.trans {a b c : World} {g r : Nat} {D D' : DevT} (h1 : DevTo a g r D b) (h2 : DevTo b g r D' c) : DevTo a g r D' c := ⟨h2.1, h1.2.trans h2.2 (Nx.refl _ _)⟩
/-- A device at g, b, both of the call's own (from h on). -/
def DevB (w : World) (h : World) (g b : Nat) (D : DevT) : Prop := DevAt h g b D ∧ w.heap.size ≤ g ∧ w.heap.size ≤ b ∧ Below w.heap.size w h
theorem DevB.to {w h h' : World} {g b : Nat} {D D' : DevT} (a : DevB w h g b D) (t : DevTo h g b D' h') : DevB w h' g b D' :=
  ⟨t.1, a.2.1, a.2.2.1, a.2.2.2.trans (t.below _ a.2.2.2.size a.2.1 a.2.2.1)⟩
theorem DevB.on {w h h' : World} {g b : Nat} {D : DevT} (a : DevB w h g b D) (t : Below h.heap.size h h') : DevB w h' g b D :=
  ⟨a.1.on t, a.2.1, a.2.2.1, below_step a.2.2.2 (Nat.le_refl _) t⟩

theorem d17_1 : fuseB (newB 2) 1 = ([zeroB 64, zeroB 64], 1, false, 0) := rfl
theorem d17_2 (s : ByteArray) : (writeB ([zeroB 64, zeroB 64], 1, false, 0) 0 s).1 = ([s, zeroB 64], 0, false, 1) := rfl
theorem d17_3 (s t : ByteArray) : offB ([s, t], 0, false, 1) = ([s, t], -1, true, 1) := rfl
theorem d17_4 (s t : ByteArray) : onB ([s, t], -1, true, 1) = ([s, t], -1, false, 1) := rfl

end Go.Proofs.YtaakmcihpdbilaaGreatDoor
