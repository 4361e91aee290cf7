/- Layer 17, the code's device: New, given, has, Size, Off, Writes; one that nobody made. -/
import Derived.Test.YtaakmcihpdbilaaDoorR17
import Derived.Test.YtaakmcihpdbilaaDoorKept
import Derived.LaidEqlPtr
import Derived.Laws.CopyOwn
namespace Go.Proofs.YtaakmcihpdbilaaDoor
open Go.RowKit
set_option maxRecDepth 100000
set_option linter.unusedSimpArgs false
set_option maxRecDepth 100000

/-- The bytes of blocks, one behind the other; blocks of 64 bytes each. -/
def flatB (L : List ByteArray) (j : Nat) : Nat := bt (strL L (j / 64)) (j % 64)

def AllB (L : List ByteArray) : Prop := ∀ i, i < L.length → (strL L i).size = 64

def RowC (w : World) (b : Nat) (L : List ByteArray) : Prop := ∃ cs, Blk w 86 b cs ∧ cs.size = 64 * L.length ∧ ∀ j, j < 64 * L.length → cs[j]? = some (.int .u8 ((flatB L j : Nat) : Int))

theorem RowC.on {w w' : World} {b : Nat} {L : List ByteArray} (h : RowC w b L) (hb : Below w.heap.size w w') : RowC w' b L := by
  obtain ⟨cs, h1, h2⟩ := h
  exact ⟨cs, h1.on hb, h2⟩
theorem RowC.lt {w : World} {b : Nat} {L : List ByteArray} (h : RowC w b L) : b < w.heap.size := by
  obtain ⟨cs, h1, _⟩ := h
  exact h1.lt
theorem RowC.kept {w w' : World} {b g : Nat} {r : Option Nat} {L : List ByteArray} (h : RowC w b L) (k : Kept2 g r w w') (hg : b ≠ g) (hr : some b ≠ r) : RowC w' b L := by
  obtain ⟨cs, h1, h2⟩ := h
  exact ⟨cs, h1.kept k hg hr, h2⟩
theorem RowC.other {w : World} {b : Nat} {L : List ByteArray} (h : RowC w b L) (p : Addr) (hp : b ≠ p.block) (u : Value) : RowC (w.setCell p u) b L := by
  obtain ⟨cs, h1, h2⟩ := h
  exact ⟨cs, h1.other p hp u, h2⟩

theorem AllB.set {L : List ByteArray} (h : AllB L) (k : Nat) (s : ByteArray) (hs : s.size = 64) : AllB (L.set k s) := by
  intro i hi
  rw [List.length_set] at hi
  have h1 := h i hi
  unfold strL at h1 ⊢
  rw [List.getD_eq_getElem?_getD, List.getElem?_set]
  by_cases e : k = i
  · subst e
    rw [if_pos rfl, if_pos hi]
    exact hs
  · rw [if_neg e, ← List.getD_eq_getElem?_getD]; exact h1
theorem strL_set (L : List ByteArray) (k i : Nat) (s : ByteArray) (hk : k < L.length) : strL (L.set k s) i = if i = k then s else strL L i := by
  unfold strL
  rw [List.getD_eq_getElem?_getD, List.getD_eq_getElem?_getD, List.getElem?_set]
  by_cases e : i = k
  · subst e
    rw [if_pos rfl, if_pos rfl, if_pos hk]; rfl
  · rw [if_neg (fun h => e h.symm), if_neg e]

/-- Block k is s now. -/
theorem RowC.put {w : World} {b : Nat} {L : List ByteArray} (cs : Array Value) (h1 : Blk w 86 b cs) (h2 : cs.size = 64 * L.length) (h3 : ∀ j, j < 64 * L.length → cs[j]? = some (.int .u8 ((flatB L j : Nat) : Int))) (k : Nat) (hk : k < L.length) (s : ByteArray) (hs : s.size = 64) :
    RowC (w.setRow b (splice cs.toList (k * 64) (Lib.strCells s)).toArray) b (L.set k s) := by
  have hl : (Lib.strCells s).length = 64 := by rw [Lib.strCells_length]; exact hs
  have hsz : (splice cs.toList (k * 64) (Lib.strCells s)).length = cs.size := by
    rw [length_splice _ _ _ (by rw [hl, Array.length_toList]; omega), Array.length_toList]
  refine ⟨_, h1.setRow _, by rw [List.size_toArray, hsz, List.length_set]; exact h2, fun j hj => ?_⟩
  rw [List.length_set] at hj
  unfold flatB
  rw [strL_set _ _ _ _ hk, List.getElem?_toArray]
  unfold splice
  have htl : (cs.toList.take (k * 64)).length = k * 64 := by rw [List.length_take, Array.length_toList]; omega
  by_cases c1 : j < k * 64
  · rw [List.getElem?_append_left (by rw [htl]; exact c1), List.getElem?_take, if_pos c1, Array.getElem?_toList, if_neg (by omega)]
    exact h3 j hj
  · rw [List.getElem?_append_right (by rw [htl]; omega), htl]
    by_cases c2 : j < k * 64 + 64
    · rw [List.getElem?_append_left (by rw [hl]; omega), strCells_bt s _ (by rw [hs]; omega), if_pos (by omega), show j - k * 64 = j % 64 by omega]
    · rw [List.getElem?_append_right (by rw [hl]; omega), hl, List.getElem?_drop, Array.getElem?_toList, if_neg (by omega), show k * 64 + 64 + (j - k * 64 - 64) = j by omega]
      exact h3 j hj

/-- 'copy' of a text into a block. -/
theorem run_copyK {P : Program} {w : World} (dT sT ty elem : TypeId) (g d n c : Nat) (s : ByteArray) (cur : Array Value) (t : TypeId)
    (hu : P.underlying dT = some (.slice elem)) (hs : (P.info? elem).map (·.size) = some 1) (hg : Blk w t g cur) (hle : s.size ≤ n) (hfit : d + s.size ≤ cur.size) :
    (Builtin.copy_ #[dT, sT] ty #[.slice (some ⟨g, d, none⟩) n c, .string s]).run P w = .ok (goInt s.size) (w.setRow g (splice cur.toList d (Lib.strCells s)).toArray) := by
  have hlen : (Lib.strCells s).length = s.size := Lib.strCells_length s
  have hst := run_storeCells_at P g d t (Lib.strCells s) 0 cur w hg (by rw [hlen]; omega) (by
    intro v hv
    unfold Lib.strCells at hv
    obtain ⟨x, _, rfl⟩ := List.mem_map.1 hv
    rfl)
  simp only [Nat.add_zero] at hst
  have hmin : Nat.min s.size n = s.size := Nat.min_eq_left hle
  have htk : List.take s.size (List.map (fun b : UInt8 => Value.int IntKind.u8 (b.toNat : Int)) s.data.toList) = Lib.strCells s := by
    rw [List.take_of_length_le (by rw [List.length_map, Array.length_toList]; exact Nat.le_refl _)]
    rfl
  cases hq : P.info? elem with
  | none => simp [hq] at hs
  | some i =>
    simp [Builtin.copy_, run_underlying hu, Builtin.lenOf, Builtin.firstCells, sizeOf, typeInfo, hq, hmin]
    rw [htk, hst]
    simp [Result.andThen, splice]

/-- A block's bytes are its text. -/
theorem RowC.conv {w : World} {b : Nat} {L : List ByteArray} (h : RowC w b L) (ha : AllB L) (k c : Nat) (hk : k < L.length) :
    (convert 68 9 (.slice (some ⟨b, k * 64, none⟩) 64 c)).run Tryd.prog w = .ok (.string (strL L k)) w := by
  obtain ⟨cs, h1, h2, h3⟩ := h
  have hr := run_convert_bytes_arg (P := Tryd.prog) w 68 5 Tryd.underlying68 Tryd.underlying5 b (k * 64) 64 c (tab 64 fun i => (bt (strL L k) i : Int)) (tab_length _ _) (fun i hi => by
    rw [tab_getD _ _ _ hi, h1.cell, h3 _ (by omega)]
    unfold flatB
    rw [show (k * 64 + i) / 64 = k by omega, show (k * 64 + i) % 64 = i by omega]) 9 Tryd.underlying9
  rw [hr]
  congr 2
  rw [← nums_bytesOf 64 (bt (strL L k)) (fun i _ => bt_lt _ i), str_nums]
  exact bytesOf_bt _ 64 (ha k hk)

/-- A device of the code at block g, its blocks at block b: as the document's, but that the fuse says nothing while it is off. -/
def DevAt (w : World) (g b : Nat) (D : DevT) : Prop :=
  ∃ F : Int, Blk w 43 g #[.pointer (some ⟨g, 0, none⟩), .slice (some ⟨b, 0, none⟩) D.1.length D.1.length, .bool D.2.2.1, .int .i64 F, .int .i64 D.2.2.2] ∧ RowC w b D.1 ∧ g ≠ b ∧ AllB D.1 ∧ D.1.length ≤ 4096 ∧ (D.2.2.1 = false → F = D.2.1) ∧ -1 ≤ F ∧ F ≤ 9223372036854775807

def DevBad (w : World) (g : Nat) : Prop := Blk w 43 g #[.pointer none, .slice none 0 0, .bool false, .int .i64 0, .int .i64 0]

def NoDev (w : World) (p : Value) : Prop := p = .pointer none ∨ ∃ g, p = .pointer (some ⟨g, 0, none⟩) ∧ DevBad w g

def DevTo (w : World) (g b : Nat) (D' : DevT) (w' : World) : Prop := DevAt w' g b D' ∧ Kept2 g (some b) w w'

theorem DevAt.on {w w' : World} {g b : Nat} {D : DevT} (h : DevAt w g b D) (hb : Below w.heap.size w w') : DevAt w' g b D := by
  obtain ⟨F, h1, h2, h3⟩ := h
  exact ⟨F, h1.on hb, h2.on hb, h3⟩
theorem DevAt.kept {w w' : World} {g b g' : Nat} {r : Option Nat} {D : DevT} (h : DevAt w g b D) (k : Kept2 g' r w w') (h1 : g ≠ g') (h2 : some g ≠ r) (h3 : b ≠ g') (h4 : some b ≠ r) : DevAt w' g b D := by
  obtain ⟨F, a1, a2, a3⟩ := h
  exact ⟨F, a1.kept k h1 h2, a2.kept k h3 h4, a3⟩
theorem DevAt.lt {w : World} {g b : Nat} {D : DevT} (h : DevAt w g b D) : g < w.heap.size ∧ b < w.heap.size := by
  obtain ⟨F, h1, h2, h3⟩ := h
  exact ⟨h1.lt, h2.lt⟩
theorem DevTo.same {w : World} {g b : Nat} {D : DevT} (h : DevAt w g b D) : DevTo w g b D w := ⟨h, Kept2.refl _ _ _⟩
theorem DevTo.below {w w' : World} {g b : Nat} {D' : DevT} (h : DevTo w g b D' w') (B : Nat) (hB : B ≤ w.heap.size) (hg : B ≤ g) (hb : B ≤ b) : Below B w w' := h.2.below B hB hg (fun k hk => by cases hk; exact hb)
theorem NoDev.on {w w' : World} {p : Value} (h : NoDev w p) (hb : Below w.heap.size w w') : NoDev w' p := h.imp id (fun ⟨g, e, h⟩ => ⟨g, e, Blk.on h hb⟩)

theorem Tryd.devInfo : (Tryd.prog.info? 43).map (·.size) = some 5 := by kernel_rfl

theorem eql_nil_ptr17 {P : Program} {tp te : TypeId} (w : World) (a : Addr) (hp : P.underlying tp = some (.pointer te)) : (binOp .eql tp (.pointer none) (.pointer (some a))).run P w = .ok (.bool false) w := by
  have h : ∀ d : Nat, (Op.equalIn (d + 1) tp (.pointer none) (.pointer (some a))).run P w = .ok false w := fun d => by
    simp [Op.equalIn, run_underlying hp]
  simp only [binOp]
  simp [Op.equal, Op.maxDepth, h 9999]

set_option maxHeartbeats 1000000 in
theorem dgiven_any (g b : Nat) (D : DevT) (w : World) (h : DevAt w g b D) :
    Calls Tryd.prog 22 #[.pointer (some ⟨g, 0, none⟩)] w fun e w' => e = .returned (.bool true) ∧ w' = w := by
  obtain ⟨F, h, _⟩ := h
  obtain ⟨j, hj, _⟩ := Option.map_eq_some_iff.1 Tryd.devInfo
  have c0 : w.cell? ⟨g, 0, none⟩ = some (.pointer (some ⟨g, 0, none⟩)) := h.cell 0
  have hq := run_eql_ptr_same (P := Tryd.prog) w ⟨g, 0, none⟩ Tryd.underlying24 hj
  clear h
  go_enter Tryd.func22, Tryd.ntmps22
  go_wp2
  go_ret
  exact ⟨rfl, rfl⟩

set_option maxHeartbeats 1000000 in
theorem dgiven_no (p : Value) (w : World) (h : NoDev w p) :
    Calls Tryd.prog 22 #[p] w fun e w' => e = .returned (.bool false) ∧ w' = w := by
  rcases h with rfl | ⟨g, rfl, h⟩
  · go_enter Tryd.func22, Tryd.ntmps22
    go_wp2
    go_ret
    exact ⟨rfl, rfl⟩
  · have c0 : w.cell? ⟨g, 0, none⟩ = some (.pointer none) := Blk.cell h 0
    have hq := eql_nil_ptr17 (P := Tryd.prog) w ⟨g, 0, none⟩ Tryd.underlying24
    go_enter Tryd.func22, Tryd.ntmps22
    go_wp2
    go_ret
    exact ⟨rfl, rfl⟩


set_option maxHeartbeats 1000000 in
theorem dsize_any (g b : Nat) (D : DevT) (w : World) (h : DevAt w g b D) :
    Calls Tryd.prog 17 #[.pointer (some ⟨g, 0, none⟩)] w fun e w' => e = .returned (.int .i64 (D.1.length : Int)) ∧ w' = w := by
  have HC : Hid (∀ w', w' = w → Calls Tryd.prog 22 #[.pointer (some ⟨g, 0, none⟩)] w' fun e w'' => e = .returned (.bool true) ∧ w'' = w') := fun w' e => by subst e; exact dgiven_any g b D _ h
  obtain ⟨F, h, _⟩ := h
  have c1 : w.cell? ⟨g, 1, none⟩ = some (.slice (some ⟨b, 0, none⟩) D.1.length D.1.length) := h.cell 1
  clear h
  go_enter Tryd.func17, Tryd.ntmps17
  go_wp2_with fail
  refine (HC.out _ rfl).mono ?_
  rintro e w1 ⟨rfl, hw1⟩
  subst hw1
  go_wp2
  go_ret
  exact ⟨rfl, rfl⟩

set_option maxHeartbeats 1000000 in
theorem dsize_no (p : Value) (w : World) (h : NoDev w p) :
    Calls Tryd.prog 17 #[p] w fun e w' => e = .returned (.int .i64 0) ∧ w' = w := by
  have HC : Hid (∀ w', w' = w → Calls Tryd.prog 22 #[p] w' fun e w'' => e = .returned (.bool false) ∧ w'' = w') := fun w' e => by subst e; exact dgiven_no p _ h
  clear h
  go_enter Tryd.func17, Tryd.ntmps17
  go_wp2_with fail
  refine (HC.out _ rfl).mono ?_
  rintro e w1 ⟨rfl, hw1⟩
  subst hw1
  go_wp2
  go_ret
  exact ⟨rfl, rfl⟩

set_option maxHeartbeats 1000000 in
theorem doff_any (g b : Nat) (D : DevT) (w : World) (h : DevAt w g b D) :
    Calls Tryd.prog 18 #[.pointer (some ⟨g, 0, none⟩)] w fun e w' => e = .returned (.bool D.2.2.1) ∧ w' = w := by
  have HC : Hid (∀ w', w' = w → Calls Tryd.prog 22 #[.pointer (some ⟨g, 0, none⟩)] w' fun e w'' => e = .returned (.bool true) ∧ w'' = w') := fun w' e => by subst e; exact dgiven_any g b D _ h
  obtain ⟨F, h, _⟩ := h
  have c1 : w.cell? ⟨g, 2, none⟩ = some (.bool D.2.2.1) := h.cell 2
  clear h
  go_enter Tryd.func18, Tryd.ntmps18
  go_wp2_with fail
  refine (HC.out _ rfl).mono ?_
  rintro e w1 ⟨rfl, hw1⟩
  subst hw1
  go_wp2
  go_ret
  exact ⟨rfl, rfl⟩

set_option maxHeartbeats 1000000 in
theorem doff_no (p : Value) (w : World) (h : NoDev w p) :
    Calls Tryd.prog 18 #[p] w fun e w' => e = .returned (.bool false) ∧ w' = w := by
  have HC : Hid (∀ w', w' = w → Calls Tryd.prog 22 #[p] w' fun e w'' => e = .returned (.bool false) ∧ w'' = w') := fun w' e => by subst e; exact dgiven_no p _ h
  clear h
  go_enter Tryd.func18, Tryd.ntmps18
  go_wp2_with fail
  refine (HC.out _ rfl).mono ?_
  rintro e w1 ⟨rfl, hw1⟩
  subst hw1
  go_wp2
  go_ret
  exact ⟨rfl, rfl⟩

end Go.Proofs.YtaakmcihpdbilaaDoor
