import Derived.Test.YtaakmcihpdbilaaDoorBA
/- Layer 17, the document's device: Read, Fuse, On. -/
namespace Go.Proofs.YtaakmcihpdbilaaDoor
open Go.RowKit
set_option maxRecDepth 100000
set_option linter.unusedSimpArgs false
set_option maxRecDepth 100000

/-- A device on plain data: its blocks, its fuse, whether it is off, how many were written. -/
abbrev DevT := List ByteArray × Int × Bool × Int
def devA (b c : Nat) (D : DevT) : Array Value := #[.slice (some ⟨b, 0, none⟩) D.1.length c, .int .i64 D.2.1, .bool D.2.2.1, .int .i64 D.2.2.2]
def RowD (w : World) (b c : Nat) (l : List ByteArray) : Prop := l.length ≤ c ∧ ∀ i, i < l.length → w.cell? ⟨b, i, none⟩ = some (.string (strL l i))
def DevIn (w : World) (v : Value) (D : DevT) : Prop := ∃ b c, v = .agg (devA b c D) ∧ RowD w b c D.1
theorem RowD.on {w w' : World} {b c : Nat} {l : List ByteArray} (h : RowD w b c l) (hb : Below w.heap.size w w') : RowD w' b c l :=
  ⟨h.1, fun i hi => by rw [hb.cell (p := ⟨b, i, none⟩) (World.block_lt_of_cell? w _ (h.2 i hi))]; exact h.2 i hi⟩
theorem DevIn.on {w w' : World} {v : Value} {D : DevT} (h : DevIn w v D) (hb : Below w.heap.size w w') : DevIn w' v D := by
  obtain ⟨b, c, e, hr⟩ := h
  exact ⟨b, c, e, hr.on hb⟩

def MayB (D : DevT) (at_ : Int) : Prop := 0 ≤ at_ ∧ at_ < (D.1.length : Int)
/-- What Read answers; a device behind Fuse, behind On. -/
def readB (D : DevT) (k : Nat) : ByteArray × Int := if D.2.2.1 then (⟨#[]⟩, 170) else (strL D.1 k, 0)
def fuseB (D : DevT) (n : Int) : DevT := (D.1, max n (-1), D.2.2.1, D.2.2.2)
def onB (D : DevT) : DevT := (D.1, -1, false, D.2.2.2)

end Go.Proofs.YtaakmcihpdbilaaDoor

/- Layer 17, the document's device: Fuse, On, New. -/
namespace Go.Proofs.YtaakmcihpdbilaaDoor
open Go.RowKit
set_option maxRecDepth 100000
set_option linter.unusedSimpArgs false
set_option maxRecDepth 100000

def zeroD : Array Value := #[.slice none 0 0, .int .i64 0, .bool false, .int .i64 0]

theorem made_texts17 (w : World) (n : Nat) (hn : n ≤ 1048576) :
    ∃ w', (Instr.makeSlice 22 (.int .i64 (n : Int)) (.int .i64 (n : Int))).run Tryd.prog w = .ok (.slice (some ⟨w.heap.size, 0, none⟩) n n) w' ∧ RowT w' w.heap.size n (fun _ => ⟨#[]⟩) ∧ Below w.heap.size w w' := by
  obtain ⟨i0, hi, hz0, hz1, hz2⟩ := info_parts Tryd.infoS
  have hr := run_make (P := Tryd.prog) w 22 9 i0 (.string ⟨#[]⟩) Tryd.underlying22 hi hz0 .i64 .i64 n n (by omega) (Int.le_refl _) (by rw [hz2]; omega) (by omega)
  rw [hz1, Int.toNat_natCast, Nat.mul_one] at hr
  exact ⟨_, hr, RowT.made w _ n, below_new w _⟩

/-- A new device. -/
def newB (n : Nat) : DevT := (List.replicate n (zeroB 64), -1, false, 0)
def fillD (k i : Nat) : ByteArray := if i < k then zeroB 64 else ⟨#[]⟩
theorem fillD_set (k : Nat) : (fun i => if i = k then zeroB 64 else fillD k i) = fillD (k + 1) := by
  funext i
  unfold fillD
  by_cases h : i = k
  · rw [if_pos h, if_pos (by omega)]
  · rw [if_neg h]
    by_cases h2 : i < k
    · rw [if_pos h2, if_pos (by omega)]
    · rw [if_neg h2, if_neg (by omega)]

end Go.Proofs.YtaakmcihpdbilaaDoor

/- Layer 17, the document's device: Write. -/
namespace Go.Proofs.YtaakmcihpdbilaaDoor
open Go.RowKit
set_option maxRecDepth 100000
set_option linter.unusedSimpArgs false
set_option maxRecDepth 100000

theorem RowD.other {w : World} {b c : Nat} {l : List ByteArray} (h : RowD w b c l) (p : Addr) (hp : p.block ≠ b) (u : Value) : RowD (w.setCell p u) b c l :=
  ⟨h.1, fun i hi => by rw [World.cell?_setCell_other _ _ _ _ (fun e => hp (by rw [e]))]; exact h.2 i hi⟩

/-- May s be written at k? A device behind it. -/
def MayWr (D : DevT) (k : Int) (s : ByteArray) : Prop := (0 ≤ k ∧ k < (D.1.length : Int)) ∧ s.size = 64
def offB (D : DevT) : DevT := (D.1, -1, true, D.2.2.2)
def writeB (D : DevT) (k : Nat) (s : ByteArray) : DevT × Int :=
  if D.2.2.1 = true ∨ D.2.1 = 0 then (offB D, 170) else ((D.1.set k s, (if 0 < D.2.1 then D.2.1 - 1 else D.2.1), false, D.2.2.2 + 1), 0)

theorem strs_src (w : World) (b off n c : Nat) (l : List ByteArray) (hl : l.length = n) (h : ∀ i, i < n → w.cell? ⟨b, off + i, none⟩ = some (.string (strL l i))) : SrcAt w (.slice (some ⟨b, off, none⟩) n c) n (l.map Value.string) := by
  refine .inr ⟨_, c, rfl, fun j u hu => ?_⟩
  rw [List.getElem?_map] at hu
  obtain ⟨s, hs, rfl⟩ := Option.map_eq_some_iff.1 hu
  have hj : j < l.length := (List.getElem?_eq_some_iff.1 hs).1
  have h1 := h j (by omega)
  unfold strL at h1
  rw [List.getD_eq_getElem?_getD, hs] at h1
  rw [Go.WideShapes.add_plain]
  exact h1

theorem set_parts (L : List ByteArray) (k : Nat) (s : ByteArray) (h : k < L.length) : L.take k ++ [s] ++ L.drop (k + 1) = L.set k s := by
  rw [List.set_eq_take_append_cons_drop, if_pos h, List.append_assoc]; rfl



end Go.Proofs.YtaakmcihpdbilaaDoor
