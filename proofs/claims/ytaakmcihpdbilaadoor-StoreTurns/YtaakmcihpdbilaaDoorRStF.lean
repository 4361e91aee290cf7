/- Layer 18, the document's: writes. -/
import Derived.Test.YtaakmcihpdbilaaDoorRStE
namespace Go.Proofs.YtaakmcihpdbilaaDoor
open Go.RowKit
set_option maxRecDepth 100000
set_option linter.unusedSimpArgs false
set_option maxRecDepth 100000

/-- Block i of a text; the blocks of a text written from one on, f of them; then the head. -/
def blkB (s : ByteArray) (i : Nat) : ByteArray := s.extract (64 * i) (64 * i + 64)
def wrsF (s : ByteArray) (p : Nat) : Nat → Nat → DevT → DevT × Int
  | 0, _, D => (D, 0)
  | f + 1, i, D => if (writeB D (p + 1 + i) (blkB s i)).2 = 0 then wrsF s p f (i + 1) (writeB D (p + 1 + i) (blkB s i)).1 else writeB D (p + 1 + i) (blkB s i)
def writesP (D : DevT) (turn m : Nat) (s : ByteArray) : DevT × Int :=
  let p := turn % 2 * (D.1.length / 2)
  let R := wrsF (filB s) p ((s.size + 63) / 64 - m) m D
  if R.2 = 0 then writeB R.1 p (hdB (turn : Int) s) else R

/-- A device's measures: so many blocks, at most c written, a fuse that can be one. -/
structure DvO (n : Nat) (c : Int) (D : DevT) : Prop where
  len : D.1.length = n
  n0 : 0 ≤ D.2.2.2
  n1 : D.2.2.2 ≤ c
  f0 : -1 ≤ D.2.1
  f1 : D.2.1 ≤ 9223372036854775807
theorem DvO.mono {n : Nat} {c c' : Int} {D : DevT} (h : DvO n c D) (hc : c ≤ c') : DvO n c' D := ⟨h.len, h.n0, Int.le_trans h.n1 hc, h.f0, h.f1⟩
theorem DvO.wr {n : Nat} {c : Int} {D : DevT} (h : DvO n c D) (k : Nat) (s : ByteArray) : DvO n (c + 1) (writeB D k s).1 := by
  have h1 := h.n0
  have h2 := h.n1
  have h3 := h.f0
  have h4 := h.f1
  unfold writeB
  split
  · exact ⟨h.len, h.n0, by show D.2.2.2 ≤ c + 1; omega, by show (-1 : Int) ≤ -1; omega, by show (-1 : Int) ≤ _; omega⟩
  · refine ⟨by show (D.1.set k s).length = n; rw [List.length_set]; exact h.len, by show 0 ≤ D.2.2.2 + 1; omega, by show D.2.2.2 + 1 ≤ c + 1; omega, ?_, ?_⟩
    · show -1 ≤ (if 0 < D.2.1 then D.2.1 - 1 else D.2.1); split <;> omega
    · show (if 0 < D.2.1 then D.2.1 - 1 else D.2.1) ≤ _; split <;> omega

theorem writeB_two (D : DevT) (k : Nat) (s : ByteArray) : (writeB D k s).2 = 0 ∨ (writeB D k s).2 = 170 := by
  unfold writeB
  split
  · exact .inr rfl
  · exact .inl rfl

theorem rd18_setRow {w : World} {r c q : Nat} {L : List ByteArray} (h : RowD w r c L) (hq : r ≠ q) (cs : Array Value) : RowD (w.setRow q cs) r c L :=
  ⟨h.1, fun i hi => Eq.trans (cell_setRow_other _ _ _ ⟨r, i, none⟩ hq) (h.2 i hi)⟩
theorem rd18_apart {w : World} {r c q : Nat} {L : List ByteArray} {t : TypeId} {cs : Array Value} {a : Option Addr} {n m : Nat} (h : RowD w r c L) (hl : 0 < L.length) (hq : Blk w t q cs) (hc : cs[0]? = some (.slice a n m)) : r ≠ q := by
  have h0 := h.2 0 hl
  rintro rfl
  rw [hq.cell 0, hc] at h0
  cases h0

end Go.Proofs.YtaakmcihpdbilaaDoor
