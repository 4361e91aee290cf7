/- Layer 18, the document's: text, filled, head, room. -/
import Derived.Test.YtaakmcihpdbilaaDoorR17
import Derived.Test.YtaakmcihpdbilaaDoorR9
import Derived.Test.YtaakmcihpdbilaaDoorL2c
import Derived.Test.YtaakmcihpdbilaaDoorZer
namespace Go.Proofs.YtaakmcihpdbilaaDoor
open Go.RowKit
set_option maxRecDepth 100000
set_option linter.unusedSimpArgs false
set_option maxRecDepth 100000

/-- A text as bytes; bytes with noughts up to whole blocks; the head of a half. -/
def txB (s : ByteArray) : ByteArray := bigB (s.size : Int) 2 ++ s
def padN (n : Nat) : Nat := (64 - n % 64) % 64
def filB (s : ByteArray) : ByteArray := s ++ zeroB (padN s.size)
def hdB (turn : Int) (s : ByteArray) : ByteArray := filB (bigB turn 6 ++ bigB (s.size : Int) 6 ++ (ofN (sumN s)).extract 0 8)
theorem txB_size (s : ByteArray) : (txB s).size = s.size + 2 := by unfold txB; rw [ByteArray.size_append, bigB_size]; omega
theorem filB_size (s : ByteArray) : (filB s).size = 64 * ((s.size + 63) / 64) := by
  unfold filB padN
  rw [ByteArray.size_append, zeroB_size]; omega

theorem textP_new (s : ByteArray) (h : s.size ≤ 32768) : textP (ByteArray.empty, false) s = (txB s, false) := by
  unfold textP
  rw [if_neg (by omega)]
  unfold layP
  have h1 : (ByteArray.empty ++ (bigB (s.size : Int) 2 ++ s)).size ≤ 65536 := by
    rw [ByteArray.size_append, ByteArray.size_append, bigB_size]; show 0 + (2 + s.size) ≤ 65536; omega
  simp_all [txB]

end Go.Proofs.YtaakmcihpdbilaaDoor
