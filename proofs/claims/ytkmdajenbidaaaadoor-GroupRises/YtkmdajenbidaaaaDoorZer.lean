/- 'string(make([]byte, n))': plain facts of rows of noughts. -/
import Derived.Test.YtkmdajenbidaaaaDoorG
namespace Go.Proofs.YtkmdajenbidaaaaDoor
open Go.RowKit
set_option maxRecDepth 100000
set_option linter.unusedSimpArgs false

/-- The cells of 'make([]byte, n)'. -/
def zcells (n : Nat) : Array Value := madeCells #[Value.int .u8 0] n

theorem make_zeros (n : Nat) (z : Int) (hz : z = (n : Int)) (hn : n ≤ 1048576) (w : World) :
    (Instr.makeSlice 64 (.int .i64 z) (.int .i64 z)).run Tryd.prog w = .ok (.slice (some ⟨w.heap.size, 0, none⟩) n n) (w.alloc (.cells (zcells n) 5)) := by
  subst hz
  obtain ⟨i0, hi, hz0, hz1, hz2⟩ := info_parts Tryd.info5
  have hr := run_make (P := Tryd.prog) w 64 5 i0 (.int .u8 0) Tryd.underlying64 hi hz0 .i64 .i64 n n (by omega) (Int.le_refl _) (by rw [hz2]; omega) (by omega)
  rw [hz1, Int.toNat_natCast, Nat.mul_one] at hr
  exact hr

theorem row_zeros (n : Nat) (w : World) : Row8 (w.alloc (.cells (zcells n) 5)) w.heap.size n (fun _ => 0) := Row8.made w _ n

theorem row_zeros' (n : Nat) (w : World) (g : Nat) (h : w.heap.size = g) : Row8 (w.alloc (.cells (zcells n) 5)) g n (fun _ => 0) := by subst h; exact row_zeros n w

set_option maxRecDepth 100000 in
theorem conv_zeros {n : Nat} {w : World} {g : Nat} (h : Row8 w g n (fun _ => 0)) : (convert 64 9 (.slice (some ⟨g, 0, none⟩) n n)).run Tryd.prog w = .ok (.string (zeroB n)) w := by
  have h3 := h.conv (P := Tryd.prog) (fun _ => by decide) n n (Nat.le_refl _) 64 9 Tryd.underlying64 Tryd.underlying5 Tryd.underlying9
  rw [h3]
  congr 2
  apply bytes_ext
  show (bytesOf n fun _ => 0).toArray.toList = (List.replicate n 0).toArray.toList
  rw [List.toList_toArray, List.toList_toArray]
  unfold bytesOf
  rw [List.map_const', List.length_range]
  rfl

end Go.Proofs.YtkmdajenbidaaaaDoor
