/- awake. -/
import Derived.Test.YthnaohobedpejaaDoorL5
import Derived.Deep.RegionWith
namespace Go.Proofs.YthnaohobedpejaaDoor
open Go.RowKit
set_option linter.unusedSimpArgs false

/-- The cells of 'make([]byte, n)'. -/
def zcells (n : Nat) : Array Value := madeCells #[Value.int .u8 0] n
theorem make_zeros (n : Nat) (z : Int) (hz : z = (n : Int)) (hn : n ≤ 1048576) (w : World) :
    (Instr.makeSlice 30 (.int .i64 z) (.int .i64 z)).run Tryd.prog w = .ok (.slice (some ⟨w.heap.size, 0, none⟩) n n) (w.alloc (.cells (zcells n) 5)) := by
  subst hz
  obtain ⟨i0, hi, hz0, hz1, hz2⟩ := info_parts Tryd.info5
  have hr := run_make (P := Tryd.prog) w 30 5 i0 (.int .u8 0) Tryd.underlying30 hi hz0 .i64 .i64 n n (by omega) (Int.le_refl _) (by rw [hz2]; omega) (by omega)
  rw [hz1, Int.toNat_natCast, Nat.mul_one] at hr
  exact hr
theorem row_zeros (n : Nat) (w : World) : Row8 (w.alloc (.cells (zcells n) 5)) w.heap.size n (fun _ => 0) := Row8.made w _ n
theorem row_zeros' (n : Nat) (w : World) (g : Nat) (h : w.heap.size = g) : Row8 (w.alloc (.cells (zcells n) 5)) g n (fun _ => 0) := by subst h; exact row_zeros n w
theorem conv_zeros {n : Nat} {w : World} {g : Nat} (h : Row8 w g n (fun _ => 0)) : (convert 30 9 (.slice (some ⟨g, 0, none⟩) n n)).run Tryd.prog w = .ok (.string (zeroB n)) w := by
  have h3 := h.conv (P := Tryd.prog) (fun _ => by decide) n n (Nat.le_refl _) 30 9 Tryd.underlying30 Tryd.underlying5 Tryd.underlying9
  rw [h3]
  congr 2
  apply bytes_ext
  show (bytesOf n fun _ => 0).toArray.toList = (List.replicate n 0).toArray.toList
  rw [List.toList_toArray, List.toList_toArray]
  unfold bytesOf
  rw [List.map_const', List.length_range]
  rfl

set_option maxRecDepth 100000 in
set_option maxHeartbeats 4000000 in
theorem awake_any (w : World) (hP : GlobP w) :
    Calls Tryd.prog 8 #[] w fun e w' => e = .returned (.bool true) ∧ Below w.heap.size w w' := by
  obtain ⟨Z, HZ⟩ : ∃ Z, Hid (Z = zeroB 32) := ⟨_, rfl⟩
  obtain ⟨Y, HY⟩ : ∃ Y, Hid (Y = zeroB 12) := ⟨_, rfl⟩
  obtain ⟨B, HB⟩ : ∃ B, Hid (B = blockB (zeroB 32) (zeroB 12) 0) := ⟨_, rfl⟩
  have hB64 : B.size = 64 := by rw [HB.out]; exact blockB_size _ _ _
  have hB4 : B.extract 0 4 = ⟨#[118, 184, 224, 173]⟩ := by rw [HB.out]; exact nought_head
  have C : Hid (∀ w', Below w.heap.size w w' → Calls Tryd.prog 9 #[.string Z, .string Y, .int .i64 0] w' fun e w'' => e = .returned (.tuple #[.string B, .int .i64 0]) ∧ Below w.heap.size w w'') := by
    intro w' hb
    rw [HZ.out, HY.out, HB.out]
    refine (cblock_yes (zeroB 32) (zeroB 12) 0 w' ⟨zeroB_size _, zeroB_size _, by decide, by decide⟩ (hP.below hb)).mono ?_
    rintro e w'' ⟨rfl, hb2⟩
    exact ⟨rfl, below_step hb (Nat.le_refl _) hb2⟩
  have m1 := fun w => make_zeros 32 32 rfl (by decide) w
  have m2 := fun w => make_zeros 12 12 rfl (by decide) w
  have v1 : (convert 30 9 (.slice (some ⟨w.heap.size, 0, none⟩) 32 32)).run Tryd.prog (w.alloc (.cells (zcells 32) 5)).drew = .ok (.string Z) (w.alloc (.cells (zcells 32) 5)).drew := by
    rw [HZ.out]; exact conv_zeros (row_zeros 32 w)
  have v2 : (convert 30 9 (.slice (some ⟨w.heap.size, 0, none⟩) 32 32)).run Tryd.prog ((w.alloc (.cells (zcells 32) 5)).alloc (.cells (zcells 12) 5)).drew = .ok (.string Z) ((w.alloc (.cells (zcells 32) 5)).alloc (.cells (zcells 12) 5)).drew := by
    rw [HZ.out]; exact conv_zeros ((row_zeros 32 w).alloc _)
  have v3 : (convert 30 9 (.slice (some ⟨w.heap.size + 1, 0, none⟩) 12 12)).run Tryd.prog ((w.alloc (.cells (zcells 32) 5)).alloc (.cells (zcells 12) 5)).drew = .ok (.string Y) ((w.alloc (.cells (zcells 32) 5)).alloc (.cells (zcells 12) 5)).drew := by
    rw [HY.out]; exact conv_zeros (row_zeros' 12 (w.alloc (.cells (zcells 32) 5)) (w.heap.size + 1) (by simp))
  have v4 : (convert 30 9 (.slice (some ⟨w.heap.size, 0, none⟩) 12 12)).run Tryd.prog (w.alloc (.cells (zcells 12) 5)).drew = .ok (.string Y) (w.alloc (.cells (zcells 12) 5)).drew := by
    rw [HY.out]; exact conv_zeros (row_zeros 12 w)
  have v5 : (convert 30 9 (.slice (some ⟨w.heap.size, 0, none⟩) 12 12)).run Tryd.prog ((w.alloc (.cells (zcells 12) 5)).alloc (.cells (zcells 32) 5)).drew = .ok (.string Y) ((w.alloc (.cells (zcells 12) 5)).alloc (.cells (zcells 32) 5)).drew := by
    rw [HY.out]; exact conv_zeros ((row_zeros 12 w).alloc _)
  have v6 : (convert 30 9 (.slice (some ⟨w.heap.size + 1, 0, none⟩) 32 32)).run Tryd.prog ((w.alloc (.cells (zcells 12) 5)).alloc (.cells (zcells 32) 5)).drew = .ok (.string Z) ((w.alloc (.cells (zcells 12) 5)).alloc (.cells (zcells 32) 5)).drew := by
    rw [HZ.out]; exact conv_zeros (row_zeros' 32 (w.alloc (.cells (zcells 12) 5)) (w.heap.size + 1) (by simp))
  clear hP
  go_enter Tryd.func8, Tryd.ntmps8
  go_wp2_with fail
  go_region_with (go_at_call 9; refine (C.out _ ((below_new w _).alloc (by simp) _).drew).mono ?_; rintro e w' ⟨rfl, hb'⟩)
  all_goals clear m1 m2 v1 v2 v3 v4 v5 v6 C
  all_goals go_wp2_with fail
  all_goals go_ret
  all_goals exact ⟨rfl, by assumption⟩
theorem i64_and16 (n : Int) : bits .and .i64 n 65535 = n % 65536 := i64_mask n 16 (by decide) 65535 (by decide)

/-- Stream, of what is fit, from a world behind the first one. -/
theorem stream_on (key nonce : ByteArray) (c : Nat) (s S : ByteArray) (hS : streamB key nonce c s = S) (w w' : World) (hP : GlobP w) (hb : Below w.heap.size w w') (hk : key.size = 32) (hn : nonce.size = 12) (hc : c + (s.size + 63) / 64 ≤ 4294967296) (hc' : c < 4294967296) (hs : s.size ≤ 65536) :
    Calls Tryd.prog 11 #[.string key, .string nonce, .int .i64 (c : Int), .string s] w' fun e w'' => e = .returned (.tuple #[.string S, .int .i64 0]) ∧ Below w.heap.size w w'' := by
  subst hS
  refine (stream_yes key nonce c s w' ⟨hk, hn, by omega, by omega⟩ hs (by omega) (hP.below hb)).mono ?_
  rintro e w'' ⟨rfl, hb2⟩
  exact ⟨rfl, below_step hb (Nat.le_refl _) hb2⟩
theorem awake_on (w w' : World) (hP : GlobP w) (hb : Below w.heap.size w w') :
    Calls Tryd.prog 8 #[] w' fun e w'' => e = .returned (.bool true) ∧ Below w.heap.size w w'' := by
  refine (awake_any w' (hP.below hb)).mono ?_
  rintro e w'' ⟨rfl, hb2⟩
  exact ⟨rfl, below_step hb (Nat.le_refl _) hb2⟩

end Go.Proofs.YthnaohobedpejaaDoor
