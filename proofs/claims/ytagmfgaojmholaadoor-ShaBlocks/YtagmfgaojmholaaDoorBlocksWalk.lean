import Derived.Test.YtagmfgaojmholaaDoorShaBlock
namespace Go.Proofs.YtagmfgaojmholaaDoor
open Go.RowKit
set_option linter.unusedSimpArgs false

set_option maxHeartbeats 2000000 in
theorem blocks_long (s b : ByteArray) (w : World) (hB : GlobB w) (h : ¬ (s.size ≤ 1024 ∧ b.size ≤ 1024)) :
    Calls Tryd.prog 3 #[.string s, .string b] w fun e w' => e = .returned (.bool true) ∧ Below w.heap.size w w' := by
  have HB : Hid (GlobB w) := hB
  clear hB
  by_cases h1 : s.size ≤ 1024
  · have h2 : ¬ b.size ≤ 1024 := fun h2 => h ⟨h1, h2⟩
    have g1 : decide ((1024 : Int) < (s.size : Int)) = false := by simp; omega
    have g2 : (1024 : Int) < (b.size : Int) := by omega
    clear h
    go_enter Tryd.func3, Tryd.ntmps3
    go_wp2_with fail
    refine (begin_any _ HB.out).mono ?_
    rintro e w1 ⟨rfl, hb1⟩
    go_wp2_with fail
    refine (rbegin_any _).mono ?_
    rintro e w2 ⟨rfl, hb2⟩
    go_wp2_with fail
    go_ret
    exact ⟨rfl, below_step hb1 (Nat.le_refl _) hb2⟩
  · have g1 : (1024 : Int) < (s.size : Int) := by omega
    clear h
    go_enter Tryd.func3, Tryd.ntmps3
    go_wp2_with fail
    refine (begin_any _ HB.out).mono ?_
    rintro e w1 ⟨rfl, hb1⟩
    go_wp2_with fail
    refine (rbegin_any _).mono ?_
    rintro e w2 ⟨rfl, hb2⟩
    go_wp2_with fail
    go_ret
    exact ⟨rfl, below_step hb1 (Nat.le_refl _) hb2⟩

set_option maxHeartbeats 2000000 in
theorem blocks_short (s b : ByteArray) (w : World) (hB : GlobB w) (h1 : s.size ≤ 1024) (h2 : b.size ≤ 1024) (r : ByteArray) (n : Int)
    (cl : Calls Tryd.prog 10 #[.string s, .string b] w fun e w' => e = .returned (.tuple #[.string r, .int .i64 n]) ∧ Below w.heap.size w w')
    (cr : ∀ w, Calls Tryd.prog 11 #[.string s, .string b] w fun e w' => e = .returned (.tuple #[.string r, .int .i64 n]) ∧ Below w.heap.size w w') :
    Calls Tryd.prog 3 #[.string s, .string b] w fun e w' => e = .returned (.bool true) ∧ Below w.heap.size w w' := by
  have HB : Hid (GlobB w) := hB
  have CL : Hid (Calls _ _ _ _ _) := cl
  have CR : Hid (∀ w, _) := cr
  have g1 : decide ((1024 : Int) < (s.size : Int)) = false := by simp; omega
  have g2 : decide ((1024 : Int) < (b.size : Int)) = false := by simp; omega
  clear hB cl cr
  go_enter Tryd.func3, Tryd.ntmps3
  go_wp2_with fail
  refine CL.out.mono ?_
  rintro e w1 ⟨rfl, hb1⟩
  go_wp2_with fail
  refine (CR.out _).mono ?_
  rintro e w2 ⟨rfl, hb2⟩
  have hb12 := below_step hb1 (Nat.le_refl _) hb2
  go_wp2_with fail
  refine (begin_any _ (HB.out.below hb12)).mono ?_
  rintro e w3 ⟨rfl, hb3⟩
  go_wp2_with fail
  refine (rbegin_any _).mono ?_
  rintro e w4 ⟨rfl, hb4⟩
  go_wp2_with fail
  go_ret
  exact ⟨rfl, below_step (below_step hb12 (Nat.le_refl _) hb3) (Nat.le_refl _) hb4⟩

theorem shaBlocks_walk (s b : ByteArray) (w : World) (hB : GlobB w) (hK : GlobK w) :
    Calls Tryd.prog 3 #[.string s, .string b] w fun e w' => e = .returned (.bool true) ∧ Below w.heap.size w w' := by
  by_cases h : s.size ≤ 1024 ∧ b.size ≤ 1024
  · by_cases h1 : s.size = 32
    · by_cases h2 : b.size = 64
      · exact blocks_short s b w hB h.1 h.2 _ _ (block_ok s b w h1 h2 hK) (fun w => rblock_ok s b w h1 h2)
      · exact blocks_short s b w hB h.1 h.2 _ _ (block_bad2 s b w h1 h2) (fun w => rblock_bad2 s b w h1 h2)
    · exact blocks_short s b w hB h.1 h.2 _ _ (block_bad1 s b w h1) (fun w => rblock_bad1 s b w h1)
  · exact blocks_long s b w hB h
end Go.Proofs.YtagmfgaojmholaaDoor
