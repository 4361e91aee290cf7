/- The program's Clamp. -/
import Derived.Test.YtmegllddjlippaaDoorPyF
namespace Go.Proofs.YtmegllddjlippaaDoor
open Go.RowKit
set_option linter.unusedSimpArgs false

/-- The package's table, as it lies. -/
def keptL : List Nat := [255, 255, 255, 15, 252, 255, 255, 15, 252, 255, 255, 15, 252, 255, 255, 15]
def GlobY (w : World) : Prop := ∀ i, i < 16 → w.cell? ⟨0, i, none⟩ = some (.int .u8 ((keptL.getD i 0 : Nat) : Int))
theorem GlobY.below {w w' : World} (h : GlobY w) (hb : Below w.heap.size w w') : GlobY w' := fun j hj => by
  have h0 := h j hj
  rw [hb.cell (p := ⟨0, j, none⟩) (World.block_lt_of_cell? w _ h0)]; exact h0
theorem GlobY.lt {w : World} (h : GlobY w) : 0 < w.heap.size := World.block_lt_of_cell? w _ (h 0 (by decide))
theorem kept_and : ∀ i : Fin 16, ∀ x : Fin 256, x.1 &&& keptL.getD i.1 0 = (if i.1 % 4 = 3 then x.1 % 16 else if i.1 % 4 = 0 ∧ 0 < i.1 then x.1 / 4 * 4 else x.1) := by decide +kernel
theorem kept_lt : ∀ i : Fin 16, keptL.getD i.1 0 < 256 := by decide
theorem clamp_bit (f : Nat → Nat) (i : Nat) (hi : i < 16) (hf : f i < 256) : bits .and .u8 ((f i : Nat) : Int) ((keptL.getD i 0 : Nat) : Int) = ((clampF f i : Nat) : Int) := by
  rw [u8_and_nat _ _ hf (kept_lt ⟨i, hi⟩), kept_and ⟨i, hi⟩ ⟨f i, hf⟩]; rfl

set_option maxHeartbeats 1000000 in
theorem clamp_no (s : ByteArray) (w : World) (h : ¬ s.size = 16) :
    Calls Tryd.prog 13 #[.string s] w fun e w' => e = .returned (.tuple #[.string ⟨#[]⟩, .int .i64 1]) ∧ Below w.heap.size w w' := by
  have g0 : (((s.size : Int) != 16)) = true := by rw [bne_iff_ne]; omega
  go_enter Tryd.func13, Tryd.ntmps13
  go_wp2
  go_ret2
  exact ⟨rfl, Below.refl _ _⟩

set_option maxRecDepth 100000 in
set_option maxHeartbeats 4000000 in
theorem clamp_yes (s : ByteArray) (w : World) (h : s.size = 16) (hY : GlobY w) :
    Calls Tryd.prog 13 #[.string s] w fun e w' => e = .returned (.tuple #[.string (clampB s), .int .i64 0]) ∧ Below w.heap.size w w' := by
  have g0 : (((s.size : Int) != 16)) = false := by rw [bne_eq_false_iff_eq]; omega
  obtain ⟨E, HE⟩ : ∃ E, Hid (E = clampB s) := ⟨_, rfl⟩
  obtain ⟨F, HF⟩ : ∃ F, Hid (F = clampF (bt s)) := ⟨_, rfl⟩
  have HEF : Hid ((⟨(bytesOf 16 F).toArray⟩ : ByteArray) = E) := by show _ = _; rw [HE.out, HF.out]; rfl
  have HFl : Hid (∀ i, F i < 256) := by show ∀ i, _; rw [HF.out]; exact clampF_lt _ (bt_lt s)
  have HB : Hid (∀ i, i < 16 → bits .and .u8 ((bt s i : Nat) : Int) ((keptL.getD i 0 : Nat) : Int) = ((F i : Nat) : Int)) := by
    show ∀ i, _
    intro i hi
    rw [HF.out]; exact clamp_bit (bt s) i hi (bt_lt s i)
  have HY : Hid (GlobY w) := hY
  have hgl := hY.lt
  rw [← HE.out]
  clear HE HF hY
  generalize hh : w.heap.size = g at *
  have R0 : Hid (Row8 (w.alloc (.cells #[.int .u8 0, .int .u8 0, .int .u8 0, .int .u8 0, .int .u8 0, .int .u8 0, .int .u8 0, .int .u8 0, .int .u8 0, .int .u8 0, .int .u8 0, .int .u8 0, .int .u8 0, .int .u8 0, .int .u8 0, .int .u8 0] 45)) g 16 (cutN F 0)) := by
    show Row8 _ _ _ _
    rw [← cutN_nil, ← hh]
    exact ⟨_, _, (0, 0), heap_alloc_last w _, Or.inr rfl, fun j hj => by
      have : ∀ j : Fin 16, (#[.int .u8 0, .int .u8 0, .int .u8 0, .int .u8 0, .int .u8 0, .int .u8 0, .int .u8 0, .int .u8 0, .int .u8 0, .int .u8 0, .int .u8 0, .int .u8 0, .int .u8 0, .int .u8 0, .int .u8 0, .int .u8 0] : Array Value)[j.1]? = some (.int .u8 0) := by intro j; match j with | ⟨j, hj⟩ => (repeat (cases j with | zero => rfl | succ j => _)); omega
      exact this ⟨j, hj⟩⟩
  have B0 : Below g w (w.alloc (.cells #[.int .u8 0, .int .u8 0, .int .u8 0, .int .u8 0, .int .u8 0, .int .u8 0, .int .u8 0, .int .u8 0, .int .u8 0, .int .u8 0, .int .u8 0, .int .u8 0, .int .u8 0, .int .u8 0, .int .u8 0, .int .u8 0] 45)) := by rw [← hh]; exact below_new w _
  go_enter Tryd.func13, Tryd.ntmps13
  go_wp2_with fail
  go_loopw [9] (fun i wr => ∃ k : Nat, k ≤ 16 ∧ i = .int .i64 k ∧ Hid (Row8 wr g 16 (cutN F k)) ∧ Below g w wr) (fun i _ => 16 - (intOf i).toNat)
  case atStart => exact ⟨0, Nat.zero_le _, rfl, R0, B0⟩
  case round =>
    clear R0 B0
    obtain ⟨k, hk, rfl, HR, hbl⟩ := hrel
    by_cases hlt : k < 16
    · have cK : wr.cell? ⟨0, k, none⟩ = some (.int .u8 ((keptL.getD k 0 : Nat) : Int)) := by
        rw [hbl.cell (p := ⟨0, k, none⟩) (by simpa using hgl)]; exact HY.out k hlt
      have cB := HR.out.cell k hlt
      have fB := HR.out.free k hlt
      have HN : Hid (Row8 (wr.setCell ⟨g, k, none⟩ (.int .u8 ((F k : Nat) : Int))) g 16 (cutN F (k + 1))) := by
        show Row8 _ _ _ _
        exact (HR.out.set k (F k)).cast (cutN_put F k)
      have NB := hbl.setCell (p := ⟨g, k, none⟩) (Nat.le_refl _) (.int .u8 ((F k : Nat) : Int))
      have VB := HB.out k hlt
      have hsk : k < s.size := by omega
      have hbt := bt_get s k hsk
      have b0 : (k : Int) < 16 := by omega
      have b1 : (0 : Int) ≤ (k : Int) := by omega
      generalize keptL.getD k 0 = K at *
      generalize F k = Z at *
      obtain ⟨w1, hw1⟩ : ∃ v, Hid (v = wr.setCell ⟨g, k, none⟩ (.int .u8 (Z : Int))) := ⟨_, rfl⟩
      rw [← hw1.out] at HN NB
      have SS : Hid ((wr.setCell ⟨g, k, none⟩ (.int .u8 (Z : Int))).cell? ⟨0, k, none⟩ = some (.int .u8 (K : Int))) := by
        show _ = _
        rw [World.cell?_setCell_far _ _ _ _ (show g ≠ 0 by omega)]; exact cK
      clear HR hbl
      go_wp2_with fail
      refine wp_region_noPanic ?_
      refine wp_region_held_drew (S := fun w' => w'.cell? ⟨0, k, none⟩ = some (.int .u8 (K : Int))) (by kernel_rfl) (by first | exact trivial | assumption | exact ⟨by assumption, by assumption⟩) (fun hHeld => ?_)
      refine take_at (i := 0) (v := ?_) rfl rfl (by kernel_rfl) (by kernel_rfl) (by kernel_rfl) (fun _ _ _ h => h) (Or.inl ⟨by rfl, ?_⟩) (by assumption) ?_
      rotate_left
      · intro w hSw; (try dsimp only at hSw); go_simp; try with_reducible rfl
      try simp only [Act.put, List.setIfInBounds_toArray, List.set_cons_zero, List.set_cons_succ]
      refine take_at (i := 1) (v := ?_) rfl rfl (by kernel_rfl) (by kernel_rfl) (by kernel_rfl) (fun _ _ _ h => h) (Or.inl ⟨by rfl, ?_⟩) (by assumption) ?_
      rotate_left
      · intro w hSw; (try dsimp only at hSw); go_simp; try with_reducible rfl
      try simp only [Act.put, List.setIfInBounds_toArray, List.set_cons_zero, List.set_cons_succ]
      refine take_at (i := 2) (v := ?_) rfl rfl (by kernel_rfl) (by kernel_rfl) (by kernel_rfl) (fun _ _ _ h => h) (Or.inl ⟨by rfl, ?_⟩) (by assumption) ?_
      rotate_left
      · intro w hSw; (try dsimp only at hSw); go_simp; try with_reducible rfl
      try simp only [Act.put, List.setIfInBounds_toArray, List.set_cons_zero, List.set_cons_succ]
      refine take_at (i := 3) (v := ?_) rfl rfl (by kernel_rfl) (by kernel_rfl) (by kernel_rfl) (fun _ _ _ h => h) (Or.inl ⟨by rfl, ?_⟩) (by assumption) ?_
      rotate_left
      · intro w hSw; (try dsimp only at hSw); go_simp; try with_reducible rfl
      try simp only [Act.put, List.setIfInBounds_toArray, List.set_cons_zero, List.set_cons_succ]
      refine take_at (i := 4) (v := ?_) rfl rfl (by kernel_rfl) (by kernel_rfl) (by kernel_rfl) (fun _ _ _ h => h) (Or.inl ⟨by rfl, ?_⟩) (by assumption) ?_
      rotate_left
      · intro w hSw; (try dsimp only at hSw); go_simp; try with_reducible rfl
      try simp only [Act.put, List.setIfInBounds_toArray, List.set_cons_zero, List.set_cons_succ]
      refine take_at (i := 5) (v := ?_) rfl rfl (by kernel_rfl) (by kernel_rfl) (by kernel_rfl) (fun _ _ _ h => h) (Or.inl ⟨by rfl, ?_⟩) (by assumption) ?_
      rotate_left
      · intro w hSw; (try dsimp only at hSw); go_simp; try with_reducible rfl
      try simp only [Act.put, List.setIfInBounds_toArray, List.set_cons_zero, List.set_cons_succ]
      refine take_at (i := 6) (v := ?_) rfl rfl (by kernel_rfl) (by kernel_rfl) (by kernel_rfl) (fun _ _ _ h => h) (Or.inl ⟨by rfl, ?_⟩) (by assumption) ?_
      rotate_left
      · intro w hSw; (try dsimp only at hSw); go_simp; try with_reducible rfl
      try simp only [Act.put, List.setIfInBounds_toArray, List.set_cons_zero, List.set_cons_succ]
      refine take_at (i := 7) (v := ?_) rfl rfl (by kernel_rfl) (by kernel_rfl) (by kernel_rfl) (fun _ _ _ h => h) (Or.inl ⟨by rfl, ?_⟩) (by assumption) ?_
      rotate_left
      · intro w hSw; (try dsimp only at hSw); go_simp; try with_reducible rfl
      try simp only [Act.put, List.setIfInBounds_toArray, List.set_cons_zero, List.set_cons_succ]
      refine take_at (i := 8) (v := ?_) rfl rfl (by kernel_rfl) (by kernel_rfl) (by kernel_rfl) (fun _ _ _ h => h) (Or.inl ⟨by rfl, ?_⟩) (by assumption) ?_
      rotate_left
      · intro w hSw; (try dsimp only at hSw); go_simp; try with_reducible rfl
      try simp only [Act.put, List.setIfInBounds_toArray, List.set_cons_zero, List.set_cons_succ]
      refine wpAnyH_ready (rs := [9]) (by kernel_rfl) (by simp) ?_
      refine AllReadyH.cons rfl (fun K hK => ?_) AllReadyH.nil
      go_simp
      refine hK.out _ _ SS.out (fun hHeld => ?_)
      clear hK K
      refine wpAnyH_done (by kernel_rfl) (NoPanic.normal ?_) _
      rw [← hw1.out]
      clear cK cB fB SS hw1
      go_wp2
      go_roundw
      case rel => exact ⟨k + 1, by omega, by go_num, HN, NB.drew⟩
      case measure => simp [intOf]; omega
    · have hk16 : k = 16 := by omega
      subst hk16
      have hcv := HR.out.conv (P := Tryd.prog) (fun i => by unfold cutN; split; exact HFl.out i; decide) 16 16 (Nat.le_refl _) 29 9 Tryd.underlying29 Tryd.underlying5 Tryd.underlying9
      rw [bytesOf_cut, HEF.out] at hcv
      clear HR HEF
      go_wp2
      go_ret2
      exact ⟨rfl, hbl⟩
end Go.Proofs.YtmegllddjlippaaDoor
