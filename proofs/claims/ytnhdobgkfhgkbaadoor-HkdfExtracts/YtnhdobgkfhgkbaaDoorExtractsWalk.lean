import Derived.Test.YtnhdobgkfhgkbaaDoorHkLight
import Derived.Deep.RegionWith
namespace Go.Proofs.YtnhdobgkfhgkbaaDoor
open Go.RowKit
set_option linter.unusedSimpArgs false

def cells32 : Array Value := madeCells #[Value.int .u8 0] 32
theorem make32 (w : World) : (Instr.makeSlice 29 (.int .i64 32) (.int .i64 32)).run Tryd.prog w = .ok (.slice (some ⟨w.heap.size, 0, none⟩) 32 32) (w.alloc (.cells cells32 5)) := by
  obtain ⟨i0, hi, hz0, hz1, hz2⟩ := info_parts Tryd.info5
  have hr := run_make (P := Tryd.prog) w 29 5 i0 (.int .u8 0) Tryd.underlying29 hi hz0 .i64 .i64 32 32 (by omega) (Int.le_refl _) (by rw [hz2]; omega) (by omega)
  rw [hz1] at hr
  exact hr
theorem row32 (w : World) : Row8 (w.alloc (.cells cells32 5)) w.heap.size 32 (fun _ => 0) := Row8.made w _ 32
theorem row32_conv {w : World} {g : Nat} (h : Row8 w g 32 (fun _ => 0)) : (convert 29 9 (.slice (some ⟨g, 0, none⟩) 32 32)).run Tryd.prog w = .ok (.string (zeroB 32)) w := by
  have h3 := h.conv (P := Tryd.prog) (fun _ => by decide) 32 32 (Nat.le_refl _) 29 9 Tryd.underlying29 Tryd.underlying5 Tryd.underlying9
  rw [h3]; rfl

set_option maxRecDepth 100000 in
set_option maxHeartbeats 4000000 in
theorem hkdfExtracts_light (salt s : ByteArray) (w : World) (hk : salt.size ≤ 512) (hs : s.size ≤ 512) (hB : GlobB w) (hK : GlobK w) :
    Calls Tryd.prog 4 #[.string salt, .string s] w fun e w' => e = .returned (.bool true) ∧ Below w.heap.size w w' := by
  have L : Hid (Calls _ _ _ _ _) := light2_yes salt s 9 w hk hs
  obtain ⟨Z, HZ⟩ : ∃ Z, Hid (Z = zeroB 32) := ⟨_, rfl⟩
  have hZ : Z.size ≤ 65536 := by rw [HZ.out, zeroB_size]; omega
  obtain ⟨M, HM⟩ : ∃ M, Hid (M = macB salt s) := ⟨_, rfl⟩
  obtain ⟨N, HN⟩ : ∃ N, Hid (N = macB ⟨#[]⟩ s) := ⟨_, rfl⟩
  have C1 : Hid (∀ w', Below w.heap.size w w' → Calls Tryd.prog 12 #[.string salt, .string s] w' fun e w'' => e = .returned (.string M) ∧ Below w.heap.size w w'') := by
    intro w' hb
    refine (extract_any salt s w' (by omega) (by omega) (hB.below hb) (hK.below hb)).mono ?_
    rintro e w'' ⟨rfl, hb2⟩
    exact ⟨by rw [HM.out], below_step hb (Nat.le_refl _) hb2⟩
  have C2 : Hid (∀ w', Below w.heap.size w w' → Calls Tryd.prog 13 #[.string salt, .string s] w' fun e w'' => e = .returned (.string M) ∧ Below w.heap.size w w'') := by
    intro w' hb
    refine (rextract_any salt s w' (by omega) (by omega)).mono ?_
    rintro e w'' ⟨rfl, hb2⟩
    exact ⟨by rw [HM.out], below_step hb (Nat.le_refl _) hb2⟩
  have C3 : Hid (∀ w', Below w.heap.size w w' → Calls Tryd.prog 12 #[.string ⟨#[]⟩, .string s] w' fun e w'' => e = .returned (.string N) ∧ Below w.heap.size w w'' ∧ ∀ g, Row8 w' g 32 (fun _ => 0) → (convert 29 9 (.slice (some ⟨g, 0, none⟩) 32 32)).run Tryd.prog w'' = .ok (.string Z) w'') := by
    intro w' hb
    refine (extract_any ⟨#[]⟩ s w' (by decide) (by omega) (hB.below hb) (hK.below hb)).mono ?_
    rintro e w'' ⟨rfl, hb2⟩
    exact ⟨by rw [HN.out], below_step hb (Nat.le_refl _) hb2, fun g hg => by rw [HZ.out]; exact row32_conv (hg.below hb2 hg.lt)⟩
  have C4 : Hid (∀ w', Below w.heap.size w w' → Calls Tryd.prog 12 #[.string Z, .string s] w' fun e w'' => e = .returned (.string N) ∧ Below w.heap.size w w'') := by
    intro w' hb
    refine (extract_any Z s w' hZ (by omega) (hB.below hb) (hK.below hb)).mono ?_
    rintro e w'' ⟨rfl, hb2⟩
    exact ⟨by rw [HN.out, HZ.out, macB_empty], below_step hb (Nat.le_refl _) hb2⟩
  have C5 : Hid (∀ w', Below w.heap.size w w' → Calls Tryd.prog 9 #[] w' fun e w'' => e = .returned (.bool true) ∧ Below w.heap.size w w'') := by
    intro w' hb
    refine (one_any w' (hB.below hb) (hK.below hb)).mono ?_
    rintro e w'' ⟨rfl, hb2⟩
    exact ⟨rfl, below_step hb (Nat.le_refl _) hb2⟩
  have hmk := make32
  have hcv : ∀ w : World, (convert 29 9 (.slice (some ⟨w.heap.size, 0, none⟩) 32 32)).run Tryd.prog (w.alloc (.cells cells32 5)) = .ok (.string Z) (w.alloc (.cells cells32 5)) := by
    intro w; rw [HZ.out]; exact row32_conv (row32 w)
  clear hB hK hk hs hZ
  go_enter Tryd.func4, Tryd.ntmps4
  go_wp2_with fail
  refine L.out.mono ?_
  rintro e w1 ⟨rfl, hb1⟩
  clear L
  go_wp2_with fail
  go_region_with (first
    | (go_at_call 13; refine (C2.out _ (by first | assumption | (exact Below.drew (by assumption)) | (exact Below.alloc (by assumption) (Below.size (by assumption)) _))).mono ?_; rintro e w' ⟨rfl, hb'⟩)
    | (go_at_call 9; refine (C5.out _ (by first | assumption | (exact Below.drew (by assumption)) | (exact Below.alloc (by assumption) (Below.size (by assumption)) _))).mono ?_; rintro e w' ⟨rfl, hb'⟩)
    | (go_at_call 12; refine (C1.out _ (by first | assumption | (exact Below.drew (by assumption)) | (exact Below.alloc (by assumption) (Below.size (by assumption)) _))).mono ?_; rintro e w' ⟨rfl, hb'⟩)
    | (go_at_call 12; refine (C3.out _ (by first | assumption | (exact Below.drew (by assumption)) | (exact Below.alloc (by assumption) (Below.size (by assumption)) _))).mono ?_; rintro e w' ⟨rfl, hb', hr⟩; first | (have hcv2 := hr _ (row32 _)) | skip)
    | (go_at_call 12; refine (C4.out _ (by first | assumption | (exact Below.drew (by assumption)) | (exact Below.alloc (by assumption) (Below.size (by assumption)) _))).mono ?_; rintro e w' ⟨rfl, hb'⟩))
  all_goals clear hcv hmk C1 C2 C3 C4 C5
  all_goals go_wp2_with fail
  all_goals go_ret
  all_goals exact ⟨rfl, by assumption⟩

set_option maxHeartbeats 4000000 in
theorem hkdfExtracts_walk (salt s : ByteArray) (w : World) (hB : GlobB w) (hK : GlobK w) :
    Calls Tryd.prog 4 #[.string salt, .string s] w fun e w' => e = .returned (.bool true) ∧ Below w.heap.size w w' := by
  by_cases h0 : salt.size ≤ 512 ∧ s.size ≤ 512
  · exact hkdfExtracts_light salt s w h0.1 h0.2 hB hK
  · have HB : Hid (GlobB w) := hB
    have HK : Hid (GlobK w) := hK
    have L : Hid (Calls _ _ _ _ _) := light2_no salt s 9 w (by omega)
    clear hB hK h0
    go_enter Tryd.func4, Tryd.ntmps4
    go_wp2_with fail
    refine L.out.mono ?_
    rintro e w1 ⟨rfl, hb1⟩
    go_wp2_with fail
    refine (one_any _ (HB.out.below hb1) (HK.out.below hb1)).mono ?_
    rintro e w2 ⟨rfl, hb2⟩
    have hB2 := below_step hb1 (Nat.le_refl _) hb2
    go_wp2_with fail
    go_ret
    exact ⟨rfl, hB2⟩
end Go.Proofs.YtnhdobgkfhgkbaaDoor
