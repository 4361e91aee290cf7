import Derived.Test.YtagmfgaojmholaaDoorPartsWalk
namespace Go.Proofs.YtagmfgaojmholaaDoor
open Go.RowKit
set_option linter.unusedSimpArgs false

set_option maxHeartbeats 2000000 in
theorem head_any (s t want : ByteArray) (w : World) (hB : GlobB w) (hK : GlobK w) (hs : s.size ≤ 65536) (ht : ofN (sumN s) = t) (h32 : t.size = 32) (h4 : t.extract 0 4 = want) :
    Calls Tryd.prog 17 #[.string s, .string want] w fun e w' => e = .returned (.bool true) ∧ Below w.heap.size w w' := by
  have C : Hid (Calls Tryd.prog 15 #[.string s] w _) := sum_any s w hs hB hK
  rw [ht] at C
  clear hB hK ht
  go_enter Tryd.func17, Tryd.ntmps17
  go_wp2_with fail
  refine C.out.mono ?_
  rintro e w1 ⟨rfl, hb1⟩
  go_wp2_with fail
  go_ret
  exact ⟨rfl, hb1⟩

def long56 : ByteArray := ⟨#[97, 98, 99, 100, 98, 99, 100, 101, 99, 100, 101, 102, 100, 101, 102, 103, 101, 102, 103, 104, 102, 103, 104, 105, 103, 104, 105, 106, 104, 105, 106, 107, 105, 106, 107, 108, 106, 107, 108, 109, 107, 108, 109, 110, 108, 109, 110, 111, 109, 110, 111, 112, 110, 111, 112, 113]⟩
theorem empty_sum : ofN (sumN ⟨#[]⟩) = ⟨#[227, 176, 196, 66, 152, 252, 28, 20, 154, 251, 244, 200, 153, 111, 185, 36, 39, 174, 65, 228, 100, 155, 147, 76, 164, 149, 153, 27, 120, 82, 184, 85]⟩ := by decide +kernel
theorem long_sum : ofN (sumN long56) = ⟨#[36, 141, 106, 97, 210, 6, 56, 184, 229, 192, 38, 147, 12, 62, 96, 57, 163, 60, 228, 89, 100, 255, 33, 103, 246, 236, 237, 212, 25, 219, 6, 193]⟩ := by decide +kernel
theorem head_empty (w : World) (hB : GlobB w) (hK : GlobK w) :
    Calls Tryd.prog 17 #[.string ⟨#[]⟩, .string ⟨#[227, 176, 196, 66]⟩] w fun e w' => e = .returned (.bool true) ∧ Below w.heap.size w w' :=
  head_any ⟨#[]⟩ _ ⟨#[227, 176, 196, 66]⟩ w hB hK (by decide) empty_sum rfl (by decide +kernel)
theorem head_long (w : World) (hB : GlobB w) (hK : GlobK w) :
    Calls Tryd.prog 17 #[.string long56, .string ⟨#[36, 141, 106, 97]⟩] w fun e w' => e = .returned (.bool true) ∧ Below w.heap.size w w' :=
  head_any long56 _ ⟨#[36, 141, 106, 97]⟩ w hB hK (by decide) long_sum rfl (by decide +kernel)

theorem i64_and2047 (n : Int) : bits .and .i64 n 2047 = n % 2048 := i64_mask n 11 (by decide) 2047 (by decide)
def fillN (C k j : Nat) : Int := if j < k then (C : Int) else 0
theorem fillN_set (n C k : Nat) : (tab n (fillN C k)).set k (C : Int) = tab n (fillN C (k + 1)) := by
  refine tab_set _ _ _ _ _ (by unfold fillN; rw [if_pos (by omega)]) (fun i _ hne => ?_)
  unfold fillN
  by_cases h : i < k
  · rw [if_pos h, if_pos (by omega)]
  · rw [if_neg h, if_neg (by omega)]
theorem fillN_all (n C : Nat) (h : C < 256) : tab n (fillN C n) = nums (bytesOf n (fun _ => C)) := by
  rw [nums_bytesOf _ _ (fun _ _ => h)]
  exact tab_congr _ _ _ (fun i hi => by unfold fillN; rw [if_pos hi])

set_option maxRecDepth 100000 in
set_option maxHeartbeats 4000000 in
theorem shaLengths_walk (many c : Int) (w : World) (hc0 : 0 ≤ c) (hc1 : c ≤ 255) (hB : GlobB w) (hK : GlobK w) :
    Calls Tryd.prog 7 #[.int .i64 many, .int .u8 c] w fun e w' => e = .returned (.bool true) ∧ Below w.heap.size w w' := by
  obtain ⟨C, rfl⟩ : ∃ C : Nat, c = (C : Int) := ⟨c.toNat, by omega⟩
  have hC : C < 256 := by omega
  obtain ⟨n, hn, en⟩ : ∃ n : Nat, n < 2048 ∧ many % 2048 = (n : Int) := ⟨(many % 2048).toNat, by omega, by omega⟩
  have ha : bits .and .i64 many 2047 = (n : Int) := by rw [i64_and2047, en]
  have HB : Hid (GlobB w) := hB
  have HK : Hid (GlobK w) := hK
  have CL : Hid (∀ w, GlobB w → GlobK w → _) := head_long
  clear hB hK en hc0 hc1
  obtain ⟨i0, hi, hz0, hz1, hz2⟩ := info_parts Tryd.info5
  go_enter Tryd.func7, Tryd.ntmps7
  go_wp2_with fail
  refine (head_empty _ HB.out HK.out).mono ?_
  rintro e w1 ⟨rfl, hb1⟩
  go_wp2_with fail
  refine (CL.out _ (HB.out.below hb1) (HK.out.below hb1)).mono ?_
  rintro e w2 ⟨rfl, hb2⟩
  have hb12 : Hid (Below w.heap.size w w2) := below_step hb1 (Nat.le_refl _) hb2
  clear hb1 hb2 CL
  go_wp2_with (at_make; refine wpList_make_full _ rfl _ _ 32 rfl w2.heap.size 5 i0 (.int .u8 0) 1 Tryd.underlying32 hi hz0 hz1 _ _ _ _ n rfl rfl ?b4 ?b5 ?b1 ?b2 ?b3 ?_)
  case b1 => rw [hz2]; omega
  case b2 => unfold maxLen; omega
  case b3 => omega
  case b4 => omega
  case b5 => omega
  intro w3 hown0 hgrow
  have hown : Own w3 w2.heap.size 5 .u8 w2.heap.size n (tab n (fillN C 0)) := Own.made' _ (fun i _ => by simp [fillN]) hown0
  have hbl : Below w2.heap.size w2 w3 := (Below.refl _ _).grown hgrow (Nat.le_refl _) (fun k hk => by cases hk)
  clear hown0 hgrow hi hz0 hz1 hz2
  go_wp2_with fail
  go_loopw [7] (fun i wr => ∃ k : Nat, k ≤ n ∧ i = .int .i64 k ∧ Own wr w2.heap.size 5 .u8 w2.heap.size n (tab n (fillN C k)) ∧ Below w2.heap.size w2 wr) (fun i _ => n - (intOf i).toNat)
  case atStart => exact ⟨0, Nat.zero_le _, rfl, hown, hbl⟩
  case round =>
    clear hown hbl
    obtain ⟨k, hk, rfl, hown, hbl⟩ := hrel
    by_cases hlt : k < n
    · have hc := hown.cell k hlt
      rw [tab_getD _ _ _ hlt] at hc
      have hf := hown.free k
      have HO := hown.set k (C : Int)
      rw [fillN_set] at HO
      have HBl := hbl.setCell (p := ⟨w2.heap.size, k, none⟩) (Nat.le_refl _) (Value.int .u8 (C : Int))
      have b0 : (k : Int) < (n : Int) := by omega
      go_wp2_with fail
      go_roundw
      case rel => exact ⟨k + 1, by omega, by go_num, HO, HBl⟩
      case measure => simp [intOf]; omega
    · have hk' : k = n := by omega
      subst hk'
      rw [fillN_all _ _ hC] at hown
      have hov : OwnV wr w2.heap.size 5 .u8 (.slice (some ⟨w2.heap.size, 0, none⟩) k k) k (nums (bytesOf k (fun _ => C))) := hown
      obtain ⟨S, HS⟩ : ∃ S : ByteArray, Hid (S = ⟨(bytesOf k (fun _ => C)).toArray⟩) := ⟨_, rfl⟩
      have hSs : S.size ≤ 65536 := by rw [HS.out]; show (bytesOf k (fun _ => C)).toArray.size ≤ _; rw [List.size_toArray, bytesOf_length]; omega
      have hbw : Below w.heap.size w wr := below_step hb12.out (Nat.le_refl _) hbl
      have hBr : Hid (GlobB wr) := HB.out.below hbw
      have hKr : Hid (GlobK wr) := HK.out.below hbw
      clear hown hbl
      go_wp2_with fail
      refine wp_region_noPanic ?_
      refine wp_region_held_drew (S := fun w' => OwnV w' w2.heap.size 5 .u8 (.slice (some ⟨w2.heap.size, 0, none⟩) k k) k (nums (bytesOf k (fun _ => C)))) (by kernel_rfl) (by first | exact trivial | assumption | exact ⟨by assumption, by assumption⟩) (fun hHeld => ?_)
      refine take_at (i := 0) (v := ?_) rfl rfl (by kernel_rfl) (by kernel_rfl) (by kernel_rfl) (fun _ _ _ h => h) (Or.inl ⟨by rfl, ?_⟩) (by assumption) ?_
      rotate_left
      · intro w hSw; (try dsimp only at hSw); go_simp; try with_reducible rfl
      try simp only [Act.put, List.setIfInBounds_toArray, List.set_cons_zero, List.set_cons_succ]
      refine take_at (i := 1) (v := .string S) rfl rfl (by kernel_rfl) (by kernel_rfl) (by kernel_rfl) (fun _ _ _ h => h) (Or.inl ⟨by rfl, ?_⟩) (by assumption) ?_
      · intro w' hSw
        have hcv := own_conv (P := Tryd.prog) 32 9 hSw Tryd.underlying32 Tryd.underlying5 Tryd.underlying9
        rw [← HS.out] at hcv
        clear hSw
        go_simp
      try simp only [Act.put, List.setIfInBounds_toArray, List.set_cons_zero, List.set_cons_succ]
      refine take_at (i := 3) (v := ?_) rfl rfl (by kernel_rfl) (by kernel_rfl) (by kernel_rfl) (fun _ _ _ h => h) (Or.inl ⟨by rfl, ?_⟩) (by assumption) ?_
      rotate_left
      · intro w hSw; (try dsimp only at hSw); go_simp; try with_reducible rfl
      try simp only [Act.put, List.setIfInBounds_toArray, List.set_cons_zero, List.set_cons_succ]
      refine take_at (i := 4) (v := .string S) rfl rfl (by kernel_rfl) (by kernel_rfl) (by kernel_rfl) (fun _ _ _ h => h) (Or.inl ⟨by rfl, ?_⟩) (by assumption) ?_
      · intro w' hSw
        have hcv := own_conv (P := Tryd.prog) 32 9 hSw Tryd.underlying32 Tryd.underlying5 Tryd.underlying9
        rw [← HS.out] at hcv
        clear hSw
        go_simp
      try simp only [Act.put, List.setIfInBounds_toArray, List.set_cons_zero, List.set_cons_succ]
      refine wpAnyH_ready (rs := [2]) (by kernel_rfl) (by simp) ?_
      refine AllReadyH.cons rfl (fun K hK => ?_) AllReadyH.nil
      go_simp
      refine (sum_any S wr.drew hSs hBr.out hKr.out).mono ?_
      rintro e w4 ⟨rfl, hb4⟩
      have hb4' := below_step hbw.drew (Nat.le_refl _) hb4
      have hov4 := OwnV.below (w := wr.drew) hov hb4
      refine hK.out _ _ hov4 (fun hHeld => ?_)
      clear hK K
      refine wpAnyH_ready (rs := [5]) (by kernel_rfl) (by simp) ?_
      refine AllReadyH.cons rfl (fun K hK => ?_) AllReadyH.nil
      go_simp
      refine (rsum_any S w4 hSs).mono ?_
      rintro e w5 ⟨rfl, hb5⟩
      have hb5' := below_step hb4' (Nat.le_refl _) hb5
      have hov5 := hov4.below hb5
      refine hK.out _ _ hov5 (fun hHeld => ?_)
      clear hK K
      refine take_at (i := 6) (v := ?_) rfl rfl (by kernel_rfl) (by kernel_rfl) (by kernel_rfl) (fun _ _ _ h => h) (Or.inl ⟨by rfl, ?_⟩) (by assumption) ?_
      rotate_left
      · intro w hSw; (try dsimp only at hSw); go_simp; try with_reducible rfl
      try simp only [Act.put, List.setIfInBounds_toArray, List.set_cons_zero, List.set_cons_succ]
      refine take_at (i := 7) (v := ?_) rfl rfl (by kernel_rfl) (by kernel_rfl) (by kernel_rfl) (fun _ _ _ h => h) (Or.inl ⟨by rfl, ?_⟩) (by assumption) ?_
      rotate_left
      · intro w hSw; (try dsimp only at hSw); go_simp; try with_reducible rfl
      try simp only [Act.put, List.setIfInBounds_toArray, List.set_cons_zero, List.set_cons_succ]
      refine wpAnyH_ready (rs := [8]) (by kernel_rfl) (by simp) ?_
      refine AllReadyH.cons rfl (fun K hK => ?_) AllReadyH.nil
      go_simp
      refine (abc_any w5 (HB.out.below hb5') (HK.out.below hb5')).mono ?_
      rintro e w6 ⟨rfl, hb6⟩
      have hb6' := below_step hb5' (Nat.le_refl _) hb6
      have hov6 := hov5.below hb6
      refine hK.out _ _ hov6 (fun hHeld => ?_)
      clear hK K
      refine take_at (i := 9) (v := ?_) rfl rfl (by kernel_rfl) (by kernel_rfl) (by kernel_rfl) (fun _ _ _ h => h) (Or.inl ⟨by rfl, ?_⟩) (by assumption) ?_
      rotate_left
      · intro w hSw; (try dsimp only at hSw); go_simp; try with_reducible rfl
      try simp only [Act.put, List.setIfInBounds_toArray, List.set_cons_zero, List.set_cons_succ]
      refine take_at (i := 10) (v := ?_) rfl rfl (by kernel_rfl) (by kernel_rfl) (by kernel_rfl) (fun _ _ _ h => h) (Or.inl ⟨by rfl, ?_⟩) (by assumption) ?_
      rotate_left
      · intro w hSw; (try dsimp only at hSw); go_simp; try with_reducible rfl
      try simp only [Act.put, List.setIfInBounds_toArray, List.set_cons_zero, List.set_cons_succ]
      refine wpAnyH_done (by kernel_rfl) (NoPanic.normal ?_) _
      go_wp2
      go_ret
      exact ⟨rfl, hb6'⟩
end Go.Proofs.YtagmfgaojmholaaDoor
