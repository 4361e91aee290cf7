/- ViewMoves, walked (layer 12). -/
import Derived.Test.YtebnmghjdoblaaaGreatDoorVwMv
namespace Go.Proofs.YtebnmghjdoblaaaGreatDoor
open Go.RowKit
set_option linter.unusedSimpArgs false

theorem row_letM (W : World) (k : Nat) : Row8 (W.alloc (.cells #[.int .u8 (97 + (k : Int))] 5)) W.heap.size 1 (fun _ => 97 + k) := by
  refine ⟨_, _, _, heap_alloc_last W _, .inr rfl, fun j hj => ?_⟩
  obtain rfl : j = 0 := by omega
  show some (Value.int .u8 (97 + (k : Int))) = some (.int .u8 ((97 + k : Nat) : Int))
  rw [Int.natCast_add]; rfl

/-- The letter of node i. -/
def ltM (i : Nat) : ByteArray := ⟨#[UInt8.ofNat (97 + i)]⟩
theorem conv_letM {W : World} {g k : Nat} (h : Row8 W g 1 (fun _ => 97 + k)) (hk : k < 24) : (convert 50 9 (.slice (some ⟨g, 0, none⟩) 1 1)).run Tryz.prog W = .ok (.string (ltM k)) W := by
  have := Row8.conv (P := Tryz.prog) h (fun _ => by show 97 + k < 256; omega) 1 1 (Nat.le_refl _) 50 9 Tryz.underlying50 Tryz.underlying5 Tryz.underlying9
  rw [this]
  rfl
theorem nm_lt (i : Nat) : (⟨#[110]⟩ : ByteArray) ++ ltM i = nmM i := rfl

theorem chM_succ (k i : Nat) : chM k (i + 1) = chM k i ++ [ndM k (i + 1)] := by
  unfold chM; rw [List.range_succ, List.map_append]; rfl
theorem chM_len (k i : Nat) : (chM k i).length = i := by unfold chM; rw [List.length_map, List.length_range]
theorem ndM_more (x : Nat) (h : 1 < x) : ndM 0 x = (((x : Int), 1), ((x : Int) - 1, 1), nmM x, ⟨#[]⟩) := by
  unfold ndM; rw [if_neg (by omega), if_neg (by omega)]

/-- Node j of the moved ones, off the one that was. -/
theorem mvM_step (n k j : Nat) (hk : k ≤ n) (hn : n < 11) (hj : j < n + 1) : nL (mvM n k) j = if (nL (mvM n 0) j).1 = ((k : Int), 1) then ((nL (mvM n 0) j).1, (50, 1), (nL (mvM n 0) j).2.2) else nL (mvM n 0) j := by
  by_cases e : j < n
  · rw [mvM_at n k j e, mvM_at n 0 j e]
    by_cases e2 : j + 1 = k
    · rw [if_pos (by show (((j + 1 : Nat) : Int), (1 : Int)) = _; rw [e2])]
      unfold ndM; rw [if_pos e2]
    · rw [if_neg (fun h => e2 (by have : ((j + 1 : Nat) : Int) = (k : Int) := congrArg Prod.fst h; omega))]
      unfold ndM; rw [if_neg e2, if_neg (show ¬ (j + 1 = 0) by omega)]
  · obtain rfl : j = n := by omega
    rw [mvM_last, mvM_last, if_neg (fun h => by have : (50 : Int) = (k : Int) := congrArg Prod.fst h; omega)]
theorem take_stepM (l : List NodeT) (j : Nat) (h : j < l.length) : l.take (j + 1) = l.take j ++ [nL l j] := by
  rw [List.take_add_one]
  unfold nL
  rw [List.getD_eq_getElem?_getD, List.getElem?_eq_getElem h]; rfl
theorem mvM_small (n k : Nat) (j : Nat) (hj : j < n + 1) : (nL (mvM n k) j).2.2.1.size ≤ 65536 ∧ (nL (mvM n k) j).2.2.2.size ≤ maxLen := by
  by_cases e : j < n
  · rw [mvM_at n k j e]; exact ⟨by show 2 ≤ 65536; decide, by show 0 ≤ maxLen; exact Nat.zero_le _⟩
  · obtain rfl : j = n := by omega
    rw [mvM_last]; exact ⟨by show 5 ≤ 65536; decide, by show 0 ≤ maxLen; exact Nat.zero_le _⟩

set_option maxHeartbeats 40000000 in
set_option maxRecDepth 100000 in
theorem viewMoves_walk (many which : Int) (w : World) (hG : Glob8 w) (hM : MaxL w) :
    Calls Tryz.prog 8 #[.int .i64 many, .int .i64 which] w fun e w' => e = .returned (.bool true) ∧ Below w.heap.size w w' := by
  obtain ⟨i0, hi, hz0, hz1, hz2⟩ := info_parts Tryz.infoNode
  have HG : Hid (Glob8 w) := hG
  have HM : Hid (MaxL w) := hM
  have CA : Hid (∀ t w, _) := fun t w => atV_any t w
  obtain ⟨p, hp, hbp⟩ : ∃ p : Nat, p < 256 ∧ bits .and .i64 many 255 = (p : Int) := by
    have h1 := i64_mask many 8 (by decide) 255 (by decide)
    refine ⟨(many % 256).toNat, by omega, ?_⟩
    rw [h1]
    show many % 256 = _
    omega
  obtain ⟨q, hq, hbq⟩ : ∃ q : Nat, q < 256 ∧ bits .and .i64 which 255 = (q : Int) := by
    have h1 := i64_mask which 8 (by decide) 255 (by decide)
    refine ⟨(which % 256).toNat, by omega, ?_⟩
    rw [h1]
    show which % 256 = _
    omega
  obtain ⟨c, hc, hrc⟩ : ∃ c : Nat, c < 9 ∧ Int.tmod (p : Int) 9 = (c : Int) := ⟨p % 9, Nat.mod_lt _ (by decide), by rw [show (9 : Int) = ((9 : Nat) : Int) from rfl, ← Int.ofNat_tmod]⟩
  obtain ⟨d, hd, hrd⟩ : ∃ d : Nat, d < c + 2 ∧ Int.tmod (q : Int) (2 + (c : Int)) = (d : Int) := ⟨q % (c + 2), Nat.mod_lt _ (by omega), by rw [show (2 : Int) + (c : Int) = ((c + 2 : Nat) : Int) by omega, ← Int.ofNat_tmod]⟩
  have hz9 : ¬ ((2 : Int) + (c : Int) = 0) := by omega
  clear hG hM hp hq
  go_enter Tryz.func8, Tryz.ntmps8
  go_wp2_with fail
  go_loopw [6, 7] (fun lv iv wr => ∃ i x : Nat, Hid (x = i + 1) ∧ i ≤ c + 2 ∧ 1 ≤ x ∧ x ≤ c + 3 ∧ iv = .int .i64 (x : Int) ∧ Hid (OwnN wr w.heap.size lv (chM 0 i)) ∧ Hid (Below w.heap.size w wr)) (fun _ iv _ => c + 3 - (intOf iv).toNat)
  case atStart => exact ⟨0, 1, rfl, by omega, by omega, by omega, rfl, OwnN.nil _ _, Below.refl _ _⟩
  case round =>
    obtain ⟨i, x, HX, hic, hx1, hxc, rfl, HO, HB⟩ := hrel
    by_cases hlt : x ≤ c + 2
    · have b0 : (x : Int) ≤ 2 + (c : Int) := by omega
      have hx24 : x < 24 := by omega
      have hw64 : IntKind.i64.wrap (97 + (x : Int)) = 97 + (x : Int) := by rw [IntKind.wrap_i64]; omega
      have hw8 : IntKind.u8.wrap (97 + (x : Int)) = 97 + (x : Int) := by rw [IntKind.wrap_u8]; omega
      obtain ⟨LT, hLT⟩ : ∃ L, ltM x = L := ⟨_, rfl⟩
      obtain ⟨NM, hNM⟩ : ∃ L, (⟨#[110]⟩ : ByteArray) ++ LT = L := ⟨_, rfl⟩
      have HNM : Hid (NM = nmM x) := by show _ = _; rw [← hNM, ← hLT]; exact nm_lt x
      have hls : LT.size = 1 := by rw [← hLT]; rfl
      have hsum : ¬ (9223372036854775807 < (⟨#[110]⟩ : ByteArray).size + LT.size) := by rw [hls]; decide
      have hsum2 : ¬ (9223372036854775807 < 1 + LT.size) := by rw [hls]; decide
      go_wp2_with fail
      go_cut [8] (fun u wx => ∃ ho : Nat, u = .pointer (some ⟨ho, 0, none⟩) ∧ wr.heap.size ≤ ho ∧ Blk wx 45 ho #[.int .i64 (x : Int), .int .i64 1, .int .i64 0, .int .i64 0, .string NM, .string ⟨#[]⟩] ∧ Below wr.heap.size wr wx)
      case first =>
        refine wp_region_noPanic ?_
        refine wp_region_held_drew (S := fun _ => True) (by kernel_rfl) (by first | exact trivial | assumption | exact ⟨by assumption, by assumption⟩) (fun hHeld => ?_)
        refine take_at (i := 0) (v := ?_) rfl rfl (by kernel_rfl) (by kernel_rfl) (by kernel_rfl) (fun _ _ _ h => h) (Or.inl ⟨by rfl, ?_⟩) (by assumption) ?_
        rotate_left
        · intro w hSw; (try dsimp only at hSw); go_simp; try with_reducible rfl
        try simp only [Act.put, List.setIfInBounds_toArray, List.set_cons_zero, List.set_cons_succ]
        refine take_at (i := 2) (v := ?_) rfl rfl (by kernel_rfl) (by kernel_rfl) (by kernel_rfl) (fun _ _ _ h => h) (Or.inl ⟨by rfl, ?_⟩) (by assumption) ?_
        rotate_left
        · intro w hSw; (try dsimp only at hSw); go_simp; try with_reducible rfl
        try simp only [Act.put, List.setIfInBounds_toArray, List.set_cons_zero, List.set_cons_succ]
        refine take_at (i := 3) (v := ?_) rfl rfl (by kernel_rfl) (by kernel_rfl) (by kernel_rfl) (fun _ _ _ h => h) (Or.inl ⟨by rfl, ?_⟩) (by assumption) ?_
        rotate_left
        · intro w hSw; (try dsimp only at hSw); go_simp; try with_reducible rfl
        try simp only [Act.put, List.setIfInBounds_toArray, List.set_cons_zero, List.set_cons_succ]
        refine take_at (i := 4) (v := ?_) rfl rfl (by kernel_rfl) (by kernel_rfl) (by kernel_rfl) (fun _ _ _ h => h) (Or.inl ⟨by rfl, ?_⟩) (by assumption) ?_
        rotate_left
        · intro w hSw; (try dsimp only at hSw); go_simp; try with_reducible rfl
        try simp only [Act.put, List.setIfInBounds_toArray, List.set_cons_zero, List.set_cons_succ]
        have hB : Below wr.heap.size wr wr.drew := (Below.refl _ _).drew
        generalize wr.drew = v0 at *
        refine wpAnyH_ready (rs := [1, 5, 9]) (by kernel_rfl) (by simp) ?_
        refine AllReadyH.cons rfl (fun K hK => ?_) (AllReadyH.cons rfl (fun K hK => ?_) (AllReadyH.cons rfl (fun K hK => ?_) AllReadyH.nil))
        · go_simp
          refine (CA.out _ v0).mono ?_
          rintro e v1 ⟨rfl, hb1⟩
          refine hK.out _ _ trivial (fun hHeld => ?_)
          clear hK K
          have hB := below_step hB (Nat.le_refl _) hb1
          clear hb1
          refine wpAnyH_ready (rs := [5, 9]) (by kernel_rfl) (by simp) ?_
          refine AllReadyH.cons rfl (fun K hK => ?_) (AllReadyH.cons rfl (fun K hK => ?_) AllReadyH.nil)
          · go_simp
            refine hK.out _ _ trivial (fun hHeld => ?_)
            clear hK K
            have hB2 : Below wr.heap.size wr (v1.alloc (.cells #[.int .u8 (97 + (x : Int))] 5)) := hB.alloc hB.size _
            have KR : Row8 (v1.alloc (.cells #[.int .u8 (97 + (x : Int))] 5)) v1.heap.size 1 (fun _ => 97 + x) := row_letM v1 x
            clear hB
            generalize v1.alloc (.cells #[.int .u8 (97 + (x : Int))] 5) = v2 at *
            have hB := hB2
            clear hB2
            refine wpAnyH_ready (rs := [6, 9]) (by kernel_rfl) (by simp) ?_
            refine AllReadyH.cons rfl (fun K hK => ?_) (AllReadyH.cons rfl (fun K hK => ?_) AllReadyH.nil)
            · have hcv := conv_letM KR hx24
              rw [hLT] at hcv
              go_simp
              refine hK.out _ _ trivial (fun hHeld => ?_)
              clear hK K
              clear hcv
              refine take_at (i := 7) (v := ?_) rfl rfl (by kernel_rfl) (by kernel_rfl) (by kernel_rfl) (fun _ _ _ h => h) (Or.inl ⟨by rfl, ?_⟩) (by assumption) ?_
              rotate_left
              · intro w hSw; (try dsimp only at hSw); go_simp; try with_reducible rfl
              try simp only [Act.put, List.setIfInBounds_toArray, List.set_cons_zero, List.set_cons_succ]
              refine take_at (i := 8) (v := ?_) rfl rfl (by kernel_rfl) (by kernel_rfl) (by kernel_rfl) (fun _ _ _ h => h) (Or.inl ⟨by rfl, ?_⟩) (by assumption) ?_
              rotate_left
              · intro w hSw; (try dsimp only at hSw); go_simp; try with_reducible rfl
              try simp only [Act.put, List.setIfInBounds_toArray, List.set_cons_zero, List.set_cons_succ]
              refine wpAnyH_ready (rs := [9]) (by kernel_rfl) (by simp) ?_
              refine AllReadyH.cons rfl (fun K hK => ?_) AllReadyH.nil
              go_simp
              refine hK.out _ _ trivial (fun hHeld => ?_)
              clear hK K
              have hB2 : Below wr.heap.size wr (v2.alloc (.cells #[.int .i64 0, .int .i64 0, .int .i64 0, .int .i64 0, .string ⟨#[]⟩, .string ⟨#[]⟩] 45)) := hB.alloc hB.size _
              have KO : Blk (v2.alloc (.cells #[.int .i64 0, .int .i64 0, .int .i64 0, .int .i64 0, .string ⟨#[]⟩, .string ⟨#[]⟩] 45)) 45 v2.heap.size #[.int .i64 0, .int .i64 0, .int .i64 0, .int .i64 0, .string ⟨#[]⟩, .string ⟨#[]⟩] := Blk.new v2 _ _
              have hO : wr.heap.size ≤ v2.heap.size := hB.size
              have KR := Row8.alloc KR (.cells #[.int .i64 0, .int .i64 0, .int .i64 0, .int .i64 0, .string ⟨#[]⟩, .string ⟨#[]⟩] 45)
              clear hB
              generalize v2.alloc (.cells #[.int .i64 0, .int .i64 0, .int .i64 0, .int .i64 0, .string ⟨#[]⟩, .string ⟨#[]⟩] 45) = v3 at *
              have hB := hB2
              clear hB2
              refine wpAnyH_ready (rs := [10]) (by kernel_rfl) (by simp) ?_
              refine AllReadyH.cons rfl (fun K hK => ?_) AllReadyH.nil
              refine step_storeRow rfl rfl 45 _ _ rfl v2.heap.size #[.int .i64 0, .int .i64 0, .int .i64 0, .int .i64 0, .string ⟨#[]⟩, .string ⟨#[]⟩] #[.int .i64 (x : Int), .int .i64 1, .int .i64 0, .int .i64 0, .string NM, .string ⟨#[]⟩] rfl rfl KO rfl (by kernel_rfl) (by simp [Value.oneCell']) ?_
              have hBz := below_setRow hB (show wr.heap.size ≤ v2.heap.size from hO) #[.int .i64 (x : Int), .int .i64 1, .int .i64 0, .int .i64 0, .string NM, .string ⟨#[]⟩]
              refine hK.out _ _ trivial (fun hHeld => ?_)
              clear hK K
              refine wpAnyH_done (by kernel_rfl) (NoPanic.normal ?_) _
              go_wp2_with fail
              go_meet
              case rel => exact ⟨v2.heap.size, rfl, hO, KO.setRow _, hBz⟩
            · go_simp
              refine hK.out _ _ trivial (fun hHeld => ?_)
              clear hK K
              have hB2 : Below wr.heap.size wr (v2.alloc (.cells #[.int .i64 0, .int .i64 0, .int .i64 0, .int .i64 0, .string ⟨#[]⟩, .string ⟨#[]⟩] 45)) := hB.alloc hB.size _
              have KO : Blk (v2.alloc (.cells #[.int .i64 0, .int .i64 0, .int .i64 0, .int .i64 0, .string ⟨#[]⟩, .string ⟨#[]⟩] 45)) 45 v2.heap.size #[.int .i64 0, .int .i64 0, .int .i64 0, .int .i64 0, .string ⟨#[]⟩, .string ⟨#[]⟩] := Blk.new v2 _ _
              have hO : wr.heap.size ≤ v2.heap.size := hB.size
              have KR := Row8.alloc KR (.cells #[.int .i64 0, .int .i64 0, .int .i64 0, .int .i64 0, .string ⟨#[]⟩, .string ⟨#[]⟩] 45)
              clear hB
              generalize v2.alloc (.cells #[.int .i64 0, .int .i64 0, .int .i64 0, .int .i64 0, .string ⟨#[]⟩, .string ⟨#[]⟩] 45) = v4 at *
              have hB := hB2
              clear hB2
              refine wpAnyH_ready (rs := [6]) (by kernel_rfl) (by simp) ?_
              refine AllReadyH.cons rfl (fun K hK => ?_) AllReadyH.nil
              have hcv := conv_letM KR hx24
              rw [hLT] at hcv
              go_simp
              refine hK.out _ _ trivial (fun hHeld => ?_)
              clear hK K
              clear hcv
              refine take_at (i := 7) (v := ?_) rfl rfl (by kernel_rfl) (by kernel_rfl) (by kernel_rfl) (fun _ _ _ h => h) (Or.inl ⟨by rfl, ?_⟩) (by assumption) ?_
              rotate_left
              · intro w hSw; (try dsimp only at hSw); go_simp; try with_reducible rfl
              try simp only [Act.put, List.setIfInBounds_toArray, List.set_cons_zero, List.set_cons_succ]
              refine take_at (i := 8) (v := ?_) rfl rfl (by kernel_rfl) (by kernel_rfl) (by kernel_rfl) (fun _ _ _ h => h) (Or.inl ⟨by rfl, ?_⟩) (by assumption) ?_
              rotate_left
              · intro w hSw; (try dsimp only at hSw); go_simp; try with_reducible rfl
              try simp only [Act.put, List.setIfInBounds_toArray, List.set_cons_zero, List.set_cons_succ]
              refine wpAnyH_ready (rs := [10]) (by kernel_rfl) (by simp) ?_
              refine AllReadyH.cons rfl (fun K hK => ?_) AllReadyH.nil
              refine step_storeRow rfl rfl 45 _ _ rfl v2.heap.size #[.int .i64 0, .int .i64 0, .int .i64 0, .int .i64 0, .string ⟨#[]⟩, .string ⟨#[]⟩] #[.int .i64 (x : Int), .int .i64 1, .int .i64 0, .int .i64 0, .string NM, .string ⟨#[]⟩] rfl rfl KO rfl (by kernel_rfl) (by simp [Value.oneCell']) ?_
              have hBz := below_setRow hB (show wr.heap.size ≤ v2.heap.size from hO) #[.int .i64 (x : Int), .int .i64 1, .int .i64 0, .int .i64 0, .string NM, .string ⟨#[]⟩]
              refine hK.out _ _ trivial (fun hHeld => ?_)
              clear hK K
              refine wpAnyH_done (by kernel_rfl) (NoPanic.normal ?_) _
              go_wp2_with fail
              go_meet
              case rel => exact ⟨v2.heap.size, rfl, hO, KO.setRow _, hBz⟩
          · go_simp
            refine hK.out _ _ trivial (fun hHeld => ?_)
            clear hK K
            have hB2 : Below wr.heap.size wr (v1.alloc (.cells #[.int .i64 0, .int .i64 0, .int .i64 0, .int .i64 0, .string ⟨#[]⟩, .string ⟨#[]⟩] 45)) := hB.alloc hB.size _
            have KO : Blk (v1.alloc (.cells #[.int .i64 0, .int .i64 0, .int .i64 0, .int .i64 0, .string ⟨#[]⟩, .string ⟨#[]⟩] 45)) 45 v1.heap.size #[.int .i64 0, .int .i64 0, .int .i64 0, .int .i64 0, .string ⟨#[]⟩, .string ⟨#[]⟩] := Blk.new v1 _ _
            have hO : wr.heap.size ≤ v1.heap.size := hB.size
            clear hB
            generalize v1.alloc (.cells #[.int .i64 0, .int .i64 0, .int .i64 0, .int .i64 0, .string ⟨#[]⟩, .string ⟨#[]⟩] 45) = v5 at *
            have hB := hB2
            clear hB2
            refine wpAnyH_ready (rs := [5]) (by kernel_rfl) (by simp) ?_
            refine AllReadyH.cons rfl (fun K hK => ?_) AllReadyH.nil
            go_simp
            refine hK.out _ _ trivial (fun hHeld => ?_)
            clear hK K
            have hB2 : Below wr.heap.size wr (v5.alloc (.cells #[.int .u8 (97 + (x : Int))] 5)) := hB.alloc hB.size _
            have KR : Row8 (v5.alloc (.cells #[.int .u8 (97 + (x : Int))] 5)) v5.heap.size 1 (fun _ => 97 + x) := row_letM v5 x
            have KO := Blk.alloc KO (.cells #[.int .u8 (97 + (x : Int))] 5)
            clear hB
            generalize v5.alloc (.cells #[.int .u8 (97 + (x : Int))] 5) = v6 at *
            have hB := hB2
            clear hB2
            refine wpAnyH_ready (rs := [6]) (by kernel_rfl) (by simp) ?_
            refine AllReadyH.cons rfl (fun K hK => ?_) AllReadyH.nil
            have hcv := conv_letM KR hx24
            rw [hLT] at hcv
            go_simp
            refine hK.out _ _ trivial (fun hHeld => ?_)
            clear hK K
            clear hcv
            refine take_at (i := 7) (v := ?_) rfl rfl (by kernel_rfl) (by kernel_rfl) (by kernel_rfl) (fun _ _ _ h => h) (Or.inl ⟨by rfl, ?_⟩) (by assumption) ?_
            rotate_left
            · intro w hSw; (try dsimp only at hSw); go_simp; try with_reducible rfl
            try simp only [Act.put, List.setIfInBounds_toArray, List.set_cons_zero, List.set_cons_succ]
            refine take_at (i := 8) (v := ?_) rfl rfl (by kernel_rfl) (by kernel_rfl) (by kernel_rfl) (fun _ _ _ h => h) (Or.inl ⟨by rfl, ?_⟩) (by assumption) ?_
            rotate_left
            · intro w hSw; (try dsimp only at hSw); go_simp; try with_reducible rfl
            try simp only [Act.put, List.setIfInBounds_toArray, List.set_cons_zero, List.set_cons_succ]
            refine wpAnyH_ready (rs := [10]) (by kernel_rfl) (by simp) ?_
            refine AllReadyH.cons rfl (fun K hK => ?_) AllReadyH.nil
            refine step_storeRow rfl rfl 45 _ _ rfl v1.heap.size #[.int .i64 0, .int .i64 0, .int .i64 0, .int .i64 0, .string ⟨#[]⟩, .string ⟨#[]⟩] #[.int .i64 (x : Int), .int .i64 1, .int .i64 0, .int .i64 0, .string NM, .string ⟨#[]⟩] rfl rfl KO rfl (by kernel_rfl) (by simp [Value.oneCell']) ?_
            have hBz := below_setRow hB (show wr.heap.size ≤ v1.heap.size from hO) #[.int .i64 (x : Int), .int .i64 1, .int .i64 0, .int .i64 0, .string NM, .string ⟨#[]⟩]
            refine hK.out _ _ trivial (fun hHeld => ?_)
            clear hK K
            refine wpAnyH_done (by kernel_rfl) (NoPanic.normal ?_) _
            go_wp2_with fail
            go_meet
            case rel => exact ⟨v1.heap.size, rfl, hO, KO.setRow _, hBz⟩
        · go_simp
          refine hK.out _ _ trivial (fun hHeld => ?_)
          clear hK K
          have hB2 : Below wr.heap.size wr (v0.alloc (.cells #[.int .u8 (97 + (x : Int))] 5)) := hB.alloc hB.size _
          have KR : Row8 (v0.alloc (.cells #[.int .u8 (97 + (x : Int))] 5)) v0.heap.size 1 (fun _ => 97 + x) := row_letM v0 x
          clear hB
          generalize v0.alloc (.cells #[.int .u8 (97 + (x : Int))] 5) = v7 at *
          have hB := hB2
          clear hB2
          refine wpAnyH_ready (rs := [1, 6, 9]) (by kernel_rfl) (by simp) ?_
          refine AllReadyH.cons rfl (fun K hK => ?_) (AllReadyH.cons rfl (fun K hK => ?_) (AllReadyH.cons rfl (fun K hK => ?_) AllReadyH.nil))
          · go_simp
            refine (CA.out _ v7).mono ?_
            rintro e v8 ⟨rfl, hb1⟩
            refine hK.out _ _ trivial (fun hHeld => ?_)
            clear hK K
            have hB := below_step hB (Nat.le_refl _) hb1
            have KR := Row8.below KR hb1 (Row8.lt KR)
            clear hb1
            refine wpAnyH_ready (rs := [6, 9]) (by kernel_rfl) (by simp) ?_
            refine AllReadyH.cons rfl (fun K hK => ?_) (AllReadyH.cons rfl (fun K hK => ?_) AllReadyH.nil)
            · have hcv := conv_letM KR hx24
              rw [hLT] at hcv
              go_simp
              refine hK.out _ _ trivial (fun hHeld => ?_)
              clear hK K
              clear hcv
              refine take_at (i := 7) (v := ?_) rfl rfl (by kernel_rfl) (by kernel_rfl) (by kernel_rfl) (fun _ _ _ h => h) (Or.inl ⟨by rfl, ?_⟩) (by assumption) ?_
              rotate_left
              · intro w hSw; (try dsimp only at hSw); go_simp; try with_reducible rfl
              try simp only [Act.put, List.setIfInBounds_toArray, List.set_cons_zero, List.set_cons_succ]
              refine take_at (i := 8) (v := ?_) rfl rfl (by kernel_rfl) (by kernel_rfl) (by kernel_rfl) (fun _ _ _ h => h) (Or.inl ⟨by rfl, ?_⟩) (by assumption) ?_
              rotate_left
              · intro w hSw; (try dsimp only at hSw); go_simp; try with_reducible rfl
              try simp only [Act.put, List.setIfInBounds_toArray, List.set_cons_zero, List.set_cons_succ]
              refine wpAnyH_ready (rs := [9]) (by kernel_rfl) (by simp) ?_
              refine AllReadyH.cons rfl (fun K hK => ?_) AllReadyH.nil
              go_simp
              refine hK.out _ _ trivial (fun hHeld => ?_)
              clear hK K
              have hB2 : Below wr.heap.size wr (v8.alloc (.cells #[.int .i64 0, .int .i64 0, .int .i64 0, .int .i64 0, .string ⟨#[]⟩, .string ⟨#[]⟩] 45)) := hB.alloc hB.size _
              have KO : Blk (v8.alloc (.cells #[.int .i64 0, .int .i64 0, .int .i64 0, .int .i64 0, .string ⟨#[]⟩, .string ⟨#[]⟩] 45)) 45 v8.heap.size #[.int .i64 0, .int .i64 0, .int .i64 0, .int .i64 0, .string ⟨#[]⟩, .string ⟨#[]⟩] := Blk.new v8 _ _
              have hO : wr.heap.size ≤ v8.heap.size := hB.size
              have KR := Row8.alloc KR (.cells #[.int .i64 0, .int .i64 0, .int .i64 0, .int .i64 0, .string ⟨#[]⟩, .string ⟨#[]⟩] 45)
              clear hB
              generalize v8.alloc (.cells #[.int .i64 0, .int .i64 0, .int .i64 0, .int .i64 0, .string ⟨#[]⟩, .string ⟨#[]⟩] 45) = v9 at *
              have hB := hB2
              clear hB2
              refine wpAnyH_ready (rs := [10]) (by kernel_rfl) (by simp) ?_
              refine AllReadyH.cons rfl (fun K hK => ?_) AllReadyH.nil
              refine step_storeRow rfl rfl 45 _ _ rfl v8.heap.size #[.int .i64 0, .int .i64 0, .int .i64 0, .int .i64 0, .string ⟨#[]⟩, .string ⟨#[]⟩] #[.int .i64 (x : Int), .int .i64 1, .int .i64 0, .int .i64 0, .string NM, .string ⟨#[]⟩] rfl rfl KO rfl (by kernel_rfl) (by simp [Value.oneCell']) ?_
              have hBz := below_setRow hB (show wr.heap.size ≤ v8.heap.size from hO) #[.int .i64 (x : Int), .int .i64 1, .int .i64 0, .int .i64 0, .string NM, .string ⟨#[]⟩]
              refine hK.out _ _ trivial (fun hHeld => ?_)
              clear hK K
              refine wpAnyH_done (by kernel_rfl) (NoPanic.normal ?_) _
              go_wp2_with fail
              go_meet
              case rel => exact ⟨v8.heap.size, rfl, hO, KO.setRow _, hBz⟩
            · go_simp
              refine hK.out _ _ trivial (fun hHeld => ?_)
              clear hK K
              have hB2 : Below wr.heap.size wr (v8.alloc (.cells #[.int .i64 0, .int .i64 0, .int .i64 0, .int .i64 0, .string ⟨#[]⟩, .string ⟨#[]⟩] 45)) := hB.alloc hB.size _
              have KO : Blk (v8.alloc (.cells #[.int .i64 0, .int .i64 0, .int .i64 0, .int .i64 0, .string ⟨#[]⟩, .string ⟨#[]⟩] 45)) 45 v8.heap.size #[.int .i64 0, .int .i64 0, .int .i64 0, .int .i64 0, .string ⟨#[]⟩, .string ⟨#[]⟩] := Blk.new v8 _ _
              have hO : wr.heap.size ≤ v8.heap.size := hB.size
              have KR := Row8.alloc KR (.cells #[.int .i64 0, .int .i64 0, .int .i64 0, .int .i64 0, .string ⟨#[]⟩, .string ⟨#[]⟩] 45)
              clear hB
              generalize v8.alloc (.cells #[.int .i64 0, .int .i64 0, .int .i64 0, .int .i64 0, .string ⟨#[]⟩, .string ⟨#[]⟩] 45) = v10 at *
              have hB := hB2
              clear hB2
              refine wpAnyH_ready (rs := [6]) (by kernel_rfl) (by simp) ?_
              refine AllReadyH.cons rfl (fun K hK => ?_) AllReadyH.nil
              have hcv := conv_letM KR hx24
              rw [hLT] at hcv
              go_simp
              refine hK.out _ _ trivial (fun hHeld => ?_)
              clear hK K
              clear hcv
              refine take_at (i := 7) (v := ?_) rfl rfl (by kernel_rfl) (by kernel_rfl) (by kernel_rfl) (fun _ _ _ h => h) (Or.inl ⟨by rfl, ?_⟩) (by assumption) ?_
              rotate_left
              · intro w hSw; (try dsimp only at hSw); go_simp; try with_reducible rfl
              try simp only [Act.put, List.setIfInBounds_toArray, List.set_cons_zero, List.set_cons_succ]
              refine take_at (i := 8) (v := ?_) rfl rfl (by kernel_rfl) (by kernel_rfl) (by kernel_rfl) (fun _ _ _ h => h) (Or.inl ⟨by rfl, ?_⟩) (by assumption) ?_
              rotate_left
              · intro w hSw; (try dsimp only at hSw); go_simp; try with_reducible rfl
              try simp only [Act.put, List.setIfInBounds_toArray, List.set_cons_zero, List.set_cons_succ]
              refine wpAnyH_ready (rs := [10]) (by kernel_rfl) (by simp) ?_
              refine AllReadyH.cons rfl (fun K hK => ?_) AllReadyH.nil
              refine step_storeRow rfl rfl 45 _ _ rfl v8.heap.size #[.int .i64 0, .int .i64 0, .int .i64 0, .int .i64 0, .string ⟨#[]⟩, .string ⟨#[]⟩] #[.int .i64 (x : Int), .int .i64 1, .int .i64 0, .int .i64 0, .string NM, .string ⟨#[]⟩] rfl rfl KO rfl (by kernel_rfl) (by simp [Value.oneCell']) ?_
              have hBz := below_setRow hB (show wr.heap.size ≤ v8.heap.size from hO) #[.int .i64 (x : Int), .int .i64 1, .int .i64 0, .int .i64 0, .string NM, .string ⟨#[]⟩]
              refine hK.out _ _ trivial (fun hHeld => ?_)
              clear hK K
              refine wpAnyH_done (by kernel_rfl) (NoPanic.normal ?_) _
              go_wp2_with fail
              go_meet
              case rel => exact ⟨v8.heap.size, rfl, hO, KO.setRow _, hBz⟩
          · have hcv := conv_letM KR hx24
            rw [hLT] at hcv
            go_simp
            refine hK.out _ _ trivial (fun hHeld => ?_)
            clear hK K
            clear hcv
            refine take_at (i := 7) (v := ?_) rfl rfl (by kernel_rfl) (by kernel_rfl) (by kernel_rfl) (fun _ _ _ h => h) (Or.inl ⟨by rfl, ?_⟩) (by assumption) ?_
            rotate_left
            · intro w hSw; (try dsimp only at hSw); go_simp; try with_reducible rfl
            try simp only [Act.put, List.setIfInBounds_toArray, List.set_cons_zero, List.set_cons_succ]
            refine wpAnyH_ready (rs := [1, 9]) (by kernel_rfl) (by simp) ?_
            refine AllReadyH.cons rfl (fun K hK => ?_) (AllReadyH.cons rfl (fun K hK => ?_) AllReadyH.nil)
            · go_simp
              refine (CA.out _ v7).mono ?_
              rintro e v11 ⟨rfl, hb1⟩
              refine hK.out _ _ trivial (fun hHeld => ?_)
              clear hK K
              have hB := below_step hB (Nat.le_refl _) hb1
              have KR := Row8.below KR hb1 (Row8.lt KR)
              clear hb1
              refine take_at (i := 8) (v := ?_) rfl rfl (by kernel_rfl) (by kernel_rfl) (by kernel_rfl) (fun _ _ _ h => h) (Or.inl ⟨by rfl, ?_⟩) (by assumption) ?_
              rotate_left
              · intro w hSw; (try dsimp only at hSw); go_simp; try with_reducible rfl
              try simp only [Act.put, List.setIfInBounds_toArray, List.set_cons_zero, List.set_cons_succ]
              refine wpAnyH_ready (rs := [9]) (by kernel_rfl) (by simp) ?_
              refine AllReadyH.cons rfl (fun K hK => ?_) AllReadyH.nil
              go_simp
              refine hK.out _ _ trivial (fun hHeld => ?_)
              clear hK K
              have hB2 : Below wr.heap.size wr (v11.alloc (.cells #[.int .i64 0, .int .i64 0, .int .i64 0, .int .i64 0, .string ⟨#[]⟩, .string ⟨#[]⟩] 45)) := hB.alloc hB.size _
              have KO : Blk (v11.alloc (.cells #[.int .i64 0, .int .i64 0, .int .i64 0, .int .i64 0, .string ⟨#[]⟩, .string ⟨#[]⟩] 45)) 45 v11.heap.size #[.int .i64 0, .int .i64 0, .int .i64 0, .int .i64 0, .string ⟨#[]⟩, .string ⟨#[]⟩] := Blk.new v11 _ _
              have hO : wr.heap.size ≤ v11.heap.size := hB.size
              have KR := Row8.alloc KR (.cells #[.int .i64 0, .int .i64 0, .int .i64 0, .int .i64 0, .string ⟨#[]⟩, .string ⟨#[]⟩] 45)
              clear hB
              generalize v11.alloc (.cells #[.int .i64 0, .int .i64 0, .int .i64 0, .int .i64 0, .string ⟨#[]⟩, .string ⟨#[]⟩] 45) = v12 at *
              have hB := hB2
              clear hB2
              refine wpAnyH_ready (rs := [10]) (by kernel_rfl) (by simp) ?_
              refine AllReadyH.cons rfl (fun K hK => ?_) AllReadyH.nil
              refine step_storeRow rfl rfl 45 _ _ rfl v11.heap.size #[.int .i64 0, .int .i64 0, .int .i64 0, .int .i64 0, .string ⟨#[]⟩, .string ⟨#[]⟩] #[.int .i64 (x : Int), .int .i64 1, .int .i64 0, .int .i64 0, .string NM, .string ⟨#[]⟩] rfl rfl KO rfl (by kernel_rfl) (by simp [Value.oneCell']) ?_
              have hBz := below_setRow hB (show wr.heap.size ≤ v11.heap.size from hO) #[.int .i64 (x : Int), .int .i64 1, .int .i64 0, .int .i64 0, .string NM, .string ⟨#[]⟩]
              refine hK.out _ _ trivial (fun hHeld => ?_)
              clear hK K
              refine wpAnyH_done (by kernel_rfl) (NoPanic.normal ?_) _
              go_wp2_with fail
              go_meet
              case rel => exact ⟨v11.heap.size, rfl, hO, KO.setRow _, hBz⟩
            · go_simp
              refine hK.out _ _ trivial (fun hHeld => ?_)
              clear hK K
              have hB2 : Below wr.heap.size wr (v7.alloc (.cells #[.int .i64 0, .int .i64 0, .int .i64 0, .int .i64 0, .string ⟨#[]⟩, .string ⟨#[]⟩] 45)) := hB.alloc hB.size _
              have KO : Blk (v7.alloc (.cells #[.int .i64 0, .int .i64 0, .int .i64 0, .int .i64 0, .string ⟨#[]⟩, .string ⟨#[]⟩] 45)) 45 v7.heap.size #[.int .i64 0, .int .i64 0, .int .i64 0, .int .i64 0, .string ⟨#[]⟩, .string ⟨#[]⟩] := Blk.new v7 _ _
              have hO : wr.heap.size ≤ v7.heap.size := hB.size
              have KR := Row8.alloc KR (.cells #[.int .i64 0, .int .i64 0, .int .i64 0, .int .i64 0, .string ⟨#[]⟩, .string ⟨#[]⟩] 45)
              clear hB
              generalize v7.alloc (.cells #[.int .i64 0, .int .i64 0, .int .i64 0, .int .i64 0, .string ⟨#[]⟩, .string ⟨#[]⟩] 45) = v13 at *
              have hB := hB2
              clear hB2
              refine wpAnyH_ready (rs := [1]) (by kernel_rfl) (by simp) ?_
              refine AllReadyH.cons rfl (fun K hK => ?_) AllReadyH.nil
              go_simp
              refine (CA.out _ v13).mono ?_
              rintro e v14 ⟨rfl, hb1⟩
              refine hK.out _ _ trivial (fun hHeld => ?_)
              clear hK K
              have hB := below_step hB (Nat.le_refl _) hb1
              have KR := Row8.below KR hb1 (Row8.lt KR)
              have KO := Blk.on KO hb1
              clear hb1
              refine take_at (i := 8) (v := ?_) rfl rfl (by kernel_rfl) (by kernel_rfl) (by kernel_rfl) (fun _ _ _ h => h) (Or.inl ⟨by rfl, ?_⟩) (by assumption) ?_
              rotate_left
              · intro w hSw; (try dsimp only at hSw); go_simp; try with_reducible rfl
              try simp only [Act.put, List.setIfInBounds_toArray, List.set_cons_zero, List.set_cons_succ]
              refine wpAnyH_ready (rs := [10]) (by kernel_rfl) (by simp) ?_
              refine AllReadyH.cons rfl (fun K hK => ?_) AllReadyH.nil
              refine step_storeRow rfl rfl 45 _ _ rfl v7.heap.size #[.int .i64 0, .int .i64 0, .int .i64 0, .int .i64 0, .string ⟨#[]⟩, .string ⟨#[]⟩] #[.int .i64 (x : Int), .int .i64 1, .int .i64 0, .int .i64 0, .string NM, .string ⟨#[]⟩] rfl rfl KO rfl (by kernel_rfl) (by simp [Value.oneCell']) ?_
              have hBz := below_setRow hB (show wr.heap.size ≤ v7.heap.size from hO) #[.int .i64 (x : Int), .int .i64 1, .int .i64 0, .int .i64 0, .string NM, .string ⟨#[]⟩]
              refine hK.out _ _ trivial (fun hHeld => ?_)
              clear hK K
              refine wpAnyH_done (by kernel_rfl) (NoPanic.normal ?_) _
              go_wp2_with fail
              go_meet
              case rel => exact ⟨v7.heap.size, rfl, hO, KO.setRow _, hBz⟩
          · go_simp
            refine hK.out _ _ trivial (fun hHeld => ?_)
            clear hK K
            have hB2 : Below wr.heap.size wr (v7.alloc (.cells #[.int .i64 0, .int .i64 0, .int .i64 0, .int .i64 0, .string ⟨#[]⟩, .string ⟨#[]⟩] 45)) := hB.alloc hB.size _
            have KO : Blk (v7.alloc (.cells #[.int .i64 0, .int .i64 0, .int .i64 0, .int .i64 0, .string ⟨#[]⟩, .string ⟨#[]⟩] 45)) 45 v7.heap.size #[.int .i64 0, .int .i64 0, .int .i64 0, .int .i64 0, .string ⟨#[]⟩, .string ⟨#[]⟩] := Blk.new v7 _ _
            have hO : wr.heap.size ≤ v7.heap.size := hB.size
            have KR := Row8.alloc KR (.cells #[.int .i64 0, .int .i64 0, .int .i64 0, .int .i64 0, .string ⟨#[]⟩, .string ⟨#[]⟩] 45)
            clear hB
            generalize v7.alloc (.cells #[.int .i64 0, .int .i64 0, .int .i64 0, .int .i64 0, .string ⟨#[]⟩, .string ⟨#[]⟩] 45) = v15 at *
            have hB := hB2
            clear hB2
            refine wpAnyH_ready (rs := [1, 6]) (by kernel_rfl) (by simp) ?_
            refine AllReadyH.cons rfl (fun K hK => ?_) (AllReadyH.cons rfl (fun K hK => ?_) AllReadyH.nil)
            · go_simp
              refine (CA.out _ v15).mono ?_
              rintro e v16 ⟨rfl, hb1⟩
              refine hK.out _ _ trivial (fun hHeld => ?_)
              clear hK K
              have hB := below_step hB (Nat.le_refl _) hb1
              have KR := Row8.below KR hb1 (Row8.lt KR)
              have KO := Blk.on KO hb1
              clear hb1
              refine wpAnyH_ready (rs := [6]) (by kernel_rfl) (by simp) ?_
              refine AllReadyH.cons rfl (fun K hK => ?_) AllReadyH.nil
              have hcv := conv_letM KR hx24
              rw [hLT] at hcv
              go_simp
              refine hK.out _ _ trivial (fun hHeld => ?_)
              clear hK K
              clear hcv
              refine take_at (i := 7) (v := ?_) rfl rfl (by kernel_rfl) (by kernel_rfl) (by kernel_rfl) (fun _ _ _ h => h) (Or.inl ⟨by rfl, ?_⟩) (by assumption) ?_
              rotate_left
              · intro w hSw; (try dsimp only at hSw); go_simp; try with_reducible rfl
              try simp only [Act.put, List.setIfInBounds_toArray, List.set_cons_zero, List.set_cons_succ]
              refine take_at (i := 8) (v := ?_) rfl rfl (by kernel_rfl) (by kernel_rfl) (by kernel_rfl) (fun _ _ _ h => h) (Or.inl ⟨by rfl, ?_⟩) (by assumption) ?_
              rotate_left
              · intro w hSw; (try dsimp only at hSw); go_simp; try with_reducible rfl
              try simp only [Act.put, List.setIfInBounds_toArray, List.set_cons_zero, List.set_cons_succ]
              refine wpAnyH_ready (rs := [10]) (by kernel_rfl) (by simp) ?_
              refine AllReadyH.cons rfl (fun K hK => ?_) AllReadyH.nil
              refine step_storeRow rfl rfl 45 _ _ rfl v7.heap.size #[.int .i64 0, .int .i64 0, .int .i64 0, .int .i64 0, .string ⟨#[]⟩, .string ⟨#[]⟩] #[.int .i64 (x : Int), .int .i64 1, .int .i64 0, .int .i64 0, .string NM, .string ⟨#[]⟩] rfl rfl KO rfl (by kernel_rfl) (by simp [Value.oneCell']) ?_
              have hBz := below_setRow hB (show wr.heap.size ≤ v7.heap.size from hO) #[.int .i64 (x : Int), .int .i64 1, .int .i64 0, .int .i64 0, .string NM, .string ⟨#[]⟩]
              refine hK.out _ _ trivial (fun hHeld => ?_)
              clear hK K
              refine wpAnyH_done (by kernel_rfl) (NoPanic.normal ?_) _
              go_wp2_with fail
              go_meet
              case rel => exact ⟨v7.heap.size, rfl, hO, KO.setRow _, hBz⟩
            · have hcv := conv_letM KR hx24
              rw [hLT] at hcv
              go_simp
              refine hK.out _ _ trivial (fun hHeld => ?_)
              clear hK K
              clear hcv
              refine take_at (i := 7) (v := ?_) rfl rfl (by kernel_rfl) (by kernel_rfl) (by kernel_rfl) (fun _ _ _ h => h) (Or.inl ⟨by rfl, ?_⟩) (by assumption) ?_
              rotate_left
              · intro w hSw; (try dsimp only at hSw); go_simp; try with_reducible rfl
              try simp only [Act.put, List.setIfInBounds_toArray, List.set_cons_zero, List.set_cons_succ]
              refine wpAnyH_ready (rs := [1]) (by kernel_rfl) (by simp) ?_
              refine AllReadyH.cons rfl (fun K hK => ?_) AllReadyH.nil
              go_simp
              refine (CA.out _ v15).mono ?_
              rintro e v17 ⟨rfl, hb1⟩
              refine hK.out _ _ trivial (fun hHeld => ?_)
              clear hK K
              have hB := below_step hB (Nat.le_refl _) hb1
              have KR := Row8.below KR hb1 (Row8.lt KR)
              have KO := Blk.on KO hb1
              clear hb1
              refine take_at (i := 8) (v := ?_) rfl rfl (by kernel_rfl) (by kernel_rfl) (by kernel_rfl) (fun _ _ _ h => h) (Or.inl ⟨by rfl, ?_⟩) (by assumption) ?_
              rotate_left
              · intro w hSw; (try dsimp only at hSw); go_simp; try with_reducible rfl
              try simp only [Act.put, List.setIfInBounds_toArray, List.set_cons_zero, List.set_cons_succ]
              refine wpAnyH_ready (rs := [10]) (by kernel_rfl) (by simp) ?_
              refine AllReadyH.cons rfl (fun K hK => ?_) AllReadyH.nil
              refine step_storeRow rfl rfl 45 _ _ rfl v7.heap.size #[.int .i64 0, .int .i64 0, .int .i64 0, .int .i64 0, .string ⟨#[]⟩, .string ⟨#[]⟩] #[.int .i64 (x : Int), .int .i64 1, .int .i64 0, .int .i64 0, .string NM, .string ⟨#[]⟩] rfl rfl KO rfl (by kernel_rfl) (by simp [Value.oneCell']) ?_
              have hBz := below_setRow hB (show wr.heap.size ≤ v7.heap.size from hO) #[.int .i64 (x : Int), .int .i64 1, .int .i64 0, .int .i64 0, .string NM, .string ⟨#[]⟩]
              refine hK.out _ _ trivial (fun hHeld => ?_)
              clear hK K
              refine wpAnyH_done (by kernel_rfl) (NoPanic.normal ?_) _
              go_wp2_with fail
              go_meet
              case rel => exact ⟨v7.heap.size, rfl, hO, KO.setRow _, hBz⟩
        · go_simp
          refine hK.out _ _ trivial (fun hHeld => ?_)
          clear hK K
          have hB2 : Below wr.heap.size wr (v0.alloc (.cells #[.int .i64 0, .int .i64 0, .int .i64 0, .int .i64 0, .string ⟨#[]⟩, .string ⟨#[]⟩] 45)) := hB.alloc hB.size _
          have KO : Blk (v0.alloc (.cells #[.int .i64 0, .int .i64 0, .int .i64 0, .int .i64 0, .string ⟨#[]⟩, .string ⟨#[]⟩] 45)) 45 v0.heap.size #[.int .i64 0, .int .i64 0, .int .i64 0, .int .i64 0, .string ⟨#[]⟩, .string ⟨#[]⟩] := Blk.new v0 _ _
          have hO : wr.heap.size ≤ v0.heap.size := hB.size
          clear hB
          generalize v0.alloc (.cells #[.int .i64 0, .int .i64 0, .int .i64 0, .int .i64 0, .string ⟨#[]⟩, .string ⟨#[]⟩] 45) = v18 at *
          have hB := hB2
          clear hB2
          refine wpAnyH_ready (rs := [1, 5]) (by kernel_rfl) (by simp) ?_
          refine AllReadyH.cons rfl (fun K hK => ?_) (AllReadyH.cons rfl (fun K hK => ?_) AllReadyH.nil)
          · go_simp
            refine (CA.out _ v18).mono ?_
            rintro e v19 ⟨rfl, hb1⟩
            refine hK.out _ _ trivial (fun hHeld => ?_)
            clear hK K
            have hB := below_step hB (Nat.le_refl _) hb1
            have KO := Blk.on KO hb1
            clear hb1
            refine wpAnyH_ready (rs := [5]) (by kernel_rfl) (by simp) ?_
            refine AllReadyH.cons rfl (fun K hK => ?_) AllReadyH.nil
            go_simp
            refine hK.out _ _ trivial (fun hHeld => ?_)
            clear hK K
            have hB2 : Below wr.heap.size wr (v19.alloc (.cells #[.int .u8 (97 + (x : Int))] 5)) := hB.alloc hB.size _
            have KR : Row8 (v19.alloc (.cells #[.int .u8 (97 + (x : Int))] 5)) v19.heap.size 1 (fun _ => 97 + x) := row_letM v19 x
            have KO := Blk.alloc KO (.cells #[.int .u8 (97 + (x : Int))] 5)
            clear hB
            generalize v19.alloc (.cells #[.int .u8 (97 + (x : Int))] 5) = v20 at *
            have hB := hB2
            clear hB2
            refine wpAnyH_ready (rs := [6]) (by kernel_rfl) (by simp) ?_
            refine AllReadyH.cons rfl (fun K hK => ?_) AllReadyH.nil
            have hcv := conv_letM KR hx24
            rw [hLT] at hcv
            go_simp
            refine hK.out _ _ trivial (fun hHeld => ?_)
            clear hK K
            clear hcv
            refine take_at (i := 7) (v := ?_) rfl rfl (by kernel_rfl) (by kernel_rfl) (by kernel_rfl) (fun _ _ _ h => h) (Or.inl ⟨by rfl, ?_⟩) (by assumption) ?_
            rotate_left
            · intro w hSw; (try dsimp only at hSw); go_simp; try with_reducible rfl
            try simp only [Act.put, List.setIfInBounds_toArray, List.set_cons_zero, List.set_cons_succ]
            refine take_at (i := 8) (v := ?_) rfl rfl (by kernel_rfl) (by kernel_rfl) (by kernel_rfl) (fun _ _ _ h => h) (Or.inl ⟨by rfl, ?_⟩) (by assumption) ?_
            rotate_left
            · intro w hSw; (try dsimp only at hSw); go_simp; try with_reducible rfl
            try simp only [Act.put, List.setIfInBounds_toArray, List.set_cons_zero, List.set_cons_succ]
            refine wpAnyH_ready (rs := [10]) (by kernel_rfl) (by simp) ?_
            refine AllReadyH.cons rfl (fun K hK => ?_) AllReadyH.nil
            refine step_storeRow rfl rfl 45 _ _ rfl v0.heap.size #[.int .i64 0, .int .i64 0, .int .i64 0, .int .i64 0, .string ⟨#[]⟩, .string ⟨#[]⟩] #[.int .i64 (x : Int), .int .i64 1, .int .i64 0, .int .i64 0, .string NM, .string ⟨#[]⟩] rfl rfl KO rfl (by kernel_rfl) (by simp [Value.oneCell']) ?_
            have hBz := below_setRow hB (show wr.heap.size ≤ v0.heap.size from hO) #[.int .i64 (x : Int), .int .i64 1, .int .i64 0, .int .i64 0, .string NM, .string ⟨#[]⟩]
            refine hK.out _ _ trivial (fun hHeld => ?_)
            clear hK K
            refine wpAnyH_done (by kernel_rfl) (NoPanic.normal ?_) _
            go_wp2_with fail
            go_meet
            case rel => exact ⟨v0.heap.size, rfl, hO, KO.setRow _, hBz⟩
          · go_simp
            refine hK.out _ _ trivial (fun hHeld => ?_)
            clear hK K
            have hB2 : Below wr.heap.size wr (v18.alloc (.cells #[.int .u8 (97 + (x : Int))] 5)) := hB.alloc hB.size _
            have KR : Row8 (v18.alloc (.cells #[.int .u8 (97 + (x : Int))] 5)) v18.heap.size 1 (fun _ => 97 + x) := row_letM v18 x
            have KO := Blk.alloc KO (.cells #[.int .u8 (97 + (x : Int))] 5)
            clear hB
            generalize v18.alloc (.cells #[.int .u8 (97 + (x : Int))] 5) = v21 at *
            have hB := hB2
            clear hB2
            refine wpAnyH_ready (rs := [1, 6]) (by kernel_rfl) (by simp) ?_
            refine AllReadyH.cons rfl (fun K hK => ?_) (AllReadyH.cons rfl (fun K hK => ?_) AllReadyH.nil)
            · go_simp
              refine (CA.out _ v21).mono ?_
              rintro e v22 ⟨rfl, hb1⟩
              refine hK.out _ _ trivial (fun hHeld => ?_)
              clear hK K
              have hB := below_step hB (Nat.le_refl _) hb1
              have KR := Row8.below KR hb1 (Row8.lt KR)
              have KO := Blk.on KO hb1
              clear hb1
              refine wpAnyH_ready (rs := [6]) (by kernel_rfl) (by simp) ?_
              refine AllReadyH.cons rfl (fun K hK => ?_) AllReadyH.nil
              have hcv := conv_letM KR hx24
              rw [hLT] at hcv
              go_simp
              refine hK.out _ _ trivial (fun hHeld => ?_)
              clear hK K
              clear hcv
              refine take_at (i := 7) (v := ?_) rfl rfl (by kernel_rfl) (by kernel_rfl) (by kernel_rfl) (fun _ _ _ h => h) (Or.inl ⟨by rfl, ?_⟩) (by assumption) ?_
              rotate_left
              · intro w hSw; (try dsimp only at hSw); go_simp; try with_reducible rfl
              try simp only [Act.put, List.setIfInBounds_toArray, List.set_cons_zero, List.set_cons_succ]
              refine take_at (i := 8) (v := ?_) rfl rfl (by kernel_rfl) (by kernel_rfl) (by kernel_rfl) (fun _ _ _ h => h) (Or.inl ⟨by rfl, ?_⟩) (by assumption) ?_
              rotate_left
              · intro w hSw; (try dsimp only at hSw); go_simp; try with_reducible rfl
              try simp only [Act.put, List.setIfInBounds_toArray, List.set_cons_zero, List.set_cons_succ]
              refine wpAnyH_ready (rs := [10]) (by kernel_rfl) (by simp) ?_
              refine AllReadyH.cons rfl (fun K hK => ?_) AllReadyH.nil
              refine step_storeRow rfl rfl 45 _ _ rfl v0.heap.size #[.int .i64 0, .int .i64 0, .int .i64 0, .int .i64 0, .string ⟨#[]⟩, .string ⟨#[]⟩] #[.int .i64 (x : Int), .int .i64 1, .int .i64 0, .int .i64 0, .string NM, .string ⟨#[]⟩] rfl rfl KO rfl (by kernel_rfl) (by simp [Value.oneCell']) ?_
              have hBz := below_setRow hB (show wr.heap.size ≤ v0.heap.size from hO) #[.int .i64 (x : Int), .int .i64 1, .int .i64 0, .int .i64 0, .string NM, .string ⟨#[]⟩]
              refine hK.out _ _ trivial (fun hHeld => ?_)
              clear hK K
              refine wpAnyH_done (by kernel_rfl) (NoPanic.normal ?_) _
              go_wp2_with fail
              go_meet
              case rel => exact ⟨v0.heap.size, rfl, hO, KO.setRow _, hBz⟩
            · have hcv := conv_letM KR hx24
              rw [hLT] at hcv
              go_simp
              refine hK.out _ _ trivial (fun hHeld => ?_)
              clear hK K
              clear hcv
              refine take_at (i := 7) (v := ?_) rfl rfl (by kernel_rfl) (by kernel_rfl) (by kernel_rfl) (fun _ _ _ h => h) (Or.inl ⟨by rfl, ?_⟩) (by assumption) ?_
              rotate_left
              · intro w hSw; (try dsimp only at hSw); go_simp; try with_reducible rfl
              try simp only [Act.put, List.setIfInBounds_toArray, List.set_cons_zero, List.set_cons_succ]
              refine wpAnyH_ready (rs := [1]) (by kernel_rfl) (by simp) ?_
              refine AllReadyH.cons rfl (fun K hK => ?_) AllReadyH.nil
              go_simp
              refine (CA.out _ v21).mono ?_
              rintro e v23 ⟨rfl, hb1⟩
              refine hK.out _ _ trivial (fun hHeld => ?_)
              clear hK K
              have hB := below_step hB (Nat.le_refl _) hb1
              have KR := Row8.below KR hb1 (Row8.lt KR)
              have KO := Blk.on KO hb1
              clear hb1
              refine take_at (i := 8) (v := ?_) rfl rfl (by kernel_rfl) (by kernel_rfl) (by kernel_rfl) (fun _ _ _ h => h) (Or.inl ⟨by rfl, ?_⟩) (by assumption) ?_
              rotate_left
              · intro w hSw; (try dsimp only at hSw); go_simp; try with_reducible rfl
              try simp only [Act.put, List.setIfInBounds_toArray, List.set_cons_zero, List.set_cons_succ]
              refine wpAnyH_ready (rs := [10]) (by kernel_rfl) (by simp) ?_
              refine AllReadyH.cons rfl (fun K hK => ?_) AllReadyH.nil
              refine step_storeRow rfl rfl 45 _ _ rfl v0.heap.size #[.int .i64 0, .int .i64 0, .int .i64 0, .int .i64 0, .string ⟨#[]⟩, .string ⟨#[]⟩] #[.int .i64 (x : Int), .int .i64 1, .int .i64 0, .int .i64 0, .string NM, .string ⟨#[]⟩] rfl rfl KO rfl (by kernel_rfl) (by simp [Value.oneCell']) ?_
              have hBz := below_setRow hB (show wr.heap.size ≤ v0.heap.size from hO) #[.int .i64 (x : Int), .int .i64 1, .int .i64 0, .int .i64 0, .string NM, .string ⟨#[]⟩]
              refine hK.out _ _ trivial (fun hHeld => ?_)
              clear hK K
              refine wpAnyH_done (by kernel_rfl) (NoPanic.normal ?_) _
              go_wp2_with fail
              go_meet
              case rel => exact ⟨v0.heap.size, rfl, hO, KO.setRow _, hBz⟩
      case rest =>
        obtain ⟨ho, rfl, hho, hKo, hBo⟩ := hcut
        have HKo : Hid (Blk wc 45 ho #[.int .i64 (x : Int), .int .i64 1, .int .i64 0, .int .i64 0, .string NM, .string ⟨#[]⟩]) := hKo
        have HOc : Hid (OwnN wc w.heap.size u6 (chM 0 i)) := owns_on HO.out hBo
        have HBc : Hid (Below w.heap.size w wc) := below_step HB.out (Nat.le_refl _) hBo
        have HHo : Hid (w.heap.size ≤ ho) := Nat.le_trans HB.out.size hho
        have HHr : Hid (wr.heap.size ≤ ho) := hho
        have HR : Hid (∀ k, u6.ownBlock = some k → k < wr.heap.size) := fun k hk => (World.ownsRow.lt HO.out k hk).2
        clear HO HB hBo hho hKo
        by_cases h1 : x = 1
        · have b1 : ¬ ((1 : Int) < (x : Int)) := by omega
          have H1 : Hid (x = 1) := h1
          clear h1
          have hlen := chM_len 0 i
          have hown := HOc.out
          unfold OwnN at hown
          have hsz := HBc.out.size
          have c0 : wc.cell? ⟨ho, 0, none⟩ = some (.int .i64 (x : Int)) := HKo.out.cell 0
          have c1 : wc.cell? ⟨ho, 1, none⟩ = some (.int .i64 1) := HKo.out.cell 1
          have c2 : wc.cell? ⟨ho, 2, none⟩ = some (.int .i64 0) := HKo.out.cell 2
          have c3 : wc.cell? ⟨ho, 3, none⟩ = some (.int .i64 0) := HKo.out.cell 3
          have c4 : wc.cell? ⟨ho, 4, none⟩ = some (.string NM) := HKo.out.cell 4
          have c5 : wc.cell? ⟨ho, 5, none⟩ = some (.string ⟨#[]⟩) := HKo.out.cell 5
          go_wp2_with (at_builtin; refine wpList_appR rfl (.tmp 48) (.tmp 50) 22 rfl w.heap.size 45 i0 _ 6 64 Tryz.underlying22 hi hz0 hz1 hz2 rfl (by decide) wc u6 _ _ rfl hown #[.int .i64 (x : Int), .int .i64 1, .int .i64 0, .int .i64 0, .string NM, .string ⟨#[]⟩] rfl (nodeA_one (((x : Int), 1), (0, 0), NM, ⟨#[]⟩)) rfl (by rw [hlen]; omega) (by rw [hlen]; unfold maxLen; omega) hsz ?_)
          intro v1 w1 hown1 hb1
          have HO1 : Hid (OwnN w1 w.heap.size v1 (chM 0 (i + 1))) := by
            show OwnN _ _ _ _
            rw [chM_succ]
            unfold OwnN
            rw [cellsN_snoc, List.length_append]
            have e : ndM 0 (i + 1) = (((x : Int), 1), (0, 0), NM, ⟨#[]⟩) := by
              rw [HNM.out, ← HX.out, H1.out]; rfl
            rw [e, chM_len]
            exact hown1
          have HB1 : Hid (Below w.heap.size w w1) := HBc.out.trans hb1
          clear hown1 hb1 hown hlen HOc HBc c0 c1 c2 c3 c4 c5
          go_wp2_with fail
          refine ⟨?_, ?_⟩
          · first | exact ⟨i + 1, x + 1, by show _ = _; rw [HX.out], by have := HX.out; omega, by omega, by omega, by go_num, HO1, HB1⟩ | ((repeat apply Exists.intro); refine ⟨?_, rfl⟩; exact ⟨i + 1, x + 1, by show _ = _; rw [HX.out], by have := HX.out; omega, by omega, by omega, by go_num, HO1, HB1⟩)
          · simp [intOf] <;> omega
        · have b1 : (1 : Int) < (x : Int) := by omega
          have hwx : IntKind.i64.wrap ((x : Int) - 1) = (x : Int) - 1 := by rw [IntKind.wrap_i64]; omega
          go_wp2_with fail
          refine (CA.out _ _).mono ?_
          rintro e w1 ⟨rfl, hb1⟩
          have HK1 : Hid (Blk w1 45 ho #[.int .i64 (x : Int), .int .i64 1, .int .i64 0, .int .i64 0, .string NM, .string ⟨#[]⟩]) := HKo.out.on hb1
          have HO1 : Hid (OwnN w1 w.heap.size u6 (chM 0 i)) := owns_on HOc.out hb1
          have HB1 : Hid (Below w.heap.size w w1) := below_step HBc.out (Nat.le_refl _) hb1
          have c2 : w1.cell? ⟨ho, 2, none⟩ = some (.int .i64 0) := HK1.out.cell 2
          have c3 : w1.cell? ⟨ho, 3, none⟩ = some (.int .i64 0) := HK1.out.cell 3
          have f2 := HK1.out.free 2
          have f3 := HK1.out.free 3
          have hlen := chM_len 0 i
          have hown0 : World.ownsRow ((w1.setCell ⟨ho, 2, none⟩ (.int .i64 ((x : Int) - 1))).setCell ⟨ho, 3, none⟩ (.int .i64 1)) w.heap.size 45 6 u6 (chM 0 i).length (cellsN (chM 0 i)) := owns_same HO1.out (fun k hk => by
            have hlt := HR.out k hk
            have hne : k ≠ ho := by have := HHr.out; omega
            rw [Below.heap_setCell _ _ _ k hne, Below.heap_setCell _ _ _ k hne])
          have hB20 : Below w.heap.size w ((w1.setCell ⟨ho, 2, none⟩ (.int .i64 ((x : Int) - 1))).setCell ⟨ho, 3, none⟩ (.int .i64 1)) := (HB1.out.setCell (p := ⟨ho, 2, none⟩) HHo.out _).setCell (p := ⟨ho, 3, none⟩) HHo.out _
          have hK20 : Blk ((w1.setCell ⟨ho, 2, none⟩ (.int .i64 ((x : Int) - 1))).setCell ⟨ho, 3, none⟩ (.int .i64 1)) 45 ho #[.int .i64 (x : Int), .int .i64 1, .int .i64 ((x : Int) - 1), .int .i64 1, .string NM, .string ⟨#[]⟩] := (HK1.out.setAt 2 (.int .i64 ((x : Int) - 1))).setAt 3 (.int .i64 1)
          obtain ⟨W2, hW2⟩ : ∃ W2, (w1.setCell ⟨ho, 2, none⟩ (.int .i64 ((x : Int) - 1))).setCell ⟨ho, 3, none⟩ (.int .i64 1) = W2 := ⟨_, rfl⟩
          rw [hW2] at hown0 hB20 hK20
          have hown := hown0
          have HB2 : Hid (Below w.heap.size w W2) := hB20
          have hsz := HB2.out.size
          have e0 : W2.cell? ⟨ho, 0, none⟩ = some (.int .i64 (x : Int)) := hK20.cell 0
          have e1 : W2.cell? ⟨ho, 1, none⟩ = some (.int .i64 1) := hK20.cell 1
          have e2 : W2.cell? ⟨ho, 2, none⟩ = some (.int .i64 ((x : Int) - 1)) := hK20.cell 2
          have e3 : W2.cell? ⟨ho, 3, none⟩ = some (.int .i64 1) := hK20.cell 3
          have e4 : W2.cell? ⟨ho, 4, none⟩ = some (.string NM) := hK20.cell 4
          have e5 : W2.cell? ⟨ho, 5, none⟩ = some (.string ⟨#[]⟩) := hK20.cell 5
          clear hb1 HKo HOc HBc hown0 hB20 hK20
          go_wp2_with (at_builtin; refine wpList_appR rfl (.tmp 48) (.tmp 50) 22 rfl w.heap.size 45 i0 _ 6 64 Tryz.underlying22 hi hz0 hz1 hz2 rfl (by decide) W2 u6 _ _ rfl hown #[.int .i64 (x : Int), .int .i64 1, .int .i64 ((x : Int) - 1), .int .i64 1, .string NM, .string ⟨#[]⟩] rfl (nodeA_one (((x : Int), 1), ((x : Int) - 1, 1), NM, ⟨#[]⟩)) rfl (by rw [hlen]; omega) (by rw [hlen]; unfold maxLen; omega) hsz ?_)
          intro v2 w2 hown2 hb2
          have HO2 : Hid (OwnN w2 w.heap.size v2 (chM 0 (i + 1))) := by
            show OwnN _ _ _ _
            rw [chM_succ]
            unfold OwnN
            rw [cellsN_snoc, List.length_append]
            have e : ndM 0 (i + 1) = (((x : Int), 1), ((x : Int) - 1, 1), NM, ⟨#[]⟩) := by
              rw [HNM.out, ← HX.out]; exact ndM_more x (by omega)
            rw [e, chM_len]
            exact hown2
          have HB3 : Hid (Below w.heap.size w w2) := HB2.out.trans hb2
          clear hown2 hb2 hown hlen HO1 HB1 HB2 HK1 hW2 c2 c3 f2 f3 e0 e1 e2 e3 e4 e5
          go_wp2_with fail
          refine ⟨?_, ?_⟩
          · first | exact ⟨i + 1, x + 1, by show _ = _; rw [HX.out], by have := HX.out; omega, by omega, by omega, by go_num, HO2, HB3⟩ | ((repeat apply Exists.intro); refine ⟨?_, rfl⟩; exact ⟨i + 1, x + 1, by show _ = _; rw [HX.out], by have := HX.out; omega, by omega, by omega, by go_num, HO2, HB3⟩)
          · simp [intOf] <;> omega
    · obtain rfl : i = c + 2 := by have := HX.out; omega
      have b0 : ¬ ((x : Int) ≤ 2 + (c : Int)) := by omega
      clear HX hic hx1 hxc hlt
      go_wp2_with fail
      refine (CA.out _ _).mono ?_
      rintro e w1 ⟨rfl, hb1⟩
      have hown : World.ownsRow w1 w.heap.size 45 6 u6 (chM 0 (c + 2)).length (cellsN (chM 0 (c + 2))) := owns_on HO.out hb1
      have HB1 : Hid (Below w.heap.size w w1) := below_step HB.out (Nat.le_refl _) hb1
      have hsz := HB1.out.size
      have hlen := chM_len 0 (c + 2)
      clear HO HB hb1
      go_wp2_with (at_builtin; refine wpList_appR rfl (.tmp 52) (.tmp 55) 22 rfl w.heap.size 45 i0 _ 6 64 Tryz.underlying22 hi hz0 hz1 hz2 rfl (by decide) w1 u6 _ _ rfl hown #[.int .i64 50, .int .i64 1, .int .i64 0, .int .i64 0, .string ⟨#[111, 116, 104, 101, 114]⟩, .string ⟨#[]⟩] rfl (nodeA_one ((50, 1), (0, 0), ⟨#[111, 116, 104, 101, 114]⟩, ⟨#[]⟩)) rfl (by rw [hlen]; omega) (by rw [hlen]; unfold maxLen; omega) hsz ?_)
      intro v3 W3 hown3 hb3
      have hO3 : OwnN W3 w.heap.size v3 (mvM (c + 2) 0) := by
        unfold mvM OwnN
        rw [cellsN_snoc, List.length_append, chM_len]
        exact hown3
      have HB3 : Hid (Below w.heap.size w W3) := HB1.out.trans hb3
      clear hown3 hb3 hown hlen HB1 hsz
      obtain ⟨n, Hn⟩ : ∃ n, Hid (n = c + 2) := ⟨_, rfl⟩
      rw [← Hn.out] at hO3
      obtain ⟨a6, cap6, rfl, hN6⟩ := OwnN.nodes hO3
      rw [mvM_len] at hN6 ⊢
      obtain ⟨b, off, rfl, _⟩ := hN6.2.some (show 0 < n + 1 by omega)
      have HN6 : Hid (NodesAt W3 (some ⟨b, off, none⟩) (n + 1) (mvM n 0)) := hN6
      obtain ⟨k, Hk⟩ : ∃ k, Hid (k = d + 1) := ⟨_, rfl⟩
      have HK : Hid ((0 < k ∧ k ≤ n) ∧ n < 11) := ⟨⟨by rw [Hk.out]; omega, by rw [Hk.out, Hn.out]; omega⟩, by rw [Hn.out]; omega⟩
      have hn11 : n < 11 := HK.out.2
      clear hN6 hO3
      go_wp2_with fail
      go_loopw [10, 11] (fun mv jv wr => ∃ j : Nat, j ≤ n + 1 ∧ jv = .int .i64 (j : Int) ∧ Hid (OwnN wr W3.heap.size mv ((mvM n k).take j)) ∧ Hid (Below W3.heap.size W3 wr)) (fun _ jv _ => n + 1 - (intOf jv).toNat)
      case atStart => exact ⟨0, Nat.zero_le _, rfl, OwnN.nil _ _, Below.refl _ _⟩
      case round =>
        obtain ⟨j, hj, rfl, HO, HB⟩ := hrel
        by_cases hlt : j < n + 1
        · have b0 : (j : Int) < (n : Int) + 1 := by omega
          have hcs := (HN6.out.below HB.out).cells j hlt
          obtain ⟨X, HXe⟩ : ∃ X : NodeT, Hid (X = nL (mvM n 0) j) := ⟨_, rfl⟩
          rw [← HXe.out] at hcs
          obtain ⟨⟨p1, p2⟩, ⟨p3, p4⟩, p5, p6⟩ := X
          obtain ⟨q0, q1, q2, q3, q4, q5⟩ := hcs
          simp only at q0 q1 q2 q3 q4 q5
          have hlen : ((mvM n k).take j).length = j := by rw [List.length_take, mvM_len]; omega
          obtain ⟨D, HD⟩ : ∃ D, Hid (D = decide ((p1, p2) = (1 + (d : Int), (1 : Int)))) := ⟨_, rfl⟩
          have heq : ∀ w, (binOp .eql 36 (.agg #[.int .i64 p1, .int .i64 p2]) (.agg #[.int .i64 (1 + (d : Int)), .int .i64 1])).run Tryz.prog w = .ok (.bool D) w := fun w => by
            have h := stampEq p1 p2 (1 + (d : Int)) 1 w
            rw [HD.out]
            simp only [binOp]
            simp [Op.equal, Op.maxDepth, h]
          have HW : Hid (W3.heap.size ≤ wr.heap.size) := HB.out.size
          have HR : Hid (∀ z, u10.ownBlock = some z → z < wr.heap.size) := fun z hz => (World.ownsRow.lt HO.out z hz).2
          have hbx : Below wr.heap.size wr (wr.alloc (.cells #[.int .i64 p1, .int .i64 p2, .int .i64 p3, .int .i64 p4, .string p5, .string p6] 45)) := below_new wr _
          have hK0 := Blk.new wr 45 #[.int .i64 p1, .int .i64 p2, .int .i64 p3, .int .i64 p4, .string p5, .string p6]
          have HOx : Hid (OwnN (wr.alloc (.cells #[.int .i64 p1, .int .i64 p2, .int .i64 p3, .int .i64 p4, .string p5, .string p6] 45)).drew W3.heap.size u10 ((mvM n k).take j)) := owns_on HO.out hbx.drew
          have HBx : Hid (Below W3.heap.size W3 (wr.alloc (.cells #[.int .i64 p1, .int .i64 p2, .int .i64 p3, .int .i64 p4, .string p5, .string p6] 45)).drew) := (below_step HB.out (Nat.le_refl _) hbx).drew
          have HKx : Hid (Blk (wr.alloc (.cells #[.int .i64 p1, .int .i64 p2, .int .i64 p3, .int .i64 p4, .string p5, .string p6] 45)).drew 45 wr.heap.size #[.int .i64 p1, .int .i64 p2, .int .i64 p3, .int .i64 p4, .string p5, .string p6]) := hK0
          have s0 : (wr.alloc (.cells #[.int .i64 p1, .int .i64 p2, .int .i64 p3, .int .i64 p4, .string p5, .string p6] 45)).drew.cell? ⟨wr.heap.size, 0, none⟩ = some (.int .i64 p1) ∧ (wr.alloc (.cells #[.int .i64 p1, .int .i64 p2, .int .i64 p3, .int .i64 p4, .string p5, .string p6] 45)).drew.cell? ⟨wr.heap.size, 1, none⟩ = some (.int .i64 p2) := ⟨hK0.cell 0, hK0.cell 1⟩
          clear hbx hK0 HO HB
          go_wp2_with fail
          refine wp_region_noPanic ?_
          refine wp_region_held_drew (S := fun w' => w'.cell? ⟨wr.heap.size, 0, none⟩ = some (.int .i64 p1) ∧ w'.cell? ⟨wr.heap.size, 1, none⟩ = some (.int .i64 p2)) (by kernel_rfl) (by first | exact trivial | assumption | exact ⟨by assumption, by assumption⟩) (fun hHeld => ?_)
          refine take_at (i := 0) (v := ?_) rfl rfl (by kernel_rfl) (by kernel_rfl) (by kernel_rfl) (fun _ _ _ h => h) (Or.inl ⟨by rfl, ?_⟩) (by assumption) ?_
          rotate_left
          · intro w hSw; (try dsimp only at hSw); go_simp; try with_reducible rfl
          try simp only [Act.put, List.setIfInBounds_toArray, List.set_cons_zero, List.set_cons_succ]
          refine take_at (i := 1) (v := ?_) rfl rfl (by kernel_rfl) (by kernel_rfl) (by kernel_rfl) (fun _ _ _ h => h) (Or.inl ⟨by rfl, ?_⟩) (by assumption) ?_
          rotate_left
          · intro w hSw; (try dsimp only at hSw); go_simp; try with_reducible rfl
          try simp only [Act.put, List.setIfInBounds_toArray, List.set_cons_zero, List.set_cons_succ]
          refine take_at (i := 2) (v := ?_) rfl rfl (by kernel_rfl) (by kernel_rfl) (by kernel_rfl) (fun _ _ _ h => h) (Or.inl ⟨by rfl, ?_⟩) (by assumption) ?_
          rotate_left
          · intro w hSw; (try dsimp only at hSw); go_simp; try with_reducible rfl
          try simp only [Act.put, List.setIfInBounds_toArray, List.set_cons_zero, List.set_cons_succ]
          refine wpAnyH_ready (rs := [3]) (by kernel_rfl) (by simp) ?_
          refine AllReadyH.cons rfl (fun K hK => ?_) AllReadyH.nil
          go_simp
          refine (CA.out _ _).mono ?_
          rintro e w1 ⟨rfl, hb1⟩
          have HO1 : Hid (OwnN w1 W3.heap.size u10 ((mvM n k).take j)) := owns_on HOx.out hb1
          have HB1 : Hid (Below W3.heap.size W3 w1) := below_step HBx.out (Nat.le_refl _) hb1
          have HK1 : Hid (Blk w1 45 wr.heap.size #[.int .i64 p1, .int .i64 p2, .int .i64 p3, .int .i64 p4, .string p5, .string p6]) := HKx.out.on hb1
          have s1 : w1.cell? ⟨wr.heap.size, 0, none⟩ = some (.int .i64 p1) ∧ w1.cell? ⟨wr.heap.size, 1, none⟩ = some (.int .i64 p2) := ⟨HK1.out.cell 0, HK1.out.cell 1⟩
          clear hb1 HOx HBx HKx s0 q0 q1 q2 q3 q4 q5
          refine hK.out _ _ s1 (fun hHeld => ?_)
          clear hK K
          refine take_at (i := 4) (v := ?_) rfl rfl (by kernel_rfl) (by kernel_rfl) (by kernel_rfl) (fun _ _ _ h => h) (Or.inl ⟨by rfl, ?_⟩) (by assumption) ?_
          rotate_left
          · intro w hSw; (try dsimp only at hSw); go_simp; try with_reducible rfl
          try simp only [Act.put, List.setIfInBounds_toArray, List.set_cons_zero, List.set_cons_succ]
          refine wpAnyH_done (by kernel_rfl) (NoPanic.normal ?_) _
          clear s1 heq
          have HS : Hid (nL (mvM n k) j = if D = true then ((p1, p2), (50, 1), p5, p6) else ((p1, p2), (p3, p4), p5, p6)) := by
            show _ = _
            rw [mvM_step n k j HK.out.1.2 HK.out.2 hlt, ← HXe.out]
            have hk2 : (1 : Int) + (d : Int) = (k : Int) := by rw [Hk.out]; omega
            rw [HD.out, hk2]
            by_cases h : ((p1, p2) : Int × Int) = ((k : Int), 1)
            · rw [if_pos h, if_pos (decide_eq_true h)]
            · rw [if_neg h, if_neg (by rw [decide_eq_false h]; decide)]
          clear HD HXe
          cases D with
          | true =>
            go_wp2_with fail
            refine (CA.out _ _).mono ?_
            rintro e w2 ⟨rfl, hb2⟩
            have HO2 : Hid (OwnN w2 W3.heap.size u10 ((mvM n k).take j)) := owns_on HO1.out hb2
            have HB2 : Hid (Below W3.heap.size W3 w2) := below_step HB1.out (Nat.le_refl _) hb2
            have HK2 : Hid (Blk w2 45 wr.heap.size #[.int .i64 p1, .int .i64 p2, .int .i64 p3, .int .i64 p4, .string p5, .string p6]) := HK1.out.on hb2
            have c2 : w2.cell? ⟨wr.heap.size, 2, none⟩ = some (.int .i64 p3) := HK2.out.cell 2
            have c3 : w2.cell? ⟨wr.heap.size, 3, none⟩ = some (.int .i64 p4) := HK2.out.cell 3
            have f2 := HK2.out.free 2
            have f3 := HK2.out.free 3
            have hown0 : World.ownsRow ((w2.setCell ⟨wr.heap.size, 2, none⟩ (.int .i64 50)).setCell ⟨wr.heap.size, 3, none⟩ (.int .i64 1)) W3.heap.size 45 6 u10 ((mvM n k).take j).length (cellsN ((mvM n k).take j)) := owns_same HO2.out (fun z hz => by
              have hne : z ≠ wr.heap.size := by have := HR.out z hz; omega
              rw [Below.heap_setCell _ _ _ z hne, Below.heap_setCell _ _ _ z hne])
            have hB20 : Below W3.heap.size W3 ((w2.setCell ⟨wr.heap.size, 2, none⟩ (.int .i64 50)).setCell ⟨wr.heap.size, 3, none⟩ (.int .i64 1)) := (HB2.out.setCell (p := ⟨wr.heap.size, 2, none⟩) HW.out _).setCell (p := ⟨wr.heap.size, 3, none⟩) HW.out _
            have hK20 : Blk ((w2.setCell ⟨wr.heap.size, 2, none⟩ (.int .i64 50)).setCell ⟨wr.heap.size, 3, none⟩ (.int .i64 1)) 45 wr.heap.size #[.int .i64 p1, .int .i64 p2, .int .i64 50, .int .i64 1, .string p5, .string p6] := (HK2.out.setAt 2 (.int .i64 50)).setAt 3 (.int .i64 1)
            obtain ⟨W4, hW4⟩ : ∃ W4, (w2.setCell ⟨wr.heap.size, 2, none⟩ (.int .i64 50)).setCell ⟨wr.heap.size, 3, none⟩ (.int .i64 1) = W4 := ⟨_, rfl⟩
            rw [hW4] at hown0 hB20 hK20
            have hown := hown0
            have HB4 : Hid (Below W3.heap.size W3 W4) := hB20
            have hsz := HB4.out.size
            have e0 : W4.cell? ⟨wr.heap.size, 0, none⟩ = some (.int .i64 p1) := hK20.cell 0
            have e1 : W4.cell? ⟨wr.heap.size, 1, none⟩ = some (.int .i64 p2) := hK20.cell 1
            have e2 : W4.cell? ⟨wr.heap.size, 2, none⟩ = some (.int .i64 50) := hK20.cell 2
            have e3 : W4.cell? ⟨wr.heap.size, 3, none⟩ = some (.int .i64 1) := hK20.cell 3
            have e4 : W4.cell? ⟨wr.heap.size, 4, none⟩ = some (.string p5) := hK20.cell 4
            have e5 : W4.cell? ⟨wr.heap.size, 5, none⟩ = some (.string p6) := hK20.cell 5
            clear hb2 HO1 HB1 HK1 hown0 hB20 hK20
            go_wp2_with (at_builtin; refine wpList_appR rfl (.tmp 79) (.tmp 81) 22 rfl W3.heap.size 45 i0 _ 6 64 Tryz.underlying22 hi hz0 hz1 hz2 rfl (by decide) W4 u10 _ _ rfl hown #[.int .i64 p1, .int .i64 p2, .int .i64 50, .int .i64 1, .string p5, .string p6] rfl (nodeA_one ((p1, p2), (50, 1), p5, p6)) rfl (by rw [hlen]; omega) (by rw [hlen]; unfold maxLen; omega) hsz ?_)
            intro v5 w5 hown5 hb5
            have HO5 : Hid (OwnN w5 W3.heap.size v5 ((mvM n k).take (j + 1))) := by
              show OwnN _ _ _ _
              rw [take_stepM _ _ (by rw [mvM_len]; exact hlt)]
              unfold OwnN
              rw [cellsN_snoc, List.length_append, hlen, HS.out]
              exact hown5
            have HB5 : Hid (Below W3.heap.size W3 w5) := HB4.out.trans hb5
            clear hown5 hb5 hown hlen HO2 HB2 HK2 HB4 hW4 hsz c2 c3 f2 f3 e0 e1 e2 e3 e4 e5 HS HR
            go_wp2_with fail
            refine ⟨?_, ?_⟩
            · first | exact ⟨j + 1, by omega, by go_num, HO5, HB5⟩ | ((repeat apply Exists.intro); refine ⟨?_, rfl⟩; exact ⟨j + 1, by omega, by go_num, HO5, HB5⟩)
            · simp [intOf] <;> omega
          | false =>
            have hown : World.ownsRow w1 W3.heap.size 45 6 u10 ((mvM n k).take j).length (cellsN ((mvM n k).take j)) := HO1.out
            have hsz := HB1.out.size
            have e0 : w1.cell? ⟨wr.heap.size, 0, none⟩ = some (.int .i64 p1) := HK1.out.cell 0
            have e1 : w1.cell? ⟨wr.heap.size, 1, none⟩ = some (.int .i64 p2) := HK1.out.cell 1
            have e2 : w1.cell? ⟨wr.heap.size, 2, none⟩ = some (.int .i64 p3) := HK1.out.cell 2
            have e3 : w1.cell? ⟨wr.heap.size, 3, none⟩ = some (.int .i64 p4) := HK1.out.cell 3
            have e4 : w1.cell? ⟨wr.heap.size, 4, none⟩ = some (.string p5) := HK1.out.cell 4
            have e5 : w1.cell? ⟨wr.heap.size, 5, none⟩ = some (.string p6) := HK1.out.cell 5
            go_wp2_with (at_builtin; refine wpList_appR rfl (.tmp 79) (.tmp 81) 22 rfl W3.heap.size 45 i0 _ 6 64 Tryz.underlying22 hi hz0 hz1 hz2 rfl (by decide) w1 u10 _ _ rfl hown #[.int .i64 p1, .int .i64 p2, .int .i64 p3, .int .i64 p4, .string p5, .string p6] rfl (nodeA_one ((p1, p2), (p3, p4), p5, p6)) rfl (by rw [hlen]; omega) (by rw [hlen]; unfold maxLen; omega) hsz ?_)
            intro v5 w5 hown5 hb5
            have HO5 : Hid (OwnN w5 W3.heap.size v5 ((mvM n k).take (j + 1))) := by
              show OwnN _ _ _ _
              rw [take_stepM _ _ (by rw [mvM_len]; exact hlt)]
              unfold OwnN
              rw [cellsN_snoc, List.length_append, hlen, HS.out]
              exact hown5
            have HB5 : Hid (Below W3.heap.size W3 w5) := HB1.out.trans hb5
            clear hown5 hb5 hown hlen HO1 HB1 HK1 hsz e0 e1 e2 e3 e4 e5 HS HR
            go_wp2_with fail
            refine ⟨?_, ?_⟩
            · first | exact ⟨j + 1, by omega, by go_num, HO5, HB5⟩ | ((repeat apply Exists.intro); refine ⟨?_, rfl⟩; exact ⟨j + 1, by omega, by go_num, HO5, HB5⟩)
            · simp [intOf] <;> omega
        · obtain rfl : j = n + 1 := by omega
          have b0 : ¬ ((n : Int) + 1 < (n : Int) + 1) := by omega
          have hO := HO.out
          rw [List.take_of_length_le (by rw [mvM_len]; omega)] at hO
          obtain ⟨a7, cap7, hv7, hN7⟩ := OwnN.nodes hO
          rw [mvM_len] at hN7 hv7
          subst hv7
          have HN7 : Hid (NodesAt wr a7 (n + 1) (mvM n k)) := hN7
          have HN8 : Hid (NodesAt wr (some ⟨b, off, none⟩) (n + 1) (mvM n 0)) := HN6.out.below HB.out
          have HBw : Hid (Below w.heap.size w wr) := below_step HB3.out (Nat.le_refl _) HB.out
          clear hO hN7 HO HB HN6 HB3 hlt
          obtain ⟨W7, hW7⟩ : ∃ W7, W7 = wr := ⟨_, rfl⟩
          subst hW7
          have HGx : Hid (∀ w', Below W7.heap.size W7 w' → Glob8 w') := fun w' hb => HG.out.below (below_step HBw.out (Nat.le_refl _) hb)
          have CC : Hid (∀ w', Below W7.heap.size W7 w' → Calls Tryz.prog 15 #[.slice a7 (n + 1) cap7] w' fun e w'' => e = .returned (.int .i64 0) ∧ Below w'.heap.size w' w'') := fun w' hb => by
            have h := checkC_any (mvM n k) a7 (n + 1) cap7 w' (by omega) (fun z hz => ⟨Nat.le_trans (mvM_small n k z hz).1 (by decide), (mvM_small n k z hz).2⟩) (HN7.out.below hb) (HGx.out w' hb) true ⟨fun _ => mvM_may n k HK.out.2 HK.out.1.2, fun _ => rfl⟩
            rw [if_pos rfl] at h
            exact h
          have CP : Hid (∀ w' (m : Nat) (z : Int), Below W7.heap.size W7 w' → 0 < m → m ≤ n → z = (m : Int) → Calls Tryz.prog 17 #[.slice (some ⟨b, off, none⟩) (n + 1) cap6, .agg #[.int .i64 z, .int .i64 1]] w' fun e w'' => e = .returned (.tuple #[.string (plM 0 m), .int .i64 0]) ∧ Below w'.heap.size w' w'') := fun w' m z hb h0 h1 hz => by
            rw [hz]
            exact pathC_any (mvM n 0) (some ⟨b, off, none⟩) (n + 1) cap6 (m : Int) 1 w' (by omega) (mvM_small n 0) (HN8.out.below hb) (HGx.out w' hb) true ⟨fun _ => mvM_may n 0 HK.out.2 (Nat.zero_le _), fun _ => rfl⟩ (plM 0 m) 0 (by rw [if_pos rfl]; exact mvM_pathE n 0 m HK.out.2 (Nat.zero_le _) h0 h1)
          have CQ : Hid (∀ w' (m : Nat) (z : Int), Below W7.heap.size W7 w' → 0 < m → m ≤ n → z = (m : Int) → Calls Tryz.prog 17 #[.slice a7 (n + 1) cap7, .agg #[.int .i64 z, .int .i64 1]] w' fun e w'' => e = .returned (.tuple #[.string (plM k m), .int .i64 0]) ∧ Below w'.heap.size w' w'') := fun w' m z hb h0 h1 hz => by
            rw [hz]
            exact pathC_any (mvM n k) a7 (n + 1) cap7 (m : Int) 1 w' (by omega) (mvM_small n k) (HN7.out.below hb) (HGx.out w' hb) true ⟨fun _ => mvM_may n k HK.out.2 HK.out.1.2, fun _ => rfl⟩ (plM k m) 0 (by rw [if_pos rfl]; exact mvM_pathE n k m HK.out.2 HK.out.1.2 h0 h1)
          have CL : Hid (∀ w', Below W7.heap.size W7 w' → Calls Tryz.prog 12 #[.slice a7 (n + 1) cap7] w' fun e w'' => ∃ a9 c9, e = .returned (.tuple #[.slice a9 (n + 1) c9, .int .i64 0]) ∧ Below w'.heap.size w' w'') := fun w' hb => by
            have h := linesV_any (mvM n k) a7 (n + 1) cap7 w' (by omega) (mvM_small n k) (HN7.out.below hb) (HGx.out w' hb) true ⟨fun _ => mvM_may n k HK.out.2 HK.out.1.2, fun _ => rfl⟩
            refine h.mono ?_
            rintro e w'' ⟨v, rfl, hL, hb2⟩
            rw [if_pos rfl] at hL
            obtain ⟨a9, c9, rfl, _⟩ := OwnL.lines hL
            rw [mvM_lines ⟨n, HK.out.2⟩ ⟨k, by have := HK.out; omega⟩ HK.out.1.2]
            exact ⟨a9, c9, rfl, hb2⟩
          have hkz : Hid ((1 : Int) + (d : Int) = (k : Int)) := by show _ = _; rw [Hk.out]; omega
          obtain ⟨O, HO⟩ : ∃ O, Hid (O = plM 0 k) := ⟨_, rfl⟩
          obtain ⟨N, HN⟩ : ∃ N, Hid (N = plM k k) := ⟨_, rfl⟩
          obtain ⟨LT, HLT⟩ : ∃ L, Hid (L = ltM k) := ⟨_, rfl⟩
          have hls : LT.size = 1 := by rw [HLT.out]; rfl
          have hcat : (⟨#[111, 116, 104, 101, 114, 47, 110]⟩ : ByteArray) ++ LT = N := by
            rw [HN.out, HLT.out]
            exact (plM_own ⟨k, by have := HK.out; omega⟩ HK.out.1.1).symm
          have hsum : ¬ (9223372036854775807 < (⟨#[111, 116, 104, 101, 114, 47, 110]⟩ : ByteArray).size + LT.size) := by rw [hls]; decide
          have hsum2 : ¬ (9223372036854775807 < 7 + LT.size) := by rw [hls]; decide
          have hw8 : IntKind.u8.wrap (97 + (1 + (d : Int))) = 97 + (1 + (d : Int)) := by rw [IntKind.wrap_u8]; omega
          have hcv : ∀ W : World, (convert 50 9 (.slice (some ⟨W.heap.size, 0, none⟩) 1 1)).run Tryz.prog (W.alloc (.cells #[.int .u8 (97 + (1 + (d : Int)))] 5)) = .ok (.string LT) (W.alloc (.cells #[.int .u8 (97 + (1 + (d : Int)))] 5)) := fun W => by
            rw [hkz.out, HLT.out]
            exact conv_letM (row_letM W k) (by have := HK.out; omega)
          clear HN7 HN8
          go_wp2_with fail
          refine (CC.out _ (Below.refl _ _)).mono ?_
          rintro e w1 ⟨rfl, hb1⟩
          have HR1 : Hid (Below W7.heap.size W7 w1) := hb1
          clear hb1 CC
          go_wp2_with fail
          refine (CA.out _ _).mono ?_
          rintro e w2 ⟨rfl, hb2⟩
          have HR2 : Hid (Below W7.heap.size W7 w2) := below_step HR1.out (Nat.le_refl _) hb2
          clear hb2 HR1
          go_wp2_with fail
          refine (CP.out _ k _ HR2.out HK.out.1.1 HK.out.1.2 hkz.out).mono ?_
          rintro e w3 ⟨rfl, hb3⟩
          rw [← HO.out]
          have HR3 : Hid (Below W7.heap.size W7 w3) := below_step HR2.out (Nat.le_refl _) hb3
          clear hb3 HR2
          go_wp2_with fail
          refine (CA.out _ _).mono ?_
          rintro e w4 ⟨rfl, hb4⟩
          have HR4 : Hid (Below W7.heap.size W7 w4) := below_step HR3.out (Nat.le_refl _) hb4
          clear hb4 HR3
          go_wp2_with fail
          refine (CQ.out _ k _ HR4.out HK.out.1.1 HK.out.1.2 hkz.out).mono ?_
          rintro e w5 ⟨rfl, hb5⟩
          rw [← HN.out]
          have HR5 : Hid (Below W7.heap.size W7 w5) := below_step HR4.out (Nat.le_refl _) hb5
          have HR6 : Hid (Below W7.heap.size W7 (w5.alloc (.cells #[.int .u8 (97 + (1 + (d : Int)))] 5))) := below_step HR5.out (Nat.le_refl _) (below_new w5 _)
          clear hb5 HR4
          go_wp2_with fail
          go_loopw [17] (fun iv wz => ∃ m : Nat, k ≤ m ∧ m ≤ n + 1 ∧ iv = .int .i64 (m : Int) ∧ Hid (Below W7.heap.size W7 wz)) (fun iv _ => n + 1 - (intOf iv).toNat)
          case atStart => exact ⟨k, Nat.le_refl _, by have := HK.out; omega, by rw [← hkz.out], HR6⟩
          case round =>
            obtain ⟨m, hkm, hmn, rfl, HR⟩ := hrel
            clear HR5 HR6 hcv hcat hw8
            by_cases hlt : m ≤ n
            · have b1 : (m : Int) ≤ 2 + (c : Int) := by have := Hn.out; omega
              have hm0 : 0 < m := by have := HK.out; omega
              obtain ⟨P, HP⟩ : ∃ P, Hid (P = plM 0 m) := ⟨_, rfl⟩
              obtain ⟨Q, HQ⟩ : ∃ Q, Hid (Q = plM k m) := ⟨_, rfl⟩
              have hmv := plM_moved ⟨k, by have := HK.out; omega⟩ ⟨m, by omega⟩ HK.out.1.1 hkm
              simp only at hmv
              rw [← HO.out, ← HP.out, ← HQ.out, ← HN.out] at hmv
              obtain ⟨hle, hcat2⟩ := hmv
              have hcat3 : N ++ P.extract O.size P.size = Q := hcat2.symm
              have b2 : ¬ ((P.size : Int) < (O.size : Int)) := by omega
              have b3 : ¬ (P.size < O.size) := by omega
              have b4 : decide ((P.size : Int) < (O.size : Int)) = false := decide_eq_false b2
              have hPs : P.size ≤ 100 := by
                rw [HP.out]
                exact (show ∀ m : Fin 11, (plM 0 m.1).size ≤ 100 by decide +kernel) ⟨m, by omega⟩
              have hNs : N.size ≤ 100 := by
                rw [HN.out]
                exact (show ∀ m : Fin 11, (plM m.1 m.1).size ≤ 100 by decide +kernel) ⟨k, by have := HK.out; omega⟩
              have hes : (P.extract O.size P.size).size ≤ 100 := by rw [ByteArray.size_extract]; omega
              have hsum3 : ¬ (9223372036854775807 < N.size + (P.extract O.size P.size).size) := by omega
              clear hcat2
              go_wp2_with fail
              refine (CA.out _ _).mono ?_
              rintro e w2 ⟨rfl, hb2⟩
              have HR2 : Hid (Below W7.heap.size W7 w2) := below_step HR.out (Nat.le_refl _) hb2
              clear hb2
              go_wp2_with fail
              refine (CP.out _ m _ HR2.out hm0 hlt rfl).mono ?_
              rintro e w3 ⟨rfl, hb3⟩
              rw [← HP.out]
              have HR3 : Hid (Below W7.heap.size W7 w3) := below_step HR2.out (Nat.le_refl _) hb3
              clear hb3 HR2
              go_wp2_with fail
              refine (CA.out _ _).mono ?_
              rintro e w4 ⟨rfl, hb4⟩
              have HR4 : Hid (Below W7.heap.size W7 w4) := below_step HR3.out (Nat.le_refl _) hb4
              clear hb4 HR3
              go_wp2_with fail
              refine (CQ.out _ m _ HR4.out hm0 hlt rfl).mono ?_
              rintro e w5 ⟨rfl, hb5⟩
              rw [← HQ.out]
              have HR5 : Hid (Below W7.heap.size W7 w5) := below_step HR4.out (Nat.le_refl _) hb5
              clear hb5 HR4
              go_wp2_with fail
              refine ⟨?_, ?_⟩
              · first | exact ⟨m + 1, by omega, by omega, by go_num, HR5⟩ | ((repeat apply Exists.intro); refine ⟨?_, rfl⟩; exact ⟨m + 1, by omega, by omega, by go_num, HR5⟩)
              · simp [intOf] <;> omega
            · have b1 : ¬ ((m : Int) ≤ 2 + (c : Int)) := by have := Hn.out; omega
              have hq1 : ((n : Int) + 1 == 2 + (c : Int) + 1) = true := by rw [beq_iff_eq]; have := Hn.out; omega
              go_wp2_with fail
              refine (CL.out _ HR.out).mono ?_
              rintro e w2 ⟨a9, c9, rfl, hb2⟩
              have HR2 : Hid (Below W7.heap.size W7 w2) := below_step HR.out (Nat.le_refl _) hb2
              have HW2 : Hid (Below w.heap.size w w2) := below_step HBw.out (Nat.le_refl _) HR2.out
              clear hb2 HR HR2
              go_wp2_with fail
              refine (awake12_on w _ HG.out HM.out HW2.out).mono ?_
              rintro e w3 ⟨rfl, hb3⟩
              have HW3 : Hid (Below w.heap.size w w3) := below_step HW2.out (Nat.le_refl _) hb3
              clear hb3 HW2
              go_wp2_with fail
              go_ret
              exact ⟨rfl, HW3.out⟩

theorem viewMoves_law (many which : Int) (w : World) (hG : Glob8 w) (hM : MaxL w) :
    Calls Tryz.prog 8 #[.int .i64 many, .int .i64 which] w fun e w' => e = .returned (.bool true) ∧ Below w.heap.size w w' := viewMoves_walk many which w hG hM

end Go.Proofs.YtebnmghjdoblaaaGreatDoor
