/- The walk of TreeLast (layer 11). -/
import Derived.Test.YtmfckdhincffkabDoorTrLn
import Derived.Test.YtmfckdhincffkabDoorP11
import Derived.Deep.DeepCutAuto
namespace Go.Proofs.YtmfckdhincffkabDoor
open Go.RowKit
set_option linter.unusedSimpArgs false

theorem apply_few {M : OpT → Bool} {T : TreeT} (o : OpT) : (applyP M T o).1.1.length + (applyP M T o).1.2.1.length ≤ T.1.length + T.2.1.length + 1 := by
  obtain ⟨h1, _, h3⟩ := apply_len M T o
  rw [h1]; omega

set_option maxRecDepth 100000 in
set_option maxHeartbeats 8000000 in
theorem treeLast_walk (a : Option Addr) (l : List Int) (n0 c : Nat) (kinds turn : Int) (w : World) (hm : n0 ≤ maxLen) (hI : IntsAt w .i64 a n0 l) (hG : Glob8 w) :
    Calls Tryd.prog 4 #[.slice a n0 c, .int .i64 kinds, .int .i64 turn] w fun e w' => e = .returned (.bool true) ∧ Below w.heap.size w w' := by
  obtain ⟨M, hM⟩ := mayM_ex
  have HM : Hid (∀ o, M o = true ↔ MayO o) := hM
  have HG : Hid (Glob8 w) := hG
  have HI : Hid (IntsAt w .i64 a n0 l) := hI
  have hm' : n0 ≤ 9223372036854775807 := hm
  have CN : Hid (Calls _ _ _ _ _) := new_tr w w (Below.refl _ _)
  have CA : Hid (∀ t u W, _) := at_any
  have CW : Hid (∀ W, Below w.heap.size w W → Calls Tryd.prog 13 #[] W fun e w' => e = .returned (.bool true) ∧ Below W.heap.size W w') := fun W hW => awake11 W (HG.out.below hW)
  obtain ⟨t, ht, hbits⟩ : ∃ t : Nat, t ≤ 255 ∧ bits .and .i64 turn 255 = (t : Int) := by
    have h1 := i64_mask turn 8 (by decide) 255 (by decide)
    refine ⟨(turn % 256).toNat, by omega, ?_⟩
    rw [h1]
    show turn % 256 = _
    omega
  obtain ⟨n, hn⟩ : ∃ n, n = min n0 24 := ⟨_, rfl⟩
  have hmin : min (n0 : Int) 24 = (n : Int) := by omega
  have hn24 : n ≤ 24 := by omega
  have hnn : n ≤ n0 := by omega
  clear hM hG hI hm hn
  go_enter Tryd.func4, Tryd.ntmps4
  go_wp2_with fail
  refine CN.out.mono ?_
  rintro e w1 ⟨g, f, m, rfl, hT, _, _⟩
  have HT0 : Hid (Tr w w1 g f m none ([], [], (0, 0))) := hT
  clear hT CN
  go_wp2_with fail
  refine (CA.out _ _ _).mono ?_
  rintro e w2 ⟨rfl, hb2⟩
  have HT2 : Hid (Tr w w2 g f m none ([], [], (0, 0))) := HT0.out.on hb2
  clear hb2 HT0
  go_wp2_with fail
  refine (CA.out _ _ _).mono ?_
  rintro e w3 ⟨rfl, hb3⟩
  have HT3 : Hid (Tr w w3 g f m none ([], [], (0, 0))) := HT2.out.on hb3
  have CX : Hid (Calls Tryd.prog 7 #[.pointer (some ⟨g, 0, none⟩), .agg #[.int .i64 1, .int .i64 1, .int .i64 1, .int .i64 1, .int .i64 1, .int .i64 0, .int .i64 0, .string ⟨#[102, 105, 114, 115, 116]⟩, .string ⟨#[]⟩]] w3 fun e w' => e = .returned (.int .i64 0) ∧ ∃ r', TreeIn w' g f m r' ([], [laC], (0, 0)) ∧ KeptF (tfoot g f m none) w3 w' ∧ Nx w3 none r') := by
    have h := apply_tr M HM.out g f m none ([], [], (0, 0)) laC w w3 HT3.out HG.out (by decide) (by decide) (by decide)
    rw [la_begin M HM.out] at h
    exact h
  clear hb3 HT2
  go_wp2_with fail
  refine CX.out.mono ?_
  rintro e w4 ⟨rfl, r0, hT4, hK4, hN4⟩
  have HT4 : Hid (Tr w w4 g f m r0 ([], [laC], (0, 0))) := HT3.out.next hT4 hK4 hN4
  clear hT4 hK4 hN4 HT3 CX
  go_wp2_with fail
  refine (CA.out _ _ _).mono ?_
  rintro e w5 ⟨rfl, hb5⟩
  have HT5 : Hid (Tr w w5 g f m r0 ([], [laC], (0, 0))) := HT4.out.on hb5
  clear hb5 HT4
  go_wp2_with fail
  refine (CA.out _ _ _).mono ?_
  rintro e w6 ⟨rfl, hb6⟩
  have HT6 : Hid (Tr w w6 g f m r0 ([], [laC], (0, 0))) := HT5.out.on hb6
  clear hb6 HT5
  go_wp2_with fail
  obtain ⟨hN, hhN⟩ : ∃ hN, w6.heap.size = hN := ⟨_, rfl⟩
  obtain ⟨hV, hhV⟩ : ∃ hV, hN + 1 = hV := ⟨_, rfl⟩
  have hst : LaS w ((w6.alloc (.cells #[.int .i64 1, .int .i64 1, .int .i64 0, .int .i64 0, .string ⟨#[102, 105, 114, 115, 116]⟩, .string ⟨#[]⟩] 34)).alloc (.cells #[.int .i64 1, .int .i64 1, .int .i64 0, .int .i64 0, .string ⟨#[]⟩, .string ⟨#[]⟩] 34)) g f m r0 ([], [laC], (0, 0)) hN hV ((1, 1), ⟨#[102, 105, 114, 115, 116]⟩) ((1, 1), ⟨#[]⟩) := by
    refine ⟨(HT6.out.on (below_new _ _)).on (below_new _ _), ?_, ?_, fun k hk => ?_, ?_, ?_⟩
    · rw [← hhN]; exact (Blk.new _ _ _).alloc _
    · rw [← hhV, ← hhN]; exact Blk.new' _ _ _ _ (by simp)
    · have := HT6.out.tree.lt hk
      omega
    · have := HT6.out.bel.size
      omega
    · omega
  have HLa : Hid (LastS 0 ([], [laC], (0, 0)) ((1, 1), ⟨#[102, 105, 114, 115, 116]⟩) ((1, 1), ⟨#[]⟩)) := last_nil
  generalize World.alloc (World.alloc w6 _) _ = W0 at *
  have HS0 : Hid (LaS w W0 g f m r0 ([], [laC], (0, 0)) hN hV ((1, 1), ⟨#[102, 105, 114, 115, 116]⟩) ((1, 1), ⟨#[]⟩)) := hst
  rw [hhN, hhV]
  clear hst HT6 hhN hhV
  go_loopw [11] (fun i wr => ∃ (k : Nat) (r : Option Nat) (T : TreeT) (nm vl : (Int × Int) × ByteArray), k ≤ n ∧ i = .int .i64 k ∧ Hid (LastS k T nm vl) ∧ Hid (LaS w wr g f m r T hN hV nm vl)) (fun i _ => n - (intOf i).toNat)
  case atStart => exact ⟨0, r0, _, _, _, by omega, rfl, HLa, HS0⟩
  case round =>
    clear HLa HS0
    obtain ⟨k, r, T, nm, vl, hk, rfl, HL, HS⟩ := hrel
    by_cases hlt : k < n
    · have b0 : (k : Int) < (n : Int) := by omega
      have b01 : ¬ ((n : Int) = 0) := by omega
      obtain ⟨kx, hkx'⟩ : ∃ jx, (k + t) % n = jx := ⟨_, rfl⟩
      have hkn : kx < n := by rw [← hkx']; exact Nat.mod_lt _ (by omega)
      have hkx : kx < 24 := by omega
      have hrem : Int.tmod ((k : Int) + (t : Int)) (n : Int) = (kx : Int) := by rw [← hkx', show (k : Int) + (t : Int) = ((k + t : Nat) : Int) by omega, ← Int.ofNat_tmod]
      clear hkx'
      have b1 : (kx : Int) < (n0 : Int) := by omega
      obtain ⟨b, off, rfl, hcl⟩ : ∃ b off, a = some ⟨b, off, none⟩ ∧ ∀ i, i < n0 → w.cell? ⟨b, off + i, none⟩ = some (.int .i64 (l.getD i 0)) := by
        rcases HI.out.2 with h | h
        · omega
        · exact h
      have hcx := hcl kx (by omega)
      obtain ⟨X, hX⟩ : ∃ X, l.getD kx 0 = X := ⟨_, rfl⟩
      rw [hX] at hcx
      obtain ⟨p, hp, hbp⟩ : ∃ p : Nat, p ≤ 15 ∧ bits .and .i64 X 15 = (p : Int) := by
        have h1 := i64_mask X 4 (by decide) 15 (by decide)
        refine ⟨(X % 16).toNat, by omega, ?_⟩
        rw [h1]
        show X % 16 = _
        omega
      obtain ⟨q, hq, hbq⟩ : ∃ q : Nat, q ≤ 3 ∧ bits .and .i64 (X / 16) 3 = (q : Int) := by
        have h1 := i64_mask (X / 16) 2 (by decide) 3 (by decide)
        refine ⟨(X / 16 % 4).toNat, by omega, ?_⟩
        rw [h1]
        show X / 16 % 4 = _
        omega
      obtain ⟨bq, hbq1, hbk⟩ : ∃ b : Nat, b ≤ 1 ∧ bits .and .i64 (kinds / 2 ^ kx) 1 = (b : Int) := by
        have h1 := i64_mask (kinds / 2 ^ kx) 1 (by decide) 1 (by decide)
        refine ⟨(kinds / 2 ^ kx % 2).toNat, by omega, ?_⟩
        rw [h1]
        show kinds / 2 ^ kx % 2 = _
        omega
      have hbq' : bits .and .i64 (X / 2 ^ 4) 3 = (q : Int) := hbq
      have hw2 : IntKind.i64.wrap (2 + (p : Int)) = 2 + (p : Int) := by rw [IntKind.wrap_i64]; omega
      have hw1 : IntKind.i64.wrap (1 + (q : Int)) = 1 + (q : Int) := by rw [IntKind.wrap_i64]; omega
      have hw64 : IntKind.i64.wrap (97 + (kx : Int)) = 97 + (kx : Int) := by rw [IntKind.wrap_i64]; omega
      have hw8 : IntKind.u8.wrap (97 + (kx : Int)) = 97 + (kx : Int) := by rw [IntKind.wrap_u8]; omega
      have hS0 : wr.cell? ⟨b, off + kx, none⟩ = some (.int .i64 X) := by rw [HS.out.tr.bel.cell (World.block_lt_of_cell? w _ hcx)]; exact hcx
      have HSS : Hid (∀ W, Below wr.heap.size wr W → W.cell? ⟨b, off + kx, none⟩ = some (.int .i64 X)) := fun W hW => by rw [hW.cell (World.block_lt_of_cell? wr _ hS0)]; exact hS0
      have hB : Below wr.heap.size wr wr.drew := (Below.refl _ _).drew
      have hBp : Below wr.heap.size wr wr := Below.refl _ _
      clear hcl hX
      go_wp2_with fail
      go_cut [13] (fun u wx => ∃ ho : Nat, u = .pointer (some ⟨ho, 0, none⟩) ∧ wr.heap.size ≤ ho ∧ Blk wx 25 ho #[.int .i64 3, .int .i64 (2 + (p : Int)), .int .i64 (1 + (q : Int)), .int .i64 1, .int .i64 1, .int .i64 0, .int .i64 0, .string (letB kx), .string ⟨#[]⟩] ∧ Below wr.heap.size wr wx)
      case first =>
        refine wp_region_noPanic ?_
        refine wp_region_held_drew (S := fun W => W.cell? ⟨b, off + kx, none⟩ = some (.int .i64 X)) (by kernel_rfl) (by first | exact trivial | assumption | exact ⟨by assumption, by assumption⟩) (fun hHeld => ?_)
        refine take_at (i := 0) (v := ?_) rfl rfl (by kernel_rfl) (by kernel_rfl) (by kernel_rfl) (fun _ _ _ h => h) (Or.inl ⟨by rfl, ?_⟩) (by assumption) ?_
        rotate_left
        · intro w hSw; (try dsimp only at hSw); go_simp; try with_reducible rfl
        try simp only [Act.put, List.setIfInBounds_toArray, List.set_cons_zero, List.set_cons_succ]
        refine take_at (i := 1) (v := ?_) rfl rfl (by kernel_rfl) (by kernel_rfl) (by kernel_rfl) (fun _ _ _ h => h) (Or.inl ⟨by rfl, ?_⟩) (by assumption) ?_
        rotate_left
        · intro w hSw; (try dsimp only at hSw); go_simp; try with_reducible rfl
        try simp only [Act.put, List.setIfInBounds_toArray, List.set_cons_zero, List.set_cons_succ]
        refine take_at (i := 2) (v := ?_) rfl rfl (by kernel_rfl) (by kernel_rfl) (by kernel_rfl) (fun _ _ _ h => h) (Or.inl ⟨by rfl, ?_⟩) (by assumption) ?_
        rotate_left
        · intro w hSw; (try dsimp only at hSw); go_simp; try with_reducible rfl
        try simp only [Act.put, List.setIfInBounds_toArray, List.set_cons_zero, List.set_cons_succ]
        refine take_at (i := 3) (v := ?_) rfl rfl (by kernel_rfl) (by kernel_rfl) (by kernel_rfl) (fun _ _ _ h => h) (Or.inl ⟨by rfl, ?_⟩) (by assumption) ?_
        rotate_left
        · intro w hSw; (try dsimp only at hSw); go_simp; try with_reducible rfl
        try simp only [Act.put, List.setIfInBounds_toArray, List.set_cons_zero, List.set_cons_succ]
        refine take_at (i := 4) (v := ?_) rfl rfl (by kernel_rfl) (by kernel_rfl) (by kernel_rfl) (fun _ _ _ h => h) (Or.inl ⟨by rfl, ?_⟩) (by assumption) ?_
        rotate_left
        · intro w hSw; (try dsimp only at hSw); go_simp; try with_reducible rfl
        try simp only [Act.put, List.setIfInBounds_toArray, List.set_cons_zero, List.set_cons_succ]
        refine take_at (i := 5) (v := ?_) rfl rfl (by kernel_rfl) (by kernel_rfl) (by kernel_rfl) (fun _ _ _ h => h) (Or.inl ⟨by rfl, ?_⟩) (by assumption) ?_
        rotate_left
        · intro w hSw; (try dsimp only at hSw); go_simp; try with_reducible rfl
        try simp only [Act.put, List.setIfInBounds_toArray, List.set_cons_zero, List.set_cons_succ]
        refine take_at (i := 6) (v := ?_) rfl rfl (by kernel_rfl) (by kernel_rfl) (by kernel_rfl) (fun _ _ _ h => h) (Or.inl ⟨by rfl, ?_⟩) (by assumption) ?_
        rotate_left
        · intro w hSw; (try dsimp only at hSw); go_simp; try with_reducible rfl
        try simp only [Act.put, List.setIfInBounds_toArray, List.set_cons_zero, List.set_cons_succ]
        refine take_at (i := 7) (v := ?_) rfl rfl (by kernel_rfl) (by kernel_rfl) (by kernel_rfl) (fun _ _ _ h => h) (Or.inl ⟨by rfl, ?_⟩) (by assumption) ?_
        rotate_left
        · intro w hSw; (try dsimp only at hSw); go_simp; try with_reducible rfl
        try simp only [Act.put, List.setIfInBounds_toArray, List.set_cons_zero, List.set_cons_succ]
        refine take_at (i := 8) (v := ?_) rfl rfl (by kernel_rfl) (by kernel_rfl) (by kernel_rfl) (fun _ _ _ h => h) (Or.inl ⟨by rfl, ?_⟩) (by assumption) ?_
        rotate_left
        · intro w hSw; (try dsimp only at hSw); go_simp; try with_reducible rfl
        try simp only [Act.put, List.setIfInBounds_toArray, List.set_cons_zero, List.set_cons_succ]
        refine take_at (i := 9) (v := ?_) rfl rfl (by kernel_rfl) (by kernel_rfl) (by kernel_rfl) (fun _ _ _ h => h) (Or.inl ⟨by rfl, ?_⟩) (by assumption) ?_
        rotate_left
        · intro w hSw; (try dsimp only at hSw); go_simp; try with_reducible rfl
        try simp only [Act.put, List.setIfInBounds_toArray, List.set_cons_zero, List.set_cons_succ]
        refine take_at (i := 10) (v := ?_) rfl rfl (by kernel_rfl) (by kernel_rfl) (by kernel_rfl) (fun _ _ _ h => h) (Or.inl ⟨by rfl, ?_⟩) (by assumption) ?_
        rotate_left
        · intro w hSw; (try dsimp only at hSw); go_simp; try with_reducible rfl
        try simp only [Act.put, List.setIfInBounds_toArray, List.set_cons_zero, List.set_cons_succ]
        refine take_at (i := 11) (v := ?_) rfl rfl (by kernel_rfl) (by kernel_rfl) (by kernel_rfl) (fun _ _ _ h => h) (Or.inl ⟨by rfl, ?_⟩) (by assumption) ?_
        rotate_left
        · intro w hSw; (try dsimp only at hSw); go_simp; try with_reducible rfl
        try simp only [Act.put, List.setIfInBounds_toArray, List.set_cons_zero, List.set_cons_succ]
        refine take_at (i := 12) (v := ?_) rfl rfl (by kernel_rfl) (by kernel_rfl) (by kernel_rfl) (fun _ _ _ h => h) (Or.inl ⟨by rfl, ?_⟩) (by assumption) ?_
        rotate_left
        · intro w hSw; (try dsimp only at hSw); go_simp; try with_reducible rfl
        try simp only [Act.put, List.setIfInBounds_toArray, List.set_cons_zero, List.set_cons_succ]
        refine take_at (i := 13) (v := ?_) rfl rfl (by kernel_rfl) (by kernel_rfl) (by kernel_rfl) (fun _ _ _ h => h) (Or.inl ⟨by rfl, ?_⟩) (by assumption) ?_
        rotate_left
        · intro w hSw; (try dsimp only at hSw); go_simp; try with_reducible rfl
        try simp only [Act.put, List.setIfInBounds_toArray, List.set_cons_zero, List.set_cons_succ]
        refine take_at (i := 15) (v := ?_) rfl rfl (by kernel_rfl) (by kernel_rfl) (by kernel_rfl) (fun _ _ _ h => h) (Or.inl ⟨by rfl, ?_⟩) (by assumption) ?_
        rotate_left
        · intro w hSw; (try dsimp only at hSw); go_simp; try with_reducible rfl
        try simp only [Act.put, List.setIfInBounds_toArray, List.set_cons_zero, List.set_cons_succ]
        refine take_at (i := 16) (v := ?_) rfl rfl (by kernel_rfl) (by kernel_rfl) (by kernel_rfl) (fun _ _ _ h => h) (Or.inl ⟨by rfl, ?_⟩) (by assumption) ?_
        rotate_left
        · intro w hSw; (try dsimp only at hSw); go_simp; try with_reducible rfl
        try simp only [Act.put, List.setIfInBounds_toArray, List.set_cons_zero, List.set_cons_succ]
        refine take_at (i := 17) (v := ?_) rfl rfl (by kernel_rfl) (by kernel_rfl) (by kernel_rfl) (fun _ _ _ h => h) (Or.inl ⟨by rfl, ?_⟩) (by assumption) ?_
        rotate_left
        · intro w hSw; (try dsimp only at hSw); go_simp; try with_reducible rfl
        try simp only [Act.put, List.setIfInBounds_toArray, List.set_cons_zero, List.set_cons_succ]
        refine wpAnyH_ready (rs := [14, 18, 21]) (by kernel_rfl) (by simp) ?_
        refine AllReadyH.cons rfl (fun K hK => ?_) (AllReadyH.cons rfl (fun K hK => ?_) (AllReadyH.cons rfl (fun K hK => ?_) AllReadyH.nil))
        · go_simp
          refine (CA.out _ _ _).mono ?_
          rintro e w1 ⟨rfl, hb1⟩
          have hB14 : Below wr.heap.size wr w1 := below_step hB (by first | exact Nat.le_refl _ | (simp; omega) | simp) hb1
          have hl1 := hB14
          have hBp14 := hB14
          refine hK.out _ _ (HSS.out _ hB14) (fun hHeld => ?_)
          clear hK K
          refine wpAnyH_ready (rs := [18, 21]) (by kernel_rfl) (by simp) ?_
          refine AllReadyH.cons rfl (fun K hK => ?_) (AllReadyH.cons rfl (fun K hK => ?_) AllReadyH.nil)
          · go_simp
            have hB1418 : Below wr.heap.size wr ((w1).alloc (.cells #[.int .u8 (97 + (kx : Int))] 5)) := by
              have h := (hBp14.alloc hBp14.size (.cells #[.int .u8 (97 + (kx : Int))] 5))
              exact h
            have hBp1418 : Below wr.heap.size wr ((w1).alloc (.cells #[.int .u8 (97 + (kx : Int))] 5)) := hBp14.alloc hBp14.size (.cells #[.int .u8 (97 + (kx : Int))] 5)
            have KR1418 : Row8 ((w1).alloc (.cells #[.int .u8 (97 + (kx : Int))] 5)) w1.heap.size 1 (fun _ => 97 + kx) := row_let (w1) kx w1.heap.size (by first | rfl | simp)
            refine hK.out _ _ (HSS.out _ hB1418) (fun hHeld => ?_)
            clear hK K
            refine wpAnyH_ready (rs := [19, 21]) (by kernel_rfl) (by simp) ?_
            refine AllReadyH.cons rfl (fun K hK => ?_) (AllReadyH.cons rfl (fun K hK => ?_) AllReadyH.nil)
            · have hcv := let_conv KR1418 hkx
              go_simp
              refine hK.out _ _ (HSS.out _ hB1418) (fun hHeld => ?_)
              clear hK K
              clear hcv
              refine take_at (i := 20) (v := ?_) rfl rfl (by kernel_rfl) (by kernel_rfl) (by kernel_rfl) (fun _ _ _ h => h) (Or.inl ⟨by rfl, ?_⟩) (by assumption) ?_
              rotate_left
              · intro w hSw; (try dsimp only at hSw); go_simp; try with_reducible rfl
              try simp only [Act.put, List.setIfInBounds_toArray, List.set_cons_zero, List.set_cons_succ]
              refine wpAnyH_ready (rs := [21]) (by kernel_rfl) (by simp) ?_
              refine AllReadyH.cons rfl (fun K hK => ?_) AllReadyH.nil
              go_simp
              have hB141821 : Below wr.heap.size wr (((w1).alloc (.cells #[.int .u8 (97 + (kx : Int))] 5)).alloc (.cells #[.int .i64 0, .int .i64 0, .int .i64 0, .int .i64 0, .int .i64 0, .int .i64 0, .int .i64 0, .string ⟨#[]⟩, .string ⟨#[]⟩] 25)) := by
                have h := (hBp1418.alloc hBp1418.size (.cells #[.int .i64 0, .int .i64 0, .int .i64 0, .int .i64 0, .int .i64 0, .int .i64 0, .int .i64 0, .string ⟨#[]⟩, .string ⟨#[]⟩] 25))
                exact h
              have hBp141821 : Below wr.heap.size wr (((w1).alloc (.cells #[.int .u8 (97 + (kx : Int))] 5)).alloc (.cells #[.int .i64 0, .int .i64 0, .int .i64 0, .int .i64 0, .int .i64 0, .int .i64 0, .int .i64 0, .string ⟨#[]⟩, .string ⟨#[]⟩] 25)) := hBp1418.alloc hBp1418.size (.cells #[.int .i64 0, .int .i64 0, .int .i64 0, .int .i64 0, .int .i64 0, .int .i64 0, .int .i64 0, .string ⟨#[]⟩, .string ⟨#[]⟩] 25)
              have KO141821 : Blk (((w1).alloc (.cells #[.int .u8 (97 + (kx : Int))] 5)).alloc (.cells #[.int .i64 0, .int .i64 0, .int .i64 0, .int .i64 0, .int .i64 0, .int .i64 0, .int .i64 0, .string ⟨#[]⟩, .string ⟨#[]⟩] 25)) 25 (w1.heap.size + 1) #[.int .i64 0, .int .i64 0, .int .i64 0, .int .i64 0, .int .i64 0, .int .i64 0, .int .i64 0, .string ⟨#[]⟩, .string ⟨#[]⟩] := Blk.new' ((w1).alloc (.cells #[.int .u8 (97 + (kx : Int))] 5)) _ _ (w1.heap.size + 1) (by first | rfl | simp)
              have KR141821 : Row8 (((w1).alloc (.cells #[.int .u8 (97 + (kx : Int))] 5)).alloc (.cells #[.int .i64 0, .int .i64 0, .int .i64 0, .int .i64 0, .int .i64 0, .int .i64 0, .int .i64 0, .string ⟨#[]⟩, .string ⟨#[]⟩] 25)) w1.heap.size 1 (fun _ => 97 + kx) := Row8.alloc KR1418 _
              refine hK.out _ _ (HSS.out _ hB141821) (fun hHeld => ?_)
              clear hK K
              refine wpAnyH_ready (rs := [22]) (by kernel_rfl) (by simp) ?_
              refine AllReadyH.cons rfl (fun K hK => ?_) AllReadyH.nil
              refine step_storeRow rfl rfl 25 _ _ rfl (w1.heap.size + 1) #[.int .i64 0, .int .i64 0, .int .i64 0, .int .i64 0, .int .i64 0, .int .i64 0, .int .i64 0, .string ⟨#[]⟩, .string ⟨#[]⟩] #[.int .i64 3, .int .i64 (2 + (p : Int)), .int .i64 (1 + (q : Int)), .int .i64 1, .int .i64 1, .int .i64 0, .int .i64 0, .string (letB kx), .string ⟨#[]⟩] rfl rfl KO141821 rfl (by kernel_rfl) (by simp [Value.oneCell']) ?_
              have hBz := below_setRow hB141821 (show wr.heap.size ≤ (w1.heap.size + 1) by first | exact Nat.le_refl _ | (have := hl1.size; simp at this ⊢; omega) | (simp)) #[.int .i64 3, .int .i64 (2 + (p : Int)), .int .i64 (1 + (q : Int)), .int .i64 1, .int .i64 1, .int .i64 0, .int .i64 0, .string (letB kx), .string ⟨#[]⟩]
              refine hK.out _ _ (HSS.out _ hBz) (fun hHeld => ?_)
              clear hK K
              refine wpAnyH_done (by kernel_rfl) (NoPanic.normal ?_) _
              go_wp2_with fail
              go_meet
              case rel => exact ⟨(w1.heap.size + 1), rfl, (show wr.heap.size ≤ (w1.heap.size + 1) by first | exact Nat.le_refl _ | (have := hl1.size; simp at this ⊢; omega) | (simp)), KO141821.setRow _, hBz⟩
            · go_simp
              have hB141821 : Below wr.heap.size wr (((w1).alloc (.cells #[.int .u8 (97 + (kx : Int))] 5)).alloc (.cells #[.int .i64 0, .int .i64 0, .int .i64 0, .int .i64 0, .int .i64 0, .int .i64 0, .int .i64 0, .string ⟨#[]⟩, .string ⟨#[]⟩] 25)) := by
                have h := (hBp1418.alloc hBp1418.size (.cells #[.int .i64 0, .int .i64 0, .int .i64 0, .int .i64 0, .int .i64 0, .int .i64 0, .int .i64 0, .string ⟨#[]⟩, .string ⟨#[]⟩] 25))
                exact h
              have hBp141821 : Below wr.heap.size wr (((w1).alloc (.cells #[.int .u8 (97 + (kx : Int))] 5)).alloc (.cells #[.int .i64 0, .int .i64 0, .int .i64 0, .int .i64 0, .int .i64 0, .int .i64 0, .int .i64 0, .string ⟨#[]⟩, .string ⟨#[]⟩] 25)) := hBp1418.alloc hBp1418.size (.cells #[.int .i64 0, .int .i64 0, .int .i64 0, .int .i64 0, .int .i64 0, .int .i64 0, .int .i64 0, .string ⟨#[]⟩, .string ⟨#[]⟩] 25)
              have KO141821 : Blk (((w1).alloc (.cells #[.int .u8 (97 + (kx : Int))] 5)).alloc (.cells #[.int .i64 0, .int .i64 0, .int .i64 0, .int .i64 0, .int .i64 0, .int .i64 0, .int .i64 0, .string ⟨#[]⟩, .string ⟨#[]⟩] 25)) 25 (w1.heap.size + 1) #[.int .i64 0, .int .i64 0, .int .i64 0, .int .i64 0, .int .i64 0, .int .i64 0, .int .i64 0, .string ⟨#[]⟩, .string ⟨#[]⟩] := Blk.new' ((w1).alloc (.cells #[.int .u8 (97 + (kx : Int))] 5)) _ _ (w1.heap.size + 1) (by first | rfl | simp)
              have KR141821 : Row8 (((w1).alloc (.cells #[.int .u8 (97 + (kx : Int))] 5)).alloc (.cells #[.int .i64 0, .int .i64 0, .int .i64 0, .int .i64 0, .int .i64 0, .int .i64 0, .int .i64 0, .string ⟨#[]⟩, .string ⟨#[]⟩] 25)) w1.heap.size 1 (fun _ => 97 + kx) := Row8.alloc KR1418 _
              refine hK.out _ _ (HSS.out _ hB141821) (fun hHeld => ?_)
              clear hK K
              refine wpAnyH_ready (rs := [19]) (by kernel_rfl) (by simp) ?_
              refine AllReadyH.cons rfl (fun K hK => ?_) AllReadyH.nil
              have hcv := let_conv KR141821 hkx
              go_simp
              refine hK.out _ _ (HSS.out _ hB141821) (fun hHeld => ?_)
              clear hK K
              clear hcv
              refine take_at (i := 20) (v := ?_) rfl rfl (by kernel_rfl) (by kernel_rfl) (by kernel_rfl) (fun _ _ _ h => h) (Or.inl ⟨by rfl, ?_⟩) (by assumption) ?_
              rotate_left
              · intro w hSw; (try dsimp only at hSw); go_simp; try with_reducible rfl
              try simp only [Act.put, List.setIfInBounds_toArray, List.set_cons_zero, List.set_cons_succ]
              refine wpAnyH_ready (rs := [22]) (by kernel_rfl) (by simp) ?_
              refine AllReadyH.cons rfl (fun K hK => ?_) AllReadyH.nil
              refine step_storeRow rfl rfl 25 _ _ rfl (w1.heap.size + 1) #[.int .i64 0, .int .i64 0, .int .i64 0, .int .i64 0, .int .i64 0, .int .i64 0, .int .i64 0, .string ⟨#[]⟩, .string ⟨#[]⟩] #[.int .i64 3, .int .i64 (2 + (p : Int)), .int .i64 (1 + (q : Int)), .int .i64 1, .int .i64 1, .int .i64 0, .int .i64 0, .string (letB kx), .string ⟨#[]⟩] rfl rfl KO141821 rfl (by kernel_rfl) (by simp [Value.oneCell']) ?_
              have hBz := below_setRow hB141821 (show wr.heap.size ≤ (w1.heap.size + 1) by first | exact Nat.le_refl _ | (have := hl1.size; simp at this ⊢; omega) | (simp)) #[.int .i64 3, .int .i64 (2 + (p : Int)), .int .i64 (1 + (q : Int)), .int .i64 1, .int .i64 1, .int .i64 0, .int .i64 0, .string (letB kx), .string ⟨#[]⟩]
              refine hK.out _ _ (HSS.out _ hBz) (fun hHeld => ?_)
              clear hK K
              refine wpAnyH_done (by kernel_rfl) (NoPanic.normal ?_) _
              go_wp2_with fail
              go_meet
              case rel => exact ⟨(w1.heap.size + 1), rfl, (show wr.heap.size ≤ (w1.heap.size + 1) by first | exact Nat.le_refl _ | (have := hl1.size; simp at this ⊢; omega) | (simp)), KO141821.setRow _, hBz⟩
          · go_simp
            have hB1421 : Below wr.heap.size wr ((w1).alloc (.cells #[.int .i64 0, .int .i64 0, .int .i64 0, .int .i64 0, .int .i64 0, .int .i64 0, .int .i64 0, .string ⟨#[]⟩, .string ⟨#[]⟩] 25)) := by
              have h := (hBp14.alloc hBp14.size (.cells #[.int .i64 0, .int .i64 0, .int .i64 0, .int .i64 0, .int .i64 0, .int .i64 0, .int .i64 0, .string ⟨#[]⟩, .string ⟨#[]⟩] 25))
              exact h
            have hBp1421 : Below wr.heap.size wr ((w1).alloc (.cells #[.int .i64 0, .int .i64 0, .int .i64 0, .int .i64 0, .int .i64 0, .int .i64 0, .int .i64 0, .string ⟨#[]⟩, .string ⟨#[]⟩] 25)) := hBp14.alloc hBp14.size (.cells #[.int .i64 0, .int .i64 0, .int .i64 0, .int .i64 0, .int .i64 0, .int .i64 0, .int .i64 0, .string ⟨#[]⟩, .string ⟨#[]⟩] 25)
            have KO1421 : Blk ((w1).alloc (.cells #[.int .i64 0, .int .i64 0, .int .i64 0, .int .i64 0, .int .i64 0, .int .i64 0, .int .i64 0, .string ⟨#[]⟩, .string ⟨#[]⟩] 25)) 25 w1.heap.size #[.int .i64 0, .int .i64 0, .int .i64 0, .int .i64 0, .int .i64 0, .int .i64 0, .int .i64 0, .string ⟨#[]⟩, .string ⟨#[]⟩] := Blk.new' (w1) _ _ w1.heap.size (by first | rfl | simp)
            refine hK.out _ _ (HSS.out _ hB1421) (fun hHeld => ?_)
            clear hK K
            refine wpAnyH_ready (rs := [18]) (by kernel_rfl) (by simp) ?_
            refine AllReadyH.cons rfl (fun K hK => ?_) AllReadyH.nil
            go_simp
            have hB142118 : Below wr.heap.size wr (((w1).alloc (.cells #[.int .i64 0, .int .i64 0, .int .i64 0, .int .i64 0, .int .i64 0, .int .i64 0, .int .i64 0, .string ⟨#[]⟩, .string ⟨#[]⟩] 25)).alloc (.cells #[.int .u8 (97 + (kx : Int))] 5)) := by
              have h := (hBp1421.alloc hBp1421.size (.cells #[.int .u8 (97 + (kx : Int))] 5))
              exact h
            have hBp142118 : Below wr.heap.size wr (((w1).alloc (.cells #[.int .i64 0, .int .i64 0, .int .i64 0, .int .i64 0, .int .i64 0, .int .i64 0, .int .i64 0, .string ⟨#[]⟩, .string ⟨#[]⟩] 25)).alloc (.cells #[.int .u8 (97 + (kx : Int))] 5)) := hBp1421.alloc hBp1421.size (.cells #[.int .u8 (97 + (kx : Int))] 5)
            have KR142118 : Row8 (((w1).alloc (.cells #[.int .i64 0, .int .i64 0, .int .i64 0, .int .i64 0, .int .i64 0, .int .i64 0, .int .i64 0, .string ⟨#[]⟩, .string ⟨#[]⟩] 25)).alloc (.cells #[.int .u8 (97 + (kx : Int))] 5)) (w1.heap.size + 1) 1 (fun _ => 97 + kx) := row_let ((w1).alloc (.cells #[.int .i64 0, .int .i64 0, .int .i64 0, .int .i64 0, .int .i64 0, .int .i64 0, .int .i64 0, .string ⟨#[]⟩, .string ⟨#[]⟩] 25)) kx (w1.heap.size + 1) (by first | rfl | simp)
            have KO142118 : Blk (((w1).alloc (.cells #[.int .i64 0, .int .i64 0, .int .i64 0, .int .i64 0, .int .i64 0, .int .i64 0, .int .i64 0, .string ⟨#[]⟩, .string ⟨#[]⟩] 25)).alloc (.cells #[.int .u8 (97 + (kx : Int))] 5)) 25 w1.heap.size #[.int .i64 0, .int .i64 0, .int .i64 0, .int .i64 0, .int .i64 0, .int .i64 0, .int .i64 0, .string ⟨#[]⟩, .string ⟨#[]⟩] := Blk.alloc KO1421 _
            refine hK.out _ _ (HSS.out _ hB142118) (fun hHeld => ?_)
            clear hK K
            refine wpAnyH_ready (rs := [19]) (by kernel_rfl) (by simp) ?_
            refine AllReadyH.cons rfl (fun K hK => ?_) AllReadyH.nil
            have hcv := let_conv KR142118 hkx
            go_simp
            refine hK.out _ _ (HSS.out _ hB142118) (fun hHeld => ?_)
            clear hK K
            clear hcv
            refine take_at (i := 20) (v := ?_) rfl rfl (by kernel_rfl) (by kernel_rfl) (by kernel_rfl) (fun _ _ _ h => h) (Or.inl ⟨by rfl, ?_⟩) (by assumption) ?_
            rotate_left
            · intro w hSw; (try dsimp only at hSw); go_simp; try with_reducible rfl
            try simp only [Act.put, List.setIfInBounds_toArray, List.set_cons_zero, List.set_cons_succ]
            refine wpAnyH_ready (rs := [22]) (by kernel_rfl) (by simp) ?_
            refine AllReadyH.cons rfl (fun K hK => ?_) AllReadyH.nil
            refine step_storeRow rfl rfl 25 _ _ rfl w1.heap.size #[.int .i64 0, .int .i64 0, .int .i64 0, .int .i64 0, .int .i64 0, .int .i64 0, .int .i64 0, .string ⟨#[]⟩, .string ⟨#[]⟩] #[.int .i64 3, .int .i64 (2 + (p : Int)), .int .i64 (1 + (q : Int)), .int .i64 1, .int .i64 1, .int .i64 0, .int .i64 0, .string (letB kx), .string ⟨#[]⟩] rfl rfl KO142118 rfl (by kernel_rfl) (by simp [Value.oneCell']) ?_
            have hBz := below_setRow hB142118 (show wr.heap.size ≤ w1.heap.size by first | exact Nat.le_refl _ | (have := hl1.size; simp at this ⊢; omega) | (simp)) #[.int .i64 3, .int .i64 (2 + (p : Int)), .int .i64 (1 + (q : Int)), .int .i64 1, .int .i64 1, .int .i64 0, .int .i64 0, .string (letB kx), .string ⟨#[]⟩]
            refine hK.out _ _ (HSS.out _ hBz) (fun hHeld => ?_)
            clear hK K
            refine wpAnyH_done (by kernel_rfl) (NoPanic.normal ?_) _
            go_wp2_with fail
            go_meet
            case rel => exact ⟨w1.heap.size, rfl, (show wr.heap.size ≤ w1.heap.size by first | exact Nat.le_refl _ | (have := hl1.size; simp at this ⊢; omega) | (simp)), KO142118.setRow _, hBz⟩
        · go_simp
          have hB18 : Below wr.heap.size wr (((wr).alloc (.cells #[.int .u8 (97 + (kx : Int))] 5)).drew) := by
            have h := (hBp.alloc hBp.size (.cells #[.int .u8 (97 + (kx : Int))] 5))
            exact h.drew
          have hBp18 : Below wr.heap.size wr ((wr).alloc (.cells #[.int .u8 (97 + (kx : Int))] 5)) := hBp.alloc hBp.size (.cells #[.int .u8 (97 + (kx : Int))] 5)
          have KR18 : Row8 (((wr).alloc (.cells #[.int .u8 (97 + (kx : Int))] 5)).drew) wr.heap.size 1 (fun _ => 97 + kx) := row_let (wr) kx wr.heap.size (by first | rfl | simp)
          refine hK.out _ _ (HSS.out _ hB18) (fun hHeld => ?_)
          clear hK K
          refine wpAnyH_ready (rs := [14, 19, 21]) (by kernel_rfl) (by simp) ?_
          refine AllReadyH.cons rfl (fun K hK => ?_) (AllReadyH.cons rfl (fun K hK => ?_) (AllReadyH.cons rfl (fun K hK => ?_) AllReadyH.nil))
          · go_simp
            refine (CA.out _ _ _).mono ?_
            rintro e w1 ⟨rfl, hb1⟩
            have hB1814 : Below wr.heap.size wr w1 := below_step hB18 (by first | exact Nat.le_refl _ | (simp; omega) | simp) hb1
            have hl1 := hB1814
            have hBp1814 := hB1814
            have KR1814 : Row8 w1 wr.heap.size 1 (fun _ => 97 + kx) := KR18.below hb1 (by have := KR18.lt; exact this)
            refine hK.out _ _ (HSS.out _ hB1814) (fun hHeld => ?_)
            clear hK K
            refine wpAnyH_ready (rs := [19, 21]) (by kernel_rfl) (by simp) ?_
            refine AllReadyH.cons rfl (fun K hK => ?_) (AllReadyH.cons rfl (fun K hK => ?_) AllReadyH.nil)
            · have hcv := let_conv KR1814 hkx
              go_simp
              refine hK.out _ _ (HSS.out _ hB1814) (fun hHeld => ?_)
              clear hK K
              clear hcv
              refine take_at (i := 20) (v := ?_) rfl rfl (by kernel_rfl) (by kernel_rfl) (by kernel_rfl) (fun _ _ _ h => h) (Or.inl ⟨by rfl, ?_⟩) (by assumption) ?_
              rotate_left
              · intro w hSw; (try dsimp only at hSw); go_simp; try with_reducible rfl
              try simp only [Act.put, List.setIfInBounds_toArray, List.set_cons_zero, List.set_cons_succ]
              refine wpAnyH_ready (rs := [21]) (by kernel_rfl) (by simp) ?_
              refine AllReadyH.cons rfl (fun K hK => ?_) AllReadyH.nil
              go_simp
              have hB181421 : Below wr.heap.size wr ((w1).alloc (.cells #[.int .i64 0, .int .i64 0, .int .i64 0, .int .i64 0, .int .i64 0, .int .i64 0, .int .i64 0, .string ⟨#[]⟩, .string ⟨#[]⟩] 25)) := by
                have h := (hBp1814.alloc hBp1814.size (.cells #[.int .i64 0, .int .i64 0, .int .i64 0, .int .i64 0, .int .i64 0, .int .i64 0, .int .i64 0, .string ⟨#[]⟩, .string ⟨#[]⟩] 25))
                exact h
              have hBp181421 : Below wr.heap.size wr ((w1).alloc (.cells #[.int .i64 0, .int .i64 0, .int .i64 0, .int .i64 0, .int .i64 0, .int .i64 0, .int .i64 0, .string ⟨#[]⟩, .string ⟨#[]⟩] 25)) := hBp1814.alloc hBp1814.size (.cells #[.int .i64 0, .int .i64 0, .int .i64 0, .int .i64 0, .int .i64 0, .int .i64 0, .int .i64 0, .string ⟨#[]⟩, .string ⟨#[]⟩] 25)
              have KO181421 : Blk ((w1).alloc (.cells #[.int .i64 0, .int .i64 0, .int .i64 0, .int .i64 0, .int .i64 0, .int .i64 0, .int .i64 0, .string ⟨#[]⟩, .string ⟨#[]⟩] 25)) 25 w1.heap.size #[.int .i64 0, .int .i64 0, .int .i64 0, .int .i64 0, .int .i64 0, .int .i64 0, .int .i64 0, .string ⟨#[]⟩, .string ⟨#[]⟩] := Blk.new' (w1) _ _ w1.heap.size (by first | rfl | simp)
              have KR181421 : Row8 ((w1).alloc (.cells #[.int .i64 0, .int .i64 0, .int .i64 0, .int .i64 0, .int .i64 0, .int .i64 0, .int .i64 0, .string ⟨#[]⟩, .string ⟨#[]⟩] 25)) wr.heap.size 1 (fun _ => 97 + kx) := Row8.alloc KR1814 _
              refine hK.out _ _ (HSS.out _ hB181421) (fun hHeld => ?_)
              clear hK K
              refine wpAnyH_ready (rs := [22]) (by kernel_rfl) (by simp) ?_
              refine AllReadyH.cons rfl (fun K hK => ?_) AllReadyH.nil
              refine step_storeRow rfl rfl 25 _ _ rfl w1.heap.size #[.int .i64 0, .int .i64 0, .int .i64 0, .int .i64 0, .int .i64 0, .int .i64 0, .int .i64 0, .string ⟨#[]⟩, .string ⟨#[]⟩] #[.int .i64 3, .int .i64 (2 + (p : Int)), .int .i64 (1 + (q : Int)), .int .i64 1, .int .i64 1, .int .i64 0, .int .i64 0, .string (letB kx), .string ⟨#[]⟩] rfl rfl KO181421 rfl (by kernel_rfl) (by simp [Value.oneCell']) ?_
              have hBz := below_setRow hB181421 (show wr.heap.size ≤ w1.heap.size by first | exact Nat.le_refl _ | (have := hl1.size; simp at this ⊢; omega) | (simp)) #[.int .i64 3, .int .i64 (2 + (p : Int)), .int .i64 (1 + (q : Int)), .int .i64 1, .int .i64 1, .int .i64 0, .int .i64 0, .string (letB kx), .string ⟨#[]⟩]
              refine hK.out _ _ (HSS.out _ hBz) (fun hHeld => ?_)
              clear hK K
              refine wpAnyH_done (by kernel_rfl) (NoPanic.normal ?_) _
              go_wp2_with fail
              go_meet
              case rel => exact ⟨w1.heap.size, rfl, (show wr.heap.size ≤ w1.heap.size by first | exact Nat.le_refl _ | (have := hl1.size; simp at this ⊢; omega) | (simp)), KO181421.setRow _, hBz⟩
            · go_simp
              have hB181421 : Below wr.heap.size wr ((w1).alloc (.cells #[.int .i64 0, .int .i64 0, .int .i64 0, .int .i64 0, .int .i64 0, .int .i64 0, .int .i64 0, .string ⟨#[]⟩, .string ⟨#[]⟩] 25)) := by
                have h := (hBp1814.alloc hBp1814.size (.cells #[.int .i64 0, .int .i64 0, .int .i64 0, .int .i64 0, .int .i64 0, .int .i64 0, .int .i64 0, .string ⟨#[]⟩, .string ⟨#[]⟩] 25))
                exact h
              have hBp181421 : Below wr.heap.size wr ((w1).alloc (.cells #[.int .i64 0, .int .i64 0, .int .i64 0, .int .i64 0, .int .i64 0, .int .i64 0, .int .i64 0, .string ⟨#[]⟩, .string ⟨#[]⟩] 25)) := hBp1814.alloc hBp1814.size (.cells #[.int .i64 0, .int .i64 0, .int .i64 0, .int .i64 0, .int .i64 0, .int .i64 0, .int .i64 0, .string ⟨#[]⟩, .string ⟨#[]⟩] 25)
              have KO181421 : Blk ((w1).alloc (.cells #[.int .i64 0, .int .i64 0, .int .i64 0, .int .i64 0, .int .i64 0, .int .i64 0, .int .i64 0, .string ⟨#[]⟩, .string ⟨#[]⟩] 25)) 25 w1.heap.size #[.int .i64 0, .int .i64 0, .int .i64 0, .int .i64 0, .int .i64 0, .int .i64 0, .int .i64 0, .string ⟨#[]⟩, .string ⟨#[]⟩] := Blk.new' (w1) _ _ w1.heap.size (by first | rfl | simp)
              have KR181421 : Row8 ((w1).alloc (.cells #[.int .i64 0, .int .i64 0, .int .i64 0, .int .i64 0, .int .i64 0, .int .i64 0, .int .i64 0, .string ⟨#[]⟩, .string ⟨#[]⟩] 25)) wr.heap.size 1 (fun _ => 97 + kx) := Row8.alloc KR1814 _
              refine hK.out _ _ (HSS.out _ hB181421) (fun hHeld => ?_)
              clear hK K
              refine wpAnyH_ready (rs := [19]) (by kernel_rfl) (by simp) ?_
              refine AllReadyH.cons rfl (fun K hK => ?_) AllReadyH.nil
              have hcv := let_conv KR181421 hkx
              go_simp
              refine hK.out _ _ (HSS.out _ hB181421) (fun hHeld => ?_)
              clear hK K
              clear hcv
              refine take_at (i := 20) (v := ?_) rfl rfl (by kernel_rfl) (by kernel_rfl) (by kernel_rfl) (fun _ _ _ h => h) (Or.inl ⟨by rfl, ?_⟩) (by assumption) ?_
              rotate_left
              · intro w hSw; (try dsimp only at hSw); go_simp; try with_reducible rfl
              try simp only [Act.put, List.setIfInBounds_toArray, List.set_cons_zero, List.set_cons_succ]
              refine wpAnyH_ready (rs := [22]) (by kernel_rfl) (by simp) ?_
              refine AllReadyH.cons rfl (fun K hK => ?_) AllReadyH.nil
              refine step_storeRow rfl rfl 25 _ _ rfl w1.heap.size #[.int .i64 0, .int .i64 0, .int .i64 0, .int .i64 0, .int .i64 0, .int .i64 0, .int .i64 0, .string ⟨#[]⟩, .string ⟨#[]⟩] #[.int .i64 3, .int .i64 (2 + (p : Int)), .int .i64 (1 + (q : Int)), .int .i64 1, .int .i64 1, .int .i64 0, .int .i64 0, .string (letB kx), .string ⟨#[]⟩] rfl rfl KO181421 rfl (by kernel_rfl) (by simp [Value.oneCell']) ?_
              have hBz := below_setRow hB181421 (show wr.heap.size ≤ w1.heap.size by first | exact Nat.le_refl _ | (have := hl1.size; simp at this ⊢; omega) | (simp)) #[.int .i64 3, .int .i64 (2 + (p : Int)), .int .i64 (1 + (q : Int)), .int .i64 1, .int .i64 1, .int .i64 0, .int .i64 0, .string (letB kx), .string ⟨#[]⟩]
              refine hK.out _ _ (HSS.out _ hBz) (fun hHeld => ?_)
              clear hK K
              refine wpAnyH_done (by kernel_rfl) (NoPanic.normal ?_) _
              go_wp2_with fail
              go_meet
              case rel => exact ⟨w1.heap.size, rfl, (show wr.heap.size ≤ w1.heap.size by first | exact Nat.le_refl _ | (have := hl1.size; simp at this ⊢; omega) | (simp)), KO181421.setRow _, hBz⟩
          · have hcv := let_conv KR18 hkx
            go_simp
            refine hK.out _ _ (HSS.out _ hB18) (fun hHeld => ?_)
            clear hK K
            clear hcv
            refine wpAnyH_ready (rs := [14, 21]) (by kernel_rfl) (by simp) ?_
            refine AllReadyH.cons rfl (fun K hK => ?_) (AllReadyH.cons rfl (fun K hK => ?_) AllReadyH.nil)
            · go_simp
              refine (CA.out _ _ _).mono ?_
              rintro e w1 ⟨rfl, hb1⟩
              have hB1814 : Below wr.heap.size wr w1 := below_step hB18 (by first | exact Nat.le_refl _ | (simp; omega) | simp) hb1
              have hl1 := hB1814
              have hBp1814 := hB1814
              have KR1814 : Row8 w1 wr.heap.size 1 (fun _ => 97 + kx) := KR18.below hb1 (by have := KR18.lt; exact this)
              refine hK.out _ _ (HSS.out _ hB1814) (fun hHeld => ?_)
              clear hK K
              refine take_at (i := 20) (v := ?_) rfl rfl (by kernel_rfl) (by kernel_rfl) (by kernel_rfl) (fun _ _ _ h => h) (Or.inl ⟨by rfl, ?_⟩) (by assumption) ?_
              rotate_left
              · intro w hSw; (try dsimp only at hSw); go_simp; try with_reducible rfl
              try simp only [Act.put, List.setIfInBounds_toArray, List.set_cons_zero, List.set_cons_succ]
              refine wpAnyH_ready (rs := [21]) (by kernel_rfl) (by simp) ?_
              refine AllReadyH.cons rfl (fun K hK => ?_) AllReadyH.nil
              go_simp
              have hB181421 : Below wr.heap.size wr ((w1).alloc (.cells #[.int .i64 0, .int .i64 0, .int .i64 0, .int .i64 0, .int .i64 0, .int .i64 0, .int .i64 0, .string ⟨#[]⟩, .string ⟨#[]⟩] 25)) := by
                have h := (hBp1814.alloc hBp1814.size (.cells #[.int .i64 0, .int .i64 0, .int .i64 0, .int .i64 0, .int .i64 0, .int .i64 0, .int .i64 0, .string ⟨#[]⟩, .string ⟨#[]⟩] 25))
                exact h
              have hBp181421 : Below wr.heap.size wr ((w1).alloc (.cells #[.int .i64 0, .int .i64 0, .int .i64 0, .int .i64 0, .int .i64 0, .int .i64 0, .int .i64 0, .string ⟨#[]⟩, .string ⟨#[]⟩] 25)) := hBp1814.alloc hBp1814.size (.cells #[.int .i64 0, .int .i64 0, .int .i64 0, .int .i64 0, .int .i64 0, .int .i64 0, .int .i64 0, .string ⟨#[]⟩, .string ⟨#[]⟩] 25)
              have KO181421 : Blk ((w1).alloc (.cells #[.int .i64 0, .int .i64 0, .int .i64 0, .int .i64 0, .int .i64 0, .int .i64 0, .int .i64 0, .string ⟨#[]⟩, .string ⟨#[]⟩] 25)) 25 w1.heap.size #[.int .i64 0, .int .i64 0, .int .i64 0, .int .i64 0, .int .i64 0, .int .i64 0, .int .i64 0, .string ⟨#[]⟩, .string ⟨#[]⟩] := Blk.new' (w1) _ _ w1.heap.size (by first | rfl | simp)
              have KR181421 : Row8 ((w1).alloc (.cells #[.int .i64 0, .int .i64 0, .int .i64 0, .int .i64 0, .int .i64 0, .int .i64 0, .int .i64 0, .string ⟨#[]⟩, .string ⟨#[]⟩] 25)) wr.heap.size 1 (fun _ => 97 + kx) := Row8.alloc KR1814 _
              refine hK.out _ _ (HSS.out _ hB181421) (fun hHeld => ?_)
              clear hK K
              refine wpAnyH_ready (rs := [22]) (by kernel_rfl) (by simp) ?_
              refine AllReadyH.cons rfl (fun K hK => ?_) AllReadyH.nil
              refine step_storeRow rfl rfl 25 _ _ rfl w1.heap.size #[.int .i64 0, .int .i64 0, .int .i64 0, .int .i64 0, .int .i64 0, .int .i64 0, .int .i64 0, .string ⟨#[]⟩, .string ⟨#[]⟩] #[.int .i64 3, .int .i64 (2 + (p : Int)), .int .i64 (1 + (q : Int)), .int .i64 1, .int .i64 1, .int .i64 0, .int .i64 0, .string (letB kx), .string ⟨#[]⟩] rfl rfl KO181421 rfl (by kernel_rfl) (by simp [Value.oneCell']) ?_
              have hBz := below_setRow hB181421 (show wr.heap.size ≤ w1.heap.size by first | exact Nat.le_refl _ | (have := hl1.size; simp at this ⊢; omega) | (simp)) #[.int .i64 3, .int .i64 (2 + (p : Int)), .int .i64 (1 + (q : Int)), .int .i64 1, .int .i64 1, .int .i64 0, .int .i64 0, .string (letB kx), .string ⟨#[]⟩]
              refine hK.out _ _ (HSS.out _ hBz) (fun hHeld => ?_)
              clear hK K
              refine wpAnyH_done (by kernel_rfl) (NoPanic.normal ?_) _
              go_wp2_with fail
              go_meet
              case rel => exact ⟨w1.heap.size, rfl, (show wr.heap.size ≤ w1.heap.size by first | exact Nat.le_refl _ | (have := hl1.size; simp at this ⊢; omega) | (simp)), KO181421.setRow _, hBz⟩
            · go_simp
              have hB1821 : Below wr.heap.size wr ((((wr).alloc (.cells #[.int .u8 (97 + (kx : Int))] 5)).alloc (.cells #[.int .i64 0, .int .i64 0, .int .i64 0, .int .i64 0, .int .i64 0, .int .i64 0, .int .i64 0, .string ⟨#[]⟩, .string ⟨#[]⟩] 25)).drew) := by
                have h := (hBp18.alloc hBp18.size (.cells #[.int .i64 0, .int .i64 0, .int .i64 0, .int .i64 0, .int .i64 0, .int .i64 0, .int .i64 0, .string ⟨#[]⟩, .string ⟨#[]⟩] 25))
                exact h.drew
              have hBp1821 : Below wr.heap.size wr (((wr).alloc (.cells #[.int .u8 (97 + (kx : Int))] 5)).alloc (.cells #[.int .i64 0, .int .i64 0, .int .i64 0, .int .i64 0, .int .i64 0, .int .i64 0, .int .i64 0, .string ⟨#[]⟩, .string ⟨#[]⟩] 25)) := hBp18.alloc hBp18.size (.cells #[.int .i64 0, .int .i64 0, .int .i64 0, .int .i64 0, .int .i64 0, .int .i64 0, .int .i64 0, .string ⟨#[]⟩, .string ⟨#[]⟩] 25)
              have KO1821 : Blk ((((wr).alloc (.cells #[.int .u8 (97 + (kx : Int))] 5)).alloc (.cells #[.int .i64 0, .int .i64 0, .int .i64 0, .int .i64 0, .int .i64 0, .int .i64 0, .int .i64 0, .string ⟨#[]⟩, .string ⟨#[]⟩] 25)).drew) 25 (wr.heap.size + 1) #[.int .i64 0, .int .i64 0, .int .i64 0, .int .i64 0, .int .i64 0, .int .i64 0, .int .i64 0, .string ⟨#[]⟩, .string ⟨#[]⟩] := Blk.new' ((wr).alloc (.cells #[.int .u8 (97 + (kx : Int))] 5)) _ _ (wr.heap.size + 1) (by first | rfl | simp)
              have KR1821 : Row8 ((((wr).alloc (.cells #[.int .u8 (97 + (kx : Int))] 5)).alloc (.cells #[.int .i64 0, .int .i64 0, .int .i64 0, .int .i64 0, .int .i64 0, .int .i64 0, .int .i64 0, .string ⟨#[]⟩, .string ⟨#[]⟩] 25)).drew) wr.heap.size 1 (fun _ => 97 + kx) := Row8.alloc KR18 _
              refine hK.out _ _ (HSS.out _ hB1821) (fun hHeld => ?_)
              clear hK K
              refine wpAnyH_ready (rs := [14]) (by kernel_rfl) (by simp) ?_
              refine AllReadyH.cons rfl (fun K hK => ?_) AllReadyH.nil
              go_simp
              refine (CA.out _ _ _).mono ?_
              rintro e w1 ⟨rfl, hb1⟩
              have hB182114 : Below wr.heap.size wr w1 := below_step hB1821 (by first | exact Nat.le_refl _ | (simp; omega) | simp) hb1
              have hl1 := hB182114
              have hBp182114 := hB182114
              have KR182114 : Row8 w1 wr.heap.size 1 (fun _ => 97 + kx) := KR1821.below hb1 (by have := KR1821.lt; exact this)
              have KO182114 : Blk w1 25 (wr.heap.size + 1) #[.int .i64 0, .int .i64 0, .int .i64 0, .int .i64 0, .int .i64 0, .int .i64 0, .int .i64 0, .string ⟨#[]⟩, .string ⟨#[]⟩] := KO1821.on hb1
              refine hK.out _ _ (HSS.out _ hB182114) (fun hHeld => ?_)
              clear hK K
              refine take_at (i := 20) (v := ?_) rfl rfl (by kernel_rfl) (by kernel_rfl) (by kernel_rfl) (fun _ _ _ h => h) (Or.inl ⟨by rfl, ?_⟩) (by assumption) ?_
              rotate_left
              · intro w hSw; (try dsimp only at hSw); go_simp; try with_reducible rfl
              try simp only [Act.put, List.setIfInBounds_toArray, List.set_cons_zero, List.set_cons_succ]
              refine wpAnyH_ready (rs := [22]) (by kernel_rfl) (by simp) ?_
              refine AllReadyH.cons rfl (fun K hK => ?_) AllReadyH.nil
              refine step_storeRow rfl rfl 25 _ _ rfl (wr.heap.size + 1) #[.int .i64 0, .int .i64 0, .int .i64 0, .int .i64 0, .int .i64 0, .int .i64 0, .int .i64 0, .string ⟨#[]⟩, .string ⟨#[]⟩] #[.int .i64 3, .int .i64 (2 + (p : Int)), .int .i64 (1 + (q : Int)), .int .i64 1, .int .i64 1, .int .i64 0, .int .i64 0, .string (letB kx), .string ⟨#[]⟩] rfl rfl KO182114 rfl (by kernel_rfl) (by simp [Value.oneCell']) ?_
              have hBz := below_setRow hB182114 (show wr.heap.size ≤ (wr.heap.size + 1) by first | exact Nat.le_refl _ | (have := hl1.size; simp at this ⊢; omega) | (simp)) #[.int .i64 3, .int .i64 (2 + (p : Int)), .int .i64 (1 + (q : Int)), .int .i64 1, .int .i64 1, .int .i64 0, .int .i64 0, .string (letB kx), .string ⟨#[]⟩]
              refine hK.out _ _ (HSS.out _ hBz) (fun hHeld => ?_)
              clear hK K
              refine wpAnyH_done (by kernel_rfl) (NoPanic.normal ?_) _
              go_wp2_with fail
              go_meet
              case rel => exact ⟨(wr.heap.size + 1), rfl, (show wr.heap.size ≤ (wr.heap.size + 1) by first | exact Nat.le_refl _ | (have := hl1.size; simp at this ⊢; omega) | (simp)), KO182114.setRow _, hBz⟩
          · go_simp
            have hB1821 : Below wr.heap.size wr ((((wr).alloc (.cells #[.int .u8 (97 + (kx : Int))] 5)).alloc (.cells #[.int .i64 0, .int .i64 0, .int .i64 0, .int .i64 0, .int .i64 0, .int .i64 0, .int .i64 0, .string ⟨#[]⟩, .string ⟨#[]⟩] 25)).drew) := by
              have h := (hBp18.alloc hBp18.size (.cells #[.int .i64 0, .int .i64 0, .int .i64 0, .int .i64 0, .int .i64 0, .int .i64 0, .int .i64 0, .string ⟨#[]⟩, .string ⟨#[]⟩] 25))
              exact h.drew
            have hBp1821 : Below wr.heap.size wr (((wr).alloc (.cells #[.int .u8 (97 + (kx : Int))] 5)).alloc (.cells #[.int .i64 0, .int .i64 0, .int .i64 0, .int .i64 0, .int .i64 0, .int .i64 0, .int .i64 0, .string ⟨#[]⟩, .string ⟨#[]⟩] 25)) := hBp18.alloc hBp18.size (.cells #[.int .i64 0, .int .i64 0, .int .i64 0, .int .i64 0, .int .i64 0, .int .i64 0, .int .i64 0, .string ⟨#[]⟩, .string ⟨#[]⟩] 25)
            have KO1821 : Blk ((((wr).alloc (.cells #[.int .u8 (97 + (kx : Int))] 5)).alloc (.cells #[.int .i64 0, .int .i64 0, .int .i64 0, .int .i64 0, .int .i64 0, .int .i64 0, .int .i64 0, .string ⟨#[]⟩, .string ⟨#[]⟩] 25)).drew) 25 (wr.heap.size + 1) #[.int .i64 0, .int .i64 0, .int .i64 0, .int .i64 0, .int .i64 0, .int .i64 0, .int .i64 0, .string ⟨#[]⟩, .string ⟨#[]⟩] := Blk.new' ((wr).alloc (.cells #[.int .u8 (97 + (kx : Int))] 5)) _ _ (wr.heap.size + 1) (by first | rfl | simp)
            have KR1821 : Row8 ((((wr).alloc (.cells #[.int .u8 (97 + (kx : Int))] 5)).alloc (.cells #[.int .i64 0, .int .i64 0, .int .i64 0, .int .i64 0, .int .i64 0, .int .i64 0, .int .i64 0, .string ⟨#[]⟩, .string ⟨#[]⟩] 25)).drew) wr.heap.size 1 (fun _ => 97 + kx) := Row8.alloc KR18 _
            refine hK.out _ _ (HSS.out _ hB1821) (fun hHeld => ?_)
            clear hK K
            refine wpAnyH_ready (rs := [14, 19]) (by kernel_rfl) (by simp) ?_
            refine AllReadyH.cons rfl (fun K hK => ?_) (AllReadyH.cons rfl (fun K hK => ?_) AllReadyH.nil)
            · go_simp
              refine (CA.out _ _ _).mono ?_
              rintro e w1 ⟨rfl, hb1⟩
              have hB182114 : Below wr.heap.size wr w1 := below_step hB1821 (by first | exact Nat.le_refl _ | (simp; omega) | simp) hb1
              have hl1 := hB182114
              have hBp182114 := hB182114
              have KR182114 : Row8 w1 wr.heap.size 1 (fun _ => 97 + kx) := KR1821.below hb1 (by have := KR1821.lt; exact this)
              have KO182114 : Blk w1 25 (wr.heap.size + 1) #[.int .i64 0, .int .i64 0, .int .i64 0, .int .i64 0, .int .i64 0, .int .i64 0, .int .i64 0, .string ⟨#[]⟩, .string ⟨#[]⟩] := KO1821.on hb1
              refine hK.out _ _ (HSS.out _ hB182114) (fun hHeld => ?_)
              clear hK K
              refine wpAnyH_ready (rs := [19]) (by kernel_rfl) (by simp) ?_
              refine AllReadyH.cons rfl (fun K hK => ?_) AllReadyH.nil
              have hcv := let_conv KR182114 hkx
              go_simp
              refine hK.out _ _ (HSS.out _ hB182114) (fun hHeld => ?_)
              clear hK K
              clear hcv
              refine take_at (i := 20) (v := ?_) rfl rfl (by kernel_rfl) (by kernel_rfl) (by kernel_rfl) (fun _ _ _ h => h) (Or.inl ⟨by rfl, ?_⟩) (by assumption) ?_
              rotate_left
              · intro w hSw; (try dsimp only at hSw); go_simp; try with_reducible rfl
              try simp only [Act.put, List.setIfInBounds_toArray, List.set_cons_zero, List.set_cons_succ]
              refine wpAnyH_ready (rs := [22]) (by kernel_rfl) (by simp) ?_
              refine AllReadyH.cons rfl (fun K hK => ?_) AllReadyH.nil
              refine step_storeRow rfl rfl 25 _ _ rfl (wr.heap.size + 1) #[.int .i64 0, .int .i64 0, .int .i64 0, .int .i64 0, .int .i64 0, .int .i64 0, .int .i64 0, .string ⟨#[]⟩, .string ⟨#[]⟩] #[.int .i64 3, .int .i64 (2 + (p : Int)), .int .i64 (1 + (q : Int)), .int .i64 1, .int .i64 1, .int .i64 0, .int .i64 0, .string (letB kx), .string ⟨#[]⟩] rfl rfl KO182114 rfl (by kernel_rfl) (by simp [Value.oneCell']) ?_
              have hBz := below_setRow hB182114 (show wr.heap.size ≤ (wr.heap.size + 1) by first | exact Nat.le_refl _ | (have := hl1.size; simp at this ⊢; omega) | (simp)) #[.int .i64 3, .int .i64 (2 + (p : Int)), .int .i64 (1 + (q : Int)), .int .i64 1, .int .i64 1, .int .i64 0, .int .i64 0, .string (letB kx), .string ⟨#[]⟩]
              refine hK.out _ _ (HSS.out _ hBz) (fun hHeld => ?_)
              clear hK K
              refine wpAnyH_done (by kernel_rfl) (NoPanic.normal ?_) _
              go_wp2_with fail
              go_meet
              case rel => exact ⟨(wr.heap.size + 1), rfl, (show wr.heap.size ≤ (wr.heap.size + 1) by first | exact Nat.le_refl _ | (have := hl1.size; simp at this ⊢; omega) | (simp)), KO182114.setRow _, hBz⟩
            · have hcv := let_conv KR1821 hkx
              go_simp
              refine hK.out _ _ (HSS.out _ hB1821) (fun hHeld => ?_)
              clear hK K
              clear hcv
              refine wpAnyH_ready (rs := [14]) (by kernel_rfl) (by simp) ?_
              refine AllReadyH.cons rfl (fun K hK => ?_) AllReadyH.nil
              go_simp
              refine (CA.out _ _ _).mono ?_
              rintro e w1 ⟨rfl, hb1⟩
              have hB182114 : Below wr.heap.size wr w1 := below_step hB1821 (by first | exact Nat.le_refl _ | (simp; omega) | simp) hb1
              have hl1 := hB182114
              have hBp182114 := hB182114
              have KR182114 : Row8 w1 wr.heap.size 1 (fun _ => 97 + kx) := KR1821.below hb1 (by have := KR1821.lt; exact this)
              have KO182114 : Blk w1 25 (wr.heap.size + 1) #[.int .i64 0, .int .i64 0, .int .i64 0, .int .i64 0, .int .i64 0, .int .i64 0, .int .i64 0, .string ⟨#[]⟩, .string ⟨#[]⟩] := KO1821.on hb1
              refine hK.out _ _ (HSS.out _ hB182114) (fun hHeld => ?_)
              clear hK K
              refine take_at (i := 20) (v := ?_) rfl rfl (by kernel_rfl) (by kernel_rfl) (by kernel_rfl) (fun _ _ _ h => h) (Or.inl ⟨by rfl, ?_⟩) (by assumption) ?_
              rotate_left
              · intro w hSw; (try dsimp only at hSw); go_simp; try with_reducible rfl
              try simp only [Act.put, List.setIfInBounds_toArray, List.set_cons_zero, List.set_cons_succ]
              refine wpAnyH_ready (rs := [22]) (by kernel_rfl) (by simp) ?_
              refine AllReadyH.cons rfl (fun K hK => ?_) AllReadyH.nil
              refine step_storeRow rfl rfl 25 _ _ rfl (wr.heap.size + 1) #[.int .i64 0, .int .i64 0, .int .i64 0, .int .i64 0, .int .i64 0, .int .i64 0, .int .i64 0, .string ⟨#[]⟩, .string ⟨#[]⟩] #[.int .i64 3, .int .i64 (2 + (p : Int)), .int .i64 (1 + (q : Int)), .int .i64 1, .int .i64 1, .int .i64 0, .int .i64 0, .string (letB kx), .string ⟨#[]⟩] rfl rfl KO182114 rfl (by kernel_rfl) (by simp [Value.oneCell']) ?_
              have hBz := below_setRow hB182114 (show wr.heap.size ≤ (wr.heap.size + 1) by first | exact Nat.le_refl _ | (have := hl1.size; simp at this ⊢; omega) | (simp)) #[.int .i64 3, .int .i64 (2 + (p : Int)), .int .i64 (1 + (q : Int)), .int .i64 1, .int .i64 1, .int .i64 0, .int .i64 0, .string (letB kx), .string ⟨#[]⟩]
              refine hK.out _ _ (HSS.out _ hBz) (fun hHeld => ?_)
              clear hK K
              refine wpAnyH_done (by kernel_rfl) (NoPanic.normal ?_) _
              go_wp2_with fail
              go_meet
              case rel => exact ⟨(wr.heap.size + 1), rfl, (show wr.heap.size ≤ (wr.heap.size + 1) by first | exact Nat.le_refl _ | (have := hl1.size; simp at this ⊢; omega) | (simp)), KO182114.setRow _, hBz⟩
        · go_simp
          have hB21 : Below wr.heap.size wr (((wr).alloc (.cells #[.int .i64 0, .int .i64 0, .int .i64 0, .int .i64 0, .int .i64 0, .int .i64 0, .int .i64 0, .string ⟨#[]⟩, .string ⟨#[]⟩] 25)).drew) := by
            have h := (hBp.alloc hBp.size (.cells #[.int .i64 0, .int .i64 0, .int .i64 0, .int .i64 0, .int .i64 0, .int .i64 0, .int .i64 0, .string ⟨#[]⟩, .string ⟨#[]⟩] 25))
            exact h.drew
          have hBp21 : Below wr.heap.size wr ((wr).alloc (.cells #[.int .i64 0, .int .i64 0, .int .i64 0, .int .i64 0, .int .i64 0, .int .i64 0, .int .i64 0, .string ⟨#[]⟩, .string ⟨#[]⟩] 25)) := hBp.alloc hBp.size (.cells #[.int .i64 0, .int .i64 0, .int .i64 0, .int .i64 0, .int .i64 0, .int .i64 0, .int .i64 0, .string ⟨#[]⟩, .string ⟨#[]⟩] 25)
          have KO21 : Blk (((wr).alloc (.cells #[.int .i64 0, .int .i64 0, .int .i64 0, .int .i64 0, .int .i64 0, .int .i64 0, .int .i64 0, .string ⟨#[]⟩, .string ⟨#[]⟩] 25)).drew) 25 wr.heap.size #[.int .i64 0, .int .i64 0, .int .i64 0, .int .i64 0, .int .i64 0, .int .i64 0, .int .i64 0, .string ⟨#[]⟩, .string ⟨#[]⟩] := Blk.new' (wr) _ _ wr.heap.size (by first | rfl | simp)
          refine hK.out _ _ (HSS.out _ hB21) (fun hHeld => ?_)
          clear hK K
          refine wpAnyH_ready (rs := [14, 18]) (by kernel_rfl) (by simp) ?_
          refine AllReadyH.cons rfl (fun K hK => ?_) (AllReadyH.cons rfl (fun K hK => ?_) AllReadyH.nil)
          · go_simp
            refine (CA.out _ _ _).mono ?_
            rintro e w1 ⟨rfl, hb1⟩
            have hB2114 : Below wr.heap.size wr w1 := below_step hB21 (by first | exact Nat.le_refl _ | (simp; omega) | simp) hb1
            have hl1 := hB2114
            have hBp2114 := hB2114
            have KO2114 : Blk w1 25 wr.heap.size #[.int .i64 0, .int .i64 0, .int .i64 0, .int .i64 0, .int .i64 0, .int .i64 0, .int .i64 0, .string ⟨#[]⟩, .string ⟨#[]⟩] := KO21.on hb1
            refine hK.out _ _ (HSS.out _ hB2114) (fun hHeld => ?_)
            clear hK K
            refine wpAnyH_ready (rs := [18]) (by kernel_rfl) (by simp) ?_
            refine AllReadyH.cons rfl (fun K hK => ?_) AllReadyH.nil
            go_simp
            have hB211418 : Below wr.heap.size wr ((w1).alloc (.cells #[.int .u8 (97 + (kx : Int))] 5)) := by
              have h := (hBp2114.alloc hBp2114.size (.cells #[.int .u8 (97 + (kx : Int))] 5))
              exact h
            have hBp211418 : Below wr.heap.size wr ((w1).alloc (.cells #[.int .u8 (97 + (kx : Int))] 5)) := hBp2114.alloc hBp2114.size (.cells #[.int .u8 (97 + (kx : Int))] 5)
            have KR211418 : Row8 ((w1).alloc (.cells #[.int .u8 (97 + (kx : Int))] 5)) w1.heap.size 1 (fun _ => 97 + kx) := row_let (w1) kx w1.heap.size (by first | rfl | simp)
            have KO211418 : Blk ((w1).alloc (.cells #[.int .u8 (97 + (kx : Int))] 5)) 25 wr.heap.size #[.int .i64 0, .int .i64 0, .int .i64 0, .int .i64 0, .int .i64 0, .int .i64 0, .int .i64 0, .string ⟨#[]⟩, .string ⟨#[]⟩] := Blk.alloc KO2114 _
            refine hK.out _ _ (HSS.out _ hB211418) (fun hHeld => ?_)
            clear hK K
            refine wpAnyH_ready (rs := [19]) (by kernel_rfl) (by simp) ?_
            refine AllReadyH.cons rfl (fun K hK => ?_) AllReadyH.nil
            have hcv := let_conv KR211418 hkx
            go_simp
            refine hK.out _ _ (HSS.out _ hB211418) (fun hHeld => ?_)
            clear hK K
            clear hcv
            refine take_at (i := 20) (v := ?_) rfl rfl (by kernel_rfl) (by kernel_rfl) (by kernel_rfl) (fun _ _ _ h => h) (Or.inl ⟨by rfl, ?_⟩) (by assumption) ?_
            rotate_left
            · intro w hSw; (try dsimp only at hSw); go_simp; try with_reducible rfl
            try simp only [Act.put, List.setIfInBounds_toArray, List.set_cons_zero, List.set_cons_succ]
            refine wpAnyH_ready (rs := [22]) (by kernel_rfl) (by simp) ?_
            refine AllReadyH.cons rfl (fun K hK => ?_) AllReadyH.nil
            refine step_storeRow rfl rfl 25 _ _ rfl wr.heap.size #[.int .i64 0, .int .i64 0, .int .i64 0, .int .i64 0, .int .i64 0, .int .i64 0, .int .i64 0, .string ⟨#[]⟩, .string ⟨#[]⟩] #[.int .i64 3, .int .i64 (2 + (p : Int)), .int .i64 (1 + (q : Int)), .int .i64 1, .int .i64 1, .int .i64 0, .int .i64 0, .string (letB kx), .string ⟨#[]⟩] rfl rfl KO211418 rfl (by kernel_rfl) (by simp [Value.oneCell']) ?_
            have hBz := below_setRow hB211418 (show wr.heap.size ≤ wr.heap.size by first | exact Nat.le_refl _ | (have := hl1.size; simp at this ⊢; omega) | (simp)) #[.int .i64 3, .int .i64 (2 + (p : Int)), .int .i64 (1 + (q : Int)), .int .i64 1, .int .i64 1, .int .i64 0, .int .i64 0, .string (letB kx), .string ⟨#[]⟩]
            refine hK.out _ _ (HSS.out _ hBz) (fun hHeld => ?_)
            clear hK K
            refine wpAnyH_done (by kernel_rfl) (NoPanic.normal ?_) _
            go_wp2_with fail
            go_meet
            case rel => exact ⟨wr.heap.size, rfl, (show wr.heap.size ≤ wr.heap.size by first | exact Nat.le_refl _ | (have := hl1.size; simp at this ⊢; omega) | (simp)), KO211418.setRow _, hBz⟩
          · go_simp
            have hB2118 : Below wr.heap.size wr ((((wr).alloc (.cells #[.int .i64 0, .int .i64 0, .int .i64 0, .int .i64 0, .int .i64 0, .int .i64 0, .int .i64 0, .string ⟨#[]⟩, .string ⟨#[]⟩] 25)).alloc (.cells #[.int .u8 (97 + (kx : Int))] 5)).drew) := by
              have h := (hBp21.alloc hBp21.size (.cells #[.int .u8 (97 + (kx : Int))] 5))
              exact h.drew
            have hBp2118 : Below wr.heap.size wr (((wr).alloc (.cells #[.int .i64 0, .int .i64 0, .int .i64 0, .int .i64 0, .int .i64 0, .int .i64 0, .int .i64 0, .string ⟨#[]⟩, .string ⟨#[]⟩] 25)).alloc (.cells #[.int .u8 (97 + (kx : Int))] 5)) := hBp21.alloc hBp21.size (.cells #[.int .u8 (97 + (kx : Int))] 5)
            have KR2118 : Row8 ((((wr).alloc (.cells #[.int .i64 0, .int .i64 0, .int .i64 0, .int .i64 0, .int .i64 0, .int .i64 0, .int .i64 0, .string ⟨#[]⟩, .string ⟨#[]⟩] 25)).alloc (.cells #[.int .u8 (97 + (kx : Int))] 5)).drew) (wr.heap.size + 1) 1 (fun _ => 97 + kx) := row_let ((wr).alloc (.cells #[.int .i64 0, .int .i64 0, .int .i64 0, .int .i64 0, .int .i64 0, .int .i64 0, .int .i64 0, .string ⟨#[]⟩, .string ⟨#[]⟩] 25)) kx (wr.heap.size + 1) (by first | rfl | simp)
            have KO2118 : Blk ((((wr).alloc (.cells #[.int .i64 0, .int .i64 0, .int .i64 0, .int .i64 0, .int .i64 0, .int .i64 0, .int .i64 0, .string ⟨#[]⟩, .string ⟨#[]⟩] 25)).alloc (.cells #[.int .u8 (97 + (kx : Int))] 5)).drew) 25 wr.heap.size #[.int .i64 0, .int .i64 0, .int .i64 0, .int .i64 0, .int .i64 0, .int .i64 0, .int .i64 0, .string ⟨#[]⟩, .string ⟨#[]⟩] := Blk.alloc KO21 _
            refine hK.out _ _ (HSS.out _ hB2118) (fun hHeld => ?_)
            clear hK K
            refine wpAnyH_ready (rs := [14, 19]) (by kernel_rfl) (by simp) ?_
            refine AllReadyH.cons rfl (fun K hK => ?_) (AllReadyH.cons rfl (fun K hK => ?_) AllReadyH.nil)
            · go_simp
              refine (CA.out _ _ _).mono ?_
              rintro e w1 ⟨rfl, hb1⟩
              have hB211814 : Below wr.heap.size wr w1 := below_step hB2118 (by first | exact Nat.le_refl _ | (simp; omega) | simp) hb1
              have hl1 := hB211814
              have hBp211814 := hB211814
              have KR211814 : Row8 w1 (wr.heap.size + 1) 1 (fun _ => 97 + kx) := KR2118.below hb1 (by have := KR2118.lt; exact this)
              have KO211814 : Blk w1 25 wr.heap.size #[.int .i64 0, .int .i64 0, .int .i64 0, .int .i64 0, .int .i64 0, .int .i64 0, .int .i64 0, .string ⟨#[]⟩, .string ⟨#[]⟩] := KO2118.on hb1
              refine hK.out _ _ (HSS.out _ hB211814) (fun hHeld => ?_)
              clear hK K
              refine wpAnyH_ready (rs := [19]) (by kernel_rfl) (by simp) ?_
              refine AllReadyH.cons rfl (fun K hK => ?_) AllReadyH.nil
              have hcv := let_conv KR211814 hkx
              go_simp
              refine hK.out _ _ (HSS.out _ hB211814) (fun hHeld => ?_)
              clear hK K
              clear hcv
              refine take_at (i := 20) (v := ?_) rfl rfl (by kernel_rfl) (by kernel_rfl) (by kernel_rfl) (fun _ _ _ h => h) (Or.inl ⟨by rfl, ?_⟩) (by assumption) ?_
              rotate_left
              · intro w hSw; (try dsimp only at hSw); go_simp; try with_reducible rfl
              try simp only [Act.put, List.setIfInBounds_toArray, List.set_cons_zero, List.set_cons_succ]
              refine wpAnyH_ready (rs := [22]) (by kernel_rfl) (by simp) ?_
              refine AllReadyH.cons rfl (fun K hK => ?_) AllReadyH.nil
              refine step_storeRow rfl rfl 25 _ _ rfl wr.heap.size #[.int .i64 0, .int .i64 0, .int .i64 0, .int .i64 0, .int .i64 0, .int .i64 0, .int .i64 0, .string ⟨#[]⟩, .string ⟨#[]⟩] #[.int .i64 3, .int .i64 (2 + (p : Int)), .int .i64 (1 + (q : Int)), .int .i64 1, .int .i64 1, .int .i64 0, .int .i64 0, .string (letB kx), .string ⟨#[]⟩] rfl rfl KO211814 rfl (by kernel_rfl) (by simp [Value.oneCell']) ?_
              have hBz := below_setRow hB211814 (show wr.heap.size ≤ wr.heap.size by first | exact Nat.le_refl _ | (have := hl1.size; simp at this ⊢; omega) | (simp)) #[.int .i64 3, .int .i64 (2 + (p : Int)), .int .i64 (1 + (q : Int)), .int .i64 1, .int .i64 1, .int .i64 0, .int .i64 0, .string (letB kx), .string ⟨#[]⟩]
              refine hK.out _ _ (HSS.out _ hBz) (fun hHeld => ?_)
              clear hK K
              refine wpAnyH_done (by kernel_rfl) (NoPanic.normal ?_) _
              go_wp2_with fail
              go_meet
              case rel => exact ⟨wr.heap.size, rfl, (show wr.heap.size ≤ wr.heap.size by first | exact Nat.le_refl _ | (have := hl1.size; simp at this ⊢; omega) | (simp)), KO211814.setRow _, hBz⟩
            · have hcv := let_conv KR2118 hkx
              go_simp
              refine hK.out _ _ (HSS.out _ hB2118) (fun hHeld => ?_)
              clear hK K
              clear hcv
              refine wpAnyH_ready (rs := [14]) (by kernel_rfl) (by simp) ?_
              refine AllReadyH.cons rfl (fun K hK => ?_) AllReadyH.nil
              go_simp
              refine (CA.out _ _ _).mono ?_
              rintro e w1 ⟨rfl, hb1⟩
              have hB211814 : Below wr.heap.size wr w1 := below_step hB2118 (by first | exact Nat.le_refl _ | (simp; omega) | simp) hb1
              have hl1 := hB211814
              have hBp211814 := hB211814
              have KR211814 : Row8 w1 (wr.heap.size + 1) 1 (fun _ => 97 + kx) := KR2118.below hb1 (by have := KR2118.lt; exact this)
              have KO211814 : Blk w1 25 wr.heap.size #[.int .i64 0, .int .i64 0, .int .i64 0, .int .i64 0, .int .i64 0, .int .i64 0, .int .i64 0, .string ⟨#[]⟩, .string ⟨#[]⟩] := KO2118.on hb1
              refine hK.out _ _ (HSS.out _ hB211814) (fun hHeld => ?_)
              clear hK K
              refine take_at (i := 20) (v := ?_) rfl rfl (by kernel_rfl) (by kernel_rfl) (by kernel_rfl) (fun _ _ _ h => h) (Or.inl ⟨by rfl, ?_⟩) (by assumption) ?_
              rotate_left
              · intro w hSw; (try dsimp only at hSw); go_simp; try with_reducible rfl
              try simp only [Act.put, List.setIfInBounds_toArray, List.set_cons_zero, List.set_cons_succ]
              refine wpAnyH_ready (rs := [22]) (by kernel_rfl) (by simp) ?_
              refine AllReadyH.cons rfl (fun K hK => ?_) AllReadyH.nil
              refine step_storeRow rfl rfl 25 _ _ rfl wr.heap.size #[.int .i64 0, .int .i64 0, .int .i64 0, .int .i64 0, .int .i64 0, .int .i64 0, .int .i64 0, .string ⟨#[]⟩, .string ⟨#[]⟩] #[.int .i64 3, .int .i64 (2 + (p : Int)), .int .i64 (1 + (q : Int)), .int .i64 1, .int .i64 1, .int .i64 0, .int .i64 0, .string (letB kx), .string ⟨#[]⟩] rfl rfl KO211814 rfl (by kernel_rfl) (by simp [Value.oneCell']) ?_
              have hBz := below_setRow hB211814 (show wr.heap.size ≤ wr.heap.size by first | exact Nat.le_refl _ | (have := hl1.size; simp at this ⊢; omega) | (simp)) #[.int .i64 3, .int .i64 (2 + (p : Int)), .int .i64 (1 + (q : Int)), .int .i64 1, .int .i64 1, .int .i64 0, .int .i64 0, .string (letB kx), .string ⟨#[]⟩]
              refine hK.out _ _ (HSS.out _ hBz) (fun hHeld => ?_)
              clear hK K
              refine wpAnyH_done (by kernel_rfl) (NoPanic.normal ?_) _
              go_wp2_with fail
              go_meet
              case rel => exact ⟨wr.heap.size, rfl, (show wr.heap.size ≤ wr.heap.size by first | exact Nat.le_refl _ | (have := hl1.size; simp at this ⊢; omega) | (simp)), KO211814.setRow _, hBz⟩
      case rest =>
        obtain ⟨ho, rfl, hho, hKo, hBo⟩ := hcut
        obtain ⟨⟨nm1, nm2⟩, nm3⟩ := nm
        obtain ⟨⟨vl1, vl2⟩, vl3⟩ := vl
        have HSc : Hid (LaS w wc g f m r T hN hV ((nm1, nm2), nm3) ((vl1, vl2), vl3)) := HS.out.on hBo
        have hoN : ho ≠ hN := by have := HS.out.n.lt; omega
        have hoV : ho ≠ hV := by have := HS.out.v.lt; omega
        have HFo : Hid (∀ j, tfoot g f m r j → j < ho) := fun j hj => by have := HS.out.tr.tree.lt hj; omega
        have hwo : w.heap.size ≤ ho := by have := HS.out.tr.bel.size; omega
        have HKc : Hid (Blk wc 25 ho #[.int .i64 3, .int .i64 (2 + (p : Int)), .int .i64 (1 + (q : Int)), .int .i64 1, .int .i64 1, .int .i64 0, .int .i64 0, .string (letB kx), .string ⟨#[]⟩]) := hKo
        clear HSS hS0 hB hBp hKo hBo HS
        by_cases hbit : bq = 1
        · subst hbit
          have c0 : wc.cell? ⟨ho, 0, none⟩ = some (.int .i64 3) := HKc.out.cell 0
          have c7 : wc.cell? ⟨ho, 7, none⟩ = some (.string (letB kx)) := HKc.out.cell 7
          have z0 : wc.frozen? ⟨ho, 0, none⟩ = false := HKc.out.free 0
          have K1 := HKc.out.setAt 0 (.int .i64 4)
          have c71 : (wc.setCell ⟨ho, 0, none⟩ (.int .i64 4)).cell? ⟨ho, 7, none⟩ = some (.string (letB kx)) := K1.cell 7
          have z71 : (wc.setCell ⟨ho, 0, none⟩ (.int .i64 4)).frozen? ⟨ho, 7, none⟩ = false := K1.free 7
          have K2 := K1.setAt 7 (.string ⟨#[]⟩)
          have c82 : ((wc.setCell ⟨ho, 0, none⟩ (.int .i64 4)).setCell ⟨ho, 7, none⟩ (.string ⟨#[]⟩)).cell? ⟨ho, 8, none⟩ = some (.string ⟨#[]⟩) := K2.cell 8
          have z82 : ((wc.setCell ⟨ho, 0, none⟩ (.int .i64 4)).setCell ⟨ho, 7, none⟩ (.string ⟨#[]⟩)).frozen? ⟨ho, 8, none⟩ = false := K2.free 8
          have K3 := K2.setAt 8 (.string (letB kx))
          obtain ⟨Wo, hWo⟩ : ∃ Wo, ((wc.setCell ⟨ho, 0, none⟩ (.int .i64 4)).setCell ⟨ho, 7, none⟩ (.string ⟨#[]⟩)).setCell ⟨ho, 8, none⟩ (.string (letB kx)) = Wo := ⟨_, rfl⟩
          have HKo : Hid (Blk Wo 25 ho #[.int .i64 4, .int .i64 (2 + (p : Int)), .int .i64 (1 + (q : Int)), .int .i64 1, .int .i64 1, .int .i64 0, .int .i64 0, .string ⟨#[]⟩, .string (letB kx)]) := by show Blk _ _ _ _; rw [← hWo]; exact K3
          have HSo : Hid (LaS w Wo g f m r T hN hV ((nm1, nm2), nm3) ((vl1, vl2), vl3)) := by
            refine HSc.out.other ho (fun j hj => by have := HFo.out j hj; omega) hoN hoV ?_ (fun j hj => ?_)
            · rw [← hWo]
              exact ((HSc.out.tr.bel.setCell (p := ⟨ho, 0, none⟩) hwo _).setCell (p := ⟨ho, 7, none⟩) hwo _).setCell (p := ⟨ho, 8, none⟩) hwo _
            · rw [← hWo, Below.heap_setCell _ _ _ j hj, Below.heap_setCell _ _ _ j hj, Below.heap_setCell _ _ _ j hj]
          have HWo : Hid (((wc.setCell ⟨ho, 0, none⟩ (.int .i64 4)).setCell ⟨ho, 7, none⟩ (.string ⟨#[]⟩)).setCell ⟨ho, 8, none⟩ (.string (letB kx)) = Wo) := hWo
          clear K1 K2 K3 hWo HSc HKc
          -- the world Wo, the operation's block ho: #[.int .i64 4, .int .i64 (2 + (p : Int)), .int .i64 (1 + (q : Int)), .int .i64 1, .int .i64 1, .int .i64 0, .int .i64 0, .string ⟨#[]⟩, .string (letB kx)]; HSo : Hid (LaS w Wo ..); HKo : Hid (Blk Wo .. ho ..)
          have hnx : (applyP M T ((4, (2 + (p : Int), 1 + (q : Int)), (1, 1), (0, 0), ⟨#[]⟩, letB kx) : OpT)).2 = 0 ∧ (((applyP M T ((4, (2 + (p : Int), 1 + (q : Int)), (1, 1), (0, 0), ⟨#[]⟩, letB kx) : OpT)).1 = T) ∨ ((applyP M T ((4, (2 + (p : Int), 1 + (q : Int)), (1, 1), (0, 0), ⟨#[]⟩, letB kx) : OpT)).1.2.1.length = T.2.1.length + 1 ∧ LastS (k + 1) (applyP M T ((4, (2 + (p : Int), 1 + (q : Int)), (1, 1), (0, 0), ⟨#[]⟩, letB kx) : OpT)).1 (if (4 : Int) = 3 ∧ LessS (nm1, nm2) (2 + (p : Int), 1 + (q : Int)) then ((2 + (p : Int), 1 + (q : Int)), ⟨#[]⟩) else ((nm1, nm2), nm3)) (if (4 : Int) = 4 ∧ LessS (vl1, vl2) (2 + (p : Int), 1 + (q : Int)) then ((2 + (p : Int), 1 + (q : Int)), letB kx) else ((vl1, vl2), vl3)))) := HL.out.next (M := M) (by omega) (la4 p q kx) (.inr rfl) rfl ((HM.out _).2 (la4_may p q kx hp hq)) (la_behind p q)
          have hfew := HL.out.few
          have CO1 : Hid (Calls _ _ _ _ _) := ops_any g f m r T Wo HSo.out.tr.tree (by omega)
          have CAp : Hid (∀ W, Tr w W g f m r T → Calls _ _ _ _ _) := fun W hW => apply_tr M HM.out g f m r T (la4 p q kx) w W hW HG.out (by omega) (by show ((⟨#[]⟩ : ByteArray)).size ≤ _; decide) (by show (letB kx).size ≤ _; rw [let_size]; decide)
          simp only [la4, opA] at CAp
          have hfew2 := (apply_few (M := M) (T := T) (la4 p q kx))
          simp only [la4] at hfew2
          obtain ⟨⟨AT, ea⟩, hAT⟩ : ∃ AT, applyP M T (4, (2 + (p : Int), 1 + (q : Int)), (1, 1), (0, 0), ⟨#[]⟩, letB kx) = AT := ⟨_, rfl⟩
          rw [hAT] at CAp hnx hfew2
          simp only at CAp hfew2
          obtain ⟨hea, hnx⟩ := hnx
          obtain rfl : ea = 0 := hea
          obtain ⟨was, hwas⟩ : ∃ was, T.2.1.length = was := ⟨_, rfl⟩
          have HWas : Hid (T.2.1.length = was) := hwas
          have hws : was ≤ 30 := by omega
          obtain ⟨now, hnow⟩ : ∃ now, AT.2.1.length = now := ⟨_, rfl⟩
          have HNow : Hid (AT.2.1.length = now) := hnow
          have hns : now ≤ 40 := by rw [hwas] at hfew; omega
          have CO2 : Hid (∀ r W, TreeIn W g f m r AT → Calls _ _ _ _ _) := fun r W h => ops_any g f m r AT W h (by omega)
          have HNX : Hid ((AT = T) ∨ (AT.2.1.length = T.2.1.length + 1 ∧ LastS (k + 1) AT (if (4 : Int) = 3 ∧ LessS (nm1, nm2) (2 + (p : Int), 1 + (q : Int)) then ((2 + (p : Int), 1 + (q : Int)), ⟨#[]⟩) else ((nm1, nm2), nm3)) (if (4 : Int) = 4 ∧ LessS (vl1, vl2) (2 + (p : Int), 1 + (q : Int)) then ((2 + (p : Int), 1 + (q : Int)), letB kx) else ((vl1, vl2), vl3)))) := hnx
          have o0 : ∀ W, Below Wo.heap.size Wo W → W.cell? ⟨ho, 0, none⟩ = some (.int .i64 4) := fun W hW => (HKo.out.on hW).cell 0
          clear hnx hAT hfew hfew2 hwas hnow
          go_wp2_with fail
          rw [HWo.out]
          refine CO1.out.mono ?_
          rintro e x1 ⟨v1, rfl, hO1, hb1⟩
          obtain ⟨a1, c1, rfl, _, _⟩ := OwnO.ops hO1
          rw [HWas.out]
          have HS1 : Hid (LaS w x1 g f m r T hN hV ((nm1, nm2), nm3) ((vl1, vl2), vl3)) := HSo.out.on hb1
          have HK1 : Hid (Blk x1 25 ho #[.int .i64 4, .int .i64 (2 + (p : Int)), .int .i64 (1 + (q : Int)), .int .i64 1, .int .i64 1, .int .i64 0, .int .i64 0, .string ⟨#[]⟩, .string (letB kx)]) := HKo.out.on hb1
          have CAx : Hid (Calls _ _ _ _ _) := CAp.out x1 HS1.out.tr
          have e0 : x1.cell? ⟨ho, 0, none⟩ = some _ := HK1.out.cell 0
          have e1 : x1.cell? ⟨ho, 1, none⟩ = some _ := HK1.out.cell 1
          have e2 : x1.cell? ⟨ho, 2, none⟩ = some _ := HK1.out.cell 2
          have e3 : x1.cell? ⟨ho, 3, none⟩ = some _ := HK1.out.cell 3
          have e4 : x1.cell? ⟨ho, 4, none⟩ = some _ := HK1.out.cell 4
          have e5 : x1.cell? ⟨ho, 5, none⟩ = some _ := HK1.out.cell 5
          have e6 : x1.cell? ⟨ho, 6, none⟩ = some _ := HK1.out.cell 6
          have e7 : x1.cell? ⟨ho, 7, none⟩ = some _ := HK1.out.cell 7
          have e8 : x1.cell? ⟨ho, 8, none⟩ = some _ := HK1.out.cell 8
          clear CO1 hO1 hb1 HSo HKo CAp o0
          go_wp2_with fail
          refine CAx.out.mono ?_
          rintro e x2 ⟨rfl, r', hT2, hK2, hN2⟩
          have HS2 : Hid (LaS w x2 g f m r' AT hN hV ((nm1, nm2), nm3) ((vl1, vl2), vl3)) := HS1.out.next hT2 hK2 hN2
          have HK2 : Hid (Blk x2 25 ho #[.int .i64 4, .int .i64 (2 + (p : Int)), .int .i64 (1 + (q : Int)), .int .i64 1, .int .i64 1, .int .i64 0, .int .i64 0, .string ⟨#[]⟩, .string (letB kx)]) := HK1.out.keptF hK2 (fun h => by have := HFo.out _ h; omega)
          have CO3 : Hid (Calls _ _ _ _ _) := CO2.out r' x2 hT2
          clear CAx hT2 hK2 hN2 HS1 HK1 CO2 e0 e1 e2 e3 e4 e5 e6 e7 e8
          go_wp2_with fail
          refine CO3.out.mono ?_
          rintro e x3 ⟨v3, rfl, hO3, hb3⟩
          obtain ⟨a3, c3, rfl, _, _⟩ := OwnO.ops hO3
          rw [HNow.out]
          have HS3 : Hid (LaS w x3 g f m r' AT hN hV ((nm1, nm2), nm3) ((vl1, vl2), vl3)) := HS2.out.on hb3
          have HK3 : Hid (Blk x3 25 ho #[.int .i64 4, .int .i64 (2 + (p : Int)), .int .i64 (1 + (q : Int)), .int .i64 1, .int .i64 1, .int .i64 0, .int .i64 0, .string ⟨#[]⟩, .string (letB kx)]) := HK2.out.on hb3
          clear CO3 hO3 hb3 HS2 HK2
          rcases HNX.out with heq | ⟨hlen, hls⟩
          · have b5 : now = was := by rw [← HNow.out, ← HWas.out, heq]
            have b6 : ((now : Int) == (was : Int)) = true := by rw [b5]; simp
            have HL' : Hid (LastS (k + 1) AT ((nm1, nm2), nm3) ((vl1, vl2), vl3)) := by show LastS _ _ _ _; rw [heq]; exact HL.out.more
            clear HNX HL heq
            subst b5
            go_wp2_with fail
            refine ⟨?_, ?_⟩
            · first
              | exact ⟨k + 1, r', AT, ((nm1, nm2), nm3), ((vl1, vl2), vl3), by omega, by go_num, HL', HS3⟩
              | ((repeat apply Exists.intro); refine ⟨?_, rfl⟩; exact ⟨k + 1, r', AT, ((nm1, nm2), nm3), ((vl1, vl2), vl3), by omega, by go_num, HL', HS3⟩)
            · simp [intOf] <;> omega
          · have b5 : ¬ ((now : Int) = (was : Int)) := by rw [HNow.out, HWas.out] at hlen; omega
            have b6 : ((now : Int) == (was : Int)) = false := by simp; omega
            have b7 : ¬ (now = was) := by omega
            have n0' : x3.cell? ⟨hV, 0, none⟩ = some (.int .i64 vl1) := HS3.out.v.cell 0
            have n1' : x3.cell? ⟨hV, 1, none⟩ = some (.int .i64 vl2) := HS3.out.v.cell 1
            have k0' : x3.cell? ⟨ho, 0, none⟩ = some (.int .i64 4) := HK3.out.cell 0
            have k1' : x3.cell? ⟨ho, 1, none⟩ = some (.int .i64 (2 + (p : Int))) := HK3.out.cell 1
            have k2' : x3.cell? ⟨ho, 2, none⟩ = some (.int .i64 (1 + (q : Int))) := HK3.out.cell 2
            clear HNX
            by_cases hless : LessS (vl1, vl2) (2 + (p : Int), 1 + (q : Int))
            · have CL : Hid (∀ W, _) := fun W => rless_any (vl1, vl2) (2 + (p : Int), 1 + (q : Int)) W
              rw [decide_eq_true hless] at CL
              simp only [stampV] at CL
              have HL' : Hid (LastS (k + 1) AT ((nm1, nm2), nm3) (((2 + (p : Int), 1 + (q : Int)), letB kx) : (Int × Int) × ByteArray)) := by
                show LastS _ _ _ _
                rw [if_neg (fun hh => by have := hh.1; omega), if_pos ⟨by first | rfl | trivial, hless⟩] at hls
                exact hls
              clear hls hless HL
              go_wp2_with fail
              refine (CL.out _).mono ?_
              rintro e x4 ⟨rfl, hb4⟩
              have HS4 : Hid (LaS w x4 g f m r' AT hN hV ((nm1, nm2), nm3) ((vl1, vl2), vl3)) := HS3.out.on hb4
              have HK4 : Hid (Blk x4 25 ho #[.int .i64 4, .int .i64 (2 + (p : Int)), .int .i64 (1 + (q : Int)), .int .i64 1, .int .i64 1, .int .i64 0, .int .i64 0, .string ⟨#[]⟩, .string (letB kx)]) := HK3.out.on hb4
              have q0' : x4.cell? ⟨ho, 0, none⟩ = some (.int .i64 4) := HK4.out.cell 0
              have q1' : x4.cell? ⟨ho, 1, none⟩ = some (.int .i64 (2 + (p : Int))) := HK4.out.cell 1
              have q2' : x4.cell? ⟨ho, 2, none⟩ = some (.int .i64 (1 + (q : Int))) := HK4.out.cell 2
              have q7' : x4.cell? ⟨ho, 7, none⟩ = some (.string ⟨#[]⟩) := HK4.out.cell 7
              have q8' : x4.cell? ⟨ho, 8, none⟩ = some (.string (letB kx)) := HK4.out.cell 8
              have X1 : Blk x4 34 hV #[.int .i64 vl1, .int .i64 vl2, .int .i64 0, .int .i64 0, .string ⟨#[]⟩, .string vl3] := HS4.out.v
              clear CL hb4 HS3 HK3 n0' n1' k0' k1' k2'
              go_wp2_with (with_reducible refine wpList_storeBlkH rfl 34 _ _ rfl hV #[.int .i64 vl1, .int .i64 vl2, .int .i64 0, .int .i64 0, .string ⟨#[]⟩, .string vl3] #[.int .i64 (2 + (p : Int)), .int .i64 (1 + (q : Int)), .int .i64 0, .int .i64 0, .string ⟨#[]⟩, .string (letB kx)] ?hx4 ?hy4 X1 rfl ?hi4 ?h14 ?_)
              try (case hx4 => rfl)
              try (case hy4 => rfl)
              try (case hi4 => first | kernel_rfl | (refine Option.map_eq_some_iff.1 (?_ : (Tryd.prog.info? 34).map (·.size) = some 6); kernel_rfl))
              try (case h14 => simp [Value.oneCell'])
              unfold Hid
              have HS5 : Hid (LaS w (x4.setRow hV #[.int .i64 (2 + (p : Int)), .int .i64 (1 + (q : Int)), .int .i64 0, .int .i64 0, .string ⟨#[]⟩, .string (letB kx)]) g f m r' AT hN hV ((nm1, nm2), nm3) (((2 + (p : Int), 1 + (q : Int)), letB kx) : (Int × Int) × ByteArray)) := HS4.out.setV (((2 + (p : Int), 1 + (q : Int)), letB kx) : (Int × Int) × ByteArray)
              have z0' : (x4.setRow hV #[.int .i64 (2 + (p : Int)), .int .i64 (1 + (q : Int)), .int .i64 0, .int .i64 0, .string ⟨#[]⟩, .string (letB kx)]).cell? ⟨ho, 0, none⟩ = some (.int .i64 4) := (HK4.out.setRowOther _ (by omega) _).cell 0
              clear X1 HS4 HK4
              go_wp2_with fail
              refine ⟨?_, ?_⟩
              · first
                | exact ⟨k + 1, r', AT, ((nm1, nm2), nm3), (((2 + (p : Int), 1 + (q : Int)), letB kx) : (Int × Int) × ByteArray), by omega, by go_num, HL', HS5⟩
                | ((repeat apply Exists.intro); refine ⟨?_, rfl⟩; exact ⟨k + 1, r', AT, ((nm1, nm2), nm3), (((2 + (p : Int), 1 + (q : Int)), letB kx) : (Int × Int) × ByteArray), by omega, by go_num, HL', HS5⟩)
              · simp [intOf] <;> omega
            · have CL : Hid (∀ W, _) := fun W => rless_any (vl1, vl2) (2 + (p : Int), 1 + (q : Int)) W
              rw [decide_eq_false hless] at CL
              simp only [stampV] at CL
              have HL' : Hid (LastS (k + 1) AT ((nm1, nm2), nm3) ((vl1, vl2), vl3)) := by
                show LastS _ _ _ _
                rw [if_neg (fun hh => by have := hh.1; omega), if_neg (fun hh => hless hh.2)] at hls
                exact hls
              clear hls hless HL
              go_wp2_with fail
              refine (CL.out _).mono ?_
              rintro e x4 ⟨rfl, hb4⟩
              have HS4 : Hid (LaS w x4 g f m r' AT hN hV ((nm1, nm2), nm3) ((vl1, vl2), vl3)) := HS3.out.on hb4
              have q0' : x4.cell? ⟨ho, 0, none⟩ = some (.int .i64 4) := (HK3.out.on hb4).cell 0
              clear CL hb4 HS3 HK3 n0' n1' k0' k1' k2'
              go_wp2_with fail
              refine ⟨?_, ?_⟩
              · first
                | exact ⟨k + 1, r', AT, ((nm1, nm2), nm3), ((vl1, vl2), vl3), by omega, by go_num, HL', HS4⟩
                | ((repeat apply Exists.intro); refine ⟨?_, rfl⟩; exact ⟨k + 1, r', AT, ((nm1, nm2), nm3), ((vl1, vl2), vl3), by omega, by go_num, HL', HS4⟩)
              · simp [intOf] <;> omega
        · obtain rfl : bq = 0 := by omega
          obtain ⟨Wo, hWo⟩ : ∃ Wo, wc = Wo := ⟨_, rfl⟩
          rw [hWo] at HKc HSc ⊢
          have HKo := HKc
          have HSo := HSc
          clear HKc HSc hWo
          -- the world Wo, the operation's block ho: #[.int .i64 3, .int .i64 (2 + (p : Int)), .int .i64 (1 + (q : Int)), .int .i64 1, .int .i64 1, .int .i64 0, .int .i64 0, .string (letB kx), .string ⟨#[]⟩]; HSo : Hid (LaS w Wo ..); HKo : Hid (Blk Wo .. ho ..)
          have hnx : (applyP M T ((3, (2 + (p : Int), 1 + (q : Int)), (1, 1), (0, 0), letB kx, ⟨#[]⟩) : OpT)).2 = 0 ∧ (((applyP M T ((3, (2 + (p : Int), 1 + (q : Int)), (1, 1), (0, 0), letB kx, ⟨#[]⟩) : OpT)).1 = T) ∨ ((applyP M T ((3, (2 + (p : Int), 1 + (q : Int)), (1, 1), (0, 0), letB kx, ⟨#[]⟩) : OpT)).1.2.1.length = T.2.1.length + 1 ∧ LastS (k + 1) (applyP M T ((3, (2 + (p : Int), 1 + (q : Int)), (1, 1), (0, 0), letB kx, ⟨#[]⟩) : OpT)).1 (if (3 : Int) = 3 ∧ LessS (nm1, nm2) (2 + (p : Int), 1 + (q : Int)) then ((2 + (p : Int), 1 + (q : Int)), letB kx) else ((nm1, nm2), nm3)) (if (3 : Int) = 4 ∧ LessS (vl1, vl2) (2 + (p : Int), 1 + (q : Int)) then ((2 + (p : Int), 1 + (q : Int)), ⟨#[]⟩) else ((vl1, vl2), vl3)))) := HL.out.next (M := M) (by omega) (la3 p q kx) (.inl rfl) rfl ((HM.out _).2 (la3_may p q kx hp hq hkx)) (la_behind p q)
          have hfew := HL.out.few
          have CO1 : Hid (Calls _ _ _ _ _) := ops_any g f m r T Wo HSo.out.tr.tree (by omega)
          have CAp : Hid (∀ W, Tr w W g f m r T → Calls _ _ _ _ _) := fun W hW => apply_tr M HM.out g f m r T (la3 p q kx) w W hW HG.out (by omega) (by show (letB kx).size ≤ _; rw [let_size]; decide) (by show ((⟨#[]⟩ : ByteArray)).size ≤ _; decide)
          simp only [la3, opA] at CAp
          have hfew2 := (apply_few (M := M) (T := T) (la3 p q kx))
          simp only [la3] at hfew2
          obtain ⟨⟨AT, ea⟩, hAT⟩ : ∃ AT, applyP M T (3, (2 + (p : Int), 1 + (q : Int)), (1, 1), (0, 0), letB kx, ⟨#[]⟩) = AT := ⟨_, rfl⟩
          rw [hAT] at CAp hnx hfew2
          simp only at CAp hfew2
          obtain ⟨hea, hnx⟩ := hnx
          obtain rfl : ea = 0 := hea
          obtain ⟨was, hwas⟩ : ∃ was, T.2.1.length = was := ⟨_, rfl⟩
          have HWas : Hid (T.2.1.length = was) := hwas
          have hws : was ≤ 30 := by omega
          obtain ⟨now, hnow⟩ : ∃ now, AT.2.1.length = now := ⟨_, rfl⟩
          have HNow : Hid (AT.2.1.length = now) := hnow
          have hns : now ≤ 40 := by rw [hwas] at hfew; omega
          have CO2 : Hid (∀ r W, TreeIn W g f m r AT → Calls _ _ _ _ _) := fun r W h => ops_any g f m r AT W h (by omega)
          have HNX : Hid ((AT = T) ∨ (AT.2.1.length = T.2.1.length + 1 ∧ LastS (k + 1) AT (if (3 : Int) = 3 ∧ LessS (nm1, nm2) (2 + (p : Int), 1 + (q : Int)) then ((2 + (p : Int), 1 + (q : Int)), letB kx) else ((nm1, nm2), nm3)) (if (3 : Int) = 4 ∧ LessS (vl1, vl2) (2 + (p : Int), 1 + (q : Int)) then ((2 + (p : Int), 1 + (q : Int)), ⟨#[]⟩) else ((vl1, vl2), vl3)))) := hnx
          have o0 : ∀ W, Below Wo.heap.size Wo W → W.cell? ⟨ho, 0, none⟩ = some (.int .i64 3) := fun W hW => (HKo.out.on hW).cell 0
          clear hnx hAT hfew hfew2 hwas hnow
          go_wp2_with fail
          refine CO1.out.mono ?_
          rintro e x1 ⟨v1, rfl, hO1, hb1⟩
          obtain ⟨a1, c1, rfl, _, _⟩ := OwnO.ops hO1
          rw [HWas.out]
          have HS1 : Hid (LaS w x1 g f m r T hN hV ((nm1, nm2), nm3) ((vl1, vl2), vl3)) := HSo.out.on hb1
          have HK1 : Hid (Blk x1 25 ho #[.int .i64 3, .int .i64 (2 + (p : Int)), .int .i64 (1 + (q : Int)), .int .i64 1, .int .i64 1, .int .i64 0, .int .i64 0, .string (letB kx), .string ⟨#[]⟩]) := HKo.out.on hb1
          have CAx : Hid (Calls _ _ _ _ _) := CAp.out x1 HS1.out.tr
          have e0 : x1.cell? ⟨ho, 0, none⟩ = some _ := HK1.out.cell 0
          have e1 : x1.cell? ⟨ho, 1, none⟩ = some _ := HK1.out.cell 1
          have e2 : x1.cell? ⟨ho, 2, none⟩ = some _ := HK1.out.cell 2
          have e3 : x1.cell? ⟨ho, 3, none⟩ = some _ := HK1.out.cell 3
          have e4 : x1.cell? ⟨ho, 4, none⟩ = some _ := HK1.out.cell 4
          have e5 : x1.cell? ⟨ho, 5, none⟩ = some _ := HK1.out.cell 5
          have e6 : x1.cell? ⟨ho, 6, none⟩ = some _ := HK1.out.cell 6
          have e7 : x1.cell? ⟨ho, 7, none⟩ = some _ := HK1.out.cell 7
          have e8 : x1.cell? ⟨ho, 8, none⟩ = some _ := HK1.out.cell 8
          clear CO1 hO1 hb1 HSo HKo CAp o0
          go_wp2_with fail
          refine CAx.out.mono ?_
          rintro e x2 ⟨rfl, r', hT2, hK2, hN2⟩
          have HS2 : Hid (LaS w x2 g f m r' AT hN hV ((nm1, nm2), nm3) ((vl1, vl2), vl3)) := HS1.out.next hT2 hK2 hN2
          have HK2 : Hid (Blk x2 25 ho #[.int .i64 3, .int .i64 (2 + (p : Int)), .int .i64 (1 + (q : Int)), .int .i64 1, .int .i64 1, .int .i64 0, .int .i64 0, .string (letB kx), .string ⟨#[]⟩]) := HK1.out.keptF hK2 (fun h => by have := HFo.out _ h; omega)
          have CO3 : Hid (Calls _ _ _ _ _) := CO2.out r' x2 hT2
          clear CAx hT2 hK2 hN2 HS1 HK1 CO2 e0 e1 e2 e3 e4 e5 e6 e7 e8
          go_wp2_with fail
          refine CO3.out.mono ?_
          rintro e x3 ⟨v3, rfl, hO3, hb3⟩
          obtain ⟨a3, c3, rfl, _, _⟩ := OwnO.ops hO3
          rw [HNow.out]
          have HS3 : Hid (LaS w x3 g f m r' AT hN hV ((nm1, nm2), nm3) ((vl1, vl2), vl3)) := HS2.out.on hb3
          have HK3 : Hid (Blk x3 25 ho #[.int .i64 3, .int .i64 (2 + (p : Int)), .int .i64 (1 + (q : Int)), .int .i64 1, .int .i64 1, .int .i64 0, .int .i64 0, .string (letB kx), .string ⟨#[]⟩]) := HK2.out.on hb3
          clear CO3 hO3 hb3 HS2 HK2
          rcases HNX.out with heq | ⟨hlen, hls⟩
          · have b5 : now = was := by rw [← HNow.out, ← HWas.out, heq]
            have b6 : ((now : Int) == (was : Int)) = true := by rw [b5]; simp
            have HL' : Hid (LastS (k + 1) AT ((nm1, nm2), nm3) ((vl1, vl2), vl3)) := by show LastS _ _ _ _; rw [heq]; exact HL.out.more
            clear HNX HL heq
            subst b5
            go_wp2_with fail
            refine ⟨?_, ?_⟩
            · first
              | exact ⟨k + 1, r', AT, ((nm1, nm2), nm3), ((vl1, vl2), vl3), by omega, by go_num, HL', HS3⟩
              | ((repeat apply Exists.intro); refine ⟨?_, rfl⟩; exact ⟨k + 1, r', AT, ((nm1, nm2), nm3), ((vl1, vl2), vl3), by omega, by go_num, HL', HS3⟩)
            · simp [intOf] <;> omega
          · have b5 : ¬ ((now : Int) = (was : Int)) := by rw [HNow.out, HWas.out] at hlen; omega
            have b6 : ((now : Int) == (was : Int)) = false := by simp; omega
            have b7 : ¬ (now = was) := by omega
            have n0' : x3.cell? ⟨hN, 0, none⟩ = some (.int .i64 nm1) := HS3.out.n.cell 0
            have n1' : x3.cell? ⟨hN, 1, none⟩ = some (.int .i64 nm2) := HS3.out.n.cell 1
            have k0' : x3.cell? ⟨ho, 0, none⟩ = some (.int .i64 3) := HK3.out.cell 0
            have k1' : x3.cell? ⟨ho, 1, none⟩ = some (.int .i64 (2 + (p : Int))) := HK3.out.cell 1
            have k2' : x3.cell? ⟨ho, 2, none⟩ = some (.int .i64 (1 + (q : Int))) := HK3.out.cell 2
            clear HNX
            by_cases hless : LessS (nm1, nm2) (2 + (p : Int), 1 + (q : Int))
            · have CL : Hid (∀ W, _) := fun W => rless_any (nm1, nm2) (2 + (p : Int), 1 + (q : Int)) W
              rw [decide_eq_true hless] at CL
              simp only [stampV] at CL
              have HL' : Hid (LastS (k + 1) AT (((2 + (p : Int), 1 + (q : Int)), letB kx) : (Int × Int) × ByteArray) ((vl1, vl2), vl3)) := by
                show LastS _ _ _ _
                rw [if_pos ⟨by first | rfl | trivial, hless⟩, if_neg (fun hh => by have := hh.1; omega)] at hls
                exact hls
              clear hls hless HL
              go_wp2_with fail
              refine (CL.out _).mono ?_
              rintro e x4 ⟨rfl, hb4⟩
              have HS4 : Hid (LaS w x4 g f m r' AT hN hV ((nm1, nm2), nm3) ((vl1, vl2), vl3)) := HS3.out.on hb4
              have HK4 : Hid (Blk x4 25 ho #[.int .i64 3, .int .i64 (2 + (p : Int)), .int .i64 (1 + (q : Int)), .int .i64 1, .int .i64 1, .int .i64 0, .int .i64 0, .string (letB kx), .string ⟨#[]⟩]) := HK3.out.on hb4
              have q0' : x4.cell? ⟨ho, 0, none⟩ = some (.int .i64 3) := HK4.out.cell 0
              have q1' : x4.cell? ⟨ho, 1, none⟩ = some (.int .i64 (2 + (p : Int))) := HK4.out.cell 1
              have q2' : x4.cell? ⟨ho, 2, none⟩ = some (.int .i64 (1 + (q : Int))) := HK4.out.cell 2
              have q7' : x4.cell? ⟨ho, 7, none⟩ = some (.string (letB kx)) := HK4.out.cell 7
              have q8' : x4.cell? ⟨ho, 8, none⟩ = some (.string ⟨#[]⟩) := HK4.out.cell 8
              have X1 : Blk x4 34 hN #[.int .i64 nm1, .int .i64 nm2, .int .i64 0, .int .i64 0, .string nm3, .string ⟨#[]⟩] := HS4.out.n
              clear CL hb4 HS3 HK3 n0' n1' k0' k1' k2'
              go_wp2_with (with_reducible refine wpList_storeBlkH rfl 34 _ _ rfl hN #[.int .i64 nm1, .int .i64 nm2, .int .i64 0, .int .i64 0, .string nm3, .string ⟨#[]⟩] #[.int .i64 (2 + (p : Int)), .int .i64 (1 + (q : Int)), .int .i64 0, .int .i64 0, .string (letB kx), .string ⟨#[]⟩] ?hx3 ?hy3 X1 rfl ?hi3 ?h13 ?_)
              try (case hx3 => rfl)
              try (case hy3 => rfl)
              try (case hi3 => first | kernel_rfl | (refine Option.map_eq_some_iff.1 (?_ : (Tryd.prog.info? 34).map (·.size) = some 6); kernel_rfl))
              try (case h13 => simp [Value.oneCell'])
              unfold Hid
              have HS5 : Hid (LaS w (x4.setRow hN #[.int .i64 (2 + (p : Int)), .int .i64 (1 + (q : Int)), .int .i64 0, .int .i64 0, .string (letB kx), .string ⟨#[]⟩]) g f m r' AT hN hV (((2 + (p : Int), 1 + (q : Int)), letB kx) : (Int × Int) × ByteArray) ((vl1, vl2), vl3)) := HS4.out.setN (((2 + (p : Int), 1 + (q : Int)), letB kx) : (Int × Int) × ByteArray)
              have z0' : (x4.setRow hN #[.int .i64 (2 + (p : Int)), .int .i64 (1 + (q : Int)), .int .i64 0, .int .i64 0, .string (letB kx), .string ⟨#[]⟩]).cell? ⟨ho, 0, none⟩ = some (.int .i64 3) := (HK4.out.setRowOther _ (by omega) _).cell 0
              clear X1 HS4 HK4
              go_wp2_with fail
              refine ⟨?_, ?_⟩
              · first
                | exact ⟨k + 1, r', AT, (((2 + (p : Int), 1 + (q : Int)), letB kx) : (Int × Int) × ByteArray), ((vl1, vl2), vl3), by omega, by go_num, HL', HS5⟩
                | ((repeat apply Exists.intro); refine ⟨?_, rfl⟩; exact ⟨k + 1, r', AT, (((2 + (p : Int), 1 + (q : Int)), letB kx) : (Int × Int) × ByteArray), ((vl1, vl2), vl3), by omega, by go_num, HL', HS5⟩)
              · simp [intOf] <;> omega
            · have CL : Hid (∀ W, _) := fun W => rless_any (nm1, nm2) (2 + (p : Int), 1 + (q : Int)) W
              rw [decide_eq_false hless] at CL
              simp only [stampV] at CL
              have HL' : Hid (LastS (k + 1) AT ((nm1, nm2), nm3) ((vl1, vl2), vl3)) := by
                show LastS _ _ _ _
                rw [if_neg (fun hh => hless hh.2), if_neg (fun hh => by have := hh.1; omega)] at hls
                exact hls
              clear hls hless HL
              go_wp2_with fail
              refine (CL.out _).mono ?_
              rintro e x4 ⟨rfl, hb4⟩
              have HS4 : Hid (LaS w x4 g f m r' AT hN hV ((nm1, nm2), nm3) ((vl1, vl2), vl3)) := HS3.out.on hb4
              have q0' : x4.cell? ⟨ho, 0, none⟩ = some (.int .i64 3) := (HK3.out.on hb4).cell 0
              clear CL hb4 HS3 HK3 n0' n1' k0' k1' k2'
              go_wp2_with fail
              refine ⟨?_, ?_⟩
              · first
                | exact ⟨k + 1, r', AT, ((nm1, nm2), nm3), ((vl1, vl2), vl3), by omega, by go_num, HL', HS4⟩
                | ((repeat apply Exists.intro); refine ⟨?_, rfl⟩; exact ⟨k + 1, r', AT, ((nm1, nm2), nm3), ((vl1, vl2), vl3), by omega, by go_num, HL', HS4⟩)
              · simp [intOf] <;> omega
    · obtain rfl : k = n := by omega
      have b0 : ¬ ((k : Int) < (k : Int)) := by omega
      obtain ⟨⟨nm1, nm2⟩, nm3⟩ := nm
      obtain ⟨⟨vl1, vl2⟩, vl3⟩ := vl
      have hlk := last_look HL.out
      have CG : Hid (∀ W, Tr w W g f m r T → Calls _ _ _ _ _) := fun W hW => get_any g f m r T (1, 1) W hW.tree (by have := HL.out.few; omega)
      rw [hlk] at CG
      simp only [stampV, Option.getD_some, Option.isSome_some, nodeV, nodeA] at CG
      clear hlk HL
      go_wp2_with fail
      refine (CA.out _ _ _).mono ?_
      rintro e x1 ⟨rfl, hb1⟩
      have HS1 : Hid (LaS w x1 g f m r T hN hV ((nm1, nm2), nm3) ((vl1, vl2), vl3)) := HS.out.on hb1
      have CGx : Hid (Calls _ _ _ _ _) := CG.out x1 HS1.out.tr
      clear hb1 HS CG
      go_wp2_with fail
      refine CGx.out.mono ?_
      rintro e x2 ⟨rfl, hT2, hK2⟩
      have HS2 : Hid (LaS w x2 g f m r T hN hV ((nm1, nm2), nm3) ((vl1, vl2), vl3)) := HS1.out.next hT2 hK2 (Nx.refl _ _)
      have m4 : ∀ o, (x2.alloc o).cell? ⟨hN, 4, none⟩ = some (.string nm3) := fun o => (HS2.out.n.on (below_new x2 o)).cell 4
      have v5 : ∀ o, (x2.alloc o).cell? ⟨hV, 5, none⟩ = some (.string vl3) := fun o => (HS2.out.v.on (below_new x2 o)).cell 5
      have HBn : Hid (∀ o, Below w.heap.size w (x2.alloc o)) := fun o => below_step HS2.out.tr.bel (Nat.le_refl _) (below_new x2 o)
      clear CGx hT2 hK2 HS1 HS2
      have CWx : Hid (∀ o, Calls Tryd.prog 13 #[] (x2.alloc o) fun e w' => e = .returned (.bool true) ∧ Below (x2.alloc o).heap.size (x2.alloc o) w') := fun o => CW.out _ (HBn.out o)
      clear CW
      have s1 : (nm3.toList == nm3.toList) = true := by simp
      have s2 : (vl3.toList == vl3.toList) = true := by simp
      go_wp2_with fail
      refine (CWx.out _).mono ?_
      rintro e x5 ⟨rfl, hb5⟩
      have hB5 := below_step (HBn.out _) (Nat.le_refl _) hb5
      clear CWx hb5
      go_wp2_with fail
      go_ret
      exact ⟨rfl, hB5⟩
end Go.Proofs.YtmfckdhincffkabDoor
