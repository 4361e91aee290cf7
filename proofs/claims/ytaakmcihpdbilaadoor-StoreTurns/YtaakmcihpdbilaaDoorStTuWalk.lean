/- StoreTurns, walked over the contracts of the code's store. -/
import Derived.Test.YtaakmcihpdbilaaDoorSI
namespace Go.Proofs.YtaakmcihpdbilaaDoor
open Go.RowKit
set_option maxRecDepth 100000
set_option linter.unusedSimpArgs false
set_option maxRecDepth 100000
variable {StAt : World → (Nat → Prop) → Nat → Nat → StoT → Prop}

/-- A device of 16 blocks on which k texts were laid. -/
structure TuP (k : Nat) (D : DevT) (X : StoT) : Prop where
  d : DvO 16 (1024 * k) D
  o : OnD D
  m : StM 16 X
  t : X.2.2.1 = (k : Int)
  f : (k = 0 ∧ D = newB 16 ∧ X = zeroT) ∨ ∃ wh, Fresh D.1 X wh
theorem TuP.zero : TuP 0 (newB 16) zeroT := ⟨(newB_dv 16).mono (by decide), newB_on 16, stM_zero 16, rfl, .inl ⟨rfl, rfl, rfl⟩⟩
theorem TuP.step {k : Nat} {D : DevT} {X : StoT} (h : TuP k D X) (hk : k < 1000) (t : ByteArray) (ht : t.size ≤ 300) :
    (layS D X t).2.2 = 0 ∧ (layS D X t).2.1 = (t, [], ((k + 1 : Nat) : Int), txB t) ∧ openP (layS D X t).1.1 = (t, [], ((k + 1 : Nat) : Int), txB t) ∧ TuP (k + 1) (layS D X t).1 (t, [], ((k + 1 : Nat) : Int), txB t) := by
  have ht1 := h.t
  obtain ⟨l1, l2⟩ := lay_on D X t h.o (by omega) (by rw [ht1]; omega) (by rw [h.d.len]; omega)
  have d1 := h.d.lay X t (by decide)
  have s1 := stM_lay D X t (by rw [h.d.len]; exact h.m)
  rw [h.d.len] at s1
  have hX : (layS D X t).2.1 = (t, [], X.2.2.1 + 1, txB t) ∧ ∃ wh, Fresh (layS D X t).1.1 (layS D X t).2.1 wh := by
    rcases h.f with ⟨_, rfl, rfl⟩ | ⟨wh, F⟩
    · obtain ⟨a, b⟩ := lay_first (newB 16) t (by rw [newB_len]; decide) (by rw [newB_len]; decide) (newB_noughts 16) l1
      exact ⟨a, 1, b⟩
    · obtain ⟨a, b⟩ := (before_lay D X t wh F).1 l1
      exact ⟨a, _, b⟩
  obtain ⟨e1, wh, F⟩ := hX
  rw [show X.2.2.1 + 1 = ((k + 1 : Nat) : Int) by rw [ht1]; omega] at e1
  rw [e1] at F s1
  exact ⟨l1, e1, F.open, ⟨d1.mono (by omega), l2, s1, rfl, .inr ⟨wh, F⟩⟩⟩

set_option maxHeartbeats 8000000 in
theorem storeTurns_walk (w : World) (C : Sto18 StAt w) (a : Option Addr) (len cap : Nat) (l : List ByteArray) (hl : StrsAt w a len l) (hlen : len ≤ maxLen) (hsz : ∀ i, (strL l i).size ≤ maxLen) :
    Calls Tryd.prog 4 #[.slice a len cap] w fun e w' => e = .returned (.bool true) ∧ Below w.heap.size w w' := by
  have HL : Hid (StrsAt w a len l) := hl
  have HLen : Hid (len ≤ maxLen) := hlen
  have HSz : Hid (∀ i, (strL l i).size ≤ maxLen) := hsz
  clear hl hlen hsz
  have CN := dnew_any 16 w ⟨by decide, by decide⟩
  go_enter Tryd.func4, Tryd.ntmps4
  go_wp2_with fail
  refine CN.mono ?_
  rintro e w1 ⟨g, b, rfl, hd, hg, hb, hB⟩
  have A1 : Hid (DevB w w1 g b (newB 16)) := ⟨hd, hg, hb, hB⟩
  clear CN hd hg hb hB
  go_wp2_with fail
  refine (C.opens _ g b _ A1.out.2.2.2 A1.out.1 (by rw [newB_len]; decide) (by rw [newB_len]; decide) rfl).mono ?_
  rintro e w2 ⟨gs, S, rfl, hs, hn, hb⟩
  rw [open_new 16 (by decide)] at hs
  have L2 : Hid (LwS StAt w w2 S gs g b (newB 16) zeroT) := LwS.anew A1.out hs hn hb
  clear A1 hs hn hb
  by_cases h40 : 40 < len
  · have q0 : (40 : Int) < (len : Int) := by omega
    go_wp2_with fail
    refine (awake18_any _ (C.move L2.out.d.2.2.2)).mono ?_
    rintro e w3 ⟨rfl, hb3⟩
    have hB := below_step L2.out.d.2.2.2 (Nat.le_refl _) hb3
    go_wp2
    go_ret
    exact ⟨rfl, hB⟩
  · have q0 : ¬ ((40 : Int) < (len : Int)) := by omega
    go_wp2_with fail
    go_loopw [5, 7] (fun cs c wr => ∃ (k gs : Nat) (S : Nat → Prop) (D : DevT) (X : StoT), k ≤ len ∧ cs = .pointer (some ⟨gs, 0, none⟩) ∧ c = .int .i64 k ∧ Hid (LwS StAt w wr S gs g b D X) ∧ Hid (TuP k D X)) (fun _ c _ => len - (intOf c).toNat)
    case atStart => exact ⟨0, gs, S, _, _, Nat.zero_le _, rfl, rfl, L2, TuP.zero⟩
    case round =>
      clear L2
      obtain ⟨k, gs, S, D, X, hk, rfl, rfl, HS, HP⟩ := hrel
      by_cases hlt : k < len
      · have d0 : (k : Int) < (len : Int) := by omega
        obtain ⟨lb, off, rfl, hcl⟩ : ∃ lb off, a = some ⟨lb, off, none⟩ ∧ ∀ i, i < len → w.cell? ⟨lb, off + i, none⟩ = some (.string (strL l i)) := by
          rcases HL.out.2 with h | h
          · omega
          · exact h
        have q1 := hcl k hlt
        obtain ⟨t, ht⟩ : ∃ t, strL l k = t := ⟨_, rfl⟩
        have hts := HSz.out k
        rw [ht] at q1 hts
        have HC : Hid (∀ w', Below w.heap.size w w' → w'.cell? ⟨lb, off + k, none⟩ = some (.string t)) := fun w' hb => by rw [hb.cell (World.block_lt_of_cell? w _ q1)]; exact q1
        have c0 := HC.out _ HS.out.d.2.2.2
        clear hcl q1 ht
        by_cases h300 : 300 < t.size
        · have s0 : (300 : Int) < (t.size : Int) := by omega
          go_wp2_with fail
          refine (awake18_any _ (C.move HS.out.d.2.2.2)).mono ?_
          rintro e w3 ⟨rfl, hb3⟩
          have hB := below_step HS.out.d.2.2.2 (Nat.le_refl _) hb3
          go_wp2
          go_ret
          exact ⟨rfl, hB⟩
        · have s0 : ¬ ((300 : Int) < (t.size : Int)) := by omega
          obtain ⟨p1, p2, p3, p4⟩ := HP.out.step (by omega) t (by omega)
          have CL := C.lay _ S gs g b D X t 16 _ HS.out.d.2.2.2 HS.out.s HS.out.d.1 HP.out.d HP.out.m (by decide) (by decide) (by omega) HS.out.ng HS.out.nb
          rw [p1] at CL
          go_wp2_with fail
          refine CL.mono ?_
          clear CL
          rintro e w3 ⟨rfl, hd, hk3, _⟩
          have A3 : Hid (DevB w w3 g b (layS D X t).1) := HS.out.call hd hk3
          have HP4 : Hid (TuP (k + 1) (layS D X t).1 (t, [], ((k + 1 : Nat) : Int), txB t)) := p4
          have HP3 : Hid (openP (layS D X t).1.1 = (t, [], ((k + 1 : Nat) : Int), txB t)) := p3
          clear HS HP hd hk3 p1 p2 p3 p4 c0
          generalize (layS D X t).1 = D3 at *
          go_wp2_with fail
          refine (C.opens _ g b _ A3.out.2.2.2 A3.out.1 (by rw [HP4.out.d.len]; decide) (by rw [HP4.out.d.len]; decide) HP4.out.o.1).mono ?_
          rintro e w4 ⟨gt, S4, rfl, hs, hn, hb⟩
          rw [HP3.out] at hs
          have L4 : Hid (LwS StAt w w4 S4 gt g b D3 (t, [], ((k + 1 : Nat) : Int), txB t)) := LwS.anew A3.out hs hn hb
          clear A3 hs hn hb HP3
          have hS0 := HC.out _ L4.out.d.2.2.2.drew
          have eT : (t.toList == t.toList) = true := beq_self_eq_true _
          have eT2 : (t.toList != t.toList) = false := by rw [bne_eq_false_iff_eq]
          have wk : IntKind.i64.wrap ((k : Int) + 1) = ((k + 1 : Nat) : Int) := by rw [IntKind.wrap_i64]; omega
          have eK : (((k + 1 : Nat) : Int) != ((k + 1 : Nat) : Int)) = false := by rw [bne_eq_false_iff_eq]
          go_wp2_with fail
          refine wp_region_noPanic ?_
          refine wp_region_held_drew (S := fun w' => w'.cell? ⟨lb, off + k, none⟩ = some (.string t)) (by kernel_rfl) (by first | exact trivial | assumption | exact ⟨by assumption, by assumption⟩) (fun hHeld => ?_)
          refine take_at (i := 0) (v := ?_) rfl rfl (by kernel_rfl) (by kernel_rfl) (by kernel_rfl) (fun _ _ _ h => h) (Or.inl ⟨by rfl, ?_⟩) (by assumption) ?_
          rotate_left
          · intro w hSw; (try dsimp only at hSw); go_simp; try with_reducible rfl
          try simp only [Act.put, List.setIfInBounds_toArray, List.set_cons_zero, List.set_cons_succ]
          refine take_at (i := 1) (v := ?_) rfl rfl (by kernel_rfl) (by kernel_rfl) (by kernel_rfl) (fun _ _ _ h => h) (Or.inl ⟨by rfl, ?_⟩) (by assumption) ?_
          rotate_left
          · intro w hSw; (try dsimp only at hSw); go_simp; try with_reducible rfl
          try simp only [Act.put, List.setIfInBounds_toArray, List.set_cons_zero, List.set_cons_succ]
          refine take_at (i := 2) (v := ?_) rfl rfl (by kernel_rfl) (by kernel_rfl) (by kernel_rfl) (fun _ _ _ h => h) (Or.inl ⟨by rfl, ?_⟩) (by assumption) ?_
          rotate_left
          · intro w hSw; (try dsimp only at hSw); go_simp; try with_reducible rfl
          try simp only [Act.put, List.setIfInBounds_toArray, List.set_cons_zero, List.set_cons_succ]
          refine take_at (i := 3) (v := ?_) rfl rfl (by kernel_rfl) (by kernel_rfl) (by kernel_rfl) (fun _ _ _ h => h) (Or.inl ⟨by rfl, ?_⟩) (by assumption) ?_
          rotate_left
          · intro w hSw; (try dsimp only at hSw); go_simp; try with_reducible rfl
          try simp only [Act.put, List.setIfInBounds_toArray, List.set_cons_zero, List.set_cons_succ]
          refine take_at (i := 4) (v := ?_) rfl rfl (by kernel_rfl) (by kernel_rfl) (by kernel_rfl) (fun _ _ _ h => h) (Or.inl ⟨by rfl, ?_⟩) (by assumption) ?_
          rotate_left
          · intro w hSw; (try dsimp only at hSw); go_simp; try with_reducible rfl
          try simp only [Act.put, List.setIfInBounds_toArray, List.set_cons_zero, List.set_cons_succ]
          refine take_at (i := 5) (v := ?_) rfl rfl (by kernel_rfl) (by kernel_rfl) (by kernel_rfl) (fun _ _ _ h => h) (Or.inl ⟨by rfl, ?_⟩) (by assumption) ?_
          rotate_left
          · intro w hSw; (try dsimp only at hSw); go_simp; try with_reducible rfl
          try simp only [Act.put, List.setIfInBounds_toArray, List.set_cons_zero, List.set_cons_succ]
          refine take_at (i := 6) (v := ?_) rfl rfl (by kernel_rfl) (by kernel_rfl) (by kernel_rfl) (fun _ _ _ h => h) (Or.inl ⟨by rfl, ?_⟩) (by assumption) ?_
          rotate_left
          · intro w hSw; (try dsimp only at hSw); go_simp; try with_reducible rfl
          try simp only [Act.put, List.setIfInBounds_toArray, List.set_cons_zero, List.set_cons_succ]
          refine take_at (i := 7) (v := ?_) rfl rfl (by kernel_rfl) (by kernel_rfl) (by kernel_rfl) (fun _ _ _ h => h) (Or.inl ⟨by rfl, ?_⟩) (by assumption) ?_
          rotate_left
          · intro w hSw; (try dsimp only at hSw); go_simp; try with_reducible rfl
          try simp only [Act.put, List.setIfInBounds_toArray, List.set_cons_zero, List.set_cons_succ]
          refine take_at (i := 9) (v := ?_) rfl rfl (by kernel_rfl) (by kernel_rfl) (by kernel_rfl) (fun _ _ _ h => h) (Or.inl ⟨by rfl, ?_⟩) (by assumption) ?_
          rotate_left
          · intro w hSw; (try dsimp only at hSw); go_simp; try with_reducible rfl
          try simp only [Act.put, List.setIfInBounds_toArray, List.set_cons_zero, List.set_cons_succ]
          refine take_at (i := 10) (v := ?_) rfl rfl (by kernel_rfl) (by kernel_rfl) (by kernel_rfl) (fun _ _ _ h => h) (Or.inl ⟨by rfl, ?_⟩) (by assumption) ?_
          rotate_left
          · intro w hSw; (try dsimp only at hSw); go_simp; try with_reducible rfl
          try simp only [Act.put, List.setIfInBounds_toArray, List.set_cons_zero, List.set_cons_succ]
          refine take_at (i := 11) (v := ?_) rfl rfl (by kernel_rfl) (by kernel_rfl) (by kernel_rfl) (fun _ _ _ h => h) (Or.inl ⟨by rfl, ?_⟩) (by assumption) ?_
          rotate_left
          · intro w hSw; (try dsimp only at hSw); go_simp; try with_reducible rfl
          try simp only [Act.put, List.setIfInBounds_toArray, List.set_cons_zero, List.set_cons_succ]
          refine take_at (i := 12) (v := ?_) rfl rfl (by kernel_rfl) (by kernel_rfl) (by kernel_rfl) (fun _ _ _ h => h) (Or.inl ⟨by rfl, ?_⟩) (by assumption) ?_
          rotate_left
          · intro w hSw; (try dsimp only at hSw); go_simp; try with_reducible rfl
          try simp only [Act.put, List.setIfInBounds_toArray, List.set_cons_zero, List.set_cons_succ]
          refine wpAnyH_ready (rs := [8]) (by kernel_rfl) (by simp) ?_
          refine AllReadyH.cons rfl (fun K hK => ?_) AllReadyH.nil
          go_simp
          refine (C.base _ _ _ _ _ (L4.out.on C (Below.refl _ _).drew).s).mono ?_
          rintro e w5 ⟨rfl, hb5⟩
          have L5 : Hid (LwS StAt w w5 S4 gt g b D3 (t, [], ((k + 1 : Nat) : Int), txB t)) := (L4.out.on C (Below.refl _ _).drew).on C hb5
          clear L4 hb5
          refine hK.out _ _ (HC.out _ L5.out.d.2.2.2) (fun hHeld => ?_)
          clear hK K
          refine take_at (i := 13) (v := ?_) rfl rfl (by kernel_rfl) (by kernel_rfl) (by kernel_rfl) (fun _ _ _ h => h) (Or.inl ⟨by rfl, ?_⟩) (by assumption) ?_
          rotate_left
          · intro w hSw; (try dsimp only at hSw); go_simp; try with_reducible rfl
          try simp only [Act.put, List.setIfInBounds_toArray, List.set_cons_zero, List.set_cons_succ]
          refine take_at (i := 14) (v := ?_) rfl rfl (by kernel_rfl) (by kernel_rfl) (by kernel_rfl) (fun _ _ _ h => h) (Or.inl ⟨by rfl, ?_⟩) (by assumption) ?_
          rotate_left
          · intro w hSw; (try dsimp only at hSw); go_simp; try with_reducible rfl
          try simp only [Act.put, List.setIfInBounds_toArray, List.set_cons_zero, List.set_cons_succ]
          refine take_at (i := 15) (v := ?_) rfl rfl (by kernel_rfl) (by kernel_rfl) (by kernel_rfl) (fun _ _ _ h => h) (Or.inl ⟨by rfl, ?_⟩) (by assumption) ?_
          rotate_left
          · intro w hSw; (try dsimp only at hSw); go_simp; try with_reducible rfl
          try simp only [Act.put, List.setIfInBounds_toArray, List.set_cons_zero, List.set_cons_succ]
          refine take_at (i := 16) (v := ?_) rfl rfl (by kernel_rfl) (by kernel_rfl) (by kernel_rfl) (fun _ _ _ h => h) (Or.inl ⟨by rfl, ?_⟩) (by assumption) ?_
          rotate_left
          · intro w hSw; (try dsimp only at hSw); go_simp; try with_reducible rfl
          try simp only [Act.put, List.setIfInBounds_toArray, List.set_cons_zero, List.set_cons_succ]
          refine wpAnyH_ready (rs := [17]) (by kernel_rfl) (by simp) ?_
          refine AllReadyH.cons rfl (fun K hK => ?_) AllReadyH.nil
          go_simp
          refine (C.behind _ _ _ _ _ L5.out.s).mono ?_
          rintro e w6 ⟨ab, cb, rfl, _, _, hb6⟩
          have L6 : Hid (LwS StAt w w6 S4 gt g b D3 (t, [], ((k + 1 : Nat) : Int), txB t)) := L5.out.on C hb6
          clear L5 hb6
          refine hK.out _ _ (HC.out _ L6.out.d.2.2.2) (fun hHeld => ?_)
          clear hK K
          refine take_at (i := 18) (v := ?_) rfl rfl (by kernel_rfl) (by kernel_rfl) (by kernel_rfl) (fun _ _ _ h => h) (Or.inl ⟨by rfl, ?_⟩) (by assumption) ?_
          rotate_left
          · intro w hSw; (try dsimp only at hSw); go_simp; try with_reducible rfl
          try simp only [Act.put, List.setIfInBounds_toArray, List.set_cons_zero, List.set_cons_succ]
          refine take_at (i := 19) (v := ?_) rfl rfl (by kernel_rfl) (by kernel_rfl) (by kernel_rfl) (fun _ _ _ h => h) (Or.inl ⟨by rfl, ?_⟩) (by assumption) ?_
          rotate_left
          · intro w hSw; (try dsimp only at hSw); go_simp; try with_reducible rfl
          try simp only [Act.put, List.setIfInBounds_toArray, List.set_cons_zero, List.set_cons_succ]
          refine take_at (i := 20) (v := ?_) rfl rfl (by kernel_rfl) (by kernel_rfl) (by kernel_rfl) (fun _ _ _ h => h) (Or.inl ⟨by rfl, ?_⟩) (by assumption) ?_
          rotate_left
          · intro w hSw; (try dsimp only at hSw); go_simp; try with_reducible rfl
          try simp only [Act.put, List.setIfInBounds_toArray, List.set_cons_zero, List.set_cons_succ]
          refine take_at (i := 21) (v := ?_) rfl rfl (by kernel_rfl) (by kernel_rfl) (by kernel_rfl) (fun _ _ _ h => h) (Or.inl ⟨by rfl, ?_⟩) (by assumption) ?_
          rotate_left
          · intro w hSw; (try dsimp only at hSw); go_simp; try with_reducible rfl
          try simp only [Act.put, List.setIfInBounds_toArray, List.set_cons_zero, List.set_cons_succ]
          refine take_at (i := 22) (v := ?_) rfl rfl (by kernel_rfl) (by kernel_rfl) (by kernel_rfl) (fun _ _ _ h => h) (Or.inl ⟨by rfl, ?_⟩) (by assumption) ?_
          rotate_left
          · intro w hSw; (try dsimp only at hSw); go_simp; try with_reducible rfl
          try simp only [Act.put, List.setIfInBounds_toArray, List.set_cons_zero, List.set_cons_succ]
          refine take_at (i := 24) (v := ?_) rfl rfl (by kernel_rfl) (by kernel_rfl) (by kernel_rfl) (fun _ _ _ h => h) (Or.inl ⟨by rfl, ?_⟩) (by assumption) ?_
          rotate_left
          · intro w hSw; (try dsimp only at hSw); go_simp; try with_reducible rfl
          try simp only [Act.put, List.setIfInBounds_toArray, List.set_cons_zero, List.set_cons_succ]
          refine take_at (i := 25) (v := ?_) rfl rfl (by kernel_rfl) (by kernel_rfl) (by kernel_rfl) (fun _ _ _ h => h) (Or.inl ⟨by rfl, ?_⟩) (by assumption) ?_
          rotate_left
          · intro w hSw; (try dsimp only at hSw); go_simp; try with_reducible rfl
          try simp only [Act.put, List.setIfInBounds_toArray, List.set_cons_zero, List.set_cons_succ]
          refine wpAnyH_ready (rs := [23]) (by kernel_rfl) (by simp) ?_
          refine AllReadyH.cons rfl (fun K hK => ?_) AllReadyH.nil
          go_simp
          refine (C.turn _ _ _ _ _ L6.out.s).mono ?_
          rintro e w7 ⟨rfl, hb7⟩
          have L7 : Hid (LwS StAt w w7 S4 gt g b D3 (t, [], ((k + 1 : Nat) : Int), txB t)) := L6.out.on C hb7
          clear L6 hb7
          refine hK.out _ _ (HC.out _ L7.out.d.2.2.2) (fun hHeld => ?_)
          clear hK K
          refine take_at (i := 26) (v := ?_) rfl rfl (by kernel_rfl) (by kernel_rfl) (by kernel_rfl) (fun _ _ _ h => h) (Or.inl ⟨by rfl, ?_⟩) (by assumption) ?_
          rotate_left
          · intro w hSw; (try dsimp only at hSw); go_simp; try with_reducible rfl
          try simp only [Act.put, List.setIfInBounds_toArray, List.set_cons_zero, List.set_cons_succ]
          refine take_at (i := 27) (v := ?_) rfl rfl (by kernel_rfl) (by kernel_rfl) (by kernel_rfl) (fun _ _ _ h => h) (Or.inl ⟨by rfl, ?_⟩) (by assumption) ?_
          rotate_left
          · intro w hSw; (try dsimp only at hSw); go_simp; try with_reducible rfl
          try simp only [Act.put, List.setIfInBounds_toArray, List.set_cons_zero, List.set_cons_succ]
          refine wpAnyH_done (by kernel_rfl) (NoPanic.normal ?_) _
          go_wp2_with fail
          refine ⟨⟨k + 1, gt, S4, D3, _, by omega, rfl, by go_num, L7, HP4⟩, ?_⟩
          simp [intOf]; omega
      · have d0 : ¬ ((k : Int) < (len : Int)) := by omega
        go_wp2_with fail
        refine (awake18_any _ (C.move HS.out.d.2.2.2)).mono ?_
        rintro e w3 ⟨rfl, hb3⟩
        have hB := below_step HS.out.d.2.2.2 (Nat.le_refl _) hb3
        go_wp2
        go_ret
        exact ⟨rfl, hB⟩

end Go.Proofs.YtaakmcihpdbilaaDoor
