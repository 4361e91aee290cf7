/- Layer 21, the code: give. -/
import Derived.Test.YtkmdajenbidaaaaRE1
import Derived.Test.YtkmdajenbidaaaaRH1
namespace Go.Proofs.Ytkmdajenbidaaaa
open Go.RowKit
set_option maxRecDepth 100000
set_option linter.unusedSimpArgs false
set_option linter.unusedVariables false

/-- What a frame's doing leaves: the answer, but for the group, and the relay. -/
def DoTo (w : World) (g : Nat) (v : Value) (X : RlT) (A : FrmT) (e : Ending) (w' : World) : Prop :=
  ∃ a c, e = .returned (.agg (frmA A a c)) ∧ ItsAt w' a A.2.2.2.2.2.2.1.length A.2.2.2.2.2.2.1 ∧ (∀ ad, a = some ad → v.ownBlock = some ad.block) ∧ RlTo w g v X w'

theorem doTo_none {w : World} {g : Nat} {v : Value} {X : RlT} {A : FrmT} {e : Ending} {w' : World} (hA : A.2.2.2.2.2.2.1 = []) (h1 : e = .returned (.agg (frmA A none 0))) (h2 : RlTo w g v X w') : DoTo w g v X A e w' :=
  ⟨none, 0, h1, by rw [hA]; exact ⟨rfl, .inl rfl⟩, (fun ad e => by cases e), h2⟩



set_option maxHeartbeats 8000000 in
theorem give_any (g : Nat) (v : Value) (X : RlT) (N : Nat) (hX : RlOk N X) (hN : N ≤ 4611686018427387904) (F : FrmT) (hF : FrOk F) (a : Option Addr) (c : Nat) (w : World) (h : RlAt w g v X) :
    Calls Try.prog 64 #[.pointer (some ⟨g, 0, none⟩), .agg (frmA F a c)] w (DoTo w g v X (giveR X F)) := by
  have f0 := hF.s0
  have f1 := hF.s1
  have f2 := hF.m0
  have f3 := hF.m1
  unfold giveR
  obtain ⟨K, G, S, E, M, bl, it, er⟩ := F
  obtain ⟨n0, hn0⟩ : ∃ n0, it.length = n0 := ⟨_, rfl⟩
  have HR0 : Hid (RlAt w g v X) := h
  have HS' := AdS.new h (frmA (K, G, S, E, M, bl, it, er) a c)
  obtain ⟨W0, hW0⟩ : ∃ W0, (w.alloc (.cells (frmA (K, G, S, E, M, bl, it, er) a c) 39)).alloc (.cells zeroF 39) = W0 := ⟨_, rfl⟩
  rw [hW0] at HS'
  simp only [frmA, zeroF, hn0] at HS' hW0 ⊢
  have HS : Hid (AdS w g v X #[.int .i64 K, .int .i64 G, .int .i64 S, .int .i64 E, .int .i64 M, .string bl, .slice a n0 c, .int .i64 er] W0) := HS'
  clear HS' hn0 h
  simp only at f0 f1 f2 f3
  have q0 := hX.b0
  have q1 := hX.last
  have q2 := hX.many
  have HK : Hid (RlOk N X ∧ N ≤ 4611686018427387904) := ⟨hX, hN⟩
  have CB : Hid (∀ p : Beh W0, _) := fun p => rbase_any g v X p.w' (HS.out.rel.on p.h)
  have e2 : ∀ p : Beh W0, p.w'.cell? ⟨w.heap.size, 2, none⟩ = some (.int .i64 S) := fun p => p.cell (HS.out.frm.cell 2)
  obtain ⟨B, hB⟩ : ∃ B, X.2.2.1.1 = B := ⟨_, rfl⟩
  rw [hB] at CB q0 ⊢
  obtain ⟨T, hT⟩ : ∃ T, lastL X = T := ⟨_, rfl⟩
  rw [hT] at q1 ⊢
  have hTn : T = B + (X.2.2.2.length : Int) := by rw [← hT, ← hB]; rfl
  have HB : Hid (X.2.2.1.1 = B ∧ lastL X = T) := ⟨hB, hT⟩
  clear hB hT hX
  by_cases h0 : S ≤ B
  · rw [if_pos h0]
    obtain ⟨ER, hER⟩ : ∃ ER : Int, ER = 210 := ⟨_, rfl⟩
    rw [← hER]
    clear hTn q0 q1 q2 f0 f1 f2 f3
    go_enter Try.func64, Try.ntmps64
    go_wp2_with fail
    try rw [hW0]
    have hne_ : Nonempty (Beh W0) := ⟨⟨_, Below.refl _ _⟩⟩
    refine wp_region_quiet_beh (by kernel_rfl) (by kernel_rfl) ?_
    repeat (quiet_step (first | (go_at_call 12; refine Calls.beh_of (CB.out _))))
    refine wpQuiet_nil ?_
    intro wq hw_
    obtain ⟨⟨wz_, hbq⟩, hw_⟩ := hw_
    subst hw_
    try dsimp only
    clear hne_
    have HS1 : Hid (AdS w g v X _ wq) := HS.out.on hbq
    clear HS CB hbq hW0 e2
    obtain ⟨w1, hw1⟩ : ∃ w1, wq = w1 := ⟨_, rfl⟩
    rw [hw1] at HS1 ⊢
    go_wp2_with fail
    rw [← hER]
    clear hER
    refine (refusal_row ER w1).mono ?_
    rintro e w2 ⟨rfl, hb2⟩
    have HS2 : Hid (AdS w g v X _ w2) := HS1.out.on hb2
    have HX := HS2.out.out
    simp only [zeroF] at HX
    clear HS1 hb2
    go_wp2_with (with_reducible refine wpList_storeBlk rfl 39 _ _ rfl (w.heap.size + 1) #[.int .i64 0, .int .i64 0, .int .i64 0, .int .i64 0, .int .i64 0, .string ⟨#[]⟩, .slice none 0 0, .int .i64 0] #[.int .i64 9, .int .i64 0, .int .i64 0, .int .i64 0, .int .i64 0, .string ⟨#[]⟩, .slice none 0 0, .int .i64 ER] ?hx ?hy HX rfl ?hi ?h1 ?_)
    try (case hx => rfl)
    try (case hy => rfl)
    try (case hi => kernel_rfl)
    try (case h1 => simp [Value.oneCell'])
    exact bodyPost_row rfl (w.heap.size + 1) #[.int .i64 9, .int .i64 0, .int .i64 0, .int .i64 0, .int .i64 0, .string ⟨#[]⟩, .slice none 0 0, .int .i64 ER] rfl rfl (HX.setRow _) _ Try.underlying39 rfl (by kernel_rfl) (doTo_none rfl rfl (HS2.out.to HR0.out _))
  · rw [if_neg h0]
    obtain ⟨k, hk⟩ : ∃ k : Nat, (min S (T + 1) - 1 - B).toNat = k := ⟨_, rfl⟩
    obtain ⟨m, hm⟩ : ∃ m : Nat, (min M 32).toNat = m := ⟨_, rfl⟩
    rw [hk, hm]
    obtain ⟨L, hL⟩ : ∃ L, firstL (X.2.2.2.drop k) m = L := ⟨_, rfl⟩
    rw [hL]
    have HLL : Hid (firstL (X.2.2.2.drop k) m = L) := hL
    clear hL
    have hmm : min M 32 = (m : Int) := by omega
    obtain ⟨Q, hQ⟩ : ∃ Q, min S (T + 1) = Q := ⟨_, rfl⟩
    rw [hQ] at hk
    have hkn : k ≤ X.2.2.2.length := by omega
    have hq : Q - 1 = B + (k : Int) := by omega
    have hw1 : IntKind.i64.wrap (T + 1) = T + 1 := by rw [IntKind.wrap_i64]; omega
    have hw2 : IntKind.i64.wrap (Q - 1) = Q - 1 := by rw [IntKind.wrap_i64]; omega
    have hm2 : m ≤ 32 := by omega
    have CL : Hid (∀ W, RlAt W g v X → _) := fun W hW => rlast_any g v X N HK.out.2 HK.out.1 W hW
    rw [HB.out.2] at CL
    have CA : Hid (∀ W, RlAt W g v X → _) := fun W hW => above_any g v X N HK.out.1 HK.out.2 k hkn (Q - 1) (by rw [HB.out.1]; exact hq) W hW
    have HZ : Hid (sizeL (X.2.2.2.drop k) ≤ 4611686018427387904) := by
      have h1 := HK.out.1.bytes
      have h2 := HK.out.1.q1
      have h3 := sizeL_split X.2.2.2 k
      unfold bytesL at h1
      show _ ≤ _
      omega
    have HN : Hid (X.2.2.2.length - k ≤ 1048576 ∧ m ≤ 1099511627775) := ⟨by omega, by omega⟩
    clear hTn q0 q1 q2 f0 f1 f2 f3 hk hm hkn hq hm2
    go_enter Try.func64, Try.ntmps64
    go_wp2_with fail
    try rw [hW0]
    have hne_ : Nonempty (Beh W0) := ⟨⟨_, Below.refl _ _⟩⟩
    refine wp_region_quiet_beh (by kernel_rfl) (by kernel_rfl) ?_
    repeat (quiet_step (first | (go_at_call 12; refine Calls.beh_of (CB.out _))))
    refine wpQuiet_nil ?_
    intro wq hw_
    obtain ⟨⟨wz_, hbq⟩, hw_⟩ := hw_
    subst hw_
    try dsimp only
    clear hne_
    have HS1 : Hid (AdS w g v X _ wq) := HS.out.on hbq
    have hS1 : wq.cell? ⟨w.heap.size, 2, none⟩ = some (.int .i64 S) := HS1.out.frm.cell 2
    clear HS CB hbq hW0 e2
    go_wp2_with fail
    refine wp_region_noPanic ?_
    refine wp_region_held_drew (S := fun W => W.cell? ⟨w.heap.size, 2, none⟩ = some (.int .i64 S)) (by kernel_rfl) (by first | exact trivial | assumption | exact ⟨by assumption, by assumption⟩) (fun hHeld => ?_)
    refine take_at (i := 0) (v := ?_) rfl rfl (by kernel_rfl) (by kernel_rfl) (by kernel_rfl) (fun _ _ _ h => h) (Or.inl ⟨by rfl, ?_⟩) (by assumption) ?_
    rotate_left
    · intro w hSw; (try dsimp only at hSw); go_simp; try with_reducible rfl
    try simp only [Act.put, List.setIfInBounds_toArray, List.set_cons_zero, List.set_cons_succ]
    refine take_at (i := 1) (v := ?_) rfl rfl (by kernel_rfl) (by kernel_rfl) (by kernel_rfl) (fun _ _ _ h => h) (Or.inl ⟨by rfl, ?_⟩) (by assumption) ?_
    rotate_left
    · intro w hSw; (try dsimp only at hSw); go_simp; try with_reducible rfl
    try simp only [Act.put, List.setIfInBounds_toArray, List.set_cons_zero, List.set_cons_succ]
    refine take_at (i := 2) (v := ?_) rfl rfl (by kernel_rfl) (by kernel_rfl) (by kernel_rfl) (fun _ _ _ h => h) (Or.inl ⟨by rfl, ?_⟩) (by assumption) ?_
    rotate_left
    · intro w hSw; (try dsimp only at hSw); go_simp; try with_reducible rfl
    try simp only [Act.put, List.setIfInBounds_toArray, List.set_cons_zero, List.set_cons_succ]
    refine wpAnyH_ready (rs := [3]) (by kernel_rfl) (by simp) ?_
    refine AllReadyH.cons rfl (fun K hK => ?_) AllReadyH.nil
    go_simp
    refine (CL.out _ (HS1.out.on (Below.refl _ _).drew).rel).mono ?_
    rintro e w2 ⟨rfl, hb2⟩
    have HS2 : Hid (AdS w g v X _ w2) := (HS1.out.on (Below.refl _ _).drew).on hb2
    have hS2 : w2.cell? ⟨w.heap.size, 2, none⟩ = some (.int .i64 S) := HS2.out.frm.cell 2
    clear HS1 hb2 hS1 CL
    refine hK.out _ _ hS2 (fun hHeld => ?_)
    clear hK K
    refine take_at (i := 4) (v := ?_) rfl rfl (by kernel_rfl) (by kernel_rfl) (by kernel_rfl) (fun _ _ _ h => h) (Or.inl ⟨by rfl, ?_⟩) (by assumption) ?_
    rotate_left
    · intro w hSw; (try dsimp only at hSw); go_simp; try with_reducible rfl
    try simp only [Act.put, List.setIfInBounds_toArray, List.set_cons_zero, List.set_cons_succ]
    refine wpAnyH_ready (rs := [5]) (by kernel_rfl) (by simp) ?_
    refine AllReadyH.cons rfl (fun K hK => ?_) AllReadyH.nil
    go_simp
    refine hK.out _ _ hS2 (fun hHeld => ?_)
    clear hK K
    refine take_at (i := 6) (v := ?_) rfl rfl (by kernel_rfl) (by kernel_rfl) (by kernel_rfl) (fun _ _ _ h => h) (Or.inl ⟨by rfl, ?_⟩) (by assumption) ?_
    rotate_left
    · intro w hSw; (try dsimp only at hSw); go_simp; try with_reducible rfl
    try simp only [Act.put, List.setIfInBounds_toArray, List.set_cons_zero, List.set_cons_succ]
    refine wpAnyH_done (by kernel_rfl) (NoPanic.normal ?_) _
    have hS3 : w2.cell? ⟨w.heap.size, 4, none⟩ = some (.int .i64 M) := HS2.out.frm.cell 4
    clear hS2
    go_wp2_with fail
    refine wp_region_noPanic ?_
    refine wp_region_held_drew (S := fun W => W.cell? ⟨w.heap.size, 4, none⟩ = some (.int .i64 M)) (by kernel_rfl) (by first | exact trivial | assumption | exact ⟨by assumption, by assumption⟩) (fun hHeld => ?_)
    refine take_at (i := 0) (v := ?_) rfl rfl (by kernel_rfl) (by kernel_rfl) (by kernel_rfl) (fun _ _ _ h => h) (Or.inl ⟨by rfl, ?_⟩) (by assumption) ?_
    rotate_left
    · intro w hSw; (try dsimp only at hSw); go_simp; try with_reducible rfl
    try simp only [Act.put, List.setIfInBounds_toArray, List.set_cons_zero, List.set_cons_succ]
    refine take_at (i := 1) (v := ?_) rfl rfl (by kernel_rfl) (by kernel_rfl) (by kernel_rfl) (fun _ _ _ h => h) (Or.inl ⟨by rfl, ?_⟩) (by assumption) ?_
    rotate_left
    · intro w hSw; (try dsimp only at hSw); go_simp; try with_reducible rfl
    try simp only [Act.put, List.setIfInBounds_toArray, List.set_cons_zero, List.set_cons_succ]
    refine take_at (i := 2) (v := ?_) rfl rfl (by kernel_rfl) (by kernel_rfl) (by kernel_rfl) (fun _ _ _ h => h) (Or.inl ⟨by rfl, ?_⟩) (by assumption) ?_
    rotate_left
    · intro w hSw; (try dsimp only at hSw); go_simp; try with_reducible rfl
    try simp only [Act.put, List.setIfInBounds_toArray, List.set_cons_zero, List.set_cons_succ]
    refine take_at (i := 4) (v := ?_) rfl rfl (by kernel_rfl) (by kernel_rfl) (by kernel_rfl) (fun _ _ _ h => h) (Or.inl ⟨by rfl, ?_⟩) (by assumption) ?_
    rotate_left
    · intro w hSw; (try dsimp only at hSw); go_simp; try with_reducible rfl
    try simp only [Act.put, List.setIfInBounds_toArray, List.set_cons_zero, List.set_cons_succ]
    refine take_at (i := 5) (v := ?_) rfl rfl (by kernel_rfl) (by kernel_rfl) (by kernel_rfl) (fun _ _ _ h => h) (Or.inl ⟨by rfl, ?_⟩) (by assumption) ?_
    rotate_left
    · intro w hSw; (try dsimp only at hSw); go_simp; try with_reducible rfl
    try simp only [Act.put, List.setIfInBounds_toArray, List.set_cons_zero, List.set_cons_succ]
    refine take_at (i := 6) (v := ?_) rfl rfl (by kernel_rfl) (by kernel_rfl) (by kernel_rfl) (fun _ _ _ h => h) (Or.inl ⟨by rfl, ?_⟩) (by assumption) ?_
    rotate_left
    · intro w hSw; (try dsimp only at hSw); go_simp; try with_reducible rfl
    try simp only [Act.put, List.setIfInBounds_toArray, List.set_cons_zero, List.set_cons_succ]
    refine wpAnyH_ready (rs := [3]) (by kernel_rfl) (by simp) ?_
    refine AllReadyH.cons rfl (fun K hK => ?_) AllReadyH.nil
    go_simp
    refine (CA.out _ (HS2.out.on (Below.refl _ _).drew).rel).mono ?_
    rintro e w4 ⟨a4, c4, rfl, ⟨hc4, hc5⟩, hi4, hl4, hb4⟩
    have HS4 : Hid (AdS w g v X _ w4) := (HS2.out.on (Below.refl _ _).drew).on hb4
    have hS4 : w4.cell? ⟨w.heap.size, 4, none⟩ = some (.int .i64 M) := HS4.out.frm.cell 4
    have CF' := first_any (X.2.2.2.drop k) a4 (X.2.2.2.length - k) c4 m w4 hi4 HN.out.1 hc4 hc5 HN.out.2 HZ.out
    rw [HLL.out] at CF'
    have CF : Hid (Calls _ _ _ _ _) := CF'
    have HL4 : Hid (∀ ad, a4 = some ad → v.ownBlock = some ad.block) := hl4
    clear HS2 hb4 hS3 CA hi4 hc4 hc5 hl4 CF'
    refine hK.out _ _ hS4 (fun hHeld => ?_)
    clear hK K
    refine wpAnyH_ready (rs := [7]) (by kernel_rfl) (by simp) ?_
    refine AllReadyH.cons rfl (fun K hK => ?_) AllReadyH.nil
    go_simp
    refine CF.out.mono ?_
    rintro e w5 ⟨c5, rfl, ⟨hc6, hc7⟩, hi5, hb5⟩
    have HS5 : Hid (AdS w g v X _ w5) := HS4.out.on hb5
    have hS5 : w5.cell? ⟨w.heap.size, 4, none⟩ = some (.int .i64 M) := HS5.out.frm.cell 4
    have HI5 : Hid (ItsAt w5 a4 _ _) := hi5
    clear HS4 hb5 hS4 CF hi5 hc6 hc7
    refine hK.out _ _ hS5 (fun hHeld => ?_)
    clear hK K
    refine take_at (i := 8) (v := ?_) rfl rfl (by kernel_rfl) (by kernel_rfl) (by kernel_rfl) (fun _ _ _ h => h) (Or.inl ⟨by rfl, ?_⟩) (by assumption) ?_
    rotate_left
    · intro w hSw; (try dsimp only at hSw); go_simp; try with_reducible rfl
    try simp only [Act.put, List.setIfInBounds_toArray, List.set_cons_zero, List.set_cons_succ]
    refine wpAnyH_ready (rs := [9]) (by kernel_rfl) (by simp) ?_
    refine AllReadyH.cons rfl (fun K hK => ?_) AllReadyH.nil
    have HX := HS5.out.out
    simp only [zeroF] at HX
    refine step_storeRow rfl rfl 39 _ _ rfl (w.heap.size + 1) #[.int .i64 0, .int .i64 0, .int .i64 0, .int .i64 0, .int .i64 0, .string ⟨#[]⟩, .slice none 0 0, .int .i64 0] #[.int .i64 4, .int .i64 0, .int .i64 0, .int .i64 0, .int .i64 0, .string ⟨#[]⟩, .slice a4 L.length c5, .int .i64 0] rfl rfl HX rfl (by kernel_rfl) (by simp [Value.oneCell']) ?_
    have hfo := HS5.out.frm.setRowOther (w.heap.size + 1) (by omega) #[.int .i64 4, .int .i64 0, .int .i64 0, .int .i64 0, .int .i64 0, .string ⟨#[]⟩, .slice a4 L.length c5, .int .i64 0]
    refine hK.out _ _ (hfo.cell 4) (fun hHeld => ?_)
    clear hK K
    refine wpAnyH_done (by kernel_rfl) (NoPanic.normal ?_) _
    go_wp2_with fail
    refine bodyPost_row rfl (w.heap.size + 1) #[.int .i64 4, .int .i64 0, .int .i64 0, .int .i64 0, .int .i64 0, .string ⟨#[]⟩, .slice a4 L.length c5, .int .i64 0] rfl rfl (HX.setRow _) _ Try.underlying39 rfl (by kernel_rfl) ⟨a4, c5, rfl, ?_, HL4.out, HS5.out.to HR0.out _⟩
    exact HI5.out.setRow _ _ (fun ad e => by
      have h1 := HL4.out ad e
      have h2 := (World.ownsRow.lt HR0.out.own _ h1).2
      omega)
end Go.Proofs.Ytkmdajenbidaaaa
