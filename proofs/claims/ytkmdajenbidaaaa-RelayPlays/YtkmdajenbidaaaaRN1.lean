import Derived.Test.YtkmdajenbidaaaaRL1
import Derived.Test.YtkmdajenbidaaaaMapIV
import Derived.Test.YtkmdajenbidaaaaWiD
import Derived.Carry
/- Layer 21, the code: ways, answer, Hear, New. -/
namespace Go.Proofs.Ytkmdajenbidaaaa
open Go.RowKit
set_option maxRecDepth 100000
set_option linter.unusedSimpArgs false
set_option linter.unusedVariables false

def wayV (f g : Nat) : Value := .func (.func f) #[.pointer (some ⟨g, 0, none⟩)] #[]
def waysL (g : Nat) : List (Int × Value) := [(1, wayV 63 g), (3, wayV 64 g), (5, wayV 65 g), (7, wayV 66 g)]

set_option maxHeartbeats 2000000 in
theorem ways_any (g : Nat) (w : World) : Calls Try.prog 44 #[.pointer (some ⟨g, 0, none⟩)] w fun e w' => ∃ r, e = .returned (.map (some r)) ∧ MapIV w' r (waysL g) ∧ Below w.heap.size w w' := by
  have hmf : ∀ (fn : Fn) (first cap : Array Value) (w : World), (Instr.makeFunc fn first cap).run Try.prog w = .ok (.func fn first cap) w := fun _ _ _ _ => rfl
  have hmm := @run_makeMap Try.prog
  obtain ⟨w0, hw0⟩ : ∃ w0, w.alloc (.map #[] 0) = w0 := ⟨_, rfl⟩
  have m0 := MapIV.made w
  have b0 : Below w.heap.size w (w.alloc (.map #[] 0)) := below_new w _
  rw [hw0] at m0 b0
  obtain ⟨w1, r1, m1, g1⟩ := m0.put 83 _ Try.underlying83 1 (wayV 63 g) rfl
  obtain ⟨w2, r2, m2, g2⟩ := m1.put 83 _ Try.underlying83 3 (wayV 64 g) rfl
  obtain ⟨w3, r3, m3, g3⟩ := m2.put 83 _ Try.underlying83 5 (wayV 65 g) rfl
  obtain ⟨w4, r4, m4, g4⟩ := m3.put 83 _ Try.underlying83 7 (wayV 66 g) rfl
  have HM : Hid (MapIV w4 w.heap.size (waysL g)) := m4
  have HB : Hid (Below w.heap.size w w4) := by
    have e : ∀ j, some w.heap.size = some j → w.heap.size ≤ j := fun j h => by cases h; exact Nat.le_refl _
    have k1 := b0.grown g1 b0.size e
    have k2 := k1.grown g2 k1.size e
    have k3 := k2.grown g3 k2.size e
    exact k3.grown g4 k3.size e
  simp only [wayV] at r1 r2 r3 r4
  clear m0 m1 m2 m3 m4 g1 g2 g3 g4 b0
  go_enter Try.func44, Try.ntmps44
  go_wp2_with fail
  go_ret
  exact ⟨_, rfl, HM.out, HB.out⟩

theorem RlTo.store {w w5 w6 : World} {g : Nat} {v v0 : Value} {X X' : RlT} (h0 : RlAt w g v X) (hb : Below w.heap.size w w5) (gr : Nat) (h1 : w.heap.size ≤ gr) (h2 : gr < w5.heap.size) (h : RlTo w5 g v X' w6) (cs : Array Value) : RlTo w g v X' (w6.setRow gr cs) := by
  obtain ⟨v', k1, k2, k3⟩ := h
  refine ⟨v', k1.setRow gr (fun e => by have := h0.lt; omega) (fun e => ?_) cs, (Kept2.behind hb k2).setRowNew gr h1 cs, fun k hk => (k3 k hk).imp id (fun e => Nat.le_trans hb.size e)⟩
  rcases k3 gr e with e1 | e1
  · have := (World.ownsRow.lt h0.own gr e1).2; omega
  · omega

theorem DoTo.store {w w5 w6 : World} {g : Nat} {v : Value} {X X' : RlT} {A : FrmT} {e' : Ending} (h0 : RlAt w g v X) (hb : Below w.heap.size w w5) (gr : Nat) (h1 : w.heap.size ≤ gr) (h2 : gr < w5.heap.size) (a : Option Addr) (c : Nat)
    (hI : ItsAt w6 a A.2.2.2.2.2.2.1.length A.2.2.2.2.2.2.1) (hl : ∀ ad, a = some ad → v.ownBlock = some ad.block) (h : RlTo w5 g v X' w6) (cs : Array Value) (he : e' = .returned (.agg (frmA A a c))) : DoTo w g v X' A e' (w6.setRow gr cs) :=
  ⟨a, c, he, hI.setRow gr cs (fun ad e => by have h3 := (World.ownsRow.lt h0.own _ (hl ad e)).2; omega), hl, RlTo.store (v0 := v) h0 hb gr h1 h2 h cs⟩

theorem grp_of {w3 : World} {g : Nat} {v : Value} {X : RlT} {Xg : Int} (h : Hid (X.1 = Xg)) (hR : RlAt w3 g v X) : ∀ p : Beh w3, p.w'.cell? ⟨g, 1, none⟩ = some (.int .i64 Xg) := fun p => p.cell (by rw [← h.out]; exact hR.blk.cell 1)

end Go.Proofs.Ytkmdajenbidaaaa

/- Layer 21, the code: answer, to a frame of one kind. -/
namespace Go.Proofs.Ytkmdajenbidaaaa
open Go.RowKit
set_option maxRecDepth 100000
set_option linter.unusedSimpArgs false
set_option linter.unusedVariables false






set_option maxHeartbeats 8000000 in
theorem answerA_any (g : Nat) (v : Value) (X : RlT) (N : Nat) (hX : RlOk N X) (hN : N ≤ 4611686018427387000) (s : ByteArray) (hs : s.size ≤ 1048576) (w : World) (h : RlAt w g v X) (h0 : (takeFC s).2 = 0) (hG : (takeFC s).1.2.1 = X.1) (hk1 : (takeFC s).1.1 = 1) :
    Calls Try.prog 30 #[.pointer (some ⟨g, 0, none⟩), .string s] w (DoTo w g v (hearF X s).1 (hearF X s).2) := by
  have HR0 : Hid (RlAt w g v X) := h
  have HK : Hid (RlOk N X ∧ N ≤ 4611686018427387000) := ⟨hX, hN⟩
  have hX0 : Blk (w.alloc (.cells zeroF 39)) 39 w.heap.size zeroF := Blk.new _ _ _
  have CT : Hid (Calls _ _ _ _ _) := takeF_any s (w.alloc (.cells zeroF 39)) hs
  have HO0 : Hid (Blk (w.alloc (.cells zeroF 39)) 39 w.heap.size zeroF) := hX0
  have HB0 : Hid (Below w.heap.size w (w.alloc (.cells zeroF 39))) := below_new w _
  have HF : Hid (FrOk (takeFC s).1) := takeFC_ok s
  have hfc : (takeFC s).2 = 0 ∨ (takeFC s).2 = 190 := by
    unfold takeFC
    split
    · exact .inr rfl
    · exact .inl rfl
  obtain ⟨R, hR⟩ : ∃ R, hearF X s = R := ⟨_, rfl⟩
  rw [hR]
  unfold hearF at hR
  obtain ⟨⟨F, E⟩, hFE⟩ : ∃ p, takeFC s = p := ⟨_, rfl⟩
  rw [hFE] at CT HF hfc hR h0 hG hk1
  simp only at hfc hR h0 hG hk1
  simp only [zeroF] at CT HO0 HB0
  obtain ⟨w0, hw0⟩ : ∃ w0, w.alloc (.cells #[.int .i64 0, .int .i64 0, .int .i64 0, .int .i64 0, .int .i64 0, .string ⟨#[]⟩, .slice none 0 0, .int .i64 0] 39) = w0 := ⟨_, rfl⟩
  rw [hw0] at CT HO0 HB0
  clear h hX hN hX0 hFE
  obtain ⟨Xg, hXg⟩ : ∃ Xg, X.1 = Xg := ⟨_, rfl⟩
  have HXG : Hid (X.1 = Xg) := hXg
  obtain ⟨Kd, G, S, Ep, M, bl, it, er⟩ := F
  simp only at hG hk1
  subst h0
  rw [if_neg (by simp)] at hR
  unfold doR at hR
  rw [hXg] at hR hG
  simp only at hR
  clear hXg hfc
  subst hG
  rw [if_neg (by simp)] at hR
  rw [if_pos hk1] at hR
  have CD : Hid (∀ a c W, RlAt W g v X → Calls Try.prog 63 #[.pointer (some ⟨g, 0, none⟩), .agg (frmA (Kd, G, S, Ep, M, bl, it, er) a c)] W (DoTo W g v R.1 R.2)) := fun a c W hW => by
    have := add_any g v X N HK.out.1 HK.out.2 _ HF.out a c W hW
    rw [hR] at this
    exact this
  have HLK : Hid (lookIV (waysL g) Kd = some (.func (.func 63) #[.pointer (some ⟨g, 0, none⟩)] #[])) := by show _ = _; rw [hk1]; rfl
  clear hR hk1
  go_enter Try.func30, Try.ntmps30
  go_wp2_with fail
  try rw [hw0]
  refine CT.out.mono ?_
  rintro e w1 ⟨a1, c1, rfl, _, _, _, hb1⟩
  simp only [frmA]
  have HB1 : Hid (Below w.heap.size w w1) := below_step HB0.out (Nat.le_refl _) hb1
  have HO1 : Hid (Blk w1 39 w.heap.size _) := HO0.out.on hb1
  obtain ⟨w2, hw2⟩ : ∃ w2, w1.alloc (.cells #[.int .i64 Kd, .int .i64 G, .int .i64 S, .int .i64 Ep, .int .i64 M, .string bl, .slice a1 it.length c1, .int .i64 er] 39) = w2 := ⟨_, rfl⟩
  have hbA : Below w1.heap.size w1 w2 := by rw [← hw2]; exact below_new _ _
  have HF2 : Hid (Blk w2 39 w1.heap.size #[.int .i64 Kd, .int .i64 G, .int .i64 S, .int .i64 Ep, .int .i64 M, .string bl, .slice a1 it.length c1, .int .i64 er]) := by show Blk _ _ _ _; rw [← hw2]; exact Blk.new _ _ _
  have HO2 : Hid (Blk w2 39 w.heap.size _) := HO1.out.on hbA
  have HB2 : Hid (Below w.heap.size w w2) := below_step HB1.out (Nat.le_refl _) hbA
  obtain ⟨hf, hhf⟩ : ∃ hf, w1.heap.size = hf := ⟨_, rfl⟩
  have HHF : Hid (w.heap.size < hf) := by have := HO1.out.lt; show _ < _; omega
  rw [hhf] at HF2
  clear hbA hb1 CT HB0 HO0 HB1 HO1 hw0
  go_wp2_with fail
  try rw [hw2]
  try rw [hhf]
  clear hw2 hhf
  have hz : ∀ w, (zeroValue 81).run Try.prog w = .ok .nilFunc w := fun w => by kernel_rfl
  have hS2 : w2.drew.cell? ⟨hf, 0, none⟩ = some (.int .i64 Kd) := HF2.out.cell 0
  refine wp_region_noPanic ?_
  refine wp_region_held_drew (S := fun W => W.cell? ⟨hf, 0, none⟩ = some (.int .i64 Kd)) (by kernel_rfl) (by first | exact trivial | assumption | exact ⟨by assumption, by assumption⟩) (fun hHeld => ?_)
  refine take_at (i := 0) (v := ?_) rfl rfl (by kernel_rfl) (by kernel_rfl) (by kernel_rfl) (fun _ _ _ h => h) (Or.inl ⟨by rfl, ?_⟩) (by assumption) ?_
  rotate_left
  · intro w hSw; (try dsimp only at hSw); go_simp; try with_reducible rfl
  try simp only [Act.put, List.setIfInBounds_toArray, List.set_cons_zero, List.set_cons_succ]
  refine take_at (i := 2) (v := ?_) rfl rfl (by kernel_rfl) (by kernel_rfl) (by kernel_rfl) (fun _ _ _ h => h) (Or.inl ⟨by rfl, ?_⟩) (by assumption) ?_
  rotate_left
  · intro w hSw; (try dsimp only at hSw); go_simp; try with_reducible rfl
  try simp only [Act.put, List.setIfInBounds_toArray, List.set_cons_zero, List.set_cons_succ]
  refine take_at (i := 3) (v := ?_) rfl rfl (by kernel_rfl) (by kernel_rfl) (by kernel_rfl) (fun _ _ _ h => h) (Or.inl ⟨by rfl, ?_⟩) (by assumption) ?_
  rotate_left
  · intro w hSw; (try dsimp only at hSw); go_simp; try with_reducible rfl
  try simp only [Act.put, List.setIfInBounds_toArray, List.set_cons_zero, List.set_cons_succ]
  refine wpAnyH_ready (rs := [1]) (by kernel_rfl) (by simp) ?_
  refine AllReadyH.cons rfl (fun K hK => ?_) AllReadyH.nil
  go_simp
  refine (ways_any g _).mono ?_
  rintro e w3 ⟨r, rfl, hm, hb3⟩
  have hlk := hm.look 83 _ Try.underlying83 .nilFunc hz Kd true
  rw [HLK.out] at hlk
  simp only [Option.getD_some, Option.getD_none, Option.isSome_some, Option.isSome_none, if_true] at hlk
  have HF3 : Hid (Blk w3 39 hf _) := (HF2.out.on (Below.refl _ _).drew).on hb3
  have HO3 : Hid (Blk w3 39 w.heap.size _) := (HO2.out.on (Below.refl _ _).drew).on hb3
  have HB3 : Hid (Below w.heap.size w w3) := below_step HB2.out.drew (Nat.le_refl _) hb3
  have hS3 : w3.cell? ⟨hf, 0, none⟩ = some (.int .i64 Kd) := HF3.out.cell 0
  clear HF2 HO2 HB2 hb3 hm hz hS2
  refine hK.out _ _ hS3 (fun hHeld => ?_)
  clear hK K
  refine wpAnyH_ready (rs := [4]) (by kernel_rfl) (by simp) ?_
  refine AllReadyH.cons rfl (fun K hK => ?_) AllReadyH.nil
  go_simp
  refine hK.out _ _ hS3 (fun hHeld => ?_)
  clear hK K
  refine take_at (i := 5) (v := ?_) rfl rfl (by kernel_rfl) (by kernel_rfl) (by kernel_rfl) (fun _ _ _ h => h) (Or.inl ⟨by rfl, ?_⟩) (by assumption) ?_
  rotate_left
  · intro w hSw; (try dsimp only at hSw); go_simp; try with_reducible rfl
  try simp only [Act.put, List.setIfInBounds_toArray, List.set_cons_zero, List.set_cons_succ]
  refine take_at (i := 6) (v := ?_) rfl rfl (by kernel_rfl) (by kernel_rfl) (by kernel_rfl) (fun _ _ _ h => h) (Or.inl ⟨by rfl, ?_⟩) (by assumption) ?_
  rotate_left
  · intro w hSw; (try dsimp only at hSw); go_simp; try with_reducible rfl
  try simp only [Act.put, List.setIfInBounds_toArray, List.set_cons_zero, List.set_cons_succ]
  refine take_at (i := 7) (v := ?_) rfl rfl (by kernel_rfl) (by kernel_rfl) (by kernel_rfl) (fun _ _ _ h => h) (Or.inl ⟨by rfl, ?_⟩) (by assumption) ?_
  rotate_left
  · intro w hSw; (try dsimp only at hSw); go_simp; try with_reducible rfl
  try simp only [Act.put, List.setIfInBounds_toArray, List.set_cons_zero, List.set_cons_succ]
  refine take_at (i := 8) (v := ?_) rfl rfl (by kernel_rfl) (by kernel_rfl) (by kernel_rfl) (fun _ _ _ h => h) (Or.inl ⟨by rfl, ?_⟩) (by assumption) ?_
  rotate_left
  · intro w hSw; (try dsimp only at hSw); go_simp; try with_reducible rfl
  try simp only [Act.put, List.setIfInBounds_toArray, List.set_cons_zero, List.set_cons_succ]
  refine take_at (i := 9) (v := ?_) rfl rfl (by kernel_rfl) (by kernel_rfl) (by kernel_rfl) (fun _ _ _ h => h) (Or.inl ⟨by rfl, ?_⟩) (by assumption) ?_
  rotate_left
  · intro w hSw; (try dsimp only at hSw); go_simp; try with_reducible rfl
  try simp only [Act.put, List.setIfInBounds_toArray, List.set_cons_zero, List.set_cons_succ]
  refine wpAnyH_done (by kernel_rfl) (NoPanic.normal ?_) _
  clear hlk
  have e1 : ∀ p : Beh w3, p.w'.cell? ⟨hf, 1, none⟩ = some (.int .i64 G) := fun p => p.cell (HF3.out.cell 1)
  have eg := grp_of HXG (HR0.out.on HB3.out)
  go_wp2_with fail
  have hne_ : Nonempty (Beh w3) := ⟨⟨_, Below.refl _ _⟩⟩
  refine wp_region_quiet_beh (by kernel_rfl) (by kernel_rfl) ?_
  repeat (quiet_step (fail))
  refine wpQuiet_nil ?_
  intro wq hw_
  obtain ⟨⟨wz_, hbq⟩, hw_⟩ := hw_
  subst hw_
  try dsimp only
  clear hne_
  have HF4 : Hid (Blk wq 39 hf _) := HF3.out.on hbq
  have HO4 : Hid (Blk wq 39 w.heap.size _) := HO3.out.on hbq
  have HB4 : Hid (Below w.heap.size w wq) := below_step HB3.out (Nat.le_refl _) hbq
  clear HF3 HO3 HB3 hbq e1 eg hS3
  obtain ⟨w3, hw3⟩ : ∃ w3, wq = w3 := ⟨_, rfl⟩
  rw [hw3] at HF4 HO4 HB4 ⊢
  have HF3 := HF4
  have HO3 := HO4
  have HB3 := HB4
  clear hw3 HF4 HO4 HB4
  have d0 : w3.cell? ⟨hf, 0, none⟩ = some (.int .i64 Kd) := HF3.out.cell 0
  have d1 : w3.cell? ⟨hf, 1, none⟩ = some (.int .i64 G) := HF3.out.cell 1
  have d2 : w3.cell? ⟨hf, 2, none⟩ = some (.int .i64 S) := HF3.out.cell 2
  have d3 : w3.cell? ⟨hf, 3, none⟩ = some (.int .i64 Ep) := HF3.out.cell 3
  have d4 : w3.cell? ⟨hf, 4, none⟩ = some (.int .i64 M) := HF3.out.cell 4
  have d5 : w3.cell? ⟨hf, 5, none⟩ = some (.string bl) := HF3.out.cell 5
  have d6 : w3.cell? ⟨hf, 6, none⟩ = some (.slice a1 it.length c1) := HF3.out.cell 6
  have d7 : w3.cell? ⟨hf, 7, none⟩ = some (.int .i64 er) := HF3.out.cell 7
  have CF' := CD.out a1 c1 w3 (HR0.out.on HB3.out)
  simp only [frmA] at CF'
  have CF : Hid (Calls _ _ _ _ _) := CF'
  clear HF3 CF' CD
  go_wp2_with fail
  refine CF.out.mono ?_
  rintro e w6 ⟨a6, c6, rfl, hi6, hl6, hr6⟩
  clear CF d0 d1 d2 d3 d4 d5 d6 d7
  have HX := hr6.elim (fun v' k => HO3.out.kept k.2.1 (by have := HR0.out.lt; omega) (fun e => by have := (World.ownsRow.lt HR0.out.own _ e.symm).2; omega))
  have HD : Hid (ItsAt w6 a6 R.2.2.2.2.2.2.2.1.length R.2.2.2.2.2.2.2.1 ∧ (∀ ad, a6 = some ad → v.ownBlock = some ad.block) ∧ RlTo w3 g v R.1 w6) := ⟨hi6, hl6, hr6⟩
  clear hi6 hl6 hr6
  obtain ⟨X', Kk, Gg, Ss, Ee, Mm, bb, ii, rr⟩ := R
  simp only [frmA] at HD ⊢
  go_wp2_with (with_reducible refine wpList_storeBlk rfl 39 _ _ rfl w.heap.size #[.int .i64 0, .int .i64 0, .int .i64 0, .int .i64 0, .int .i64 0, .string ⟨#[]⟩, .slice none 0 0, .int .i64 0] #[.int .i64 Kk, .int .i64 Gg, .int .i64 Ss, .int .i64 Ee, .int .i64 Mm, .string bb, .slice a6 ii.length c6, .int .i64 rr] ?hx ?hy HX rfl ?hi ?h1 ?_)
  try (case hx => rfl)
  try (case hy => rfl)
  try (case hi => first | kernel_rfl | exact Option.map_eq_some_iff.1 (by kernel_rfl))
  try (case h1 => simp [Value.oneCell'])
  exact bodyPost_row rfl w.heap.size #[.int .i64 Kk, .int .i64 Gg, .int .i64 Ss, .int .i64 Ee, .int .i64 Mm, .string bb, .slice a6 ii.length c6, .int .i64 rr] rfl rfl (HX.setRow _) _ Try.underlying39 rfl (by kernel_rfl) (DoTo.store (A := (Kk, Gg, Ss, Ee, Mm, bb, ii, rr)) HR0.out HB3.out w.heap.size (Nat.le_refl _) HO3.out.lt a6 c6 HD.out.1 HD.out.2.1 HD.out.2.2 _ rfl)
end Go.Proofs.Ytkmdajenbidaaaa

/- Layer 21, the code: answer, to a frame of one kind. -/
namespace Go.Proofs.Ytkmdajenbidaaaa
open Go.RowKit
set_option maxRecDepth 100000
set_option linter.unusedSimpArgs false
set_option linter.unusedVariables false






set_option maxHeartbeats 8000000 in
theorem answerB_any (g : Nat) (v : Value) (X : RlT) (N : Nat) (hX : RlOk N X) (hN : N ≤ 4611686018427387000) (s : ByteArray) (hs : s.size ≤ 1048576) (w : World) (h : RlAt w g v X) (h0 : (takeFC s).2 = 0) (hG : (takeFC s).1.2.1 = X.1) (hk1 : (takeFC s).1.1 = 3) :
    Calls Try.prog 30 #[.pointer (some ⟨g, 0, none⟩), .string s] w (DoTo w g v (hearF X s).1 (hearF X s).2) := by
  have HR0 : Hid (RlAt w g v X) := h
  have HK : Hid (RlOk N X ∧ N ≤ 4611686018427387000) := ⟨hX, hN⟩
  have hX0 : Blk (w.alloc (.cells zeroF 39)) 39 w.heap.size zeroF := Blk.new _ _ _
  have CT : Hid (Calls _ _ _ _ _) := takeF_any s (w.alloc (.cells zeroF 39)) hs
  have HO0 : Hid (Blk (w.alloc (.cells zeroF 39)) 39 w.heap.size zeroF) := hX0
  have HB0 : Hid (Below w.heap.size w (w.alloc (.cells zeroF 39))) := below_new w _
  have HF : Hid (FrOk (takeFC s).1) := takeFC_ok s
  have hfc : (takeFC s).2 = 0 ∨ (takeFC s).2 = 190 := by
    unfold takeFC
    split
    · exact .inr rfl
    · exact .inl rfl
  obtain ⟨R, hR⟩ : ∃ R, hearF X s = R := ⟨_, rfl⟩
  rw [hR]
  unfold hearF at hR
  obtain ⟨⟨F, E⟩, hFE⟩ : ∃ p, takeFC s = p := ⟨_, rfl⟩
  rw [hFE] at CT HF hfc hR h0 hG hk1
  simp only at hfc hR h0 hG hk1
  simp only [zeroF] at CT HO0 HB0
  obtain ⟨w0, hw0⟩ : ∃ w0, w.alloc (.cells #[.int .i64 0, .int .i64 0, .int .i64 0, .int .i64 0, .int .i64 0, .string ⟨#[]⟩, .slice none 0 0, .int .i64 0] 39) = w0 := ⟨_, rfl⟩
  rw [hw0] at CT HO0 HB0
  clear h hX hN hX0 hFE
  obtain ⟨Xg, hXg⟩ : ∃ Xg, X.1 = Xg := ⟨_, rfl⟩
  have HXG : Hid (X.1 = Xg) := hXg
  obtain ⟨Kd, G, S, Ep, M, bl, it, er⟩ := F
  simp only at hG hk1
  subst h0
  rw [if_neg (by simp)] at hR
  unfold doR at hR
  rw [hXg] at hR hG
  simp only at hR
  clear hXg hfc
  subst hG
  rw [if_neg (by simp)] at hR
  rw [if_neg (by rw [hk1]; decide)] at hR
  rw [if_pos hk1] at hR
  have CD : Hid (∀ a c W, RlAt W g v X → Calls Try.prog 64 #[.pointer (some ⟨g, 0, none⟩), .agg (frmA (Kd, G, S, Ep, M, bl, it, er) a c)] W (DoTo W g v R.1 R.2)) := fun a c W hW => by
    rw [← hR]
    exact give_any g v X N HK.out.1 (by have := HK.out.2; omega) _ HF.out a c W hW
  have HLK : Hid (lookIV (waysL g) Kd = some (.func (.func 64) #[.pointer (some ⟨g, 0, none⟩)] #[])) := by show _ = _; rw [hk1]; rfl
  clear hR hk1
  go_enter Try.func30, Try.ntmps30
  go_wp2_with fail
  try rw [hw0]
  refine CT.out.mono ?_
  rintro e w1 ⟨a1, c1, rfl, _, _, _, hb1⟩
  simp only [frmA]
  have HB1 : Hid (Below w.heap.size w w1) := below_step HB0.out (Nat.le_refl _) hb1
  have HO1 : Hid (Blk w1 39 w.heap.size _) := HO0.out.on hb1
  obtain ⟨w2, hw2⟩ : ∃ w2, w1.alloc (.cells #[.int .i64 Kd, .int .i64 G, .int .i64 S, .int .i64 Ep, .int .i64 M, .string bl, .slice a1 it.length c1, .int .i64 er] 39) = w2 := ⟨_, rfl⟩
  have hbA : Below w1.heap.size w1 w2 := by rw [← hw2]; exact below_new _ _
  have HF2 : Hid (Blk w2 39 w1.heap.size #[.int .i64 Kd, .int .i64 G, .int .i64 S, .int .i64 Ep, .int .i64 M, .string bl, .slice a1 it.length c1, .int .i64 er]) := by show Blk _ _ _ _; rw [← hw2]; exact Blk.new _ _ _
  have HO2 : Hid (Blk w2 39 w.heap.size _) := HO1.out.on hbA
  have HB2 : Hid (Below w.heap.size w w2) := below_step HB1.out (Nat.le_refl _) hbA
  obtain ⟨hf, hhf⟩ : ∃ hf, w1.heap.size = hf := ⟨_, rfl⟩
  have HHF : Hid (w.heap.size < hf) := by have := HO1.out.lt; show _ < _; omega
  rw [hhf] at HF2
  clear hbA hb1 CT HB0 HO0 HB1 HO1 hw0
  go_wp2_with fail
  try rw [hw2]
  try rw [hhf]
  clear hw2 hhf
  have hz : ∀ w, (zeroValue 81).run Try.prog w = .ok .nilFunc w := fun w => by kernel_rfl
  have hS2 : w2.drew.cell? ⟨hf, 0, none⟩ = some (.int .i64 Kd) := HF2.out.cell 0
  refine wp_region_noPanic ?_
  refine wp_region_held_drew (S := fun W => W.cell? ⟨hf, 0, none⟩ = some (.int .i64 Kd)) (by kernel_rfl) (by first | exact trivial | assumption | exact ⟨by assumption, by assumption⟩) (fun hHeld => ?_)
  refine take_at (i := 0) (v := ?_) rfl rfl (by kernel_rfl) (by kernel_rfl) (by kernel_rfl) (fun _ _ _ h => h) (Or.inl ⟨by rfl, ?_⟩) (by assumption) ?_
  rotate_left
  · intro w hSw; (try dsimp only at hSw); go_simp; try with_reducible rfl
  try simp only [Act.put, List.setIfInBounds_toArray, List.set_cons_zero, List.set_cons_succ]
  refine take_at (i := 2) (v := ?_) rfl rfl (by kernel_rfl) (by kernel_rfl) (by kernel_rfl) (fun _ _ _ h => h) (Or.inl ⟨by rfl, ?_⟩) (by assumption) ?_
  rotate_left
  · intro w hSw; (try dsimp only at hSw); go_simp; try with_reducible rfl
  try simp only [Act.put, List.setIfInBounds_toArray, List.set_cons_zero, List.set_cons_succ]
  refine take_at (i := 3) (v := ?_) rfl rfl (by kernel_rfl) (by kernel_rfl) (by kernel_rfl) (fun _ _ _ h => h) (Or.inl ⟨by rfl, ?_⟩) (by assumption) ?_
  rotate_left
  · intro w hSw; (try dsimp only at hSw); go_simp; try with_reducible rfl
  try simp only [Act.put, List.setIfInBounds_toArray, List.set_cons_zero, List.set_cons_succ]
  refine wpAnyH_ready (rs := [1]) (by kernel_rfl) (by simp) ?_
  refine AllReadyH.cons rfl (fun K hK => ?_) AllReadyH.nil
  go_simp
  refine (ways_any g _).mono ?_
  rintro e w3 ⟨r, rfl, hm, hb3⟩
  have hlk := hm.look 83 _ Try.underlying83 .nilFunc hz Kd true
  rw [HLK.out] at hlk
  simp only [Option.getD_some, Option.getD_none, Option.isSome_some, Option.isSome_none, if_true] at hlk
  have HF3 : Hid (Blk w3 39 hf _) := (HF2.out.on (Below.refl _ _).drew).on hb3
  have HO3 : Hid (Blk w3 39 w.heap.size _) := (HO2.out.on (Below.refl _ _).drew).on hb3
  have HB3 : Hid (Below w.heap.size w w3) := below_step HB2.out.drew (Nat.le_refl _) hb3
  have hS3 : w3.cell? ⟨hf, 0, none⟩ = some (.int .i64 Kd) := HF3.out.cell 0
  clear HF2 HO2 HB2 hb3 hm hz hS2
  refine hK.out _ _ hS3 (fun hHeld => ?_)
  clear hK K
  refine wpAnyH_ready (rs := [4]) (by kernel_rfl) (by simp) ?_
  refine AllReadyH.cons rfl (fun K hK => ?_) AllReadyH.nil
  go_simp
  refine hK.out _ _ hS3 (fun hHeld => ?_)
  clear hK K
  refine take_at (i := 5) (v := ?_) rfl rfl (by kernel_rfl) (by kernel_rfl) (by kernel_rfl) (fun _ _ _ h => h) (Or.inl ⟨by rfl, ?_⟩) (by assumption) ?_
  rotate_left
  · intro w hSw; (try dsimp only at hSw); go_simp; try with_reducible rfl
  try simp only [Act.put, List.setIfInBounds_toArray, List.set_cons_zero, List.set_cons_succ]
  refine take_at (i := 6) (v := ?_) rfl rfl (by kernel_rfl) (by kernel_rfl) (by kernel_rfl) (fun _ _ _ h => h) (Or.inl ⟨by rfl, ?_⟩) (by assumption) ?_
  rotate_left
  · intro w hSw; (try dsimp only at hSw); go_simp; try with_reducible rfl
  try simp only [Act.put, List.setIfInBounds_toArray, List.set_cons_zero, List.set_cons_succ]
  refine take_at (i := 7) (v := ?_) rfl rfl (by kernel_rfl) (by kernel_rfl) (by kernel_rfl) (fun _ _ _ h => h) (Or.inl ⟨by rfl, ?_⟩) (by assumption) ?_
  rotate_left
  · intro w hSw; (try dsimp only at hSw); go_simp; try with_reducible rfl
  try simp only [Act.put, List.setIfInBounds_toArray, List.set_cons_zero, List.set_cons_succ]
  refine take_at (i := 8) (v := ?_) rfl rfl (by kernel_rfl) (by kernel_rfl) (by kernel_rfl) (fun _ _ _ h => h) (Or.inl ⟨by rfl, ?_⟩) (by assumption) ?_
  rotate_left
  · intro w hSw; (try dsimp only at hSw); go_simp; try with_reducible rfl
  try simp only [Act.put, List.setIfInBounds_toArray, List.set_cons_zero, List.set_cons_succ]
  refine take_at (i := 9) (v := ?_) rfl rfl (by kernel_rfl) (by kernel_rfl) (by kernel_rfl) (fun _ _ _ h => h) (Or.inl ⟨by rfl, ?_⟩) (by assumption) ?_
  rotate_left
  · intro w hSw; (try dsimp only at hSw); go_simp; try with_reducible rfl
  try simp only [Act.put, List.setIfInBounds_toArray, List.set_cons_zero, List.set_cons_succ]
  refine wpAnyH_done (by kernel_rfl) (NoPanic.normal ?_) _
  clear hlk
  have e1 : ∀ p : Beh w3, p.w'.cell? ⟨hf, 1, none⟩ = some (.int .i64 G) := fun p => p.cell (HF3.out.cell 1)
  have eg := grp_of HXG (HR0.out.on HB3.out)
  go_wp2_with fail
  have hne_ : Nonempty (Beh w3) := ⟨⟨_, Below.refl _ _⟩⟩
  refine wp_region_quiet_beh (by kernel_rfl) (by kernel_rfl) ?_
  repeat (quiet_step (fail))
  refine wpQuiet_nil ?_
  intro wq hw_
  obtain ⟨⟨wz_, hbq⟩, hw_⟩ := hw_
  subst hw_
  try dsimp only
  clear hne_
  have HF4 : Hid (Blk wq 39 hf _) := HF3.out.on hbq
  have HO4 : Hid (Blk wq 39 w.heap.size _) := HO3.out.on hbq
  have HB4 : Hid (Below w.heap.size w wq) := below_step HB3.out (Nat.le_refl _) hbq
  clear HF3 HO3 HB3 hbq e1 eg hS3
  obtain ⟨w3, hw3⟩ : ∃ w3, wq = w3 := ⟨_, rfl⟩
  rw [hw3] at HF4 HO4 HB4 ⊢
  have HF3 := HF4
  have HO3 := HO4
  have HB3 := HB4
  clear hw3 HF4 HO4 HB4
  have d0 : w3.cell? ⟨hf, 0, none⟩ = some (.int .i64 Kd) := HF3.out.cell 0
  have d1 : w3.cell? ⟨hf, 1, none⟩ = some (.int .i64 G) := HF3.out.cell 1
  have d2 : w3.cell? ⟨hf, 2, none⟩ = some (.int .i64 S) := HF3.out.cell 2
  have d3 : w3.cell? ⟨hf, 3, none⟩ = some (.int .i64 Ep) := HF3.out.cell 3
  have d4 : w3.cell? ⟨hf, 4, none⟩ = some (.int .i64 M) := HF3.out.cell 4
  have d5 : w3.cell? ⟨hf, 5, none⟩ = some (.string bl) := HF3.out.cell 5
  have d6 : w3.cell? ⟨hf, 6, none⟩ = some (.slice a1 it.length c1) := HF3.out.cell 6
  have d7 : w3.cell? ⟨hf, 7, none⟩ = some (.int .i64 er) := HF3.out.cell 7
  have CF' := CD.out a1 c1 w3 (HR0.out.on HB3.out)
  simp only [frmA] at CF'
  have CF : Hid (Calls _ _ _ _ _) := CF'
  clear HF3 CF' CD
  go_wp2_with fail
  refine CF.out.mono ?_
  rintro e w6 ⟨a6, c6, rfl, hi6, hl6, hr6⟩
  clear CF d0 d1 d2 d3 d4 d5 d6 d7
  have HX := hr6.elim (fun v' k => HO3.out.kept k.2.1 (by have := HR0.out.lt; omega) (fun e => by have := (World.ownsRow.lt HR0.out.own _ e.symm).2; omega))
  have HD : Hid (ItsAt w6 a6 R.2.2.2.2.2.2.2.1.length R.2.2.2.2.2.2.2.1 ∧ (∀ ad, a6 = some ad → v.ownBlock = some ad.block) ∧ RlTo w3 g v R.1 w6) := ⟨hi6, hl6, hr6⟩
  clear hi6 hl6 hr6
  obtain ⟨X', Kk, Gg, Ss, Ee, Mm, bb, ii, rr⟩ := R
  simp only [frmA] at HD ⊢
  go_wp2_with (with_reducible refine wpList_storeBlk rfl 39 _ _ rfl w.heap.size #[.int .i64 0, .int .i64 0, .int .i64 0, .int .i64 0, .int .i64 0, .string ⟨#[]⟩, .slice none 0 0, .int .i64 0] #[.int .i64 Kk, .int .i64 Gg, .int .i64 Ss, .int .i64 Ee, .int .i64 Mm, .string bb, .slice a6 ii.length c6, .int .i64 rr] ?hx ?hy HX rfl ?hi ?h1 ?_)
  try (case hx => rfl)
  try (case hy => rfl)
  try (case hi => first | kernel_rfl | exact Option.map_eq_some_iff.1 (by kernel_rfl))
  try (case h1 => simp [Value.oneCell'])
  exact bodyPost_row rfl w.heap.size #[.int .i64 Kk, .int .i64 Gg, .int .i64 Ss, .int .i64 Ee, .int .i64 Mm, .string bb, .slice a6 ii.length c6, .int .i64 rr] rfl rfl (HX.setRow _) _ Try.underlying39 rfl (by kernel_rfl) (DoTo.store (A := (Kk, Gg, Ss, Ee, Mm, bb, ii, rr)) HR0.out HB3.out w.heap.size (Nat.le_refl _) HO3.out.lt a6 c6 HD.out.1 HD.out.2.1 HD.out.2.2 _ rfl)
end Go.Proofs.Ytkmdajenbidaaaa

/- Layer 21, the code: answer, to a frame of one kind. -/
namespace Go.Proofs.Ytkmdajenbidaaaa
open Go.RowKit
set_option maxRecDepth 100000
set_option linter.unusedSimpArgs false
set_option linter.unusedVariables false






set_option maxHeartbeats 8000000 in
theorem answerC_any (g : Nat) (v : Value) (X : RlT) (N : Nat) (hX : RlOk N X) (hN : N ≤ 4611686018427387000) (s : ByteArray) (hs : s.size ≤ 1048576) (w : World) (h : RlAt w g v X) (h0 : (takeFC s).2 = 0) (hG : (takeFC s).1.2.1 = X.1) (hk1 : (takeFC s).1.1 = 5) :
    Calls Try.prog 30 #[.pointer (some ⟨g, 0, none⟩), .string s] w (DoTo w g v (hearF X s).1 (hearF X s).2) := by
  have HR0 : Hid (RlAt w g v X) := h
  have HK : Hid (RlOk N X ∧ N ≤ 4611686018427387000) := ⟨hX, hN⟩
  have hX0 : Blk (w.alloc (.cells zeroF 39)) 39 w.heap.size zeroF := Blk.new _ _ _
  have CT : Hid (Calls _ _ _ _ _) := takeF_any s (w.alloc (.cells zeroF 39)) hs
  have HO0 : Hid (Blk (w.alloc (.cells zeroF 39)) 39 w.heap.size zeroF) := hX0
  have HB0 : Hid (Below w.heap.size w (w.alloc (.cells zeroF 39))) := below_new w _
  have HF : Hid (FrOk (takeFC s).1) := takeFC_ok s
  have hfc : (takeFC s).2 = 0 ∨ (takeFC s).2 = 190 := by
    unfold takeFC
    split
    · exact .inr rfl
    · exact .inl rfl
  obtain ⟨R, hR⟩ : ∃ R, hearF X s = R := ⟨_, rfl⟩
  rw [hR]
  unfold hearF at hR
  obtain ⟨⟨F, E⟩, hFE⟩ : ∃ p, takeFC s = p := ⟨_, rfl⟩
  rw [hFE] at CT HF hfc hR h0 hG hk1
  simp only at hfc hR h0 hG hk1
  simp only [zeroF] at CT HO0 HB0
  obtain ⟨w0, hw0⟩ : ∃ w0, w.alloc (.cells #[.int .i64 0, .int .i64 0, .int .i64 0, .int .i64 0, .int .i64 0, .string ⟨#[]⟩, .slice none 0 0, .int .i64 0] 39) = w0 := ⟨_, rfl⟩
  rw [hw0] at CT HO0 HB0
  clear h hX hN hX0 hFE
  obtain ⟨Xg, hXg⟩ : ∃ Xg, X.1 = Xg := ⟨_, rfl⟩
  have HXG : Hid (X.1 = Xg) := hXg
  obtain ⟨Kd, G, S, Ep, M, bl, it, er⟩ := F
  simp only at hG hk1
  subst h0
  rw [if_neg (by simp)] at hR
  unfold doR at hR
  rw [hXg] at hR hG
  simp only at hR
  clear hXg hfc
  subst hG
  rw [if_neg (by simp)] at hR
  rw [if_neg (by rw [hk1]; decide)] at hR
  rw [if_neg (by rw [hk1]; decide)] at hR
  rw [if_pos hk1] at hR
  have CD : Hid (∀ a c W, RlAt W g v X → Calls Try.prog 65 #[.pointer (some ⟨g, 0, none⟩), .agg (frmA (Kd, G, S, Ep, M, bl, it, er) a c)] W (DoTo W g v R.1 R.2)) := fun a c W hW => by
    have := keep_any g v X N HK.out.1 HK.out.2 _ HF.out a c W hW
    rw [hR] at this
    exact this
  have HLK : Hid (lookIV (waysL g) Kd = some (.func (.func 65) #[.pointer (some ⟨g, 0, none⟩)] #[])) := by show _ = _; rw [hk1]; rfl
  clear hR hk1
  go_enter Try.func30, Try.ntmps30
  go_wp2_with fail
  try rw [hw0]
  refine CT.out.mono ?_
  rintro e w1 ⟨a1, c1, rfl, _, _, _, hb1⟩
  simp only [frmA]
  have HB1 : Hid (Below w.heap.size w w1) := below_step HB0.out (Nat.le_refl _) hb1
  have HO1 : Hid (Blk w1 39 w.heap.size _) := HO0.out.on hb1
  obtain ⟨w2, hw2⟩ : ∃ w2, w1.alloc (.cells #[.int .i64 Kd, .int .i64 G, .int .i64 S, .int .i64 Ep, .int .i64 M, .string bl, .slice a1 it.length c1, .int .i64 er] 39) = w2 := ⟨_, rfl⟩
  have hbA : Below w1.heap.size w1 w2 := by rw [← hw2]; exact below_new _ _
  have HF2 : Hid (Blk w2 39 w1.heap.size #[.int .i64 Kd, .int .i64 G, .int .i64 S, .int .i64 Ep, .int .i64 M, .string bl, .slice a1 it.length c1, .int .i64 er]) := by show Blk _ _ _ _; rw [← hw2]; exact Blk.new _ _ _
  have HO2 : Hid (Blk w2 39 w.heap.size _) := HO1.out.on hbA
  have HB2 : Hid (Below w.heap.size w w2) := below_step HB1.out (Nat.le_refl _) hbA
  obtain ⟨hf, hhf⟩ : ∃ hf, w1.heap.size = hf := ⟨_, rfl⟩
  have HHF : Hid (w.heap.size < hf) := by have := HO1.out.lt; show _ < _; omega
  rw [hhf] at HF2
  clear hbA hb1 CT HB0 HO0 HB1 HO1 hw0
  go_wp2_with fail
  try rw [hw2]
  try rw [hhf]
  clear hw2 hhf
  have hz : ∀ w, (zeroValue 81).run Try.prog w = .ok .nilFunc w := fun w => by kernel_rfl
  have hS2 : w2.drew.cell? ⟨hf, 0, none⟩ = some (.int .i64 Kd) := HF2.out.cell 0
  refine wp_region_noPanic ?_
  refine wp_region_held_drew (S := fun W => W.cell? ⟨hf, 0, none⟩ = some (.int .i64 Kd)) (by kernel_rfl) (by first | exact trivial | assumption | exact ⟨by assumption, by assumption⟩) (fun hHeld => ?_)
  refine take_at (i := 0) (v := ?_) rfl rfl (by kernel_rfl) (by kernel_rfl) (by kernel_rfl) (fun _ _ _ h => h) (Or.inl ⟨by rfl, ?_⟩) (by assumption) ?_
  rotate_left
  · intro w hSw; (try dsimp only at hSw); go_simp; try with_reducible rfl
  try simp only [Act.put, List.setIfInBounds_toArray, List.set_cons_zero, List.set_cons_succ]
  refine take_at (i := 2) (v := ?_) rfl rfl (by kernel_rfl) (by kernel_rfl) (by kernel_rfl) (fun _ _ _ h => h) (Or.inl ⟨by rfl, ?_⟩) (by assumption) ?_
  rotate_left
  · intro w hSw; (try dsimp only at hSw); go_simp; try with_reducible rfl
  try simp only [Act.put, List.setIfInBounds_toArray, List.set_cons_zero, List.set_cons_succ]
  refine take_at (i := 3) (v := ?_) rfl rfl (by kernel_rfl) (by kernel_rfl) (by kernel_rfl) (fun _ _ _ h => h) (Or.inl ⟨by rfl, ?_⟩) (by assumption) ?_
  rotate_left
  · intro w hSw; (try dsimp only at hSw); go_simp; try with_reducible rfl
  try simp only [Act.put, List.setIfInBounds_toArray, List.set_cons_zero, List.set_cons_succ]
  refine wpAnyH_ready (rs := [1]) (by kernel_rfl) (by simp) ?_
  refine AllReadyH.cons rfl (fun K hK => ?_) AllReadyH.nil
  go_simp
  refine (ways_any g _).mono ?_
  rintro e w3 ⟨r, rfl, hm, hb3⟩
  have hlk := hm.look 83 _ Try.underlying83 .nilFunc hz Kd true
  rw [HLK.out] at hlk
  simp only [Option.getD_some, Option.getD_none, Option.isSome_some, Option.isSome_none, if_true] at hlk
  have HF3 : Hid (Blk w3 39 hf _) := (HF2.out.on (Below.refl _ _).drew).on hb3
  have HO3 : Hid (Blk w3 39 w.heap.size _) := (HO2.out.on (Below.refl _ _).drew).on hb3
  have HB3 : Hid (Below w.heap.size w w3) := below_step HB2.out.drew (Nat.le_refl _) hb3
  have hS3 : w3.cell? ⟨hf, 0, none⟩ = some (.int .i64 Kd) := HF3.out.cell 0
  clear HF2 HO2 HB2 hb3 hm hz hS2
  refine hK.out _ _ hS3 (fun hHeld => ?_)
  clear hK K
  refine wpAnyH_ready (rs := [4]) (by kernel_rfl) (by simp) ?_
  refine AllReadyH.cons rfl (fun K hK => ?_) AllReadyH.nil
  go_simp
  refine hK.out _ _ hS3 (fun hHeld => ?_)
  clear hK K
  refine take_at (i := 5) (v := ?_) rfl rfl (by kernel_rfl) (by kernel_rfl) (by kernel_rfl) (fun _ _ _ h => h) (Or.inl ⟨by rfl, ?_⟩) (by assumption) ?_
  rotate_left
  · intro w hSw; (try dsimp only at hSw); go_simp; try with_reducible rfl
  try simp only [Act.put, List.setIfInBounds_toArray, List.set_cons_zero, List.set_cons_succ]
  refine take_at (i := 6) (v := ?_) rfl rfl (by kernel_rfl) (by kernel_rfl) (by kernel_rfl) (fun _ _ _ h => h) (Or.inl ⟨by rfl, ?_⟩) (by assumption) ?_
  rotate_left
  · intro w hSw; (try dsimp only at hSw); go_simp; try with_reducible rfl
  try simp only [Act.put, List.setIfInBounds_toArray, List.set_cons_zero, List.set_cons_succ]
  refine take_at (i := 7) (v := ?_) rfl rfl (by kernel_rfl) (by kernel_rfl) (by kernel_rfl) (fun _ _ _ h => h) (Or.inl ⟨by rfl, ?_⟩) (by assumption) ?_
  rotate_left
  · intro w hSw; (try dsimp only at hSw); go_simp; try with_reducible rfl
  try simp only [Act.put, List.setIfInBounds_toArray, List.set_cons_zero, List.set_cons_succ]
  refine take_at (i := 8) (v := ?_) rfl rfl (by kernel_rfl) (by kernel_rfl) (by kernel_rfl) (fun _ _ _ h => h) (Or.inl ⟨by rfl, ?_⟩) (by assumption) ?_
  rotate_left
  · intro w hSw; (try dsimp only at hSw); go_simp; try with_reducible rfl
  try simp only [Act.put, List.setIfInBounds_toArray, List.set_cons_zero, List.set_cons_succ]
  refine take_at (i := 9) (v := ?_) rfl rfl (by kernel_rfl) (by kernel_rfl) (by kernel_rfl) (fun _ _ _ h => h) (Or.inl ⟨by rfl, ?_⟩) (by assumption) ?_
  rotate_left
  · intro w hSw; (try dsimp only at hSw); go_simp; try with_reducible rfl
  try simp only [Act.put, List.setIfInBounds_toArray, List.set_cons_zero, List.set_cons_succ]
  refine wpAnyH_done (by kernel_rfl) (NoPanic.normal ?_) _
  clear hlk
  have e1 : ∀ p : Beh w3, p.w'.cell? ⟨hf, 1, none⟩ = some (.int .i64 G) := fun p => p.cell (HF3.out.cell 1)
  have eg := grp_of HXG (HR0.out.on HB3.out)
  go_wp2_with fail
  have hne_ : Nonempty (Beh w3) := ⟨⟨_, Below.refl _ _⟩⟩
  refine wp_region_quiet_beh (by kernel_rfl) (by kernel_rfl) ?_
  repeat (quiet_step (fail))
  refine wpQuiet_nil ?_
  intro wq hw_
  obtain ⟨⟨wz_, hbq⟩, hw_⟩ := hw_
  subst hw_
  try dsimp only
  clear hne_
  have HF4 : Hid (Blk wq 39 hf _) := HF3.out.on hbq
  have HO4 : Hid (Blk wq 39 w.heap.size _) := HO3.out.on hbq
  have HB4 : Hid (Below w.heap.size w wq) := below_step HB3.out (Nat.le_refl _) hbq
  clear HF3 HO3 HB3 hbq e1 eg hS3
  obtain ⟨w3, hw3⟩ : ∃ w3, wq = w3 := ⟨_, rfl⟩
  rw [hw3] at HF4 HO4 HB4 ⊢
  have HF3 := HF4
  have HO3 := HO4
  have HB3 := HB4
  clear hw3 HF4 HO4 HB4
  have d0 : w3.cell? ⟨hf, 0, none⟩ = some (.int .i64 Kd) := HF3.out.cell 0
  have d1 : w3.cell? ⟨hf, 1, none⟩ = some (.int .i64 G) := HF3.out.cell 1
  have d2 : w3.cell? ⟨hf, 2, none⟩ = some (.int .i64 S) := HF3.out.cell 2
  have d3 : w3.cell? ⟨hf, 3, none⟩ = some (.int .i64 Ep) := HF3.out.cell 3
  have d4 : w3.cell? ⟨hf, 4, none⟩ = some (.int .i64 M) := HF3.out.cell 4
  have d5 : w3.cell? ⟨hf, 5, none⟩ = some (.string bl) := HF3.out.cell 5
  have d6 : w3.cell? ⟨hf, 6, none⟩ = some (.slice a1 it.length c1) := HF3.out.cell 6
  have d7 : w3.cell? ⟨hf, 7, none⟩ = some (.int .i64 er) := HF3.out.cell 7
  have CF' := CD.out a1 c1 w3 (HR0.out.on HB3.out)
  simp only [frmA] at CF'
  have CF : Hid (Calls _ _ _ _ _) := CF'
  clear HF3 CF' CD
  go_wp2_with fail
  refine CF.out.mono ?_
  rintro e w6 ⟨a6, c6, rfl, hi6, hl6, hr6⟩
  clear CF d0 d1 d2 d3 d4 d5 d6 d7
  have HX := hr6.elim (fun v' k => HO3.out.kept k.2.1 (by have := HR0.out.lt; omega) (fun e => by have := (World.ownsRow.lt HR0.out.own _ e.symm).2; omega))
  have HD : Hid (ItsAt w6 a6 R.2.2.2.2.2.2.2.1.length R.2.2.2.2.2.2.2.1 ∧ (∀ ad, a6 = some ad → v.ownBlock = some ad.block) ∧ RlTo w3 g v R.1 w6) := ⟨hi6, hl6, hr6⟩
  clear hi6 hl6 hr6
  obtain ⟨X', Kk, Gg, Ss, Ee, Mm, bb, ii, rr⟩ := R
  simp only [frmA] at HD ⊢
  go_wp2_with (with_reducible refine wpList_storeBlk rfl 39 _ _ rfl w.heap.size #[.int .i64 0, .int .i64 0, .int .i64 0, .int .i64 0, .int .i64 0, .string ⟨#[]⟩, .slice none 0 0, .int .i64 0] #[.int .i64 Kk, .int .i64 Gg, .int .i64 Ss, .int .i64 Ee, .int .i64 Mm, .string bb, .slice a6 ii.length c6, .int .i64 rr] ?hx ?hy HX rfl ?hi ?h1 ?_)
  try (case hx => rfl)
  try (case hy => rfl)
  try (case hi => first | kernel_rfl | exact Option.map_eq_some_iff.1 (by kernel_rfl))
  try (case h1 => simp [Value.oneCell'])
  exact bodyPost_row rfl w.heap.size #[.int .i64 Kk, .int .i64 Gg, .int .i64 Ss, .int .i64 Ee, .int .i64 Mm, .string bb, .slice a6 ii.length c6, .int .i64 rr] rfl rfl (HX.setRow _) _ Try.underlying39 rfl (by kernel_rfl) (DoTo.store (A := (Kk, Gg, Ss, Ee, Mm, bb, ii, rr)) HR0.out HB3.out w.heap.size (Nat.le_refl _) HO3.out.lt a6 c6 HD.out.1 HD.out.2.1 HD.out.2.2 _ rfl)
end Go.Proofs.Ytkmdajenbidaaaa

/- Layer 21, the code: answer, to a frame of one kind. -/
namespace Go.Proofs.Ytkmdajenbidaaaa
open Go.RowKit
set_option maxRecDepth 100000
set_option linter.unusedSimpArgs false
set_option linter.unusedVariables false






set_option maxHeartbeats 8000000 in
theorem answerD_any (g : Nat) (v : Value) (X : RlT) (N : Nat) (hX : RlOk N X) (hN : N ≤ 4611686018427387000) (s : ByteArray) (hs : s.size ≤ 1048576) (w : World) (h : RlAt w g v X) (h0 : (takeFC s).2 = 0) (hG : (takeFC s).1.2.1 = X.1) (hk1 : (takeFC s).1.1 = 7) :
    Calls Try.prog 30 #[.pointer (some ⟨g, 0, none⟩), .string s] w (DoTo w g v (hearF X s).1 (hearF X s).2) := by
  have HR0 : Hid (RlAt w g v X) := h
  have HK : Hid (RlOk N X ∧ N ≤ 4611686018427387000) := ⟨hX, hN⟩
  have hX0 : Blk (w.alloc (.cells zeroF 39)) 39 w.heap.size zeroF := Blk.new _ _ _
  have CT : Hid (Calls _ _ _ _ _) := takeF_any s (w.alloc (.cells zeroF 39)) hs
  have HO0 : Hid (Blk (w.alloc (.cells zeroF 39)) 39 w.heap.size zeroF) := hX0
  have HB0 : Hid (Below w.heap.size w (w.alloc (.cells zeroF 39))) := below_new w _
  have HF : Hid (FrOk (takeFC s).1) := takeFC_ok s
  have hfc : (takeFC s).2 = 0 ∨ (takeFC s).2 = 190 := by
    unfold takeFC
    split
    · exact .inr rfl
    · exact .inl rfl
  obtain ⟨R, hR⟩ : ∃ R, hearF X s = R := ⟨_, rfl⟩
  rw [hR]
  unfold hearF at hR
  obtain ⟨⟨F, E⟩, hFE⟩ : ∃ p, takeFC s = p := ⟨_, rfl⟩
  rw [hFE] at CT HF hfc hR h0 hG hk1
  simp only at hfc hR h0 hG hk1
  simp only [zeroF] at CT HO0 HB0
  obtain ⟨w0, hw0⟩ : ∃ w0, w.alloc (.cells #[.int .i64 0, .int .i64 0, .int .i64 0, .int .i64 0, .int .i64 0, .string ⟨#[]⟩, .slice none 0 0, .int .i64 0] 39) = w0 := ⟨_, rfl⟩
  rw [hw0] at CT HO0 HB0
  clear h hX hN hX0 hFE
  obtain ⟨Xg, hXg⟩ : ∃ Xg, X.1 = Xg := ⟨_, rfl⟩
  have HXG : Hid (X.1 = Xg) := hXg
  obtain ⟨Kd, G, S, Ep, M, bl, it, er⟩ := F
  simp only at hG hk1
  subst h0
  rw [if_neg (by simp)] at hR
  unfold doR at hR
  rw [hXg] at hR hG
  simp only at hR
  clear hXg hfc
  subst hG
  rw [if_neg (by simp)] at hR
  rw [if_neg (by rw [hk1]; decide)] at hR
  rw [if_neg (by rw [hk1]; decide)] at hR
  rw [if_neg (by rw [hk1]; decide)] at hR
  rw [if_pos hk1] at hR
  have CD : Hid (∀ a c W, RlAt W g v X → Calls Try.prog 66 #[.pointer (some ⟨g, 0, none⟩), .agg (frmA (Kd, G, S, Ep, M, bl, it, er) a c)] W (DoTo W g v R.1 R.2)) := fun a c W hW => by
    rw [← hR]
    exact (show_any g v X _ a c W hW).mono (fun e w' h => doTo_none (by show (showR X).2.2.2.2.2.2.1 = []; unfold showR; split <;> rfl) h.1 h.2)
  have HLK : Hid (lookIV (waysL g) Kd = some (.func (.func 66) #[.pointer (some ⟨g, 0, none⟩)] #[])) := by show _ = _; rw [hk1]; rfl
  clear hR hk1
  go_enter Try.func30, Try.ntmps30
  go_wp2_with fail
  try rw [hw0]
  refine CT.out.mono ?_
  rintro e w1 ⟨a1, c1, rfl, _, _, _, hb1⟩
  simp only [frmA]
  have HB1 : Hid (Below w.heap.size w w1) := below_step HB0.out (Nat.le_refl _) hb1
  have HO1 : Hid (Blk w1 39 w.heap.size _) := HO0.out.on hb1
  obtain ⟨w2, hw2⟩ : ∃ w2, w1.alloc (.cells #[.int .i64 Kd, .int .i64 G, .int .i64 S, .int .i64 Ep, .int .i64 M, .string bl, .slice a1 it.length c1, .int .i64 er] 39) = w2 := ⟨_, rfl⟩
  have hbA : Below w1.heap.size w1 w2 := by rw [← hw2]; exact below_new _ _
  have HF2 : Hid (Blk w2 39 w1.heap.size #[.int .i64 Kd, .int .i64 G, .int .i64 S, .int .i64 Ep, .int .i64 M, .string bl, .slice a1 it.length c1, .int .i64 er]) := by show Blk _ _ _ _; rw [← hw2]; exact Blk.new _ _ _
  have HO2 : Hid (Blk w2 39 w.heap.size _) := HO1.out.on hbA
  have HB2 : Hid (Below w.heap.size w w2) := below_step HB1.out (Nat.le_refl _) hbA
  obtain ⟨hf, hhf⟩ : ∃ hf, w1.heap.size = hf := ⟨_, rfl⟩
  have HHF : Hid (w.heap.size < hf) := by have := HO1.out.lt; show _ < _; omega
  rw [hhf] at HF2
  clear hbA hb1 CT HB0 HO0 HB1 HO1 hw0
  go_wp2_with fail
  try rw [hw2]
  try rw [hhf]
  clear hw2 hhf
  have hz : ∀ w, (zeroValue 81).run Try.prog w = .ok .nilFunc w := fun w => by kernel_rfl
  have hS2 : w2.drew.cell? ⟨hf, 0, none⟩ = some (.int .i64 Kd) := HF2.out.cell 0
  refine wp_region_noPanic ?_
  refine wp_region_held_drew (S := fun W => W.cell? ⟨hf, 0, none⟩ = some (.int .i64 Kd)) (by kernel_rfl) (by first | exact trivial | assumption | exact ⟨by assumption, by assumption⟩) (fun hHeld => ?_)
  refine take_at (i := 0) (v := ?_) rfl rfl (by kernel_rfl) (by kernel_rfl) (by kernel_rfl) (fun _ _ _ h => h) (Or.inl ⟨by rfl, ?_⟩) (by assumption) ?_
  rotate_left
  · intro w hSw; (try dsimp only at hSw); go_simp; try with_reducible rfl
  try simp only [Act.put, List.setIfInBounds_toArray, List.set_cons_zero, List.set_cons_succ]
  refine take_at (i := 2) (v := ?_) rfl rfl (by kernel_rfl) (by kernel_rfl) (by kernel_rfl) (fun _ _ _ h => h) (Or.inl ⟨by rfl, ?_⟩) (by assumption) ?_
  rotate_left
  · intro w hSw; (try dsimp only at hSw); go_simp; try with_reducible rfl
  try simp only [Act.put, List.setIfInBounds_toArray, List.set_cons_zero, List.set_cons_succ]
  refine take_at (i := 3) (v := ?_) rfl rfl (by kernel_rfl) (by kernel_rfl) (by kernel_rfl) (fun _ _ _ h => h) (Or.inl ⟨by rfl, ?_⟩) (by assumption) ?_
  rotate_left
  · intro w hSw; (try dsimp only at hSw); go_simp; try with_reducible rfl
  try simp only [Act.put, List.setIfInBounds_toArray, List.set_cons_zero, List.set_cons_succ]
  refine wpAnyH_ready (rs := [1]) (by kernel_rfl) (by simp) ?_
  refine AllReadyH.cons rfl (fun K hK => ?_) AllReadyH.nil
  go_simp
  refine (ways_any g _).mono ?_
  rintro e w3 ⟨r, rfl, hm, hb3⟩
  have hlk := hm.look 83 _ Try.underlying83 .nilFunc hz Kd true
  rw [HLK.out] at hlk
  simp only [Option.getD_some, Option.getD_none, Option.isSome_some, Option.isSome_none, if_true] at hlk
  have HF3 : Hid (Blk w3 39 hf _) := (HF2.out.on (Below.refl _ _).drew).on hb3
  have HO3 : Hid (Blk w3 39 w.heap.size _) := (HO2.out.on (Below.refl _ _).drew).on hb3
  have HB3 : Hid (Below w.heap.size w w3) := below_step HB2.out.drew (Nat.le_refl _) hb3
  have hS3 : w3.cell? ⟨hf, 0, none⟩ = some (.int .i64 Kd) := HF3.out.cell 0
  clear HF2 HO2 HB2 hb3 hm hz hS2
  refine hK.out _ _ hS3 (fun hHeld => ?_)
  clear hK K
  refine wpAnyH_ready (rs := [4]) (by kernel_rfl) (by simp) ?_
  refine AllReadyH.cons rfl (fun K hK => ?_) AllReadyH.nil
  go_simp
  refine hK.out _ _ hS3 (fun hHeld => ?_)
  clear hK K
  refine take_at (i := 5) (v := ?_) rfl rfl (by kernel_rfl) (by kernel_rfl) (by kernel_rfl) (fun _ _ _ h => h) (Or.inl ⟨by rfl, ?_⟩) (by assumption) ?_
  rotate_left
  · intro w hSw; (try dsimp only at hSw); go_simp; try with_reducible rfl
  try simp only [Act.put, List.setIfInBounds_toArray, List.set_cons_zero, List.set_cons_succ]
  refine take_at (i := 6) (v := ?_) rfl rfl (by kernel_rfl) (by kernel_rfl) (by kernel_rfl) (fun _ _ _ h => h) (Or.inl ⟨by rfl, ?_⟩) (by assumption) ?_
  rotate_left
  · intro w hSw; (try dsimp only at hSw); go_simp; try with_reducible rfl
  try simp only [Act.put, List.setIfInBounds_toArray, List.set_cons_zero, List.set_cons_succ]
  refine take_at (i := 7) (v := ?_) rfl rfl (by kernel_rfl) (by kernel_rfl) (by kernel_rfl) (fun _ _ _ h => h) (Or.inl ⟨by rfl, ?_⟩) (by assumption) ?_
  rotate_left
  · intro w hSw; (try dsimp only at hSw); go_simp; try with_reducible rfl
  try simp only [Act.put, List.setIfInBounds_toArray, List.set_cons_zero, List.set_cons_succ]
  refine take_at (i := 8) (v := ?_) rfl rfl (by kernel_rfl) (by kernel_rfl) (by kernel_rfl) (fun _ _ _ h => h) (Or.inl ⟨by rfl, ?_⟩) (by assumption) ?_
  rotate_left
  · intro w hSw; (try dsimp only at hSw); go_simp; try with_reducible rfl
  try simp only [Act.put, List.setIfInBounds_toArray, List.set_cons_zero, List.set_cons_succ]
  refine take_at (i := 9) (v := ?_) rfl rfl (by kernel_rfl) (by kernel_rfl) (by kernel_rfl) (fun _ _ _ h => h) (Or.inl ⟨by rfl, ?_⟩) (by assumption) ?_
  rotate_left
  · intro w hSw; (try dsimp only at hSw); go_simp; try with_reducible rfl
  try simp only [Act.put, List.setIfInBounds_toArray, List.set_cons_zero, List.set_cons_succ]
  refine wpAnyH_done (by kernel_rfl) (NoPanic.normal ?_) _
  clear hlk
  have e1 : ∀ p : Beh w3, p.w'.cell? ⟨hf, 1, none⟩ = some (.int .i64 G) := fun p => p.cell (HF3.out.cell 1)
  have eg := grp_of HXG (HR0.out.on HB3.out)
  go_wp2_with fail
  have hne_ : Nonempty (Beh w3) := ⟨⟨_, Below.refl _ _⟩⟩
  refine wp_region_quiet_beh (by kernel_rfl) (by kernel_rfl) ?_
  repeat (quiet_step (fail))
  refine wpQuiet_nil ?_
  intro wq hw_
  obtain ⟨⟨wz_, hbq⟩, hw_⟩ := hw_
  subst hw_
  try dsimp only
  clear hne_
  have HF4 : Hid (Blk wq 39 hf _) := HF3.out.on hbq
  have HO4 : Hid (Blk wq 39 w.heap.size _) := HO3.out.on hbq
  have HB4 : Hid (Below w.heap.size w wq) := below_step HB3.out (Nat.le_refl _) hbq
  clear HF3 HO3 HB3 hbq e1 eg hS3
  obtain ⟨w3, hw3⟩ : ∃ w3, wq = w3 := ⟨_, rfl⟩
  rw [hw3] at HF4 HO4 HB4 ⊢
  have HF3 := HF4
  have HO3 := HO4
  have HB3 := HB4
  clear hw3 HF4 HO4 HB4
  have d0 : w3.cell? ⟨hf, 0, none⟩ = some (.int .i64 Kd) := HF3.out.cell 0
  have d1 : w3.cell? ⟨hf, 1, none⟩ = some (.int .i64 G) := HF3.out.cell 1
  have d2 : w3.cell? ⟨hf, 2, none⟩ = some (.int .i64 S) := HF3.out.cell 2
  have d3 : w3.cell? ⟨hf, 3, none⟩ = some (.int .i64 Ep) := HF3.out.cell 3
  have d4 : w3.cell? ⟨hf, 4, none⟩ = some (.int .i64 M) := HF3.out.cell 4
  have d5 : w3.cell? ⟨hf, 5, none⟩ = some (.string bl) := HF3.out.cell 5
  have d6 : w3.cell? ⟨hf, 6, none⟩ = some (.slice a1 it.length c1) := HF3.out.cell 6
  have d7 : w3.cell? ⟨hf, 7, none⟩ = some (.int .i64 er) := HF3.out.cell 7
  have CF' := CD.out a1 c1 w3 (HR0.out.on HB3.out)
  simp only [frmA] at CF'
  have CF : Hid (Calls _ _ _ _ _) := CF'
  clear HF3 CF' CD
  go_wp2_with fail
  refine CF.out.mono ?_
  rintro e w6 ⟨a6, c6, rfl, hi6, hl6, hr6⟩
  clear CF d0 d1 d2 d3 d4 d5 d6 d7
  have HX := hr6.elim (fun v' k => HO3.out.kept k.2.1 (by have := HR0.out.lt; omega) (fun e => by have := (World.ownsRow.lt HR0.out.own _ e.symm).2; omega))
  have HD : Hid (ItsAt w6 a6 R.2.2.2.2.2.2.2.1.length R.2.2.2.2.2.2.2.1 ∧ (∀ ad, a6 = some ad → v.ownBlock = some ad.block) ∧ RlTo w3 g v R.1 w6) := ⟨hi6, hl6, hr6⟩
  clear hi6 hl6 hr6
  obtain ⟨X', Kk, Gg, Ss, Ee, Mm, bb, ii, rr⟩ := R
  simp only [frmA] at HD ⊢
  go_wp2_with (with_reducible refine wpList_storeBlk rfl 39 _ _ rfl w.heap.size #[.int .i64 0, .int .i64 0, .int .i64 0, .int .i64 0, .int .i64 0, .string ⟨#[]⟩, .slice none 0 0, .int .i64 0] #[.int .i64 Kk, .int .i64 Gg, .int .i64 Ss, .int .i64 Ee, .int .i64 Mm, .string bb, .slice a6 ii.length c6, .int .i64 rr] ?hx ?hy HX rfl ?hi ?h1 ?_)
  try (case hx => rfl)
  try (case hy => rfl)
  try (case hi => first | kernel_rfl | exact Option.map_eq_some_iff.1 (by kernel_rfl))
  try (case h1 => simp [Value.oneCell'])
  exact bodyPost_row rfl w.heap.size #[.int .i64 Kk, .int .i64 Gg, .int .i64 Ss, .int .i64 Ee, .int .i64 Mm, .string bb, .slice a6 ii.length c6, .int .i64 rr] rfl rfl (HX.setRow _) _ Try.underlying39 rfl (by kernel_rfl) (DoTo.store (A := (Kk, Gg, Ss, Ee, Mm, bb, ii, rr)) HR0.out HB3.out w.heap.size (Nat.le_refl _) HO3.out.lt a6 c6 HD.out.1 HD.out.2.1 HD.out.2.2 _ rfl)
end Go.Proofs.Ytkmdajenbidaaaa

/- Layer 21, the code: answer, to a frame of one kind. -/
namespace Go.Proofs.Ytkmdajenbidaaaa
open Go.RowKit
set_option maxRecDepth 100000
set_option linter.unusedSimpArgs false
set_option linter.unusedVariables false






set_option maxHeartbeats 8000000 in
theorem answerE_any (g : Nat) (v : Value) (X : RlT) (N : Nat) (hX : RlOk N X) (hN : N ≤ 4611686018427387000) (s : ByteArray) (hs : s.size ≤ 1048576) (w : World) (h : RlAt w g v X) (h0 : (takeFC s).2 ≠ 0) :
    Calls Try.prog 30 #[.pointer (some ⟨g, 0, none⟩), .string s] w (DoTo w g v (hearF X s).1 (hearF X s).2) := by
  have HR0 : Hid (RlAt w g v X) := h
  have HK : Hid (RlOk N X ∧ N ≤ 4611686018427387000) := ⟨hX, hN⟩
  have hX0 : Blk (w.alloc (.cells zeroF 39)) 39 w.heap.size zeroF := Blk.new _ _ _
  have CT : Hid (Calls _ _ _ _ _) := takeF_any s (w.alloc (.cells zeroF 39)) hs
  have HO0 : Hid (Blk (w.alloc (.cells zeroF 39)) 39 w.heap.size zeroF) := hX0
  have HB0 : Hid (Below w.heap.size w (w.alloc (.cells zeroF 39))) := below_new w _
  have HF : Hid (FrOk (takeFC s).1) := takeFC_ok s
  have hfc : (takeFC s).2 = 0 ∨ (takeFC s).2 = 190 := by
    unfold takeFC
    split
    · exact .inr rfl
    · exact .inl rfl
  obtain ⟨R, hR⟩ : ∃ R, hearF X s = R := ⟨_, rfl⟩
  rw [hR]
  unfold hearF at hR
  obtain ⟨⟨F, E⟩, hFE⟩ : ∃ p, takeFC s = p := ⟨_, rfl⟩
  rw [hFE] at CT HF hfc hR h0
  simp only at hfc hR h0
  simp only [zeroF] at CT HO0 HB0
  obtain ⟨w0, hw0⟩ : ∃ w0, w.alloc (.cells #[.int .i64 0, .int .i64 0, .int .i64 0, .int .i64 0, .int .i64 0, .string ⟨#[]⟩, .slice none 0 0, .int .i64 0] 39) = w0 := ⟨_, rfl⟩
  rw [hw0] at CT HO0 HB0
  clear h hX hN hX0 hFE
  obtain ⟨Xg, hXg⟩ : ∃ Xg, X.1 = Xg := ⟨_, rfl⟩
  have HXG : Hid (X.1 = Xg) := hXg
  obtain ⟨Kd, G, S, Ep, M, bl, it, er⟩ := F
  obtain rfl := hfc.resolve_left h0
  rw [if_pos (by decide)] at hR
  subst hR
  obtain ⟨ER, hER⟩ : ∃ ER : Int, ER = 190 := ⟨_, rfl⟩
  rw [← hER]
  clear hXg
  go_enter Try.func30, Try.ntmps30
  go_wp2_with fail
  try rw [hw0]
  refine CT.out.mono ?_
  rintro e w1 ⟨a1, c1, rfl, _, _, _, hb1⟩
  simp only [frmA]
  have HB1 : Hid (Below w.heap.size w w1) := below_step HB0.out (Nat.le_refl _) hb1
  have HO1 : Hid (Blk w1 39 w.heap.size _) := HO0.out.on hb1
  obtain ⟨w2, hw2⟩ : ∃ w2, w1.alloc (.cells #[.int .i64 Kd, .int .i64 G, .int .i64 S, .int .i64 Ep, .int .i64 M, .string bl, .slice a1 it.length c1, .int .i64 er] 39) = w2 := ⟨_, rfl⟩
  have hbA : Below w1.heap.size w1 w2 := by rw [← hw2]; exact below_new _ _
  have HF2 : Hid (Blk w2 39 w1.heap.size #[.int .i64 Kd, .int .i64 G, .int .i64 S, .int .i64 Ep, .int .i64 M, .string bl, .slice a1 it.length c1, .int .i64 er]) := by show Blk _ _ _ _; rw [← hw2]; exact Blk.new _ _ _
  have HO2 : Hid (Blk w2 39 w.heap.size _) := HO1.out.on hbA
  have HB2 : Hid (Below w.heap.size w w2) := below_step HB1.out (Nat.le_refl _) hbA
  obtain ⟨hf, hhf⟩ : ∃ hf, w1.heap.size = hf := ⟨_, rfl⟩
  have HHF : Hid (w.heap.size < hf) := by have := HO1.out.lt; show _ < _; omega
  rw [hhf] at HF2
  clear hbA hb1 CT HB0 HO0 HB1 HO1 hw0
  go_wp2_with fail
  try rw [hw2]
  try rw [hhf]
  clear hw2 hhf
  rw [← hER]
  clear hER HF2
  have HO3 := HO2
  have HB3 := HB2
  obtain ⟨w3, hw3⟩ : ∃ w3, w2 = w3 := ⟨_, rfl⟩
  rw [hw3] at HO3 HB3 ⊢
  clear HO2 HB2 hw3
  refine (refusal_row ER w3).mono ?_
  rintro e w4 ⟨rfl, hb4⟩
  have HX := HO3.out.on hb4
  have HB4 : Hid (Below w.heap.size w w4) := below_step HB3.out (Nat.le_refl _) hb4
  clear hb4
  go_wp2_with (with_reducible refine wpList_storeBlk rfl 39 _ _ rfl w.heap.size #[.int .i64 0, .int .i64 0, .int .i64 0, .int .i64 0, .int .i64 0, .string ⟨#[]⟩, .slice none 0 0, .int .i64 0] #[.int .i64 9, .int .i64 0, .int .i64 0, .int .i64 0, .int .i64 0, .string ⟨#[]⟩, .slice none 0 0, .int .i64 ER] ?hx ?hy HX rfl ?hi ?h1 ?_)
  try (case hx => rfl)
  try (case hy => rfl)
  try (case hi => first | kernel_rfl | exact Option.map_eq_some_iff.1 (by kernel_rfl))
  try (case h1 => simp [Value.oneCell'])
  exact bodyPost_row rfl w.heap.size #[.int .i64 9, .int .i64 0, .int .i64 0, .int .i64 0, .int .i64 0, .string ⟨#[]⟩, .slice none 0 0, .int .i64 ER] rfl rfl (HX.setRow _) _ Try.underlying39 rfl (by kernel_rfl) (doTo_none (A := errF ER) rfl rfl (HR0.out.to (below_setRow HB4.out (Nat.le_refl _) _)))
end Go.Proofs.Ytkmdajenbidaaaa

/- Layer 21, the code: answer, to a frame of one kind. -/
namespace Go.Proofs.Ytkmdajenbidaaaa
open Go.RowKit
set_option maxRecDepth 100000
set_option linter.unusedSimpArgs false
set_option linter.unusedVariables false






set_option maxHeartbeats 8000000 in
theorem answerG_any (g : Nat) (v : Value) (X : RlT) (N : Nat) (hX : RlOk N X) (hN : N ≤ 4611686018427387000) (s : ByteArray) (hs : s.size ≤ 1048576) (w : World) (h : RlAt w g v X) (h0 : (takeFC s).2 = 0) (hG : (takeFC s).1.2.1 ≠ X.1) :
    Calls Try.prog 30 #[.pointer (some ⟨g, 0, none⟩), .string s] w (DoTo w g v (hearF X s).1 (hearF X s).2) := by
  have HR0 : Hid (RlAt w g v X) := h
  have HK : Hid (RlOk N X ∧ N ≤ 4611686018427387000) := ⟨hX, hN⟩
  have hX0 : Blk (w.alloc (.cells zeroF 39)) 39 w.heap.size zeroF := Blk.new _ _ _
  have CT : Hid (Calls _ _ _ _ _) := takeF_any s (w.alloc (.cells zeroF 39)) hs
  have HO0 : Hid (Blk (w.alloc (.cells zeroF 39)) 39 w.heap.size zeroF) := hX0
  have HB0 : Hid (Below w.heap.size w (w.alloc (.cells zeroF 39))) := below_new w _
  have HF : Hid (FrOk (takeFC s).1) := takeFC_ok s
  have hfc : (takeFC s).2 = 0 ∨ (takeFC s).2 = 190 := by
    unfold takeFC
    split
    · exact .inr rfl
    · exact .inl rfl
  obtain ⟨R, hR⟩ : ∃ R, hearF X s = R := ⟨_, rfl⟩
  rw [hR]
  unfold hearF at hR
  obtain ⟨⟨F, E⟩, hFE⟩ : ∃ p, takeFC s = p := ⟨_, rfl⟩
  rw [hFE] at CT HF hfc hR h0 hG
  simp only at hfc hR h0 hG
  simp only [zeroF] at CT HO0 HB0
  obtain ⟨w0, hw0⟩ : ∃ w0, w.alloc (.cells #[.int .i64 0, .int .i64 0, .int .i64 0, .int .i64 0, .int .i64 0, .string ⟨#[]⟩, .slice none 0 0, .int .i64 0] 39) = w0 := ⟨_, rfl⟩
  rw [hw0] at CT HO0 HB0
  clear h hX hN hX0 hFE
  obtain ⟨Xg, hXg⟩ : ∃ Xg, X.1 = Xg := ⟨_, rfl⟩
  have HXG : Hid (X.1 = Xg) := hXg
  obtain ⟨Kd, G, S, Ep, M, bl, it, er⟩ := F
  simp only at hG
  subst h0
  rw [if_neg (by simp)] at hR
  unfold doR at hR
  rw [hXg] at hR hG
  simp only at hR
  clear hXg hfc
  rw [if_pos hG] at hR
  subst hR
  obtain ⟨ER, hER⟩ : ∃ ER : Int, ER = 1 := ⟨_, rfl⟩
  rw [← hER]
  cases hlo : lookIV (waysL g) Kd with
  | none =>
    have HLK : Hid (lookIV (waysL g) Kd = none) := hlo
    clear hlo
    go_enter Try.func30, Try.ntmps30
    go_wp2_with fail
    try rw [hw0]
    refine CT.out.mono ?_
    rintro e w1 ⟨a1, c1, rfl, _, _, _, hb1⟩
    simp only [frmA]
    have HB1 : Hid (Below w.heap.size w w1) := below_step HB0.out (Nat.le_refl _) hb1
    have HO1 : Hid (Blk w1 39 w.heap.size _) := HO0.out.on hb1
    obtain ⟨w2, hw2⟩ : ∃ w2, w1.alloc (.cells #[.int .i64 Kd, .int .i64 G, .int .i64 S, .int .i64 Ep, .int .i64 M, .string bl, .slice a1 it.length c1, .int .i64 er] 39) = w2 := ⟨_, rfl⟩
    have hbA : Below w1.heap.size w1 w2 := by rw [← hw2]; exact below_new _ _
    have HF2 : Hid (Blk w2 39 w1.heap.size #[.int .i64 Kd, .int .i64 G, .int .i64 S, .int .i64 Ep, .int .i64 M, .string bl, .slice a1 it.length c1, .int .i64 er]) := by show Blk _ _ _ _; rw [← hw2]; exact Blk.new _ _ _
    have HO2 : Hid (Blk w2 39 w.heap.size _) := HO1.out.on hbA
    have HB2 : Hid (Below w.heap.size w w2) := below_step HB1.out (Nat.le_refl _) hbA
    obtain ⟨hf, hhf⟩ : ∃ hf, w1.heap.size = hf := ⟨_, rfl⟩
    have HHF : Hid (w.heap.size < hf) := by have := HO1.out.lt; show _ < _; omega
    rw [hhf] at HF2
    clear hbA hb1 CT HB0 HO0 HB1 HO1 hw0
    go_wp2_with fail
    try rw [hw2]
    try rw [hhf]
    clear hw2 hhf
    have hz : ∀ w, (zeroValue 81).run Try.prog w = .ok .nilFunc w := fun w => by kernel_rfl
    have hS2 : w2.drew.cell? ⟨hf, 0, none⟩ = some (.int .i64 Kd) := HF2.out.cell 0
    refine wp_region_noPanic ?_
    refine wp_region_held_drew (S := fun W => W.cell? ⟨hf, 0, none⟩ = some (.int .i64 Kd)) (by kernel_rfl) (by first | exact trivial | assumption | exact ⟨by assumption, by assumption⟩) (fun hHeld => ?_)
    refine take_at (i := 0) (v := ?_) rfl rfl (by kernel_rfl) (by kernel_rfl) (by kernel_rfl) (fun _ _ _ h => h) (Or.inl ⟨by rfl, ?_⟩) (by assumption) ?_
    rotate_left
    · intro w hSw; (try dsimp only at hSw); go_simp; try with_reducible rfl
    try simp only [Act.put, List.setIfInBounds_toArray, List.set_cons_zero, List.set_cons_succ]
    refine take_at (i := 2) (v := ?_) rfl rfl (by kernel_rfl) (by kernel_rfl) (by kernel_rfl) (fun _ _ _ h => h) (Or.inl ⟨by rfl, ?_⟩) (by assumption) ?_
    rotate_left
    · intro w hSw; (try dsimp only at hSw); go_simp; try with_reducible rfl
    try simp only [Act.put, List.setIfInBounds_toArray, List.set_cons_zero, List.set_cons_succ]
    refine take_at (i := 3) (v := ?_) rfl rfl (by kernel_rfl) (by kernel_rfl) (by kernel_rfl) (fun _ _ _ h => h) (Or.inl ⟨by rfl, ?_⟩) (by assumption) ?_
    rotate_left
    · intro w hSw; (try dsimp only at hSw); go_simp; try with_reducible rfl
    try simp only [Act.put, List.setIfInBounds_toArray, List.set_cons_zero, List.set_cons_succ]
    refine wpAnyH_ready (rs := [1]) (by kernel_rfl) (by simp) ?_
    refine AllReadyH.cons rfl (fun K hK => ?_) AllReadyH.nil
    go_simp
    refine (ways_any g _).mono ?_
    rintro e w3 ⟨r, rfl, hm, hb3⟩
    have hlk := hm.look 83 _ Try.underlying83 .nilFunc hz Kd true
    rw [HLK.out] at hlk
    simp only [Option.getD_some, Option.getD_none, Option.isSome_some, Option.isSome_none, if_true] at hlk
    have HF3 : Hid (Blk w3 39 hf _) := (HF2.out.on (Below.refl _ _).drew).on hb3
    have HO3 : Hid (Blk w3 39 w.heap.size _) := (HO2.out.on (Below.refl _ _).drew).on hb3
    have HB3 : Hid (Below w.heap.size w w3) := below_step HB2.out.drew (Nat.le_refl _) hb3
    have hS3 : w3.cell? ⟨hf, 0, none⟩ = some (.int .i64 Kd) := HF3.out.cell 0
    clear HF2 HO2 HB2 hb3 hm hz hS2
    refine hK.out _ _ hS3 (fun hHeld => ?_)
    clear hK K
    refine wpAnyH_ready (rs := [4]) (by kernel_rfl) (by simp) ?_
    refine AllReadyH.cons rfl (fun K hK => ?_) AllReadyH.nil
    go_simp
    refine hK.out _ _ hS3 (fun hHeld => ?_)
    clear hK K
    refine take_at (i := 5) (v := ?_) rfl rfl (by kernel_rfl) (by kernel_rfl) (by kernel_rfl) (fun _ _ _ h => h) (Or.inl ⟨by rfl, ?_⟩) (by assumption) ?_
    rotate_left
    · intro w hSw; (try dsimp only at hSw); go_simp; try with_reducible rfl
    try simp only [Act.put, List.setIfInBounds_toArray, List.set_cons_zero, List.set_cons_succ]
    refine take_at (i := 6) (v := ?_) rfl rfl (by kernel_rfl) (by kernel_rfl) (by kernel_rfl) (fun _ _ _ h => h) (Or.inl ⟨by rfl, ?_⟩) (by assumption) ?_
    rotate_left
    · intro w hSw; (try dsimp only at hSw); go_simp; try with_reducible rfl
    try simp only [Act.put, List.setIfInBounds_toArray, List.set_cons_zero, List.set_cons_succ]
    refine take_at (i := 7) (v := ?_) rfl rfl (by kernel_rfl) (by kernel_rfl) (by kernel_rfl) (fun _ _ _ h => h) (Or.inl ⟨by rfl, ?_⟩) (by assumption) ?_
    rotate_left
    · intro w hSw; (try dsimp only at hSw); go_simp; try with_reducible rfl
    try simp only [Act.put, List.setIfInBounds_toArray, List.set_cons_zero, List.set_cons_succ]
    refine take_at (i := 8) (v := ?_) rfl rfl (by kernel_rfl) (by kernel_rfl) (by kernel_rfl) (fun _ _ _ h => h) (Or.inl ⟨by rfl, ?_⟩) (by assumption) ?_
    rotate_left
    · intro w hSw; (try dsimp only at hSw); go_simp; try with_reducible rfl
    try simp only [Act.put, List.setIfInBounds_toArray, List.set_cons_zero, List.set_cons_succ]
    refine take_at (i := 9) (v := ?_) rfl rfl (by kernel_rfl) (by kernel_rfl) (by kernel_rfl) (fun _ _ _ h => h) (Or.inl ⟨by rfl, ?_⟩) (by assumption) ?_
    rotate_left
    · intro w hSw; (try dsimp only at hSw); go_simp; try with_reducible rfl
    try simp only [Act.put, List.setIfInBounds_toArray, List.set_cons_zero, List.set_cons_succ]
    refine wpAnyH_done (by kernel_rfl) (NoPanic.normal ?_) _
    clear hlk
    have e1 : ∀ p : Beh w3, p.w'.cell? ⟨hf, 1, none⟩ = some (.int .i64 G) := fun p => p.cell (HF3.out.cell 1)
    have eg := grp_of HXG (HR0.out.on HB3.out)
    go_wp2_with fail
    have hne_ : Nonempty (Beh w3) := ⟨⟨_, Below.refl _ _⟩⟩
    refine wp_region_quiet_beh (by kernel_rfl) (by kernel_rfl) ?_
    repeat (quiet_step (fail))
    refine wpQuiet_nil ?_
    intro wq hw_
    obtain ⟨⟨wz_, hbq⟩, hw_⟩ := hw_
    subst hw_
    try dsimp only
    clear hne_
    have HF4 : Hid (Blk wq 39 hf _) := HF3.out.on hbq
    have HO4 : Hid (Blk wq 39 w.heap.size _) := HO3.out.on hbq
    have HB4 : Hid (Below w.heap.size w wq) := below_step HB3.out (Nat.le_refl _) hbq
    clear HF3 HO3 HB3 hbq e1 eg hS3
    obtain ⟨w3, hw3⟩ : ∃ w3, wq = w3 := ⟨_, rfl⟩
    rw [hw3] at HF4 HO4 HB4 ⊢
    have HF3 := HF4
    have HO3 := HO4
    have HB3 := HB4
    clear hw3 HF4 HO4 HB4
    clear HF3
    go_wp2_with fail
    rw [← hER]
    clear hER
    refine (refusal_row ER w3).mono ?_
    rintro e w4 ⟨rfl, hb4⟩
    have HX := HO3.out.on hb4
    have HB4 : Hid (Below w.heap.size w w4) := below_step HB3.out (Nat.le_refl _) hb4
    clear hb4
    go_wp2_with (with_reducible refine wpList_storeBlk rfl 39 _ _ rfl w.heap.size #[.int .i64 0, .int .i64 0, .int .i64 0, .int .i64 0, .int .i64 0, .string ⟨#[]⟩, .slice none 0 0, .int .i64 0] #[.int .i64 9, .int .i64 0, .int .i64 0, .int .i64 0, .int .i64 0, .string ⟨#[]⟩, .slice none 0 0, .int .i64 ER] ?hx ?hy HX rfl ?hi ?h1 ?_)
    try (case hx => rfl)
    try (case hy => rfl)
    try (case hi => first | kernel_rfl | exact Option.map_eq_some_iff.1 (by kernel_rfl))
    try (case h1 => simp [Value.oneCell'])
    exact bodyPost_row rfl w.heap.size #[.int .i64 9, .int .i64 0, .int .i64 0, .int .i64 0, .int .i64 0, .string ⟨#[]⟩, .slice none 0 0, .int .i64 ER] rfl rfl (HX.setRow _) _ Try.underlying39 rfl (by kernel_rfl) (doTo_none (A := errF ER) rfl rfl (HR0.out.to (below_setRow HB4.out (Nat.le_refl _) _)))
  | some u =>
    have HLK : Hid (lookIV (waysL g) Kd = some u) := hlo
    clear hlo
    go_enter Try.func30, Try.ntmps30
    go_wp2_with fail
    try rw [hw0]
    refine CT.out.mono ?_
    rintro e w1 ⟨a1, c1, rfl, _, _, _, hb1⟩
    simp only [frmA]
    have HB1 : Hid (Below w.heap.size w w1) := below_step HB0.out (Nat.le_refl _) hb1
    have HO1 : Hid (Blk w1 39 w.heap.size _) := HO0.out.on hb1
    obtain ⟨w2, hw2⟩ : ∃ w2, w1.alloc (.cells #[.int .i64 Kd, .int .i64 G, .int .i64 S, .int .i64 Ep, .int .i64 M, .string bl, .slice a1 it.length c1, .int .i64 er] 39) = w2 := ⟨_, rfl⟩
    have hbA : Below w1.heap.size w1 w2 := by rw [← hw2]; exact below_new _ _
    have HF2 : Hid (Blk w2 39 w1.heap.size #[.int .i64 Kd, .int .i64 G, .int .i64 S, .int .i64 Ep, .int .i64 M, .string bl, .slice a1 it.length c1, .int .i64 er]) := by show Blk _ _ _ _; rw [← hw2]; exact Blk.new _ _ _
    have HO2 : Hid (Blk w2 39 w.heap.size _) := HO1.out.on hbA
    have HB2 : Hid (Below w.heap.size w w2) := below_step HB1.out (Nat.le_refl _) hbA
    obtain ⟨hf, hhf⟩ : ∃ hf, w1.heap.size = hf := ⟨_, rfl⟩
    have HHF : Hid (w.heap.size < hf) := by have := HO1.out.lt; show _ < _; omega
    rw [hhf] at HF2
    clear hbA hb1 CT HB0 HO0 HB1 HO1 hw0
    go_wp2_with fail
    try rw [hw2]
    try rw [hhf]
    clear hw2 hhf
    have hz : ∀ w, (zeroValue 81).run Try.prog w = .ok .nilFunc w := fun w => by kernel_rfl
    have hS2 : w2.drew.cell? ⟨hf, 0, none⟩ = some (.int .i64 Kd) := HF2.out.cell 0
    refine wp_region_noPanic ?_
    refine wp_region_held_drew (S := fun W => W.cell? ⟨hf, 0, none⟩ = some (.int .i64 Kd)) (by kernel_rfl) (by first | exact trivial | assumption | exact ⟨by assumption, by assumption⟩) (fun hHeld => ?_)
    refine take_at (i := 0) (v := ?_) rfl rfl (by kernel_rfl) (by kernel_rfl) (by kernel_rfl) (fun _ _ _ h => h) (Or.inl ⟨by rfl, ?_⟩) (by assumption) ?_
    rotate_left
    · intro w hSw; (try dsimp only at hSw); go_simp; try with_reducible rfl
    try simp only [Act.put, List.setIfInBounds_toArray, List.set_cons_zero, List.set_cons_succ]
    refine take_at (i := 2) (v := ?_) rfl rfl (by kernel_rfl) (by kernel_rfl) (by kernel_rfl) (fun _ _ _ h => h) (Or.inl ⟨by rfl, ?_⟩) (by assumption) ?_
    rotate_left
    · intro w hSw; (try dsimp only at hSw); go_simp; try with_reducible rfl
    try simp only [Act.put, List.setIfInBounds_toArray, List.set_cons_zero, List.set_cons_succ]
    refine take_at (i := 3) (v := ?_) rfl rfl (by kernel_rfl) (by kernel_rfl) (by kernel_rfl) (fun _ _ _ h => h) (Or.inl ⟨by rfl, ?_⟩) (by assumption) ?_
    rotate_left
    · intro w hSw; (try dsimp only at hSw); go_simp; try with_reducible rfl
    try simp only [Act.put, List.setIfInBounds_toArray, List.set_cons_zero, List.set_cons_succ]
    refine wpAnyH_ready (rs := [1]) (by kernel_rfl) (by simp) ?_
    refine AllReadyH.cons rfl (fun K hK => ?_) AllReadyH.nil
    go_simp
    refine (ways_any g _).mono ?_
    rintro e w3 ⟨r, rfl, hm, hb3⟩
    have hlk := hm.look 83 _ Try.underlying83 .nilFunc hz Kd true
    rw [HLK.out] at hlk
    simp only [Option.getD_some, Option.getD_none, Option.isSome_some, Option.isSome_none, if_true] at hlk
    have HF3 : Hid (Blk w3 39 hf _) := (HF2.out.on (Below.refl _ _).drew).on hb3
    have HO3 : Hid (Blk w3 39 w.heap.size _) := (HO2.out.on (Below.refl _ _).drew).on hb3
    have HB3 : Hid (Below w.heap.size w w3) := below_step HB2.out.drew (Nat.le_refl _) hb3
    have hS3 : w3.cell? ⟨hf, 0, none⟩ = some (.int .i64 Kd) := HF3.out.cell 0
    clear HF2 HO2 HB2 hb3 hm hz hS2
    refine hK.out _ _ hS3 (fun hHeld => ?_)
    clear hK K
    refine wpAnyH_ready (rs := [4]) (by kernel_rfl) (by simp) ?_
    refine AllReadyH.cons rfl (fun K hK => ?_) AllReadyH.nil
    go_simp
    refine hK.out _ _ hS3 (fun hHeld => ?_)
    clear hK K
    refine take_at (i := 5) (v := ?_) rfl rfl (by kernel_rfl) (by kernel_rfl) (by kernel_rfl) (fun _ _ _ h => h) (Or.inl ⟨by rfl, ?_⟩) (by assumption) ?_
    rotate_left
    · intro w hSw; (try dsimp only at hSw); go_simp; try with_reducible rfl
    try simp only [Act.put, List.setIfInBounds_toArray, List.set_cons_zero, List.set_cons_succ]
    refine take_at (i := 6) (v := ?_) rfl rfl (by kernel_rfl) (by kernel_rfl) (by kernel_rfl) (fun _ _ _ h => h) (Or.inl ⟨by rfl, ?_⟩) (by assumption) ?_
    rotate_left
    · intro w hSw; (try dsimp only at hSw); go_simp; try with_reducible rfl
    try simp only [Act.put, List.setIfInBounds_toArray, List.set_cons_zero, List.set_cons_succ]
    refine take_at (i := 7) (v := ?_) rfl rfl (by kernel_rfl) (by kernel_rfl) (by kernel_rfl) (fun _ _ _ h => h) (Or.inl ⟨by rfl, ?_⟩) (by assumption) ?_
    rotate_left
    · intro w hSw; (try dsimp only at hSw); go_simp; try with_reducible rfl
    try simp only [Act.put, List.setIfInBounds_toArray, List.set_cons_zero, List.set_cons_succ]
    refine take_at (i := 8) (v := ?_) rfl rfl (by kernel_rfl) (by kernel_rfl) (by kernel_rfl) (fun _ _ _ h => h) (Or.inl ⟨by rfl, ?_⟩) (by assumption) ?_
    rotate_left
    · intro w hSw; (try dsimp only at hSw); go_simp; try with_reducible rfl
    try simp only [Act.put, List.setIfInBounds_toArray, List.set_cons_zero, List.set_cons_succ]
    refine take_at (i := 9) (v := ?_) rfl rfl (by kernel_rfl) (by kernel_rfl) (by kernel_rfl) (fun _ _ _ h => h) (Or.inl ⟨by rfl, ?_⟩) (by assumption) ?_
    rotate_left
    · intro w hSw; (try dsimp only at hSw); go_simp; try with_reducible rfl
    try simp only [Act.put, List.setIfInBounds_toArray, List.set_cons_zero, List.set_cons_succ]
    refine wpAnyH_done (by kernel_rfl) (NoPanic.normal ?_) _
    clear hlk
    have e1 : ∀ p : Beh w3, p.w'.cell? ⟨hf, 1, none⟩ = some (.int .i64 G) := fun p => p.cell (HF3.out.cell 1)
    have eg := grp_of HXG (HR0.out.on HB3.out)
    go_wp2_with fail
    have hne_ : Nonempty (Beh w3) := ⟨⟨_, Below.refl _ _⟩⟩
    refine wp_region_quiet_beh (by kernel_rfl) (by kernel_rfl) ?_
    repeat (quiet_step (fail))
    refine wpQuiet_nil ?_
    intro wq hw_
    obtain ⟨⟨wz_, hbq⟩, hw_⟩ := hw_
    subst hw_
    try dsimp only
    clear hne_
    have HF4 : Hid (Blk wq 39 hf _) := HF3.out.on hbq
    have HO4 : Hid (Blk wq 39 w.heap.size _) := HO3.out.on hbq
    have HB4 : Hid (Below w.heap.size w wq) := below_step HB3.out (Nat.le_refl _) hbq
    clear HF3 HO3 HB3 hbq e1 eg hS3
    obtain ⟨w3, hw3⟩ : ∃ w3, wq = w3 := ⟨_, rfl⟩
    rw [hw3] at HF4 HO4 HB4 ⊢
    have HF3 := HF4
    have HO3 := HO4
    have HB3 := HB4
    clear hw3 HF4 HO4 HB4
    clear HF3
    go_wp2_with fail
    rw [← hER]
    clear hER
    refine (refusal_row ER w3).mono ?_
    rintro e w4 ⟨rfl, hb4⟩
    have HX := HO3.out.on hb4
    have HB4 : Hid (Below w.heap.size w w4) := below_step HB3.out (Nat.le_refl _) hb4
    clear hb4
    go_wp2_with (with_reducible refine wpList_storeBlk rfl 39 _ _ rfl w.heap.size #[.int .i64 0, .int .i64 0, .int .i64 0, .int .i64 0, .int .i64 0, .string ⟨#[]⟩, .slice none 0 0, .int .i64 0] #[.int .i64 9, .int .i64 0, .int .i64 0, .int .i64 0, .int .i64 0, .string ⟨#[]⟩, .slice none 0 0, .int .i64 ER] ?hx ?hy HX rfl ?hi ?h1 ?_)
    try (case hx => rfl)
    try (case hy => rfl)
    try (case hi => first | kernel_rfl | exact Option.map_eq_some_iff.1 (by kernel_rfl))
    try (case h1 => simp [Value.oneCell'])
    exact bodyPost_row rfl w.heap.size #[.int .i64 9, .int .i64 0, .int .i64 0, .int .i64 0, .int .i64 0, .string ⟨#[]⟩, .slice none 0 0, .int .i64 ER] rfl rfl (HX.setRow _) _ Try.underlying39 rfl (by kernel_rfl) (doTo_none (A := errF ER) rfl rfl (HR0.out.to (below_setRow HB4.out (Nat.le_refl _) _)))
end Go.Proofs.Ytkmdajenbidaaaa

/- Layer 21, the code: answer, to a frame of one kind. -/
namespace Go.Proofs.Ytkmdajenbidaaaa
open Go.RowKit
set_option maxRecDepth 100000
set_option linter.unusedSimpArgs false
set_option linter.unusedVariables false






set_option maxHeartbeats 8000000 in
theorem answerK_any (g : Nat) (v : Value) (X : RlT) (N : Nat) (hX : RlOk N X) (hN : N ≤ 4611686018427387000) (s : ByteArray) (hs : s.size ≤ 1048576) (w : World) (h : RlAt w g v X) (h0 : (takeFC s).2 = 0) (hG : (takeFC s).1.2.1 = X.1) (k1 : (takeFC s).1.1 ≠ 1) (k3 : (takeFC s).1.1 ≠ 3) (k5 : (takeFC s).1.1 ≠ 5) (k7 : (takeFC s).1.1 ≠ 7) :
    Calls Try.prog 30 #[.pointer (some ⟨g, 0, none⟩), .string s] w (DoTo w g v (hearF X s).1 (hearF X s).2) := by
  have HR0 : Hid (RlAt w g v X) := h
  have HK : Hid (RlOk N X ∧ N ≤ 4611686018427387000) := ⟨hX, hN⟩
  have hX0 : Blk (w.alloc (.cells zeroF 39)) 39 w.heap.size zeroF := Blk.new _ _ _
  have CT : Hid (Calls _ _ _ _ _) := takeF_any s (w.alloc (.cells zeroF 39)) hs
  have HO0 : Hid (Blk (w.alloc (.cells zeroF 39)) 39 w.heap.size zeroF) := hX0
  have HB0 : Hid (Below w.heap.size w (w.alloc (.cells zeroF 39))) := below_new w _
  have HF : Hid (FrOk (takeFC s).1) := takeFC_ok s
  have hfc : (takeFC s).2 = 0 ∨ (takeFC s).2 = 190 := by
    unfold takeFC
    split
    · exact .inr rfl
    · exact .inl rfl
  obtain ⟨R, hR⟩ : ∃ R, hearF X s = R := ⟨_, rfl⟩
  rw [hR]
  unfold hearF at hR
  obtain ⟨⟨F, E⟩, hFE⟩ : ∃ p, takeFC s = p := ⟨_, rfl⟩
  rw [hFE] at CT HF hfc hR h0 hG k1 k3 k5 k7
  simp only at hfc hR h0 hG k1 k3 k5 k7
  simp only [zeroF] at CT HO0 HB0
  obtain ⟨w0, hw0⟩ : ∃ w0, w.alloc (.cells #[.int .i64 0, .int .i64 0, .int .i64 0, .int .i64 0, .int .i64 0, .string ⟨#[]⟩, .slice none 0 0, .int .i64 0] 39) = w0 := ⟨_, rfl⟩
  rw [hw0] at CT HO0 HB0
  clear h hX hN hX0 hFE
  obtain ⟨Xg, hXg⟩ : ∃ Xg, X.1 = Xg := ⟨_, rfl⟩
  have HXG : Hid (X.1 = Xg) := hXg
  obtain ⟨Kd, G, S, Ep, M, bl, it, er⟩ := F
  simp only at hG k1 k3 k5 k7
  subst h0
  rw [if_neg (by simp)] at hR
  unfold doR at hR
  rw [hXg] at hR hG
  simp only at hR
  clear hXg hfc
  subst hG
  rw [if_neg (by simp), if_neg k1, if_neg k3, if_neg k5, if_neg k7] at hR
  subst hR
  have HLK : Hid (lookIV (waysL g) Kd = none) := by
    show (findIV Kd (waysL g) 0).map _ = none
    simp [waysL, findIV, k1, k3, k5, k7]
  obtain ⟨ER, hER⟩ : ∃ ER : Int, ER = 1 := ⟨_, rfl⟩
  rw [← hER]
  clear k1 k3 k5 k7
  go_enter Try.func30, Try.ntmps30
  go_wp2_with fail
  try rw [hw0]
  refine CT.out.mono ?_
  rintro e w1 ⟨a1, c1, rfl, _, _, _, hb1⟩
  simp only [frmA]
  have HB1 : Hid (Below w.heap.size w w1) := below_step HB0.out (Nat.le_refl _) hb1
  have HO1 : Hid (Blk w1 39 w.heap.size _) := HO0.out.on hb1
  obtain ⟨w2, hw2⟩ : ∃ w2, w1.alloc (.cells #[.int .i64 Kd, .int .i64 G, .int .i64 S, .int .i64 Ep, .int .i64 M, .string bl, .slice a1 it.length c1, .int .i64 er] 39) = w2 := ⟨_, rfl⟩
  have hbA : Below w1.heap.size w1 w2 := by rw [← hw2]; exact below_new _ _
  have HF2 : Hid (Blk w2 39 w1.heap.size #[.int .i64 Kd, .int .i64 G, .int .i64 S, .int .i64 Ep, .int .i64 M, .string bl, .slice a1 it.length c1, .int .i64 er]) := by show Blk _ _ _ _; rw [← hw2]; exact Blk.new _ _ _
  have HO2 : Hid (Blk w2 39 w.heap.size _) := HO1.out.on hbA
  have HB2 : Hid (Below w.heap.size w w2) := below_step HB1.out (Nat.le_refl _) hbA
  obtain ⟨hf, hhf⟩ : ∃ hf, w1.heap.size = hf := ⟨_, rfl⟩
  have HHF : Hid (w.heap.size < hf) := by have := HO1.out.lt; show _ < _; omega
  rw [hhf] at HF2
  clear hbA hb1 CT HB0 HO0 HB1 HO1 hw0
  go_wp2_with fail
  try rw [hw2]
  try rw [hhf]
  clear hw2 hhf
  have hz : ∀ w, (zeroValue 81).run Try.prog w = .ok .nilFunc w := fun w => by kernel_rfl
  have hS2 : w2.drew.cell? ⟨hf, 0, none⟩ = some (.int .i64 Kd) := HF2.out.cell 0
  refine wp_region_noPanic ?_
  refine wp_region_held_drew (S := fun W => W.cell? ⟨hf, 0, none⟩ = some (.int .i64 Kd)) (by kernel_rfl) (by first | exact trivial | assumption | exact ⟨by assumption, by assumption⟩) (fun hHeld => ?_)
  refine take_at (i := 0) (v := ?_) rfl rfl (by kernel_rfl) (by kernel_rfl) (by kernel_rfl) (fun _ _ _ h => h) (Or.inl ⟨by rfl, ?_⟩) (by assumption) ?_
  rotate_left
  · intro w hSw; (try dsimp only at hSw); go_simp; try with_reducible rfl
  try simp only [Act.put, List.setIfInBounds_toArray, List.set_cons_zero, List.set_cons_succ]
  refine take_at (i := 2) (v := ?_) rfl rfl (by kernel_rfl) (by kernel_rfl) (by kernel_rfl) (fun _ _ _ h => h) (Or.inl ⟨by rfl, ?_⟩) (by assumption) ?_
  rotate_left
  · intro w hSw; (try dsimp only at hSw); go_simp; try with_reducible rfl
  try simp only [Act.put, List.setIfInBounds_toArray, List.set_cons_zero, List.set_cons_succ]
  refine take_at (i := 3) (v := ?_) rfl rfl (by kernel_rfl) (by kernel_rfl) (by kernel_rfl) (fun _ _ _ h => h) (Or.inl ⟨by rfl, ?_⟩) (by assumption) ?_
  rotate_left
  · intro w hSw; (try dsimp only at hSw); go_simp; try with_reducible rfl
  try simp only [Act.put, List.setIfInBounds_toArray, List.set_cons_zero, List.set_cons_succ]
  refine wpAnyH_ready (rs := [1]) (by kernel_rfl) (by simp) ?_
  refine AllReadyH.cons rfl (fun K hK => ?_) AllReadyH.nil
  go_simp
  refine (ways_any g _).mono ?_
  rintro e w3 ⟨r, rfl, hm, hb3⟩
  have hlk := hm.look 83 _ Try.underlying83 .nilFunc hz Kd true
  rw [HLK.out] at hlk
  simp only [Option.getD_some, Option.getD_none, Option.isSome_some, Option.isSome_none, if_true] at hlk
  have HF3 : Hid (Blk w3 39 hf _) := (HF2.out.on (Below.refl _ _).drew).on hb3
  have HO3 : Hid (Blk w3 39 w.heap.size _) := (HO2.out.on (Below.refl _ _).drew).on hb3
  have HB3 : Hid (Below w.heap.size w w3) := below_step HB2.out.drew (Nat.le_refl _) hb3
  have hS3 : w3.cell? ⟨hf, 0, none⟩ = some (.int .i64 Kd) := HF3.out.cell 0
  clear HF2 HO2 HB2 hb3 hm hz hS2
  refine hK.out _ _ hS3 (fun hHeld => ?_)
  clear hK K
  refine wpAnyH_ready (rs := [4]) (by kernel_rfl) (by simp) ?_
  refine AllReadyH.cons rfl (fun K hK => ?_) AllReadyH.nil
  go_simp
  refine hK.out _ _ hS3 (fun hHeld => ?_)
  clear hK K
  refine take_at (i := 5) (v := ?_) rfl rfl (by kernel_rfl) (by kernel_rfl) (by kernel_rfl) (fun _ _ _ h => h) (Or.inl ⟨by rfl, ?_⟩) (by assumption) ?_
  rotate_left
  · intro w hSw; (try dsimp only at hSw); go_simp; try with_reducible rfl
  try simp only [Act.put, List.setIfInBounds_toArray, List.set_cons_zero, List.set_cons_succ]
  refine take_at (i := 6) (v := ?_) rfl rfl (by kernel_rfl) (by kernel_rfl) (by kernel_rfl) (fun _ _ _ h => h) (Or.inl ⟨by rfl, ?_⟩) (by assumption) ?_
  rotate_left
  · intro w hSw; (try dsimp only at hSw); go_simp; try with_reducible rfl
  try simp only [Act.put, List.setIfInBounds_toArray, List.set_cons_zero, List.set_cons_succ]
  refine take_at (i := 7) (v := ?_) rfl rfl (by kernel_rfl) (by kernel_rfl) (by kernel_rfl) (fun _ _ _ h => h) (Or.inl ⟨by rfl, ?_⟩) (by assumption) ?_
  rotate_left
  · intro w hSw; (try dsimp only at hSw); go_simp; try with_reducible rfl
  try simp only [Act.put, List.setIfInBounds_toArray, List.set_cons_zero, List.set_cons_succ]
  refine take_at (i := 8) (v := ?_) rfl rfl (by kernel_rfl) (by kernel_rfl) (by kernel_rfl) (fun _ _ _ h => h) (Or.inl ⟨by rfl, ?_⟩) (by assumption) ?_
  rotate_left
  · intro w hSw; (try dsimp only at hSw); go_simp; try with_reducible rfl
  try simp only [Act.put, List.setIfInBounds_toArray, List.set_cons_zero, List.set_cons_succ]
  refine take_at (i := 9) (v := ?_) rfl rfl (by kernel_rfl) (by kernel_rfl) (by kernel_rfl) (fun _ _ _ h => h) (Or.inl ⟨by rfl, ?_⟩) (by assumption) ?_
  rotate_left
  · intro w hSw; (try dsimp only at hSw); go_simp; try with_reducible rfl
  try simp only [Act.put, List.setIfInBounds_toArray, List.set_cons_zero, List.set_cons_succ]
  refine wpAnyH_done (by kernel_rfl) (NoPanic.normal ?_) _
  clear hlk
  have e1 : ∀ p : Beh w3, p.w'.cell? ⟨hf, 1, none⟩ = some (.int .i64 G) := fun p => p.cell (HF3.out.cell 1)
  have eg := grp_of HXG (HR0.out.on HB3.out)
  go_wp2_with fail
  have hne_ : Nonempty (Beh w3) := ⟨⟨_, Below.refl _ _⟩⟩
  refine wp_region_quiet_beh (by kernel_rfl) (by kernel_rfl) ?_
  repeat (quiet_step (fail))
  refine wpQuiet_nil ?_
  intro wq hw_
  obtain ⟨⟨wz_, hbq⟩, hw_⟩ := hw_
  subst hw_
  try dsimp only
  clear hne_
  have HF4 : Hid (Blk wq 39 hf _) := HF3.out.on hbq
  have HO4 : Hid (Blk wq 39 w.heap.size _) := HO3.out.on hbq
  have HB4 : Hid (Below w.heap.size w wq) := below_step HB3.out (Nat.le_refl _) hbq
  clear HF3 HO3 HB3 hbq e1 eg hS3
  obtain ⟨w3, hw3⟩ : ∃ w3, wq = w3 := ⟨_, rfl⟩
  rw [hw3] at HF4 HO4 HB4 ⊢
  have HF3 := HF4
  have HO3 := HO4
  have HB3 := HB4
  clear hw3 HF4 HO4 HB4
  clear HF3
  go_wp2_with fail
  rw [← hER]
  clear hER
  refine (refusal_row ER w3).mono ?_
  rintro e w4 ⟨rfl, hb4⟩
  have HX := HO3.out.on hb4
  have HB4 : Hid (Below w.heap.size w w4) := below_step HB3.out (Nat.le_refl _) hb4
  clear hb4
  go_wp2_with (with_reducible refine wpList_storeBlk rfl 39 _ _ rfl w.heap.size #[.int .i64 0, .int .i64 0, .int .i64 0, .int .i64 0, .int .i64 0, .string ⟨#[]⟩, .slice none 0 0, .int .i64 0] #[.int .i64 9, .int .i64 0, .int .i64 0, .int .i64 0, .int .i64 0, .string ⟨#[]⟩, .slice none 0 0, .int .i64 ER] ?hx ?hy HX rfl ?hi ?h1 ?_)
  try (case hx => rfl)
  try (case hy => rfl)
  try (case hi => first | kernel_rfl | exact Option.map_eq_some_iff.1 (by kernel_rfl))
  try (case h1 => simp [Value.oneCell'])
  exact bodyPost_row rfl w.heap.size #[.int .i64 9, .int .i64 0, .int .i64 0, .int .i64 0, .int .i64 0, .string ⟨#[]⟩, .slice none 0 0, .int .i64 ER] rfl rfl (HX.setRow _) _ Try.underlying39 rfl (by kernel_rfl) (doTo_none (A := errF ER) rfl rfl (HR0.out.to (below_setRow HB4.out (Nat.le_refl _) _)))
end Go.Proofs.Ytkmdajenbidaaaa

/- Layer 21, the code: answer, to any frame. -/
namespace Go.Proofs.Ytkmdajenbidaaaa
open Go.RowKit
set_option maxRecDepth 100000
set_option linter.unusedSimpArgs false
set_option linter.unusedVariables false

theorem answer_any (g : Nat) (v : Value) (X : RlT) (N : Nat) (hX : RlOk N X) (hN : N ≤ 4611686018427387000) (s : ByteArray) (hs : s.size ≤ 1048576) (w : World) (h : RlAt w g v X) :
    Calls Try.prog 30 #[.pointer (some ⟨g, 0, none⟩), .string s] w (DoTo w g v (hearF X s).1 (hearF X s).2) := by
  by_cases h0 : (takeFC s).2 = 0
  · by_cases hG : (takeFC s).1.2.1 = X.1
    · by_cases k1 : (takeFC s).1.1 = 1
      · exact answerA_any g v X N hX hN s hs w h h0 hG k1
      · by_cases k3 : (takeFC s).1.1 = 3
        · exact answerB_any g v X N hX hN s hs w h h0 hG k3
        · by_cases k5 : (takeFC s).1.1 = 5
          · exact answerC_any g v X N hX hN s hs w h h0 hG k5
          · by_cases k7 : (takeFC s).1.1 = 7
            · exact answerD_any g v X N hX hN s hs w h h0 hG k7
            · exact answerK_any g v X N hX hN s hs w h h0 hG k1 k3 k5 k7
    · exact answerG_any g v X N hX hN s hs w h h0 hG
  · exact answerE_any g v X N hX hN s hs w h h0
end Go.Proofs.Ytkmdajenbidaaaa
