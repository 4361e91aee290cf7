/- Layer 21, the laws' ground: a relay of the call's own; asks. -/
import Derived.Test.YtkmdajenbidaaaaReT
import Derived.Test.YtkmdajenbidaaaaReO
import Derived.Test.YtkmdajenbidaaaaRWiQ
import Derived.Test.YtkmdajenbidaaaaRWiN
namespace Go.Proofs.Ytkmdajenbidaaaa
open Go.RowKit
set_option maxRecDepth 100000
set_option linter.unusedSimpArgs false
set_option linter.unusedVariables false

theorem blk_types {w : World} {t t' : TypeId} {g : Nat} {cs cs' : Array Value} (h : Blk w t g cs) (h' : Blk w t' g cs') : t = t' := by
  have e : some (Obj.cells cs t (0, 0)) = some (Obj.cells cs' t' (0, 0)) := h.symm.trans h'
  injection e with e
  injection e

/-- What lies elsewhere stays. -/
def Ot (w w' : World) : Prop := ∀ (T : TypeId) (c : Nat) (cs : Array Value), T ≠ 31 → T ≠ 51 → Blk w T c cs → Blk w' T c cs

theorem Ot.refl (w : World) : Ot w w := fun _ _ _ _ _ h => h
theorem Ot.trans {a b c : World} (h1 : Ot a b) (h2 : Ot b c) : Ot a c := fun T k cs x y h => h2 T k cs x y (h1 T k cs x y h)
theorem Ot.ofBelow {w w' : World} (h : Below w.heap.size w w') : Ot w w' := fun T k cs _ _ hb => hb.on h

theorem RlTo.ot {w w' : World} {g : Nat} {v : Value} {X X' : RlT} (h0 : RlAt w g v X) (h : RlTo w g v X' w') : Ot w w' := fun T c cs hT hT2 hb => by
  obtain ⟨v', _, hk, _⟩ := h
  refine hb.kept hk (fun e => ?_) (fun e => ?_)
  · subst e; exact hT2 (blk_types hb h0.blk)
  · rcases h0.own.blk with ⟨e1, _⟩ | ⟨g', cap, cur, e1, _, hb', _⟩
    · rw [e1] at e; cases e
    · rw [e1] at e
      have e2 : c = g' := by injection e
      subst e2
      exact hT (blk_types hb hb')

/-- A relay of the call's own. -/
structure RlV (w0 : World) (g : Nat) (X : RlT) (w : World) : Prop where
  bel : Below w0.heap.size w0 w
  lg : w0.heap.size ≤ g
  rel : ∃ v, RlAt w g v X ∧ ∀ k, v.ownBlock = some k → w0.heap.size ≤ k

theorem RlV.on {w0 w w' : World} {g : Nat} {X : RlT} (h : RlV w0 g X w) (hb : Below w.heap.size w w') : RlV w0 g X w' :=
  ⟨below_step h.bel (Nat.le_refl _) hb, h.lg, h.rel.imp (fun v k => ⟨k.1.on hb, k.2⟩)⟩

theorem RlV.to {w0 w w' : World} {g : Nat} {v : Value} {X X' : RlT} (h : RlV w0 g X w) (hv : ∀ k, v.ownBlock = some k → w0.heap.size ≤ k) (ht : RlTo w g v X' w') : RlV w0 g X' w' := by
  obtain ⟨v', k1, k2, k3⟩ := ht
  refine ⟨h.bel.trans (k2.below _ h.bel.size h.lg hv), h.lg, v', k1, fun k hk => ?_⟩
  rcases k3 k hk with e | e
  · exact hv k e
  · exact Nat.le_trans h.bel.size e

/-- The first of the answer's records has a number. -/
theorem ans_first {N : Nat} {X : RlT} (h : RlOk N X) (F : FrmT) (hn : (doR X F).2.2.2.2.2.2.2.1.length ≠ 0) : (itL (doR X F).2.2.2.2.2.2.2.1 0).1 ≠ 0 := by
  have hb := h.b0
  revert hn
  unfold doR
  split
  · intro hn; exact absurd rfl hn
  · split
    · unfold addR
      split
      · intro hn; exact absurd rfl hn
      · split
        · intro hn; exact absurd rfl hn
        · split
          · intro hn; exact absurd rfl hn
          · intro hn; exact absurd rfl hn
    · split
      · show (giveR X F).2.2.2.2.2.2.1.length ≠ 0 → (itL (giveR X F).2.2.2.2.2.2.1 0).1 ≠ 0
        unfold giveR
        split
        · intro hn; exact absurd rfl hn
        · show (firstL _ _).length ≠ 0 → (itL (firstL _ _) 0).1 ≠ 0
          unfold firstL
          obtain ⟨k, hk⟩ : ∃ k, (min F.2.2.1 (lastL X + 1) - 1 - X.2.2.1.1).toNat = k := ⟨_, rfl⟩
          obtain ⟨m, hm⟩ := fitL_take ((X.2.2.2.drop k).take (min F.2.2.2.2.1 32).toNat)
          rw [hk, hm]
          intro hn
          rw [List.length_take, List.length_take, List.length_drop] at hn
          rw [itL_take _ _ _ (by omega), itL_take _ _ _ (by omega), itL_drop, h.seq _ (by omega)]
          omega
      · split
        · unfold keepR
          split
          · intro hn; exact absurd rfl hn
          · split
            · intro hn; exact absurd rfl hn
            · intro hn; exact absurd rfl hn
        · split
          · show (showR X).2.2.2.2.2.2.1.length ≠ 0 → _
            unfold showR
            split
            · intro hn; exact absurd rfl hn
            · intro hn; exact absurd rfl hn
          · intro hn; exact absurd rfl hn

/-- Records that have numbers don't lie in a frame that is nothing yet. -/
theorem its_apart {w : World} {a : Option Addr} {n : Nat} {l : List ItT} {T : TypeId} {gr : Nat} (h : ItsAt w a n l) (hn : n ≠ 0) (h1 : (itL l 0).1 ≠ 0) (hb : Blk w T gr zeroF) : ∀ ad, a = some ad → ad.block ≠ gr := by
  obtain ⟨b, off, rfl, hc⟩ := h.2.resolve_left hn
  rintro ad e rfl
  cases e
  obtain ⟨k0, k1, k2⟩ := hc 0 (by omega)
  rw [Nat.zero_mul, Nat.add_zero] at k0 k1 k2
  have e0 := (hb.cell off).symm.trans k0
  have e2 := (hb.cell (off + 2)).symm.trans k2
  unfold zeroF at e0 e2
  have : off + 2 = 5 := by
    rcases (show off + 2 = 2 ∨ off + 2 = 3 ∨ off + 2 = 4 ∨ off + 2 = 5 ∨ off + 2 = 6 ∨ off + 2 = 7 ∨ 8 ≤ off + 2 by omega) with e | e | e | e | e | e | e
    · rw [e] at e2; simp at e2
    · rw [e] at e2; simp at e2
    · rw [e] at e2; simp at e2
    · exact e
    · rw [e] at e2; simp at e2
    · rw [e] at e2; simp at e2
    · rw [Array.getElem?_eq_none (by simpa using e)] at e2; cases e2
  obtain rfl : off = 3 := by omega
  simp at e0
  exact h1 e0.symm

set_option maxHeartbeats 4000000 in
theorem asks_any (w0 : World) (g : Nat) (X : RlT) (N : Nat) (hX : RlOk N X) (hp : EpOk X) (hN : N ≤ 1099511627774) (F : FrmT) (hF : FitF F) (a : Option Addr) (c : Nat) (w : World) (hI : ItsAt w a F.2.2.2.2.2.2.1.length F.2.2.2.2.2.2.1) (h : RlV w0 g X w) :
    Calls Try.prog 17 #[.pointer (some ⟨g, 0, none⟩), .agg (frmA F a c)] w fun e w' => ∃ a' c', e = .returned (.tuple #[.agg (frmA (withG (doR X F).2 X.1) a' c'), .bool true]) ∧ (doR X F).2.2.2.2.2.2.2.1.length ≤ c' ∧ ItsAt w' a' (doR X F).2.2.2.2.2.2.2.1.length (doR X F).2.2.2.2.2.2.2.1 ∧ RlV w0 g (doR X F).1 w' ∧ Ot w w' := by
  obtain ⟨v, hR, hvo⟩ := h.rel
  have HR0 : Hid (RlAt w g v X) := hR
  have HVO : Hid (∀ k, v.ownBlock = some k → w0.heap.size ≤ k) := hvo
  have HS0 : Hid (RlV w0 g X w) := h
  obtain ⟨hp1, hp2⟩ := fit_put hF
  have hB := ans_fit hX hp (by omega) hF.ok
  obtain ⟨hb1, hb2⟩ := fit_put hB
  have htk := fit_take hB
  rw [takeF_same _ hb2] at htk
  have hh : hearR X (putFC F).1 = ((doR X F).1, (putFC (withG (doR X F).2 X.1)).1) := by unfold hearR; rw [hearF_put hF]
  have hfirst := ans_first hX F
  obtain ⟨S, hS⟩ : ∃ S, (putFC F).1 = S := ⟨_, rfl⟩
  have hpF : putFC F = (S, 0) := Prod.ext hS hp1
  rw [hS] at hp2 hh
  have hlen := hF.n
  have hsz := fun i => (hF.it i).2.2
  have hblF := hF.bl
  have CP' : ∀ W, Below w.heap.size w W → _ := fun W hW => rputF_any F a c W (by omega) (hI.below hW) (fun i => Nat.le_trans (hsz i) (by decide)) (Nat.le_trans hblF (by decide))
  rw [hpF] at CP'
  have CH' : ∀ W, RlAt W g v X → _ := fun W hW => hear_any g v X N hX (by omega) S (by omega) W hW
  rw [hh] at CH'
  obtain ⟨R, hRR⟩ : ∃ R, doR X F = R := ⟨_, rfl⟩
  rw [hRR] at CH' hB htk hb1 hb2 hfirst ⊢
  obtain ⟨Q, hQ⟩ : ∃ Q, (putFC (withG R.2 X.1)).1 = Q := ⟨_, rfl⟩
  rw [hQ] at CH' htk hb2
  have CT' : ∀ W, _ := fun W => rtakeF_any Q W (by omega)
  rw [htk] at CT'
  obtain ⟨Kd, G, Sq, E, M, bl, it, er⟩ := F
  obtain ⟨X', A1, A2, A3, A4, A5, A6, A7, A8⟩ := R
  simp only [frmA, withG, TakenF] at CP' CH' CT' hfirst ⊢
  have CP : Hid (∀ W, Below w.heap.size w W → _) := CP'
  have CH : Hid (∀ W, RlAt W g v X → _) := CH'
  have CT : Hid (∀ W, _) := CT'
  have HFI : Hid (A7.length ≠ 0 → (itL A7 0).1 ≠ 0) := hfirst
  obtain ⟨W0, hW0⟩ : ∃ W0, (w.alloc (.cells #[.int .i64 Kd, .int .i64 G, .int .i64 Sq, .int .i64 E, .int .i64 M, .string bl, .slice a it.length c, .int .i64 er] 39)).alloc (.cells #[.int .i64 0, .int .i64 0, .int .i64 0, .int .i64 0, .int .i64 0, .string ⟨#[]⟩, .slice none 0 0, .int .i64 0] 39) = W0 := ⟨_, rfl⟩
  have hB0 : Below w.heap.size w W0 := by rw [← hW0]; exact (below_new w _).alloc (by simp) _
  have HB0 : Hid (Below w.heap.size w W0) := hB0
  have hf0 : Blk W0 39 w.heap.size #[.int .i64 Kd, .int .i64 G, .int .i64 Sq, .int .i64 E, .int .i64 M, .string bl, .slice a it.length c, .int .i64 er] := by rw [← hW0]; exact (Blk.new w _ _).alloc _
  have HO0 : Hid (Blk W0 39 (w.heap.size + 1) zeroF) := by show Blk _ _ _ _; rw [← hW0]; exact Blk.new' _ _ _ _ (by simp)
  have d0 : W0.cell? ⟨w.heap.size, 0, none⟩ = some (.int .i64 Kd) := hf0.cell 0
  have d1 : W0.cell? ⟨w.heap.size, 1, none⟩ = some (.int .i64 G) := hf0.cell 1
  have d2 : W0.cell? ⟨w.heap.size, 2, none⟩ = some (.int .i64 Sq) := hf0.cell 2
  have d3 : W0.cell? ⟨w.heap.size, 3, none⟩ = some (.int .i64 E) := hf0.cell 3
  have d4 : W0.cell? ⟨w.heap.size, 4, none⟩ = some (.int .i64 M) := hf0.cell 4
  have d5 : W0.cell? ⟨w.heap.size, 5, none⟩ = some (.string bl) := hf0.cell 5
  have d6 : W0.cell? ⟨w.heap.size, 6, none⟩ = some (.slice a it.length c) := hf0.cell 6
  have d7 : W0.cell? ⟨w.heap.size, 7, none⟩ = some (.int .i64 er) := hf0.cell 7
  clear h hR hvo hp1 hp2 hB hb1 hb2 htk hh hfirst hS hpF hlen hsz hblF CP' CH' CT' hRR hQ hB0 hf0 hI hX hp hF
  go_enter Try.func17, Try.ntmps17
  go_wp2_with fail
  try rw [hW0]
  refine (CP.out W0 HB0.out).mono ?_
  rintro e w1 ⟨rfl, hb1⟩
  have HB1 : Hid (Below w.heap.size w w1) := below_step HB0.out (Nat.le_refl _) hb1
  have HO1 : Hid (Blk w1 39 (w.heap.size + 1) zeroF) := HO0.out.on hb1
  have HR1 : Hid (RlAt w1 g v X) := HR0.out.on HB1.out
  clear HB0 HO0 hb1 d0 d1 d2 d3 d4 d5 d6 d7 CP hW0
  go_wp2_with fail
  refine (CH.out w1 HR1.out).mono ?_
  rintro e w2 ⟨rfl, hr2⟩
  have HT2 : Hid (RlTo w1 g v X' w2) := hr2
  have HO2 : Hid (Blk w2 39 (w.heap.size + 1) zeroF) := RlTo.ot HR1.out hr2 _ _ _ (by decide) (by decide) HO1.out
  clear CH hr2
  go_wp2_with fail
  refine (CT.out w2).mono ?_
  rintro e w3 ⟨a3, c3, rfl, hc3, _, hi3, hb3⟩
  simp only [frmA]
  have HT3 : Hid (RlTo w1 g v X' w3) := HT2.out.on hb3
  have HO3 : Hid (Blk w3 39 (w.heap.size + 1) zeroF) := HO2.out.on hb3
  have HI3 : Hid (ItsAt w3 a3 A7.length A7 ∧ A7.length ≤ c3) := ⟨hi3, hc3⟩
  clear CT hb3 hi3 hc3 HT2 HO2
  obtain ⟨w4, hw4⟩ : ∃ w4, w3.alloc (.cells #[.int .i64 A1, .int .i64 X.1, .int .i64 A3, .int .i64 A4, .int .i64 A5, .string A6, .slice a3 A7.length c3, .int .i64 A8] 39) = w4 := ⟨_, rfl⟩
  have hb4 : Below w3.heap.size w3 w4 := by rw [← hw4]; exact below_new _ _
  have hf4 : Blk w4 39 w3.heap.size #[.int .i64 A1, .int .i64 X.1, .int .i64 A3, .int .i64 A4, .int .i64 A5, .string A6, .slice a3 A7.length c3, .int .i64 A8] := by rw [← hw4]; exact Blk.new _ _ _
  have HT4 : Hid (RlTo w1 g v X' w4) := HT3.out.on hb4
  have HO4 : Hid (Blk w4 39 (w.heap.size + 1) zeroF) := HO3.out.on hb4
  have HI4 : Hid (ItsAt w4 a3 A7.length A7 ∧ A7.length ≤ c3) := ⟨HI3.out.1.below hb4, HI3.out.2⟩
  have d0 : w4.cell? ⟨w3.heap.size, 0, none⟩ = some (.int .i64 A1) := hf4.cell 0
  have d1 : w4.cell? ⟨w3.heap.size, 1, none⟩ = some (.int .i64 X.1) := hf4.cell 1
  have d2 : w4.cell? ⟨w3.heap.size, 2, none⟩ = some (.int .i64 A3) := hf4.cell 2
  have d3 : w4.cell? ⟨w3.heap.size, 3, none⟩ = some (.int .i64 A4) := hf4.cell 3
  have d4 : w4.cell? ⟨w3.heap.size, 4, none⟩ = some (.int .i64 A5) := hf4.cell 4
  have d5 : w4.cell? ⟨w3.heap.size, 5, none⟩ = some (.string A6) := hf4.cell 5
  have d6 : w4.cell? ⟨w3.heap.size, 6, none⟩ = some (.slice a3 A7.length c3) := hf4.cell 6
  have d7 : w4.cell? ⟨w3.heap.size, 7, none⟩ = some (.int .i64 A8) := hf4.cell 7
  have HX := HO4.out
  simp only [zeroF] at HX
  clear hb4 hf4 HT3 HO3 HI3
  go_wp2_with (with_reducible refine wpList_storeBlk rfl 39 _ _ rfl (w.heap.size + 1) #[.int .i64 0, .int .i64 0, .int .i64 0, .int .i64 0, .int .i64 0, .string ⟨#[]⟩, .slice none 0 0, .int .i64 0] #[.int .i64 A1, .int .i64 X.1, .int .i64 A3, .int .i64 A4, .int .i64 A5, .string A6, .slice a3 A7.length c3, .int .i64 A8] ?hx ?hy HX rfl ?hi ?h1 ?_)
  try (case hx => rfl)
  try (case hy => rfl)
  try (case hi => first | kernel_rfl | exact Option.map_eq_some_iff.1 (by kernel_rfl))
  try (case h1 => simp [Value.oneCell'])
  refine bodyPost_rowTmp rfl (w.heap.size + 1) #[.int .i64 A1, .int .i64 X.1, .int .i64 A3, .int .i64 A4, .int .i64 A5, .string A6, .slice a3 A7.length c3, .int .i64 A8] _ rfl rfl rfl (HX.setRow _) _ Try.underlying39 rfl (by kernel_rfl) ⟨a3, c3, rfl, HI4.out.2, ?_, ?_, ?_⟩
  · by_cases e : A7.length = 0
    · exact ⟨rfl, .inl e⟩
    · exact HI4.out.1.setRow _ _ (its_apart HI4.out.1 e (HFI.out e) HX)
  · exact HS0.out.to HVO.out (RlTo.store (v0 := v) HR0.out HB1.out (w.heap.size + 1) (by omega) HO1.out.lt HT4.out _)
  · exact RlTo.ot HR0.out (RlTo.store (v0 := v) HR0.out HB1.out (w.heap.size + 1) (by omega) HO1.out.lt HT4.out _)
end Go.Proofs.Ytkmdajenbidaaaa
