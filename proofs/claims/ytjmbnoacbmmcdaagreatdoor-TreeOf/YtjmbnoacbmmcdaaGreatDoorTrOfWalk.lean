/- The walk of TreeOf (layer 11). -/
import Derived.Test.YtjmbnoacbmmcdaaGreatDoorL1
import Derived.Test.YtjmbnoacbmmcdaaGreatDoorTrOh
import Derived.Test.YtjmbnoacbmmcdaaGreatDoorTmOg
import Derived.Test.YtjmbnoacbmmcdaaGreatDoorRTrV
import Derived.Test.YtjmbnoacbmmcdaaGreatDoorTmFw
import Derived.Deep.DeepCutAuto
namespace Go.Proofs.YtjmbnoacbmmcdaaGreatDoor
open Go.RowKit
set_option linter.unusedSimpArgs false

theorem TreeG.shape2 {F : Nat → Prop} {w : World} {v : Value} {t : TreeT} (h : TreeG F w v t) : ∃ a1 n1 c1 a2 n2 c2 b1 b2, v = .agg #[.slice a1 n1 c1, .slice a2 n2 c2, .int .i64 b1, .int .i64 b2] := by
  obtain ⟨a1, c1, a2, c2, h, _⟩ := h
  exact ⟨a1, _, c1, a2, _, c2, _, _, h⟩

/-- What stays of a tree made of operations: a property that all of them have. -/
theorem of_all (M : OpT → Bool) (P : OpT → Prop) : ∀ (q : List OpT) (t T : TreeT), ofF M q t = (T, 0) → (∀ o ∈ t.2.1, P o) → (∀ o ∈ q, P o) → ∀ o ∈ T.2.1, P o := by
  intro q
  induction q with
  | nil =>
    intro t T h hm _
    obtain rfl : t = T := congrArg Prod.fst h
    exact hm
  | cons o q ih =>
    intro t T h hm hq
    rw [ofF_join] at h
    by_cases h0 : (joinP M t o).2 = 0
    · rw [if_neg (by simp [h0])] at h
      obtain ⟨hj, _, _⟩ := join_inv M t o h0
      rw [hj] at h
      exact ih _ _ h (fun x hx => by
        rcases (putO_mem o t.2.1 x).1 hx with rfl | hx
        · exact hq _ (List.mem_cons_self ..)
        · exact hm x hx) (fun x hx => hq x (List.mem_cons_of_mem _ hx))
    · rw [if_pos h0] at h
      exact absurd (congrArg Prod.snd h) h0

/-- Of a snapshot that is a tree's: it is the fold, and the tree's own snapshot makes it again. -/
theorem code_twice (M : OpT → Bool) (D : Bool) (l : List NodeT) (ops : List OpT) (b : Int × Int) (T : TreeT) (h : codeP M D (l, ops, b) = (T, 0)) (hn : l.length + ops.length ≤ 500) : T.1 = l ∧ T.2.2 = b ∧ T.2.1.length = ops.length ∧ (∀ P : OpT → Prop, (∀ o ∈ ops, P o) → ∀ o ∈ T.2.1, P o) ∧ (SortO T.2.1 → codeP M D (T.1, T.2.1, T.2.2) = (T, 0)) := by
  unfold codeP at h
  simp only at h
  by_cases h1 : b ≠ (0, 0) ∧ ¬ MayS b
  · rw [if_pos h1] at h; cases h
  · rw [if_neg h1] at h
    by_cases h2 : D = false
    · rw [if_pos h2] at h; cases h
    · rw [if_neg h2] at h
      obtain ⟨k1, k2, k3, _⟩ := of_inv M ops _ T h (fun _ h => absurd h List.not_mem_nil)
      refine ⟨k1, k2, by rw [k3]; simp, fun P hP => of_all M P ops _ T h (fun _ h => absurd h List.not_mem_nil) hP, fun hs => ?_⟩
      have ht := of_twice M l ops b T h hs hn
      simp only at k1 k2
      unfold codeP
      simp only
      rw [k2] at ht ⊢
      rw [if_neg h1, if_neg h2]
      exact ht

/-- Few nodes, of few bytes. -/
def FewN (l : List NodeT) (k : Nat) : Prop := ∀ j, j < k → (nL l j).2.2.1.size ≤ 200 ∧ (nL l j).2.2.2.size ≤ 200

/-- The world in which the law's snapshot lies. -/
structure OfS (w W : World) (g0 : Nat) (cs : Array Value) : Prop where
  bel : Below w.heap.size w W
  k : Blk W 50 g0 cs

theorem OfS.on {w W W' : World} {g0 : Nat} {cs : Array Value} (h : OfS w W g0 cs) (hb : Below W.heap.size W W') : OfS w W' g0 cs := ⟨below_step h.bel (Nat.le_refl _) hb, h.k.on hb⟩

theorem OfS.cells {w W : World} {g0 n1 n2 c1 c2 : Nat} {a1 a2 : Option Addr} {b1 b2 : Int} (h : OfS w W g0 #[.slice a1 n1 c1, .slice a2 n2 c2, .int .i64 b1, .int .i64 b2]) : W.cell? ⟨g0, 0, none⟩ = some (.slice a1 n1 c1) ∧ W.cell? ⟨g0, 1, none⟩ = some (.slice a2 n2 c2) ∧ W.cell? ⟨g0, 2, none⟩ = some (.int .i64 b1) ∧ W.cell? ⟨g0, 3, none⟩ = some (.int .i64 b2) := ⟨h.k.cell 0, h.k.cell 1, h.k.cell 2, h.k.cell 3⟩

/-- The code's tree, the document's, and its cell. -/
structure OfT (w W : World) (g f m : Nat) (r : Option Nat) (T : TreeT) (cs : Array Value) (hq : Nat) : Prop where
  tr : Tr w W g f m r T
  tg : TreeG (tfoot g f m r) W (.agg cs) T
  q : Blk W 32 hq cs
  far : ∀ k, tfoot g f m r k → k < hq

theorem OfT.on {w W W' : World} {g f m hq : Nat} {r : Option Nat} {T : TreeT} {cs : Array Value} (h : OfT w W g f m r T cs hq) (hb : Below W.heap.size W W') : OfT w W' g f m r T cs hq := ⟨h.tr.on hb, h.tg.on hb, h.q.on hb, h.far⟩

theorem OfT.kept {w W W' : World} {g f m hq : Nat} {r : Option Nat} {T : TreeT} {cs : Array Value} (h : OfT w W g f m r T cs hq) (hT : TreeIn W' g f m r T) (hK : KeptF (tfoot g f m r) W W') : OfT w W' g f m r T cs hq :=
  ⟨h.tr.next hT hK (Nx.refl _ _), h.tg.kept hK, h.q.keptG hK (fun t => by have := h.far _ t; omega), h.far⟩

theorem OfT.cells {w W : World} {g f m hq n1 n2 c1 c2 : Nat} {r : Option Nat} {T : TreeT} {a1 a2 : Option Addr} {b1 b2 : Int} (h : OfT w W g f m r T #[.slice a1 n1 c1, .slice a2 n2 c2, .int .i64 b1, .int .i64 b2] hq) : W.cell? ⟨hq, 0, none⟩ = some (.slice a1 n1 c1) ∧ W.cell? ⟨hq, 1, none⟩ = some (.slice a2 n2 c2) ∧ W.cell? ⟨hq, 2, none⟩ = some (.int .i64 b1) ∧ W.cell? ⟨hq, 3, none⟩ = some (.int .i64 b2) := ⟨h.q.cell 0, h.q.cell 1, h.q.cell 2, h.q.cell 3⟩

set_option maxRecDepth 100000 in
set_option maxHeartbeats 8000000 in
theorem treeOf_walk (l : List NodeT) (ops : List OpT) (b1 b2 : Int) (a1 a2 : Option Addr) (c1 c2 : Nat) (w : World) (hI1 : NodesAt w a1 l.length l) (hI2 : OpsAt w a2 ops.length ops) (hz1 : ∀ q ∈ l, NodeOkT q) (hz2 : ∀ q ∈ ops, OpOk q) (hm1 : l.length ≤ maxLen) (hm2 : ops.length ≤ maxLen) (hG : Glob8 w) :
    Calls Tryz.prog 4 #[.agg #[.slice a1 l.length c1, .slice a2 ops.length c2, .int .i64 b1, .int .i64 b2]] w fun e w' => e = .returned (.bool true) ∧ Below w.heap.size w w' := by
  obtain ⟨M, hM⟩ := mayM_ex
  have HM : Hid (∀ o, M o = true ↔ MayO o) := hM
  have HG : Hid (Glob8 w) := hG
  have HI1 : Hid (NodesAt w a1 l.length l) := hI1
  have HI2 : Hid (OpsAt w a2 ops.length ops) := hI2
  have HZ1 : Hid (∀ q ∈ l, NodeOkT q) := hz1
  have hmn1 : l.length ≤ 9223372036854775807 := hm1
  have hmn2 : ops.length ≤ 9223372036854775807 := hm2
  have CW : Hid (∀ W, Below w.heap.size w W → Calls Tryz.prog 7 #[] W fun e w' => e = .returned (.bool true) ∧ Below W.heap.size W w') := fun W hW => awake11 W (HG.out.below hW)
  have CF1 : Hid (FewO ops 30 → ∀ W, Below w.heap.size w W → Calls Tryz.prog 6 #[.slice a2 ops.length c2, .int .i64 30] W fun e w' => e = .returned (.bool true) ∧ Below W.heap.size W w') := fun hF W hW => few_yes ops a2 _ c2 30 W hm2 (by decide) (hI2.below hW) hz2 hF
  have CF0 : Hid (¬ FewO ops 30 → ∀ W, Below w.heap.size w W → Calls Tryz.prog 6 #[.slice a2 ops.length c2, .int .i64 30] W fun e w' => e = .returned (.bool false) ∧ Below W.heap.size W w') := fun hF W hW => few_no ops a2 _ c2 30 W hm2 (by decide) (hI2.below hW) hz2 hF
  obtain ⟨n1, hn1⟩ : ∃ n1, l.length = n1 := ⟨_, rfl⟩
  obtain ⟨n2, hn2⟩ : ∃ n2, ops.length = n2 := ⟨_, rfl⟩
  have HN1 : Hid (l.length = n1) := hn1
  have HN2 : Hid (ops.length = n2) := hn2
  rw [hn1] at HI1 hmn1 ⊢
  rw [hn2] at HI2 hmn2 ⊢
  simp only [hn2] at CF1 CF0
  clear hM hG hI1 hI2 hz1 hz2 hm1 hm2 hn1 hn2
  go_enter Tryz.func4, Tryz.ntmps4
  go_wp2_with fail
  obtain ⟨g0, hg0⟩ : ∃ g0, w.heap.size = g0 := ⟨_, rfl⟩
  obtain ⟨w0, hw0⟩ : ∃ w0, w.alloc (.cells #[.slice a1 n1 c1, .slice a2 n2 c2, .int .i64 b1, .int .i64 b2] 50) = w0 := ⟨_, rfl⟩
  have HS0 : Hid (OfS w w0 g0 #[.slice a1 n1 c1, .slice a2 n2 c2, .int .i64 b1, .int .i64 b2]) := by show OfS _ _ _ _; rw [← hw0, ← hg0]; exact ⟨below_new _ _, Blk.new _ _ _⟩
  have HL0 : Hid (w.heap.size ≤ g0) := by show _ ≤ _; omega
  try rw [hw0]
  try rw [hg0]
  have hS0 := HS0.out.cells
  clear hw0 hg0
  by_cases hF : FewO ops 30
  · have HF : Hid (FewO ops 30) := hF
    have CF : Hid (∀ W, Below w.heap.size w W → _) := CF1.out hF
    have hn : n2 ≤ 30 := by rw [← HN2.out]; exact hF.1
    clear CF1 CF0 hF
    go_wp2_with fail
    refine (CF.out _ HS0.out.bel).mono ?_
    rintro e w1 ⟨rfl, hb1⟩
    have HS1 : Hid (OfS w w1 g0 #[.slice a1 n1 c1, .slice a2 n2 c2, .int .i64 b1, .int .i64 b2]) := HS0.out.on hb1
    have hS1 := HS1.out.cells
    clear CF hb1 HS0 hS0
    by_cases h30 : n1 ≤ 30
    · have b30 : ¬ ((n1 : Int) > 30) := by omega
      go_wp2_with fail
      go_loopw [3] (fun i wr => ∃ k : Nat, k ≤ n1 ∧ i = .int .i64 k ∧ Hid (FewN l k) ∧ Hid (OfS w wr g0 #[.slice a1 n1 c1, .slice a2 n2 c2, .int .i64 b1, .int .i64 b2])) (fun i _ => n1 - (intOf i).toNat)
      case atStart => exact ⟨0, Nat.zero_le _, rfl, fun j hj => absurd hj (Nat.not_lt_zero _), HS1⟩
      case round =>
        clear HS1 hS1
        obtain ⟨k, hk, rfl, HFn, HS⟩ := hrel
        have hS := HS.out.cells
        by_cases hlt : k < n1
        · have b0 : (k : Int) < (n1 : Int) := by omega
          obtain ⟨b, off, rfl, _⟩ := HI1.out.2.some (by omega)
          obtain ⟨x0, x1, x2, x3, x4, x5⟩ := (HI1.out.below HS.out.bel).cells k hlt
          obtain ⟨z5, z6⟩ := HZ1.out _ (nL_mem l k (by rw [HN1.out]; exact hlt))
          have z5' : (nL l k).2.2.1.size ≤ 9223372036854775807 := z5
          have z6' : (nL l k).2.2.2.size ≤ 9223372036854775807 := z6
          clear z5 z6
          have HFs : Hid ((nL l k).2.2.1.size ≤ 200 → (nL l k).2.2.2.size ≤ 200 → FewN l (k + 1)) := fun h1 h2 j hj => by
            by_cases e : j < k
            · exact HFn.out j e
            · obtain rfl : j = k := by omega
              exact ⟨h1, h2⟩
          obtain ⟨⟨⟨m1, m2⟩, ⟨m3, m4⟩, m5, m6⟩, hY⟩ : ∃ Y, nL l k = Y := ⟨_, rfl⟩
          rw [hY] at x0 x1 x2 x3 x4 x5 z5' z6' HFs
          simp only at x0 x1 x2 x3 x4 x5 z5' z6' HFs
          clear hY HFn
          have CWx : Hid (Calls _ _ _ _ _) := CW.out wr HS.out.bel
          have HB : Hid (Below w.heap.size w wr) := HS.out.bel
          by_cases h5 : m5.size ≤ 200
          · have b5 : ¬ ((m5.size : Int) > 200) := by omega
            by_cases h6 : m6.size ≤ 200
            · have b6 : ¬ ((m6.size : Int) > 200) := by omega
              have HFk : Hid (FewN l (k + 1)) := HFs.out h5 h6
              clear HFs CWx HB
              go_wp2_with fail
              refine ⟨?_, ?_⟩
              · first
                | exact ⟨k + 1, by omega, by go_num, HFk, HS⟩
                | ((repeat apply Exists.intro); refine ⟨?_, rfl⟩; exact ⟨k + 1, by omega, by go_num, HFk, HS⟩)
              · simp [intOf] <;> omega
            · have b6 : (m6.size : Int) > 200 := by omega
              clear HFs
              go_wp2_with fail
              refine CWx.out.mono ?_
              rintro e w5 ⟨rfl, hb5⟩
              have hB5 := below_step HB.out (Nat.le_refl _) hb5
              clear CWx hb5 HB
              go_wp2_with fail
              go_ret
              exact ⟨rfl, hB5⟩
          · have b5 : (m5.size : Int) > 200 := by omega
            clear HFs
            go_wp2_with fail
            refine CWx.out.mono ?_
            rintro e w5 ⟨rfl, hb5⟩
            have hB5 := below_step HB.out (Nat.le_refl _) hb5
            clear CWx hb5 HB
            go_wp2_with fail
            go_ret
            exact ⟨rfl, hB5⟩
        · obtain rfl : k = n1 := by omega
          have b0 : ¬ ((k : Int) < (k : Int)) := by omega
          have HSZ : Hid (∀ j, j < l.length → (nL l j).2.2.1.size ≤ 1048576 ∧ (nL l j).2.2.2.size ≤ 9223372036854775807) := fun j hj => by
            have := HFn.out j (by rw [← HN1.out]; exact hj)
            omega
          have HSO : Hid (∀ j, j < ops.length → (oL ops j).2.2.2.2.1.size ≤ 1048576 ∧ (oL ops j).2.2.2.2.2.size ≤ 9223372036854775807) := fun j hj => light_few ops 30 HF.out j hj
          obtain ⟨D, hD⟩ : ∃ D : Bool, D = true ↔ (l.length ≤ 512 ∧ RiseN l ∧ (∀ k, k < l.length → FixH (b1, b2) (nL l k)) ∧ FixC l) := ⟨@decide (l.length ≤ 512 ∧ RiseN l ∧ (∀ k, k < l.length → FixH (b1, b2) (nL l k)) ∧ FixC l) (Classical.propDecidable _), by simp⟩
          obtain ⟨G, hGk⟩ : ∃ G : Nat → Bool, ∀ k, k < l.length → (G k = true ↔ NodeOk l (b1, b2) k) := ⟨fun k => @decide (NodeOk l (b1, b2) k) (Classical.propDecidable _), fun k _ => by simp⟩
          obtain ⟨⟨Tn, R⟩, hTR⟩ : ∃ x, codeP M D (l, ops, (b1, b2)) = x := ⟨_, rfl⟩
          have hPR : ofP M G (l, ops, (b1, b2)) = (Tn, R) := (of_code M hGk D hD).trans hTR
          have HD : Hid (D = true ↔ (l.length ≤ 512 ∧ RiseN l ∧ (∀ k, k < l.length → FixH (b1, b2) (nL l k)) ∧ FixC l)) := hD
          have HGk : Hid (∀ k, k < l.length → (G k = true ↔ NodeOk l (b1, b2) k)) := hGk
          have HTR : Hid (codeP M D (l, ops, (b1, b2)) = (Tn, R)) := hTR
          have HPR : Hid (ofP M G (l, ops, (b1, b2)) = (Tn, R)) := hPR
          clear hD hGk hTR hPR
          have CO' := of_any M HM.out l ops b1 b2 a1 a2 c1 c2 wr Tn R D (by rw [HN2.out]; omega) (by rw [HN1.out]; omega) HD HSZ HSO ((by rw [HN1.out]; exact HI1.out : NodesAt w a1 l.length l).below HS.out.bel) ((by rw [HN2.out]; exact HI2.out : OpsAt w a2 ops.length ops).below HS.out.bel) (HG.out.below HS.out.bel) HTR.out.symm
          simp only [HN1.out, HN2.out] at CO'
          have CO : Hid (Calls _ _ _ _ _) := CO'
          have CRO : Hid (∀ (F : Nat → Prop) (W : World), Below w.heap.size w W → (∀ k, F k → w.heap.size ≤ k) → (∀ k, F k → k < W.heap.size) → Calls Tryz.prog 18 #[.agg #[.slice a1 k c1, .slice a2 n2 c2, .int .i64 b1, .int .i64 b2]] W fun e w' => ∃ v, e = .returned (.tuple #[v, .int .i64 R]) ∧ TreeG F w' v Tn ∧ Below W.heap.size W w') := fun F W hW h1 h2 => by
            have h := rofG_any F M HM.out G l ops b1 b2 a1 a2 c1 c2 W Tn R (by rw [HN2.out]; omega) HGk HSZ HSO (by show Far F l.length a1; rw [HN1.out]; exact far_new (by decide) HI1.out.2 h1) h2 ((by rw [HN1.out]; exact HI1.out : NodesAt w a1 l.length l).below hW) ((by rw [HN2.out]; exact HI2.out : OpsAt w a2 ops.length ops).below hW) HPR.out.symm
            simp only [HN1.out, HN2.out] at h
            exact h
          clear CO' HPR HFn
          go_wp2_with fail
          refine CO.out.mono ?_
          rintro e w2 ⟨hb2, v2, rfl, hv0, hv1⟩
          have HS2 : Hid (OfS w w2 g0 #[.slice a1 k c1, .slice a2 n2 c2, .int .i64 b1, .int .i64 b2]) := HS.out.on hb2
          have hS2 := HS2.out.cells
          by_cases hR : R = 0
          · subst hR
            obtain ⟨g, f, m, r, rfl, hT2⟩ := hv1 rfl
            have HT2 : Hid (Tr w w2 g f m r Tn) := ⟨hT2.tree, HS2.out.bel, fun k hk => Nat.le_trans HS.out.bel.size (hT2.new k hk)⟩
            have HFF : Hid (∀ k, tfoot g f m r k → w.heap.size ≤ k) := HT2.out.new
            have HLF : Hid (∀ k, tfoot g f m r k → k < w2.heap.size) := fun k hk => HT2.out.tree.lt hk
            have h2 := code_twice M D l ops (b1, b2) Tn HTR.out (by rw [HN1.out, HN2.out]; omega)
            have hOk := HT2.out.tree.ok
            clear CO hb2 hv0 hv1 hT2 hS HS
            go_wp2_with fail
            refine (CRO.out (tfoot g f m r) w2 HS2.out.bel HFF.out HLF.out).mono ?_
            rintro e w3 ⟨v3, rfl, hG3, hb3⟩
            obtain ⟨pa1, pn1, pc1, pa2, pn2, pc2, pb1, pb2, rfl⟩ := hG3.shape2
            obtain ⟨TA, TB, TC, TD⟩ := Tn
            obtain ⟨q1, q2, q3, q4, q5⟩ := h2
            simp only at q1 q2 q3 q4 q5
            have q21 : TC = b1 := congrArg Prod.fst q2
            have q22 : TD = b2 := congrArg Prod.snd q2
            subst TA
            subst TC
            subst TD
            have HE2 : Hid (((l, TB, (b1, b2)), (0 : Int)) = codeP M D (l, TB, (b1, b2))) := (q5 hOk.sort).symm
            have HTB : Hid (TB.length = n2) := q3.trans HN2.out
            have HSO2 : Hid (∀ j, j < TB.length → (oL TB j).2.2.2.2.1.size ≤ 1048576 ∧ (oL TB j).2.2.2.2.2.size ≤ 9223372036854775807) := fun j hj => q4 (fun o => o.2.2.2.2.1.size ≤ 1048576 ∧ o.2.2.2.2.2.size ≤ 9223372036854775807) (fun o ho => by
              obtain ⟨i, hi, rfl⟩ := List.getElem_of_mem ho
              have := HSO.out i hi
              rw [oL_get ops i hi] at this
              exact this) _ (oL_mem TB j hj)
            have X1 : Blk (w3.alloc (.cells #[.slice none 0 0, .slice none 0 0, .int .i64 0, .int .i64 0] 32)) 32 w3.heap.size #[.slice none 0 0, .slice none 0 0, .int .i64 0, .int .i64 0] := Blk.new _ _ _
            have hB34 : Below w3.heap.size w3 ((w3.alloc (.cells #[.slice none 0 0, .slice none 0 0, .int .i64 0, .int .i64 0] 32)).setRow w3.heap.size #[.slice pa1 pn1 pc1, .slice pa2 pn2 pc2, .int .i64 pb1, .int .i64 pb2]) := below_setRow (below_new w3 _) (Nat.le_refl _) _
            have HT4 : Hid (OfT w ((w3.alloc (.cells #[.slice none 0 0, .slice none 0 0, .int .i64 0, .int .i64 0] 32)).setRow w3.heap.size #[.slice pa1 pn1 pc1, .slice pa2 pn2 pc2, .int .i64 pb1, .int .i64 pb2]) g f m r (l, TB, (b1, b2)) #[.slice pa1 pn1 pc1, .slice pa2 pn2 pc2, .int .i64 pb1, .int .i64 pb2] w3.heap.size) := ⟨HT2.out.on (below_step hb3 (Nat.le_refl _) hB34), hG3.on hB34, X1.setRow _, fun k hk => by have h1 := HLF.out k hk; have h2 := hb3.size; omega⟩
            have hn4 : l.length + TB.length ≤ 60 := by rw [HN1.out, HTB.out]; omega
            clear q2 q3 q4 q5 hOk hG3 hb3 hB34 HS2 hS2 HT2 HFF HLF CRO
            go_wp2_with (with_reducible refine wpList_storeBlk rfl 32 _ _ rfl w3.heap.size #[.slice none 0 0, .slice none 0 0, .int .i64 0, .int .i64 0] #[.slice pa1 pn1 pc1, .slice pa2 pn2 pc2, .int .i64 pb1, .int .i64 pb2] ?hx ?hy X1 rfl ?hi ?h1 ?_)
            try (case hx => rfl)
            try (case hy => rfl)
            try (case hi => kernel_rfl)
            try (case h1 => simp [Value.oneCell'])
            obtain ⟨w4, hw4⟩ : ∃ w4, (w3.alloc (.cells #[.slice none 0 0, .slice none 0 0, .int .i64 0, .int .i64 0] 32)).setRow w3.heap.size #[.slice pa1 pn1 pc1, .slice pa2 pn2 pc2, .int .i64 pb1, .int .i64 pb2] = w4 := ⟨_, rfl⟩
            obtain ⟨hq, hhq⟩ : ∃ hq, w3.heap.size = hq := ⟨_, rfl⟩
            rw [hw4, hhq] at HT4
            try rw [hw4]
            try rw [hhq]
            clear hw4 hhq X1
            refine (fixed_any g f m r (l, TB, (b1, b2)) w4 HT4.out.tr.tree (by show l.length + TB.length ≤ _; omega)).mono ?_
            rintro e w5 ⟨v5, rfl, hO5, hb5⟩
            have HT5 : Hid (OfT w w5 g f m r (l, TB, (b1, b2)) #[.slice pa1 pn1 pc1, .slice pa2 pn2 pc2, .int .i64 pb1, .int .i64 pb2] hq) := HT4.out.on hb5
            obtain ⟨d5, e5, rfl, hA5⟩ := OwnN.nodes hO5
            have HA5 : Hid (NodesAt w5 d5 l.length l) := hA5
            clear hO5 hb5 hA5 HT4
            go_wp2_with fail
            refine (ops_any g f m r (l, TB, (b1, b2)) w5 HT5.out.tr.tree (by show l.length + TB.length ≤ _; omega)).mono ?_
            rintro e w6 ⟨v6, rfl, hO6, hb6⟩
            have HT6 : Hid (OfT w w6 g f m r (l, TB, (b1, b2)) #[.slice pa1 pn1 pc1, .slice pa2 pn2 pc2, .int .i64 pb1, .int .i64 pb2] hq) := HT5.out.on hb6
            obtain ⟨d6, e6, rfl, hA6, _⟩ := OwnO.ops hO6
            have HA6 : Hid (NodesAt w6 d5 l.length l) := HA5.out.below hb6
            have HO6 : Hid (OpsAt w6 d6 TB.length TB) := hA6
            clear hO6 hb6 hA6 HT5 HA5
            go_wp2_with fail
            refine (base_any g f m r (l, TB, (b1, b2)) w6 HT6.out.tr.tree).mono ?_
            rintro e w7 ⟨rfl, hb7⟩
            have HT7 : Hid (OfT w w7 g f m r (l, TB, (b1, b2)) #[.slice pa1 pn1 pc1, .slice pa2 pn2 pc2, .int .i64 pb1, .int .i64 pb2] hq) := HT6.out.on hb7
            have CO2 : Hid (Calls _ _ _ _ _) := of_any M HM.out l TB b1 b2 d5 d6 e5 e6 w7 (l, TB, (b1, b2)) 0 D (by rw [HTB.out]; omega) (by rw [HN1.out]; omega) HD HSZ HSO2 (HA6.out.below hb7) (HO6.out.below hb7) (HG.out.below HT7.out.tr.bel) HE2.out
            clear hb7 HT6 HA6 HO6 HSO HSO2 HE2 HTR
            simp only [stampV]
            go_wp2_with fail
            refine CO2.out.mono ?_
            rintro e w8 ⟨hb8, v8, rfl, _, hv8⟩
            obtain ⟨g', f', m', r', rfl, hU⟩ := hv8 trivial
            have HT8 : Hid (OfT w w8 g f m r (l, TB, (b1, b2)) #[.slice pa1 pn1 pc1, .slice pa2 pn2 pc2, .int .i64 pb1, .int .i64 pb2] hq) := HT7.out.on hb8
            have HU8 : Hid (Tr w w8 g' f' m' r' (l, TB, (b1, b2))) := ⟨hU.tree, HT8.out.tr.bel, fun k hk => Nat.le_trans HT7.out.tr.bel.size (hU.new k hk)⟩
            have HAp : Hid (∀ k, tfoot g' f' m' r' k → ¬ tfoot g f m r k) := apart_new HT7.out.tr hU.new
            have y0 : w8.cell? ⟨hq, 0, none⟩ = some _ := HT8.out.q.cell 0
            have y1 : w8.cell? ⟨hq, 1, none⟩ = some _ := HT8.out.q.cell 1
            have y2 : w8.cell? ⟨hq, 2, none⟩ = some _ := HT8.out.q.cell 2
            have y3 : w8.cell? ⟨hq, 3, none⟩ = some _ := HT8.out.q.cell 3
            have CSm : Hid (Calls _ _ _ _ _) := same_any g f m r (l, TB, (b1, b2)) (.agg #[.slice pa1 pn1 pc1, .slice pa2 pn2 pc2, .int .i64 pb1, .int .i64 pb2]) w8 HT8.out.tr.tree HT8.out.tg (by show l.length + TB.length ≤ _; omega)
            clear CO2 hb8 hv8 hU HT7
            go_wp2_with fail
            refine CSm.out.mono ?_
            rintro e w9 ⟨rfl, hT9, hK9⟩
            have HT9 : Hid (Tr w w9 g f m r (l, TB, (b1, b2))) := (HT8.out.kept hT9 hK9).tr
            have HU9 : Hid (Tr w w9 g' f' m' r' (l, TB, (b1, b2))) := HT8.out.tr.beside HU8.out hK9 (fun k h1 h2 => HAp.out k h2 h1)
            obtain ⟨N, hN⟩ : ∃ N, nodesP l TB = N := ⟨_, rfl⟩
            have hNl : N.length ≤ 60000 := by
              have := nodesP_len l TB
              rw [hN] at this
              omega
            have CU : Hid (Calls _ _ _ _ _) := nodes_any g' f' m' r' (l, TB, (b1, b2)) w9 HU9.out.tree (by show l.length + TB.length ≤ _; omega)
            simp only [hN] at CU
            clear CSm hT9 hK9 HT8 HU8 y0 y1 y2 y3
            go_wp2_with fail
            refine CU.out.mono ?_
            rintro e w10 ⟨v10, rfl, hT10, hO10, hK10⟩
            have HT10 : Hid (Tr w w10 g f m r (l, TB, (b1, b2))) := HU9.out.beside HT9.out hK10 HAp.out
            have HBl : Hid (∀ k, tfoot g f m r k → k < w9.heap.size) := fun k hk => HT9.out.tree.lt hk
            have HO10 : Hid (OwnN w10 w9.heap.size v10 N) := hO10
            have CT : Hid (Calls _ _ _ _ _) := nodes_any g f m r (l, TB, (b1, b2)) w10 HT10.out.tree (by show l.length + TB.length ≤ _; omega)
            simp only [hN] at CT
            obtain ⟨d1, e1, rfl, _⟩ := OwnN.nodes hO10
            clear CU hT10 hO10 hK10 HU9 HT9 HAp
            go_wp2_with fail
            refine CT.out.mono ?_
            rintro e w11 ⟨v11, rfl, hT11, hO11, hK11⟩
            have HT11 : Hid (Tr w w11 g f m r (l, TB, (b1, b2))) := HT10.out.next hT11 hK11 (Nx.refl _ _)
            obtain ⟨d2, e2, rfl, hA2⟩ := OwnN.nodes hO11
            obtain ⟨d1', e1', he1, hA1⟩ := OwnN.nodes (ownN_kept HO10.out hK11 HBl.out)
            cases he1
            have CS : Hid (Calls Tryz.prog 22 #[.slice d1 N.length e1, .slice d2 N.length e2] w11 fun e w' => e = .returned (.bool true) ∧ Below w11.heap.size w11 w') := rsameNodes_any N N true ⟨fun _ => rfl, fun _ => rfl⟩ d1 d2 _ _ e1 e2 w11 (by omega) (by omega) hA1 hA2
            have HB11 : Hid (Below w.heap.size w w11) := HT11.out.bel
            clear CT hT11 hO11 hK11 HT10 HBl HO10 hA1 hA2 HT11
            go_wp2_with fail
            refine CS.out.mono ?_
            rintro e w12 ⟨rfl, hb12⟩
            have HB : Hid (Below w.heap.size w w12) := below_step HB11.out (Nat.le_refl _) hb12
            have CWx : Hid (Calls _ _ _ _ _) := CW.out w12 HB.out
            clear CS hb12 HB11
            go_wp2_with fail
            refine CWx.out.mono ?_
            rintro e w13 ⟨rfl, hb13⟩
            have hB13 := below_step HB.out (Nat.le_refl _) hb13
            clear CWx hb13 HB
            go_wp2_with fail
            go_ret
            exact ⟨rfl, hB13⟩
          · obtain rfl := hv0 hR
            have HFF : Hid (∀ k : Nat, (fun _ => False) k → w.heap.size ≤ k) := fun _ h => h.elim
            have HLF : Hid (∀ k : Nat, (fun _ => False) k → k < w2.heap.size) := fun _ h => h.elim
            clear CO hb2 hv0 hv1 hS HS
            go_wp2_with fail
            refine (CRO.out (fun _ => False) w2 HS2.out.bel HFF.out HLF.out).mono ?_
            rintro e w3 ⟨v3, rfl, hG3, hb3⟩
            obtain ⟨pa1, pn1, pc1, pa2, pn2, pc2, pb1, pb2, rfl⟩ := hG3.shape2
            have X1 : Blk (w3.alloc (.cells #[.slice none 0 0, .slice none 0 0, .int .i64 0, .int .i64 0] 32)) 32 w3.heap.size #[.slice none 0 0, .slice none 0 0, .int .i64 0, .int .i64 0] := Blk.new _ _ _
            have hB4 : Below w.heap.size w ((w3.alloc (.cells #[.slice none 0 0, .slice none 0 0, .int .i64 0, .int .i64 0] 32)).setRow w3.heap.size #[.slice pa1 pn1 pc1, .slice pa2 pn2 pc2, .int .i64 pb1, .int .i64 pb2]) := below_step HS2.out.bel (Nat.le_refl _) (below_step hb3 (Nat.le_refl _) (below_setRow (below_new w3 _) (Nat.le_refl _) _))
            have HB : Hid (Below w.heap.size w ((w3.alloc (.cells #[.slice none 0 0, .slice none 0 0, .int .i64 0, .int .i64 0] 32)).setRow w3.heap.size #[.slice pa1 pn1 pc1, .slice pa2 pn2 pc2, .int .i64 pb1, .int .i64 pb2])) := hB4
            have CWx : Hid (Calls _ _ _ _ _) := CW.out _ hB4
            have hR' : (R == 0) = false := by simp [hR]
            clear hG3 hb3 hB4 HS2 hS2 HFF HLF CRO
            go_wp2_with (with_reducible refine wpList_storeBlk rfl 32 _ _ rfl w3.heap.size #[.slice none 0 0, .slice none 0 0, .int .i64 0, .int .i64 0] #[.slice pa1 pn1 pc1, .slice pa2 pn2 pc2, .int .i64 pb1, .int .i64 pb2] ?hx ?hy X1 rfl ?hi ?h1 ?_)
            try (case hx => rfl)
            try (case hy => rfl)
            try (case hi => kernel_rfl)
            try (case h1 => simp [Value.oneCell'])
            refine CWx.out.mono ?_
            rintro e w5 ⟨rfl, hb5⟩
            have hB5 := below_step HB.out (Nat.le_refl _) hb5
            clear CWx hb5 HB
            go_wp2_with fail
            go_ret
            exact ⟨rfl, hB5⟩
    · have b30 : (n1 : Int) > 30 := by omega
      have CWx : Hid (Calls _ _ _ _ _) := CW.out w1 HS1.out.bel
      have HB : Hid (Below w.heap.size w w1) := HS1.out.bel
      go_wp2_with fail
      refine CWx.out.mono ?_
      rintro e w5 ⟨rfl, hb5⟩
      have hB5 := below_step HB.out (Nat.le_refl _) hb5
      clear CWx hb5 HB
      go_wp2_with fail
      go_ret
      exact ⟨rfl, hB5⟩
  · have CF : Hid (∀ W, Below w.heap.size w W → _) := CF0.out hF
    clear CF1 CF0 hF
    go_wp2_with fail
    refine (CF.out _ HS0.out.bel).mono ?_
    rintro e w1 ⟨rfl, hb1⟩
    have HS1 : Hid (OfS w w1 g0 #[.slice a1 n1 c1, .slice a2 n2 c2, .int .i64 b1, .int .i64 b2]) := HS0.out.on hb1
    have CWx : Hid (Calls _ _ _ _ _) := CW.out w1 HS1.out.bel
    have HB : Hid (Below w.heap.size w w1) := HS1.out.bel
    clear CF hb1 HS0 hS0
    go_wp2_with fail
    refine CWx.out.mono ?_
    rintro e w5 ⟨rfl, hb5⟩
    have hB5 := below_step HB.out (Nat.le_refl _) hb5
    clear CWx hb5 HB
    go_wp2_with fail
    go_ret
    exact ⟨rfl, hB5⟩
end Go.Proofs.YtjmbnoacbmmcdaaGreatDoor
