/- The walk of TreePlays (layer 11). -/
import Derived.Test.YtmfckdhincffkaaGreatDoorTmPl
import Derived.Test.YtmfckdhincffkaaGreatDoorP11
import Derived.Deep.DeepCutAuto
namespace Go.Proofs.YtmfckdhincffkaaGreatDoor
open Go.RowKit
set_option linter.unusedSimpArgs false

theorem getP_look {t : TreeT} (hs : SortN (nodesP t.1 t.2.1)) (id : Int × Int) : getP t id = ((look (nodesP t.1 t.2.1) id).getD node0, (look (nodesP t.1 t.2.1) id).isSome) := by
  unfold getP
  cases h : look (nodesP t.1 t.2.1) id with
  | none =>
    rw [if_pos (find_none.2 h)]
    rfl
  | some x =>
    obtain ⟨h1, h2⟩ := find_look hs h
    rw [if_neg h1, h2]
    rfl

/-- A tree's value has its shape. -/
theorem TreeG.shape {F : Nat → Prop} {w : World} {v : Value} {t : TreeT} (h : TreeG F w v t) : ∃ a1 n1 c1 a2 n2 c2 b1 b2, v = .agg #[.slice a1 n1 c1, .slice a2 n2 c2, .int .i64 b1, .int .i64 b2] := by
  obtain ⟨a1, c1, a2, c2, h, _⟩ := h
  exact ⟨a1, _, c1, a2, _, c2, _, _, h⟩

theorem TreeG.more {F : Nat → Prop} {w : World} {v : Value} {t : TreeT} (h : TreeG F w v t) (hx : Nat) (hw : w.heap.size ≤ hx) : TreeG (fun k => F k ∨ k = hx) w v t := by
  obtain ⟨a1, c1, a2, c2, h1, h2, h3, h4, h5, h6⟩ := h
  have far : ∀ {n c : Nat} {a : Option Addr} {f : Nat → Array Value}, 0 < c → RowsAt w a n c f → Far F n a → Far (fun k => F k ∨ k = hx) n a := fun {n c a f} hc hr hF hn x hxx hk => by
    rcases hk with hk | hk
    · exact hF hn x hxx hk
    · rcases hr with h0 | ⟨b, off, ha, hcc⟩
      · omega
      · obtain ⟨u, _, h2⟩ := hcc 0 hn 0 hc
        have := World.block_lt_of_cell? w _ h2
        rw [hxx] at ha
        cases ha
        simp only at hk this
        omega
  exact ⟨a1, c1, a2, c2, h1, h2, h3, h4, far (by decide) h2.2 h5, far (by decide) h3.2 h6⟩

theorem TreeG.fewer {F G : Nat → Prop} {w : World} {v : Value} {t : TreeT} (h : TreeG F w v t) (hG : ∀ k, G k → F k) : TreeG G w v t := by
  obtain ⟨a1, c1, a2, c2, h1, h2, h3, h4, h5, h6⟩ := h
  exact ⟨a1, c1, a2, c2, h1, h2, h3, h4, fun hn x hx hk => h5 hn x hx (hG _ hk), fun hn x hx hk => h6 hn x hx (hG _ hk)⟩

theorem keptF_row {F : Nat → Prop} (w : World) (hx : Nat) (cs : Array Value) (h : F hx) : KeptF F w (w.setRow hx cs) := (KeptF.refl F w).grown (grown_setRow w hx cs) (fun j e _ => by cases e; exact h)

theorem comp_few (t : TreeT) (s : Int × Int) : (compactP t s).1.1.length + (compactP t s).1.2.1.length ≤ t.1.length + t.2.1.length := by
  by_cases hs : MayS s
  · exact (cut_len (cut_of t s hs)).2
  · unfold compactP; rw [if_neg hs]; exact Nat.le_refl _

theorem app_few (M : OpT → Bool) (T : TreeT) (o : OpT) : (applyP M T o).1.1.length + (applyP M T o).1.2.1.length ≤ T.1.length + T.2.1.length + 1 := by
  obtain ⟨h1, _, h3⟩ := apply_len M T o
  rw [h1]; omega

/-- The blocks of the code's tree, and the document's cell. -/
def ffoot (g f m : Nat) (r : Option Nat) (hq k : Nat) : Prop := tfoot g f m r k ∨ k = hq

theorem TreeG.go {w w' : World} {g f m hq : Nat} {r r' : Option Nat} {v : Value} {t : TreeT} (h : TreeG (ffoot g f m r hq) w v t) (hK : KeptF (tfoot g f m r) w w') (hN : Nx w r r') : TreeG (ffoot g f m r' hq) w' v t := by
  have hK' : KeptF (ffoot g f m r hq) w w' := ⟨hK.os, hK.tape, hK.output, hK.size, fun k hk hf => hK.block k hk (fun t => hf (.inl t))⟩
  obtain ⟨a1, c1, a2, c2, h1, h2, h3, h4, h5, h6⟩ := h
  refine ⟨a1, c1, a2, c2, h1, ⟨h2.1, rows_kept h2.2 h5 hK'⟩, ⟨h3.1, rows_kept h3.2 h6 hK'⟩, h4, fun hn x hx hk => ?_, fun hn x hx hk => ?_⟩
  · rcases hk with hk | hk
    · exact far_next (by decide) h2.2 (fun hn x hx hk => h5 hn x hx (.inl hk)) hN hn x hx hk
    · exact h5 hn x hx (.inr hk)
  · rcases hk with hk | hk
    · exact far_next (by decide) h3.2 (fun hn x hx hk => h6 hn x hx (.inl hk)) hN hn x hx hk
    · exact h6 hn x hx (.inr hk)

/-- Both trees, the cells of the document's and of a number. -/
structure PlQ (w W : World) (g f m : Nat) (r : Option Nat) (T : TreeT) (cs : Array Value) (hq bi : Nat) (ids : Array Value) : Prop where
  tr : Tr w W g f m r T
  tg : TreeG (ffoot g f m r hq) W (.agg cs) T
  q : Blk W 32 hq cs
  i : Blk W 25 bi ids
  far : ∀ k, tfoot g f m r k → k ≠ hq ∧ k ≠ bi
  ne : bi ≠ hq
  low : w.heap.size ≤ hq

theorem PlQ.on {w W W' : World} {g f m : Nat} {r : Option Nat} {T : TreeT} {cs ids : Array Value} {hq bi : Nat} (h : PlQ w W g f m r T cs hq bi ids) (hb : Below W.heap.size W W') : PlQ w W' g f m r T cs hq bi ids :=
  ⟨h.tr.on hb, h.tg.on hb, h.q.on hb, h.i.on hb, h.far, h.ne, h.low⟩

theorem PlQ.kept {w W W' : World} {g f m : Nat} {r : Option Nat} {T : TreeT} {cs ids : Array Value} {hq bi : Nat} (h : PlQ w W g f m r T cs hq bi ids) (hT : TreeIn W' g f m r T) (hK : KeptF (tfoot g f m r) W W') : PlQ w W' g f m r T cs hq bi ids :=
  ⟨h.tr.next hT hK (Nx.refl _ _), h.tg.go hK (Nx.refl _ _), h.q.keptG hK (fun t => (h.far _ t).1 rfl), h.i.keptG hK (fun t => (h.far _ t).2 rfl), h.far, h.ne, h.low⟩

theorem PlQ.lt {w W : World} {g f m : Nat} {r : Option Nat} {T : TreeT} {cs ids : Array Value} {hq bi : Nat} (h : PlQ w W g f m r T cs hq bi ids) : ∀ k, ffoot g f m r hq k → k < W.heap.size := fun k hk => by
  rcases hk with hk | hk
  · exact h.tr.tree.lt hk
  · rw [hk]; exact h.q.lt

/-- The code's tree goes on; the document's, that is laid at hx, comes into its cell. -/
theorem PlQ.next {w W W' : World} {g f m : Nat} {r r' : Option Nat} {T T' : TreeT} {cs ids cs' : Array Value} {hq bi : Nat} (h : PlQ w W g f m r T cs hq bi ids) (hT : TreeIn W' g f m r' T') (hK : KeptF (tfoot g f m r) W W') (hN : Nx W r r') (hG : TreeG (ffoot g f m r hq) W (.agg cs') T') : PlQ w (W'.setRow hq cs') g f m r' T' cs' hq bi ids := by
  have tr' := h.tr.next hT hK hN
  have far' : ∀ k, tfoot g f m r' k → k ≠ hq ∧ k ≠ bi := fun k hk => by
    rcases tfoot_next hN hk with t | t
    · exact h.far k t
    · have h1 := h.q.lt
      have h2 := h.i.lt
      omega
  refine ⟨⟨tr'.tree.same (fun k hk => setRow_other W' hq k _ (far' k hk).1), below_setRow tr'.bel h.low cs', tr'.new⟩, (hG.go hK hN).kept (keptF_row W' hq cs' (.inr rfl)), (h.q.keptG hK (fun t => (h.far _ t).1 rfl)).setRow cs', (h.i.keptG hK (fun t => (h.far _ t).2 rfl)).setRowOther _ h.ne _, far', h.ne, h.low⟩


set_option maxRecDepth 100000 in
set_option maxHeartbeats 8000000 in
theorem treePlays_walk (a au : Option Addr) (l : List OpT) (us : List (Int × Int)) (n c nu cu : Nat) (i1 i2 : Int) (w : World) (hm : n ≤ maxLen) (hmu : nu ≤ maxLen) (hI : OpsAt w a n l) (hU : StampsAt w au nu us) (hz : ∀ q ∈ l, OpOk q) (hG : Glob8 w) :
    Calls Tryz.prog 3 #[.slice a n c, .slice au nu cu, .agg #[.int .i64 i1, .int .i64 i2]] w fun e w' => e = .returned (.bool true) ∧ Below w.heap.size w w' := by
  obtain ⟨M, hM⟩ := mayM_ex
  have HM : Hid (∀ o, M o = true ↔ MayO o) := hM
  have HG : Hid (Glob8 w) := hG
  have HI : Hid (OpsAt w a n l) := hI
  have HN : Hid (l.length = n) := hI.1
  have HU : Hid (StampsAt w au nu us) := hU
  have hmn : n ≤ 9223372036854775807 := hm
  have hmn' : nu ≤ 9223372036854775807 := hmu
  have CN : Hid (∀ W, Below w.heap.size w W → _) := fun W hW => new_tr w W hW
  have CW : Hid (∀ W, Below w.heap.size w W → Calls Tryz.prog 7 #[] W fun e w' => e = .returned (.bool true) ∧ Below W.heap.size W w') := fun W hW => awake11 W (HG.out.below hW)
  have CF1 : Hid (FewO l 40 → ∀ W, Below w.heap.size w W → Calls Tryz.prog 6 #[.slice a n c, .int .i64 40] W fun e w' => e = .returned (.bool true) ∧ Below W.heap.size W w') := fun hF W hW => few_yes l a n c 40 W hm (by decide) (hI.below hW) hz hF
  have CF0 : Hid (¬ FewO l 40 → ∀ W, Below w.heap.size w W → Calls Tryz.prog 6 #[.slice a n c, .int .i64 40] W fun e w' => e = .returned (.bool false) ∧ Below W.heap.size W w') := fun hF W hW => few_no l a n c 40 W hm (by decide) (hI.below hW) hz hF
  clear hM hG hI hU hz hm hmu
  go_enter Tryz.func3, Tryz.ntmps3
  go_wp2_with fail
  refine (CN.out _ (below_new _ _)).mono ?_
  rintro e w1 ⟨g, f, m, rfl, hT, hn1, hb1⟩
  obtain ⟨bi, hbi⟩ : ∃ bi, w.heap.size = bi := ⟨_, rfl⟩
  have HT1 : Hid (Tr w w1 g f m none T0) := hT
  have HKi : Hid (Blk w1 25 bi #[.int .i64 i1, .int .i64 i2]) := by show Blk _ _ _ _; rw [← hbi]; exact (Blk.new _ _ _).on hb1
  have HFb : Hid (∀ k, tfoot g f m none k → k ≠ bi) := fun k hk => by
    have h1 := hn1 k hk
    rw [World.size_alloc] at h1
    omega
  have HWb : Hid (w.heap.size ≤ bi) := by show _ ≤ _; omega
  rw [hbi]
  clear hT hn1 hb1 CN hbi
  by_cases hF : FewO l 40
  · have HF : Hid (FewO l 40) := hF
    have CF : Hid (Calls _ _ _ _ _) := CF1.out hF w1 HT1.out.bel
    have hn : n ≤ 40 := by rw [← HN.out]; exact hF.1
    clear CF1 CF0 hF
    go_wp2_with fail
    refine CF.out.mono ?_
    rintro e w2 ⟨rfl, hb2⟩
    have HT2 : Hid (Tr w w2 g f m none T0) := HT1.out.on hb2
    have HK2 : Hid (Blk w2 25 bi #[.int .i64 i1, .int .i64 i2]) := HKi.out.on hb2
    clear CF hb2 HT1 HKi
    go_wp2_with fail
    obtain ⟨hq, hhq⟩ : ∃ hq, w2.heap.size = hq := ⟨_, rfl⟩
    obtain ⟨W3, hW3⟩ : ∃ W3, w2.alloc (.cells #[.slice none 0 0, .slice none 0 0, .int .i64 0, .int .i64 0] 32) = W3 := ⟨_, rfl⟩
    have HS3 : Hid (PlQ w W3 g f m none T0 #[.slice none 0 0, .slice none 0 0, .int .i64 0, .int .i64 0] hq bi #[.int .i64 i1, .int .i64 i2]) := by
      show PlQ _ _ _ _ _ _ _ _ _ _ _
      have hl := HK2.out.lt
      refine ⟨by rw [← hW3]; exact HT2.out.on (below_new _ _), ⟨none, 0, none, 0, rfl, ⟨rfl, .inl rfl⟩, ⟨rfl, .inl rfl⟩, .inl ⟨rfl, rfl, rfl⟩, fun h => absurd h (Nat.lt_irrefl 0), fun h => absurd h (Nat.lt_irrefl 0)⟩, by rw [← hW3, ← hhq]; exact Blk.new _ _ _, by rw [← hW3]; exact HK2.out.on (below_new _ _), fun k hk => ⟨by have := HT2.out.tree.lt hk; omega, HFb.out k hk⟩, by omega, by rw [← hhq]; exact HT2.out.bel.size⟩
    have HF3 : Hid (T0.1.length + T0.2.1.length ≤ 0) := Nat.le_refl _
    rw [hW3, hhq]
    clear hW3 hhq HT2 HK2 HFb HWb
    go_loopw [9] (fun i wr => ∃ (k : Nat) (r : Option Nat) (T : TreeT) (a1 : Option Addr) (n1 c1 : Nat) (a2 : Option Addr) (n2 c2 : Nat) (b1 b2 : Int), k ≤ n ∧ i = .int .i64 k ∧ Hid (T.1.length + T.2.1.length ≤ k) ∧ Hid (PlQ w wr g f m r T #[.slice a1 n1 c1, .slice a2 n2 c2, .int .i64 b1, .int .i64 b2] hq bi #[.int .i64 i1, .int .i64 i2])) (fun i _ => n - (intOf i).toNat)
    case atStart => exact ⟨0, none, T0, none, 0, 0, none, 0, 0, 0, 0, by omega, rfl, HF3, HS3⟩
    case round =>
      clear HF3 HS3
      obtain ⟨k, r, T, a1, n1, c1, a2, n2, c2, b1, b2, hk, rfl, HFw, HS⟩ := hrel
      by_cases hlt : k < n
      · have b0 : (k : Int) < (n : Int) := by omega
        obtain ⟨m5, hm5, hmr⟩ : ∃ m5 : Nat, k % 5 = m5 ∧ Int.tmod (k : Int) 5 = (m5 : Int) := ⟨k % 5, rfl, by rw [Int.tmod_eq_emod_of_nonneg (by omega)]; omega⟩
        obtain ⟨d5, hd5, hdr⟩ : ∃ d5 : Nat, k / 5 = d5 ∧ Int.tdiv (k : Int) 5 = (d5 : Int) := ⟨k / 5, rfl, by rw [Int.tdiv_eq_ediv_of_nonneg (by omega)]; omega⟩
        have hd40 : d5 ≤ 40 := by omega
        have hwd : IntKind.i64.wrap (d5 : Int) = (d5 : Int) := by rw [IntKind.wrap_i64]; omega
        have hwd2 : IntKind.i64.wrap (Int.tdiv (k : Int) 5) = (d5 : Int) := by rw [hdr]; exact hwd
        clear hm5 hd5
        obtain ⟨b, off, rfl, _⟩ := HI.out.2.some (by omega)
        have hil : k < l.length := by rw [HN.out]; exact hlt
        obtain ⟨z7, z8⟩ := light_few l 40 HF.out k hil
        have hIc : ∀ W, Below w.heap.size w W → _ := fun W hW => (HI.out.below hW).cells k hlt
        have hfew := HFw.out
        have CRA' : ∀ (F : Nat → Prop) (W : World), TreeG F W (.agg #[.slice a1 n1 c1, .slice a2 n2 c2, .int .i64 b1, .int .i64 b2]) T → (∀ k, F k → k < W.heap.size) → _ := fun F W h1 h2 => rapplyG_any M HM.out F T (oL l k) (.agg #[.slice a1 n1 c1, .slice a2 n2 c2, .int .i64 b1, .int .i64 b2]) W (by omega) z7 z8 h1 h2
        have CAp' : ∀ W, Tr w W g f m r T → _ := fun W hW => apply_tr M HM.out g f m r T (oL l k) w W hW HG.out (by omega) z7 z8
        have CCk' : ∀ W, Below w.heap.size w W → _ := fun W hW => check_any M HM.out (oL l k) W (HG.out.below hW) z7 z8
        have CRC' : ∀ W, _ := fun W => rcheckO_any (oL l k) (M (oL l k)) (HM.out _) W z7 z8
        have hfa := app_few M T (oL l k)
        obtain ⟨⟨k0, ⟨k1, k2⟩, ⟨k3, k4⟩, ⟨k5, k6⟩, s7, s8⟩, hkk⟩ : ∃ s, s = oL l k := ⟨_, rfl⟩
        simp only [← hkk, opA] at CRA' CAp' CCk' CRC' hIc hfa
        obtain ⟨⟨AT, ea⟩, hAT⟩ : ∃ AT, applyP M T (k0, (k1, k2), (k3, k4), (k5, k6), s7, s8) = AT := ⟨_, rfl⟩
        obtain ⟨mo, hmo⟩ : ∃ mo, M (k0, (k1, k2), (k3, k4), (k5, k6), s7, s8) = mo := ⟨_, rfl⟩
        rw [hAT] at hfa
        simp only [hAT] at CRA' CAp'
        simp only [hmo] at CCk' CRC'
        simp only at hfa
        obtain ⟨ce, hce⟩ : ∃ ce : Int, (if mo = true then (0 : Int) else 1) = ce := ⟨_, rfl⟩
        have hce' : (if mo then (0 : Int) else 1) = ce := hce
        simp only [hce] at CCk'
        simp only [hce'] at CRC'
        have CRA : Hid (∀ (F : Nat → Prop) (W : World), TreeG F W (.agg #[.slice a1 n1 c1, .slice a2 n2 c2, .int .i64 b1, .int .i64 b2]) T → (∀ k, F k → k < W.heap.size) → _) := CRA'
        have CAp : Hid (∀ W, Tr w W g f m r T → _) := CAp'
        have CCk : Hid (∀ W, Below w.heap.size w W → _) := CCk'
        have CRC : Hid (∀ W, _) := CRC'
        have HSO : Hid (∀ W, Below w.heap.size w W → W.cell? ⟨b, off + k * 9, none⟩ = some (.int .i64 k0) ∧ W.cell? ⟨b, off + k * 9 + 1, none⟩ = some (.int .i64 k1) ∧ W.cell? ⟨b, off + k * 9 + 2, none⟩ = some (.int .i64 k2) ∧ W.cell? ⟨b, off + k * 9 + 3, none⟩ = some (.int .i64 k3) ∧ W.cell? ⟨b, off + k * 9 + 4, none⟩ = some (.int .i64 k4) ∧ W.cell? ⟨b, off + k * 9 + 5, none⟩ = some (.int .i64 k5) ∧ W.cell? ⟨b, off + k * 9 + 6, none⟩ = some (.int .i64 k6) ∧ W.cell? ⟨b, off + k * 9 + 7, none⟩ = some (.string s7) ∧ W.cell? ⟨b, off + k * 9 + 8, none⟩ = some (.string s8)) := hIc
        have HFa : Hid (AT.1.length + AT.2.1.length ≤ k + 1) := by show _ ≤ _; omega
        have HSS : Hid (∀ W, Below wr.heap.size wr W → W.cell? ⟨hq, 0, none⟩ = some (.slice a1 n1 c1) ∧ W.cell? ⟨hq, 1, none⟩ = some (.slice a2 n2 c2) ∧ W.cell? ⟨hq, 2, none⟩ = some (.int .i64 b1) ∧ W.cell? ⟨hq, 3, none⟩ = some (.int .i64 b2) ∧ W.cell? ⟨b, off + k * 9, none⟩ = some (.int .i64 k0) ∧ W.cell? ⟨b, off + k * 9 + 1, none⟩ = some (.int .i64 k1) ∧ W.cell? ⟨b, off + k * 9 + 2, none⟩ = some (.int .i64 k2) ∧ W.cell? ⟨b, off + k * 9 + 3, none⟩ = some (.int .i64 k3) ∧ W.cell? ⟨b, off + k * 9 + 4, none⟩ = some (.int .i64 k4) ∧ W.cell? ⟨b, off + k * 9 + 5, none⟩ = some (.int .i64 k5) ∧ W.cell? ⟨b, off + k * 9 + 6, none⟩ = some (.int .i64 k6) ∧ W.cell? ⟨b, off + k * 9 + 7, none⟩ = some (.string s7) ∧ W.cell? ⟨b, off + k * 9 + 8, none⟩ = some (.string s8)) := fun W hW => by
          have q := HS.out.q.on hW
          exact ⟨q.cell 0, q.cell 1, q.cell 2, q.cell 3, HSO.out W (HS.out.on hW).tr.bel⟩
        have hS0 := HSS.out wr (Below.refl _ _)
        clear hkk hAT hmo hce hce' hfa hfew hIc CRA' CAp' CCk' CRC' z7 z8 hil HFw
        go_wp2_with fail
        go_cut [10, 11] (fun u ev wx => ∃ (hx : Nat) (pa1 : Option Addr) (pn1 pc1 : Nat) (pa2 : Option Addr) (pn2 pc2 : Nat) (pb1 pb2 : Int), u = .pointer (some ⟨hx, 0, none⟩) ∧ ev = .int .i64 ea ∧ wr.heap.size ≤ hx ∧ Blk wx 32 hx #[.slice pa1 pn1 pc1, .slice pa2 pn2 pc2, .int .i64 pb1, .int .i64 pb2] ∧ TreeG (ffoot g f m r hq) wx (.agg #[.slice pa1 pn1 pc1, .slice pa2 pn2 pc2, .int .i64 pb1, .int .i64 pb2]) AT ∧ Below wr.heap.size wr wx)
        case first =>
          refine wp_region_noPanic ?_
          refine wp_region_held_drew (S := fun W => W.cell? ⟨hq, 0, none⟩ = some (.slice a1 n1 c1) ∧ W.cell? ⟨hq, 1, none⟩ = some (.slice a2 n2 c2) ∧ W.cell? ⟨hq, 2, none⟩ = some (.int .i64 b1) ∧ W.cell? ⟨hq, 3, none⟩ = some (.int .i64 b2) ∧ W.cell? ⟨b, off + k * 9, none⟩ = some (.int .i64 k0) ∧ W.cell? ⟨b, off + k * 9 + 1, none⟩ = some (.int .i64 k1) ∧ W.cell? ⟨b, off + k * 9 + 2, none⟩ = some (.int .i64 k2) ∧ W.cell? ⟨b, off + k * 9 + 3, none⟩ = some (.int .i64 k3) ∧ W.cell? ⟨b, off + k * 9 + 4, none⟩ = some (.int .i64 k4) ∧ W.cell? ⟨b, off + k * 9 + 5, none⟩ = some (.int .i64 k5) ∧ W.cell? ⟨b, off + k * 9 + 6, none⟩ = some (.int .i64 k6) ∧ W.cell? ⟨b, off + k * 9 + 7, none⟩ = some (.string s7) ∧ W.cell? ⟨b, off + k * 9 + 8, none⟩ = some (.string s8)) (by kernel_rfl) (by first | exact trivial | assumption | exact ⟨by assumption, by assumption⟩) (fun hHeld => ?_)
          refine take_at (i := 0) (v := ?_) rfl rfl (by kernel_rfl) (by kernel_rfl) (by kernel_rfl) (fun _ _ _ h => h) (Or.inl ⟨by rfl, ?_⟩) (by assumption) ?_
          rotate_left
          · intro w hSw; (try dsimp only at hSw); go_simp; try with_reducible rfl
          try simp only [Act.put, List.setIfInBounds_toArray, List.set_cons_zero, List.set_cons_succ]
          refine take_at (i := 1) (v := ?_) rfl rfl (by kernel_rfl) (by kernel_rfl) (by kernel_rfl) (fun _ _ _ h => h) (Or.inl ⟨by rfl, ?_⟩) (by assumption) ?_
          rotate_left
          · intro w hSw; (try dsimp only at hSw); go_simp; try with_reducible rfl
          try simp only [Act.put, List.setIfInBounds_toArray, List.set_cons_zero, List.set_cons_succ]
          refine take_at (i := 2) (v := ?_) rfl rfl (by kernel_rfl) (by kernel_rfl) (by kernel_rfl) (fun _ _ _ h => h) (Or.inl ⟨by rfl, ?_⟩) (by assumption) ?_
          rotate_left
          · intro w hSw; (try dsimp only at hSw); go_simp; try with_reducible rfl
          try simp only [Act.put, List.setIfInBounds_toArray, List.set_cons_zero, List.set_cons_succ]
          refine take_at (i := 3) (v := ?_) rfl rfl (by kernel_rfl) (by kernel_rfl) (by kernel_rfl) (fun _ _ _ h => h) (Or.inl ⟨by rfl, ?_⟩) (by assumption) ?_
          rotate_left
          · intro w hSw; (try dsimp only at hSw); go_simp; try with_reducible rfl
          try simp only [Act.put, List.setIfInBounds_toArray, List.set_cons_zero, List.set_cons_succ]
          refine take_at (i := 4) (v := ?_) rfl rfl (by kernel_rfl) (by kernel_rfl) (by kernel_rfl) (fun _ _ _ h => h) (Or.inl ⟨by rfl, ?_⟩) (by assumption) ?_
          rotate_left
          · intro w hSw; (try dsimp only at hSw); go_simp; try with_reducible rfl
          try simp only [Act.put, List.setIfInBounds_toArray, List.set_cons_zero, List.set_cons_succ]
          refine wpAnyH_ready (rs := [5, 9]) (by kernel_rfl) (by simp) ?_
          refine AllReadyH.cons rfl (fun K hK => ?_) (AllReadyH.cons rfl (fun K hK => ?_) AllReadyH.nil)
          · have C1 : Hid (Calls _ _ _ _ _) := CRA.out (ffoot g f m r hq) wr.drew (HS.out.on (Below.refl _ _).drew).tg (HS.out.on (Below.refl _ _).drew).lt
            go_simp
            refine C1.out.mono ?_
            rintro e V1 ⟨v1, rfl, hG1, hb1⟩
            have hV1 : Below wr.heap.size wr V1 := below_step (Below.refl _ _).drew (Nat.le_refl _) hb1
            obtain ⟨pa1, pn1, pc1, pa2, pn2, pc2, pb1, pb2, rfl⟩ := hG1.shape
            refine hK.out _ _ (HSS.out _ hV1) (fun hHeld => ?_)
            clear hK K
            refine take_at (i := 6) (v := ?_) rfl rfl (by kernel_rfl) (by kernel_rfl) (by kernel_rfl) (fun _ _ _ h => h) (Or.inl ⟨by rfl, ?_⟩) (by assumption) ?_
            rotate_left
            · intro w hSw; (try dsimp only at hSw); go_simp; try with_reducible rfl
            try simp only [Act.put, List.setIfInBounds_toArray, List.set_cons_zero, List.set_cons_succ]
            refine take_at (i := 7) (v := ?_) rfl rfl (by kernel_rfl) (by kernel_rfl) (by kernel_rfl) (fun _ _ _ h => h) (Or.inl ⟨by rfl, ?_⟩) (by assumption) ?_
            rotate_left
            · intro w hSw; (try dsimp only at hSw); go_simp; try with_reducible rfl
            try simp only [Act.put, List.setIfInBounds_toArray, List.set_cons_zero, List.set_cons_succ]
            refine take_at (i := 8) (v := ?_) rfl rfl (by kernel_rfl) (by kernel_rfl) (by kernel_rfl) (fun _ _ _ h => h) (Or.inl ⟨by rfl, ?_⟩) (by assumption) ?_
            rotate_left
            · intro w hSw; (try dsimp only at hSw); go_simp; try with_reducible rfl
            try simp only [Act.put, List.setIfInBounds_toArray, List.set_cons_zero, List.set_cons_succ]
            refine wpAnyH_ready (rs := [9]) (by kernel_rfl) (by simp) ?_
            refine AllReadyH.cons rfl (fun K hK => ?_) AllReadyH.nil
            go_simp
            have hV2 : Below wr.heap.size wr (V1.alloc (.cells #[.slice none 0 0, .slice none 0 0, .int .i64 0, .int .i64 0] 32)) := hV1.alloc hV1.size _
            refine hK.out _ _ (HSS.out _ hV2) (fun hHeld => ?_)
            clear hK K
            refine wpAnyH_ready (rs := [10]) (by kernel_rfl) (by simp) ?_
            refine AllReadyH.cons rfl (fun K hK => ?_) AllReadyH.nil
            refine step_storeRow rfl rfl 32 _ _ rfl V1.heap.size #[.slice none 0 0, .slice none 0 0, .int .i64 0, .int .i64 0] #[.slice pa1 pn1 pc1, .slice pa2 pn2 pc2, .int .i64 pb1, .int .i64 pb2] rfl rfl (Blk.new V1 _ _) rfl (by kernel_rfl) (by simp [Value.oneCell']) ?_
            have hV3 := below_setRow hV2 hV1.size #[.slice pa1 pn1 pc1, .slice pa2 pn2 pc2, .int .i64 pb1, .int .i64 pb2]
            refine hK.out _ _ (HSS.out _ hV3) (fun hHeld => ?_)
            clear hK K
            refine take_at (i := 11) (v := ?_) rfl rfl (by kernel_rfl) (by kernel_rfl) (by kernel_rfl) (fun _ _ _ h => h) (Or.inl ⟨by rfl, ?_⟩) (by assumption) ?_
            rotate_left
            · intro w hSw; (try dsimp only at hSw); go_simp; try with_reducible rfl
            try simp only [Act.put, List.setIfInBounds_toArray, List.set_cons_zero, List.set_cons_succ]
            refine wpAnyH_done (by kernel_rfl) (NoPanic.normal ?_) _
            have hG3 := hG1.on (below_setRow (below_new V1 (.cells #[.slice none 0 0, .slice none 0 0, .int .i64 0, .int .i64 0] 32)) (Nat.le_refl _) #[.slice pa1 pn1 pc1, .slice pa2 pn2 pc2, .int .i64 pb1, .int .i64 pb2])
            go_wp2_with fail
            go_meet
            case rel => exact ⟨V1.heap.size, pa1, pn1, pc1, pa2, pn2, pc2, pb1, pb2, rfl, rfl, hV1.size, (Blk.new V1 _ _).setRow _, hG3, hV3⟩
          · have hV1 : Below wr.heap.size wr (wr.alloc (.cells #[.slice none 0 0, .slice none 0 0, .int .i64 0, .int .i64 0] 32)) := below_new _ _
            have C1 : Hid (Calls _ _ _ _ _) := CRA.out (fun k => ffoot g f m r hq k ∨ k = wr.heap.size) (wr.alloc (.cells #[.slice none 0 0, .slice none 0 0, .int .i64 0, .int .i64 0] 32)).drew ((HS.out.tg.more wr.heap.size (Nat.le_refl _)).on hV1.drew) (fun k hk => by
              show k < (wr.alloc (.cells #[.slice none 0 0, .slice none 0 0, .int .i64 0, .int .i64 0] 32)).heap.size
              rw [World.size_alloc]
              rcases hk with hk | hk
              · have := HS.out.lt k hk; omega
              · omega)
            have KV1 : Blk (wr.alloc (.cells #[.slice none 0 0, .slice none 0 0, .int .i64 0, .int .i64 0] 32)).drew 32 wr.heap.size #[.slice none 0 0, .slice none 0 0, .int .i64 0, .int .i64 0] := Blk.new wr _ _
            go_simp
            refine hK.out _ _ (HSS.out _ hV1.drew) (fun hHeld => ?_)
            clear hK K
            refine wpAnyH_ready (rs := [5]) (by kernel_rfl) (by simp) ?_
            refine AllReadyH.cons rfl (fun K hK => ?_) AllReadyH.nil
            go_simp
            refine C1.out.mono ?_
            rintro e V ⟨v1, rfl, hG1, hb1⟩
            have hVV : Below wr.heap.size wr V := below_step hV1.drew (by simp) hb1
            have KV : Blk V 32 wr.heap.size #[.slice none 0 0, .slice none 0 0, .int .i64 0, .int .i64 0] := KV1.on hb1
            obtain ⟨pa1, pn1, pc1, pa2, pn2, pc2, pb1, pb2, rfl⟩ := hG1.shape
            refine hK.out _ _ (HSS.out _ hVV) (fun hHeld => ?_)
            clear hK K
            refine take_at (i := 6) (v := ?_) rfl rfl (by kernel_rfl) (by kernel_rfl) (by kernel_rfl) (fun _ _ _ h => h) (Or.inl ⟨by rfl, ?_⟩) (by assumption) ?_
            rotate_left
            · intro w hSw; (try dsimp only at hSw); go_simp; try with_reducible rfl
            try simp only [Act.put, List.setIfInBounds_toArray, List.set_cons_zero, List.set_cons_succ]
            refine take_at (i := 7) (v := ?_) rfl rfl (by kernel_rfl) (by kernel_rfl) (by kernel_rfl) (fun _ _ _ h => h) (Or.inl ⟨by rfl, ?_⟩) (by assumption) ?_
            rotate_left
            · intro w hSw; (try dsimp only at hSw); go_simp; try with_reducible rfl
            try simp only [Act.put, List.setIfInBounds_toArray, List.set_cons_zero, List.set_cons_succ]
            refine take_at (i := 8) (v := ?_) rfl rfl (by kernel_rfl) (by kernel_rfl) (by kernel_rfl) (fun _ _ _ h => h) (Or.inl ⟨by rfl, ?_⟩) (by assumption) ?_
            rotate_left
            · intro w hSw; (try dsimp only at hSw); go_simp; try with_reducible rfl
            try simp only [Act.put, List.setIfInBounds_toArray, List.set_cons_zero, List.set_cons_succ]
            refine wpAnyH_ready (rs := [10]) (by kernel_rfl) (by simp) ?_
            refine AllReadyH.cons rfl (fun K hK => ?_) AllReadyH.nil
            refine step_storeRow rfl rfl 32 _ _ rfl wr.heap.size #[.slice none 0 0, .slice none 0 0, .int .i64 0, .int .i64 0] #[.slice pa1 pn1 pc1, .slice pa2 pn2 pc2, .int .i64 pb1, .int .i64 pb2] rfl rfl KV rfl (by kernel_rfl) (by simp [Value.oneCell']) ?_
            have hV3 := below_setRow hVV (Nat.le_refl _) #[.slice pa1 pn1 pc1, .slice pa2 pn2 pc2, .int .i64 pb1, .int .i64 pb2]
            refine hK.out _ _ (HSS.out _ hV3) (fun hHeld => ?_)
            clear hK K
            refine take_at (i := 11) (v := ?_) rfl rfl (by kernel_rfl) (by kernel_rfl) (by kernel_rfl) (fun _ _ _ h => h) (Or.inl ⟨by rfl, ?_⟩) (by assumption) ?_
            rotate_left
            · intro w hSw; (try dsimp only at hSw); go_simp; try with_reducible rfl
            try simp only [Act.put, List.setIfInBounds_toArray, List.set_cons_zero, List.set_cons_succ]
            refine wpAnyH_done (by kernel_rfl) (NoPanic.normal ?_) _
            have hG3 := (hG1.kept (keptF_row V wr.heap.size #[.slice pa1 pn1 pc1, .slice pa2 pn2 pc2, .int .i64 pb1, .int .i64 pb2] (.inr rfl))).fewer (fun k hk => .inl hk)
            go_wp2_with fail
            go_meet
            case rel => exact ⟨wr.heap.size, pa1, pn1, pc1, pa2, pn2, pc2, pb1, pb2, rfl, rfl, Nat.le_refl _, KV.setRow _, hG3, hV3⟩
        case rest =>
          obtain ⟨hx, pa1, pn1, pc1, pa2, pn2, pc2, pb1, pb2, rfl, rfl, hhx, hQc, hGc, hBc⟩ := hcut
          have HSc : Hid (PlQ w wc g f m r T #[.slice a1 n1 c1, .slice a2 n2 c2, .int .i64 b1, .int .i64 b2] hq bi #[.int .i64 i1, .int .i64 i2]) := HS.out.on hBc
          have HGc : Hid (TreeG (ffoot g f m r hq) wc (.agg #[.slice pa1 pn1 pc1, .slice pa2 pn2 pc2, .int .i64 pb1, .int .i64 pb2]) AT) := hGc
          have HQc : Hid (Blk wc 32 hx #[.slice pa1 pn1 pc1, .slice pa2 pn2 pc2, .int .i64 pb1, .int .i64 pb2]) := hQc
          have HLx : Hid (∀ k, tfoot g f m r k → k < hx) := fun k hk => by have := HS.out.tr.tree.lt hk; omega
          have hS9 := HSO.out wc HSc.out.tr.bel
          clear hQc hGc hBc HS HSS hS0 CRA
          go_wp2_with fail
          refine wp_region_noPanic ?_
          refine wp_region_held_drew (S := fun W => W.cell? ⟨b, off + k * 9, none⟩ = some (.int .i64 k0) ∧ W.cell? ⟨b, off + k * 9 + 1, none⟩ = some (.int .i64 k1) ∧ W.cell? ⟨b, off + k * 9 + 2, none⟩ = some (.int .i64 k2) ∧ W.cell? ⟨b, off + k * 9 + 3, none⟩ = some (.int .i64 k3) ∧ W.cell? ⟨b, off + k * 9 + 4, none⟩ = some (.int .i64 k4) ∧ W.cell? ⟨b, off + k * 9 + 5, none⟩ = some (.int .i64 k5) ∧ W.cell? ⟨b, off + k * 9 + 6, none⟩ = some (.int .i64 k6) ∧ W.cell? ⟨b, off + k * 9 + 7, none⟩ = some (.string s7) ∧ W.cell? ⟨b, off + k * 9 + 8, none⟩ = some (.string s8)) (by kernel_rfl) (by first | exact trivial | assumption | exact ⟨by assumption, by assumption⟩) (fun hHeld => ?_)
          refine take_at (i := 0) (v := ?_) rfl rfl (by kernel_rfl) (by kernel_rfl) (by kernel_rfl) (fun _ _ _ h => h) (Or.inl ⟨by rfl, ?_⟩) (by assumption) ?_
          rotate_left
          · intro w hSw; (try dsimp only at hSw); go_simp; try with_reducible rfl
          try simp only [Act.put, List.setIfInBounds_toArray, List.set_cons_zero, List.set_cons_succ]
          refine take_at (i := 1) (v := ?_) rfl rfl (by kernel_rfl) (by kernel_rfl) (by kernel_rfl) (fun _ _ _ h => h) (Or.inl ⟨by rfl, ?_⟩) (by assumption) ?_
          rotate_left
          · intro w hSw; (try dsimp only at hSw); go_simp; try with_reducible rfl
          try simp only [Act.put, List.setIfInBounds_toArray, List.set_cons_zero, List.set_cons_succ]
          refine take_at (i := 2) (v := ?_) rfl rfl (by kernel_rfl) (by kernel_rfl) (by kernel_rfl) (fun _ _ _ h => h) (Or.inl ⟨by rfl, ?_⟩) (by assumption) ?_
          rotate_left
          · intro w hSw; (try dsimp only at hSw); go_simp; try with_reducible rfl
          try simp only [Act.put, List.setIfInBounds_toArray, List.set_cons_zero, List.set_cons_succ]
          refine take_at (i := 3) (v := ?_) rfl rfl (by kernel_rfl) (by kernel_rfl) (by kernel_rfl) (fun _ _ _ h => h) (Or.inl ⟨by rfl, ?_⟩) (by assumption) ?_
          rotate_left
          · intro w hSw; (try dsimp only at hSw); go_simp; try with_reducible rfl
          try simp only [Act.put, List.setIfInBounds_toArray, List.set_cons_zero, List.set_cons_succ]
          refine take_at (i := 5) (v := ?_) rfl rfl (by kernel_rfl) (by kernel_rfl) (by kernel_rfl) (fun _ _ _ h => h) (Or.inl ⟨by rfl, ?_⟩) (by assumption) ?_
          rotate_left
          · intro w hSw; (try dsimp only at hSw); go_simp; try with_reducible rfl
          try simp only [Act.put, List.setIfInBounds_toArray, List.set_cons_zero, List.set_cons_succ]
          refine take_at (i := 6) (v := ?_) rfl rfl (by kernel_rfl) (by kernel_rfl) (by kernel_rfl) (fun _ _ _ h => h) (Or.inl ⟨by rfl, ?_⟩) (by assumption) ?_
          rotate_left
          · intro w hSw; (try dsimp only at hSw); go_simp; try with_reducible rfl
          try simp only [Act.put, List.setIfInBounds_toArray, List.set_cons_zero, List.set_cons_succ]
          refine take_at (i := 7) (v := ?_) rfl rfl (by kernel_rfl) (by kernel_rfl) (by kernel_rfl) (fun _ _ _ h => h) (Or.inl ⟨by rfl, ?_⟩) (by assumption) ?_
          rotate_left
          · intro w hSw; (try dsimp only at hSw); go_simp; try with_reducible rfl
          try simp only [Act.put, List.setIfInBounds_toArray, List.set_cons_zero, List.set_cons_succ]
          refine take_at (i := 8) (v := ?_) rfl rfl (by kernel_rfl) (by kernel_rfl) (by kernel_rfl) (fun _ _ _ h => h) (Or.inl ⟨by rfl, ?_⟩) (by assumption) ?_
          rotate_left
          · intro w hSw; (try dsimp only at hSw); go_simp; try with_reducible rfl
          try simp only [Act.put, List.setIfInBounds_toArray, List.set_cons_zero, List.set_cons_succ]
          refine wpAnyH_ready (rs := [4]) (by kernel_rfl) (by simp) ?_
          refine AllReadyH.cons rfl (fun K hK => ?_) AllReadyH.nil
          go_simp
          refine (CCk.out wc.drew (HSc.out.on (Below.refl _ _).drew).tr.bel).mono ?_
          rintro e x4 ⟨rfl, hb4⟩
          have hB4 : Below wc.heap.size wc x4 := below_step (Below.refl _ _).drew (Nat.le_refl _) hb4
          refine hK.out _ _ (HSO.out x4 (HSc.out.on hB4).tr.bel) (fun hHeld => ?_)
          clear hK K
          refine wpAnyH_ready (rs := [9]) (by kernel_rfl) (by simp) ?_
          refine AllReadyH.cons rfl (fun K hK => ?_) AllReadyH.nil
          go_simp
          refine (CRC.out x4).mono ?_
          rintro e x5 ⟨rfl, hb5⟩
          have hB5 : Below wc.heap.size wc x5 := below_step hB4 (Nat.le_refl _) hb5
          have HS5 : Hid (PlQ w x5 g f m r T #[.slice a1 n1 c1, .slice a2 n2 c2, .int .i64 b1, .int .i64 b2] hq bi #[.int .i64 i1, .int .i64 i2]) := HSc.out.on hB5
          have HG5 : Hid (TreeG (ffoot g f m r hq) x5 (.agg #[.slice pa1 pn1 pc1, .slice pa2 pn2 pc2, .int .i64 pb1, .int .i64 pb2]) AT) := HGc.out.on hB5
          have HQ5 : Hid (Blk x5 32 hx #[.slice pa1 pn1 pc1, .slice pa2 pn2 pc2, .int .i64 pb1, .int .i64 pb2]) := HQc.out.on hB5
          have CA1 : Hid (Calls _ _ _ _ _) := CAp.out x5 HS5.out.tr
          clear hb4 hb5 hB4 hB5 HSc HGc HQc
          refine hK.out _ _ (HSO.out x5 HS5.out.tr.bel) (fun hHeld => ?_)
          clear hK K
          refine take_at (i := 10) (v := ?_) rfl rfl (by kernel_rfl) (by kernel_rfl) (by kernel_rfl) (fun _ _ _ h => h) (Or.inl ⟨by rfl, ?_⟩) (by assumption) ?_
          rotate_left
          · intro w hSw; (try dsimp only at hSw); go_simp; try with_reducible rfl
          try simp only [Act.put, List.setIfInBounds_toArray, List.set_cons_zero, List.set_cons_succ]
          refine take_at (i := 11) (v := ?_) rfl rfl (by kernel_rfl) (by kernel_rfl) (by kernel_rfl) (fun _ _ _ h => h) (Or.inl ⟨by rfl, ?_⟩) (by assumption) ?_
          rotate_left
          · intro w hSw; (try dsimp only at hSw); go_simp; try with_reducible rfl
          try simp only [Act.put, List.setIfInBounds_toArray, List.set_cons_zero, List.set_cons_succ]
          refine take_at (i := 12) (v := ?_) rfl rfl (by kernel_rfl) (by kernel_rfl) (by kernel_rfl) (fun _ _ _ h => h) (Or.inl ⟨by rfl, ?_⟩) (by assumption) ?_
          rotate_left
          · intro w hSw; (try dsimp only at hSw); go_simp; try with_reducible rfl
          try simp only [Act.put, List.setIfInBounds_toArray, List.set_cons_zero, List.set_cons_succ]
          refine take_at (i := 13) (v := ?_) rfl rfl (by kernel_rfl) (by kernel_rfl) (by kernel_rfl) (fun _ _ _ h => h) (Or.inl ⟨by rfl, ?_⟩) (by assumption) ?_
          rotate_left
          · intro w hSw; (try dsimp only at hSw); go_simp; try with_reducible rfl
          try simp only [Act.put, List.setIfInBounds_toArray, List.set_cons_zero, List.set_cons_succ]
          refine take_at (i := 14) (v := ?_) rfl rfl (by kernel_rfl) (by kernel_rfl) (by kernel_rfl) (fun _ _ _ h => h) (Or.inl ⟨by rfl, ?_⟩) (by assumption) ?_
          rotate_left
          · intro w hSw; (try dsimp only at hSw); go_simp; try with_reducible rfl
          try simp only [Act.put, List.setIfInBounds_toArray, List.set_cons_zero, List.set_cons_succ]
          refine take_at (i := 15) (v := ?_) rfl rfl (by kernel_rfl) (by kernel_rfl) (by kernel_rfl) (fun _ _ _ h => h) (Or.inl ⟨by rfl, ?_⟩) (by assumption) ?_
          rotate_left
          · intro w hSw; (try dsimp only at hSw); go_simp; try with_reducible rfl
          try simp only [Act.put, List.setIfInBounds_toArray, List.set_cons_zero, List.set_cons_succ]
          refine take_at (i := 16) (v := ?_) rfl rfl (by kernel_rfl) (by kernel_rfl) (by kernel_rfl) (fun _ _ _ h => h) (Or.inl ⟨by rfl, ?_⟩) (by assumption) ?_
          rotate_left
          · intro w hSw; (try dsimp only at hSw); go_simp; try with_reducible rfl
          try simp only [Act.put, List.setIfInBounds_toArray, List.set_cons_zero, List.set_cons_succ]
          refine take_at (i := 18) (v := ?_) rfl rfl (by kernel_rfl) (by kernel_rfl) (by kernel_rfl) (fun _ _ _ h => h) (Or.inl ⟨by rfl, ?_⟩) (by assumption) ?_
          rotate_left
          · intro w hSw; (try dsimp only at hSw); go_simp; try with_reducible rfl
          try simp only [Act.put, List.setIfInBounds_toArray, List.set_cons_zero, List.set_cons_succ]
          refine wpAnyH_ready (rs := [17]) (by kernel_rfl) (by simp) ?_
          refine AllReadyH.cons rfl (fun K hK => ?_) AllReadyH.nil
          go_simp
          refine CA1.out.mono ?_
          rintro e x6 ⟨rfl, r', hT6, hK6, hN6⟩
          have HSn : Hid (PlQ w (x6.setRow hq #[.slice pa1 pn1 pc1, .slice pa2 pn2 pc2, .int .i64 pb1, .int .i64 pb2]) g f m r' AT #[.slice pa1 pn1 pc1, .slice pa2 pn2 pc2, .int .i64 pb1, .int .i64 pb2] hq bi #[.int .i64 i1, .int .i64 i2]) := HS5.out.next hT6 hK6 hN6 HG5.out
          have HQ6 : Hid (Blk x6 32 hx #[.slice pa1 pn1 pc1, .slice pa2 pn2 pc2, .int .i64 pb1, .int .i64 pb2]) := HQ5.out.keptG hK6 (fun t => by have := HLx.out _ t; omega)
          have X1 : Blk x6 32 hq #[.slice a1 n1 c1, .slice a2 n2 c2, .int .i64 b1, .int .i64 b2] := HS5.out.q.keptG hK6 (fun t => (HS5.out.far _ t).1 rfl)
          have hbel6 := (HS5.out.tr.next hT6 hK6 hN6).bel
          clear CA1 hT6 hK6 hN6 HS5 HG5 HQ5
          refine hK.out _ _ (HSO.out x6 hbel6) (fun hHeld => ?_)
          clear hK K
          refine take_at (i := 19) (v := ?_) rfl rfl (by kernel_rfl) (by kernel_rfl) (by kernel_rfl) (fun _ _ _ h => h) (Or.inl ⟨by rfl, ?_⟩) (by assumption) ?_
          rotate_left
          · intro w hSw; (try dsimp only at hSw); go_simp; try with_reducible rfl
          try simp only [Act.put, List.setIfInBounds_toArray, List.set_cons_zero, List.set_cons_succ]
          refine take_at (i := 20) (v := ?_) rfl rfl (by kernel_rfl) (by kernel_rfl) (by kernel_rfl) (fun _ _ _ h => h) (Or.inl ⟨by rfl, ?_⟩) (by assumption) ?_
          rotate_left
          · intro w hSw; (try dsimp only at hSw); go_simp; try with_reducible rfl
          try simp only [Act.put, List.setIfInBounds_toArray, List.set_cons_zero, List.set_cons_succ]
          refine wpAnyH_done (by kernel_rfl) (NoPanic.normal ?_) _
          have y0 : x6.cell? ⟨hx, 0, none⟩ = some _ := HQ6.out.cell 0
          have y1 : x6.cell? ⟨hx, 1, none⟩ = some _ := HQ6.out.cell 1
          have y2 : x6.cell? ⟨hx, 2, none⟩ = some _ := HQ6.out.cell 2
          have y3 : x6.cell? ⟨hx, 3, none⟩ = some _ := HQ6.out.cell 3
          clear hbel6 hS9
          go_wp2_with (with_reducible refine wpList_storeBlkH rfl 32 _ _ rfl hq #[.slice a1 n1 c1, .slice a2 n2 c2, .int .i64 b1, .int .i64 b2] #[.slice pa1 pn1 pc1, .slice pa2 pn2 pc2, .int .i64 pb1, .int .i64 pb2] ?hxA ?hyA X1 rfl ?hiA ?h1A ?_)
          try (case hxA => rfl)
          try (case hyA => rfl)
          try (case hiA => first | kernel_rfl | (refine Option.map_eq_some_iff.1 (?_ : (Tryz.prog.info? 32).map (·.size) = some 4); kernel_rfl))
          try (case h1A => simp [Value.oneCell'])
          unfold Hid
          clear X1 y0 y1 y2 y3 HQ6
          obtain ⟨wr1, hwr1⟩ : ∃ wr1, x6.setRow hq #[.slice pa1 pn1 pc1, .slice pa2 pn2 pc2, .int .i64 pb1, .int .i64 pb2] = wr1 := ⟨_, rfl⟩
          rw [hwr1] at HSn ⊢
          have HS1 := HSn
          clear hwr1 HSn
          by_cases h4 : m5 = 4
          · subst h4
            by_cases hd : d5 < nu
            · have g1 : (d5 : Int) < (nu : Int) := by omega
              obtain ⟨bu, ou, rfl, hcu⟩ : ∃ bu ou, au = some ⟨bu, ou, none⟩ ∧ ∀ i, i < nu → w.cell? ⟨bu, ou + i * 2, none⟩ = some (.int .i64 (stL us i).1) ∧ w.cell? ⟨bu, ou + i * 2 + 1, none⟩ = some (.int .i64 (stL us i).2) := by
                rcases HU.out.2 with h | h
                · omega
                · exact h
              have HSU : Hid (∀ W, Below w.heap.size w W → W.cell? ⟨bu, ou + d5 * 2, none⟩ = some (.int .i64 (stL us d5).1) ∧ W.cell? ⟨bu, ou + d5 * 2 + 1, none⟩ = some (.int .i64 (stL us d5).2)) := fun W hW => ⟨by rw [hW.cell (World.block_lt_of_cell? w _ (hcu d5 hd).1)]; exact (hcu d5 hd).1, by rw [hW.cell (World.block_lt_of_cell? w _ (hcu d5 hd).2)]; exact (hcu d5 hd).2⟩
              have CRX' : ∀ (F : Nat → Prop) (W : World), TreeG F W (.agg #[.slice pa1 pn1 pc1, .slice pa2 pn2 pc2, .int .i64 pb1, .int .i64 pb2]) AT → (∀ k, F k → k < W.heap.size) → _ := fun F W h1 h2 => rcompactG_any F AT (stL us d5) (.agg #[.slice pa1 pn1 pc1, .slice pa2 pn2 pc2, .int .i64 pb1, .int .i64 pb2]) W (by have := HFa.out; omega) h1 h2
              have CCo' : ∀ W, TreeIn W g f m r' AT → _ := fun W h => compact_any g f m r' AT (stL us d5) W h (by have := HFa.out; omega)
              have hFc := comp_few AT (stL us d5)
              obtain ⟨⟨u1, u2⟩, hus⟩ : ∃ s, s = stL us d5 := ⟨_, rfl⟩
              rw [← hus] at HSU CRX' CCo' hFc
              simp only [stampV] at CRX' CCo' HSU
              obtain ⟨⟨CT, zn⟩, hCT⟩ : ∃ CT, compactP AT (u1, u2) = CT := ⟨_, rfl⟩
              rw [hCT] at CRX' CCo' hFc
              simp only at CRX' CCo' hFc
              have CRX : Hid (∀ (F : Nat → Prop) (W : World), TreeG F W (.agg #[.slice pa1 pn1 pc1, .slice pa2 pn2 pc2, .int .i64 pb1, .int .i64 pb2]) AT → (∀ k, F k → k < W.heap.size) → _) := CRX'
              have CCo : Hid (∀ W, TreeIn W g f m r' AT → _) := CCo'
              have HFw : Hid (CT.1.length + CT.2.1.length ≤ k + 1) := by have := HFa.out; show _ ≤ _; omega
              have HSS1 : Hid (∀ W, Below wr1.heap.size wr1 W → W.cell? ⟨hq, 0, none⟩ = some (.slice pa1 pn1 pc1) ∧ W.cell? ⟨hq, 1, none⟩ = some (.slice pa2 pn2 pc2) ∧ W.cell? ⟨hq, 2, none⟩ = some (.int .i64 pb1) ∧ W.cell? ⟨hq, 3, none⟩ = some (.int .i64 pb2) ∧ W.cell? ⟨bu, ou + d5 * 2, none⟩ = some (.int .i64 u1) ∧ W.cell? ⟨bu, ou + d5 * 2 + 1, none⟩ = some (.int .i64 u2)) := fun W hW => by
                have q := HS1.out.q.on hW
                have s := HSU.out W (HS1.out.on hW).tr.bel
                exact ⟨q.cell 0, q.cell 1, q.cell 2, q.cell 3, s.1, s.2⟩
              have hS0 := HSS1.out wr1 (Below.refl _ _)
              clear hus hCT CRX' CCo' hFc HFa hcu
              go_wp2_with fail
              go_cut [12, 13] (fun u ev wx => ∃ (hx : Nat) (za1 : Option Addr) (zn1 zc1 : Nat) (za2 : Option Addr) (zn2 zc2 : Nat) (zb1 zb2 : Int), u = .pointer (some ⟨hx, 0, none⟩) ∧ ev = .int .i64 (zn : Int) ∧ wr1.heap.size ≤ hx ∧ Blk wx 32 hx #[.slice za1 zn1 zc1, .slice za2 zn2 zc2, .int .i64 zb1, .int .i64 zb2] ∧ TreeG (ffoot g f m r' hq) wx (.agg #[.slice za1 zn1 zc1, .slice za2 zn2 zc2, .int .i64 zb1, .int .i64 zb2]) CT ∧ Below wr1.heap.size wr1 wx)
              case first =>
                refine wp_region_noPanic ?_
                refine wp_region_held_drew (S := fun W => W.cell? ⟨hq, 0, none⟩ = some (.slice pa1 pn1 pc1) ∧ W.cell? ⟨hq, 1, none⟩ = some (.slice pa2 pn2 pc2) ∧ W.cell? ⟨hq, 2, none⟩ = some (.int .i64 pb1) ∧ W.cell? ⟨hq, 3, none⟩ = some (.int .i64 pb2) ∧ W.cell? ⟨bu, ou + d5 * 2, none⟩ = some (.int .i64 u1) ∧ W.cell? ⟨bu, ou + d5 * 2 + 1, none⟩ = some (.int .i64 u2)) (by kernel_rfl) (by first | exact trivial | assumption | exact ⟨by assumption, by assumption⟩) (fun hHeld => ?_)
                refine take_at (i := 0) (v := ?_) rfl rfl (by kernel_rfl) (by kernel_rfl) (by kernel_rfl) (fun _ _ _ h => h) (Or.inl ⟨by rfl, ?_⟩) (by assumption) ?_
                rotate_left
                · intro w hSw; (try dsimp only at hSw); go_simp; try with_reducible rfl
                try simp only [Act.put, List.setIfInBounds_toArray, List.set_cons_zero, List.set_cons_succ]
                refine take_at (i := 1) (v := ?_) rfl rfl (by kernel_rfl) (by kernel_rfl) (by kernel_rfl) (fun _ _ _ h => h) (Or.inl ⟨by rfl, ?_⟩) (by assumption) ?_
                rotate_left
                · intro w hSw; (try dsimp only at hSw); go_simp; try with_reducible rfl
                try simp only [Act.put, List.setIfInBounds_toArray, List.set_cons_zero, List.set_cons_succ]
                refine take_at (i := 2) (v := ?_) rfl rfl (by kernel_rfl) (by kernel_rfl) (by kernel_rfl) (fun _ _ _ h => h) (Or.inl ⟨by rfl, ?_⟩) (by assumption) ?_
                rotate_left
                · intro w hSw; (try dsimp only at hSw); go_simp; try with_reducible rfl
                try simp only [Act.put, List.setIfInBounds_toArray, List.set_cons_zero, List.set_cons_succ]
                refine take_at (i := 3) (v := ?_) rfl rfl (by kernel_rfl) (by kernel_rfl) (by kernel_rfl) (fun _ _ _ h => h) (Or.inl ⟨by rfl, ?_⟩) (by assumption) ?_
                rotate_left
                · intro w hSw; (try dsimp only at hSw); go_simp; try with_reducible rfl
                try simp only [Act.put, List.setIfInBounds_toArray, List.set_cons_zero, List.set_cons_succ]
                refine take_at (i := 4) (v := ?_) rfl rfl (by kernel_rfl) (by kernel_rfl) (by kernel_rfl) (fun _ _ _ h => h) (Or.inl ⟨by rfl, ?_⟩) (by assumption) ?_
                rotate_left
                · intro w hSw; (try dsimp only at hSw); go_simp; try with_reducible rfl
                try simp only [Act.put, List.setIfInBounds_toArray, List.set_cons_zero, List.set_cons_succ]
                refine take_at (i := 5) (v := ?_) rfl rfl (by kernel_rfl) (by kernel_rfl) (by kernel_rfl) (fun _ _ _ h => h) (Or.inl ⟨by rfl, ?_⟩) (by assumption) ?_
                rotate_left
                · intro w hSw; (try dsimp only at hSw); go_simp; try with_reducible rfl
                try simp only [Act.put, List.setIfInBounds_toArray, List.set_cons_zero, List.set_cons_succ]
                refine wpAnyH_ready (rs := [6, 10]) (by kernel_rfl) (by simp) ?_
                refine AllReadyH.cons rfl (fun K hK => ?_) (AllReadyH.cons rfl (fun K hK => ?_) AllReadyH.nil)
                · have C1 : Hid (Calls _ _ _ _ _) := CRX.out (ffoot g f m r' hq) wr1.drew (HS1.out.on (Below.refl _ _).drew).tg (HS1.out.on (Below.refl _ _).drew).lt
                  go_simp
                  refine C1.out.mono ?_
                  rintro e V1 ⟨v1, rfl, hG1, hb1⟩
                  have hV1 : Below wr1.heap.size wr1 V1 := below_step (Below.refl _ _).drew (Nat.le_refl _) hb1
                  obtain ⟨za1, zn1, zc1, za2, zn2, zc2, zb1, zb2, rfl⟩ := hG1.shape
                  refine hK.out _ _ (HSS1.out _ hV1) (fun hHeld => ?_)
                  clear hK K
                  refine take_at (i := 7) (v := ?_) rfl rfl (by kernel_rfl) (by kernel_rfl) (by kernel_rfl) (fun _ _ _ h => h) (Or.inl ⟨by rfl, ?_⟩) (by assumption) ?_
                  rotate_left
                  · intro w hSw; (try dsimp only at hSw); go_simp; try with_reducible rfl
                  try simp only [Act.put, List.setIfInBounds_toArray, List.set_cons_zero, List.set_cons_succ]
                  refine take_at (i := 8) (v := ?_) rfl rfl (by kernel_rfl) (by kernel_rfl) (by kernel_rfl) (fun _ _ _ h => h) (Or.inl ⟨by rfl, ?_⟩) (by assumption) ?_
                  rotate_left
                  · intro w hSw; (try dsimp only at hSw); go_simp; try with_reducible rfl
                  try simp only [Act.put, List.setIfInBounds_toArray, List.set_cons_zero, List.set_cons_succ]
                  refine take_at (i := 9) (v := ?_) rfl rfl (by kernel_rfl) (by kernel_rfl) (by kernel_rfl) (fun _ _ _ h => h) (Or.inl ⟨by rfl, ?_⟩) (by assumption) ?_
                  rotate_left
                  · intro w hSw; (try dsimp only at hSw); go_simp; try with_reducible rfl
                  try simp only [Act.put, List.setIfInBounds_toArray, List.set_cons_zero, List.set_cons_succ]
                  refine wpAnyH_ready (rs := [10]) (by kernel_rfl) (by simp) ?_
                  refine AllReadyH.cons rfl (fun K hK => ?_) AllReadyH.nil
                  go_simp
                  have hV2 : Below wr1.heap.size wr1 (V1.alloc (.cells #[.slice none 0 0, .slice none 0 0, .int .i64 0, .int .i64 0] 32)) := hV1.alloc hV1.size _
                  refine hK.out _ _ (HSS1.out _ hV2) (fun hHeld => ?_)
                  clear hK K
                  refine wpAnyH_ready (rs := [11]) (by kernel_rfl) (by simp) ?_
                  refine AllReadyH.cons rfl (fun K hK => ?_) AllReadyH.nil
                  refine step_storeRow rfl rfl 32 _ _ rfl V1.heap.size #[.slice none 0 0, .slice none 0 0, .int .i64 0, .int .i64 0] #[.slice za1 zn1 zc1, .slice za2 zn2 zc2, .int .i64 zb1, .int .i64 zb2] rfl rfl (Blk.new V1 _ _) rfl (by kernel_rfl) (by simp [Value.oneCell']) ?_
                  have hV3 := below_setRow hV2 hV1.size #[.slice za1 zn1 zc1, .slice za2 zn2 zc2, .int .i64 zb1, .int .i64 zb2]
                  refine hK.out _ _ (HSS1.out _ hV3) (fun hHeld => ?_)
                  clear hK K
                  refine take_at (i := 12) (v := ?_) rfl rfl (by kernel_rfl) (by kernel_rfl) (by kernel_rfl) (fun _ _ _ h => h) (Or.inl ⟨by rfl, ?_⟩) (by assumption) ?_
                  rotate_left
                  · intro w hSw; (try dsimp only at hSw); go_simp; try with_reducible rfl
                  try simp only [Act.put, List.setIfInBounds_toArray, List.set_cons_zero, List.set_cons_succ]
                  refine wpAnyH_done (by kernel_rfl) (NoPanic.normal ?_) _
                  have hG3 := hG1.on (below_setRow (below_new V1 (.cells #[.slice none 0 0, .slice none 0 0, .int .i64 0, .int .i64 0] 32)) (Nat.le_refl _) #[.slice za1 zn1 zc1, .slice za2 zn2 zc2, .int .i64 zb1, .int .i64 zb2])
                  go_wp2_with fail
                  go_meet
                  case rel => exact ⟨V1.heap.size, za1, zn1, zc1, za2, zn2, zc2, zb1, zb2, rfl, rfl, hV1.size, (Blk.new V1 _ _).setRow _, hG3, hV3⟩
                · have hV1 : Below wr1.heap.size wr1 (wr1.alloc (.cells #[.slice none 0 0, .slice none 0 0, .int .i64 0, .int .i64 0] 32)) := below_new _ _
                  have C1 : Hid (Calls _ _ _ _ _) := CRX.out (fun k => ffoot g f m r' hq k ∨ k = wr1.heap.size) (wr1.alloc (.cells #[.slice none 0 0, .slice none 0 0, .int .i64 0, .int .i64 0] 32)).drew ((HS1.out.tg.more wr1.heap.size (Nat.le_refl _)).on hV1.drew) (fun k hk => by
                    show k < (wr1.alloc (.cells #[.slice none 0 0, .slice none 0 0, .int .i64 0, .int .i64 0] 32)).heap.size
                    rw [World.size_alloc]
                    rcases hk with hk | hk
                    · have := HS1.out.lt k hk; omega
                    · omega)
                  have KV1 : Blk (wr1.alloc (.cells #[.slice none 0 0, .slice none 0 0, .int .i64 0, .int .i64 0] 32)).drew 32 wr1.heap.size #[.slice none 0 0, .slice none 0 0, .int .i64 0, .int .i64 0] := Blk.new wr1 _ _
                  go_simp
                  refine hK.out _ _ (HSS1.out _ hV1.drew) (fun hHeld => ?_)
                  clear hK K
                  refine wpAnyH_ready (rs := [6]) (by kernel_rfl) (by simp) ?_
                  refine AllReadyH.cons rfl (fun K hK => ?_) AllReadyH.nil
                  go_simp
                  refine C1.out.mono ?_
                  rintro e V ⟨v1, rfl, hG1, hb1⟩
                  have hVV : Below wr1.heap.size wr1 V := below_step hV1.drew (by simp) hb1
                  have KV : Blk V 32 wr1.heap.size #[.slice none 0 0, .slice none 0 0, .int .i64 0, .int .i64 0] := KV1.on hb1
                  obtain ⟨za1, zn1, zc1, za2, zn2, zc2, zb1, zb2, rfl⟩ := hG1.shape
                  refine hK.out _ _ (HSS1.out _ hVV) (fun hHeld => ?_)
                  clear hK K
                  refine take_at (i := 7) (v := ?_) rfl rfl (by kernel_rfl) (by kernel_rfl) (by kernel_rfl) (fun _ _ _ h => h) (Or.inl ⟨by rfl, ?_⟩) (by assumption) ?_
                  rotate_left
                  · intro w hSw; (try dsimp only at hSw); go_simp; try with_reducible rfl
                  try simp only [Act.put, List.setIfInBounds_toArray, List.set_cons_zero, List.set_cons_succ]
                  refine take_at (i := 8) (v := ?_) rfl rfl (by kernel_rfl) (by kernel_rfl) (by kernel_rfl) (fun _ _ _ h => h) (Or.inl ⟨by rfl, ?_⟩) (by assumption) ?_
                  rotate_left
                  · intro w hSw; (try dsimp only at hSw); go_simp; try with_reducible rfl
                  try simp only [Act.put, List.setIfInBounds_toArray, List.set_cons_zero, List.set_cons_succ]
                  refine take_at (i := 9) (v := ?_) rfl rfl (by kernel_rfl) (by kernel_rfl) (by kernel_rfl) (fun _ _ _ h => h) (Or.inl ⟨by rfl, ?_⟩) (by assumption) ?_
                  rotate_left
                  · intro w hSw; (try dsimp only at hSw); go_simp; try with_reducible rfl
                  try simp only [Act.put, List.setIfInBounds_toArray, List.set_cons_zero, List.set_cons_succ]
                  refine wpAnyH_ready (rs := [11]) (by kernel_rfl) (by simp) ?_
                  refine AllReadyH.cons rfl (fun K hK => ?_) AllReadyH.nil
                  refine step_storeRow rfl rfl 32 _ _ rfl wr1.heap.size #[.slice none 0 0, .slice none 0 0, .int .i64 0, .int .i64 0] #[.slice za1 zn1 zc1, .slice za2 zn2 zc2, .int .i64 zb1, .int .i64 zb2] rfl rfl KV rfl (by kernel_rfl) (by simp [Value.oneCell']) ?_
                  have hV3 := below_setRow hVV (Nat.le_refl _) #[.slice za1 zn1 zc1, .slice za2 zn2 zc2, .int .i64 zb1, .int .i64 zb2]
                  refine hK.out _ _ (HSS1.out _ hV3) (fun hHeld => ?_)
                  clear hK K
                  refine take_at (i := 12) (v := ?_) rfl rfl (by kernel_rfl) (by kernel_rfl) (by kernel_rfl) (fun _ _ _ h => h) (Or.inl ⟨by rfl, ?_⟩) (by assumption) ?_
                  rotate_left
                  · intro w hSw; (try dsimp only at hSw); go_simp; try with_reducible rfl
                  try simp only [Act.put, List.setIfInBounds_toArray, List.set_cons_zero, List.set_cons_succ]
                  refine wpAnyH_done (by kernel_rfl) (NoPanic.normal ?_) _
                  have hG3 := (hG1.kept (keptF_row V wr1.heap.size #[.slice za1 zn1 zc1, .slice za2 zn2 zc2, .int .i64 zb1, .int .i64 zb2] (.inr rfl))).fewer (fun k hk => .inl hk)
                  go_wp2_with fail
                  go_meet
                  case rel => exact ⟨wr1.heap.size, za1, zn1, zc1, za2, zn2, zc2, zb1, zb2, rfl, rfl, Nat.le_refl _, KV.setRow _, hG3, hV3⟩
              case rest =>
                obtain ⟨hx2, za1, zn1, zc1, za2, zn2, zc2, zb1, zb2, rfl, rfl, hhx2, hQc2, hGc2, hBc2⟩ := hcut
                have HS3 : Hid (PlQ w wc g f m r' AT #[.slice pa1 pn1 pc1, .slice pa2 pn2 pc2, .int .i64 pb1, .int .i64 pb2] hq bi #[.int .i64 i1, .int .i64 i2]) := HS1.out.on hBc2
                have HG3 : Hid (TreeG (ffoot g f m r' hq) wc (.agg #[.slice za1 zn1 zc1, .slice za2 zn2 zc2, .int .i64 zb1, .int .i64 zb2]) CT) := hGc2
                have HQ3 : Hid (Blk wc 32 hx2 #[.slice za1 zn1 zc1, .slice za2 zn2 zc2, .int .i64 zb1, .int .i64 zb2]) := hQc2
                have HL2 : Hid (∀ k, tfoot g f m r' k → k < hx2) := fun k hk => by have := HS1.out.tr.tree.lt hk; omega
                have CC1 : Hid (Calls _ _ _ _ _) := CCo.out wc HS3.out.tr.tree
                obtain ⟨t0, t1⟩ := HSU.out wc HS3.out.tr.bel
                clear hQc2 hGc2 hBc2 HS1 HSS1 hS0 CRX CCo HSU
                go_wp2_with fail
                refine CC1.out.mono ?_
                rintro e x7 ⟨rfl, r3, hT7, hK7, hN7⟩
                have HSn : Hid (PlQ w (x7.setRow hq #[.slice za1 zn1 zc1, .slice za2 zn2 zc2, .int .i64 zb1, .int .i64 zb2]) g f m r3 CT #[.slice za1 zn1 zc1, .slice za2 zn2 zc2, .int .i64 zb1, .int .i64 zb2] hq bi #[.int .i64 i1, .int .i64 i2]) := HS3.out.next hT7 hK7 hN7 HG3.out
                have HQ7 : Hid (Blk x7 32 hx2 #[.slice za1 zn1 zc1, .slice za2 zn2 zc2, .int .i64 zb1, .int .i64 zb2]) := HQ3.out.keptG hK7 (fun t => by have := HL2.out _ t; omega)
                have X1 : Blk x7 32 hq #[.slice pa1 pn1 pc1, .slice pa2 pn2 pc2, .int .i64 pb1, .int .i64 pb2] := HS3.out.q.keptG hK7 (fun t => (HS3.out.far _ t).1 rfl)
                have y0 : x7.cell? ⟨hx2, 0, none⟩ = some _ := HQ7.out.cell 0
                have y1 : x7.cell? ⟨hx2, 1, none⟩ = some _ := HQ7.out.cell 1
                have y2 : x7.cell? ⟨hx2, 2, none⟩ = some _ := HQ7.out.cell 2
                have y3 : x7.cell? ⟨hx2, 3, none⟩ = some _ := HQ7.out.cell 3
                clear CC1 hT7 hK7 hN7 HS3 HG3 HQ3 HL2 t0 t1
                go_wp2_with (with_reducible refine wpList_storeBlkH rfl 32 _ _ rfl hq #[.slice pa1 pn1 pc1, .slice pa2 pn2 pc2, .int .i64 pb1, .int .i64 pb2] #[.slice za1 zn1 zc1, .slice za2 zn2 zc2, .int .i64 zb1, .int .i64 zb2] ?hxB ?hyB X1 rfl ?hiB ?h1B ?_)
                try (case hxB => rfl)
                try (case hyB => rfl)
                try (case hiB => first | kernel_rfl | (refine Option.map_eq_some_iff.1 (?_ : (Tryz.prog.info? 32).map (·.size) = some 4); kernel_rfl))
                try (case h1B => simp [Value.oneCell'])
                unfold Hid
                clear X1 y0 y1 y2 y3 HQ7
                obtain ⟨wr2, hwr2⟩ : ∃ wr2, x7.setRow hq #[.slice za1 zn1 zc1, .slice za2 zn2 zc2, .int .i64 zb1, .int .i64 zb2] = wr2 := ⟨_, rfl⟩
                rw [hwr2] at HSn ⊢
                have HS2 := HSn
                clear hwr2 HSn
                have CSm : Hid (Calls _ _ _ _ _) := same_any g f m r3 CT (.agg #[.slice za1 zn1 zc1, .slice za2 zn2 zc2, .int .i64 zb1, .int .i64 zb2]) wr2 HS2.out.tr.tree (HS2.out.tg.fewer (fun k hk => .inl hk)) (by have := HFw.out; omega)
                have y0 : wr2.cell? ⟨hq, 0, none⟩ = some _ := HS2.out.q.cell 0
                have y1 : wr2.cell? ⟨hq, 1, none⟩ = some _ := HS2.out.q.cell 1
                have y2 : wr2.cell? ⟨hq, 2, none⟩ = some _ := HS2.out.q.cell 2
                have y3 : wr2.cell? ⟨hq, 3, none⟩ = some _ := HS2.out.q.cell 3
                go_wp2_with fail
                refine CSm.out.mono ?_
                rintro e ws ⟨rfl, hTs, hKs⟩
                have HSs := HS2.out.kept hTs hKs
                clear CSm hTs hKs HS2 y0 y1 y2 y3
                go_wp2_with fail
                refine ⟨?_, ?_⟩
                · first
                  | exact ⟨k + 1, r3, CT, za1, zn1, zc1, za2, zn2, zc2, zb1, zb2, by omega, by go_num, HFw, HSs⟩
                  | ((repeat apply Exists.intro); refine ⟨?_, rfl⟩; exact ⟨k + 1, r3, CT, za1, zn1, zc1, za2, zn2, zc2, zb1, zb2, by omega, by go_num, HFw, HSs⟩)
                · simp [intOf] <;> omega
            · have g1 : ¬ ((d5 : Int) < (nu : Int)) := by omega
              obtain ⟨wr2, hwr2⟩ : ∃ wr2, wr1 = wr2 := ⟨_, rfl⟩
              obtain ⟨r3, hr3⟩ : ∃ r3, r' = r3 := ⟨_, rfl⟩
              have HS2 := HS1
              rw [hwr2, hr3] at HS2
              rw [hwr2]
              have HFw : Hid (AT.1.length + AT.2.1.length ≤ k + 1) := HFa
              clear HS1 hwr2 hr3 HFa
              have CSm : Hid (Calls _ _ _ _ _) := same_any g f m r3 AT (.agg #[.slice pa1 pn1 pc1, .slice pa2 pn2 pc2, .int .i64 pb1, .int .i64 pb2]) wr2 HS2.out.tr.tree (HS2.out.tg.fewer (fun k hk => .inl hk)) (by have := HFw.out; omega)
              have y0 : wr2.cell? ⟨hq, 0, none⟩ = some _ := HS2.out.q.cell 0
              have y1 : wr2.cell? ⟨hq, 1, none⟩ = some _ := HS2.out.q.cell 1
              have y2 : wr2.cell? ⟨hq, 2, none⟩ = some _ := HS2.out.q.cell 2
              have y3 : wr2.cell? ⟨hq, 3, none⟩ = some _ := HS2.out.q.cell 3
              go_wp2_with fail
              refine CSm.out.mono ?_
              rintro e ws ⟨rfl, hTs, hKs⟩
              have HSs := HS2.out.kept hTs hKs
              clear CSm hTs hKs HS2 y0 y1 y2 y3
              go_wp2_with fail
              refine ⟨?_, ?_⟩
              · first
                | exact ⟨k + 1, r3, AT, pa1, pn1, pc1, pa2, pn2, pc2, pb1, pb2, by omega, by go_num, HFw, HSs⟩
                | ((repeat apply Exists.intro); refine ⟨?_, rfl⟩; exact ⟨k + 1, r3, AT, pa1, pn1, pc1, pa2, pn2, pc2, pb1, pb2, by omega, by go_num, HFw, HSs⟩)
              · simp [intOf] <;> omega
          · have g0 : ¬ ((m5 : Int) = 4) := by omega
            have g0' : ((m5 : Int) == 4) = false := by simp; omega
            obtain ⟨wr2, hwr2⟩ : ∃ wr2, wr1 = wr2 := ⟨_, rfl⟩
            obtain ⟨r3, hr3⟩ : ∃ r3, r' = r3 := ⟨_, rfl⟩
            have HS2 := HS1
            rw [hwr2, hr3] at HS2
            rw [hwr2]
            have HFw : Hid (AT.1.length + AT.2.1.length ≤ k + 1) := HFa
            clear HS1 hwr2 hr3 HFa
            have CSm : Hid (Calls _ _ _ _ _) := same_any g f m r3 AT (.agg #[.slice pa1 pn1 pc1, .slice pa2 pn2 pc2, .int .i64 pb1, .int .i64 pb2]) wr2 HS2.out.tr.tree (HS2.out.tg.fewer (fun k hk => .inl hk)) (by have := HFw.out; omega)
            have y0 : wr2.cell? ⟨hq, 0, none⟩ = some _ := HS2.out.q.cell 0
            have y1 : wr2.cell? ⟨hq, 1, none⟩ = some _ := HS2.out.q.cell 1
            have y2 : wr2.cell? ⟨hq, 2, none⟩ = some _ := HS2.out.q.cell 2
            have y3 : wr2.cell? ⟨hq, 3, none⟩ = some _ := HS2.out.q.cell 3
            go_wp2_with fail
            refine CSm.out.mono ?_
            rintro e ws ⟨rfl, hTs, hKs⟩
            have HSs := HS2.out.kept hTs hKs
            clear CSm hTs hKs HS2 y0 y1 y2 y3
            go_wp2_with fail
            refine ⟨?_, ?_⟩
            · first
              | exact ⟨k + 1, r3, AT, pa1, pn1, pc1, pa2, pn2, pc2, pb1, pb2, by omega, by go_num, HFw, HSs⟩
              | ((repeat apply Exists.intro); refine ⟨?_, rfl⟩; exact ⟨k + 1, r3, AT, pa1, pn1, pc1, pa2, pn2, pc2, pb1, pb2, by omega, by go_num, HFw, HSs⟩)
            · simp [intOf] <;> omega
      · obtain rfl : k = n := by omega
        have b0 : ¬ ((k : Int) < (k : Int)) := by omega
        have HB0 := HS.out.tr.tree.ok
        have hso : SortN (nodesP T.1 T.2.1) := (rooted_nodes HB0.rooted _ HB0.may).sort
        have hgp := getP_look hso (i1, i2)
        have CG : Hid (∀ W, TreeIn W g f m r T → Calls _ _ _ _ _) := fun W hW => get_any g f m r T (i1, i2) W hW (by have := HFw.out; omega)
        have CRG : Hid (∀ W, TreeV W (.agg #[.slice a1 n1 c1, .slice a2 n2 c2, .int .i64 b1, .int .i64 b2]) T → Calls _ _ _ _ _) := fun W hW => rget_any T (i1, i2) (.agg #[.slice a1 n1 c1, .slice a2 n2 c2, .int .i64 b1, .int .i64 b2]) W (by have := HFw.out; omega) hW
        rw [hgp] at CRG
        obtain ⟨nd, hnd⟩ : ∃ nd, (look (nodesP T.1 T.2.1) (i1, i2)).getD node0 = nd := ⟨_, rfl⟩
        obtain ⟨ok, hok⟩ : ∃ ok, (look (nodesP T.1 T.2.1) (i1, i2)).isSome = ok := ⟨_, rfl⟩
        simp only [hnd, hok, stampV, nodeV] at CG CRG
        have hE := fun W => nodeEq_is nd nd true (decide_eq_true rfl) W
        obtain ⟨⟨d1, d2⟩, ⟨d3, d4⟩, d5, d6⟩ := nd
        simp only [nodeA] at CG CRG hE
        have j0 : wr.cell? ⟨bi, 0, none⟩ = some (.int .i64 i1) := HS.out.i.cell 0
        have j1 : wr.cell? ⟨bi, 1, none⟩ = some (.int .i64 i2) := HS.out.i.cell 1
        have CG1 : Hid (Calls _ _ _ _ _) := CG.out wr HS.out.tr.tree
        have hob : (ok == ok) = true := by cases ok <;> rfl
        clear HB0 hso hgp hnd hok CG
        go_wp2_with fail
        refine CG1.out.mono ?_
        rintro e x8 ⟨rfl, hT8, hK8⟩
        have HS8 : Hid (PlQ w x8 g f m r T #[.slice a1 n1 c1, .slice a2 n2 c2, .int .i64 b1, .int .i64 b2] hq bi #[.int .i64 i1, .int .i64 i2]) := HS.out.kept hT8 hK8
        obtain ⟨V8, hV8⟩ : ∃ V8, x8.alloc (.cells #[.int .i64 d1, .int .i64 d2, .int .i64 d3, .int .i64 d4, .string d5, .string d6] 44) = V8 := ⟨_, rfl⟩
        obtain ⟨h14, hh14⟩ : ∃ h14, x8.heap.size = h14 := ⟨_, rfl⟩
        have HS9 : Hid (PlQ w V8 g f m r T #[.slice a1 n1 c1, .slice a2 n2 c2, .int .i64 b1, .int .i64 b2] hq bi #[.int .i64 i1, .int .i64 i2]) := by show PlQ _ _ _ _ _ _ _ _ _ _ _; rw [← hV8]; exact HS8.out.on (below_new _ _)
        have HK9 : Hid (Blk V8 44 h14 #[.int .i64 d1, .int .i64 d2, .int .i64 d3, .int .i64 d4, .string d5, .string d6]) := by show Blk _ _ _ _; rw [← hV8, ← hh14]; exact Blk.new _ _ _
        have i0' : (x8.alloc (.cells #[.int .i64 d1, .int .i64 d2, .int .i64 d3, .int .i64 d4, .string d5, .string d6] 44)).cell? ⟨bi, 0, none⟩ = some (.int .i64 i1) := by rw [hV8]; exact HS9.out.i.cell 0
        have i1' : (x8.alloc (.cells #[.int .i64 d1, .int .i64 d2, .int .i64 d3, .int .i64 d4, .string d5, .string d6] 44)).cell? ⟨bi, 1, none⟩ = some (.int .i64 i2) := by rw [hV8]; exact HS9.out.i.cell 1
        have q0' : (x8.alloc (.cells #[.int .i64 d1, .int .i64 d2, .int .i64 d3, .int .i64 d4, .string d5, .string d6] 44)).cell? ⟨hq, 0, none⟩ = some (.slice a1 n1 c1) := by rw [hV8]; exact HS9.out.q.cell 0
        have q1' : (x8.alloc (.cells #[.int .i64 d1, .int .i64 d2, .int .i64 d3, .int .i64 d4, .string d5, .string d6] 44)).cell? ⟨hq, 1, none⟩ = some (.slice a2 n2 c2) := by rw [hV8]; exact HS9.out.q.cell 1
        have q2' : (x8.alloc (.cells #[.int .i64 d1, .int .i64 d2, .int .i64 d3, .int .i64 d4, .string d5, .string d6] 44)).cell? ⟨hq, 2, none⟩ = some (.int .i64 b1) := by rw [hV8]; exact HS9.out.q.cell 2
        have q3' : (x8.alloc (.cells #[.int .i64 d1, .int .i64 d2, .int .i64 d3, .int .i64 d4, .string d5, .string d6] 44)).cell? ⟨hq, 3, none⟩ = some (.int .i64 b2) := by rw [hV8]; exact HS9.out.q.cell 3
        have CRG1 : Hid (Calls _ _ _ _ _) := CRG.out V8 HS9.out.tg.v
        have HV8 : Hid (x8.alloc (.cells #[.int .i64 d1, .int .i64 d2, .int .i64 d3, .int .i64 d4, .string d5, .string d6] 44) = V8) := hV8
        have HH14 : Hid (x8.heap.size = h14) := hh14
        clear CG1 hT8 hK8 HS HS8 CRG hV8 hh14
        go_wp2_with fail
        rw [HV8.out]
        refine CRG1.out.mono ?_
        rintro e x9 ⟨rfl, hb9⟩
        rw [HH14.out]
        have HKn := HK9.out.on hb9
        have m0 : ∀ o, (x9.alloc o).cell? ⟨h14, 0, none⟩ = some (.int .i64 d1) := fun o => (HKn.on (below_new x9 o)).cell 0
        have m1 : ∀ o, (x9.alloc o).cell? ⟨h14, 1, none⟩ = some (.int .i64 d2) := fun o => (HKn.on (below_new x9 o)).cell 1
        have m2 : ∀ o, (x9.alloc o).cell? ⟨h14, 2, none⟩ = some (.int .i64 d3) := fun o => (HKn.on (below_new x9 o)).cell 2
        have m3 : ∀ o, (x9.alloc o).cell? ⟨h14, 3, none⟩ = some (.int .i64 d4) := fun o => (HKn.on (below_new x9 o)).cell 3
        have m4 : ∀ o, (x9.alloc o).cell? ⟨h14, 4, none⟩ = some (.string d5) := fun o => (HKn.on (below_new x9 o)).cell 4
        have m5 : ∀ o, (x9.alloc o).cell? ⟨h14, 5, none⟩ = some (.string d6) := fun o => (HKn.on (below_new x9 o)).cell 5
        have HBn : Hid (∀ o, Below w.heap.size w (x9.alloc o)) := fun o => below_step (HS9.out.on hb9).tr.bel (Nat.le_refl _) (below_new x9 o)
        have CWx : Hid (∀ o, Calls Tryz.prog 7 #[] (x9.alloc o) fun e w' => e = .returned (.bool true) ∧ Below (x9.alloc o).heap.size (x9.alloc o) w') := fun o => CW.out _ (HBn.out o)
        clear CRG1 hb9 HKn HK9 HS9 CW HV8 HH14 i0' i1' q0' q1' q2' q3'
        go_wp2_with fail
        refine (CWx.out _).mono ?_
        rintro e x5 ⟨rfl, hb5⟩
        have hB5 := below_step (HBn.out _) (Nat.le_refl _) hb5
        clear CWx hb5
        go_wp2_with fail
        go_ret
        exact ⟨rfl, hB5⟩
  · have CF : Hid (Calls _ _ _ _ _) := CF0.out hF w1 HT1.out.bel
    clear CF1 CF0 hF
    go_wp2_with fail
    refine CF.out.mono ?_
    rintro e w4 ⟨rfl, hb4⟩
    have HB : Hid (Below w.heap.size w w4) := below_step HT1.out.bel (Nat.le_refl _) hb4
    have CWx : Hid (Calls _ _ _ _ _) := CW.out w4 HB.out
    clear CF hb4 CW HT1
    go_wp2_with fail
    refine CWx.out.mono ?_
    rintro e w5 ⟨rfl, hb5⟩
    have hB5 := below_step HB.out (Nat.le_refl _) hb5
    clear CWx hb5 HB
    go_wp2_with fail
    go_ret
    exact ⟨rfl, hB5⟩
end Go.Proofs.YtmfckdhincffkaaGreatDoor
