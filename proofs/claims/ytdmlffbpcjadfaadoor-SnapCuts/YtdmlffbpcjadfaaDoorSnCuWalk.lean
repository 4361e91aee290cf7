import Derived.Test.YtdmlffbpcjadfaaDoorSnM
import Derived.Test.YtdmlffbpcjadfaaDoorL1
import Derived.Deep.DeepCutAuto
/- The walk of SnapCuts (layer 13). -/
namespace Go.Proofs.YtdmlffbpcjadfaaDoor
open Go.RowKit
set_option linter.unusedSimpArgs false

set_option maxRecDepth 100000 in
set_option maxHeartbeats 8000000 in
theorem snapCuts_walk (a : Option Addr) (l : List OpT) (n c : Nat) (left : Int) (x : Nat) (hx : x < 256) (w : World) (hm : n ≤ maxLen) (hI : OpsAt w a n l) (hz : ∀ q ∈ l, OpOk q) (hG : Glob8 w) :
    Calls Tryd.prog 4 #[.slice a n c, .int .i64 left, .int .u8 (x : Int)] w fun e w' => e = .returned (.bool true) ∧ Below w.heap.size w w' := by
  obtain ⟨M, hM⟩ := mayM_ex
  have HM : Hid (∀ o, M o = true ↔ MayO o) := hM
  have HG : Hid (Glob8 w) := hG
  have HI : Hid (OpsAt w a n l) := hI
  have HN : Hid (l.length = n) := hI.1
  have HZ : Hid (∀ q ∈ l, OpOk q) := hz
  have HX : Hid (x < 256) := hx
  have hmn : n ≤ 9223372036854775807 := hm
  have CW : Hid (∀ W, Below w.heap.size w W → Calls Tryd.prog 6 #[] W fun e w' => e = .returned (.bool true) ∧ Below W.heap.size W w') := fun W hW => awake13 W (HG.out.below hW)
  have X0 : Blk (w.alloc (.cells #[.slice none 0 0, .slice none 0 0, .int .i64 0, .int .i64 0] 27)) 27 w.heap.size #[.slice none 0 0, .slice none 0 0, .int .i64 0, .int .i64 0] := Blk.new _ _ _
  have HS0 : Hid (CuS w ((w.alloc (.cells #[.slice none 0 0, .slice none 0 0, .int .i64 0, .int .i64 0] 27)).setRow w.heap.size #[.slice none 0 0, .slice none 0 0, .int .i64 0, .int .i64 0]) (playP M T0 (l.take 0)) #[.slice none 0 0, .slice none 0 0, .int .i64 0, .int .i64 0] w.heap.size) := ⟨⟨none, 0, none, 0, rfl, ⟨rfl, .inl rfl⟩, ⟨rfl, .inl rfl⟩, .inl ⟨rfl, rfl, rfl⟩, fun h => absurd h (Nat.lt_irrefl 0), fun h => absurd h (Nat.lt_irrefl 0)⟩, X0.setRow _, below_setRow (below_new _ _) (Nat.le_refl _) _, Nat.le_refl _⟩
  clear hM hG hI hz hm hx
  go_enter Tryd.func4, Tryd.ntmps4
  go_wp2_with (with_reducible refine wpList_storeBlk rfl 27 _ _ rfl w.heap.size #[.slice none 0 0, .slice none 0 0, .int .i64 0, .int .i64 0] #[.slice none 0 0, .slice none 0 0, .int .i64 0, .int .i64 0] ?hx ?hy X0 rfl ?hi ?h1 ?_)
  try (case hx => rfl)
  try (case hy => rfl)
  try (case hi => kernel_rfl)
  try (case h1 => simp [Value.oneCell'])
  obtain ⟨W1, hW1⟩ : ∃ W1, (w.alloc (.cells #[.slice none 0 0, .slice none 0 0, .int .i64 0, .int .i64 0] 27)).setRow w.heap.size #[.slice none 0 0, .slice none 0 0, .int .i64 0, .int .i64 0] = W1 := ⟨_, rfl⟩
  obtain ⟨hq, hhq⟩ : ∃ hq, w.heap.size = hq := ⟨_, rfl⟩
  have HS1 : Hid (CuS w W1 (playP M T0 (l.take 0)) #[.slice none 0 0, .slice none 0 0, .int .i64 0, .int .i64 0] hq) := by show CuS _ _ _ _ _; rw [← hW1, ← hhq]; exact HS0.out
  try rw [hW1]
  try rw [hhq]
  clear hW1 hhq X0 HS0
  go_loopw [8] (fun i wr => ∃ (k : Nat) (a1 : Option Addr) (n1 c1 : Nat) (a2 : Option Addr) (n2 c2 : Nat) (b1 b2 : Int), k ≤ n ∧ k ≤ 30 ∧ i = .int .i64 k ∧ Hid (∀ j, j < k → LightO (oL l j)) ∧ Hid (CuS w wr (playP M T0 (l.take k)) #[.slice a1 n1 c1, .slice a2 n2 c2, .int .i64 b1, .int .i64 b2] hq)) (fun i _ => n - (intOf i).toNat)
  case atStart => exact ⟨0, none, 0, 0, none, 0, 0, 0, 0, by omega, by omega, rfl, fun j hj => absurd hj (Nat.not_lt_zero _), HS1⟩
  case round =>
    clear HS1
    obtain ⟨k, a1, n1, c1, a2, n2, c2, b1, b2, hk, hk30, rfl, HLi, HS⟩ := hrel
    by_cases hlt : k < n
    · have b0 : (k : Int) < (n : Int) := by omega
      by_cases h30 : k < 30
      · have b3 : (k : Int) < 30 := by omega
        obtain ⟨b, off, rfl, _⟩ := HI.out.2.some (by omega)
        have hil : k < l.length := by rw [HN.out]; exact hlt
        have hIc : ∀ W, Below w.heap.size w W → W.cell? ⟨b, off + k * 9, none⟩ = some (.int .i64 (oL l k).1) ∧ W.cell? ⟨b, off + k * 9 + 1, none⟩ = some (.int .i64 (oL l k).2.1.1) ∧ W.cell? ⟨b, off + k * 9 + 2, none⟩ = some (.int .i64 (oL l k).2.1.2) ∧ W.cell? ⟨b, off + k * 9 + 3, none⟩ = some (.int .i64 (oL l k).2.2.1.1) ∧ W.cell? ⟨b, off + k * 9 + 4, none⟩ = some (.int .i64 (oL l k).2.2.1.2) ∧ W.cell? ⟨b, off + k * 9 + 5, none⟩ = some (.int .i64 (oL l k).2.2.2.1.1) ∧ W.cell? ⟨b, off + k * 9 + 6, none⟩ = some (.int .i64 (oL l k).2.2.2.1.2) ∧ W.cell? ⟨b, off + k * 9 + 7, none⟩ = some (.string (oL l k).2.2.2.2.1) ∧ W.cell? ⟨b, off + k * 9 + 8, none⟩ = some (.string (oL l k).2.2.2.2.2) := fun W hW => (HI.out.below hW).cells k hlt
        obtain ⟨z7, z8⟩ := (HZ.out _ (oL_mem l k hil)).2
        obtain ⟨D, hD⟩ : ∃ D : Bool, D = true ↔ LightO (oL l k) := ⟨@decide (LightO (oL l k)) (Classical.propDecidable _), by simp⟩
        have CL' : ∀ W, _ := fun W => rlight_any (oL l k) D hD W z7 z8
        have HD : Hid (D = true → LightO (oL l k)) := hD.1
        have hTl := play_len M (l.take k) (by rw [List.length_take]; omega)
        have CRA' : D = true → ∀ (F : Nat → Prop) (W : World), TreeG F W (.agg #[.slice a1 n1 c1, .slice a2 n2 c2, .int .i64 b1, .int .i64 b2]) (playP M T0 (l.take k)) → (∀ k, F k → k < W.heap.size) → _ := fun hd F W h1 h2 => rapplyG_any M HM.out F (playP M T0 (l.take k)) (oL l k) (.agg #[.slice a1 n1 c1, .slice a2 n2 c2, .int .i64 b1, .int .i64 b2]) W (by omega) (by have := (hD.1 hd).1; omega) (by have := (hD.1 hd).2; omega) h1 h2
        have hAT : playP M T0 (l.take (k + 1)) = (applyP M (playP M T0 (l.take k)) (oL l k)).1 := by rw [take_oL l k hil, playP_snoc]
        have HLk' : Hid (D = true → ∀ j, j < k + 1 → LightO (oL l j)) := fun hd j hj => by
          by_cases e : j = k
          · rw [e]; exact hD.1 hd
          · exact HLi.out j (by omega)
        obtain ⟨⟨k0, ⟨k1, k2⟩, ⟨k3, k4⟩, ⟨k5, k6⟩, s7, s8⟩, hkk⟩ : ∃ s, s = oL l k := ⟨_, rfl⟩
        simp only [← hkk, opA] at CRA' CL' hIc
        rw [← hkk] at hAT
        obtain ⟨T, hT⟩ : ∃ T, playP M T0 (l.take k) = T := ⟨_, rfl⟩
        rw [hT] at HS hAT
        simp only [hT] at CRA'
        obtain ⟨⟨AT, ea⟩, hA⟩ : ∃ p, applyP M T (k0, (k1, k2), (k3, k4), (k5, k6), s7, s8) = p := ⟨_, rfl⟩
        rw [hA] at hAT
        simp only [hA] at CRA'
        have HAT : Hid (playP M T0 (l.take (k + 1)) = AT) := hAT
        have CL : Hid (∀ W, _) := CL'
        have HSO : Hid (∀ W, Below w.heap.size w W → W.cell? ⟨b, off + k * 9, none⟩ = some (.int .i64 k0) ∧ W.cell? ⟨b, off + k * 9 + 1, none⟩ = some (.int .i64 k1) ∧ W.cell? ⟨b, off + k * 9 + 2, none⟩ = some (.int .i64 k2) ∧ W.cell? ⟨b, off + k * 9 + 3, none⟩ = some (.int .i64 k3) ∧ W.cell? ⟨b, off + k * 9 + 4, none⟩ = some (.int .i64 k4) ∧ W.cell? ⟨b, off + k * 9 + 5, none⟩ = some (.int .i64 k5) ∧ W.cell? ⟨b, off + k * 9 + 6, none⟩ = some (.int .i64 k6) ∧ W.cell? ⟨b, off + k * 9 + 7, none⟩ = some (.string s7) ∧ W.cell? ⟨b, off + k * 9 + 8, none⟩ = some (.string s8)) := hIc
        obtain ⟨x0, x1, x2, x3, x4, x5, x6, x7, x8⟩ := hIc wr HS.out.bel
        clear hkk hT hA hAT hIc CL' z7 z8 hD hil HLi HD
        go_wp2_with fail
        refine (CL.out wr).mono ?_
        rintro e w1 ⟨rfl, hb1⟩
        have HS1 : Hid (CuS w w1 T #[.slice a1 n1 c1, .slice a2 n2 c2, .int .i64 b1, .int .i64 b2] hq) := HS.out.on hb1
        clear CL hb1 HS x0 x1 x2 x3 x4 x5 x6 x7 x8
        cases D with
        | false =>
          have HB : Hid (Below w.heap.size w w1) := HS1.out.bel
          clear HS1 CRA' HLk' HAT HSO
          go_wp2_with fail
          refine (CW.out _ HB.out).mono ?_
          rintro e w99 ⟨rfl, hb99⟩
          have hB99 := below_step HB.out (Nat.le_refl _) hb99
          clear CW hb99 HB
          go_wp2_with fail
          go_ret
          exact ⟨rfl, hB99⟩
        | true =>
          have CRA : Hid (∀ (F : Nat → Prop) (W : World), TreeG F W (.agg #[.slice a1 n1 c1, .slice a2 n2 c2, .int .i64 b1, .int .i64 b2]) T → (∀ k, F k → k < W.heap.size) → _) := CRA' rfl
          have HLk : Hid (∀ j, j < k + 1 → LightO (oL l j)) := HLk'.out rfl
          have HS := HS1
          have HSS : Hid (∀ W, Below w1.heap.size w1 W → W.cell? ⟨hq, 0, none⟩ = some (.slice a1 n1 c1) ∧ W.cell? ⟨hq, 1, none⟩ = some (.slice a2 n2 c2) ∧ W.cell? ⟨hq, 2, none⟩ = some (.int .i64 b1) ∧ W.cell? ⟨hq, 3, none⟩ = some (.int .i64 b2) ∧ W.cell? ⟨b, off + k * 9, none⟩ = some (.int .i64 k0) ∧ W.cell? ⟨b, off + k * 9 + 1, none⟩ = some (.int .i64 k1) ∧ W.cell? ⟨b, off + k * 9 + 2, none⟩ = some (.int .i64 k2) ∧ W.cell? ⟨b, off + k * 9 + 3, none⟩ = some (.int .i64 k3) ∧ W.cell? ⟨b, off + k * 9 + 4, none⟩ = some (.int .i64 k4) ∧ W.cell? ⟨b, off + k * 9 + 5, none⟩ = some (.int .i64 k5) ∧ W.cell? ⟨b, off + k * 9 + 6, none⟩ = some (.int .i64 k6) ∧ W.cell? ⟨b, off + k * 9 + 7, none⟩ = some (.string s7) ∧ W.cell? ⟨b, off + k * 9 + 8, none⟩ = some (.string s8)) := fun W hW => by
            obtain ⟨q0, q1, q2, q3⟩ := (HS.out.on hW).cells
            exact ⟨q0, q1, q2, q3, HSO.out W (HS.out.on hW).bel⟩
          have hS0 := HSS.out w1 (Below.refl _ _)
          clear CRA' HLk' HS1 HSO
          go_wp2_with fail
          go_cut [9, 10] (fun u ev wx => ∃ (hx : Nat) (pa1 : Option Addr) (pn1 pc1 : Nat) (pa2 : Option Addr) (pn2 pc2 : Nat) (pb1 pb2 : Int), u = .pointer (some ⟨hx, 0, none⟩) ∧ ev = .int .i64 ea ∧ w1.heap.size ≤ hx ∧ Blk wx 27 hx #[.slice pa1 pn1 pc1, .slice pa2 pn2 pc2, .int .i64 pb1, .int .i64 pb2] ∧ TreeG (fun k => k = hq) wx (.agg #[.slice pa1 pn1 pc1, .slice pa2 pn2 pc2, .int .i64 pb1, .int .i64 pb2]) AT ∧ Below w1.heap.size w1 wx)
          case first =>
            refine wp_region_noPanic ?_
            refine wp_region_held_drew (S := fun W => W.cell? ⟨hq, 0, none⟩ = some (.slice a1 n1 c1) ∧ W.cell? ⟨hq, 1, none⟩ = some (.slice a2 n2 c2) ∧ W.cell? ⟨hq, 2, none⟩ = some (.int .i64 b1) ∧ W.cell? ⟨hq, 3, none⟩ = some (.int .i64 b2) ∧ W.cell? ⟨b, off + k * 9, none⟩ = some (.int .i64 k0) ∧ W.cell? ⟨b, off + k * 9 + 1, none⟩ = some (.int .i64 k1) ∧ W.cell? ⟨b, off + k * 9 + 2, none⟩ = some (.int .i64 k2) ∧ W.cell? ⟨b, off + k * 9 + 3, none⟩ = some (.int .i64 k3) ∧ W.cell? ⟨b, off + k * 9 + 4, none⟩ = some (.int .i64 k4) ∧ W.cell? ⟨b, off + k * 9 + 5, none⟩ = some (.int .i64 k5) ∧ W.cell? ⟨b, off + k * 9 + 6, none⟩ = some (.int .i64 k6) ∧ W.cell? ⟨b, off + k * 9 + 7, none⟩ = some (.string s7) ∧ W.cell? ⟨b, off + k * 9 + 8, none⟩ = some (.string s8)) (by kernel_rfl) (by first | exact trivial | assumption | exact ⟨by assumption, by assumption⟩) (fun hHeld => ?_)
            refine tk 0 (v := ?_) rfl rfl ?_ ?_
            rotate_left
            · intro w hSw; (try dsimp only at hSw); go_simp; try with_reducible rfl
            try simp only [Act.put, za, zb, zc]
            refine tk 1 (v := ?_) rfl rfl ?_ ?_
            rotate_left
            · intro w hSw; (try dsimp only at hSw); go_simp; try with_reducible rfl
            try simp only [Act.put, za, zb, zc]
            refine tk 2 (v := ?_) rfl rfl ?_ ?_
            rotate_left
            · intro w hSw; (try dsimp only at hSw); go_simp; try with_reducible rfl
            try simp only [Act.put, za, zb, zc]
            refine tk 3 (v := ?_) rfl rfl ?_ ?_
            rotate_left
            · intro w hSw; (try dsimp only at hSw); go_simp; try with_reducible rfl
            try simp only [Act.put, za, zb, zc]
            refine tk 4 (v := ?_) rfl rfl ?_ ?_
            rotate_left
            · intro w hSw; (try dsimp only at hSw); go_simp; try with_reducible rfl
            try simp only [Act.put, za, zb, zc]
            refine wpAnyH_ready (rs := [5, 9]) (by kernel_rfl) (by simp) ?_
            refine AllReadyH.cons rfl (fun K hK => ?_) (AllReadyH.cons rfl (fun K hK => ?_) AllReadyH.nil)
            · have C1 : Hid (Calls _ _ _ _ _) := CRA.out (fun k => k = hq) w1.drew (HS.out.on (Below.refl _ _).drew).tg (fun k hk => by rw [hk]; exact HS.out.q.lt)
              go_simp
              refine C1.out.mono ?_
              rintro e V1 ⟨v1, rfl, hG1, hb1⟩
              have hV1 : Below w1.heap.size w1 V1 := below_step (Below.refl _ _).drew (Nat.le_refl _) hb1
              obtain ⟨pa1, pn1, pc1, pa2, pn2, pc2, pb1, pb2, rfl⟩ := hG1.shape3
              refine hK.out _ _ (HSS.out _ hV1) (fun hHeld => ?_)
              clear hK K
              refine tk 6 (v := ?_) rfl rfl ?_ ?_
              rotate_left
              · intro w hSw; (try dsimp only at hSw); go_simp; try with_reducible rfl
              try simp only [Act.put, za, zb, zc]
              refine tk 7 (v := ?_) rfl rfl ?_ ?_
              rotate_left
              · intro w hSw; (try dsimp only at hSw); go_simp; try with_reducible rfl
              try simp only [Act.put, za, zb, zc]
              refine tk 8 (v := ?_) rfl rfl ?_ ?_
              rotate_left
              · intro w hSw; (try dsimp only at hSw); go_simp; try with_reducible rfl
              try simp only [Act.put, za, zb, zc]
              refine wpAnyH_ready (rs := [9]) (by kernel_rfl) (by simp) ?_
              refine AllReadyH.cons rfl (fun K hK => ?_) AllReadyH.nil
              go_simp
              have hV2 : Below w1.heap.size w1 (V1.alloc (.cells #[.slice none 0 0, .slice none 0 0, .int .i64 0, .int .i64 0] 27)) := hV1.alloc hV1.size _
              refine hK.out _ _ (HSS.out _ hV2) (fun hHeld => ?_)
              clear hK K
              refine wpAnyH_ready (rs := [10]) (by kernel_rfl) (by simp) ?_
              refine AllReadyH.cons rfl (fun K hK => ?_) AllReadyH.nil
              refine step_storeRow rfl rfl 27 _ _ rfl V1.heap.size #[.slice none 0 0, .slice none 0 0, .int .i64 0, .int .i64 0] #[.slice pa1 pn1 pc1, .slice pa2 pn2 pc2, .int .i64 pb1, .int .i64 pb2] rfl rfl (Blk.new V1 _ _) rfl (by kernel_rfl) (by simp [Value.oneCell']) ?_
              have hV3 := below_setRow hV2 hV1.size #[.slice pa1 pn1 pc1, .slice pa2 pn2 pc2, .int .i64 pb1, .int .i64 pb2]
              refine hK.out _ _ (HSS.out _ hV3) (fun hHeld => ?_)
              clear hK K
              refine tk 11 (v := ?_) rfl rfl ?_ ?_
              rotate_left
              · intro w hSw; (try dsimp only at hSw); go_simp; try with_reducible rfl
              try simp only [Act.put, za, zb, zc]
              refine wpAnyH_done (by kernel_rfl) (NoPanic.normal ?_) _
              have hG3 := hG1.on (below_setRow (below_new V1 (.cells #[.slice none 0 0, .slice none 0 0, .int .i64 0, .int .i64 0] 27)) (Nat.le_refl _) #[.slice pa1 pn1 pc1, .slice pa2 pn2 pc2, .int .i64 pb1, .int .i64 pb2])
              go_wp2_with fail
              go_meet
              case rel => exact ⟨V1.heap.size, pa1, pn1, pc1, pa2, pn2, pc2, pb1, pb2, rfl, rfl, hV1.size, (Blk.new V1 _ _).setRow _, hG3, hV3⟩
            · have hV1 : Below w1.heap.size w1 (w1.alloc (.cells #[.slice none 0 0, .slice none 0 0, .int .i64 0, .int .i64 0] 27)) := below_new _ _
              have C1 : Hid (Calls _ _ _ _ _) := CRA.out (fun k => (fun k => k = hq) k ∨ k = w1.heap.size) (w1.alloc (.cells #[.slice none 0 0, .slice none 0 0, .int .i64 0, .int .i64 0] 27)).drew ((HS.out.tg.more3 w1.heap.size (Nat.le_refl _)).on hV1.drew) (fun k hk => by
                show k < (w1.alloc (.cells #[.slice none 0 0, .slice none 0 0, .int .i64 0, .int .i64 0] 27)).heap.size
                rw [World.size_alloc]
                rcases hk with hk | hk
                · have hk' : k = hq := hk
                  have := HS.out.q.lt; omega
                · omega)
              have KV1 : Blk (w1.alloc (.cells #[.slice none 0 0, .slice none 0 0, .int .i64 0, .int .i64 0] 27)).drew 27 w1.heap.size #[.slice none 0 0, .slice none 0 0, .int .i64 0, .int .i64 0] := Blk.new w1 _ _
              go_simp
              refine hK.out _ _ (HSS.out _ hV1.drew) (fun hHeld => ?_)
              clear hK K
              refine wpAnyH_ready (rs := [5]) (by kernel_rfl) (by simp) ?_
              refine AllReadyH.cons rfl (fun K hK => ?_) AllReadyH.nil
              go_simp
              refine C1.out.mono ?_
              rintro e V ⟨v1, rfl, hG1, hb1⟩
              have hVV : Below w1.heap.size w1 V := below_step hV1.drew (by simp) hb1
              have KV : Blk V 27 w1.heap.size #[.slice none 0 0, .slice none 0 0, .int .i64 0, .int .i64 0] := KV1.on hb1
              obtain ⟨pa1, pn1, pc1, pa2, pn2, pc2, pb1, pb2, rfl⟩ := hG1.shape3
              refine hK.out _ _ (HSS.out _ hVV) (fun hHeld => ?_)
              clear hK K
              refine tk 6 (v := ?_) rfl rfl ?_ ?_
              rotate_left
              · intro w hSw; (try dsimp only at hSw); go_simp; try with_reducible rfl
              try simp only [Act.put, za, zb, zc]
              refine tk 7 (v := ?_) rfl rfl ?_ ?_
              rotate_left
              · intro w hSw; (try dsimp only at hSw); go_simp; try with_reducible rfl
              try simp only [Act.put, za, zb, zc]
              refine tk 8 (v := ?_) rfl rfl ?_ ?_
              rotate_left
              · intro w hSw; (try dsimp only at hSw); go_simp; try with_reducible rfl
              try simp only [Act.put, za, zb, zc]
              refine wpAnyH_ready (rs := [10]) (by kernel_rfl) (by simp) ?_
              refine AllReadyH.cons rfl (fun K hK => ?_) AllReadyH.nil
              refine step_storeRow rfl rfl 27 _ _ rfl w1.heap.size #[.slice none 0 0, .slice none 0 0, .int .i64 0, .int .i64 0] #[.slice pa1 pn1 pc1, .slice pa2 pn2 pc2, .int .i64 pb1, .int .i64 pb2] rfl rfl KV rfl (by kernel_rfl) (by simp [Value.oneCell']) ?_
              have hV3 := below_setRow hVV (Nat.le_refl _) #[.slice pa1 pn1 pc1, .slice pa2 pn2 pc2, .int .i64 pb1, .int .i64 pb2]
              refine hK.out _ _ (HSS.out _ hV3) (fun hHeld => ?_)
              clear hK K
              refine tk 11 (v := ?_) rfl rfl ?_ ?_
              rotate_left
              · intro w hSw; (try dsimp only at hSw); go_simp; try with_reducible rfl
              try simp only [Act.put, za, zb, zc]
              refine wpAnyH_done (by kernel_rfl) (NoPanic.normal ?_) _
              have hG3 := (hG1.kept (keptF_row3 V w1.heap.size #[.slice pa1 pn1 pc1, .slice pa2 pn2 pc2, .int .i64 pb1, .int .i64 pb2] (.inr rfl))).fewer3 (fun k hk => .inl hk)
              go_wp2_with fail
              go_meet
              case rel => exact ⟨w1.heap.size, pa1, pn1, pc1, pa2, pn2, pc2, pb1, pb2, rfl, rfl, Nat.le_refl _, KV.setRow _, hG3, hV3⟩
          case rest =>
            obtain ⟨hx, pa1, pn1, pc1, pa2, pn2, pc2, pb1, pb2, rfl, rfl, hhx, hQc, hGc, hBc⟩ := hcut
            have HSc : Hid (CuS w wc T #[.slice a1 n1 c1, .slice a2 n2 c2, .int .i64 b1, .int .i64 b2] hq) := HS.out.on hBc
            have X1 := HSc.out.q
            have y0 : wc.cell? ⟨hx, 0, none⟩ = some _ := hQc.cell 0
            have y1 : wc.cell? ⟨hx, 1, none⟩ = some _ := hQc.cell 1
            have y2 : wc.cell? ⟨hx, 2, none⟩ = some _ := hQc.cell 2
            have y3 : wc.cell? ⟨hx, 3, none⟩ = some _ := hQc.cell 3
            have HSn : Hid (CuS w (wc.setRow hq #[.slice pa1 pn1 pc1, .slice pa2 pn2 pc2, .int .i64 pb1, .int .i64 pb2]) AT #[.slice pa1 pn1 pc1, .slice pa2 pn2 pc2, .int .i64 pb1, .int .i64 pb2] hq) := HSc.out.next hGc
            clear hQc hGc hBc HS HSS CRA HSc hS0
            go_wp2_with (with_reducible refine wpList_storeBlk rfl 27 _ _ rfl hq #[.slice a1 n1 c1, .slice a2 n2 c2, .int .i64 b1, .int .i64 b2] #[.slice pa1 pn1 pc1, .slice pa2 pn2 pc2, .int .i64 pb1, .int .i64 pb2] ?hx ?hy X1 rfl ?hi ?h1 ?_)
            try (case hx => rfl)
            try (case hy => rfl)
            try (case hi => kernel_rfl)
            try (case h1 => simp [Value.oneCell'])
            refine ⟨?_, ?_⟩
            · first
              | exact ⟨k + 1, pa1, pn1, pc1, pa2, pn2, pc2, pb1, pb2, by omega, by omega, by go_num, HLk, by rw [HAT.out]; exact HSn⟩
              | ((repeat apply Exists.intro); refine ⟨?_, rfl⟩; exact ⟨k + 1, pa1, pn1, pc1, pa2, pn2, pc2, pb1, pb2, by omega, by omega, by go_num, HLk, by rw [HAT.out]; exact HSn⟩)
            · simp [intOf] <;> omega
      · have b3 : ¬ ((k : Int) < 30) := by omega
        have hst := stands_play M [] (0, 0) (l.take k) (by rw [List.length_take]; simp; omega)
        have hlen : (l.take k).length ≤ 30 := by rw [List.length_take]; omega
        have hLi : ∀ o ∈ (playP M T0 (l.take k)).2.1, LightO o := fun o ho => by
          obtain ⟨i, hi, rfl⟩ := mem_oL (l.take k) o (hst.mem o ho).1
          have hi' : i < k := by rw [List.length_take] at hi; omega
          have e : oL (l.take k) i = oL l i := by
            rw [oL_get (l.take k) i hi, oL_get l i (by rw [List.length_take] at hi; omega), List.getElem_take]
          rw [e]; exact HLi.out i hi'
        have hsl := hst.len
        obtain ⟨hok, hput, h19, hbig⟩ := ops_put M HM.out (playP M T0 (l.take k)).2.1 hst.sort (fun o ho => (hst.mem o ho).2.1) hLi (by show (playP M ([], [], (0, 0)) (l.take k)).2.1.length ≤ 30; omega)
        have hri := rise_of_sort (playP M T0 (l.take k)).2.1 hst.sort
        obtain ⟨q1, q2, q3, q4, hv, _, hOp, _, _, _⟩ := HS.out.tg
        obtain ⟨O, hO⟩ : ∃ O, (playP M T0 (l.take k)).2.1 = O := ⟨_, rfl⟩
        have hOl : O.length ≤ 30 := by rw [← hO]; show (playP M ([], [], (0, 0)) (l.take k)).2.1.length ≤ 30; omega
        rw [hO] at hok hput h19 hbig hri hLi hOp
        injection hv with hv
        simp only [Array.mk.injEq, List.cons.injEq, Value.slice.injEq] at hv
        obtain ⟨_, ⟨e4, e5, e6⟩, _⟩ := hv
        rw [hO] at e5
        subst e4 e5 e6
        obtain ⟨S, hS⟩ : ∃ S, encA (snPs ([], O, (0, 0))) = S := ⟨_, rfl⟩
        have hcut : ∀ m, m < S.size → ∀ x D E, putSP M D E x ≠ (S.extract 0 m, 0) := fun m hm x D E => by rw [← hS] at hm ⊢; exact cut_none M _ hok m hm x D E
        have hmore : ∀ b : ByteArray, b.size ≠ 0 → ∀ x D E, putSP M D E x ≠ (S ++ b, 0) := fun b hb x D E => by rw [← hS]; exact more_none M _ hok b hb x D E
        rw [hS] at hput h19 hbig
        have CP' := put_any M HM.out [] O 0 0 none a2 0 c2 wr true true (by omega) (by decide) ⟨fun _ => ⟨by decide, fun k _ h => absurd h (Nat.not_lt_zero _), fun k h => absurd h (Nat.not_lt_zero _), fun x hx => absurd hx List.not_mem_nil⟩, fun _ => rfl⟩ ⟨fun _ => hri, fun _ => rfl⟩ (fun k h => absurd h (Nat.not_lt_zero _)) (fun j hj => by
          have := hLi _ (oL_mem O j hj)
          unfold LightO at this
          omega) ⟨rfl, .inl rfl⟩ hOp (HG.out.below HS.out.bel)
        rw [hput] at CP'
        simp only [List.length_nil] at CP'
        have CP : Hid (Calls _ _ _ _ _) := CP'
        obtain ⟨n2, hn2⟩ : ∃ n2, O.length = n2 := ⟨_, rfl⟩
        have hcell := HS.out.cells.2.1
        rw [hn2] at CP hcell
        obtain ⟨Mk, hMk⟩ : ∃ Mk : Nat, bits .and .i64 left 65535 = (Mk : Int) := ⟨(left % 65536).toNat, by rw [i64_mask left 16 (by decide) 65535 (by decide)]; omega⟩
        obtain ⟨m, hm⟩ : ∃ m : Nat, Mk % S.size = m := ⟨_, rfl⟩
        have hml : m < S.size := by rw [← hm]; exact Nat.mod_lt _ (by omega)
        have hrem : Int.tmod (Mk : Int) (S.size : Int) = (m : Int) := by rw [← hm, ← Int.ofNat_tmod]
        have i1 : (m : Int) ≤ (S.size : Int) := by omega
        have i2 : ¬ ((S.size : Int) = 0) := by omega
        have i3 : ¬ ((S.size : Int) < 19) := by omega
        have i4 : ((S.size : Int) == 0) = false := by rw [beq_eq_false_iff_ne]; omega
        have CT1 : Hid (∀ W, Below w.heap.size w W → _) := fun W hW => take_no M HM.out (S.extract 0 m) W (by rw [ByteArray.size_extract]; omega) (HG.out.below hW) (hcut m hml)
        have CT2 : Hid (∀ W, Below w.heap.size w W → _) := fun W hW => take_no M HM.out (S ++ oneByte x) W (by rw [ByteArray.size_append]; show S.size + 1 ≤ _; omega) (HG.out.below hW) (hmore (oneByte x) (by show (1 : Nat) ≠ 0; decide))
        obtain ⟨A, hA⟩ : ∃ A, S.extract 0 m = A := ⟨_, rfl⟩
        obtain ⟨Bz, hBz⟩ : ∃ Bz, S ++ oneByte x = Bz := ⟨_, rfl⟩
        rw [hA] at CT1
        rw [hBz] at CT2
        have hz1 : (oneByte x).size = 1 := rfl
        have hcv : ∀ w : World, (convert 45 9 (.slice (some ⟨w.heap.size, 0, none⟩) 1 1)).run Tryd.prog (w.alloc (.cells #[.int .u8 (x : Int)] 5)) = .ok (.string (oneByte x)) (w.alloc (.cells #[.int .u8 (x : Int)] 5)) :=
          fun w => one_conv w x HX.out 5 45 9 Tryd.underlying45 Tryd.underlying5 Tryd.underlying9
        have HB0 : Hid (Below w.heap.size w wr) := HS.out.bel
        clear hst hlen hLi hsl hok hput hri hOp hO hOl hcut hmore CP' hS hm hn2 HS HI HZ HN HLi
        go_wp2_with fail
        refine CP.out.mono ?_
        rintro e w3 ⟨rfl, hb3⟩
        have HB3 : Hid (Below w.heap.size w w3) := below_step HB0.out (Nat.le_refl _) hb3
        clear CP hb3 HB0 hcell
        go_wp2_with fail
        try rw [hA]
        refine (CT1.out w3 HB3.out).mono ?_
        rintro e w4 ⟨rfl, hb4⟩
        have HB4 : Hid (Below w.heap.size w w4) := below_step HB3.out (Nat.le_refl _) hb4
        have X4 : Blk (w4.alloc (.cells #[.slice none 0 0, .slice none 0 0, .int .i64 0, .int .i64 0] 38)) 38 w4.heap.size #[.slice none 0 0, .slice none 0 0, .int .i64 0, .int .i64 0] := Blk.new _ _ _
        have HB5 : Hid (Below w.heap.size w ((w4.alloc (.cells #[.slice none 0 0, .slice none 0 0, .int .i64 0, .int .i64 0] 38)).setRow w4.heap.size #[.slice none 0 0, .slice none 0 0, .int .i64 0, .int .i64 0])) := below_setRow (HB4.out.alloc HB4.out.size _) HB4.out.size _
        obtain ⟨w5, hw5⟩ : ∃ w5, (w4.alloc (.cells #[.slice none 0 0, .slice none 0 0, .int .i64 0, .int .i64 0] 38)).setRow w4.heap.size #[.slice none 0 0, .slice none 0 0, .int .i64 0, .int .i64 0] = w5 := ⟨_, rfl⟩
        rw [hw5] at HB5
        clear CT1 hb4 HB3 HB4 hA
        go_wp2_with (with_reducible refine wpList_storeBlk rfl 38 _ _ rfl w4.heap.size #[.slice none 0 0, .slice none 0 0, .int .i64 0, .int .i64 0] #[.slice none 0 0, .slice none 0 0, .int .i64 0, .int .i64 0] ?hx ?hy X4 rfl ?hi ?h1 ?_)
        try (case hx => rfl)
        try (case hy => rfl)
        try (case hi => kernel_rfl)
        try (case h1 => simp [Value.oneCell'])
        try rw [hw5]
        try rw [hBz]
        have HB6 : Hid (Below w.heap.size w (w5.alloc (.cells #[.int .u8 (x : Int)] 5))) := HB5.out.alloc HB5.out.size _
        refine (CT2.out _ HB6.out).mono ?_
        rintro e w7 ⟨rfl, hb7⟩
        have HB7 : Hid (Below w.heap.size w w7) := below_step HB6.out (Nat.le_refl _) hb7
        have X7 : Blk (w7.alloc (.cells #[.slice none 0 0, .slice none 0 0, .int .i64 0, .int .i64 0] 38)) 38 w7.heap.size #[.slice none 0 0, .slice none 0 0, .int .i64 0, .int .i64 0] := Blk.new _ _ _
        have HB : Hid (Below w.heap.size w ((w7.alloc (.cells #[.slice none 0 0, .slice none 0 0, .int .i64 0, .int .i64 0] 38)).setRow w7.heap.size #[.slice none 0 0, .slice none 0 0, .int .i64 0, .int .i64 0])) := below_setRow (HB7.out.alloc HB7.out.size _) HB7.out.size _
        clear CT2 hb7 HB5 HB6 HB7 X4 hw5 hBz
        go_wp2_with (with_reducible refine wpList_storeBlk rfl 38 _ _ rfl w7.heap.size #[.slice none 0 0, .slice none 0 0, .int .i64 0, .int .i64 0] #[.slice none 0 0, .slice none 0 0, .int .i64 0, .int .i64 0] ?hx ?hy X7 rfl ?hi ?h1 ?_)
        try (case hx => rfl)
        try (case hy => rfl)
        try (case hi => kernel_rfl)
        try (case h1 => simp [Value.oneCell'])
        refine (CW.out _ HB.out).mono ?_
        rintro e w99 ⟨rfl, hb99⟩
        have hB99 := below_step HB.out (Nat.le_refl _) hb99
        clear CW hb99 HB
        go_wp2_with fail
        go_ret
        exact ⟨rfl, hB99⟩
    · have b0 : ¬ ((k : Int) < (n : Int)) := by omega
      have hst := stands_play M [] (0, 0) (l.take k) (by rw [List.length_take]; simp; omega)
      have hlen : (l.take k).length ≤ 30 := by rw [List.length_take]; omega
      have hLi : ∀ o ∈ (playP M T0 (l.take k)).2.1, LightO o := fun o ho => by
        obtain ⟨i, hi, rfl⟩ := mem_oL (l.take k) o (hst.mem o ho).1
        have hi' : i < k := by rw [List.length_take] at hi; omega
        have e : oL (l.take k) i = oL l i := by
          rw [oL_get (l.take k) i hi, oL_get l i (by rw [List.length_take] at hi; omega), List.getElem_take]
        rw [e]; exact HLi.out i hi'
      have hsl := hst.len
      obtain ⟨hok, hput, h19, hbig⟩ := ops_put M HM.out (playP M T0 (l.take k)).2.1 hst.sort (fun o ho => (hst.mem o ho).2.1) hLi (by show (playP M ([], [], (0, 0)) (l.take k)).2.1.length ≤ 30; omega)
      have hri := rise_of_sort (playP M T0 (l.take k)).2.1 hst.sort
      obtain ⟨q1, q2, q3, q4, hv, _, hOp, _, _, _⟩ := HS.out.tg
      obtain ⟨O, hO⟩ : ∃ O, (playP M T0 (l.take k)).2.1 = O := ⟨_, rfl⟩
      have hOl : O.length ≤ 30 := by rw [← hO]; show (playP M ([], [], (0, 0)) (l.take k)).2.1.length ≤ 30; omega
      rw [hO] at hok hput h19 hbig hri hLi hOp
      injection hv with hv
      simp only [Array.mk.injEq, List.cons.injEq, Value.slice.injEq] at hv
      obtain ⟨_, ⟨e4, e5, e6⟩, _⟩ := hv
      rw [hO] at e5
      subst e4 e5 e6
      obtain ⟨S, hS⟩ : ∃ S, encA (snPs ([], O, (0, 0))) = S := ⟨_, rfl⟩
      have hcut : ∀ m, m < S.size → ∀ x D E, putSP M D E x ≠ (S.extract 0 m, 0) := fun m hm x D E => by rw [← hS] at hm ⊢; exact cut_none M _ hok m hm x D E
      have hmore : ∀ b : ByteArray, b.size ≠ 0 → ∀ x D E, putSP M D E x ≠ (S ++ b, 0) := fun b hb x D E => by rw [← hS]; exact more_none M _ hok b hb x D E
      rw [hS] at hput h19 hbig
      have CP' := put_any M HM.out [] O 0 0 none a2 0 c2 wr true true (by omega) (by decide) ⟨fun _ => ⟨by decide, fun k _ h => absurd h (Nat.not_lt_zero _), fun k h => absurd h (Nat.not_lt_zero _), fun x hx => absurd hx List.not_mem_nil⟩, fun _ => rfl⟩ ⟨fun _ => hri, fun _ => rfl⟩ (fun k h => absurd h (Nat.not_lt_zero _)) (fun j hj => by
        have := hLi _ (oL_mem O j hj)
        unfold LightO at this
        omega) ⟨rfl, .inl rfl⟩ hOp (HG.out.below HS.out.bel)
      rw [hput] at CP'
      simp only [List.length_nil] at CP'
      have CP : Hid (Calls _ _ _ _ _) := CP'
      obtain ⟨n2, hn2⟩ : ∃ n2, O.length = n2 := ⟨_, rfl⟩
      have hcell := HS.out.cells.2.1
      rw [hn2] at CP hcell
      obtain ⟨Mk, hMk⟩ : ∃ Mk : Nat, bits .and .i64 left 65535 = (Mk : Int) := ⟨(left % 65536).toNat, by rw [i64_mask left 16 (by decide) 65535 (by decide)]; omega⟩
      obtain ⟨m, hm⟩ : ∃ m : Nat, Mk % S.size = m := ⟨_, rfl⟩
      have hml : m < S.size := by rw [← hm]; exact Nat.mod_lt _ (by omega)
      have hrem : Int.tmod (Mk : Int) (S.size : Int) = (m : Int) := by rw [← hm, ← Int.ofNat_tmod]
      have i1 : (m : Int) ≤ (S.size : Int) := by omega
      have i2 : ¬ ((S.size : Int) = 0) := by omega
      have i3 : ¬ ((S.size : Int) < 19) := by omega
      have i4 : ((S.size : Int) == 0) = false := by rw [beq_eq_false_iff_ne]; omega
      have CT1 : Hid (∀ W, Below w.heap.size w W → _) := fun W hW => take_no M HM.out (S.extract 0 m) W (by rw [ByteArray.size_extract]; omega) (HG.out.below hW) (hcut m hml)
      have CT2 : Hid (∀ W, Below w.heap.size w W → _) := fun W hW => take_no M HM.out (S ++ oneByte x) W (by rw [ByteArray.size_append]; show S.size + 1 ≤ _; omega) (HG.out.below hW) (hmore (oneByte x) (by show (1 : Nat) ≠ 0; decide))
      obtain ⟨A, hA⟩ : ∃ A, S.extract 0 m = A := ⟨_, rfl⟩
      obtain ⟨Bz, hBz⟩ : ∃ Bz, S ++ oneByte x = Bz := ⟨_, rfl⟩
      rw [hA] at CT1
      rw [hBz] at CT2
      have hz1 : (oneByte x).size = 1 := rfl
      have hcv : ∀ w : World, (convert 45 9 (.slice (some ⟨w.heap.size, 0, none⟩) 1 1)).run Tryd.prog (w.alloc (.cells #[.int .u8 (x : Int)] 5)) = .ok (.string (oneByte x)) (w.alloc (.cells #[.int .u8 (x : Int)] 5)) :=
        fun w => one_conv w x HX.out 5 45 9 Tryd.underlying45 Tryd.underlying5 Tryd.underlying9
      have HB0 : Hid (Below w.heap.size w wr) := HS.out.bel
      clear hst hlen hLi hsl hok hput hri hOp hO hOl hcut hmore CP' hS hm hn2 HS HI HZ HN HLi
      go_wp2_with fail
      refine CP.out.mono ?_
      rintro e w3 ⟨rfl, hb3⟩
      have HB3 : Hid (Below w.heap.size w w3) := below_step HB0.out (Nat.le_refl _) hb3
      clear CP hb3 HB0 hcell
      go_wp2_with fail
      try rw [hA]
      refine (CT1.out w3 HB3.out).mono ?_
      rintro e w4 ⟨rfl, hb4⟩
      have HB4 : Hid (Below w.heap.size w w4) := below_step HB3.out (Nat.le_refl _) hb4
      have X4 : Blk (w4.alloc (.cells #[.slice none 0 0, .slice none 0 0, .int .i64 0, .int .i64 0] 38)) 38 w4.heap.size #[.slice none 0 0, .slice none 0 0, .int .i64 0, .int .i64 0] := Blk.new _ _ _
      have HB5 : Hid (Below w.heap.size w ((w4.alloc (.cells #[.slice none 0 0, .slice none 0 0, .int .i64 0, .int .i64 0] 38)).setRow w4.heap.size #[.slice none 0 0, .slice none 0 0, .int .i64 0, .int .i64 0])) := below_setRow (HB4.out.alloc HB4.out.size _) HB4.out.size _
      obtain ⟨w5, hw5⟩ : ∃ w5, (w4.alloc (.cells #[.slice none 0 0, .slice none 0 0, .int .i64 0, .int .i64 0] 38)).setRow w4.heap.size #[.slice none 0 0, .slice none 0 0, .int .i64 0, .int .i64 0] = w5 := ⟨_, rfl⟩
      rw [hw5] at HB5
      clear CT1 hb4 HB3 HB4 hA
      go_wp2_with (with_reducible refine wpList_storeBlk rfl 38 _ _ rfl w4.heap.size #[.slice none 0 0, .slice none 0 0, .int .i64 0, .int .i64 0] #[.slice none 0 0, .slice none 0 0, .int .i64 0, .int .i64 0] ?hx ?hy X4 rfl ?hi ?h1 ?_)
      try (case hx => rfl)
      try (case hy => rfl)
      try (case hi => kernel_rfl)
      try (case h1 => simp [Value.oneCell'])
      try rw [hw5]
      try rw [hBz]
      have HB6 : Hid (Below w.heap.size w (w5.alloc (.cells #[.int .u8 (x : Int)] 5))) := HB5.out.alloc HB5.out.size _
      refine (CT2.out _ HB6.out).mono ?_
      rintro e w7 ⟨rfl, hb7⟩
      have HB7 : Hid (Below w.heap.size w w7) := below_step HB6.out (Nat.le_refl _) hb7
      have X7 : Blk (w7.alloc (.cells #[.slice none 0 0, .slice none 0 0, .int .i64 0, .int .i64 0] 38)) 38 w7.heap.size #[.slice none 0 0, .slice none 0 0, .int .i64 0, .int .i64 0] := Blk.new _ _ _
      have HB : Hid (Below w.heap.size w ((w7.alloc (.cells #[.slice none 0 0, .slice none 0 0, .int .i64 0, .int .i64 0] 38)).setRow w7.heap.size #[.slice none 0 0, .slice none 0 0, .int .i64 0, .int .i64 0])) := below_setRow (HB7.out.alloc HB7.out.size _) HB7.out.size _
      clear CT2 hb7 HB5 HB6 HB7 X4 hw5 hBz
      go_wp2_with (with_reducible refine wpList_storeBlk rfl 38 _ _ rfl w7.heap.size #[.slice none 0 0, .slice none 0 0, .int .i64 0, .int .i64 0] #[.slice none 0 0, .slice none 0 0, .int .i64 0, .int .i64 0] ?hx ?hy X7 rfl ?hi ?h1 ?_)
      try (case hx => rfl)
      try (case hy => rfl)
      try (case hi => kernel_rfl)
      try (case h1 => simp [Value.oneCell'])
      refine (CW.out _ HB.out).mono ?_
      rintro e w99 ⟨rfl, hb99⟩
      have hB99 := below_step HB.out (Nat.le_refl _) hb99
      clear CW hb99 HB
      go_wp2_with fail
      go_ret
      exact ⟨rfl, hB99⟩
end Go.Proofs.YtdmlffbpcjadfaaDoor
