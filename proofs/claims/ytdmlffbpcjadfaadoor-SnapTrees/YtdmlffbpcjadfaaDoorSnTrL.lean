import Derived.Test.YtdmlffbpcjadfaaDoorSnN
import Derived.Test.YtdmlffbpcjadfaaDoorSnM
import Derived.Test.YtdmlffbpcjadfaaDoorTmPc
import Derived.Test.YtdmlffbpcjadfaaDoorL1
import Derived.Deep.DeepCutAuto
import Derived.Test.YtdmlffbpcjadfaaDoorTS
import Derived.Test.YtdmlffbpcjadfaaDoorBA
/- Put and Take of a tree that may be put (layer 13); the walk of SnapTrees. -/
namespace Go.Proofs.YtdmlffbpcjadfaaDoor
open Go.RowKit
set_option linter.unusedSimpArgs false

theorem puts_yes (M : OpT → Bool) (hM : ∀ o, M o = true ↔ MayO o) (T : TreeT) (a1 a2 : Option Addr) (c1 c2 : Nat) (w : World) (hG : Glob8 w) (h : MayPut M T) (h1 : NodesAt w a1 T.1.length T.1) (h2 : OpsAt w a2 T.2.1.length T.2.1) :
    Calls Tryd.prog 9 #[.agg #[.slice a1 T.1.length c1, .slice a2 T.2.1.length c2, .int .i64 T.2.2.1, .int .i64 T.2.2.2]] w fun e w' => e = .returned (.tuple #[.string (encA (snPs T)), .int .i64 0]) ∧ Below w.heap.size w w' := by
  obtain ⟨l, ops, b1, b2⟩ := T
  have hp := put_any M hM l ops b1 b2 a1 a2 c1 c2 w true true (by have := h.few.2; simp only at this; omega) (by have := h.few.1; simp only at this; omega) ⟨fun _ => h.fix, fun _ => rfl⟩ ⟨fun _ => h.rise, fun _ => rfl⟩ h.szN h.szO h1 h2 hG
  rw [h.put] at hp
  exact hp

/-- What Take answers of a tree's bytes. -/
def TakeYes (w' : World) (T : TreeT) (e : Ending) : Prop := ∃ a1 c1 a2 c2, NodesAt w' a1 T.1.length T.1 ∧ OpsAt w' a2 T.2.1.length T.2.1 ∧ e = .returned (.tuple #[.agg #[.slice a1 T.1.length c1, .slice a2 T.2.1.length c2, .int .i64 T.2.2.1, .int .i64 T.2.2.2], .int .i64 0])

theorem take_yes (M : OpT → Bool) (hM : ∀ o, M o = true ↔ MayO o) (T : TreeT) (w : World) (hG : Glob8 w) (h : MayPut M T) :
    Calls Tryd.prog 10 #[.string (encA (snPs T))] w fun e w' => Below w.heap.size w w' ∧ TakeYes w' T e := by
  obtain ⟨l, ops, b1, b2⟩ := T
  have hr := (readS_back (l, ops, b1, b2) ⟨#[]⟩ h.ok).1
  rw [show encA (snPs (l, ops, b1, b2)) ++ (⟨#[]⟩ : ByteArray) = encA (snPs (l, ops, b1, b2)) from ByteArray.append_empty] at hr
  refine (take_any M hM (encA (snPs (l, ops, b1, b2))) w h.size hG l ops b1 b2 hr true true ⟨fun _ => h.fix, fun _ => rfl⟩ ⟨fun _ => h.rise, fun _ => rfl⟩ _ 0 h.put).mono ?_
  rintro e w' ⟨hb, a1, c1, a2, c2, h1, h2, rfl⟩
  refine ⟨hb, a1, c1, a2, c2, h1, h2, ?_⟩
  rw [if_neg (by simp), if_neg (by simp)]

/-- The document's tree, its cell, the stamp's. -/
structure CuU (hu : Nat) (u1 u2 : Int) (w W : World) (T : TreeT) (cs : Array Value) (hq : Nat) : Prop where
  tg : TreeG (fun k => k = hq) W (.agg cs) T
  q : Blk W 27 hq cs
  bel : Below w.heap.size w W
  low : w.heap.size ≤ hq
  u : Blk W 24 hu #[.int .i64 u1, .int .i64 u2]
  ne : hu ≠ hq

theorem CuU.on {hu : Nat} {u1 u2 : Int} {w W W' : World} {T : TreeT} {cs : Array Value} {hq : Nat} (h : CuU hu u1 u2 w W T cs hq) (hb : Below W.heap.size W W') : CuU hu u1 u2 w W' T cs hq := ⟨h.tg.on hb, h.q.on hb, below_step h.bel (Nat.le_refl _) hb, h.low, h.u.on hb, h.ne⟩

theorem CuU.next {hu : Nat} {u1 u2 : Int} {w W : World} {T T' : TreeT} {cs cs' : Array Value} {hq : Nat} (h : CuU hu u1 u2 w W T cs hq) (hG : TreeG (fun k => k = hq) W (.agg cs') T') : CuU hu u1 u2 w (W.setRow hq cs') T' cs' hq := ⟨hG.kept (keptF_row3 W hq cs' rfl), h.q.setRow _, below_setRow h.bel h.low _, h.low, h.u.setRowOther _ h.ne _, h.ne⟩

theorem CuU.cells {hu : Nat} {u1 u2 : Int} {w W : World} {T : TreeT} {hq n1 n2 c1 c2 : Nat} {a1 a2 : Option Addr} {b1 b2 : Int} (h : CuU hu u1 u2 w W T #[.slice a1 n1 c1, .slice a2 n2 c2, .int .i64 b1, .int .i64 b2] hq) : W.cell? ⟨hq, 0, none⟩ = some (.slice a1 n1 c1) ∧ W.cell? ⟨hq, 1, none⟩ = some (.slice a2 n2 c2) ∧ W.cell? ⟨hq, 2, none⟩ = some (.int .i64 b1) ∧ W.cell? ⟨hq, 3, none⟩ = some (.int .i64 b2) := ⟨h.q.cell 0, h.q.cell 1, h.q.cell 2, h.q.cell 3⟩

set_option maxRecDepth 100000 in
set_option maxHeartbeats 8000000 in
theorem snapTrees_walk (a : Option Addr) (l : List OpT) (n c : Nat) (u1 u2 : Int) (w : World) (hm : n ≤ maxLen) (hI : OpsAt w a n l) (hz : ∀ q ∈ l, OpOk q) (hG : Glob8 w) :
    Calls Tryd.prog 3 #[.slice a n c, .agg #[.int .i64 u1, .int .i64 u2]] w fun e w' => e = .returned (.bool true) ∧ Below w.heap.size w w' := by
  obtain ⟨M, hM⟩ := mayM_ex
  have HM : Hid (∀ o, M o = true ↔ MayO o) := hM
  have HG : Hid (Glob8 w) := hG
  have HI : Hid (OpsAt w a n l) := hI
  have HN : Hid (l.length = n) := hI.1
  have HZ : Hid (∀ q ∈ l, OpOk q) := hz
  have hmn : n ≤ 9223372036854775807 := hm
  have CW : Hid (∀ W, Below w.heap.size w W → Calls Tryd.prog 6 #[] W fun e w' => e = .returned (.bool true) ∧ Below W.heap.size W w') := fun W hW => awake13 W (HG.out.below hW)
  have X0 : Blk ((w.alloc (.cells #[.int .i64 u1, .int .i64 u2] 24)).alloc (.cells #[.slice none 0 0, .slice none 0 0, .int .i64 0, .int .i64 0] 27)) 27 (w.heap.size + 1) #[.slice none 0 0, .slice none 0 0, .int .i64 0, .int .i64 0] := Blk.new' _ _ _ _ (by rw [World.size_alloc])
  have HS0 : Hid (CuU w.heap.size u1 u2 w (((w.alloc (.cells #[.int .i64 u1, .int .i64 u2] 24)).alloc (.cells #[.slice none 0 0, .slice none 0 0, .int .i64 0, .int .i64 0] 27)).setRow (w.heap.size + 1) #[.slice none 0 0, .slice none 0 0, .int .i64 0, .int .i64 0]) (playP M T0 (l.take 0)) #[.slice none 0 0, .slice none 0 0, .int .i64 0, .int .i64 0] (w.heap.size + 1)) := ⟨⟨none, 0, none, 0, rfl, ⟨rfl, .inl rfl⟩, ⟨rfl, .inl rfl⟩, .inl ⟨rfl, rfl, rfl⟩, fun h => absurd h (Nat.lt_irrefl 0), fun h => absurd h (Nat.lt_irrefl 0)⟩, X0.setRow _, below_setRow ((below_new _ _).alloc (by rw [World.size_alloc]; omega) _) (by omega) _, by omega, ((Blk.new _ _ _).on (below_new _ _)).setRowOther _ (by omega) _, by omega⟩
  clear hM hG hI hz hm
  go_enter Tryd.func3, Tryd.ntmps3
  go_wp2_with (with_reducible refine wpList_storeBlk rfl 27 _ _ rfl (w.heap.size + 1) #[.slice none 0 0, .slice none 0 0, .int .i64 0, .int .i64 0] #[.slice none 0 0, .slice none 0 0, .int .i64 0, .int .i64 0] ?hx ?hy X0 rfl ?hi ?h1 ?_)
  try (case hx => rfl)
  try (case hy => rfl)
  try (case hi => kernel_rfl)
  try (case h1 => simp [Value.oneCell'])
  obtain ⟨W1, hW1⟩ : ∃ W1, (((w.alloc (.cells #[.int .i64 u1, .int .i64 u2] 24)).alloc (.cells #[.slice none 0 0, .slice none 0 0, .int .i64 0, .int .i64 0] 27)).setRow (w.heap.size + 1) #[.slice none 0 0, .slice none 0 0, .int .i64 0, .int .i64 0]) = W1 := ⟨_, rfl⟩
  obtain ⟨hq, hhq⟩ : ∃ hq, w.heap.size + 1 = hq := ⟨_, rfl⟩
  obtain ⟨hu, hhu⟩ : ∃ hu, w.heap.size = hu := ⟨_, rfl⟩
  have HS1 : Hid (CuU hu u1 u2 w W1 (playP M T0 (l.take 0)) #[.slice none 0 0, .slice none 0 0, .int .i64 0, .int .i64 0] hq) := by show CuU _ _ _ _ _ _ _ _; rw [← hW1, ← hhq, ← hhu]; exact HS0.out
  try rw [hW1]
  try rw [hhq]
  try rw [hhu]
  clear hW1 hhq hhu X0 HS0
  go_loopw [6] (fun i wr => ∃ (k : Nat) (a1 : Option Addr) (n1 c1 : Nat) (a2 : Option Addr) (n2 c2 : Nat) (b1 b2 : Int), k ≤ n ∧ k ≤ 30 ∧ i = .int .i64 k ∧ Hid (∀ j, j < k → LightO (oL l j)) ∧ Hid (CuU hu u1 u2 w wr (playP M T0 (l.take k)) #[.slice a1 n1 c1, .slice a2 n2 c2, .int .i64 b1, .int .i64 b2] hq)) (fun i _ => n - (intOf i).toNat)
  case atStart => exact ⟨0, none, 0, 0, none, 0, 0, 0, 0, by omega, by omega, rfl, fun j hj => absurd hj (Nat.not_lt_zero _), HS1⟩
  case round =>
    clear HS1
    obtain ⟨k, a1, n1, c1, a2, n2, c2, b1, b2, hk, hk30, rfl, HLi, HS⟩ := hrel
    by_cases hlt : k < n
    · have b0 : (k : Int) < (n : Int) := by omega
      by_cases h30 : k < 30
      · have b3 : (k : Int) < 30 := by omega
        obtain ⟨b, off, rfl, _⟩ := HI.out.2.some (by omega)
        have hil : k < l.length := by rw [HN.out]; exact hlt
        have hIc : ∀ W, Below w.heap.size w W → W.cell? ⟨b, off + k * 9, none⟩ = some (.int .i64 (oL l k).1) ∧ W.cell? ⟨b, off + k * 9 + 1, none⟩ = some (.int .i64 (oL l k).2.1.1) ∧ W.cell? ⟨b, off + k * 9 + 2, none⟩ = some (.int .i64 (oL l k).2.1.2) ∧ W.cell? ⟨b, off + k * 9 + 3, none⟩ = some (.int .i64 (oL l k).2.2.1.1) ∧ W.cell? ⟨b, off + k * 9 + 4, none⟩ = some (.int .i64 (oL l k).2.2.1.2) ∧ W.cell? ⟨b, off + k * 9 + 5, none⟩ = some (.int .i64 (oL l k).2.2.2.1.1) ∧ W.cell? ⟨b, off + k * 9 + 6, none⟩ = some (.int .i64 (oL l k).2.2.2.1.2) ∧ W.cell? ⟨b, off + k * 9 + 7, none⟩ = some (.string (oL l k).2.2.2.2.1) ∧ W.cell? ⟨b, off + k * 9 + 8, none⟩ = some (.string (oL l k).2.2.2.2.2) := fun W hW => (HI.out.below hW).cells k hlt
        obtain ⟨z7, z8⟩ := (HZ.out _ (oL_mem l k hil)).2
        obtain ⟨D, hD⟩ : ∃ D : Bool, D = true ↔ LightO (oL l k) := ⟨@decide (LightO (oL l k)) (Classical.propDecidable _), by simp⟩
        have CL' : ∀ W, _ := fun W => rlight_any (oL l k) D hD W z7 z8
        have HD : Hid (D = true → LightO (oL l k)) := hD.1
        have hTl := play_len M (l.take k) (by rw [List.length_take]; omega)
        have CRA' : D = true → ∀ (F : Nat → Prop) (W : World), TreeG F W (.agg #[.slice a1 n1 c1, .slice a2 n2 c2, .int .i64 b1, .int .i64 b2]) (playP M T0 (l.take k)) → (∀ k, F k → k < W.heap.size) → _ := fun hd F W h1 h2 => rapplyG_any M HM.out F (playP M T0 (l.take k)) (oL l k) (.agg #[.slice a1 n1 c1, .slice a2 n2 c2, .int .i64 b1, .int .i64 b2]) W (by omega) (by have := (hD.1 hd).1; omega) (by have := (hD.1 hd).2; omega) h1 h2
        have hAT : playP M T0 (l.take (k + 1)) = (applyP M (playP M T0 (l.take k)) (oL l k)).1 := by rw [take_oL l k hil, playP_snoc]
        have HLk' : Hid (D = true → ∀ j, j < k + 1 → LightO (oL l j)) := fun hd j hj => by
          by_cases e : j = k
          · rw [e]; exact hD.1 hd
          · exact HLi.out j (by omega)
        obtain ⟨⟨k0, ⟨k1, k2⟩, ⟨k3, k4⟩, ⟨k5, k6⟩, s7, s8⟩, hkk⟩ : ∃ s, s = oL l k := ⟨_, rfl⟩
        simp only [← hkk, opA] at CRA' CL' hIc
        rw [← hkk] at hAT
        obtain ⟨T, hT⟩ : ∃ T, playP M T0 (l.take k) = T := ⟨_, rfl⟩
        rw [hT] at HS hAT
        simp only [hT] at CRA'
        obtain ⟨⟨AT, ea⟩, hA⟩ : ∃ p, applyP M T (k0, (k1, k2), (k3, k4), (k5, k6), s7, s8) = p := ⟨_, rfl⟩
        rw [hA] at hAT
        simp only [hA] at CRA'
        have HAT : Hid (playP M T0 (l.take (k + 1)) = AT) := hAT
        have CL : Hid (∀ W, _) := CL'
        have HSO : Hid (∀ W, Below w.heap.size w W → W.cell? ⟨b, off + k * 9, none⟩ = some (.int .i64 k0) ∧ W.cell? ⟨b, off + k * 9 + 1, none⟩ = some (.int .i64 k1) ∧ W.cell? ⟨b, off + k * 9 + 2, none⟩ = some (.int .i64 k2) ∧ W.cell? ⟨b, off + k * 9 + 3, none⟩ = some (.int .i64 k3) ∧ W.cell? ⟨b, off + k * 9 + 4, none⟩ = some (.int .i64 k4) ∧ W.cell? ⟨b, off + k * 9 + 5, none⟩ = some (.int .i64 k5) ∧ W.cell? ⟨b, off + k * 9 + 6, none⟩ = some (.int .i64 k6) ∧ W.cell? ⟨b, off + k * 9 + 7, none⟩ = some (.string s7) ∧ W.cell? ⟨b, off + k * 9 + 8, none⟩ = some (.string s8)) := hIc
        obtain ⟨x0, x1, x2, x3, x4, x5, x6, x7, x8⟩ := hIc wr HS.out.bel
        clear hkk hT hA hAT hIc CL' z7 z8 hD hil HLi HD
        go_wp2_with fail
        refine (CL.out wr).mono ?_
        rintro e w1 ⟨rfl, hb1⟩
        have HS1 : Hid (CuU hu u1 u2 w w1 T #[.slice a1 n1 c1, .slice a2 n2 c2, .int .i64 b1, .int .i64 b2] hq) := HS.out.on hb1
        clear CL hb1 HS x0 x1 x2 x3 x4 x5 x6 x7 x8
        cases D with
        | false =>
          have HB : Hid (Below w.heap.size w w1) := HS1.out.bel
          clear HS1 CRA' HLk' HAT HSO
          go_wp2_with fail
          refine (CW.out _ HB.out).mono ?_
          rintro e w99 ⟨rfl, hb99⟩
          have hB99 := below_step HB.out (Nat.le_refl _) hb99
          clear CW hb99 HB
          go_wp2_with fail
          go_ret
          exact ⟨rfl, hB99⟩
        | true =>
          have CRA : Hid (∀ (F : Nat → Prop) (W : World), TreeG F W (.agg #[.slice a1 n1 c1, .slice a2 n2 c2, .int .i64 b1, .int .i64 b2]) T → (∀ k, F k → k < W.heap.size) → _) := CRA' rfl
          have HLk : Hid (∀ j, j < k + 1 → LightO (oL l j)) := HLk'.out rfl
          have HS := HS1
          have HSS : Hid (∀ W, Below w1.heap.size w1 W → W.cell? ⟨hq, 0, none⟩ = some (.slice a1 n1 c1) ∧ W.cell? ⟨hq, 1, none⟩ = some (.slice a2 n2 c2) ∧ W.cell? ⟨hq, 2, none⟩ = some (.int .i64 b1) ∧ W.cell? ⟨hq, 3, none⟩ = some (.int .i64 b2) ∧ W.cell? ⟨b, off + k * 9, none⟩ = some (.int .i64 k0) ∧ W.cell? ⟨b, off + k * 9 + 1, none⟩ = some (.int .i64 k1) ∧ W.cell? ⟨b, off + k * 9 + 2, none⟩ = some (.int .i64 k2) ∧ W.cell? ⟨b, off + k * 9 + 3, none⟩ = some (.int .i64 k3) ∧ W.cell? ⟨b, off + k * 9 + 4, none⟩ = some (.int .i64 k4) ∧ W.cell? ⟨b, off + k * 9 + 5, none⟩ = some (.int .i64 k5) ∧ W.cell? ⟨b, off + k * 9 + 6, none⟩ = some (.int .i64 k6) ∧ W.cell? ⟨b, off + k * 9 + 7, none⟩ = some (.string s7) ∧ W.cell? ⟨b, off + k * 9 + 8, none⟩ = some (.string s8)) := fun W hW => by
            obtain ⟨q0, q1, q2, q3⟩ := (HS.out.on hW).cells
            exact ⟨q0, q1, q2, q3, HSO.out W (HS.out.on hW).bel⟩
          have hS0 := HSS.out w1 (Below.refl _ _)
          clear CRA' HLk' HS1 HSO
          go_wp2_with fail
          go_cut [7, 8] (fun u ev wx => ∃ (hx : Nat) (pa1 : Option Addr) (pn1 pc1 : Nat) (pa2 : Option Addr) (pn2 pc2 : Nat) (pb1 pb2 : Int), u = .pointer (some ⟨hx, 0, none⟩) ∧ ev = .int .i64 ea ∧ w1.heap.size ≤ hx ∧ Blk wx 27 hx #[.slice pa1 pn1 pc1, .slice pa2 pn2 pc2, .int .i64 pb1, .int .i64 pb2] ∧ TreeG (fun k => k = hq) wx (.agg #[.slice pa1 pn1 pc1, .slice pa2 pn2 pc2, .int .i64 pb1, .int .i64 pb2]) AT ∧ Below w1.heap.size w1 wx)
          case first =>
            refine wp_region_noPanic ?_
            refine wp_region_held_drew (S := fun W => W.cell? ⟨hq, 0, none⟩ = some (.slice a1 n1 c1) ∧ W.cell? ⟨hq, 1, none⟩ = some (.slice a2 n2 c2) ∧ W.cell? ⟨hq, 2, none⟩ = some (.int .i64 b1) ∧ W.cell? ⟨hq, 3, none⟩ = some (.int .i64 b2) ∧ W.cell? ⟨b, off + k * 9, none⟩ = some (.int .i64 k0) ∧ W.cell? ⟨b, off + k * 9 + 1, none⟩ = some (.int .i64 k1) ∧ W.cell? ⟨b, off + k * 9 + 2, none⟩ = some (.int .i64 k2) ∧ W.cell? ⟨b, off + k * 9 + 3, none⟩ = some (.int .i64 k3) ∧ W.cell? ⟨b, off + k * 9 + 4, none⟩ = some (.int .i64 k4) ∧ W.cell? ⟨b, off + k * 9 + 5, none⟩ = some (.int .i64 k5) ∧ W.cell? ⟨b, off + k * 9 + 6, none⟩ = some (.int .i64 k6) ∧ W.cell? ⟨b, off + k * 9 + 7, none⟩ = some (.string s7) ∧ W.cell? ⟨b, off + k * 9 + 8, none⟩ = some (.string s8)) (by kernel_rfl) (by first | exact trivial | assumption | exact ⟨by assumption, by assumption⟩) (fun hHeld => ?_)
            refine tk 0 (v := ?_) rfl rfl ?_ ?_
            rotate_left
            · intro w hSw; (try dsimp only at hSw); go_simp; try with_reducible rfl
            try simp only [Act.put, za, zb, zc]
            refine tk 1 (v := ?_) rfl rfl ?_ ?_
            rotate_left
            · intro w hSw; (try dsimp only at hSw); go_simp; try with_reducible rfl
            try simp only [Act.put, za, zb, zc]
            refine tk 2 (v := ?_) rfl rfl ?_ ?_
            rotate_left
            · intro w hSw; (try dsimp only at hSw); go_simp; try with_reducible rfl
            try simp only [Act.put, za, zb, zc]
            refine tk 3 (v := ?_) rfl rfl ?_ ?_
            rotate_left
            · intro w hSw; (try dsimp only at hSw); go_simp; try with_reducible rfl
            try simp only [Act.put, za, zb, zc]
            refine tk 4 (v := ?_) rfl rfl ?_ ?_
            rotate_left
            · intro w hSw; (try dsimp only at hSw); go_simp; try with_reducible rfl
            try simp only [Act.put, za, zb, zc]
            refine wpAnyH_ready (rs := [5, 9]) (by kernel_rfl) (by simp) ?_
            refine AllReadyH.cons rfl (fun K hK => ?_) (AllReadyH.cons rfl (fun K hK => ?_) AllReadyH.nil)
            · have C1 : Hid (Calls _ _ _ _ _) := CRA.out (fun k => k = hq) w1.drew (HS.out.on (Below.refl _ _).drew).tg (fun k hk => by rw [hk]; exact HS.out.q.lt)
              go_simp
              refine C1.out.mono ?_
              rintro e V1 ⟨v1, rfl, hG1, hb1⟩
              have hV1 : Below w1.heap.size w1 V1 := below_step (Below.refl _ _).drew (Nat.le_refl _) hb1
              obtain ⟨pa1, pn1, pc1, pa2, pn2, pc2, pb1, pb2, rfl⟩ := hG1.shape3
              refine hK.out _ _ (HSS.out _ hV1) (fun hHeld => ?_)
              clear hK K
              refine tk 6 (v := ?_) rfl rfl ?_ ?_
              rotate_left
              · intro w hSw; (try dsimp only at hSw); go_simp; try with_reducible rfl
              try simp only [Act.put, za, zb, zc]
              refine tk 7 (v := ?_) rfl rfl ?_ ?_
              rotate_left
              · intro w hSw; (try dsimp only at hSw); go_simp; try with_reducible rfl
              try simp only [Act.put, za, zb, zc]
              refine tk 8 (v := ?_) rfl rfl ?_ ?_
              rotate_left
              · intro w hSw; (try dsimp only at hSw); go_simp; try with_reducible rfl
              try simp only [Act.put, za, zb, zc]
              refine wpAnyH_ready (rs := [9]) (by kernel_rfl) (by simp) ?_
              refine AllReadyH.cons rfl (fun K hK => ?_) AllReadyH.nil
              go_simp
              have hV2 : Below w1.heap.size w1 (V1.alloc (.cells #[.slice none 0 0, .slice none 0 0, .int .i64 0, .int .i64 0] 27)) := hV1.alloc hV1.size _
              refine hK.out _ _ (HSS.out _ hV2) (fun hHeld => ?_)
              clear hK K
              refine wpAnyH_ready (rs := [10]) (by kernel_rfl) (by simp) ?_
              refine AllReadyH.cons rfl (fun K hK => ?_) AllReadyH.nil
              refine step_storeRow rfl rfl 27 _ _ rfl V1.heap.size #[.slice none 0 0, .slice none 0 0, .int .i64 0, .int .i64 0] #[.slice pa1 pn1 pc1, .slice pa2 pn2 pc2, .int .i64 pb1, .int .i64 pb2] rfl rfl (Blk.new V1 _ _) rfl (by kernel_rfl) (by simp [Value.oneCell']) ?_
              have hV3 := below_setRow hV2 hV1.size #[.slice pa1 pn1 pc1, .slice pa2 pn2 pc2, .int .i64 pb1, .int .i64 pb2]
              refine hK.out _ _ (HSS.out _ hV3) (fun hHeld => ?_)
              clear hK K
              refine tk 11 (v := ?_) rfl rfl ?_ ?_
              rotate_left
              · intro w hSw; (try dsimp only at hSw); go_simp; try with_reducible rfl
              try simp only [Act.put, za, zb, zc]
              refine wpAnyH_done (by kernel_rfl) (NoPanic.normal ?_) _
              have hG3 := hG1.on (below_setRow (below_new V1 (.cells #[.slice none 0 0, .slice none 0 0, .int .i64 0, .int .i64 0] 27)) (Nat.le_refl _) #[.slice pa1 pn1 pc1, .slice pa2 pn2 pc2, .int .i64 pb1, .int .i64 pb2])
              go_wp2_with fail
              go_meet
              case rel => exact ⟨V1.heap.size, pa1, pn1, pc1, pa2, pn2, pc2, pb1, pb2, rfl, rfl, hV1.size, (Blk.new V1 _ _).setRow _, hG3, hV3⟩
            · have hV1 : Below w1.heap.size w1 (w1.alloc (.cells #[.slice none 0 0, .slice none 0 0, .int .i64 0, .int .i64 0] 27)) := below_new _ _
              have C1 : Hid (Calls _ _ _ _ _) := CRA.out (fun k => (fun k => k = hq) k ∨ k = w1.heap.size) (w1.alloc (.cells #[.slice none 0 0, .slice none 0 0, .int .i64 0, .int .i64 0] 27)).drew ((HS.out.tg.more3 w1.heap.size (Nat.le_refl _)).on hV1.drew) (fun k hk => by
                show k < (w1.alloc (.cells #[.slice none 0 0, .slice none 0 0, .int .i64 0, .int .i64 0] 27)).heap.size
                rw [World.size_alloc]
                rcases hk with hk | hk
                · have hk' : k = hq := hk
                  have := HS.out.q.lt; omega
                · omega)
              have KV1 : Blk (w1.alloc (.cells #[.slice none 0 0, .slice none 0 0, .int .i64 0, .int .i64 0] 27)).drew 27 w1.heap.size #[.slice none 0 0, .slice none 0 0, .int .i64 0, .int .i64 0] := Blk.new w1 _ _
              go_simp
              refine hK.out _ _ (HSS.out _ hV1.drew) (fun hHeld => ?_)
              clear hK K
              refine wpAnyH_ready (rs := [5]) (by kernel_rfl) (by simp) ?_
              refine AllReadyH.cons rfl (fun K hK => ?_) AllReadyH.nil
              go_simp
              refine C1.out.mono ?_
              rintro e V ⟨v1, rfl, hG1, hb1⟩
              have hVV : Below w1.heap.size w1 V := below_step hV1.drew (by simp) hb1
              have KV : Blk V 27 w1.heap.size #[.slice none 0 0, .slice none 0 0, .int .i64 0, .int .i64 0] := KV1.on hb1
              obtain ⟨pa1, pn1, pc1, pa2, pn2, pc2, pb1, pb2, rfl⟩ := hG1.shape3
              refine hK.out _ _ (HSS.out _ hVV) (fun hHeld => ?_)
              clear hK K
              refine tk 6 (v := ?_) rfl rfl ?_ ?_
              rotate_left
              · intro w hSw; (try dsimp only at hSw); go_simp; try with_reducible rfl
              try simp only [Act.put, za, zb, zc]
              refine tk 7 (v := ?_) rfl rfl ?_ ?_
              rotate_left
              · intro w hSw; (try dsimp only at hSw); go_simp; try with_reducible rfl
              try simp only [Act.put, za, zb, zc]
              refine tk 8 (v := ?_) rfl rfl ?_ ?_
              rotate_left
              · intro w hSw; (try dsimp only at hSw); go_simp; try with_reducible rfl
              try simp only [Act.put, za, zb, zc]
              refine wpAnyH_ready (rs := [10]) (by kernel_rfl) (by simp) ?_
              refine AllReadyH.cons rfl (fun K hK => ?_) AllReadyH.nil
              refine step_storeRow rfl rfl 27 _ _ rfl w1.heap.size #[.slice none 0 0, .slice none 0 0, .int .i64 0, .int .i64 0] #[.slice pa1 pn1 pc1, .slice pa2 pn2 pc2, .int .i64 pb1, .int .i64 pb2] rfl rfl KV rfl (by kernel_rfl) (by simp [Value.oneCell']) ?_
              have hV3 := below_setRow hVV (Nat.le_refl _) #[.slice pa1 pn1 pc1, .slice pa2 pn2 pc2, .int .i64 pb1, .int .i64 pb2]
              refine hK.out _ _ (HSS.out _ hV3) (fun hHeld => ?_)
              clear hK K
              refine tk 11 (v := ?_) rfl rfl ?_ ?_
              rotate_left
              · intro w hSw; (try dsimp only at hSw); go_simp; try with_reducible rfl
              try simp only [Act.put, za, zb, zc]
              refine wpAnyH_done (by kernel_rfl) (NoPanic.normal ?_) _
              have hG3 := (hG1.kept (keptF_row3 V w1.heap.size #[.slice pa1 pn1 pc1, .slice pa2 pn2 pc2, .int .i64 pb1, .int .i64 pb2] (.inr rfl))).fewer3 (fun k hk => .inl hk)
              go_wp2_with fail
              go_meet
              case rel => exact ⟨w1.heap.size, pa1, pn1, pc1, pa2, pn2, pc2, pb1, pb2, rfl, rfl, Nat.le_refl _, KV.setRow _, hG3, hV3⟩
          case rest =>
            obtain ⟨hx, pa1, pn1, pc1, pa2, pn2, pc2, pb1, pb2, rfl, rfl, hhx, hQc, hGc, hBc⟩ := hcut
            have HSc : Hid (CuU hu u1 u2 w wc T #[.slice a1 n1 c1, .slice a2 n2 c2, .int .i64 b1, .int .i64 b2] hq) := HS.out.on hBc
            have X1 := HSc.out.q
            have y0 : wc.cell? ⟨hx, 0, none⟩ = some _ := hQc.cell 0
            have y1 : wc.cell? ⟨hx, 1, none⟩ = some _ := hQc.cell 1
            have y2 : wc.cell? ⟨hx, 2, none⟩ = some _ := hQc.cell 2
            have y3 : wc.cell? ⟨hx, 3, none⟩ = some _ := hQc.cell 3
            have HSn : Hid (CuU hu u1 u2 w (wc.setRow hq #[.slice pa1 pn1 pc1, .slice pa2 pn2 pc2, .int .i64 pb1, .int .i64 pb2]) AT #[.slice pa1 pn1 pc1, .slice pa2 pn2 pc2, .int .i64 pb1, .int .i64 pb2] hq) := HSc.out.next hGc
            clear hQc hGc hBc HS HSS CRA HSc hS0
            go_wp2_with (with_reducible refine wpList_storeBlk rfl 27 _ _ rfl hq #[.slice a1 n1 c1, .slice a2 n2 c2, .int .i64 b1, .int .i64 b2] #[.slice pa1 pn1 pc1, .slice pa2 pn2 pc2, .int .i64 pb1, .int .i64 pb2] ?hx ?hy X1 rfl ?hi ?h1 ?_)
            try (case hx => rfl)
            try (case hy => rfl)
            try (case hi => kernel_rfl)
            try (case h1 => simp [Value.oneCell'])
            refine ⟨?_, ?_⟩
            · first
              | exact ⟨k + 1, pa1, pn1, pc1, pa2, pn2, pc2, pb1, pb2, by omega, by omega, by go_num, HLk, by rw [HAT.out]; exact HSn⟩
              | ((repeat apply Exists.intro); refine ⟨?_, rfl⟩; exact ⟨k + 1, pa1, pn1, pc1, pa2, pn2, pc2, pb1, pb2, by omega, by omega, by go_num, HLk, by rw [HAT.out]; exact HSn⟩)
            · simp [intOf] <;> omega
      · have b3 : ¬ ((k : Int) < 30) := by omega
        have hst := stands_play M [] (0, 0) (l.take k) (by rw [List.length_take]; simp; omega)
        have hlen : (l.take k).length ≤ 30 := by rw [List.length_take]; omega
        have hLi : ∀ o ∈ (playP M T0 (l.take k)).2.1, LightO o := fun o ho => by
          obtain ⟨i, hi, rfl⟩ := mem_oL (l.take k) o (hst.mem o ho).1
          have hi' : i < k := by rw [List.length_take] at hi; omega
          have e : oL (l.take k) i = oL l i := by
            rw [oL_get (l.take k) i hi, oL_get l i (by rw [List.length_take] at hi; omega), List.getElem_take]
          rw [e]; exact HLi.out i hi'
        have hsl := hst.len
        have hcp := compact_put M HM.out (playP M T0 (l.take k)).2.1 (u1, u2) hst.sort (fun o ho => ⟨(hst.mem o ho).2.1, hLi o ho, (hst.mem o ho).2.2⟩) (by show (playP M ([], [], (0, 0)) (l.take k)).2.1.length ≤ 30; omega)
        have hT : playP M T0 (l.take k) = ([], (playP M T0 (l.take k)).2.1, (0, 0)) := Prod.ext hst.fx (Prod.ext rfl hst.base)
        rw [← hT] at hcp
        have hTl := play_len M (l.take k) (by omega)
        have CC' := rcompactF_any (fun k => k = hq) (playP M T0 (l.take k)) (u1, u2) (.agg #[.slice a1 n1 c1, .slice a2 n2 c2, .int .i64 b1, .int .i64 b2]) wr (by omega) HS.out.tg (fun k hk => by rw [hk]; exact HS.out.q.lt)
        obtain ⟨⟨⟨L, P, d1, d2⟩, nz⟩, hC⟩ : ∃ p, compactP (playP M T0 (l.take k)) (u1, u2) = p := ⟨_, rfl⟩
        simp only [hC, stampV] at CC' hcp
        have CC : Hid (Calls _ _ _ _ _) := CC'
        have HPt : Hid (MayPut M (L, P, (d1, d2))) := hcp
        obtain ⟨S, hS⟩ : ∃ S, encA (snPs (L, P, (d1, d2))) = S := ⟨_, rfl⟩
        have CT : Hid (∀ W, Below w.heap.size w W → _) := fun W hW => take_yes M HM.out (L, P, (d1, d2)) W (HG.out.below hW) hcp
        have CP : Hid (∀ W a1 a2 c1 c2, Below w.heap.size w W → NodesAt W a1 L.length L → OpsAt W a2 P.length P → _) := fun W a1 a2 c1 c2 hW h1 h2 => puts_yes M HM.out (L, P, (d1, d2)) a1 a2 c1 c2 W (HG.out.below hW) hcp h1 h2
        simp only [hS] at CT CP
        have CSm : Hid (∀ (W : World) (a1 a2 e1 e2 : Option Addr) (c1 c2 f1 f2 : Nat), NodesAt W a1 L.length L → OpsAt W a2 P.length P → NodesAt W e1 L.length L → OpsAt W e2 P.length P → _) := fun W a1 a2 e1 e2 c1 c2 f1 f2 h1 h2 h3 h4 => rsameS_any L P d1 d2 a1 a2 e1 e2 c1 c2 f1 f2 W (by have := hcp.few.1; show L.length ≤ _; have h : L.length ≤ 30 := this; omega) (by have := hcp.few.2; have h : P.length ≤ 30 := this; omega) h1 h2 h3 h4
        obtain ⟨qn1, hqn1⟩ : ∃ qn1, L.length = qn1 := ⟨_, rfl⟩
        obtain ⟨qn2, hqn2⟩ : ∃ qn2, P.length = qn2 := ⟨_, rfl⟩
        simp only [hqn1, hqn2] at CP CSm
        obtain ⟨q0, q1, q2, q3⟩ := HS.out.cells
        have v0 : wr.cell? ⟨hu, 0, none⟩ = some (.int .i64 u1) := HS.out.u.cell 0
        have v1 : wr.cell? ⟨hu, 1, none⟩ = some (.int .i64 u2) := HS.out.u.cell 1
        clear hst hlen hLi hsl hT hTl CC' hC hcp hS HI HZ HN HLi
        go_wp2_with fail
        refine CC.out.mono ?_
        rintro e w2 ⟨v2, rfl, hG2, hb2⟩
        have HS2 := HS.out.on hb2
        obtain ⟨qa1, qc1, qa2, qc2, rfl, k1, k2, k3, k4, k5⟩ := hG2
        have hG2' : TreeG (fun k => k = hq) w2 (.agg #[.slice qa1 L.length qc1, .slice qa2 P.length qc2, .int .i64 d1, .int .i64 d2]) (L, P, (d1, d2)) := ⟨qa1, qc1, qa2, qc2, rfl, k1, k2, k3, k4, k5⟩
        simp only [hqn1, hqn2] at hG2' ⊢
        have X2 := HS2.q
        have hS3 := HS2.next hG2'
        have X3 : Blk ((w2.setRow hq #[.slice qa1 qn1 qc1, .slice qa2 qn2 qc2, .int .i64 d1, .int .i64 d2]).alloc (.cells #[.slice none 0 0, .slice none 0 0, .int .i64 0, .int .i64 0] 38)) 38 w2.heap.size #[.slice none 0 0, .slice none 0 0, .int .i64 0, .int .i64 0] := Blk.new' _ _ _ _ (by simp [World.setRow])
        have hb4 : Below (w2.setRow hq #[.slice qa1 qn1 qc1, .slice qa2 qn2 qc2, .int .i64 d1, .int .i64 d2]).heap.size (w2.setRow hq #[.slice qa1 qn1 qc1, .slice qa2 qn2 qc2, .int .i64 d1, .int .i64 d2]) (((w2.setRow hq #[.slice qa1 qn1 qc1, .slice qa2 qn2 qc2, .int .i64 d1, .int .i64 d2]).alloc (.cells #[.slice none 0 0, .slice none 0 0, .int .i64 0, .int .i64 0] 38)).setRow w2.heap.size #[.slice qa1 qn1 qc1, .slice qa2 qn2 qc2, .int .i64 d1, .int .i64 d2]) := by
          have e : (w2.setRow hq #[.slice qa1 qn1 qc1, .slice qa2 qn2 qc2, .int .i64 d1, .int .i64 d2]).heap.size = w2.heap.size := by simp [World.setRow]
          rw [e]
          exact below_setRow (by rw [← e]; exact below_new _ _) (Nat.le_refl _) _
        have HK4 : Hid (Blk (((w2.setRow hq #[.slice qa1 qn1 qc1, .slice qa2 qn2 qc2, .int .i64 d1, .int .i64 d2]).alloc (.cells #[.slice none 0 0, .slice none 0 0, .int .i64 0, .int .i64 0] 38)).setRow w2.heap.size #[.slice qa1 qn1 qc1, .slice qa2 qn2 qc2, .int .i64 d1, .int .i64 d2]) 38 w2.heap.size #[.slice qa1 qn1 qc1, .slice qa2 qn2 qc2, .int .i64 d1, .int .i64 d2]) := X3.setRow _
        have HS4 := hS3.on hb4
        have HBl : Hid (Below w.heap.size w (((w2.setRow hq #[.slice qa1 qn1 qc1, .slice qa2 qn2 qc2, .int .i64 d1, .int .i64 d2]).alloc (.cells #[.slice none 0 0, .slice none 0 0, .int .i64 0, .int .i64 0] 38)).setRow w2.heap.size #[.slice qa1 qn1 qc1, .slice qa2 qn2 qc2, .int .i64 d1, .int .i64 d2])) := HS4.bel
        obtain ⟨ra1, rc1, ra2, rc2, re, r1, r2, _, _, _⟩ := HS4.tg
        obtain ⟨w4, hw4⟩ : ∃ w4, (((w2.setRow hq #[.slice qa1 qn1 qc1, .slice qa2 qn2 qc2, .int .i64 d1, .int .i64 d2]).alloc (.cells #[.slice none 0 0, .slice none 0 0, .int .i64 0, .int .i64 0] 38)).setRow w2.heap.size #[.slice qa1 qn1 qc1, .slice qa2 qn2 qc2, .int .i64 d1, .int .i64 d2]) = w4 := ⟨_, rfl⟩
        injection re with re
        simp only [Array.mk.injEq, List.cons.injEq, Value.slice.injEq] at re
        obtain ⟨⟨f1, f2, f3⟩, ⟨f4, f5, f6⟩, _⟩ := re
        subst f1 f3 f4 f6
        have HN4 : Hid (NodesAt (((w2.setRow hq #[.slice qa1 qn1 qc1, .slice qa2 qn2 qc2, .int .i64 d1, .int .i64 d2]).alloc (.cells #[.slice none 0 0, .slice none 0 0, .int .i64 0, .int .i64 0] 38)).setRow w2.heap.size #[.slice qa1 qn1 qc1, .slice qa2 qn2 qc2, .int .i64 d1, .int .i64 d2]) qa1 qn1 L) := by have h : NodesAt _ qa1 L.length L := r1; rw [hqn1] at h; exact h
        have HO4 : Hid (OpsAt (((w2.setRow hq #[.slice qa1 qn1 qc1, .slice qa2 qn2 qc2, .int .i64 d1, .int .i64 d2]).alloc (.cells #[.slice none 0 0, .slice none 0 0, .int .i64 0, .int .i64 0] 38)).setRow w2.heap.size #[.slice qa1 qn1 qc1, .slice qa2 qn2 qc2, .int .i64 d1, .int .i64 d2]) qa2 qn2 P) := by have h : OpsAt _ qa2 P.length P := r2; rw [hqn2] at h; exact h
        rw [hw4] at HK4 HBl HN4 HO4
        have y0 : (w2.setRow hq #[.slice qa1 qn1 qc1, .slice qa2 qn2 qc2, .int .i64 d1, .int .i64 d2]).cell? ⟨hq, 0, none⟩ = some (.slice qa1 qn1 qc1) := hS3.q.cell 0
        have y1 : (w2.setRow hq #[.slice qa1 qn1 qc1, .slice qa2 qn2 qc2, .int .i64 d1, .int .i64 d2]).cell? ⟨hq, 1, none⟩ = some (.slice qa2 qn2 qc2) := hS3.q.cell 1
        have y2 : (w2.setRow hq #[.slice qa1 qn1 qc1, .slice qa2 qn2 qc2, .int .i64 d1, .int .i64 d2]).cell? ⟨hq, 2, none⟩ = some (.int .i64 d1) := hS3.q.cell 2
        have y3 : (w2.setRow hq #[.slice qa1 qn1 qc1, .slice qa2 qn2 qc2, .int .i64 d1, .int .i64 d2]).cell? ⟨hq, 3, none⟩ = some (.int .i64 d2) := hS3.q.cell 3
        have z0 : w4.cell? ⟨w2.heap.size, 0, none⟩ = some (.slice qa1 qn1 qc1) := HK4.out.cell 0
        have z1 : w4.cell? ⟨w2.heap.size, 1, none⟩ = some (.slice qa2 qn2 qc2) := HK4.out.cell 1
        have z2 : w4.cell? ⟨w2.heap.size, 2, none⟩ = some (.int .i64 d1) := HK4.out.cell 2
        have z3 : w4.cell? ⟨w2.heap.size, 3, none⟩ = some (.int .i64 d2) := HK4.out.cell 3
        clear hG2' k1 k2 k3 k4 k5 hb2 HS HS2 hS3 hb4 HS4 CC q0 q1 q2 q3 v0 v1 r1 r2 f2 f5
        go_wp2_with (first
          | (with_reducible refine wpList_storeBlk rfl 27 _ _ rfl hq #[.slice a1 n1 c1, .slice a2 n2 c2, .int .i64 b1, .int .i64 b2] #[.slice qa1 qn1 qc1, .slice qa2 qn2 qc2, .int .i64 d1, .int .i64 d2] (by with_unfolding_all rfl) (by with_unfolding_all rfl) X2 rfl (by kernel_rfl) (by kernel_rfl) ?_)
          | (with_reducible refine wpList_storeBlk rfl 38 _ _ rfl w2.heap.size #[.slice none 0 0, .slice none 0 0, .int .i64 0, .int .i64 0] #[.slice qa1 qn1 qc1, .slice qa2 qn2 qc2, .int .i64 d1, .int .i64 d2] (by with_unfolding_all rfl) (by with_unfolding_all rfl) X3 rfl (by kernel_rfl) (by kernel_rfl) ?_))
        try rw [hw4]
        obtain ⟨hs, hhs⟩ : ∃ hs, w2.heap.size = hs := ⟨_, rfl⟩
        rw [hhs] at HK4
        try rw [hhs]
        clear hw4 hhs X2 X3 y0 y1 y2 y3 z0 z1 z2 z3
        refine (CP.out w4 qa1 qa2 qc1 qc2 HBl.out HN4.out HO4.out).mono ?_
        rintro e w5 ⟨rfl, hb5⟩
        have HB5 : Hid (Below w.heap.size w w5) := below_step HBl.out (Nat.le_refl _) hb5
        have HN5 : Hid (NodesAt w5 qa1 qn1 L) := HN4.out.below hb5
        have HO5 : Hid (OpsAt w5 qa2 qn2 P) := HO4.out.below hb5
        have HK5 : Hid (Blk w5 38 hs #[.slice qa1 qn1 qc1, .slice qa2 qn2 qc2, .int .i64 d1, .int .i64 d2]) := HK4.out.on hb5
        clear CP hb5 HBl HN4 HO4 HK4
        go_wp2_with fail
        refine (CT.out w5 HB5.out).mono ?_
        rintro e w6 ⟨hb6, hY⟩
        obtain ⟨ta1, tc1, ta2, tc2, t1, t2, rfl⟩ := hY
        simp only [hqn1, hqn2] at t1 t2 ⊢
        have hb7 : Below w6.heap.size w6 ((w6.alloc (.cells #[.slice none 0 0, .slice none 0 0, .int .i64 0, .int .i64 0] 38)).setRow w6.heap.size #[.slice ta1 qn1 tc1, .slice ta2 qn2 tc2, .int .i64 d1, .int .i64 d2]) := below_setRow (below_new _ _) (Nat.le_refl _) _
        have X6 : Blk (w6.alloc (.cells #[.slice none 0 0, .slice none 0 0, .int .i64 0, .int .i64 0] 38)) 38 w6.heap.size #[.slice none 0 0, .slice none 0 0, .int .i64 0, .int .i64 0] := Blk.new _ _ _
        have HB7 : Hid (Below w.heap.size w ((w6.alloc (.cells #[.slice none 0 0, .slice none 0 0, .int .i64 0, .int .i64 0] 38)).setRow w6.heap.size #[.slice ta1 qn1 tc1, .slice ta2 qn2 tc2, .int .i64 d1, .int .i64 d2])) := below_step HB5.out (Nat.le_refl _) (below_step hb6 (Nat.le_refl _) hb7)
        have HK7 : Hid (Blk ((w6.alloc (.cells #[.slice none 0 0, .slice none 0 0, .int .i64 0, .int .i64 0] 38)).setRow w6.heap.size #[.slice ta1 qn1 tc1, .slice ta2 qn2 tc2, .int .i64 d1, .int .i64 d2]) 38 hs #[.slice qa1 qn1 qc1, .slice qa2 qn2 qc2, .int .i64 d1, .int .i64 d2]) := (HK5.out.on hb6).on hb7
        have HT7 : Hid (Blk ((w6.alloc (.cells #[.slice none 0 0, .slice none 0 0, .int .i64 0, .int .i64 0] 38)).setRow w6.heap.size #[.slice ta1 qn1 tc1, .slice ta2 qn2 tc2, .int .i64 d1, .int .i64 d2]) 38 w6.heap.size #[.slice ta1 qn1 tc1, .slice ta2 qn2 tc2, .int .i64 d1, .int .i64 d2]) := X6.setRow _
        have HN7 : Hid (NodesAt ((w6.alloc (.cells #[.slice none 0 0, .slice none 0 0, .int .i64 0, .int .i64 0] 38)).setRow w6.heap.size #[.slice ta1 qn1 tc1, .slice ta2 qn2 tc2, .int .i64 d1, .int .i64 d2]) qa1 qn1 L ∧ OpsAt ((w6.alloc (.cells #[.slice none 0 0, .slice none 0 0, .int .i64 0, .int .i64 0] 38)).setRow w6.heap.size #[.slice ta1 qn1 tc1, .slice ta2 qn2 tc2, .int .i64 d1, .int .i64 d2]) qa2 qn2 P ∧ NodesAt ((w6.alloc (.cells #[.slice none 0 0, .slice none 0 0, .int .i64 0, .int .i64 0] 38)).setRow w6.heap.size #[.slice ta1 qn1 tc1, .slice ta2 qn2 tc2, .int .i64 d1, .int .i64 d2]) ta1 qn1 L ∧ OpsAt ((w6.alloc (.cells #[.slice none 0 0, .slice none 0 0, .int .i64 0, .int .i64 0] 38)).setRow w6.heap.size #[.slice ta1 qn1 tc1, .slice ta2 qn2 tc2, .int .i64 d1, .int .i64 d2]) ta2 qn2 P) := ⟨(HN5.out.below hb6).below hb7, (HO5.out.below hb6).below hb7, t1.below hb7, t2.below hb7⟩
        obtain ⟨w7, hw7⟩ : ∃ w7, ((w6.alloc (.cells #[.slice none 0 0, .slice none 0 0, .int .i64 0, .int .i64 0] 38)).setRow w6.heap.size #[.slice ta1 qn1 tc1, .slice ta2 qn2 tc2, .int .i64 d1, .int .i64 d2]) = w7 := ⟨_, rfl⟩
        rw [hw7] at HB7 HK7 HT7 HN7
        have y0 : w7.cell? ⟨hs, 0, none⟩ = some (.slice qa1 qn1 qc1) := HK7.out.cell 0
        have y1 : w7.cell? ⟨hs, 1, none⟩ = some (.slice qa2 qn2 qc2) := HK7.out.cell 1
        have y2 : w7.cell? ⟨hs, 2, none⟩ = some (.int .i64 d1) := HK7.out.cell 2
        have y3 : w7.cell? ⟨hs, 3, none⟩ = some (.int .i64 d2) := HK7.out.cell 3
        have z0 : w7.cell? ⟨w6.heap.size, 0, none⟩ = some (.slice ta1 qn1 tc1) := HT7.out.cell 0
        have z1 : w7.cell? ⟨w6.heap.size, 1, none⟩ = some (.slice ta2 qn2 tc2) := HT7.out.cell 1
        have z2 : w7.cell? ⟨w6.heap.size, 2, none⟩ = some (.int .i64 d1) := HT7.out.cell 2
        have z3 : w7.cell? ⟨w6.heap.size, 3, none⟩ = some (.int .i64 d2) := HT7.out.cell 3
        clear CT hb6 HB5 HN5 HO5 HK5 t1 t2 hb7
        go_wp2_with (with_reducible refine wpList_storeBlk rfl 38 _ _ rfl w6.heap.size #[.slice none 0 0, .slice none 0 0, .int .i64 0, .int .i64 0] #[.slice ta1 qn1 tc1, .slice ta2 qn2 tc2, .int .i64 d1, .int .i64 d2] ?hx ?hy X6 rfl ?hi ?h1 ?_)
        try (case hx => rfl)
        try (case hy => rfl)
        try (case hi => kernel_rfl)
        try (case h1 => simp [Value.oneCell'])
        try rw [hw7]
        refine (CSm.out w7 ta1 ta2 qa1 qa2 tc1 tc2 qc1 qc2 HN7.out.2.2.1 HN7.out.2.2.2 HN7.out.1 HN7.out.2.1).mono ?_
        rintro e w8 ⟨rfl, hb8⟩
        have HB : Hid (Below w.heap.size w w8) := below_step HB7.out (Nat.le_refl _) hb8
        clear CSm hb8 HB7 HK7 HT7 HN7 X6 hw7 y0 y1 y2 y3 z0 z1 z2 z3
        go_wp2_with fail
        refine (CW.out _ HB.out).mono ?_
        rintro e w99 ⟨rfl, hb99⟩
        have hB99 := below_step HB.out (Nat.le_refl _) hb99
        clear CW hb99 HB
        go_wp2_with fail
        go_ret
        exact ⟨rfl, hB99⟩
    · have b0 : ¬ ((k : Int) < (n : Int)) := by omega
      have hst := stands_play M [] (0, 0) (l.take k) (by rw [List.length_take]; simp; omega)
      have hlen : (l.take k).length ≤ 30 := by rw [List.length_take]; omega
      have hLi : ∀ o ∈ (playP M T0 (l.take k)).2.1, LightO o := fun o ho => by
        obtain ⟨i, hi, rfl⟩ := mem_oL (l.take k) o (hst.mem o ho).1
        have hi' : i < k := by rw [List.length_take] at hi; omega
        have e : oL (l.take k) i = oL l i := by
          rw [oL_get (l.take k) i hi, oL_get l i (by rw [List.length_take] at hi; omega), List.getElem_take]
        rw [e]; exact HLi.out i hi'
      have hsl := hst.len
      have hcp := compact_put M HM.out (playP M T0 (l.take k)).2.1 (u1, u2) hst.sort (fun o ho => ⟨(hst.mem o ho).2.1, hLi o ho, (hst.mem o ho).2.2⟩) (by show (playP M ([], [], (0, 0)) (l.take k)).2.1.length ≤ 30; omega)
      have hT : playP M T0 (l.take k) = ([], (playP M T0 (l.take k)).2.1, (0, 0)) := Prod.ext hst.fx (Prod.ext rfl hst.base)
      rw [← hT] at hcp
      have hTl := play_len M (l.take k) (by omega)
      have CC' := rcompactF_any (fun k => k = hq) (playP M T0 (l.take k)) (u1, u2) (.agg #[.slice a1 n1 c1, .slice a2 n2 c2, .int .i64 b1, .int .i64 b2]) wr (by omega) HS.out.tg (fun k hk => by rw [hk]; exact HS.out.q.lt)
      obtain ⟨⟨⟨L, P, d1, d2⟩, nz⟩, hC⟩ : ∃ p, compactP (playP M T0 (l.take k)) (u1, u2) = p := ⟨_, rfl⟩
      simp only [hC, stampV] at CC' hcp
      have CC : Hid (Calls _ _ _ _ _) := CC'
      have HPt : Hid (MayPut M (L, P, (d1, d2))) := hcp
      obtain ⟨S, hS⟩ : ∃ S, encA (snPs (L, P, (d1, d2))) = S := ⟨_, rfl⟩
      have CT : Hid (∀ W, Below w.heap.size w W → _) := fun W hW => take_yes M HM.out (L, P, (d1, d2)) W (HG.out.below hW) hcp
      have CP : Hid (∀ W a1 a2 c1 c2, Below w.heap.size w W → NodesAt W a1 L.length L → OpsAt W a2 P.length P → _) := fun W a1 a2 c1 c2 hW h1 h2 => puts_yes M HM.out (L, P, (d1, d2)) a1 a2 c1 c2 W (HG.out.below hW) hcp h1 h2
      simp only [hS] at CT CP
      have CSm : Hid (∀ (W : World) (a1 a2 e1 e2 : Option Addr) (c1 c2 f1 f2 : Nat), NodesAt W a1 L.length L → OpsAt W a2 P.length P → NodesAt W e1 L.length L → OpsAt W e2 P.length P → _) := fun W a1 a2 e1 e2 c1 c2 f1 f2 h1 h2 h3 h4 => rsameS_any L P d1 d2 a1 a2 e1 e2 c1 c2 f1 f2 W (by have := hcp.few.1; show L.length ≤ _; have h : L.length ≤ 30 := this; omega) (by have := hcp.few.2; have h : P.length ≤ 30 := this; omega) h1 h2 h3 h4
      obtain ⟨qn1, hqn1⟩ : ∃ qn1, L.length = qn1 := ⟨_, rfl⟩
      obtain ⟨qn2, hqn2⟩ : ∃ qn2, P.length = qn2 := ⟨_, rfl⟩
      simp only [hqn1, hqn2] at CP CSm
      obtain ⟨q0, q1, q2, q3⟩ := HS.out.cells
      have v0 : wr.cell? ⟨hu, 0, none⟩ = some (.int .i64 u1) := HS.out.u.cell 0
      have v1 : wr.cell? ⟨hu, 1, none⟩ = some (.int .i64 u2) := HS.out.u.cell 1
      clear hst hlen hLi hsl hT hTl CC' hC hcp hS HI HZ HN HLi
      go_wp2_with fail
      refine CC.out.mono ?_
      rintro e w2 ⟨v2, rfl, hG2, hb2⟩
      have HS2 := HS.out.on hb2
      obtain ⟨qa1, qc1, qa2, qc2, rfl, k1, k2, k3, k4, k5⟩ := hG2
      have hG2' : TreeG (fun k => k = hq) w2 (.agg #[.slice qa1 L.length qc1, .slice qa2 P.length qc2, .int .i64 d1, .int .i64 d2]) (L, P, (d1, d2)) := ⟨qa1, qc1, qa2, qc2, rfl, k1, k2, k3, k4, k5⟩
      simp only [hqn1, hqn2] at hG2' ⊢
      have X2 := HS2.q
      have hS3 := HS2.next hG2'
      have X3 : Blk ((w2.setRow hq #[.slice qa1 qn1 qc1, .slice qa2 qn2 qc2, .int .i64 d1, .int .i64 d2]).alloc (.cells #[.slice none 0 0, .slice none 0 0, .int .i64 0, .int .i64 0] 38)) 38 w2.heap.size #[.slice none 0 0, .slice none 0 0, .int .i64 0, .int .i64 0] := Blk.new' _ _ _ _ (by simp [World.setRow])
      have hb4 : Below (w2.setRow hq #[.slice qa1 qn1 qc1, .slice qa2 qn2 qc2, .int .i64 d1, .int .i64 d2]).heap.size (w2.setRow hq #[.slice qa1 qn1 qc1, .slice qa2 qn2 qc2, .int .i64 d1, .int .i64 d2]) (((w2.setRow hq #[.slice qa1 qn1 qc1, .slice qa2 qn2 qc2, .int .i64 d1, .int .i64 d2]).alloc (.cells #[.slice none 0 0, .slice none 0 0, .int .i64 0, .int .i64 0] 38)).setRow w2.heap.size #[.slice qa1 qn1 qc1, .slice qa2 qn2 qc2, .int .i64 d1, .int .i64 d2]) := by
        have e : (w2.setRow hq #[.slice qa1 qn1 qc1, .slice qa2 qn2 qc2, .int .i64 d1, .int .i64 d2]).heap.size = w2.heap.size := by simp [World.setRow]
        rw [e]
        exact below_setRow (by rw [← e]; exact below_new _ _) (Nat.le_refl _) _
      have HK4 : Hid (Blk (((w2.setRow hq #[.slice qa1 qn1 qc1, .slice qa2 qn2 qc2, .int .i64 d1, .int .i64 d2]).alloc (.cells #[.slice none 0 0, .slice none 0 0, .int .i64 0, .int .i64 0] 38)).setRow w2.heap.size #[.slice qa1 qn1 qc1, .slice qa2 qn2 qc2, .int .i64 d1, .int .i64 d2]) 38 w2.heap.size #[.slice qa1 qn1 qc1, .slice qa2 qn2 qc2, .int .i64 d1, .int .i64 d2]) := X3.setRow _
      have HS4 := hS3.on hb4
      have HBl : Hid (Below w.heap.size w (((w2.setRow hq #[.slice qa1 qn1 qc1, .slice qa2 qn2 qc2, .int .i64 d1, .int .i64 d2]).alloc (.cells #[.slice none 0 0, .slice none 0 0, .int .i64 0, .int .i64 0] 38)).setRow w2.heap.size #[.slice qa1 qn1 qc1, .slice qa2 qn2 qc2, .int .i64 d1, .int .i64 d2])) := HS4.bel
      obtain ⟨ra1, rc1, ra2, rc2, re, r1, r2, _, _, _⟩ := HS4.tg
      obtain ⟨w4, hw4⟩ : ∃ w4, (((w2.setRow hq #[.slice qa1 qn1 qc1, .slice qa2 qn2 qc2, .int .i64 d1, .int .i64 d2]).alloc (.cells #[.slice none 0 0, .slice none 0 0, .int .i64 0, .int .i64 0] 38)).setRow w2.heap.size #[.slice qa1 qn1 qc1, .slice qa2 qn2 qc2, .int .i64 d1, .int .i64 d2]) = w4 := ⟨_, rfl⟩
      injection re with re
      simp only [Array.mk.injEq, List.cons.injEq, Value.slice.injEq] at re
      obtain ⟨⟨f1, f2, f3⟩, ⟨f4, f5, f6⟩, _⟩ := re
      subst f1 f3 f4 f6
      have HN4 : Hid (NodesAt (((w2.setRow hq #[.slice qa1 qn1 qc1, .slice qa2 qn2 qc2, .int .i64 d1, .int .i64 d2]).alloc (.cells #[.slice none 0 0, .slice none 0 0, .int .i64 0, .int .i64 0] 38)).setRow w2.heap.size #[.slice qa1 qn1 qc1, .slice qa2 qn2 qc2, .int .i64 d1, .int .i64 d2]) qa1 qn1 L) := by have h : NodesAt _ qa1 L.length L := r1; rw [hqn1] at h; exact h
      have HO4 : Hid (OpsAt (((w2.setRow hq #[.slice qa1 qn1 qc1, .slice qa2 qn2 qc2, .int .i64 d1, .int .i64 d2]).alloc (.cells #[.slice none 0 0, .slice none 0 0, .int .i64 0, .int .i64 0] 38)).setRow w2.heap.size #[.slice qa1 qn1 qc1, .slice qa2 qn2 qc2, .int .i64 d1, .int .i64 d2]) qa2 qn2 P) := by have h : OpsAt _ qa2 P.length P := r2; rw [hqn2] at h; exact h
      rw [hw4] at HK4 HBl HN4 HO4
      have y0 : (w2.setRow hq #[.slice qa1 qn1 qc1, .slice qa2 qn2 qc2, .int .i64 d1, .int .i64 d2]).cell? ⟨hq, 0, none⟩ = some (.slice qa1 qn1 qc1) := hS3.q.cell 0
      have y1 : (w2.setRow hq #[.slice qa1 qn1 qc1, .slice qa2 qn2 qc2, .int .i64 d1, .int .i64 d2]).cell? ⟨hq, 1, none⟩ = some (.slice qa2 qn2 qc2) := hS3.q.cell 1
      have y2 : (w2.setRow hq #[.slice qa1 qn1 qc1, .slice qa2 qn2 qc2, .int .i64 d1, .int .i64 d2]).cell? ⟨hq, 2, none⟩ = some (.int .i64 d1) := hS3.q.cell 2
      have y3 : (w2.setRow hq #[.slice qa1 qn1 qc1, .slice qa2 qn2 qc2, .int .i64 d1, .int .i64 d2]).cell? ⟨hq, 3, none⟩ = some (.int .i64 d2) := hS3.q.cell 3
      have z0 : w4.cell? ⟨w2.heap.size, 0, none⟩ = some (.slice qa1 qn1 qc1) := HK4.out.cell 0
      have z1 : w4.cell? ⟨w2.heap.size, 1, none⟩ = some (.slice qa2 qn2 qc2) := HK4.out.cell 1
      have z2 : w4.cell? ⟨w2.heap.size, 2, none⟩ = some (.int .i64 d1) := HK4.out.cell 2
      have z3 : w4.cell? ⟨w2.heap.size, 3, none⟩ = some (.int .i64 d2) := HK4.out.cell 3
      clear hG2' k1 k2 k3 k4 k5 hb2 HS HS2 hS3 hb4 HS4 CC q0 q1 q2 q3 v0 v1 r1 r2 f2 f5
      go_wp2_with (first
        | (with_reducible refine wpList_storeBlk rfl 27 _ _ rfl hq #[.slice a1 n1 c1, .slice a2 n2 c2, .int .i64 b1, .int .i64 b2] #[.slice qa1 qn1 qc1, .slice qa2 qn2 qc2, .int .i64 d1, .int .i64 d2] (by with_unfolding_all rfl) (by with_unfolding_all rfl) X2 rfl (by kernel_rfl) (by kernel_rfl) ?_)
        | (with_reducible refine wpList_storeBlk rfl 38 _ _ rfl w2.heap.size #[.slice none 0 0, .slice none 0 0, .int .i64 0, .int .i64 0] #[.slice qa1 qn1 qc1, .slice qa2 qn2 qc2, .int .i64 d1, .int .i64 d2] (by with_unfolding_all rfl) (by with_unfolding_all rfl) X3 rfl (by kernel_rfl) (by kernel_rfl) ?_))
      try rw [hw4]
      obtain ⟨hs, hhs⟩ : ∃ hs, w2.heap.size = hs := ⟨_, rfl⟩
      rw [hhs] at HK4
      try rw [hhs]
      clear hw4 hhs X2 X3 y0 y1 y2 y3 z0 z1 z2 z3
      refine (CP.out w4 qa1 qa2 qc1 qc2 HBl.out HN4.out HO4.out).mono ?_
      rintro e w5 ⟨rfl, hb5⟩
      have HB5 : Hid (Below w.heap.size w w5) := below_step HBl.out (Nat.le_refl _) hb5
      have HN5 : Hid (NodesAt w5 qa1 qn1 L) := HN4.out.below hb5
      have HO5 : Hid (OpsAt w5 qa2 qn2 P) := HO4.out.below hb5
      have HK5 : Hid (Blk w5 38 hs #[.slice qa1 qn1 qc1, .slice qa2 qn2 qc2, .int .i64 d1, .int .i64 d2]) := HK4.out.on hb5
      clear CP hb5 HBl HN4 HO4 HK4
      go_wp2_with fail
      refine (CT.out w5 HB5.out).mono ?_
      rintro e w6 ⟨hb6, hY⟩
      obtain ⟨ta1, tc1, ta2, tc2, t1, t2, rfl⟩ := hY
      simp only [hqn1, hqn2] at t1 t2 ⊢
      have hb7 : Below w6.heap.size w6 ((w6.alloc (.cells #[.slice none 0 0, .slice none 0 0, .int .i64 0, .int .i64 0] 38)).setRow w6.heap.size #[.slice ta1 qn1 tc1, .slice ta2 qn2 tc2, .int .i64 d1, .int .i64 d2]) := below_setRow (below_new _ _) (Nat.le_refl _) _
      have X6 : Blk (w6.alloc (.cells #[.slice none 0 0, .slice none 0 0, .int .i64 0, .int .i64 0] 38)) 38 w6.heap.size #[.slice none 0 0, .slice none 0 0, .int .i64 0, .int .i64 0] := Blk.new _ _ _
      have HB7 : Hid (Below w.heap.size w ((w6.alloc (.cells #[.slice none 0 0, .slice none 0 0, .int .i64 0, .int .i64 0] 38)).setRow w6.heap.size #[.slice ta1 qn1 tc1, .slice ta2 qn2 tc2, .int .i64 d1, .int .i64 d2])) := below_step HB5.out (Nat.le_refl _) (below_step hb6 (Nat.le_refl _) hb7)
      have HK7 : Hid (Blk ((w6.alloc (.cells #[.slice none 0 0, .slice none 0 0, .int .i64 0, .int .i64 0] 38)).setRow w6.heap.size #[.slice ta1 qn1 tc1, .slice ta2 qn2 tc2, .int .i64 d1, .int .i64 d2]) 38 hs #[.slice qa1 qn1 qc1, .slice qa2 qn2 qc2, .int .i64 d1, .int .i64 d2]) := (HK5.out.on hb6).on hb7
      have HT7 : Hid (Blk ((w6.alloc (.cells #[.slice none 0 0, .slice none 0 0, .int .i64 0, .int .i64 0] 38)).setRow w6.heap.size #[.slice ta1 qn1 tc1, .slice ta2 qn2 tc2, .int .i64 d1, .int .i64 d2]) 38 w6.heap.size #[.slice ta1 qn1 tc1, .slice ta2 qn2 tc2, .int .i64 d1, .int .i64 d2]) := X6.setRow _
      have HN7 : Hid (NodesAt ((w6.alloc (.cells #[.slice none 0 0, .slice none 0 0, .int .i64 0, .int .i64 0] 38)).setRow w6.heap.size #[.slice ta1 qn1 tc1, .slice ta2 qn2 tc2, .int .i64 d1, .int .i64 d2]) qa1 qn1 L ∧ OpsAt ((w6.alloc (.cells #[.slice none 0 0, .slice none 0 0, .int .i64 0, .int .i64 0] 38)).setRow w6.heap.size #[.slice ta1 qn1 tc1, .slice ta2 qn2 tc2, .int .i64 d1, .int .i64 d2]) qa2 qn2 P ∧ NodesAt ((w6.alloc (.cells #[.slice none 0 0, .slice none 0 0, .int .i64 0, .int .i64 0] 38)).setRow w6.heap.size #[.slice ta1 qn1 tc1, .slice ta2 qn2 tc2, .int .i64 d1, .int .i64 d2]) ta1 qn1 L ∧ OpsAt ((w6.alloc (.cells #[.slice none 0 0, .slice none 0 0, .int .i64 0, .int .i64 0] 38)).setRow w6.heap.size #[.slice ta1 qn1 tc1, .slice ta2 qn2 tc2, .int .i64 d1, .int .i64 d2]) ta2 qn2 P) := ⟨(HN5.out.below hb6).below hb7, (HO5.out.below hb6).below hb7, t1.below hb7, t2.below hb7⟩
      obtain ⟨w7, hw7⟩ : ∃ w7, ((w6.alloc (.cells #[.slice none 0 0, .slice none 0 0, .int .i64 0, .int .i64 0] 38)).setRow w6.heap.size #[.slice ta1 qn1 tc1, .slice ta2 qn2 tc2, .int .i64 d1, .int .i64 d2]) = w7 := ⟨_, rfl⟩
      rw [hw7] at HB7 HK7 HT7 HN7
      have y0 : w7.cell? ⟨hs, 0, none⟩ = some (.slice qa1 qn1 qc1) := HK7.out.cell 0
      have y1 : w7.cell? ⟨hs, 1, none⟩ = some (.slice qa2 qn2 qc2) := HK7.out.cell 1
      have y2 : w7.cell? ⟨hs, 2, none⟩ = some (.int .i64 d1) := HK7.out.cell 2
      have y3 : w7.cell? ⟨hs, 3, none⟩ = some (.int .i64 d2) := HK7.out.cell 3
      have z0 : w7.cell? ⟨w6.heap.size, 0, none⟩ = some (.slice ta1 qn1 tc1) := HT7.out.cell 0
      have z1 : w7.cell? ⟨w6.heap.size, 1, none⟩ = some (.slice ta2 qn2 tc2) := HT7.out.cell 1
      have z2 : w7.cell? ⟨w6.heap.size, 2, none⟩ = some (.int .i64 d1) := HT7.out.cell 2
      have z3 : w7.cell? ⟨w6.heap.size, 3, none⟩ = some (.int .i64 d2) := HT7.out.cell 3
      clear CT hb6 HB5 HN5 HO5 HK5 t1 t2 hb7
      go_wp2_with (with_reducible refine wpList_storeBlk rfl 38 _ _ rfl w6.heap.size #[.slice none 0 0, .slice none 0 0, .int .i64 0, .int .i64 0] #[.slice ta1 qn1 tc1, .slice ta2 qn2 tc2, .int .i64 d1, .int .i64 d2] ?hx ?hy X6 rfl ?hi ?h1 ?_)
      try (case hx => rfl)
      try (case hy => rfl)
      try (case hi => kernel_rfl)
      try (case h1 => simp [Value.oneCell'])
      try rw [hw7]
      refine (CSm.out w7 ta1 ta2 qa1 qa2 tc1 tc2 qc1 qc2 HN7.out.2.2.1 HN7.out.2.2.2 HN7.out.1 HN7.out.2.1).mono ?_
      rintro e w8 ⟨rfl, hb8⟩
      have HB : Hid (Below w.heap.size w w8) := below_step HB7.out (Nat.le_refl _) hb8
      clear CSm hb8 HB7 HK7 HT7 HN7 X6 hw7 y0 y1 y2 y3 z0 z1 z2 z3
      go_wp2_with fail
      refine (CW.out _ HB.out).mono ?_
      rintro e w99 ⟨rfl, hb99⟩
      have hB99 := below_step HB.out (Nat.le_refl _) hb99
      clear CW hb99 HB
      go_wp2_with fail
      go_ret
      exact ⟨rfl, hB99⟩
end Go.Proofs.YtdmlffbpcjadfaaDoor

/- SnapTrees at its parameters (layer 13). -/
namespace Go.Proofs.YtdmlffbpcjadfaaDoor
open Go.RowKit

theorem snapTrees_law (a0 : Option Addr) (n0 c0 : Nat) (v1 : Value) (W : World) (z0 : ∃ l, OpsAt W a0 n0 l ∧ n0 ≤ maxLen ∧ (∀ q ∈ l, OpOk q) ∧ SliceOk a0 n0 c0) (z1 : ∃ t u : Int, v1 = .agg #[.int .i64 t, .int .i64 u] ∧ (Lit.int .i64 t).wf = true ∧ (Lit.int .i64 u).wf = true) (hG : Glob8 W) :
    Calls Tryd.prog 3 #[.slice a0 n0 c0, v1] W fun e w' => e = .returned (.bool true) ∧ Below W.heap.size W w' := by
  obtain ⟨l, h1, h2, h3, _⟩ := z0
  obtain ⟨t, u, rfl, _, _⟩ := z1
  exact snapTrees_walk a0 l n0 c0 t u W h2 h1 h3 hG
end Go.Proofs.YtdmlffbpcjadfaaDoor
