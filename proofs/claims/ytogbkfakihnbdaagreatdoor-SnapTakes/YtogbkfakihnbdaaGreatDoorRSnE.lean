import Derived.Test.YtogbkfakihnbdaaGreatDoorRSnD
import Derived.Test.YtogbkfakihnbdaaGreatDoorRTrV
import Derived.Test.YtogbkfakihnbdaaGreatDoorSnR
import Derived.Test.YtogbkfakihnbdaaGreatDoorL1
/- The document's may (layer 13). -/
namespace Go.Proofs.YtogbkfakihnbdaaGreatDoor
open Go.RowKit
set_option linter.unusedSimpArgs false

theorem TreeG.shape4 {F : Nat → Prop} {w : World} {v : Value} {t : TreeT} (h : TreeG F w v t) : ∃ a1 n1 c1 a2 n2 c2 b1 b2, v = .agg #[.slice a1 n1 c1, .slice a2 n2 c2, .int .i64 b1, .int .i64 b2] := by
  obtain ⟨a1, c1, a2, c2, h, _⟩ := h
  exact ⟨a1, _, c1, a2, _, c2, _, _, h⟩

/-- A snapshot's cell. -/
structure SpS (w : World) (h : Nat) (cs : Array Value) (W : World) : Prop where
  bel : Below w.heap.size w W
  q : Blk W 28 h cs

theorem SpS.on {w : World} {h : Nat} {cs : Array Value} {W W' : World} (k : SpS w h cs W) (hb : Below W.heap.size W W') : SpS w h cs W' := ⟨below_step k.bel (Nat.le_refl _) hb, k.q.on hb⟩

set_option maxRecDepth 100000 in
set_option maxHeartbeats 8000000 in
theorem rmay_any (M : OpT → Bool) (hM : ∀ o, M o = true ↔ MayO o) (G : Nat → Bool) (l : List NodeT) (ops : List OpT) (b1 b2 : Int) (a1 a2 : Option Addr) (c1 c2 : Nat) (w : World) (Tn : TreeT) (R : Int) (E : Bool) (hl : ops.length ≤ 40000)
    (HGk : Hid (∀ k, k < l.length → (G k = true ↔ NodeOk l (b1, b2) k))) (HSZ : Hid (∀ k, k < l.length → (nL l k).2.2.1.size ≤ 1048576 ∧ (nL l k).2.2.2.size ≤ maxLen)) (HSO : Hid (∀ k, k < ops.length → (oL ops k).2.2.2.2.1.size ≤ 1048576 ∧ (oL ops k).2.2.2.2.2.size ≤ 9223372036854775807))
    (H1 : Hid (NodesAt w a1 l.length l)) (H2 : Hid (OpsAt w a2 ops.length ops)) (HE0 : Hid ((Tn, R) = ofP M G (l, ops, (b1, b2)))) (HE : Hid (E = true ↔ RiseO ops)) :
    Calls Tryz.prog 25 #[.agg #[.slice a1 l.length c1, .slice a2 ops.length c2, .int .i64 b1, .int .i64 b2]] w fun e w' => e = .returned (.bool (decide (R = 0) && E)) ∧ Below w.heap.size w w' := by
  have CO : Hid (∀ W, Below w.heap.size w W → _) := fun W hW => rofG_any (fun _ => False) M hM G l ops b1 b2 a1 a2 c1 c2 W Tn R hl HGk HSZ HSO (fun _ _ _ h => h) (fun _ h => h.elim) (H1.out.below hW) (H2.out.below hW) HE0.out
  obtain ⟨n1, hn1⟩ : ∃ n1, l.length = n1 := ⟨_, rfl⟩
  obtain ⟨n2, hn2⟩ : ∃ n2, ops.length = n2 := ⟨_, rfl⟩
  have HN2 : Hid (ops.length = n2) := hn2
  simp only [hn1, hn2] at CO H2 hl ⊢
  obtain ⟨B, hB⟩ : ∃ B, (decide (R = 0) && E) = B := ⟨_, rfl⟩
  have HB0 : Hid ((decide (R = 0) && E) = B) := hB
  rw [hB]
  clear hB hn1 hn2 hM HGk HSZ HSO H1 HE0
  have HS0 : Hid (SpS w w.heap.size #[.slice a1 n1 c1, .slice a2 n2 c2, .int .i64 b1, .int .i64 b2] (w.alloc (.cells #[.slice a1 n1 c1, .slice a2 n2 c2, .int .i64 b1, .int .i64 b2] 28))) := ⟨below_new _ _, Blk.new _ _ _⟩
  go_enter Tryz.func25, Tryz.ntmps25
  go_wp2_with fail
  obtain ⟨w0, hw0⟩ : ∃ w0, w.alloc (.cells #[.slice a1 n1 c1, .slice a2 n2 c2, .int .i64 b1, .int .i64 b2] 28) = w0 := ⟨_, rfl⟩
  obtain ⟨h, hh⟩ : ∃ h, w.heap.size = h := ⟨_, rfl⟩
  have HSa : Hid (SpS w h #[.slice a1 n1 c1, .slice a2 n2 c2, .int .i64 b1, .int .i64 b2] w0) := by show SpS _ _ _ _; rw [← hw0, ← hh]; exact HS0.out
  try rw [hw0]
  try rw [hh]
  clear hw0 hh HS0
  refine (CO.out w0 HSa.out.bel).mono ?_
  rintro e w1 ⟨v1, rfl, hG1, hb1⟩
  obtain ⟨pa1, pn1, pc1, pa2, pn2, pc2, pb1, pb2, rfl⟩ := hG1.shape4
  have X1 : Blk (w1.alloc (.cells #[.slice none 0 0, .slice none 0 0, .int .i64 0, .int .i64 0] 92)) 92 w1.heap.size #[.slice none 0 0, .slice none 0 0, .int .i64 0, .int .i64 0] := Blk.new _ _ _
  have HSb : Hid (SpS w h #[.slice a1 n1 c1, .slice a2 n2 c2, .int .i64 b1, .int .i64 b2] ((w1.alloc (.cells #[.slice none 0 0, .slice none 0 0, .int .i64 0, .int .i64 0] 92)).setRow w1.heap.size #[.slice pa1 pn1 pc1, .slice pa2 pn2 pc2, .int .i64 pb1, .int .i64 pb2])) := (HSa.out.on hb1).on (below_setRow (below_new _ _) (Nat.le_refl _) _)
  obtain ⟨w2, hw2⟩ : ∃ w2, (w1.alloc (.cells #[.slice none 0 0, .slice none 0 0, .int .i64 0, .int .i64 0] 92)).setRow w1.heap.size #[.slice pa1 pn1 pc1, .slice pa2 pn2 pc2, .int .i64 pb1, .int .i64 pb2] = w2 := ⟨_, rfl⟩
  rw [hw2] at HSb
  clear CO hG1 hb1 HSa
  by_cases hR : R = 0
  · subst hR
    obtain rfl : E = B := by have h := HB0.out; simpa using h
    clear HB0
    go_wp2_with (with_reducible refine wpList_storeBlk rfl 92 _ _ rfl w1.heap.size #[.slice none 0 0, .slice none 0 0, .int .i64 0, .int .i64 0] #[.slice pa1 pn1 pc1, .slice pa2 pn2 pc2, .int .i64 pb1, .int .i64 pb2] ?hx ?hy X1 rfl ?hi ?h1 ?_)
    try (case hx => rfl)
    try (case hy => rfl)
    try (case hi => kernel_rfl)
    try (case h1 => simp [Value.oneCell'])
    try rw [hw2]
    clear hw2 X1
    go_loopw [5] (fun i wr => ∃ k : Nat, 1 ≤ k ∧ (k ≤ n2 ∨ k = 1) ∧ i = .int .i64 k ∧ Hid (∀ j, 0 < j → j < k → LessS (oL ops (j - 1)).2.1 (oL ops j).2.1) ∧ Hid (SpS w h #[.slice a1 n1 c1, .slice a2 n2 c2, .int .i64 b1, .int .i64 b2] wr)) (fun i _ => n2 - (intOf i).toNat)
    case atStart => exact ⟨1, Nat.le_refl _, .inr rfl, rfl, fun j h1 h2 => by omega, HSb⟩
    case round =>
      clear HSb
      obtain ⟨k, hk1, hk, rfl, HL, HS⟩ := hrel
      have q1 : wr.cell? ⟨h, 1, none⟩ = some (.slice a2 n2 c2) := HS.out.q.cell 1
      by_cases hlt : k < n2
      · have b0 : (k : Int) < (n2 : Int) := by omega
        obtain ⟨b, off, rfl, _⟩ := H2.out.2.some (by omega)
        have hat := H2.out.below HS.out.bel
        obtain ⟨j, hkj⟩ : ∃ j, k = j + 1 := ⟨k - 1, by omega⟩
        have b5 : (j : Int) < (n2 : Int) := by omega
        have hq0 : IntKind.i64.wrap ((k : Int) - 1) = (j : Int) := by rw [IntKind.wrap_i64]; omega
        obtain ⟨_, u0, u1, _⟩ := hat.cells j (by omega)
        obtain ⟨_, v0, v1, _⟩ := hat.cells k hlt
        have HJ : Hid (k - 1 = j) := by show _ = _; omega
        obtain ⟨X, hX⟩ : ∃ X, decide (LessS (oL ops j).2.1 (oL ops k).2.1) = X := ⟨_, rfl⟩
        have HX : Hid (X = true ↔ LessS (oL ops j).2.1 (oL ops k).2.1) := by show _ ↔ _; rw [← hX]; simp
        have CL : Hid (∀ W, _) := fun W => rless_any (oL ops j).2.1 (oL ops k).2.1 W
        rw [hX] at CL
        obtain ⟨⟨j1, j2⟩, hj⟩ : ∃ s, s = (oL ops j).2.1 := ⟨_, rfl⟩
        obtain ⟨⟨i1, i2⟩, hi⟩ : ∃ s, s = (oL ops k).2.1 := ⟨_, rfl⟩
        rw [← hj] at u0 u1 CL
        rw [← hi] at v0 v1 CL
        simp only [stampV] at CL
        have hS0 : wr.cell? ⟨h, 1, none⟩ = some (.slice (some ⟨b, off, none⟩) n2 c2) ∧ wr.cell? ⟨b, off + j * 9 + 1, none⟩ = some (.int .i64 j1) ∧ wr.cell? ⟨b, off + j * 9 + 2, none⟩ = some (.int .i64 j2) ∧ wr.cell? ⟨b, off + k * 9 + 1, none⟩ = some (.int .i64 i1) ∧ wr.cell? ⟨b, off + k * 9 + 2, none⟩ = some (.int .i64 i2) := ⟨q1, u0, u1, v0, v1⟩
        clear hj hi hat hkj hX
        go_wp2_with fail
        refine wp_region_noPanic ?_
        refine wp_region_held_drew (S := fun W => W.cell? ⟨h, 1, none⟩ = some (.slice (some ⟨b, off, none⟩) n2 c2) ∧ W.cell? ⟨b, off + j * 9 + 1, none⟩ = some (.int .i64 j1) ∧ W.cell? ⟨b, off + j * 9 + 2, none⟩ = some (.int .i64 j2) ∧ W.cell? ⟨b, off + k * 9 + 1, none⟩ = some (.int .i64 i1) ∧ W.cell? ⟨b, off + k * 9 + 2, none⟩ = some (.int .i64 i2)) (by kernel_rfl) (by first | exact trivial | assumption | exact ⟨by assumption, by assumption⟩) (fun hHeld => ?_)
        refine tk 0 (v := ?_) rfl rfl ?_ ?_
        rotate_left
        · intro w hSw; (try dsimp only at hSw); go_simp; try with_reducible rfl
        try simp only [Act.put, za, zb, zc]
        refine tk 1 (v := ?_) rfl rfl ?_ ?_
        rotate_left
        · intro w hSw; (try dsimp only at hSw); go_simp; try with_reducible rfl
        try simp only [Act.put, za, zb, zc]
        refine tk 2 (v := ?_) rfl rfl ?_ ?_
        rotate_left
        · intro w hSw; (try dsimp only at hSw); go_simp; try with_reducible rfl
        try simp only [Act.put, za, zb, zc]
        refine tk 3 (v := ?_) rfl rfl ?_ ?_
        rotate_left
        · intro w hSw; (try dsimp only at hSw); go_simp; try with_reducible rfl
        try simp only [Act.put, za, zb, zc]
        refine tk 4 (v := ?_) rfl rfl ?_ ?_
        rotate_left
        · intro w hSw; (try dsimp only at hSw); go_simp; try with_reducible rfl
        try simp only [Act.put, za, zb, zc]
        refine tk 5 (v := ?_) rfl rfl ?_ ?_
        rotate_left
        · intro w hSw; (try dsimp only at hSw); go_simp; try with_reducible rfl
        try simp only [Act.put, za, zb, zc]
        refine tk 6 (v := ?_) rfl rfl ?_ ?_
        rotate_left
        · intro w hSw; (try dsimp only at hSw); go_simp; try with_reducible rfl
        try simp only [Act.put, za, zb, zc]
        refine tk 7 (v := ?_) rfl rfl ?_ ?_
        rotate_left
        · intro w hSw; (try dsimp only at hSw); go_simp; try with_reducible rfl
        try simp only [Act.put, za, zb, zc]
        refine tk 8 (v := ?_) rfl rfl ?_ ?_
        rotate_left
        · intro w hSw; (try dsimp only at hSw); go_simp; try with_reducible rfl
        try simp only [Act.put, za, zb, zc]
        refine tk 9 (v := ?_) rfl rfl ?_ ?_
        rotate_left
        · intro w hSw; (try dsimp only at hSw); go_simp; try with_reducible rfl
        try simp only [Act.put, za, zb, zc]
        refine tk 10 (v := ?_) rfl rfl ?_ ?_
        rotate_left
        · intro w hSw; (try dsimp only at hSw); go_simp; try with_reducible rfl
        try simp only [Act.put, za, zb, zc]
        refine tk 11 (v := ?_) rfl rfl ?_ ?_
        rotate_left
        · intro w hSw; (try dsimp only at hSw); go_simp; try with_reducible rfl
        try simp only [Act.put, za, zb, zc]
        refine tk 12 (v := ?_) rfl rfl ?_ ?_
        rotate_left
        · intro w hSw; (try dsimp only at hSw); go_simp; try with_reducible rfl
        try simp only [Act.put, za, zb, zc]
        refine wpAnyH_ready (rs := [13]) (by kernel_rfl) (by simp) ?_
        refine AllReadyH.cons rfl (fun K hK => ?_) AllReadyH.nil
        go_simp
        refine (CL.out _).mono ?_
        rintro e w3 ⟨rfl, hb3⟩
        have hb4 : Below wr.heap.size wr w3 := below_step (Below.refl _ _).drew (Nat.le_refl _) hb3
        have HS3 : Hid (SpS w h #[.slice a1 n1 c1, .slice (some ⟨b, off, none⟩) n2 c2, .int .i64 b1, .int .i64 b2] w3) := HS.out.on hb4
        refine hK.out _ _ ⟨HS3.out.q.cell 1, by rw [hb4.cell (World.block_lt_of_cell? wr _ u0)]; exact u0, by rw [hb4.cell (World.block_lt_of_cell? wr _ u1)]; exact u1, by rw [hb4.cell (World.block_lt_of_cell? wr _ v0)]; exact v0, by rw [hb4.cell (World.block_lt_of_cell? wr _ v1)]; exact v1⟩ (fun hHeld => ?_)
        clear hK K
        cases X with
        | true =>
          refine tk 14 (v := ?_) rfl rfl ?_ ?_
          rotate_left
          · intro w hSw; (try dsimp only at hSw); go_simp; try with_reducible rfl
          try simp only [Act.put, za, zb, zc]
          refine wpAnyH_done (by kernel_rfl) (NoPanic.normal ?_) _
          have hls := HX.out.1 (by first | rfl | trivial)
          have HL' : Hid (∀ i, 0 < i → i < k + 1 → LessS (oL ops (i - 1)).2.1 (oL ops i).2.1) := fun i h1 h2 => by
            by_cases e : i = k
            · rw [e, HJ.out]; exact hls
            · exact HL.out i h1 (by omega)
          clear CL hb3 hb4 u0 u1 v0 v1 hS0 hq0 b5 hls HL HX HJ HS q1
          go_wp2_with fail
          refine ⟨?_, ?_⟩
          · first
            | exact ⟨k + 1, by omega, .inl (by omega), by go_num, HL', HS3⟩
            | ((repeat apply Exists.intro); refine ⟨?_, rfl⟩; exact ⟨k + 1, by omega, .inl (by omega), by go_num, HL', HS3⟩)
          · simp [intOf] <;> omega
        | false =>
          refine tk 14 (v := ?_) rfl rfl ?_ ?_
          rotate_left
          · intro w hSw; (try dsimp only at hSw); go_simp; try with_reducible rfl
          try simp only [Act.put, za, zb, zc]
          refine wpAnyH_done (by kernel_rfl) (NoPanic.normal ?_) _
          obtain rfl : E = false := by
            cases E with
            | false => rfl
            | true =>
              have h := (HE.out.1 rfl) k (by omega) (by rw [HN2.out]; exact hlt)
              rw [HJ.out] at h
              have := HX.out.2 h
              first | cases this | exact absurd this (by simp)
          clear CL hb3 hb4 u0 u1 v0 v1 hS0 hq0 b5 HL HX HJ HS q1
          go_wp2_with fail
          go_ret
          exact ⟨rfl, HS3.out.bel⟩
      · have b0 : ¬ ((k : Int) < (n2 : Int)) := by omega
        obtain rfl : E = true := HE.out.2 (fun j h1 h2 => HL.out j h1 (by rw [HN2.out] at h2; omega))
        go_wp2_with fail
        go_ret
        exact ⟨rfl, HS.out.bel⟩
  · obtain rfl : false = B := by have h := HB0.out; rw [decide_eq_false hR, Bool.false_and] at h; exact h
    have hR' : (R == 0) = false := by simp [hR]
    clear HB0
    go_wp2_with (with_reducible refine wpList_storeBlk rfl 92 _ _ rfl w1.heap.size #[.slice none 0 0, .slice none 0 0, .int .i64 0, .int .i64 0] #[.slice pa1 pn1 pc1, .slice pa2 pn2 pc2, .int .i64 pb1, .int .i64 pb2] ?hx ?hy X1 rfl ?hi ?h1 ?_)
    try (case hx => rfl)
    try (case hy => rfl)
    try (case hi => kernel_rfl)
    try (case h1 => simp [Value.oneCell'])
    go_ret
    exact ⟨rfl, HSb.out.bel⟩
end Go.Proofs.YtogbkfakihnbdaaGreatDoor
