import Derived.Test.YtogbkfakihnbdaaGreatDoorL1
import Derived.Test.YtogbkfakihnbdaaGreatDoorTrOg
/- The code's Of (layer 11). -/
namespace Go.Proofs.YtogbkfakihnbdaaGreatDoor
open Go.RowKit
set_option linter.unusedSimpArgs false

theorem far_new {w : World} {n c : Nat} {a : Option Addr} {fn : Nat → Array Value} {F : Nat → Prop} (hc0 : 0 < c) (h : RowsAt w a n c fn) (hF : ∀ k, F k → w.heap.size ≤ k) : Far F n a := fun hn x hx hk => by
  have h1 := hF _ hk
  obtain ⟨b, off, hab, hc⟩ := h.some hn
  rw [hx] at hab
  cases hab
  obtain ⟨v, _, hv⟩ := hc 0 hn 0 hc0
  have h2 := World.block_lt_of_cell? w _ hv
  simp only at h1 h2
  omega

set_option maxRecDepth 100000 in
set_option maxHeartbeats 2000000 in
theorem new_fx (w : World) : Calls Tryz.prog 54 #[] w fun e w' => ∃ g f m, e = .returned (.pointer (some ⟨g, 0, none⟩)) ∧ Blk w' 101 g (treeC g f m (.slice none 0 0) (0, 0) false) ∧ MapN w' f [] ∧ MapN w' m [] ∧ (f ≠ m ∧ f ≠ g ∧ m ≠ g) ∧ (∀ k, tfoot g f m none k → w.heap.size ≤ k) ∧ Below w.heap.size w w' := by
  have hmm := @run_makeMap Tryz.prog
  go_enter Tryz.func54, Tryz.ntmps54
  go_wp2_with fail
  refine (root_any w).mono ?_
  rintro e w1 ⟨rfl, hb1⟩
  go_wp2_with fail
  go_ret
  have hs := hb1.size
  have h1 := MapN.made w1
  have h2 := MapN.made (w1.alloc (.map #[] 0))
  rw [World.size_alloc] at h2
  refine ⟨w1.heap.size + 1 + 1, w1.heap.size, w1.heap.size + 1, rfl, Blk.new' _ _ _ _ (by simp), (h1.on (below_new _ _)).on (below_new _ _), h2.on (below_new _ _), by omega, ?_, ?_⟩
  · rintro k (rfl | rfl | rfl | h)
    · omega
    · omega
    · omega
    · cases h
  · exact ((hb1.alloc hs _).alloc (by simp; omega) _).alloc (by simp; omega) _

set_option maxRecDepth 100000 in
set_option maxHeartbeats 8000000 in
theorem of_any (M : OpT → Bool) (hM : ∀ o, M o = true ↔ MayO o) (l : List NodeT) (ops : List OpT) (b1 b2 : Int) (a1 a2 : Option Addr) (c1 c2 : Nat) (w : World) (Tn : TreeT) (R : Int) (D : Bool) (hl : ops.length ≤ 40000) (hll : l.length ≤ 60000)
    (HD : Hid (D = true ↔ (l.length ≤ 512 ∧ RiseN l ∧ (∀ k, k < l.length → FixH (b1, b2) (nL l k)) ∧ FixC l))) (HSZ : Hid (∀ k, k < l.length → (nL l k).2.2.1.size ≤ 1048576 ∧ (nL l k).2.2.2.size ≤ 9223372036854775807)) (HSO : Hid (∀ k, k < ops.length → (oL ops k).2.2.2.2.1.size ≤ 1048576 ∧ (oL ops k).2.2.2.2.2.size ≤ 9223372036854775807))
    (H1 : Hid (NodesAt w a1 l.length l)) (H2 : Hid (OpsAt w a2 ops.length ops)) (HGl : Hid (Glob8 w)) (HE0 : Hid ((Tn, R) = codeP M D (l, ops, (b1, b2)))) :
    Calls Tryz.prog 28 #[.agg #[.slice a1 l.length c1, .slice a2 ops.length c2, .int .i64 b1, .int .i64 b2]] w fun e w' => Below w.heap.size w w' ∧ ∃ v, e = .returned (.tuple #[v, .int .i64 R]) ∧ (R ≠ 0 → v = .pointer none) ∧ (R = 0 → ∃ g f m r, v = .pointer (some ⟨g, 0, none⟩) ∧ Tr w w' g f m r Tn) := by
  have HM : Hid (∀ o, M o = true ↔ MayO o) := hM
  clear hM
  obtain ⟨g0, hg⟩ : ∃ g0, w.heap.size = g0 := ⟨_, rfl⟩
  obtain ⟨w0, hw0⟩ : ∃ w0, w.alloc (.cells #[.slice a1 l.length c1, .slice a2 ops.length c2, .int .i64 b1, .int .i64 b2] 28) = w0 := ⟨_, rfl⟩
  have HB0 : Hid (Below w.heap.size w w0) := by show Below _ _ _; rw [← hw0]; exact below_new _ _
  have HK0 : Hid (Blk w0 28 g0 #[.slice a1 l.length c1, .slice a2 ops.length c2, .int .i64 b1, .int .i64 b2]) := by show Blk _ _ _ _; rw [← hw0, ← hg]; exact Blk.new _ _ _
  have HSS : Hid (∀ W, Below w0.heap.size w0 W → W.cell? ⟨g0, 2, none⟩ = some (.int .i64 b1) ∧ W.cell? ⟨g0, 3, none⟩ = some (.int .i64 b2)) := fun W hW => ⟨(HK0.out.on hW).cell 2, (HK0.out.on hW).cell 3⟩
  have hS0 := HSS.out w0 (Below.refl _ _)
  have C1 : Hid (∀ W, _) := fun W => root_any W
  have he := HE0.out
  unfold codeP at he
  simp only at he
  clear HE0
  by_cases hz : (b1, b2) = (0, 0)
  · have hEq := fun w => stampEq b1 b2 0 0 w
    rw [decide_eq_true hz] at hEq
    rw [if_neg (fun h => h.1 hz)] at he
    have HE : Hid ((Tn, R) = if D = false then (emptyT, 1) else ofF M ops (l, [], (b1, b2))) := he
    clear he hz
    go_enter Tryz.func28, Tryz.ntmps28
    go_wp2_with fail
    try rw [hw0]
    try rw [hg]
    refine wp_region_noPanic ?_
    refine wp_region_held_drew (S := fun W => W.cell? ⟨g0, 2, none⟩ = some (.int .i64 b1) ∧ W.cell? ⟨g0, 3, none⟩ = some (.int .i64 b2)) (by kernel_rfl) (by first | exact trivial | assumption | exact ⟨by assumption, by assumption⟩) (fun hHeld => ?_)
    refine tk 0 (v := ?_) rfl rfl ?_ ?_
    rotate_left
    · intro w hSw; (try dsimp only at hSw); go_simp; try with_reducible rfl
    try simp only [Act.put, za, zb, zc]
    refine tk 1 (v := ?_) rfl rfl ?_ ?_
    rotate_left
    · intro w hSw; (try dsimp only at hSw); go_simp; try with_reducible rfl
    try simp only [Act.put, za, zb, zc]
    refine wpAnyH_ready (rs := [2]) (by kernel_rfl) (by simp) ?_
    refine AllReadyH.cons rfl (fun K hK => ?_) AllReadyH.nil
    go_simp
    refine (C1.out _).mono ?_
    rintro e w1 ⟨rfl, hb1⟩
    have hB1 : Below w0.heap.size w0 w1 := below_step (Below.refl _ _).drew (Nat.le_refl _) hb1
    refine hK.out _ _ (HSS.out _ hB1) (fun hHeld => ?_)
    clear hK K
    refine tk 3 (v := ?_) rfl rfl ?_ ?_
    rotate_left
    · intro w hSw; (try dsimp only at hSw); go_simp; try with_reducible rfl
    try simp only [Act.put, za, zb, zc]
    refine tk 4 (v := ?_) rfl rfl ?_ ?_
    rotate_left
    · intro w hSw; (try dsimp only at hSw); go_simp; try with_reducible rfl
    try simp only [Act.put, za, zb, zc]
    refine tn 5 rfl rfl ?_
    try simp only [Act.put, za, zb, zc]
    refine tn 6 rfl rfl ?_
    try simp only [Act.put, za, zb, zc]
    refine tn 7 rfl rfl ?_
    try simp only [Act.put, za, zb, zc]
    refine tn 8 rfl rfl ?_
    try simp only [Act.put, za, zb, zc]
    refine tk 9 (v := ?_) rfl rfl ?_ ?_
    rotate_left
    · intro w hSw; (try dsimp only at hSw); go_simp; try with_reducible rfl
    try simp only [Act.put, za, zb, zc]
    refine wpAnyH_done (by kernel_rfl) (NoPanic.normal ?_) _
    have HB1 : Hid (Below w.heap.size w w1) := below_step HB0.out (Nat.le_refl _) hB1
    have HK1 : Hid (Blk w1 28 g0 #[.slice a1 l.length c1, .slice a2 ops.length c2, .int .i64 b1, .int .i64 b2]) := HK0.out.on hB1
    clear HB0 HK0 HSS hS0 C1 hEq hb1 hB1 hw0 hg
    go_wp2_with fail
    refine (new_fx _).mono ?_
    rintro e w2 ⟨g, f, m, rfl, hO, hf, hm, hne, hnew, hb2⟩
    have hBe2 : Below w.heap.size w w2 := below_step HB1.out (Nat.le_refl _) hb2
    have hK2 := HK1.out.on hb2
    have hnw : ∀ k, tfoot g f m none k → w.heap.size ≤ k := fun k hk => Nat.le_trans HB1.out.size (hnew k hk)
    have hg0 : ¬ tfoot g f m none g0 := fun h => by
      have h1 := hnew _ h
      have h2 := HK1.out.lt
      omega
    have hgg : w.heap.size ≤ g := hnw g (.inl rfl)
    have hgne : g0 ≠ g := fun e => hg0 (.inl e)
    have y0 : w2.cell? ⟨g, 1, none⟩ = some (.int .i64 0) := hO.cell 1
    have z0 : w2.frozen? ⟨g, 1, none⟩ = false := hO.free 1
    have G1 := grown_set w2 g 1 (.int .i64 b1)
    have hB7 := hO.setAt 1 (.int .i64 b1)
    have y1 : (w2.setCell ⟨g, 1, none⟩ (.int .i64 b1)).cell? ⟨g, 2, none⟩ = some (.int .i64 0) := hB7.cell 2
    have z1 : (w2.setCell ⟨g, 1, none⟩ (.int .i64 b1)).frozen? ⟨g, 2, none⟩ = false := hB7.free 2
    have G2 := grown_set (w2.setCell ⟨g, 1, none⟩ (.int .i64 b1)) g 2 (.int .i64 b2)
    have hB8 := hB7.setAt 2 (.int .i64 b2)
    have y2 : ((w2.setCell ⟨g, 1, none⟩ (.int .i64 b1)).setCell ⟨g, 2, none⟩ (.int .i64 b2)).cell? ⟨g, 6, none⟩ = some (.bool false) := hB8.cell 6
    have z2 : ((w2.setCell ⟨g, 1, none⟩ (.int .i64 b1)).setCell ⟨g, 2, none⟩ (.int .i64 b2)).frozen? ⟨g, 6, none⟩ = false := hB8.free 6
    have G3 := grown_set ((w2.setCell ⟨g, 1, none⟩ (.int .i64 b1)).setCell ⟨g, 2, none⟩ (.int .i64 b2)) g 6 (.bool true)
    obtain ⟨w3, hw3⟩ : ∃ w3, ((w2.setCell ⟨g, 1, none⟩ (.int .i64 b1)).setCell ⟨g, 2, none⟩ (.int .i64 b2)).setCell ⟨g, 6, none⟩ (.bool true) = w3 := ⟨_, rfl⟩
    have hO3 : Blk w3 101 g (treeC g f m (.slice none 0 0) (b1, b2) true) := by rw [← hw3]; exact hB8.setAt 6 (.bool true)
    rw [hw3] at G3
    have hgrow : ∀ (r : Nat) (ns : List NodeT), r ≠ g → MapN w2 r ns → MapN w3 r ns := fun r ns hr h => ((h.grown G1 (fun e => hr (by cases e; rfl))).grown G2 (fun e => hr (by cases e; rfl))).grown G3 (fun e => hr (by cases e; rfl))
    have hf3 := hgrow f [] hne.2.1 hf
    have hm3 := hgrow m [] hne.2.2 hm
    have hK3 : Blk w3 28 g0 #[.slice a1 l.length c1, .slice a2 ops.length c2, .int .i64 b1, .int .i64 b2] := ((hK2.grown G1 (fun e => hgne (by cases e; rfl))).grown G2 (fun e => hgne (by cases e; rfl))).grown G3 (fun e => hgne (by cases e; rfl))
    have hBe3 : Below w.heap.size w w3 := by rw [← hw3]; exact ((hBe2.setCell (p := ⟨g, 1, none⟩) hgg _).setCell (p := ⟨g, 2, none⟩) hgg _).setCell (p := ⟨g, 6, none⟩) hgg _
    have CF : Hid (Calls _ _ _ _ _) := fix_any g f m b1 b2 l a1 l.length c1 w3 (by omega) hO3 hf3 hm3 hne.1 (H1.out.below hBe3) (far_new (by decide) H1.out.2 hnw) HSZ.out (fun W hW => HGl.out.below (hBe3.trans (hW.below w.heap.size hBe3.size hnw))) D HD.out
    have d2 : w2.cell? ⟨g0, 2, none⟩ = some (.int .i64 b1) := hK2.cell 2
    have d3 : w2.cell? ⟨g0, 3, none⟩ = some (.int .i64 b2) := hK2.cell 3
    have d0 : w3.cell? ⟨g0, 0, none⟩ = some (.slice a1 l.length c1) := hK3.cell 0
    have HK3 : Hid (Blk w3 28 g0 #[.slice a1 l.length c1, .slice a2 ops.length c2, .int .i64 b1, .int .i64 b2]) := hK3
    have HBe3 : Hid (Below w.heap.size w w3) := hBe3
    have Hnw : Hid (∀ k, tfoot g f m none k → w.heap.size ≤ k) := hnw
    have Hg0 : Hid (¬ tfoot g f m none g0) := hg0
    clear hO hf hm hne hnew hb2 hBe2 hK2 hnw hg0 hgg hgne G1 G2 G3 hB7 hB8 hO3 hgrow hf3 hm3 hK3 hBe3 HB1 HK1
    go_wp2_with fail
    try rw [hw3]
    clear d0 d2 d3 y0 y1 y2 z0 z1 z2 hw3
    refine CF.out.mono ?_
    rintro e w4 ⟨rfl, hk4, hS4⟩
    have HBe4 : Hid (Below w.heap.size w w4) := HBe3.out.trans (hk4.below w.heap.size HBe3.out.size Hnw.out)
    have hK4 : Blk w4 28 g0 #[.slice a1 l.length c1, .slice a2 ops.length c2, .int .i64 b1, .int .i64 b2] := by unfold Blk; rw [hk4.block _ HK3.out.lt Hg0.out]; exact HK3.out
    have s1 : w4.cell? ⟨g0, 1, none⟩ = some (.slice a2 ops.length c2) := hK4.cell 1
    cases D with
    | false =>
      have he := HE.out
      rw [if_pos (by first | rfl | trivial)] at he
      obtain ⟨rfl, rfl⟩ : Tn = emptyT ∧ R = 1 := ⟨congrArg Prod.fst he, congrArg Prod.snd he⟩
      clear he HE CF hk4 hS4 hK4 s1
      go_wp2_with fail
      go_ret2
      exact ⟨HBe4.out, _, rfl, fun _ => rfl, fun h => absurd h (by decide)⟩
    | true =>
      have hS := hS4 rfl
      have hD := HD.out.1 rfl
      have hR : Rooted l := fix_rooted (rise_sort hD.2.1) (fun x hx => by
        obtain ⟨i, hi, rfl⟩ := List.getElem_of_mem hx
        rw [← nL_at l i hi]; exact (hD.2.2.1 i hi).1) hD.2.2.2
      have HT4 : Hid (Tr w w4 g f m none (l, [], (b1, b2))) := ⟨hS.tree hR, HBe4.out, Hnw.out⟩
      have HL5 : Hid (l.length ≤ 512) := hD.1
      have HEo : Hid ((Tn, R) = ofF M ops (l, [], (b1, b2))) := by
        have he := HE.out
        rw [if_neg (by decide)] at he
        exact he
      obtain ⟨n, hn⟩ : ∃ n, ops.length = n := ⟨_, rfl⟩
      have HN : Hid (ops.length = n) := hn
      rw [hn] at s1 hl H2 HSO
      clear HE CF hk4 hS4 hK4 hS hD hR hn HK3 HBe3 Hg0 HD H1 HSZ
      go_wp2_with fail
      go_loopw [35] (fun i wr => ∃ k : Nat, k ≤ n ∧ i = .int .i64 k ∧ Hid (∃ r T, Tr w wr g f m r T ∧ T.1 = l ∧ T.2.1.length ≤ k ∧ (Tn, R) = ofF M (ops.drop k) T)) (fun i _ => n - (intOf i).toNat)
      case atStart => exact ⟨0, by omega, rfl, none, (l, [], (b1, b2)), HT4.out, rfl, Nat.le_refl _, HEo.out⟩
      case round =>
        clear HT4 HEo s1
        obtain ⟨k, hk, rfl, HX⟩ := hrel
        obtain ⟨r, T, hT, hT1, hT2, hTe⟩ := HX.out
        clear HX
        by_cases hlt : k < n
        · have b0 : (k : Int) < (n : Int) := by omega
          obtain ⟨b, off, rfl, _⟩ := H2.out.2.some (by omega)
          obtain ⟨x0, x1, x2, x3, x4, x5, x6, x7, x8⟩ := (H2.out.below hT.bel).cells k hlt
          rw [ofF_joinK M ops k (by rw [HN.out]; exact hlt)] at hTe
          have hJl := joinP_len M T (oL ops k)
          have CJ' : ∀ W, TreeIn W g f m r T → Glob8 W → _ := fun W hW hG => join_any M HM.out g f m r T (oL ops k) W hW hG (by have := HL5.out; rw [hT1]; omega) (HSO.out k hlt).1 (HSO.out k hlt).2
          obtain ⟨⟨T', e'⟩, hJ⟩ : ∃ J, joinP M T (oL ops k) = J := ⟨_, rfl⟩
          rw [hJ] at hTe hJl
          simp only [hJ] at CJ'
          simp only at hTe hJl
          obtain ⟨⟨k0, ⟨k1, k2⟩, ⟨k3, k4⟩, ⟨k5, k6⟩, s7, s8⟩, hnd⟩ : ∃ nd, nd = oL ops k := ⟨_, rfl⟩
          rw [← hnd] at x0 x1 x2 x3 x4 x5 x6 x7 x8
          simp only [← hnd, opA, stampV] at CJ'
          have CJ : Hid (∀ W, TreeIn W g f m r T → Glob8 W → _) := CJ'
          have HT : Hid (Tr w wr g f m r T) := hT
          have HTe : Hid ((Tn, R) = if e' ≠ 0 then (emptyT, e') else ofF M (ops.drop (k + 1)) T') := hTe
          have HJl : Hid (T'.1 = l ∧ T'.2.1.length ≤ k + 1) := ⟨hJl.1.trans hT1, by omega⟩
          clear hT hTe hJl hJ hnd CJ' hT1 hT2
          go_wp2_with fail
          obtain ⟨W1, hW1⟩ : ∃ W1, wr.alloc (.cells #[.int .i64 k0, .int .i64 k1, .int .i64 k2, .int .i64 k3, .int .i64 k4, .int .i64 k5, .int .i64 k6, .string s7, .string s8] 37) = W1 := ⟨_, rfl⟩
          have hT1 : Tr w W1 g f m r T := by rw [← hW1]; exact HT.out.on (below_new _ _)
          rw [hW1]
          clear hW1 x0 x1 x2 x3 x4 x5 x6 x7 x8
          refine (CJ.out W1 hT1.tree (HGl.out.below hT1.bel)).mono ?_
          rintro e w5 ⟨rfl, r', hT5, hK5, hN5⟩
          have HT5 : Hid (Tr w w5 g f m r' T') := hT1.next hT5 hK5 hN5
          clear CJ HT hT1 hT5 hK5 hN5
          by_cases he : e' = 0
          · subst he
            have HX' : Hid (∃ r T, Tr w w5 g f m r T ∧ T.1 = l ∧ T.2.1.length ≤ k + 1 ∧ (Tn, R) = ofF M (ops.drop (k + 1)) T) := ⟨r', T', HT5.out, HJl.out.1, HJl.out.2, by have h := HTe.out; rw [if_neg (by simp)] at h; exact h⟩
            clear HT5 HJl HTe
            go_wp2_with fail
            refine ⟨?_, ?_⟩
            · first
              | exact ⟨k + 1, by omega, by go_num, HX'⟩
              | ((repeat apply Exists.intro); refine ⟨?_, rfl⟩; exact ⟨k + 1, by omega, by go_num, HX'⟩)
            · simp [intOf] <;> omega
          · have h := HTe.out
            rw [if_pos he] at h
            obtain ⟨rfl, rfl⟩ : Tn = emptyT ∧ R = e' := ⟨congrArg Prod.fst h, congrArg Prod.snd h⟩
            clear h HTe HJl
            go_wp2_with fail
            go_ret2
            exact ⟨HT5.out.bel, _, rfl, fun _ => rfl, fun h => absurd h he⟩
        · obtain rfl : k = n := by omega
          have b0 : ¬ ((k : Int) < (k : Int)) := by omega
          rw [List.drop_of_length_le (by rw [HN.out]; omega)] at hTe
          obtain ⟨rfl, rfl⟩ : Tn = T ∧ R = 0 := ⟨congrArg Prod.fst hTe, congrArg Prod.snd hTe⟩
          have HT : Hid (Tr w wr g f m r Tn) := hT
          clear hT hTe hT1 hT2
          go_wp2_with fail
          go_ret2
          first | exact ⟨HT.out.bel, _, rfl, g, rfl, f, m, r, HT.out⟩ | exact ⟨HT.out.bel, _, rfl, g, f, m, r, rfl, HT.out⟩ | exact ⟨HT.out.bel, _, rfl, fun h => absurd rfl h, fun _ => ⟨g, f, m, r, rfl, HT.out⟩⟩
  · have hEq := fun w => stampEq b1 b2 0 0 w
    rw [decide_eq_false hz] at hEq
    have C2' := fun W => isStamp_any (b1, b2) W
    simp only [stampV] at C2'
    by_cases hmy : MayS (b1, b2)
    · rw [decide_eq_true hmy] at C2'
      have C2 : Hid (∀ W, _) := C2'
      rw [if_neg (fun h => h.2 hmy)] at he
      have HE : Hid ((Tn, R) = if D = false then (emptyT, 1) else ofF M ops (l, [], (b1, b2))) := he
      clear he hz hmy C2'
      go_enter Tryz.func28, Tryz.ntmps28
      go_wp2_with fail
      try rw [hw0]
      try rw [hg]
      refine wp_region_noPanic ?_
      refine wp_region_held_drew (S := fun W => W.cell? ⟨g0, 2, none⟩ = some (.int .i64 b1) ∧ W.cell? ⟨g0, 3, none⟩ = some (.int .i64 b2)) (by kernel_rfl) (by first | exact trivial | assumption | exact ⟨by assumption, by assumption⟩) (fun hHeld => ?_)
      refine tk 0 (v := ?_) rfl rfl ?_ ?_
      rotate_left
      · intro w hSw; (try dsimp only at hSw); go_simp; try with_reducible rfl
      try simp only [Act.put, za, zb, zc]
      refine tk 1 (v := ?_) rfl rfl ?_ ?_
      rotate_left
      · intro w hSw; (try dsimp only at hSw); go_simp; try with_reducible rfl
      try simp only [Act.put, za, zb, zc]
      refine wpAnyH_ready (rs := [2]) (by kernel_rfl) (by simp) ?_
      refine AllReadyH.cons rfl (fun K hK => ?_) AllReadyH.nil
      go_simp
      refine (C1.out _).mono ?_
      rintro e w1 ⟨rfl, hb1⟩
      have hB1 : Below w0.heap.size w0 w1 := below_step (Below.refl _ _).drew (Nat.le_refl _) hb1
      refine hK.out _ _ (HSS.out _ hB1) (fun hHeld => ?_)
      clear hK K
      refine tk 3 (v := ?_) rfl rfl ?_ ?_
      rotate_left
      · intro w hSw; (try dsimp only at hSw); go_simp; try with_reducible rfl
      try simp only [Act.put, za, zb, zc]
      refine tk 4 (v := ?_) rfl rfl ?_ ?_
      rotate_left
      · intro w hSw; (try dsimp only at hSw); go_simp; try with_reducible rfl
      try simp only [Act.put, za, zb, zc]
      refine tk 5 (v := ?_) rfl rfl ?_ ?_
      rotate_left
      · intro w hSw; (try dsimp only at hSw); go_simp; try with_reducible rfl
      try simp only [Act.put, za, zb, zc]
      refine tk 6 (v := ?_) rfl rfl ?_ ?_
      rotate_left
      · intro w hSw; (try dsimp only at hSw); go_simp; try with_reducible rfl
      try simp only [Act.put, za, zb, zc]
      refine wpAnyH_ready (rs := [7]) (by kernel_rfl) (by simp) ?_
      refine AllReadyH.cons rfl (fun K hK => ?_) AllReadyH.nil
      go_simp
      refine (C2.out _).mono ?_
      rintro e w2 ⟨rfl, hb2⟩
      have hB2 : Below w0.heap.size w0 w2 := below_step hB1 (Nat.le_refl _) hb2
      refine hK.out _ _ (HSS.out _ hB2) (fun hHeld => ?_)
      clear hK K
      refine tk 8 (v := ?_) rfl rfl ?_ ?_
      rotate_left
      · intro w hSw; (try dsimp only at hSw); go_simp; try with_reducible rfl
      try simp only [Act.put, za, zb, zc]
      refine tk 9 (v := ?_) rfl rfl ?_ ?_
      rotate_left
      · intro w hSw; (try dsimp only at hSw); go_simp; try with_reducible rfl
      try simp only [Act.put, za, zb, zc]
      refine wpAnyH_done (by kernel_rfl) (NoPanic.normal ?_) _
      have HB1 : Hid (Below w.heap.size w w2) := below_step HB0.out (Nat.le_refl _) hB2
      have HK1 : Hid (Blk w2 28 g0 #[.slice a1 l.length c1, .slice a2 ops.length c2, .int .i64 b1, .int .i64 b2]) := HK0.out.on hB2
      clear HB0 HK0 HSS hS0 C1 C2 hEq hb1 hB1 hb2 hB2 hw0 hg
      go_wp2_with fail
      refine (new_fx _).mono ?_
      rintro e w2 ⟨g, f, m, rfl, hO, hf, hm, hne, hnew, hb2⟩
      have hBe2 : Below w.heap.size w w2 := below_step HB1.out (Nat.le_refl _) hb2
      have hK2 := HK1.out.on hb2
      have hnw : ∀ k, tfoot g f m none k → w.heap.size ≤ k := fun k hk => Nat.le_trans HB1.out.size (hnew k hk)
      have hg0 : ¬ tfoot g f m none g0 := fun h => by
        have h1 := hnew _ h
        have h2 := HK1.out.lt
        omega
      have hgg : w.heap.size ≤ g := hnw g (.inl rfl)
      have hgne : g0 ≠ g := fun e => hg0 (.inl e)
      have y0 : w2.cell? ⟨g, 1, none⟩ = some (.int .i64 0) := hO.cell 1
      have z0 : w2.frozen? ⟨g, 1, none⟩ = false := hO.free 1
      have G1 := grown_set w2 g 1 (.int .i64 b1)
      have hB7 := hO.setAt 1 (.int .i64 b1)
      have y1 : (w2.setCell ⟨g, 1, none⟩ (.int .i64 b1)).cell? ⟨g, 2, none⟩ = some (.int .i64 0) := hB7.cell 2
      have z1 : (w2.setCell ⟨g, 1, none⟩ (.int .i64 b1)).frozen? ⟨g, 2, none⟩ = false := hB7.free 2
      have G2 := grown_set (w2.setCell ⟨g, 1, none⟩ (.int .i64 b1)) g 2 (.int .i64 b2)
      have hB8 := hB7.setAt 2 (.int .i64 b2)
      have y2 : ((w2.setCell ⟨g, 1, none⟩ (.int .i64 b1)).setCell ⟨g, 2, none⟩ (.int .i64 b2)).cell? ⟨g, 6, none⟩ = some (.bool false) := hB8.cell 6
      have z2 : ((w2.setCell ⟨g, 1, none⟩ (.int .i64 b1)).setCell ⟨g, 2, none⟩ (.int .i64 b2)).frozen? ⟨g, 6, none⟩ = false := hB8.free 6
      have G3 := grown_set ((w2.setCell ⟨g, 1, none⟩ (.int .i64 b1)).setCell ⟨g, 2, none⟩ (.int .i64 b2)) g 6 (.bool true)
      obtain ⟨w3, hw3⟩ : ∃ w3, ((w2.setCell ⟨g, 1, none⟩ (.int .i64 b1)).setCell ⟨g, 2, none⟩ (.int .i64 b2)).setCell ⟨g, 6, none⟩ (.bool true) = w3 := ⟨_, rfl⟩
      have hO3 : Blk w3 101 g (treeC g f m (.slice none 0 0) (b1, b2) true) := by rw [← hw3]; exact hB8.setAt 6 (.bool true)
      rw [hw3] at G3
      have hgrow : ∀ (r : Nat) (ns : List NodeT), r ≠ g → MapN w2 r ns → MapN w3 r ns := fun r ns hr h => ((h.grown G1 (fun e => hr (by cases e; rfl))).grown G2 (fun e => hr (by cases e; rfl))).grown G3 (fun e => hr (by cases e; rfl))
      have hf3 := hgrow f [] hne.2.1 hf
      have hm3 := hgrow m [] hne.2.2 hm
      have hK3 : Blk w3 28 g0 #[.slice a1 l.length c1, .slice a2 ops.length c2, .int .i64 b1, .int .i64 b2] := ((hK2.grown G1 (fun e => hgne (by cases e; rfl))).grown G2 (fun e => hgne (by cases e; rfl))).grown G3 (fun e => hgne (by cases e; rfl))
      have hBe3 : Below w.heap.size w w3 := by rw [← hw3]; exact ((hBe2.setCell (p := ⟨g, 1, none⟩) hgg _).setCell (p := ⟨g, 2, none⟩) hgg _).setCell (p := ⟨g, 6, none⟩) hgg _
      have CF : Hid (Calls _ _ _ _ _) := fix_any g f m b1 b2 l a1 l.length c1 w3 (by omega) hO3 hf3 hm3 hne.1 (H1.out.below hBe3) (far_new (by decide) H1.out.2 hnw) HSZ.out (fun W hW => HGl.out.below (hBe3.trans (hW.below w.heap.size hBe3.size hnw))) D HD.out
      have d2 : w2.cell? ⟨g0, 2, none⟩ = some (.int .i64 b1) := hK2.cell 2
      have d3 : w2.cell? ⟨g0, 3, none⟩ = some (.int .i64 b2) := hK2.cell 3
      have d0 : w3.cell? ⟨g0, 0, none⟩ = some (.slice a1 l.length c1) := hK3.cell 0
      have HK3 : Hid (Blk w3 28 g0 #[.slice a1 l.length c1, .slice a2 ops.length c2, .int .i64 b1, .int .i64 b2]) := hK3
      have HBe3 : Hid (Below w.heap.size w w3) := hBe3
      have Hnw : Hid (∀ k, tfoot g f m none k → w.heap.size ≤ k) := hnw
      have Hg0 : Hid (¬ tfoot g f m none g0) := hg0
      clear hO hf hm hne hnew hb2 hBe2 hK2 hnw hg0 hgg hgne G1 G2 G3 hB7 hB8 hO3 hgrow hf3 hm3 hK3 hBe3 HB1 HK1
      go_wp2_with fail
      try rw [hw3]
      clear d0 d2 d3 y0 y1 y2 z0 z1 z2 hw3
      refine CF.out.mono ?_
      rintro e w4 ⟨rfl, hk4, hS4⟩
      have HBe4 : Hid (Below w.heap.size w w4) := HBe3.out.trans (hk4.below w.heap.size HBe3.out.size Hnw.out)
      have hK4 : Blk w4 28 g0 #[.slice a1 l.length c1, .slice a2 ops.length c2, .int .i64 b1, .int .i64 b2] := by unfold Blk; rw [hk4.block _ HK3.out.lt Hg0.out]; exact HK3.out
      have s1 : w4.cell? ⟨g0, 1, none⟩ = some (.slice a2 ops.length c2) := hK4.cell 1
      cases D with
      | false =>
        have he := HE.out
        rw [if_pos (by first | rfl | trivial)] at he
        obtain ⟨rfl, rfl⟩ : Tn = emptyT ∧ R = 1 := ⟨congrArg Prod.fst he, congrArg Prod.snd he⟩
        clear he HE CF hk4 hS4 hK4 s1
        go_wp2_with fail
        go_ret2
        exact ⟨HBe4.out, _, rfl, fun _ => rfl, fun h => absurd h (by decide)⟩
      | true =>
        have hS := hS4 rfl
        have hD := HD.out.1 rfl
        have hR : Rooted l := fix_rooted (rise_sort hD.2.1) (fun x hx => by
          obtain ⟨i, hi, rfl⟩ := List.getElem_of_mem hx
          rw [← nL_at l i hi]; exact (hD.2.2.1 i hi).1) hD.2.2.2
        have HT4 : Hid (Tr w w4 g f m none (l, [], (b1, b2))) := ⟨hS.tree hR, HBe4.out, Hnw.out⟩
        have HL5 : Hid (l.length ≤ 512) := hD.1
        have HEo : Hid ((Tn, R) = ofF M ops (l, [], (b1, b2))) := by
          have he := HE.out
          rw [if_neg (by decide)] at he
          exact he
        obtain ⟨n, hn⟩ : ∃ n, ops.length = n := ⟨_, rfl⟩
        have HN : Hid (ops.length = n) := hn
        rw [hn] at s1 hl H2 HSO
        clear HE CF hk4 hS4 hK4 hS hD hR hn HK3 HBe3 Hg0 HD H1 HSZ
        go_wp2_with fail
        go_loopw [35] (fun i wr => ∃ k : Nat, k ≤ n ∧ i = .int .i64 k ∧ Hid (∃ r T, Tr w wr g f m r T ∧ T.1 = l ∧ T.2.1.length ≤ k ∧ (Tn, R) = ofF M (ops.drop k) T)) (fun i _ => n - (intOf i).toNat)
        case atStart => exact ⟨0, by omega, rfl, none, (l, [], (b1, b2)), HT4.out, rfl, Nat.le_refl _, HEo.out⟩
        case round =>
          clear HT4 HEo s1
          obtain ⟨k, hk, rfl, HX⟩ := hrel
          obtain ⟨r, T, hT, hT1, hT2, hTe⟩ := HX.out
          clear HX
          by_cases hlt : k < n
          · have b0 : (k : Int) < (n : Int) := by omega
            obtain ⟨b, off, rfl, _⟩ := H2.out.2.some (by omega)
            obtain ⟨x0, x1, x2, x3, x4, x5, x6, x7, x8⟩ := (H2.out.below hT.bel).cells k hlt
            rw [ofF_joinK M ops k (by rw [HN.out]; exact hlt)] at hTe
            have hJl := joinP_len M T (oL ops k)
            have CJ' : ∀ W, TreeIn W g f m r T → Glob8 W → _ := fun W hW hG => join_any M HM.out g f m r T (oL ops k) W hW hG (by have := HL5.out; rw [hT1]; omega) (HSO.out k hlt).1 (HSO.out k hlt).2
            obtain ⟨⟨T', e'⟩, hJ⟩ : ∃ J, joinP M T (oL ops k) = J := ⟨_, rfl⟩
            rw [hJ] at hTe hJl
            simp only [hJ] at CJ'
            simp only at hTe hJl
            obtain ⟨⟨k0, ⟨k1, k2⟩, ⟨k3, k4⟩, ⟨k5, k6⟩, s7, s8⟩, hnd⟩ : ∃ nd, nd = oL ops k := ⟨_, rfl⟩
            rw [← hnd] at x0 x1 x2 x3 x4 x5 x6 x7 x8
            simp only [← hnd, opA, stampV] at CJ'
            have CJ : Hid (∀ W, TreeIn W g f m r T → Glob8 W → _) := CJ'
            have HT : Hid (Tr w wr g f m r T) := hT
            have HTe : Hid ((Tn, R) = if e' ≠ 0 then (emptyT, e') else ofF M (ops.drop (k + 1)) T') := hTe
            have HJl : Hid (T'.1 = l ∧ T'.2.1.length ≤ k + 1) := ⟨hJl.1.trans hT1, by omega⟩
            clear hT hTe hJl hJ hnd CJ' hT1 hT2
            go_wp2_with fail
            obtain ⟨W1, hW1⟩ : ∃ W1, wr.alloc (.cells #[.int .i64 k0, .int .i64 k1, .int .i64 k2, .int .i64 k3, .int .i64 k4, .int .i64 k5, .int .i64 k6, .string s7, .string s8] 37) = W1 := ⟨_, rfl⟩
            have hT1 : Tr w W1 g f m r T := by rw [← hW1]; exact HT.out.on (below_new _ _)
            rw [hW1]
            clear hW1 x0 x1 x2 x3 x4 x5 x6 x7 x8
            refine (CJ.out W1 hT1.tree (HGl.out.below hT1.bel)).mono ?_
            rintro e w5 ⟨rfl, r', hT5, hK5, hN5⟩
            have HT5 : Hid (Tr w w5 g f m r' T') := hT1.next hT5 hK5 hN5
            clear CJ HT hT1 hT5 hK5 hN5
            by_cases he : e' = 0
            · subst he
              have HX' : Hid (∃ r T, Tr w w5 g f m r T ∧ T.1 = l ∧ T.2.1.length ≤ k + 1 ∧ (Tn, R) = ofF M (ops.drop (k + 1)) T) := ⟨r', T', HT5.out, HJl.out.1, HJl.out.2, by have h := HTe.out; rw [if_neg (by simp)] at h; exact h⟩
              clear HT5 HJl HTe
              go_wp2_with fail
              refine ⟨?_, ?_⟩
              · first
                | exact ⟨k + 1, by omega, by go_num, HX'⟩
                | ((repeat apply Exists.intro); refine ⟨?_, rfl⟩; exact ⟨k + 1, by omega, by go_num, HX'⟩)
              · simp [intOf] <;> omega
            · have h := HTe.out
              rw [if_pos he] at h
              obtain ⟨rfl, rfl⟩ : Tn = emptyT ∧ R = e' := ⟨congrArg Prod.fst h, congrArg Prod.snd h⟩
              clear h HTe HJl
              go_wp2_with fail
              go_ret2
              exact ⟨HT5.out.bel, _, rfl, fun _ => rfl, fun h => absurd h he⟩
          · obtain rfl : k = n := by omega
            have b0 : ¬ ((k : Int) < (k : Int)) := by omega
            rw [List.drop_of_length_le (by rw [HN.out]; omega)] at hTe
            obtain ⟨rfl, rfl⟩ : Tn = T ∧ R = 0 := ⟨congrArg Prod.fst hTe, congrArg Prod.snd hTe⟩
            have HT : Hid (Tr w wr g f m r Tn) := hT
            clear hT hTe hT1 hT2
            go_wp2_with fail
            go_ret2
            first | exact ⟨HT.out.bel, _, rfl, g, rfl, f, m, r, HT.out⟩ | exact ⟨HT.out.bel, _, rfl, g, f, m, r, rfl, HT.out⟩ | exact ⟨HT.out.bel, _, rfl, fun h => absurd rfl h, fun _ => ⟨g, f, m, r, rfl, HT.out⟩⟩
    · rw [decide_eq_false hmy] at C2'
      have C2 : Hid (∀ W, _) := C2'
      rw [if_pos ⟨hz, hmy⟩] at he
      obtain ⟨rfl, rfl⟩ : Tn = emptyT ∧ R = 1 := ⟨congrArg Prod.fst he, congrArg Prod.snd he⟩
      clear he hz hmy C2'
      go_enter Tryz.func28, Tryz.ntmps28
      go_wp2_with fail
      try rw [hw0]
      try rw [hg]
      refine wp_region_noPanic ?_
      refine wp_region_held_drew (S := fun W => W.cell? ⟨g0, 2, none⟩ = some (.int .i64 b1) ∧ W.cell? ⟨g0, 3, none⟩ = some (.int .i64 b2)) (by kernel_rfl) (by first | exact trivial | assumption | exact ⟨by assumption, by assumption⟩) (fun hHeld => ?_)
      refine tk 0 (v := ?_) rfl rfl ?_ ?_
      rotate_left
      · intro w hSw; (try dsimp only at hSw); go_simp; try with_reducible rfl
      try simp only [Act.put, za, zb, zc]
      refine tk 1 (v := ?_) rfl rfl ?_ ?_
      rotate_left
      · intro w hSw; (try dsimp only at hSw); go_simp; try with_reducible rfl
      try simp only [Act.put, za, zb, zc]
      refine wpAnyH_ready (rs := [2]) (by kernel_rfl) (by simp) ?_
      refine AllReadyH.cons rfl (fun K hK => ?_) AllReadyH.nil
      go_simp
      refine (C1.out _).mono ?_
      rintro e w1 ⟨rfl, hb1⟩
      have hB1 : Below w0.heap.size w0 w1 := below_step (Below.refl _ _).drew (Nat.le_refl _) hb1
      refine hK.out _ _ (HSS.out _ hB1) (fun hHeld => ?_)
      clear hK K
      refine tk 3 (v := ?_) rfl rfl ?_ ?_
      rotate_left
      · intro w hSw; (try dsimp only at hSw); go_simp; try with_reducible rfl
      try simp only [Act.put, za, zb, zc]
      refine tk 4 (v := ?_) rfl rfl ?_ ?_
      rotate_left
      · intro w hSw; (try dsimp only at hSw); go_simp; try with_reducible rfl
      try simp only [Act.put, za, zb, zc]
      refine tk 5 (v := ?_) rfl rfl ?_ ?_
      rotate_left
      · intro w hSw; (try dsimp only at hSw); go_simp; try with_reducible rfl
      try simp only [Act.put, za, zb, zc]
      refine tk 6 (v := ?_) rfl rfl ?_ ?_
      rotate_left
      · intro w hSw; (try dsimp only at hSw); go_simp; try with_reducible rfl
      try simp only [Act.put, za, zb, zc]
      refine wpAnyH_ready (rs := [7]) (by kernel_rfl) (by simp) ?_
      refine AllReadyH.cons rfl (fun K hK => ?_) AllReadyH.nil
      go_simp
      refine (C2.out _).mono ?_
      rintro e w2 ⟨rfl, hb2⟩
      have hB2 : Below w0.heap.size w0 w2 := below_step hB1 (Nat.le_refl _) hb2
      refine hK.out _ _ (HSS.out _ hB2) (fun hHeld => ?_)
      clear hK K
      refine tk 8 (v := ?_) rfl rfl ?_ ?_
      rotate_left
      · intro w hSw; (try dsimp only at hSw); go_simp; try with_reducible rfl
      try simp only [Act.put, za, zb, zc]
      refine tk 9 (v := ?_) rfl rfl ?_ ?_
      rotate_left
      · intro w hSw; (try dsimp only at hSw); go_simp; try with_reducible rfl
      try simp only [Act.put, za, zb, zc]
      refine wpAnyH_done (by kernel_rfl) (NoPanic.normal ?_) _
      have HB1 : Hid (Below w.heap.size w w2) := below_step HB0.out (Nat.le_refl _) hB2
      clear HB0 HK0 HSS hS0 C1 C2 hEq hb1 hB1 hb2 hB2 hw0 hg
      go_wp2_with fail
      go_ret2
      exact ⟨HB1.out, _, rfl, fun _ => rfl, fun h => absurd h (by decide)⟩
end Go.Proofs.YtogbkfakihnbdaaGreatDoor
