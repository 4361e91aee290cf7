import Derived.Test.YtogbkfakihnbdaaGreatDoorL1
import Derived.Test.YtogbkfakihnbdaaGreatDoorRTrT
import Derived.Test.YtogbkfakihnbdaaGreatDoorTmPl
/- The document's Of (layer 11). -/
namespace Go.Proofs.YtogbkfakihnbdaaGreatDoor
open Go.RowKit
set_option linter.unusedSimpArgs false

theorem emptyT_g (F : Nat → Prop) (w : World) : TreeG F w (.agg #[.slice none 0 0, .slice none 0 0, .int .i64 0, .int .i64 0]) emptyT := ⟨none, 0, none, 0, rfl, ⟨rfl, .inl rfl⟩, ⟨rfl, .inl rfl⟩, .inl ⟨rfl, rfl, rfl⟩, fun h => absurd h (Nat.lt_irrefl 0), fun h => absurd h (Nat.lt_irrefl 0)⟩

/-- A tree of the document's in a world that has grown from so many blocks. -/
def TreeX (F : Nat → Prop) (B : Nat) (w : World) (v : Value) (t : TreeT) : Prop := TreeG F w v t ∧ B ≤ w.heap.size

theorem all_not (G : Nat → Bool) (n k : Nat) (hk : k < n) (h : G k = false) : (List.range n).all G = false := by
  cases e : (List.range n).all G with
  | false => rfl
  | true =>
    rw [List.all_eq_true] at e
    have := e k (List.mem_range.2 hk)
    rw [h] at this; cases this

theorem all_yes (G : Nat → Bool) (n : Nat) (h : ∀ k, k < n → G k = true) : (List.range n).all G = true := by
  rw [List.all_eq_true]
  exact fun k hk => h k (List.mem_range.1 hk)

/-- Nodes, and operations, stand as they were behind a store into a block of four cells. -/
theorem NodesAt.set4 {w : World} {a : Option Addr} {n : Nat} {l : List NodeT} {t : TypeId} {g : Nat} {cs : Array Value} (h : NodesAt w a n l) (hb : Blk w t g cs) (hc : cs.size = 4) (j : Nat) (u : Value) : NodesAt (w.setCell ⟨g, j, none⟩ u) a n l := by
  obtain ⟨hl, hr⟩ := h
  refine ⟨hl, ?_⟩
  rcases hr with h0 | ⟨b, off, ha, hcl⟩
  · exact .inl h0
  · refine .inr ⟨b, off, ha, fun i hi k hk => ?_⟩
    obtain ⟨x, h1, h2⟩ := hcl i hi k hk
    refine ⟨x, h1, ?_⟩
    by_cases e2 : b = g
    · subst e2
      obtain ⟨x5, h3, h4⟩ := hcl i hi 5 (by decide)
      rw [hb.cell, Array.getElem?_eq_none (by omega)] at h4
      cases h4
    · rw [World.cell?_of_block (w := w) (Below.heap_setCell w ⟨g, j, none⟩ u b e2)]; exact h2

theorem OpsAt.set4 {w : World} {a : Option Addr} {n : Nat} {l : List OpT} {t : TypeId} {g : Nat} {cs : Array Value} (h : OpsAt w a n l) (hb : Blk w t g cs) (hc : cs.size = 4) (j : Nat) (u : Value) : OpsAt (w.setCell ⟨g, j, none⟩ u) a n l := by
  obtain ⟨hl, hr⟩ := h
  refine ⟨hl, ?_⟩
  rcases hr with h0 | ⟨b, off, ha, hcl⟩
  · exact .inl h0
  · refine .inr ⟨b, off, ha, fun i hi k hk => ?_⟩
    obtain ⟨x, h1, h2⟩ := hcl i hi k hk
    refine ⟨x, h1, ?_⟩
    by_cases e2 : b = g
    · subst e2
      obtain ⟨x5, h3, h4⟩ := hcl i hi 8 (by decide)
      rw [hb.cell, Array.getElem?_eq_none (by omega)] at h4
      cases h4
    · rw [World.cell?_of_block (w := w) (Below.heap_setCell w ⟨g, j, none⟩ u b e2)]; exact h2

theorem NodesAt.row4 {w : World} {a : Option Addr} {n : Nat} {l : List NodeT} {t : TypeId} {g : Nat} {cs : Array Value} (h : NodesAt w a n l) (hb : Blk w t g cs) (hc : cs.size = 4) (cs' : Array Value) : NodesAt (w.setRow g cs') a n l := by
  obtain ⟨hl, hr⟩ := h
  refine ⟨hl, ?_⟩
  rcases hr with h0 | ⟨b, off, ha, hcl⟩
  · exact .inl h0
  · refine .inr ⟨b, off, ha, fun i hi k hk => ?_⟩
    obtain ⟨x, h1, h2⟩ := hcl i hi k hk
    refine ⟨x, h1, ?_⟩
    by_cases e2 : b = g
    · subst e2
      obtain ⟨x5, h3, h4⟩ := hcl i hi 5 (by decide)
      rw [hb.cell, Array.getElem?_eq_none (by omega)] at h4
      cases h4
    · rw [World.cell?_of_block (w := w) (setRow_other w g b cs' e2)]; exact h2

theorem OpsAt.row4 {w : World} {a : Option Addr} {n : Nat} {l : List OpT} {t : TypeId} {g : Nat} {cs : Array Value} (h : OpsAt w a n l) (hb : Blk w t g cs) (hc : cs.size = 4) (cs' : Array Value) : OpsAt (w.setRow g cs') a n l := by
  obtain ⟨hl, hr⟩ := h
  refine ⟨hl, ?_⟩
  rcases hr with h0 | ⟨b, off, ha, hcl⟩
  · exact .inl h0
  · refine .inr ⟨b, off, ha, fun i hi k hk => ?_⟩
    obtain ⟨x, h1, h2⟩ := hcl i hi k hk
    refine ⟨x, h1, ?_⟩
    by_cases e2 : b = g
    · subst e2
      obtain ⟨x5, h3, h4⟩ := hcl i hi 8 (by decide)
      rw [hb.cell, Array.getElem?_eq_none (by omega)] at h4
      cases h4
    · rw [World.cell?_of_block (w := w) (setRow_other w g b cs' e2)]; exact h2

set_option maxRecDepth 100000 in
set_option maxHeartbeats 4000000 in
theorem rofG_any (F : Nat → Prop) (M : OpT → Bool) (hM : ∀ o, M o = true ↔ MayO o) (G : Nat → Bool) (l : List NodeT) (ops : List OpT) (b1 b2 : Int) (a1 a2 : Option Addr) (c1 c2 : Nat) (w : World) (Tn : TreeT) (R : Int) (hl : ops.length ≤ 40000)
    (HG : Hid (∀ k, k < l.length → (G k = true ↔ NodeOk l (b1, b2) k))) (HSZ : Hid (∀ k, k < l.length → (nL l k).2.2.1.size ≤ 1048576 ∧ (nL l k).2.2.2.size ≤ maxLen)) (HSO : Hid (∀ k, k < ops.length → (oL ops k).2.2.2.2.1.size ≤ 1048576 ∧ (oL ops k).2.2.2.2.2.size ≤ 9223372036854775807))
    (HFar : Hid (Far F l.length a1)) (HBF : Hid (∀ k, F k → k < w.heap.size)) (H1 : Hid (NodesAt w a1 l.length l)) (H2 : Hid (OpsAt w a2 ops.length ops)) (HE0 : Hid ((Tn, R) = ofP M G (l, ops, (b1, b2)))) :
    Calls Tryz.prog 50 #[.agg #[.slice a1 l.length c1, .slice a2 ops.length c2, .int .i64 b1, .int .i64 b2]] w fun e w' => ∃ v, e = .returned (.tuple #[v, .int .i64 R]) ∧ TreeG F w' v Tn ∧ Below w.heap.size w w' := by
  have HM : Hid (∀ o, M o = true ↔ MayO o) := hM
  clear hM
  obtain ⟨g, hg⟩ : ∃ g, g = w.heap.size := ⟨_, rfl⟩
  obtain ⟨w0, hw0⟩ : ∃ w0, w0 = (w.alloc (.cells #[.slice a1 l.length c1, .slice a2 ops.length c2, .int .i64 b1, .int .i64 b2] 28)).alloc (.cells #[.slice none 0 0, .slice none 0 0, .int .i64 0, .int .i64 0] 92) := ⟨_, rfl⟩
  have hb0 : Hid (Below w.heap.size w w0) := by rw [hw0]; exact (below_new _ _).alloc (by simp) _
  have G0 : Hid (Blk w0 28 g #[.slice a1 l.length c1, .slice a2 ops.length c2, .int .i64 b1, .int .i64 b2]) := by show Blk _ _ _ _; rw [hw0]; exact (Blk.new' _ _ _ _ hg.symm).alloc _
  have R0 : Hid (Blk w0 92 (g + 1) #[.slice none 0 0, .slice none 0 0, .int .i64 0, .int .i64 0]) := by show Blk _ _ _ _; rw [hw0]; exact Blk.new' _ _ _ _ (by simp [hg])
  have Lg : Hid (w.heap.size ≤ g + 1) := by show _ ≤ _; omega
  have he := HE0.out
  unfold ofP at he
  by_cases hA : 512 < l.length ∨ ((b1, b2) ≠ (0, 0) ∧ ¬ MayS (b1, b2))
  · rw [if_pos hA] at he
    obtain ⟨rfl, rfl⟩ : Tn = emptyT ∧ R = 1 := ⟨congrArg Prod.fst he, congrArg Prod.snd he⟩
    clear he HE0
    by_cases h5 : 512 < l.length
    · have g5 : decide ((512 : Int) < (l.length : Int)) = true := by simp; omega
      go_enter Tryz.func50, Tryz.ntmps50
      go_wp2
      exact bodyPost_rowTmp rfl (w.heap.size + 1) #[.slice none 0 0, .slice none 0 0, .int .i64 0, .int .i64 0] _ rfl rfl rfl (show Blk _ _ _ _ from Blk.new' _ _ _ _ (by simp)) _ Tryz.underlying92 rfl (by kernel_rfl) ⟨_, rfl, emptyT_g F _, (below_new _ _).alloc (by simp) _⟩
    · have h2 : (b1, b2) ≠ (0, 0) ∧ ¬ MayS (b1, b2) := hA.elim (fun h => absurd h h5) id
      have g5 : decide ((512 : Int) < (l.length : Int)) = false := by simp; omega
      have hEq := fun w => stampEq b1 b2 0 0 w
      rw [decide_eq_false h2.1] at hEq
      have CM : Hid (∀ w, Calls Tryz.prog 65 #[.agg #[.int .i64 b1, .int .i64 b2]] w fun e w' => e = .returned (.bool false) ∧ Below w.heap.size w w') := fun w => by
        have := rmayS_any (b1, b2) w
        rw [decide_eq_false h2.2] at this; exact this
      clear h2 hA
      go_enter Tryz.func50, Tryz.ntmps50
      go_wp2_with fail
      rw [← hg, ← hw0]
      clear hg hw0
      refine (CM.out _).mono ?_
      rintro e w1 ⟨rfl, hb1⟩
      have RR : Hid (Blk w1 92 (g + 1) #[.slice none 0 0, .slice none 0 0, .int .i64 0, .int .i64 0]) := R0.out.on hb1
      have BB : Hid (Below w.heap.size w w1) := below_step hb0.out (Nat.le_refl _) hb1
      clear hb1 CM
      go_wp2_with (with_reducible refine wpList_storeBlkH rfl 92 _ _ rfl (g + 1) #[.slice none 0 0, .slice none 0 0, .int .i64 0, .int .i64 0] #[.slice none 0 0, .slice none 0 0, .int .i64 0, .int .i64 0] ?hx ?hy RR.out rfl ?hi ?h1 ?_)
      try (case hx => rfl)
      try (case hy => rfl)
      case hi => first | kernel_rfl | (refine Option.map_eq_some_iff.1 (?_ : (Tryz.prog.info? 92).map (·.size) = some 4); kernel_rfl)
      case h1 => simp [Value.oneCell']
      unfold Hid
      go_wp2
      exact bodyPost_rowTmp rfl (g + 1) #[.slice none 0 0, .slice none 0 0, .int .i64 0, .int .i64 0] _ rfl rfl rfl (RR.out.setRow _) _ Tryz.underlying92 rfl (by kernel_rfl) ⟨_, rfl, emptyT_g F _, below_setRow BB.out Lg.out _⟩
  · rw [if_neg hA] at he
    have h5 : l.length ≤ 512 := by omega
    have g5 : decide ((512 : Int) < (l.length : Int)) = false := by simp; omega
    have HE : Hid ((Tn, R) = if (List.range l.length).all G = false then (emptyT, 1) else ofF M ops (l, [], (b1, b2))) := he
    clear he HE0
    by_cases hz : (b1, b2) = (0, 0)
    · have hEq := fun w => stampEq b1 b2 0 0 w
      rw [decide_eq_true hz] at hEq
      clear hA hz
      go_enter Tryz.func50, Tryz.ntmps50
      go_wp2_with fail
      rw [← hg, ← hw0]
      clear hg hw0
      have G1 := G0
      have R1 := R0
      have B1 := hb0
      clear G0 R0 hb0
      obtain ⟨w1, hw1⟩ : ∃ w1, w1 = w0 := ⟨_, rfl⟩
      rw [← hw1] at G1 R1 B1 ⊢
      clear hw1
      go_loopw [4] (fun i wr => ∃ k : Nat, k ≤ l.length ∧ i = .int .i64 k ∧ Hid (∀ j, j < k → G j = true) ∧ Hid (Below w1.heap.size w1 wr)) (fun i _ => l.length - (intOf i).toNat)
      case atStart => exact ⟨0, Nat.zero_le _, rfl, fun j hj => absurd hj (Nat.not_lt_zero _), Below.refl _ _⟩
      case round =>
        obtain ⟨k, hk, rfl, HGk, B⟩ := hrel
        have GG : Hid (Blk wr 28 g #[.slice a1 l.length c1, .slice a2 ops.length c2, .int .i64 b1, .int .i64 b2]) := G1.out.on B.out
        have RR1 : Hid (Blk wr 92 (g + 1) #[.slice none 0 0, .slice none 0 0, .int .i64 0, .int .i64 0]) := R1.out.on B.out
        have BB1 : Hid (Below w.heap.size w wr) := below_step B1.out (Nat.le_refl _) B.out
        have c0 : World.cell? _ ⟨g, 0, none⟩ = some (.slice a1 l.length c1) := GG.out.cell 0
        have c1' : World.cell? _ ⟨g, 1, none⟩ = some (.slice a2 ops.length c2) := GG.out.cell 1
        have c2' : World.cell? _ ⟨g, 2, none⟩ = some (.int .i64 b1) := GG.out.cell 2
        have c3' : World.cell? _ ⟨g, 3, none⟩ = some (.int .i64 b2) := GG.out.cell 3
        by_cases hlt : k < l.length
        · have d0 : (k : Int) < (l.length : Int) := by omega
          have CK : Hid (Calls Tryz.prog 66 #[.agg #[.slice a1 l.length c1, .slice a2 ops.length c2, .int .i64 b1, .int .i64 b2], .int .i64 (k : Int)] wr fun e w' => e = .returned (.bool (G k)) ∧ Below wr.heap.size wr w') := rnode_any l (b1, b2) a1 l.length c1 k _ wr (G k) (HG.out k hlt) (by omega) hlt (HSZ.out k hlt).1 (HSZ.out k hlt).2 (H1.out.below BB1.out)
          cases hGk : G k with
          | false =>
            rw [hGk] at CK
            have he := HE.out
            rw [if_pos (all_not G l.length k hlt hGk)] at he
            obtain ⟨rfl, rfl⟩ : Tn = emptyT ∧ R = 1 := ⟨congrArg Prod.fst he, congrArg Prod.snd he⟩
            clear he HE hGk HGk
            go_wp2_with fail
            refine Calls.mono CK.out ?_
            rintro e w3 ⟨rfl, hb3⟩
            have RR : Hid (Blk w3 92 (g + 1) #[.slice none 0 0, .slice none 0 0, .int .i64 0, .int .i64 0]) := RR1.out.on hb3
            have BB : Hid (Below w.heap.size w w3) := below_step BB1.out (Nat.le_refl _) hb3
            clear hb3 CK RR1 BB1 GG B c0 c1' c2' c3'
            go_wp2_with (with_reducible refine wpList_storeBlkH rfl 92 _ _ rfl (g + 1) #[.slice none 0 0, .slice none 0 0, .int .i64 0, .int .i64 0] #[.slice none 0 0, .slice none 0 0, .int .i64 0, .int .i64 0] ?hxa ?hya RR.out rfl ?hia ?h1a ?_)
            try (case hxa => rfl)
            try (case hya => rfl)
            case hia => first | kernel_rfl | (refine Option.map_eq_some_iff.1 (?_ : (Tryz.prog.info? 92).map (·.size) = some 4); kernel_rfl)
            case h1a => simp [Value.oneCell']
            unfold Hid
            go_wp2
            exact bodyPost_rowTmp rfl (g + 1) #[.slice none 0 0, .slice none 0 0, .int .i64 0, .int .i64 0] _ rfl rfl rfl (RR.out.setRow _) _ Tryz.underlying92 rfl (by kernel_rfl) ⟨_, rfl, emptyT_g F _, below_setRow BB.out Lg.out _⟩
          | true =>
            rw [hGk] at CK
            have HGn : Hid (∀ j, j < k + 1 → G j = true) := fun j hj => by
              by_cases e : j = k
              · rw [e]; exact hGk
              · exact HGk.out j (by omega)
            clear hGk HGk
            go_wp2_with fail
            refine Calls.mono CK.out ?_
            rintro e w3 ⟨rfl, hb3⟩
            have B3 : Hid (Below w1.heap.size w1 w3) := below_step B.out (Nat.le_refl _) hb3
            clear hb3 CK RR1 BB1 GG B c0 c1' c2' c3'
            go_wp2
            refine ⟨⟨k + 1, by omega, by go_num, HGn, B3⟩, ?_⟩
            simp [intOf]; omega
        · have hk' : k = l.length := by omega
          subst hk'
          have he := HE.out
          rw [if_neg (by rw [all_yes G l.length HGk.out]; decide)] at he
          have HE2 : Hid ((Tn, R) = ofF M ops (l, [], (b1, b2))) := he
          clear he HE HGk HG HSZ
          obtain ⟨h, hh⟩ : ∃ h, h = wr.heap.size := ⟨_, rfl⟩
          obtain ⟨W5, hW5⟩ : ∃ W5, W5 = wr.alloc (.cells #[.slice a1 l.length c1, .slice none 0 0, .int .i64 b1, .int .i64 b2] 92) := ⟨_, rfl⟩
          have hb5 : Hid (Below wr.heap.size wr W5) := by rw [hW5]; exact below_new _ _
          have T5 : Hid (Blk W5 92 h #[.slice a1 l.length c1, .slice none 0 0, .int .i64 b1, .int .i64 b2]) := by show Blk _ _ _ _; rw [hW5]; exact Blk.new' _ _ _ _ hh.symm
          have G5 : Hid (Blk W5 28 g #[.slice a1 l.length c1, .slice a2 ops.length c2, .int .i64 b1, .int .i64 b2]) := GG.out.on hb5.out
          have R5 : Hid (Blk W5 92 (g + 1) #[.slice none 0 0, .slice none 0 0, .int .i64 0, .int .i64 0]) := RR1.out.on hb5.out
          have B5 : Hid (Below w.heap.size w W5) := below_step BB1.out (Nat.le_refl _) hb5.out
          have Lh : Hid (g + 1 < h) := by show _ < _; rw [hh]; exact RR1.out.lt
          have Lwh : Hid (w.heap.size ≤ h) := by show _ ≤ _; rw [hh]; exact BB1.out.size
          have N5 : Hid (NodesAt W5 a1 l.length l) := H1.out.below B5.out
          go_wp2_with fail
          rw [← hh, ← hW5]
          clear hh hW5 hb5 GG RR1 BB1 B c0 c1' c2' c3'
          have hl5 : l.length ≤ 512 := h5
          go_loopw [6] (fun i wr => ∃ (k : Nat) (fx : List NodeT) (ps : List OpT) (x y : Int) (a3 a4 : Option Addr) (c3 c4 : Nat), k ≤ ops.length ∧ i = .int .i64 k ∧ Hid (Blk wr 92 h #[.slice a3 fx.length c3, .slice a4 ps.length c4, .int .i64 x, .int .i64 y]) ∧ Hid (NodesAt wr a3 fx.length fx) ∧ Hid (OpsAt wr a4 ps.length ps) ∧ Hid (SliceOk a4 ps.length c4 ∧ Far F fx.length a3 ∧ Far F ps.length a4) ∧ Hid (Blk wr 28 g #[.slice a1 l.length c1, .slice a2 ops.length c2, .int .i64 b1, .int .i64 b2]) ∧ Hid (Blk wr 92 (g + 1) #[.slice none 0 0, .slice none 0 0, .int .i64 0, .int .i64 0]) ∧ Hid (Below w.heap.size w wr) ∧ Hid ((Tn, R) = ofF M (ops.drop k) (fx, ps, (x, y))) ∧ Hid (fx.length + ps.length ≤ 512 + k)) (fun i _ => ops.length - (intOf i).toNat)
          case atStart => exact ⟨0, l, [], b1, b2, a1, none, c1, 0, Nat.zero_le _, rfl, T5, N5, ⟨rfl, .inl rfl⟩, ⟨.inl ⟨rfl, rfl, rfl⟩, HFar.out, fun h => absurd h (Nat.lt_irrefl 0)⟩, G5, R5, B5, by rw [List.drop_zero]; exact HE2, show _ ≤ _ by simpa using hl5⟩
          case round =>
            clear T5 N5 G5 R5 B5 HE2
            obtain ⟨k, fx, ps, x, y, a3, a4, c3, c4, hk, rfl, T, N, O, K, GG, RR0, BB0, HF, HLe⟩ := hrel
            have t0 : World.cell? _ ⟨h, 0, none⟩ = some (.slice a3 fx.length c3) := T.out.cell 0
            have t1 : World.cell? _ ⟨h, 1, none⟩ = some (.slice a4 ps.length c4) := T.out.cell 1
            have t2 : World.cell? _ ⟨h, 2, none⟩ = some (.int .i64 x) := T.out.cell 2
            have t3 : World.cell? _ ⟨h, 3, none⟩ = some (.int .i64 y) := T.out.cell 3
            have g1 : World.cell? _ ⟨g, 1, none⟩ = some (.slice a2 ops.length c2) := GG.out.cell 1
            by_cases hlt : k < ops.length
            · obtain ⟨b, off, rfl, _⟩ := H2.out.2.some (by omega)
              have d0 : (k : Int) < (ops.length : Int) := by omega
              obtain ⟨o, ho⟩ : ∃ o, o = oL ops k := ⟨_, rfl⟩
              have hst := ofF_step M ops k hlt (fx, ps, (x, y))
              have hso := HSO.out k hlt
              rw [← ho] at hst hso
              have HO : Hid (o = oL ops k) := ho
              clear ho
              have hf := HF.out
              rw [hst] at hf
              clear hst HF
              have hal := applyP_len M (fx, ps, (x, y)) o
              have CA := fun (w' : World) (hv : TreeX F w.heap.size w' (.agg #[.slice a3 fx.length c3, .slice a4 ps.length c4, .int .i64 x, .int .i64 y]) (fx, ps, (x, y))) => rapplyG_any M HM.out F (fx, ps, (x, y)) o _ w' (by have := HLe.out; show fx.length + ps.length ≤ 50000; omega) hso.1 hso.2 hv.1 (fun k hk => Nat.lt_of_lt_of_le (HBF.out k hk) hv.2)
              obtain ⟨⟨⟨fx', ps', x', y'⟩, E⟩, hap⟩ : ∃ r, applyP M (fx, ps, (x, y)) o = r := ⟨_, rfl⟩
              rw [hap] at hf hal CA
              obtain ⟨k0, ⟨k1, k2⟩, ⟨k3, k4⟩, ⟨k5, k6⟩, s, t⟩ := o
              have HCA : Hid (∀ w', TreeX F w.heap.size w' (.agg #[.slice a3 fx.length c3, .slice a4 ps.length c4, .int .i64 x, .int .i64 y]) (fx, ps, (x, y)) → Calls Tryz.prog 67 #[.agg #[.slice a3 fx.length c3, .slice a4 ps.length c4, .int .i64 x, .int .i64 y], .agg #[.int .i64 k0, .int .i64 k1, .int .i64 k2, .int .i64 k3, .int .i64 k4, .int .i64 k5, .int .i64 k6, .string s, .string t]] w' fun e w'' => ∃ v', e = .returned (.tuple #[v', .int .i64 E]) ∧ TreeG F w'' v' (fx', ps', (x', y')) ∧ Below w'.heap.size w' w'') := CA
              have HF : Hid ((Tn, R) = if E ≠ 0 then (emptyT, E) else if ps'.length = ps.length then (emptyT, 1) else ofF M (ops.drop (k + 1)) (fx', ps', (x', y'))) := hf
              have HLe2 : Hid (fx'.length + ps'.length ≤ 512 + (k + 1)) := by
                have h1 : fx' = fx := hal.1
                have h2 : ps'.length ≤ ps.length + 1 := hal.2
                have := HLe.out
                show _ ≤ _
                rw [h1]; omega
              clear hf hal CA hap hso HLe
              have HTV : Hid (∀ w', Below wr.heap.size wr w' → TreeX F w.heap.size w' (.agg #[.slice a3 fx.length c3, .slice a4 ps.length c4, .int .i64 x, .int .i64 y]) (fx, ps, (x, y))) := fun w' hb => ⟨⟨a3, c3, a4, c4, rfl, N.out.below hb, O.out.below hb, K.out⟩, Nat.le_trans BB0.out.size hb.size⟩
              have HS : Hid (∀ w', Below wr.heap.size wr w' → (w'.cell? ⟨h, 0, none⟩ = some (.slice a3 fx.length c3) ∧ w'.cell? ⟨h, 1, none⟩ = some (.slice a4 ps.length c4) ∧ w'.cell? ⟨h, 2, none⟩ = some (.int .i64 x) ∧ w'.cell? ⟨h, 3, none⟩ = some (.int .i64 y)) ∧ w'.cell? ⟨g, 1, none⟩ = some (.slice (some ⟨b, off, none⟩) ops.length c2) ∧ w'.cell? ⟨b, off + k * 9, none⟩ = some (.int .i64 k0) ∧ w'.cell? ⟨b, off + k * 9 + 1, none⟩ = some (.int .i64 k1) ∧ w'.cell? ⟨b, off + k * 9 + 2, none⟩ = some (.int .i64 k2) ∧ w'.cell? ⟨b, off + k * 9 + 3, none⟩ = some (.int .i64 k3) ∧ w'.cell? ⟨b, off + k * 9 + 4, none⟩ = some (.int .i64 k4) ∧ w'.cell? ⟨b, off + k * 9 + 5, none⟩ = some (.int .i64 k5) ∧ w'.cell? ⟨b, off + k * 9 + 6, none⟩ = some (.int .i64 k6) ∧ w'.cell? ⟨b, off + k * 9 + 7, none⟩ = some (.string s) ∧ w'.cell? ⟨b, off + k * 9 + 8, none⟩ = some (.string t)) := fun w' hb => by
                have hc := (H2.out.below (below_step BB0.out (Nat.le_refl _) hb)).cells k hlt
                rw [← HO.out] at hc
                exact ⟨⟨(T.out.on hb).cell 0, (T.out.on hb).cell 1, (T.out.on hb).cell 2, (T.out.on hb).cell 3⟩, (GG.out.on hb).cell 1, hc⟩
              have hS0 := HS.out _ (Below.refl wr.heap.size wr).drew
              clear t0 t1 t2 t3
              go_wp2_with fail
              refine wp_region_noPanic ?_
              refine wp_region_held_drew (S := fun w' => (w'.cell? ⟨h, 0, none⟩ = some (.slice a3 fx.length c3) ∧ w'.cell? ⟨h, 1, none⟩ = some (.slice a4 ps.length c4) ∧ w'.cell? ⟨h, 2, none⟩ = some (.int .i64 x) ∧ w'.cell? ⟨h, 3, none⟩ = some (.int .i64 y)) ∧ w'.cell? ⟨g, 1, none⟩ = some (.slice (some ⟨b, off, none⟩) ops.length c2) ∧ w'.cell? ⟨b, off + k * 9, none⟩ = some (.int .i64 k0) ∧ w'.cell? ⟨b, off + k * 9 + 1, none⟩ = some (.int .i64 k1) ∧ w'.cell? ⟨b, off + k * 9 + 2, none⟩ = some (.int .i64 k2) ∧ w'.cell? ⟨b, off + k * 9 + 3, none⟩ = some (.int .i64 k3) ∧ w'.cell? ⟨b, off + k * 9 + 4, none⟩ = some (.int .i64 k4) ∧ w'.cell? ⟨b, off + k * 9 + 5, none⟩ = some (.int .i64 k5) ∧ w'.cell? ⟨b, off + k * 9 + 6, none⟩ = some (.int .i64 k6) ∧ w'.cell? ⟨b, off + k * 9 + 7, none⟩ = some (.string s) ∧ w'.cell? ⟨b, off + k * 9 + 8, none⟩ = some (.string t)) (by kernel_rfl) (by first | exact trivial | assumption | exact ⟨by assumption, by assumption⟩) (fun hHeld => ?_)
              refine tk 0 (v := ?_) rfl rfl ?_ ?_
              rotate_left
              · intro w hSw; (try dsimp only at hSw); go_simp; try with_reducible rfl
              try simp only [Act.put, za, zb, zc]
              refine tk 1 (v := ?_) rfl rfl ?_ ?_
              rotate_left
              · intro w hSw; (try dsimp only at hSw); go_simp; try with_reducible rfl
              try simp only [Act.put, za, zb, zc]
              refine tk 2 (v := ?_) rfl rfl ?_ ?_
              rotate_left
              · intro w hSw; (try dsimp only at hSw); go_simp; try with_reducible rfl
              try simp only [Act.put, za, zb, zc]
              refine tk 3 (v := ?_) rfl rfl ?_ ?_
              rotate_left
              · intro w hSw; (try dsimp only at hSw); go_simp; try with_reducible rfl
              try simp only [Act.put, za, zb, zc]
              refine tk 4 (v := ?_) rfl rfl ?_ ?_
              rotate_left
              · intro w hSw; (try dsimp only at hSw); go_simp; try with_reducible rfl
              try simp only [Act.put, za, zb, zc]
              refine tk 5 (v := ?_) rfl rfl ?_ ?_
              rotate_left
              · intro w hSw; (try dsimp only at hSw); go_simp; try with_reducible rfl
              try simp only [Act.put, za, zb, zc]
              refine wpAnyH_ready (rs := [6, 10]) (by kernel_rfl) (by simp) ?_
              refine AllReadyH.cons rfl (fun K2 hK => ?_) (AllReadyH.cons rfl (fun K2 hK => ?_) AllReadyH.nil)
              · go_simp
                refine (HCA.out _ (HTV.out _ (Below.refl wr.heap.size wr).drew)).mono ?_
                rintro e w6 ⟨v6, rfl, hv6, hb6⟩
                obtain ⟨a5, c5, a6, c6, rfl, n6, o6, s6⟩ := hv6
                have hbw : Hid (Below wr.heap.size wr w6) := below_step (Below.refl wr.heap.size wr).drew (Nat.le_refl _) hb6
                have N6 : Hid (NodesAt w6 a5 fx'.length fx') := n6
                have O6 : Hid (OpsAt w6 a6 ps'.length ps') := o6
                have K6 : Hid (SliceOk a6 ps'.length c6 ∧ Far F fx'.length a5 ∧ Far F ps'.length a6) := s6
                clear hb6 n6 o6 s6
                refine hK.out _ _ (HS.out _ hbw.out) (fun hHeld => ?_)
                clear hK K2
                refine tk 7 (v := ?_) rfl rfl ?_ ?_
                rotate_left
                · intro w hSw; (try dsimp only at hSw); go_simp; try with_reducible rfl
                try simp only [Act.put, za, zb, zc]
                refine tk 8 (v := ?_) rfl rfl ?_ ?_
                rotate_left
                · intro w hSw; (try dsimp only at hSw); go_simp; try with_reducible rfl
                try simp only [Act.put, za, zb, zc]
                refine tk 9 (v := ?_) rfl rfl ?_ ?_
                rotate_left
                · intro w hSw; (try dsimp only at hSw); go_simp; try with_reducible rfl
                try simp only [Act.put, za, zb, zc]
                refine wpAnyH_ready (rs := [10]) (by kernel_rfl) (by simp) ?_
                refine AllReadyH.cons rfl (fun K hK => ?_) AllReadyH.nil
                go_simp
                refine hK.out _ _ (HS.out _ (below_step hbw.out (Nat.le_refl _) (below_new _ _))) (fun hHeld => ?_)
                clear hK K
                refine wpAnyH_ready (rs := [11]) (by kernel_rfl) (by simp) ?_
                refine AllReadyH.cons rfl (fun K hK => ?_) AllReadyH.nil
                go_simp
                refine hK.out _ _ (HS.out _ (below_step hbw.out (Nat.le_refl _) (below_new _ _))) (fun hHeld => ?_)
                clear hK K
                refine tk 12 (v := ?_) rfl rfl ?_ ?_
                rotate_left
                · intro w hSw; (try dsimp only at hSw); go_simp; try with_reducible rfl
                try simp only [Act.put, za, zb, zc]
                refine wpAnyH_done (by kernel_rfl) (NoPanic.normal ?_) _
                obtain ⟨h2, hh2⟩ : ∃ h2, h2 = w6.heap.size := ⟨_, rfl⟩
                obtain ⟨V1, hV1⟩ : ∃ V1, V1 = w6.alloc (.cells #[.slice a5 fx'.length c5, .slice a6 ps'.length c6, .int .i64 x', .int .i64 y'] 92) := ⟨_, rfl⟩
                have hbV : Hid (Below wr.heap.size wr V1) := by rw [hV1]; exact below_step hbw.out (Nat.le_refl _) (below_new _ _)
                have hb6V : Hid (Below w6.heap.size w6 V1) := by rw [hV1]; exact below_new _ _
                have X1 : Hid (Blk V1 92 h2 #[.slice a5 fx'.length c5, .slice a6 ps'.length c6, .int .i64 x', .int .i64 y']) := by show Blk _ _ _ _; rw [hV1]; exact Blk.new' _ _ _ _ hh2.symm
                have N1 : Hid (NodesAt V1 a5 fx'.length fx') := N6.out.below hb6V.out
                have O1 : Hid (OpsAt V1 a6 ps'.length ps') := O6.out.below hb6V.out
                rw [← hV1, ← hh2]
                clear hV1 hh2 hb6V N6 O6 hbw
                have T1 : Hid (Blk V1 92 h #[.slice a3 fx.length c3, .slice a4 ps.length c4, .int .i64 x, .int .i64 y]) := T.out.on hbV.out
                have GX : Hid (Blk V1 28 g #[.slice a1 l.length c1, .slice (some ⟨b, off, none⟩) ops.length c2, .int .i64 b1, .int .i64 b2]) := GG.out.on hbV.out
                have RR : Hid (Blk V1 92 (g + 1) #[.slice none 0 0, .slice none 0 0, .int .i64 0, .int .i64 0]) := RR0.out.on hbV.out
                have BB : Hid (Below w.heap.size w V1) := below_step BB0.out (Nat.le_refl _) hbV.out
                clear T N O K GG RR0 BB0 hbV HS HTV hS0 hHeld g1
                have x0 : V1.cell? ⟨h2, 0, none⟩ = some (.slice a5 fx'.length c5) := X1.out.cell 0
                have x1 : V1.cell? ⟨h2, 1, none⟩ = some (.slice a6 ps'.length c6) := X1.out.cell 1
                have x2 : V1.cell? ⟨h2, 2, none⟩ = some (.int .i64 x') := X1.out.cell 2
                have x3 : V1.cell? ⟨h2, 3, none⟩ = some (.int .i64 y') := X1.out.cell 3
                have t1 : V1.cell? ⟨h, 1, none⟩ = some (.slice a4 ps.length c4) := T1.out.cell 1
                by_cases hE : E = 0
                · subst hE
                  have hf := HF.out
                  rw [if_neg (by simp)] at hf
                  by_cases hps : ps'.length = ps.length
                  · rw [if_pos hps] at hf
                    obtain ⟨rfl, rfl⟩ : Tn = emptyT ∧ R = 1 := ⟨congrArg Prod.fst hf, congrArg Prod.snd hf⟩
                    have geq : ((ps'.length : Int) == (ps.length : Int)) = true := by rw [beq_iff_eq, hps]
                    have geq2 : (ps'.length : Int) = (ps.length : Int) := by rw [hps]
                    clear hf HF hps
                    go_wp2_with (with_reducible refine wpList_storeBlkH rfl 92 _ _ rfl (g + 1) #[.slice none 0 0, .slice none 0 0, .int .i64 0, .int .i64 0] #[.slice none 0 0, .slice none 0 0, .int .i64 0, .int .i64 0] ?hxPA1 ?hyPA1 RR.out rfl ?hiPA1 ?h1PA1 ?_)
                    try (case hxPA1 => rfl)
                    try (case hyPA1 => rfl)
                    case hiPA1 => first | kernel_rfl | (refine Option.map_eq_some_iff.1 (?_ : (Tryz.prog.info? 92).map (·.size) = some 4); kernel_rfl)
                    case h1PA1 => simp [Value.oneCell']
                    unfold Hid
                    go_wp2
                    exact bodyPost_rowTmp rfl (g + 1) #[.slice none 0 0, .slice none 0 0, .int .i64 0, .int .i64 0] _ rfl rfl rfl (RR.out.setRow _) _ Tryz.underlying92 rfl (by kernel_rfl) ⟨_, rfl, emptyT_g F _, below_setRow BB.out Lg.out _⟩
                  · rw [if_neg hps] at hf
                    have HF2 : Hid ((Tn, R) = ofF M (ops.drop (k + 1)) (fx', ps', (x', y'))) := hf
                    have gne : ((ps'.length : Int) == (ps.length : Int)) = false := by rw [beq_eq_false_iff_ne]; omega
                    have gne2 : ¬ ((ps'.length : Int) = (ps.length : Int)) := by omega
                    clear hf HF hps
                    go_wp2_with (with_reducible refine wpList_storeBlkH rfl 92 _ _ rfl h #[.slice a3 fx.length c3, .slice a4 ps.length c4, .int .i64 x, .int .i64 y] #[.slice a5 fx'.length c5, .slice a6 ps'.length c6, .int .i64 x', .int .i64 y'] ?hxPA3 ?hyPA3 T1.out rfl ?hiPA3 ?h1PA3 ?_)
                    try (case hxPA3 => rfl)
                    try (case hyPA3 => rfl)
                    case hiPA3 => first | kernel_rfl | (refine Option.map_eq_some_iff.1 (?_ : (Tryz.prog.info? 92).map (·.size) = some 4); kernel_rfl)
                    case h1PA3 => simp [Value.oneCell']
                    unfold Hid
                    have T2 : Hid (Blk (V1.setRow h #[.slice a5 fx'.length c5, .slice a6 ps'.length c6, .int .i64 x', .int .i64 y']) 92 h #[.slice a5 fx'.length c5, .slice a6 ps'.length c6, .int .i64 x', .int .i64 y']) := T1.out.setRow _
                    have N2 : Hid (NodesAt (V1.setRow h #[.slice a5 fx'.length c5, .slice a6 ps'.length c6, .int .i64 x', .int .i64 y']) a5 fx'.length fx') := N1.out.row4 T1.out rfl _
                    have O2 : Hid (OpsAt (V1.setRow h #[.slice a5 fx'.length c5, .slice a6 ps'.length c6, .int .i64 x', .int .i64 y']) a6 ps'.length ps') := O1.out.row4 T1.out rfl _
                    have G2 : Hid (Blk (V1.setRow h #[.slice a5 fx'.length c5, .slice a6 ps'.length c6, .int .i64 x', .int .i64 y']) 28 g #[.slice a1 l.length c1, .slice (some ⟨b, off, none⟩) ops.length c2, .int .i64 b1, .int .i64 b2]) := GX.out.setRowOther h (by have := Lh.out; omega) _
                    have R2 : Hid (Blk (V1.setRow h #[.slice a5 fx'.length c5, .slice a6 ps'.length c6, .int .i64 x', .int .i64 y']) 92 (g + 1) #[.slice none 0 0, .slice none 0 0, .int .i64 0, .int .i64 0]) := RR.out.setRowOther h (by have := Lh.out; omega) _
                    have B2 : Hid (Below w.heap.size w (V1.setRow h #[.slice a5 fx'.length c5, .slice a6 ps'.length c6, .int .i64 x', .int .i64 y'])) := below_setRow BB.out Lwh.out _
                    clear T1 N1 O1 GX RR BB X1 x0 x1 x2 x3 t1
                    go_wp2
                    refine ⟨⟨k + 1, fx', ps', x', y', a5, a6, c5, c6, by omega, by go_num, T2, N2, O2, K6, G2, R2, B2, HF2, HLe2⟩, ?_⟩
                    simp [intOf]; omega
                · have hf := HF.out
                  rw [if_pos hE] at hf
                  obtain ⟨rfl, rfl⟩ : Tn = emptyT ∧ R = E := ⟨congrArg Prod.fst hf, congrArg Prod.snd hf⟩
                  have gE : (R == 0) = false := by rw [beq_eq_false_iff_ne]; exact hE
                  clear hf HF
                  go_wp2_with (with_reducible refine wpList_storeBlkH rfl 92 _ _ rfl (g + 1) #[.slice none 0 0, .slice none 0 0, .int .i64 0, .int .i64 0] #[.slice none 0 0, .slice none 0 0, .int .i64 0, .int .i64 0] ?hxPA2 ?hyPA2 RR.out rfl ?hiPA2 ?h1PA2 ?_)
                  try (case hxPA2 => rfl)
                  try (case hyPA2 => rfl)
                  case hiPA2 => first | kernel_rfl | (refine Option.map_eq_some_iff.1 (?_ : (Tryz.prog.info? 92).map (·.size) = some 4); kernel_rfl)
                  case h1PA2 => simp [Value.oneCell']
                  unfold Hid
                  go_wp2
                  exact bodyPost_rowTmp rfl (g + 1) #[.slice none 0 0, .slice none 0 0, .int .i64 0, .int .i64 0] _ rfl rfl rfl (RR.out.setRow _) _ Tryz.underlying92 rfl (by kernel_rfl) ⟨_, rfl, emptyT_g F _, below_setRow BB.out Lg.out _⟩
              · go_simp
                have hb0w : Hid (Below wr.heap.size wr (wr.drew.alloc (.cells #[.slice none 0 0, .slice none 0 0, .int .i64 0, .int .i64 0] 92))) := (Below.refl wr.heap.size wr).drew.alloc (Nat.le_refl _) _
                have S0 : Hid (Blk (wr.drew.alloc (.cells #[.slice none 0 0, .slice none 0 0, .int .i64 0, .int .i64 0] 92)) 92 wr.heap.size #[.slice none 0 0, .slice none 0 0, .int .i64 0, .int .i64 0]) := Blk.new' _ _ _ _ rfl
                refine hK.out _ _ (HS.out _ hb0w.out) (fun hHeld => ?_)
                clear hK K2
                refine wpAnyH_ready (rs := [6]) (by kernel_rfl) (by simp) ?_
                refine AllReadyH.cons rfl (fun K hK => ?_) AllReadyH.nil
                go_simp
                refine (HCA.out _ (HTV.out _ hb0w.out)).mono ?_
                rintro e w6 ⟨v6, rfl, hv6, hb6⟩
                obtain ⟨a5, c5, a6, c6, rfl, n6, o6, s6⟩ := hv6
                have hbw : Hid (Below wr.heap.size wr w6) := below_step hb0w.out (Nat.le_refl _) hb6
                have S6 : Hid (Blk w6 92 wr.heap.size #[.slice none 0 0, .slice none 0 0, .int .i64 0, .int .i64 0]) := S0.out.on hb6
                have N6 : Hid (NodesAt w6 a5 fx'.length fx') := n6
                have O6 : Hid (OpsAt w6 a6 ps'.length ps') := o6
                have K6 : Hid (SliceOk a6 ps'.length c6 ∧ Far F fx'.length a5 ∧ Far F ps'.length a6) := s6
                clear hb6 n6 o6 s6 S0 hb0w
                refine hK.out _ _ (HS.out _ hbw.out) (fun hHeld => ?_)
                clear hK K
                refine tk 7 (v := ?_) rfl rfl ?_ ?_
                rotate_left
                · intro w hSw; (try dsimp only at hSw); go_simp; try with_reducible rfl
                try simp only [Act.put, za, zb, zc]
                refine tk 8 (v := ?_) rfl rfl ?_ ?_
                rotate_left
                · intro w hSw; (try dsimp only at hSw); go_simp; try with_reducible rfl
                try simp only [Act.put, za, zb, zc]
                refine tk 9 (v := ?_) rfl rfl ?_ ?_
                rotate_left
                · intro w hSw; (try dsimp only at hSw); go_simp; try with_reducible rfl
                try simp only [Act.put, za, zb, zc]
                have i0 : w6.cell? ⟨wr.heap.size, 0, none⟩ = some (.slice none 0 0) := S6.out.cell 0
                have i1 : w6.cell? ⟨wr.heap.size, 1, none⟩ = some (.slice none 0 0) := S6.out.cell 1
                have i2 : w6.cell? ⟨wr.heap.size, 2, none⟩ = some (.int .i64 0) := S6.out.cell 2
                have i3 : w6.cell? ⟨wr.heap.size, 3, none⟩ = some (.int .i64 0) := S6.out.cell 3
                have j0 := S6.out.free 0
                have j1 := S6.out.free 1
                have j2 := S6.out.free 2
                have j3 := S6.out.free 3
                obtain ⟨V1, hV1⟩ : ∃ V1, V1 = (((w6.setCell ⟨wr.heap.size, 0, none⟩ (.slice a5 fx'.length c5)).setCell ⟨wr.heap.size, 1, none⟩ (.slice a6 ps'.length c6)).setCell ⟨wr.heap.size, 2, none⟩ (.int .i64 x')).setCell ⟨wr.heap.size, 3, none⟩ (.int .i64 y') := ⟨_, rfl⟩
                have hbV : Hid (Below wr.heap.size wr V1) := by
                  rw [hV1]
                  exact (((hbw.out.setCell (p := ⟨wr.heap.size, 0, none⟩) (Nat.le_refl _) _).setCell (p := ⟨wr.heap.size, 1, none⟩) (Nat.le_refl _) _).setCell (p := ⟨wr.heap.size, 2, none⟩) (Nat.le_refl _) _).setCell (p := ⟨wr.heap.size, 3, none⟩) (Nat.le_refl _) _
                have X1 : Hid (Blk V1 92 wr.heap.size #[.slice a5 fx'.length c5, .slice a6 ps'.length c6, .int .i64 x', .int .i64 y']) := by show Blk _ _ _ _; rw [hV1]; exact (((S6.out.setAt 0 _).setAt 1 _).setAt 2 _).setAt 3 _
                have N1 : Hid (NodesAt V1 a5 fx'.length fx') := by
                  rw [hV1]
                  exact (((N6.out.set4 S6.out rfl 0 _).set4 (S6.out.setAt 0 _) rfl 1 _).set4 ((S6.out.setAt 0 _).setAt 1 _) rfl 2 _).set4 (((S6.out.setAt 0 _).setAt 1 _).setAt 2 _) rfl 3 _
                have O1 : Hid (OpsAt V1 a6 ps'.length ps') := by
                  rw [hV1]
                  exact (((O6.out.set4 S6.out rfl 0 _).set4 (S6.out.setAt 0 _) rfl 1 _).set4 ((S6.out.setAt 0 _).setAt 1 _) rfl 2 _).set4 (((S6.out.setAt 0 _).setAt 1 _).setAt 2 _) rfl 3 _
                refine wpAnyH_ready (rs := [11]) (by kernel_rfl) (by simp) ?_
                refine AllReadyH.cons rfl (fun K hK => ?_) AllReadyH.nil
                go_simp
                rw [← hV1]
                refine hK.out _ _ (HS.out _ hbV.out) (fun hHeld => ?_)
                clear hK K
                refine tk 12 (v := ?_) rfl rfl ?_ ?_
                rotate_left
                · intro w hSw; (try dsimp only at hSw); go_simp; try with_reducible rfl
                try simp only [Act.put, za, zb, zc]
                refine wpAnyH_done (by kernel_rfl) (NoPanic.normal ?_) _
                obtain ⟨h2, hh2⟩ : ∃ h2, h2 = wr.heap.size := ⟨_, rfl⟩
                rw [← hh2] at X1 ⊢
                clear hV1 hbw N6 O6 S6 i0 i1 i2 i3 j0 j1 j2 j3 hh2
                have T1 : Hid (Blk V1 92 h #[.slice a3 fx.length c3, .slice a4 ps.length c4, .int .i64 x, .int .i64 y]) := T.out.on hbV.out
                have GX : Hid (Blk V1 28 g #[.slice a1 l.length c1, .slice (some ⟨b, off, none⟩) ops.length c2, .int .i64 b1, .int .i64 b2]) := GG.out.on hbV.out
                have RR : Hid (Blk V1 92 (g + 1) #[.slice none 0 0, .slice none 0 0, .int .i64 0, .int .i64 0]) := RR0.out.on hbV.out
                have BB : Hid (Below w.heap.size w V1) := below_step BB0.out (Nat.le_refl _) hbV.out
                clear T N O K GG RR0 BB0 hbV HS HTV hS0 hHeld g1
                have x0 : V1.cell? ⟨h2, 0, none⟩ = some (.slice a5 fx'.length c5) := X1.out.cell 0
                have x1 : V1.cell? ⟨h2, 1, none⟩ = some (.slice a6 ps'.length c6) := X1.out.cell 1
                have x2 : V1.cell? ⟨h2, 2, none⟩ = some (.int .i64 x') := X1.out.cell 2
                have x3 : V1.cell? ⟨h2, 3, none⟩ = some (.int .i64 y') := X1.out.cell 3
                have t1 : V1.cell? ⟨h, 1, none⟩ = some (.slice a4 ps.length c4) := T1.out.cell 1
                by_cases hE : E = 0
                · subst hE
                  have hf := HF.out
                  rw [if_neg (by simp)] at hf
                  by_cases hps : ps'.length = ps.length
                  · rw [if_pos hps] at hf
                    obtain ⟨rfl, rfl⟩ : Tn = emptyT ∧ R = 1 := ⟨congrArg Prod.fst hf, congrArg Prod.snd hf⟩
                    have geq : ((ps'.length : Int) == (ps.length : Int)) = true := by rw [beq_iff_eq, hps]
                    have geq2 : (ps'.length : Int) = (ps.length : Int) := by rw [hps]
                    clear hf HF hps
                    go_wp2_with (with_reducible refine wpList_storeBlkH rfl 92 _ _ rfl (g + 1) #[.slice none 0 0, .slice none 0 0, .int .i64 0, .int .i64 0] #[.slice none 0 0, .slice none 0 0, .int .i64 0, .int .i64 0] ?hxPB1 ?hyPB1 RR.out rfl ?hiPB1 ?h1PB1 ?_)
                    try (case hxPB1 => rfl)
                    try (case hyPB1 => rfl)
                    case hiPB1 => first | kernel_rfl | (refine Option.map_eq_some_iff.1 (?_ : (Tryz.prog.info? 92).map (·.size) = some 4); kernel_rfl)
                    case h1PB1 => simp [Value.oneCell']
                    unfold Hid
                    go_wp2
                    exact bodyPost_rowTmp rfl (g + 1) #[.slice none 0 0, .slice none 0 0, .int .i64 0, .int .i64 0] _ rfl rfl rfl (RR.out.setRow _) _ Tryz.underlying92 rfl (by kernel_rfl) ⟨_, rfl, emptyT_g F _, below_setRow BB.out Lg.out _⟩
                  · rw [if_neg hps] at hf
                    have HF2 : Hid ((Tn, R) = ofF M (ops.drop (k + 1)) (fx', ps', (x', y'))) := hf
                    have gne : ((ps'.length : Int) == (ps.length : Int)) = false := by rw [beq_eq_false_iff_ne]; omega
                    have gne2 : ¬ ((ps'.length : Int) = (ps.length : Int)) := by omega
                    clear hf HF hps
                    go_wp2_with (with_reducible refine wpList_storeBlkH rfl 92 _ _ rfl h #[.slice a3 fx.length c3, .slice a4 ps.length c4, .int .i64 x, .int .i64 y] #[.slice a5 fx'.length c5, .slice a6 ps'.length c6, .int .i64 x', .int .i64 y'] ?hxPB3 ?hyPB3 T1.out rfl ?hiPB3 ?h1PB3 ?_)
                    try (case hxPB3 => rfl)
                    try (case hyPB3 => rfl)
                    case hiPB3 => first | kernel_rfl | (refine Option.map_eq_some_iff.1 (?_ : (Tryz.prog.info? 92).map (·.size) = some 4); kernel_rfl)
                    case h1PB3 => simp [Value.oneCell']
                    unfold Hid
                    have T2 : Hid (Blk (V1.setRow h #[.slice a5 fx'.length c5, .slice a6 ps'.length c6, .int .i64 x', .int .i64 y']) 92 h #[.slice a5 fx'.length c5, .slice a6 ps'.length c6, .int .i64 x', .int .i64 y']) := T1.out.setRow _
                    have N2 : Hid (NodesAt (V1.setRow h #[.slice a5 fx'.length c5, .slice a6 ps'.length c6, .int .i64 x', .int .i64 y']) a5 fx'.length fx') := N1.out.row4 T1.out rfl _
                    have O2 : Hid (OpsAt (V1.setRow h #[.slice a5 fx'.length c5, .slice a6 ps'.length c6, .int .i64 x', .int .i64 y']) a6 ps'.length ps') := O1.out.row4 T1.out rfl _
                    have G2 : Hid (Blk (V1.setRow h #[.slice a5 fx'.length c5, .slice a6 ps'.length c6, .int .i64 x', .int .i64 y']) 28 g #[.slice a1 l.length c1, .slice (some ⟨b, off, none⟩) ops.length c2, .int .i64 b1, .int .i64 b2]) := GX.out.setRowOther h (by have := Lh.out; omega) _
                    have R2 : Hid (Blk (V1.setRow h #[.slice a5 fx'.length c5, .slice a6 ps'.length c6, .int .i64 x', .int .i64 y']) 92 (g + 1) #[.slice none 0 0, .slice none 0 0, .int .i64 0, .int .i64 0]) := RR.out.setRowOther h (by have := Lh.out; omega) _
                    have B2 : Hid (Below w.heap.size w (V1.setRow h #[.slice a5 fx'.length c5, .slice a6 ps'.length c6, .int .i64 x', .int .i64 y'])) := below_setRow BB.out Lwh.out _
                    clear T1 N1 O1 GX RR BB X1 x0 x1 x2 x3 t1
                    go_wp2
                    refine ⟨⟨k + 1, fx', ps', x', y', a5, a6, c5, c6, by omega, by go_num, T2, N2, O2, K6, G2, R2, B2, HF2, HLe2⟩, ?_⟩
                    simp [intOf]; omega
                · have hf := HF.out
                  rw [if_pos hE] at hf
                  obtain ⟨rfl, rfl⟩ : Tn = emptyT ∧ R = E := ⟨congrArg Prod.fst hf, congrArg Prod.snd hf⟩
                  have gE : (R == 0) = false := by rw [beq_eq_false_iff_ne]; exact hE
                  clear hf HF
                  go_wp2_with (with_reducible refine wpList_storeBlkH rfl 92 _ _ rfl (g + 1) #[.slice none 0 0, .slice none 0 0, .int .i64 0, .int .i64 0] #[.slice none 0 0, .slice none 0 0, .int .i64 0, .int .i64 0] ?hxPB2 ?hyPB2 RR.out rfl ?hiPB2 ?h1PB2 ?_)
                  try (case hxPB2 => rfl)
                  try (case hyPB2 => rfl)
                  case hiPB2 => first | kernel_rfl | (refine Option.map_eq_some_iff.1 (?_ : (Tryz.prog.info? 92).map (·.size) = some 4); kernel_rfl)
                  case h1PB2 => simp [Value.oneCell']
                  unfold Hid
                  go_wp2
                  exact bodyPost_rowTmp rfl (g + 1) #[.slice none 0 0, .slice none 0 0, .int .i64 0, .int .i64 0] _ rfl rfl rfl (RR.out.setRow _) _ Tryz.underlying92 rfl (by kernel_rfl) ⟨_, rfl, emptyT_g F _, below_setRow BB.out Lg.out _⟩
            · have hk' : k = ops.length := by omega
              subst hk'
              have hf := HF.out
              rw [List.drop_length] at hf
              obtain ⟨rfl, rfl⟩ : Tn = (fx, ps, (x, y)) ∧ R = 0 := ⟨congrArg Prod.fst hf, congrArg Prod.snd hf⟩
              clear hf HF
              have HTV : Hid (∀ w', NodesAt w' a3 fx.length fx → OpsAt w' a4 ps.length ps → TreeG F w' (.agg #[.slice a3 fx.length c3, .slice a4 ps.length c4, .int .i64 x, .int .i64 y]) (fx, ps, (x, y))) := fun w' h1 h2 => ⟨a3, c3, a4, c4, rfl, h1, h2, K.out⟩
              go_wp2_with (with_reducible refine wpList_storeBlkH rfl 92 _ _ rfl (g + 1) #[.slice none 0 0, .slice none 0 0, .int .i64 0, .int .i64 0] #[.slice a3 fx.length c3, .slice a4 ps.length c4, .int .i64 x, .int .i64 y] ?hxP4 ?hyP4 RR0.out rfl ?hiP4 ?h1P4 ?_)
              try (case hxP4 => rfl)
              try (case hyP4 => rfl)
              case hiP4 => first | kernel_rfl | (refine Option.map_eq_some_iff.1 (?_ : (Tryz.prog.info? 92).map (·.size) = some 4); kernel_rfl)
              case h1P4 => simp [Value.oneCell']
              unfold Hid
              go_wp2
              exact bodyPost_rowTmp rfl (g + 1) #[.slice a3 fx.length c3, .slice a4 ps.length c4, .int .i64 x, .int .i64 y] _ rfl rfl rfl (RR0.out.setRow _) _ Tryz.underlying92 rfl (by kernel_rfl) ⟨_, rfl, HTV.out _ (N.out.row4 RR0.out rfl _) (O.out.row4 RR0.out rfl _), below_setRow BB0.out Lg.out _⟩
    · have hMay : MayS (b1, b2) := by
        by_cases h : MayS (b1, b2)
        · exact h
        · exact absurd (.inr ⟨hz, h⟩) hA
      have hEq := fun w => stampEq b1 b2 0 0 w
      rw [decide_eq_false hz] at hEq
      have CM : Hid (∀ w, Calls Tryz.prog 65 #[.agg #[.int .i64 b1, .int .i64 b2]] w fun e w' => e = .returned (.bool true) ∧ Below w.heap.size w w') := fun w => by
        have := rmayS_any (b1, b2) w
        rw [decide_eq_true hMay] at this; exact this
      clear hA hz hMay
      go_enter Tryz.func50, Tryz.ntmps50
      go_wp2_with fail
      rw [← hg, ← hw0]
      clear hg hw0
      refine (CM.out _).mono ?_
      rintro e w1 ⟨rfl, hb1⟩
      have G1 : Hid (Blk w1 28 g #[.slice a1 l.length c1, .slice a2 ops.length c2, .int .i64 b1, .int .i64 b2]) := G0.out.on hb1
      have R1 : Hid (Blk w1 92 (g + 1) #[.slice none 0 0, .slice none 0 0, .int .i64 0, .int .i64 0]) := R0.out.on hb1
      have B1 : Hid (Below w.heap.size w w1) := below_step hb0.out (Nat.le_refl _) hb1
      clear hb1 CM G0 R0 hb0
      go_wp2_with fail
      go_loopw [4] (fun i wr => ∃ k : Nat, k ≤ l.length ∧ i = .int .i64 k ∧ Hid (∀ j, j < k → G j = true) ∧ Hid (Below w1.heap.size w1 wr)) (fun i _ => l.length - (intOf i).toNat)
      case atStart => exact ⟨0, Nat.zero_le _, rfl, fun j hj => absurd hj (Nat.not_lt_zero _), Below.refl _ _⟩
      case round =>
        obtain ⟨k, hk, rfl, HGk, B⟩ := hrel
        have GG : Hid (Blk wr 28 g #[.slice a1 l.length c1, .slice a2 ops.length c2, .int .i64 b1, .int .i64 b2]) := G1.out.on B.out
        have RR1 : Hid (Blk wr 92 (g + 1) #[.slice none 0 0, .slice none 0 0, .int .i64 0, .int .i64 0]) := R1.out.on B.out
        have BB1 : Hid (Below w.heap.size w wr) := below_step B1.out (Nat.le_refl _) B.out
        have c0 : World.cell? _ ⟨g, 0, none⟩ = some (.slice a1 l.length c1) := GG.out.cell 0
        have c1' : World.cell? _ ⟨g, 1, none⟩ = some (.slice a2 ops.length c2) := GG.out.cell 1
        have c2' : World.cell? _ ⟨g, 2, none⟩ = some (.int .i64 b1) := GG.out.cell 2
        have c3' : World.cell? _ ⟨g, 3, none⟩ = some (.int .i64 b2) := GG.out.cell 3
        by_cases hlt : k < l.length
        · have d0 : (k : Int) < (l.length : Int) := by omega
          have CK : Hid (Calls Tryz.prog 66 #[.agg #[.slice a1 l.length c1, .slice a2 ops.length c2, .int .i64 b1, .int .i64 b2], .int .i64 (k : Int)] wr fun e w' => e = .returned (.bool (G k)) ∧ Below wr.heap.size wr w') := rnode_any l (b1, b2) a1 l.length c1 k _ wr (G k) (HG.out k hlt) (by omega) hlt (HSZ.out k hlt).1 (HSZ.out k hlt).2 (H1.out.below BB1.out)
          cases hGk : G k with
          | false =>
            rw [hGk] at CK
            have he := HE.out
            rw [if_pos (all_not G l.length k hlt hGk)] at he
            obtain ⟨rfl, rfl⟩ : Tn = emptyT ∧ R = 1 := ⟨congrArg Prod.fst he, congrArg Prod.snd he⟩
            clear he HE hGk HGk
            go_wp2_with fail
            refine Calls.mono CK.out ?_
            rintro e w3 ⟨rfl, hb3⟩
            have RR : Hid (Blk w3 92 (g + 1) #[.slice none 0 0, .slice none 0 0, .int .i64 0, .int .i64 0]) := RR1.out.on hb3
            have BB : Hid (Below w.heap.size w w3) := below_step BB1.out (Nat.le_refl _) hb3
            clear hb3 CK RR1 BB1 GG B c0 c1' c2' c3'
            go_wp2_with (with_reducible refine wpList_storeBlkH rfl 92 _ _ rfl (g + 1) #[.slice none 0 0, .slice none 0 0, .int .i64 0, .int .i64 0] #[.slice none 0 0, .slice none 0 0, .int .i64 0, .int .i64 0] ?hxb ?hyb RR.out rfl ?hib ?h1b ?_)
            try (case hxb => rfl)
            try (case hyb => rfl)
            case hib => first | kernel_rfl | (refine Option.map_eq_some_iff.1 (?_ : (Tryz.prog.info? 92).map (·.size) = some 4); kernel_rfl)
            case h1b => simp [Value.oneCell']
            unfold Hid
            go_wp2
            exact bodyPost_rowTmp rfl (g + 1) #[.slice none 0 0, .slice none 0 0, .int .i64 0, .int .i64 0] _ rfl rfl rfl (RR.out.setRow _) _ Tryz.underlying92 rfl (by kernel_rfl) ⟨_, rfl, emptyT_g F _, below_setRow BB.out Lg.out _⟩
          | true =>
            rw [hGk] at CK
            have HGn : Hid (∀ j, j < k + 1 → G j = true) := fun j hj => by
              by_cases e : j = k
              · rw [e]; exact hGk
              · exact HGk.out j (by omega)
            clear hGk HGk
            go_wp2_with fail
            refine Calls.mono CK.out ?_
            rintro e w3 ⟨rfl, hb3⟩
            have B3 : Hid (Below w1.heap.size w1 w3) := below_step B.out (Nat.le_refl _) hb3
            clear hb3 CK RR1 BB1 GG B c0 c1' c2' c3'
            go_wp2
            refine ⟨⟨k + 1, by omega, by go_num, HGn, B3⟩, ?_⟩
            simp [intOf]; omega
        · have hk' : k = l.length := by omega
          subst hk'
          have he := HE.out
          rw [if_neg (by rw [all_yes G l.length HGk.out]; decide)] at he
          have HE2 : Hid ((Tn, R) = ofF M ops (l, [], (b1, b2))) := he
          clear he HE HGk HG HSZ
          obtain ⟨h, hh⟩ : ∃ h, h = wr.heap.size := ⟨_, rfl⟩
          obtain ⟨W5, hW5⟩ : ∃ W5, W5 = wr.alloc (.cells #[.slice a1 l.length c1, .slice none 0 0, .int .i64 b1, .int .i64 b2] 92) := ⟨_, rfl⟩
          have hb5 : Hid (Below wr.heap.size wr W5) := by rw [hW5]; exact below_new _ _
          have T5 : Hid (Blk W5 92 h #[.slice a1 l.length c1, .slice none 0 0, .int .i64 b1, .int .i64 b2]) := by show Blk _ _ _ _; rw [hW5]; exact Blk.new' _ _ _ _ hh.symm
          have G5 : Hid (Blk W5 28 g #[.slice a1 l.length c1, .slice a2 ops.length c2, .int .i64 b1, .int .i64 b2]) := GG.out.on hb5.out
          have R5 : Hid (Blk W5 92 (g + 1) #[.slice none 0 0, .slice none 0 0, .int .i64 0, .int .i64 0]) := RR1.out.on hb5.out
          have B5 : Hid (Below w.heap.size w W5) := below_step BB1.out (Nat.le_refl _) hb5.out
          have Lh : Hid (g + 1 < h) := by show _ < _; rw [hh]; exact RR1.out.lt
          have Lwh : Hid (w.heap.size ≤ h) := by show _ ≤ _; rw [hh]; exact BB1.out.size
          have N5 : Hid (NodesAt W5 a1 l.length l) := H1.out.below B5.out
          go_wp2_with fail
          rw [← hh, ← hW5]
          clear hh hW5 hb5 GG RR1 BB1 B c0 c1' c2' c3'
          have hl5 : l.length ≤ 512 := h5
          go_loopw [6] (fun i wr => ∃ (k : Nat) (fx : List NodeT) (ps : List OpT) (x y : Int) (a3 a4 : Option Addr) (c3 c4 : Nat), k ≤ ops.length ∧ i = .int .i64 k ∧ Hid (Blk wr 92 h #[.slice a3 fx.length c3, .slice a4 ps.length c4, .int .i64 x, .int .i64 y]) ∧ Hid (NodesAt wr a3 fx.length fx) ∧ Hid (OpsAt wr a4 ps.length ps) ∧ Hid (SliceOk a4 ps.length c4 ∧ Far F fx.length a3 ∧ Far F ps.length a4) ∧ Hid (Blk wr 28 g #[.slice a1 l.length c1, .slice a2 ops.length c2, .int .i64 b1, .int .i64 b2]) ∧ Hid (Blk wr 92 (g + 1) #[.slice none 0 0, .slice none 0 0, .int .i64 0, .int .i64 0]) ∧ Hid (Below w.heap.size w wr) ∧ Hid ((Tn, R) = ofF M (ops.drop k) (fx, ps, (x, y))) ∧ Hid (fx.length + ps.length ≤ 512 + k)) (fun i _ => ops.length - (intOf i).toNat)
          case atStart => exact ⟨0, l, [], b1, b2, a1, none, c1, 0, Nat.zero_le _, rfl, T5, N5, ⟨rfl, .inl rfl⟩, ⟨.inl ⟨rfl, rfl, rfl⟩, HFar.out, fun h => absurd h (Nat.lt_irrefl 0)⟩, G5, R5, B5, by rw [List.drop_zero]; exact HE2, show _ ≤ _ by simpa using hl5⟩
          case round =>
            clear T5 N5 G5 R5 B5 HE2
            obtain ⟨k, fx, ps, x, y, a3, a4, c3, c4, hk, rfl, T, N, O, K, GG, RR0, BB0, HF, HLe⟩ := hrel
            have t0 : World.cell? _ ⟨h, 0, none⟩ = some (.slice a3 fx.length c3) := T.out.cell 0
            have t1 : World.cell? _ ⟨h, 1, none⟩ = some (.slice a4 ps.length c4) := T.out.cell 1
            have t2 : World.cell? _ ⟨h, 2, none⟩ = some (.int .i64 x) := T.out.cell 2
            have t3 : World.cell? _ ⟨h, 3, none⟩ = some (.int .i64 y) := T.out.cell 3
            have g1 : World.cell? _ ⟨g, 1, none⟩ = some (.slice a2 ops.length c2) := GG.out.cell 1
            by_cases hlt : k < ops.length
            · obtain ⟨b, off, rfl, _⟩ := H2.out.2.some (by omega)
              have d0 : (k : Int) < (ops.length : Int) := by omega
              obtain ⟨o, ho⟩ : ∃ o, o = oL ops k := ⟨_, rfl⟩
              have hst := ofF_step M ops k hlt (fx, ps, (x, y))
              have hso := HSO.out k hlt
              rw [← ho] at hst hso
              have HO : Hid (o = oL ops k) := ho
              clear ho
              have hf := HF.out
              rw [hst] at hf
              clear hst HF
              have hal := applyP_len M (fx, ps, (x, y)) o
              have CA := fun (w' : World) (hv : TreeX F w.heap.size w' (.agg #[.slice a3 fx.length c3, .slice a4 ps.length c4, .int .i64 x, .int .i64 y]) (fx, ps, (x, y))) => rapplyG_any M HM.out F (fx, ps, (x, y)) o _ w' (by have := HLe.out; show fx.length + ps.length ≤ 50000; omega) hso.1 hso.2 hv.1 (fun k hk => Nat.lt_of_lt_of_le (HBF.out k hk) hv.2)
              obtain ⟨⟨⟨fx', ps', x', y'⟩, E⟩, hap⟩ : ∃ r, applyP M (fx, ps, (x, y)) o = r := ⟨_, rfl⟩
              rw [hap] at hf hal CA
              obtain ⟨k0, ⟨k1, k2⟩, ⟨k3, k4⟩, ⟨k5, k6⟩, s, t⟩ := o
              have HCA : Hid (∀ w', TreeX F w.heap.size w' (.agg #[.slice a3 fx.length c3, .slice a4 ps.length c4, .int .i64 x, .int .i64 y]) (fx, ps, (x, y)) → Calls Tryz.prog 67 #[.agg #[.slice a3 fx.length c3, .slice a4 ps.length c4, .int .i64 x, .int .i64 y], .agg #[.int .i64 k0, .int .i64 k1, .int .i64 k2, .int .i64 k3, .int .i64 k4, .int .i64 k5, .int .i64 k6, .string s, .string t]] w' fun e w'' => ∃ v', e = .returned (.tuple #[v', .int .i64 E]) ∧ TreeG F w'' v' (fx', ps', (x', y')) ∧ Below w'.heap.size w' w'') := CA
              have HF : Hid ((Tn, R) = if E ≠ 0 then (emptyT, E) else if ps'.length = ps.length then (emptyT, 1) else ofF M (ops.drop (k + 1)) (fx', ps', (x', y'))) := hf
              have HLe2 : Hid (fx'.length + ps'.length ≤ 512 + (k + 1)) := by
                have h1 : fx' = fx := hal.1
                have h2 : ps'.length ≤ ps.length + 1 := hal.2
                have := HLe.out
                show _ ≤ _
                rw [h1]; omega
              clear hf hal CA hap hso HLe
              have HTV : Hid (∀ w', Below wr.heap.size wr w' → TreeX F w.heap.size w' (.agg #[.slice a3 fx.length c3, .slice a4 ps.length c4, .int .i64 x, .int .i64 y]) (fx, ps, (x, y))) := fun w' hb => ⟨⟨a3, c3, a4, c4, rfl, N.out.below hb, O.out.below hb, K.out⟩, Nat.le_trans BB0.out.size hb.size⟩
              have HS : Hid (∀ w', Below wr.heap.size wr w' → (w'.cell? ⟨h, 0, none⟩ = some (.slice a3 fx.length c3) ∧ w'.cell? ⟨h, 1, none⟩ = some (.slice a4 ps.length c4) ∧ w'.cell? ⟨h, 2, none⟩ = some (.int .i64 x) ∧ w'.cell? ⟨h, 3, none⟩ = some (.int .i64 y)) ∧ w'.cell? ⟨g, 1, none⟩ = some (.slice (some ⟨b, off, none⟩) ops.length c2) ∧ w'.cell? ⟨b, off + k * 9, none⟩ = some (.int .i64 k0) ∧ w'.cell? ⟨b, off + k * 9 + 1, none⟩ = some (.int .i64 k1) ∧ w'.cell? ⟨b, off + k * 9 + 2, none⟩ = some (.int .i64 k2) ∧ w'.cell? ⟨b, off + k * 9 + 3, none⟩ = some (.int .i64 k3) ∧ w'.cell? ⟨b, off + k * 9 + 4, none⟩ = some (.int .i64 k4) ∧ w'.cell? ⟨b, off + k * 9 + 5, none⟩ = some (.int .i64 k5) ∧ w'.cell? ⟨b, off + k * 9 + 6, none⟩ = some (.int .i64 k6) ∧ w'.cell? ⟨b, off + k * 9 + 7, none⟩ = some (.string s) ∧ w'.cell? ⟨b, off + k * 9 + 8, none⟩ = some (.string t)) := fun w' hb => by
                have hc := (H2.out.below (below_step BB0.out (Nat.le_refl _) hb)).cells k hlt
                rw [← HO.out] at hc
                exact ⟨⟨(T.out.on hb).cell 0, (T.out.on hb).cell 1, (T.out.on hb).cell 2, (T.out.on hb).cell 3⟩, (GG.out.on hb).cell 1, hc⟩
              have hS0 := HS.out _ (Below.refl wr.heap.size wr).drew
              clear t0 t1 t2 t3
              go_wp2_with fail
              refine wp_region_noPanic ?_
              refine wp_region_held_drew (S := fun w' => (w'.cell? ⟨h, 0, none⟩ = some (.slice a3 fx.length c3) ∧ w'.cell? ⟨h, 1, none⟩ = some (.slice a4 ps.length c4) ∧ w'.cell? ⟨h, 2, none⟩ = some (.int .i64 x) ∧ w'.cell? ⟨h, 3, none⟩ = some (.int .i64 y)) ∧ w'.cell? ⟨g, 1, none⟩ = some (.slice (some ⟨b, off, none⟩) ops.length c2) ∧ w'.cell? ⟨b, off + k * 9, none⟩ = some (.int .i64 k0) ∧ w'.cell? ⟨b, off + k * 9 + 1, none⟩ = some (.int .i64 k1) ∧ w'.cell? ⟨b, off + k * 9 + 2, none⟩ = some (.int .i64 k2) ∧ w'.cell? ⟨b, off + k * 9 + 3, none⟩ = some (.int .i64 k3) ∧ w'.cell? ⟨b, off + k * 9 + 4, none⟩ = some (.int .i64 k4) ∧ w'.cell? ⟨b, off + k * 9 + 5, none⟩ = some (.int .i64 k5) ∧ w'.cell? ⟨b, off + k * 9 + 6, none⟩ = some (.int .i64 k6) ∧ w'.cell? ⟨b, off + k * 9 + 7, none⟩ = some (.string s) ∧ w'.cell? ⟨b, off + k * 9 + 8, none⟩ = some (.string t)) (by kernel_rfl) (by first | exact trivial | assumption | exact ⟨by assumption, by assumption⟩) (fun hHeld => ?_)
              refine tk 0 (v := ?_) rfl rfl ?_ ?_
              rotate_left
              · intro w hSw; (try dsimp only at hSw); go_simp; try with_reducible rfl
              try simp only [Act.put, za, zb, zc]
              refine tk 1 (v := ?_) rfl rfl ?_ ?_
              rotate_left
              · intro w hSw; (try dsimp only at hSw); go_simp; try with_reducible rfl
              try simp only [Act.put, za, zb, zc]
              refine tk 2 (v := ?_) rfl rfl ?_ ?_
              rotate_left
              · intro w hSw; (try dsimp only at hSw); go_simp; try with_reducible rfl
              try simp only [Act.put, za, zb, zc]
              refine tk 3 (v := ?_) rfl rfl ?_ ?_
              rotate_left
              · intro w hSw; (try dsimp only at hSw); go_simp; try with_reducible rfl
              try simp only [Act.put, za, zb, zc]
              refine tk 4 (v := ?_) rfl rfl ?_ ?_
              rotate_left
              · intro w hSw; (try dsimp only at hSw); go_simp; try with_reducible rfl
              try simp only [Act.put, za, zb, zc]
              refine tk 5 (v := ?_) rfl rfl ?_ ?_
              rotate_left
              · intro w hSw; (try dsimp only at hSw); go_simp; try with_reducible rfl
              try simp only [Act.put, za, zb, zc]
              refine wpAnyH_ready (rs := [6, 10]) (by kernel_rfl) (by simp) ?_
              refine AllReadyH.cons rfl (fun K2 hK => ?_) (AllReadyH.cons rfl (fun K2 hK => ?_) AllReadyH.nil)
              · go_simp
                refine (HCA.out _ (HTV.out _ (Below.refl wr.heap.size wr).drew)).mono ?_
                rintro e w6 ⟨v6, rfl, hv6, hb6⟩
                obtain ⟨a5, c5, a6, c6, rfl, n6, o6, s6⟩ := hv6
                have hbw : Hid (Below wr.heap.size wr w6) := below_step (Below.refl wr.heap.size wr).drew (Nat.le_refl _) hb6
                have N6 : Hid (NodesAt w6 a5 fx'.length fx') := n6
                have O6 : Hid (OpsAt w6 a6 ps'.length ps') := o6
                have K6 : Hid (SliceOk a6 ps'.length c6 ∧ Far F fx'.length a5 ∧ Far F ps'.length a6) := s6
                clear hb6 n6 o6 s6
                refine hK.out _ _ (HS.out _ hbw.out) (fun hHeld => ?_)
                clear hK K2
                refine tk 7 (v := ?_) rfl rfl ?_ ?_
                rotate_left
                · intro w hSw; (try dsimp only at hSw); go_simp; try with_reducible rfl
                try simp only [Act.put, za, zb, zc]
                refine tk 8 (v := ?_) rfl rfl ?_ ?_
                rotate_left
                · intro w hSw; (try dsimp only at hSw); go_simp; try with_reducible rfl
                try simp only [Act.put, za, zb, zc]
                refine tk 9 (v := ?_) rfl rfl ?_ ?_
                rotate_left
                · intro w hSw; (try dsimp only at hSw); go_simp; try with_reducible rfl
                try simp only [Act.put, za, zb, zc]
                refine wpAnyH_ready (rs := [10]) (by kernel_rfl) (by simp) ?_
                refine AllReadyH.cons rfl (fun K hK => ?_) AllReadyH.nil
                go_simp
                refine hK.out _ _ (HS.out _ (below_step hbw.out (Nat.le_refl _) (below_new _ _))) (fun hHeld => ?_)
                clear hK K
                refine wpAnyH_ready (rs := [11]) (by kernel_rfl) (by simp) ?_
                refine AllReadyH.cons rfl (fun K hK => ?_) AllReadyH.nil
                go_simp
                refine hK.out _ _ (HS.out _ (below_step hbw.out (Nat.le_refl _) (below_new _ _))) (fun hHeld => ?_)
                clear hK K
                refine tk 12 (v := ?_) rfl rfl ?_ ?_
                rotate_left
                · intro w hSw; (try dsimp only at hSw); go_simp; try with_reducible rfl
                try simp only [Act.put, za, zb, zc]
                refine wpAnyH_done (by kernel_rfl) (NoPanic.normal ?_) _
                obtain ⟨h2, hh2⟩ : ∃ h2, h2 = w6.heap.size := ⟨_, rfl⟩
                obtain ⟨V1, hV1⟩ : ∃ V1, V1 = w6.alloc (.cells #[.slice a5 fx'.length c5, .slice a6 ps'.length c6, .int .i64 x', .int .i64 y'] 92) := ⟨_, rfl⟩
                have hbV : Hid (Below wr.heap.size wr V1) := by rw [hV1]; exact below_step hbw.out (Nat.le_refl _) (below_new _ _)
                have hb6V : Hid (Below w6.heap.size w6 V1) := by rw [hV1]; exact below_new _ _
                have X1 : Hid (Blk V1 92 h2 #[.slice a5 fx'.length c5, .slice a6 ps'.length c6, .int .i64 x', .int .i64 y']) := by show Blk _ _ _ _; rw [hV1]; exact Blk.new' _ _ _ _ hh2.symm
                have N1 : Hid (NodesAt V1 a5 fx'.length fx') := N6.out.below hb6V.out
                have O1 : Hid (OpsAt V1 a6 ps'.length ps') := O6.out.below hb6V.out
                rw [← hV1, ← hh2]
                clear hV1 hh2 hb6V N6 O6 hbw
                have T1 : Hid (Blk V1 92 h #[.slice a3 fx.length c3, .slice a4 ps.length c4, .int .i64 x, .int .i64 y]) := T.out.on hbV.out
                have GX : Hid (Blk V1 28 g #[.slice a1 l.length c1, .slice (some ⟨b, off, none⟩) ops.length c2, .int .i64 b1, .int .i64 b2]) := GG.out.on hbV.out
                have RR : Hid (Blk V1 92 (g + 1) #[.slice none 0 0, .slice none 0 0, .int .i64 0, .int .i64 0]) := RR0.out.on hbV.out
                have BB : Hid (Below w.heap.size w V1) := below_step BB0.out (Nat.le_refl _) hbV.out
                clear T N O K GG RR0 BB0 hbV HS HTV hS0 hHeld g1
                have x0 : V1.cell? ⟨h2, 0, none⟩ = some (.slice a5 fx'.length c5) := X1.out.cell 0
                have x1 : V1.cell? ⟨h2, 1, none⟩ = some (.slice a6 ps'.length c6) := X1.out.cell 1
                have x2 : V1.cell? ⟨h2, 2, none⟩ = some (.int .i64 x') := X1.out.cell 2
                have x3 : V1.cell? ⟨h2, 3, none⟩ = some (.int .i64 y') := X1.out.cell 3
                have t1 : V1.cell? ⟨h, 1, none⟩ = some (.slice a4 ps.length c4) := T1.out.cell 1
                by_cases hE : E = 0
                · subst hE
                  have hf := HF.out
                  rw [if_neg (by simp)] at hf
                  by_cases hps : ps'.length = ps.length
                  · rw [if_pos hps] at hf
                    obtain ⟨rfl, rfl⟩ : Tn = emptyT ∧ R = 1 := ⟨congrArg Prod.fst hf, congrArg Prod.snd hf⟩
                    have geq : ((ps'.length : Int) == (ps.length : Int)) = true := by rw [beq_iff_eq, hps]
                    have geq2 : (ps'.length : Int) = (ps.length : Int) := by rw [hps]
                    clear hf HF hps
                    go_wp2_with (with_reducible refine wpList_storeBlkH rfl 92 _ _ rfl (g + 1) #[.slice none 0 0, .slice none 0 0, .int .i64 0, .int .i64 0] #[.slice none 0 0, .slice none 0 0, .int .i64 0, .int .i64 0] ?hxQA1 ?hyQA1 RR.out rfl ?hiQA1 ?h1QA1 ?_)
                    try (case hxQA1 => rfl)
                    try (case hyQA1 => rfl)
                    case hiQA1 => first | kernel_rfl | (refine Option.map_eq_some_iff.1 (?_ : (Tryz.prog.info? 92).map (·.size) = some 4); kernel_rfl)
                    case h1QA1 => simp [Value.oneCell']
                    unfold Hid
                    go_wp2
                    exact bodyPost_rowTmp rfl (g + 1) #[.slice none 0 0, .slice none 0 0, .int .i64 0, .int .i64 0] _ rfl rfl rfl (RR.out.setRow _) _ Tryz.underlying92 rfl (by kernel_rfl) ⟨_, rfl, emptyT_g F _, below_setRow BB.out Lg.out _⟩
                  · rw [if_neg hps] at hf
                    have HF2 : Hid ((Tn, R) = ofF M (ops.drop (k + 1)) (fx', ps', (x', y'))) := hf
                    have gne : ((ps'.length : Int) == (ps.length : Int)) = false := by rw [beq_eq_false_iff_ne]; omega
                    have gne2 : ¬ ((ps'.length : Int) = (ps.length : Int)) := by omega
                    clear hf HF hps
                    go_wp2_with (with_reducible refine wpList_storeBlkH rfl 92 _ _ rfl h #[.slice a3 fx.length c3, .slice a4 ps.length c4, .int .i64 x, .int .i64 y] #[.slice a5 fx'.length c5, .slice a6 ps'.length c6, .int .i64 x', .int .i64 y'] ?hxQA3 ?hyQA3 T1.out rfl ?hiQA3 ?h1QA3 ?_)
                    try (case hxQA3 => rfl)
                    try (case hyQA3 => rfl)
                    case hiQA3 => first | kernel_rfl | (refine Option.map_eq_some_iff.1 (?_ : (Tryz.prog.info? 92).map (·.size) = some 4); kernel_rfl)
                    case h1QA3 => simp [Value.oneCell']
                    unfold Hid
                    have T2 : Hid (Blk (V1.setRow h #[.slice a5 fx'.length c5, .slice a6 ps'.length c6, .int .i64 x', .int .i64 y']) 92 h #[.slice a5 fx'.length c5, .slice a6 ps'.length c6, .int .i64 x', .int .i64 y']) := T1.out.setRow _
                    have N2 : Hid (NodesAt (V1.setRow h #[.slice a5 fx'.length c5, .slice a6 ps'.length c6, .int .i64 x', .int .i64 y']) a5 fx'.length fx') := N1.out.row4 T1.out rfl _
                    have O2 : Hid (OpsAt (V1.setRow h #[.slice a5 fx'.length c5, .slice a6 ps'.length c6, .int .i64 x', .int .i64 y']) a6 ps'.length ps') := O1.out.row4 T1.out rfl _
                    have G2 : Hid (Blk (V1.setRow h #[.slice a5 fx'.length c5, .slice a6 ps'.length c6, .int .i64 x', .int .i64 y']) 28 g #[.slice a1 l.length c1, .slice (some ⟨b, off, none⟩) ops.length c2, .int .i64 b1, .int .i64 b2]) := GX.out.setRowOther h (by have := Lh.out; omega) _
                    have R2 : Hid (Blk (V1.setRow h #[.slice a5 fx'.length c5, .slice a6 ps'.length c6, .int .i64 x', .int .i64 y']) 92 (g + 1) #[.slice none 0 0, .slice none 0 0, .int .i64 0, .int .i64 0]) := RR.out.setRowOther h (by have := Lh.out; omega) _
                    have B2 : Hid (Below w.heap.size w (V1.setRow h #[.slice a5 fx'.length c5, .slice a6 ps'.length c6, .int .i64 x', .int .i64 y'])) := below_setRow BB.out Lwh.out _
                    clear T1 N1 O1 GX RR BB X1 x0 x1 x2 x3 t1
                    go_wp2
                    refine ⟨⟨k + 1, fx', ps', x', y', a5, a6, c5, c6, by omega, by go_num, T2, N2, O2, K6, G2, R2, B2, HF2, HLe2⟩, ?_⟩
                    simp [intOf]; omega
                · have hf := HF.out
                  rw [if_pos hE] at hf
                  obtain ⟨rfl, rfl⟩ : Tn = emptyT ∧ R = E := ⟨congrArg Prod.fst hf, congrArg Prod.snd hf⟩
                  have gE : (R == 0) = false := by rw [beq_eq_false_iff_ne]; exact hE
                  clear hf HF
                  go_wp2_with (with_reducible refine wpList_storeBlkH rfl 92 _ _ rfl (g + 1) #[.slice none 0 0, .slice none 0 0, .int .i64 0, .int .i64 0] #[.slice none 0 0, .slice none 0 0, .int .i64 0, .int .i64 0] ?hxQA2 ?hyQA2 RR.out rfl ?hiQA2 ?h1QA2 ?_)
                  try (case hxQA2 => rfl)
                  try (case hyQA2 => rfl)
                  case hiQA2 => first | kernel_rfl | (refine Option.map_eq_some_iff.1 (?_ : (Tryz.prog.info? 92).map (·.size) = some 4); kernel_rfl)
                  case h1QA2 => simp [Value.oneCell']
                  unfold Hid
                  go_wp2
                  exact bodyPost_rowTmp rfl (g + 1) #[.slice none 0 0, .slice none 0 0, .int .i64 0, .int .i64 0] _ rfl rfl rfl (RR.out.setRow _) _ Tryz.underlying92 rfl (by kernel_rfl) ⟨_, rfl, emptyT_g F _, below_setRow BB.out Lg.out _⟩
              · go_simp
                have hb0w : Hid (Below wr.heap.size wr (wr.drew.alloc (.cells #[.slice none 0 0, .slice none 0 0, .int .i64 0, .int .i64 0] 92))) := (Below.refl wr.heap.size wr).drew.alloc (Nat.le_refl _) _
                have S0 : Hid (Blk (wr.drew.alloc (.cells #[.slice none 0 0, .slice none 0 0, .int .i64 0, .int .i64 0] 92)) 92 wr.heap.size #[.slice none 0 0, .slice none 0 0, .int .i64 0, .int .i64 0]) := Blk.new' _ _ _ _ rfl
                refine hK.out _ _ (HS.out _ hb0w.out) (fun hHeld => ?_)
                clear hK K2
                refine wpAnyH_ready (rs := [6]) (by kernel_rfl) (by simp) ?_
                refine AllReadyH.cons rfl (fun K hK => ?_) AllReadyH.nil
                go_simp
                refine (HCA.out _ (HTV.out _ hb0w.out)).mono ?_
                rintro e w6 ⟨v6, rfl, hv6, hb6⟩
                obtain ⟨a5, c5, a6, c6, rfl, n6, o6, s6⟩ := hv6
                have hbw : Hid (Below wr.heap.size wr w6) := below_step hb0w.out (Nat.le_refl _) hb6
                have S6 : Hid (Blk w6 92 wr.heap.size #[.slice none 0 0, .slice none 0 0, .int .i64 0, .int .i64 0]) := S0.out.on hb6
                have N6 : Hid (NodesAt w6 a5 fx'.length fx') := n6
                have O6 : Hid (OpsAt w6 a6 ps'.length ps') := o6
                have K6 : Hid (SliceOk a6 ps'.length c6 ∧ Far F fx'.length a5 ∧ Far F ps'.length a6) := s6
                clear hb6 n6 o6 s6 S0 hb0w
                refine hK.out _ _ (HS.out _ hbw.out) (fun hHeld => ?_)
                clear hK K
                refine tk 7 (v := ?_) rfl rfl ?_ ?_
                rotate_left
                · intro w hSw; (try dsimp only at hSw); go_simp; try with_reducible rfl
                try simp only [Act.put, za, zb, zc]
                refine tk 8 (v := ?_) rfl rfl ?_ ?_
                rotate_left
                · intro w hSw; (try dsimp only at hSw); go_simp; try with_reducible rfl
                try simp only [Act.put, za, zb, zc]
                refine tk 9 (v := ?_) rfl rfl ?_ ?_
                rotate_left
                · intro w hSw; (try dsimp only at hSw); go_simp; try with_reducible rfl
                try simp only [Act.put, za, zb, zc]
                have i0 : w6.cell? ⟨wr.heap.size, 0, none⟩ = some (.slice none 0 0) := S6.out.cell 0
                have i1 : w6.cell? ⟨wr.heap.size, 1, none⟩ = some (.slice none 0 0) := S6.out.cell 1
                have i2 : w6.cell? ⟨wr.heap.size, 2, none⟩ = some (.int .i64 0) := S6.out.cell 2
                have i3 : w6.cell? ⟨wr.heap.size, 3, none⟩ = some (.int .i64 0) := S6.out.cell 3
                have j0 := S6.out.free 0
                have j1 := S6.out.free 1
                have j2 := S6.out.free 2
                have j3 := S6.out.free 3
                obtain ⟨V1, hV1⟩ : ∃ V1, V1 = (((w6.setCell ⟨wr.heap.size, 0, none⟩ (.slice a5 fx'.length c5)).setCell ⟨wr.heap.size, 1, none⟩ (.slice a6 ps'.length c6)).setCell ⟨wr.heap.size, 2, none⟩ (.int .i64 x')).setCell ⟨wr.heap.size, 3, none⟩ (.int .i64 y') := ⟨_, rfl⟩
                have hbV : Hid (Below wr.heap.size wr V1) := by
                  rw [hV1]
                  exact (((hbw.out.setCell (p := ⟨wr.heap.size, 0, none⟩) (Nat.le_refl _) _).setCell (p := ⟨wr.heap.size, 1, none⟩) (Nat.le_refl _) _).setCell (p := ⟨wr.heap.size, 2, none⟩) (Nat.le_refl _) _).setCell (p := ⟨wr.heap.size, 3, none⟩) (Nat.le_refl _) _
                have X1 : Hid (Blk V1 92 wr.heap.size #[.slice a5 fx'.length c5, .slice a6 ps'.length c6, .int .i64 x', .int .i64 y']) := by show Blk _ _ _ _; rw [hV1]; exact (((S6.out.setAt 0 _).setAt 1 _).setAt 2 _).setAt 3 _
                have N1 : Hid (NodesAt V1 a5 fx'.length fx') := by
                  rw [hV1]
                  exact (((N6.out.set4 S6.out rfl 0 _).set4 (S6.out.setAt 0 _) rfl 1 _).set4 ((S6.out.setAt 0 _).setAt 1 _) rfl 2 _).set4 (((S6.out.setAt 0 _).setAt 1 _).setAt 2 _) rfl 3 _
                have O1 : Hid (OpsAt V1 a6 ps'.length ps') := by
                  rw [hV1]
                  exact (((O6.out.set4 S6.out rfl 0 _).set4 (S6.out.setAt 0 _) rfl 1 _).set4 ((S6.out.setAt 0 _).setAt 1 _) rfl 2 _).set4 (((S6.out.setAt 0 _).setAt 1 _).setAt 2 _) rfl 3 _
                refine wpAnyH_ready (rs := [11]) (by kernel_rfl) (by simp) ?_
                refine AllReadyH.cons rfl (fun K hK => ?_) AllReadyH.nil
                go_simp
                rw [← hV1]
                refine hK.out _ _ (HS.out _ hbV.out) (fun hHeld => ?_)
                clear hK K
                refine tk 12 (v := ?_) rfl rfl ?_ ?_
                rotate_left
                · intro w hSw; (try dsimp only at hSw); go_simp; try with_reducible rfl
                try simp only [Act.put, za, zb, zc]
                refine wpAnyH_done (by kernel_rfl) (NoPanic.normal ?_) _
                obtain ⟨h2, hh2⟩ : ∃ h2, h2 = wr.heap.size := ⟨_, rfl⟩
                rw [← hh2] at X1 ⊢
                clear hV1 hbw N6 O6 S6 i0 i1 i2 i3 j0 j1 j2 j3 hh2
                have T1 : Hid (Blk V1 92 h #[.slice a3 fx.length c3, .slice a4 ps.length c4, .int .i64 x, .int .i64 y]) := T.out.on hbV.out
                have GX : Hid (Blk V1 28 g #[.slice a1 l.length c1, .slice (some ⟨b, off, none⟩) ops.length c2, .int .i64 b1, .int .i64 b2]) := GG.out.on hbV.out
                have RR : Hid (Blk V1 92 (g + 1) #[.slice none 0 0, .slice none 0 0, .int .i64 0, .int .i64 0]) := RR0.out.on hbV.out
                have BB : Hid (Below w.heap.size w V1) := below_step BB0.out (Nat.le_refl _) hbV.out
                clear T N O K GG RR0 BB0 hbV HS HTV hS0 hHeld g1
                have x0 : V1.cell? ⟨h2, 0, none⟩ = some (.slice a5 fx'.length c5) := X1.out.cell 0
                have x1 : V1.cell? ⟨h2, 1, none⟩ = some (.slice a6 ps'.length c6) := X1.out.cell 1
                have x2 : V1.cell? ⟨h2, 2, none⟩ = some (.int .i64 x') := X1.out.cell 2
                have x3 : V1.cell? ⟨h2, 3, none⟩ = some (.int .i64 y') := X1.out.cell 3
                have t1 : V1.cell? ⟨h, 1, none⟩ = some (.slice a4 ps.length c4) := T1.out.cell 1
                by_cases hE : E = 0
                · subst hE
                  have hf := HF.out
                  rw [if_neg (by simp)] at hf
                  by_cases hps : ps'.length = ps.length
                  · rw [if_pos hps] at hf
                    obtain ⟨rfl, rfl⟩ : Tn = emptyT ∧ R = 1 := ⟨congrArg Prod.fst hf, congrArg Prod.snd hf⟩
                    have geq : ((ps'.length : Int) == (ps.length : Int)) = true := by rw [beq_iff_eq, hps]
                    have geq2 : (ps'.length : Int) = (ps.length : Int) := by rw [hps]
                    clear hf HF hps
                    go_wp2_with (with_reducible refine wpList_storeBlkH rfl 92 _ _ rfl (g + 1) #[.slice none 0 0, .slice none 0 0, .int .i64 0, .int .i64 0] #[.slice none 0 0, .slice none 0 0, .int .i64 0, .int .i64 0] ?hxQB1 ?hyQB1 RR.out rfl ?hiQB1 ?h1QB1 ?_)
                    try (case hxQB1 => rfl)
                    try (case hyQB1 => rfl)
                    case hiQB1 => first | kernel_rfl | (refine Option.map_eq_some_iff.1 (?_ : (Tryz.prog.info? 92).map (·.size) = some 4); kernel_rfl)
                    case h1QB1 => simp [Value.oneCell']
                    unfold Hid
                    go_wp2
                    exact bodyPost_rowTmp rfl (g + 1) #[.slice none 0 0, .slice none 0 0, .int .i64 0, .int .i64 0] _ rfl rfl rfl (RR.out.setRow _) _ Tryz.underlying92 rfl (by kernel_rfl) ⟨_, rfl, emptyT_g F _, below_setRow BB.out Lg.out _⟩
                  · rw [if_neg hps] at hf
                    have HF2 : Hid ((Tn, R) = ofF M (ops.drop (k + 1)) (fx', ps', (x', y'))) := hf
                    have gne : ((ps'.length : Int) == (ps.length : Int)) = false := by rw [beq_eq_false_iff_ne]; omega
                    have gne2 : ¬ ((ps'.length : Int) = (ps.length : Int)) := by omega
                    clear hf HF hps
                    go_wp2_with (with_reducible refine wpList_storeBlkH rfl 92 _ _ rfl h #[.slice a3 fx.length c3, .slice a4 ps.length c4, .int .i64 x, .int .i64 y] #[.slice a5 fx'.length c5, .slice a6 ps'.length c6, .int .i64 x', .int .i64 y'] ?hxQB3 ?hyQB3 T1.out rfl ?hiQB3 ?h1QB3 ?_)
                    try (case hxQB3 => rfl)
                    try (case hyQB3 => rfl)
                    case hiQB3 => first | kernel_rfl | (refine Option.map_eq_some_iff.1 (?_ : (Tryz.prog.info? 92).map (·.size) = some 4); kernel_rfl)
                    case h1QB3 => simp [Value.oneCell']
                    unfold Hid
                    have T2 : Hid (Blk (V1.setRow h #[.slice a5 fx'.length c5, .slice a6 ps'.length c6, .int .i64 x', .int .i64 y']) 92 h #[.slice a5 fx'.length c5, .slice a6 ps'.length c6, .int .i64 x', .int .i64 y']) := T1.out.setRow _
                    have N2 : Hid (NodesAt (V1.setRow h #[.slice a5 fx'.length c5, .slice a6 ps'.length c6, .int .i64 x', .int .i64 y']) a5 fx'.length fx') := N1.out.row4 T1.out rfl _
                    have O2 : Hid (OpsAt (V1.setRow h #[.slice a5 fx'.length c5, .slice a6 ps'.length c6, .int .i64 x', .int .i64 y']) a6 ps'.length ps') := O1.out.row4 T1.out rfl _
                    have G2 : Hid (Blk (V1.setRow h #[.slice a5 fx'.length c5, .slice a6 ps'.length c6, .int .i64 x', .int .i64 y']) 28 g #[.slice a1 l.length c1, .slice (some ⟨b, off, none⟩) ops.length c2, .int .i64 b1, .int .i64 b2]) := GX.out.setRowOther h (by have := Lh.out; omega) _
                    have R2 : Hid (Blk (V1.setRow h #[.slice a5 fx'.length c5, .slice a6 ps'.length c6, .int .i64 x', .int .i64 y']) 92 (g + 1) #[.slice none 0 0, .slice none 0 0, .int .i64 0, .int .i64 0]) := RR.out.setRowOther h (by have := Lh.out; omega) _
                    have B2 : Hid (Below w.heap.size w (V1.setRow h #[.slice a5 fx'.length c5, .slice a6 ps'.length c6, .int .i64 x', .int .i64 y'])) := below_setRow BB.out Lwh.out _
                    clear T1 N1 O1 GX RR BB X1 x0 x1 x2 x3 t1
                    go_wp2
                    refine ⟨⟨k + 1, fx', ps', x', y', a5, a6, c5, c6, by omega, by go_num, T2, N2, O2, K6, G2, R2, B2, HF2, HLe2⟩, ?_⟩
                    simp [intOf]; omega
                · have hf := HF.out
                  rw [if_pos hE] at hf
                  obtain ⟨rfl, rfl⟩ : Tn = emptyT ∧ R = E := ⟨congrArg Prod.fst hf, congrArg Prod.snd hf⟩
                  have gE : (R == 0) = false := by rw [beq_eq_false_iff_ne]; exact hE
                  clear hf HF
                  go_wp2_with (with_reducible refine wpList_storeBlkH rfl 92 _ _ rfl (g + 1) #[.slice none 0 0, .slice none 0 0, .int .i64 0, .int .i64 0] #[.slice none 0 0, .slice none 0 0, .int .i64 0, .int .i64 0] ?hxQB2 ?hyQB2 RR.out rfl ?hiQB2 ?h1QB2 ?_)
                  try (case hxQB2 => rfl)
                  try (case hyQB2 => rfl)
                  case hiQB2 => first | kernel_rfl | (refine Option.map_eq_some_iff.1 (?_ : (Tryz.prog.info? 92).map (·.size) = some 4); kernel_rfl)
                  case h1QB2 => simp [Value.oneCell']
                  unfold Hid
                  go_wp2
                  exact bodyPost_rowTmp rfl (g + 1) #[.slice none 0 0, .slice none 0 0, .int .i64 0, .int .i64 0] _ rfl rfl rfl (RR.out.setRow _) _ Tryz.underlying92 rfl (by kernel_rfl) ⟨_, rfl, emptyT_g F _, below_setRow BB.out Lg.out _⟩
            · have hk' : k = ops.length := by omega
              subst hk'
              have hf := HF.out
              rw [List.drop_length] at hf
              obtain ⟨rfl, rfl⟩ : Tn = (fx, ps, (x, y)) ∧ R = 0 := ⟨congrArg Prod.fst hf, congrArg Prod.snd hf⟩
              clear hf HF
              have HTV : Hid (∀ w', NodesAt w' a3 fx.length fx → OpsAt w' a4 ps.length ps → TreeG F w' (.agg #[.slice a3 fx.length c3, .slice a4 ps.length c4, .int .i64 x, .int .i64 y]) (fx, ps, (x, y))) := fun w' h1 h2 => ⟨a3, c3, a4, c4, rfl, h1, h2, K.out⟩
              go_wp2_with (with_reducible refine wpList_storeBlkH rfl 92 _ _ rfl (g + 1) #[.slice none 0 0, .slice none 0 0, .int .i64 0, .int .i64 0] #[.slice a3 fx.length c3, .slice a4 ps.length c4, .int .i64 x, .int .i64 y] ?hxQ4 ?hyQ4 RR0.out rfl ?hiQ4 ?h1Q4 ?_)
              try (case hxQ4 => rfl)
              try (case hyQ4 => rfl)
              case hiQ4 => first | kernel_rfl | (refine Option.map_eq_some_iff.1 (?_ : (Tryz.prog.info? 92).map (·.size) = some 4); kernel_rfl)
              case h1Q4 => simp [Value.oneCell']
              unfold Hid
              go_wp2
              exact bodyPost_rowTmp rfl (g + 1) #[.slice a3 fx.length c3, .slice a4 ps.length c4, .int .i64 x, .int .i64 y] _ rfl rfl rfl (RR0.out.setRow _) _ Tryz.underlying92 rfl (by kernel_rfl) ⟨_, rfl, HTV.out _ (N.out.row4 RR0.out rfl _) (O.out.row4 RR0.out rfl _), below_setRow BB0.out Lg.out _⟩

end Go.Proofs.YtogbkfakihnbdaaGreatDoor
