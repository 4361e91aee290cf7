/- The walk of TreeRooted (layer 11). -/
import Derived.Test.YtmfckdhincffkaaDoorTmFw
namespace Go.Proofs.YtmfckdhincffkaaDoor
open Go.RowKit
set_option linter.unusedSimpArgs false

/-- A tree, a row of nodes, and a stamp's cell, of the call's own. -/
structure RoS (w wr : World) (g f m : Nat) (r : Option Nat) (T : TreeT) (B : Nat) (v : Value) (N : List NodeT) : Prop where
  tr : Tr w wr g f m r T
  own : OwnN wr B v N
  old : ∀ k, tfoot g f m r k → k < B
  base : w.heap.size ≤ B
  top : B ≤ wr.heap.size

theorem RoS.on {w wr w' : World} {g f m : Nat} {r : Option Nat} {T : TreeT} {B : Nat} {v : Value} {N : List NodeT} (h : RoS w wr g f m r T B v N) (hb : Below wr.heap.size wr w') : RoS w w' g f m r T B v N :=
  ⟨h.tr.on hb, owns_on h.own hb, h.old, h.base, Nat.le_trans h.top hb.size⟩

theorem RoS.get {w wr w' : World} {g f m : Nat} {r : Option Nat} {T : TreeT} {B : Nat} {v : Value} {N : List NodeT} (h : RoS w wr g f m r T B v N) (hT : TreeIn w' g f m r T) (hK : KeptF (tfoot g f m r) wr w') : RoS w w' g f m r T B v N :=
  ⟨h.tr.next hT hK (Nx.refl _ _), owns_same h.own (fun k hv => hK.block k (World.ownsRow.lt h.own k hv).2 (fun hf => by have h1 := h.old k hf; have h2 := (World.ownsRow.lt h.own k hv).1; omega)), h.old, h.base, Nat.le_trans h.top hK.size⟩

theorem RoS.set {w wr : World} {g f m : Nat} {r : Option Nat} {T : TreeT} {B : Nat} {v : Value} {N : List NodeT} (h : RoS w wr g f m r T B v N) (hp : Nat) (hB : B ≤ hp) (hv : ∀ k, v.ownBlock = some k → k < hp) (cs : Array Value) : RoS w (wr.setRow hp cs) g f m r T B v N := by
  have hs : ∀ k, k ≠ hp → (wr.setRow hp cs).heap[k]? = wr.heap[k]? := fun k hk => setRow_other wr hp k cs hk
  refine ⟨⟨h.tr.tree.same (fun k hk => hs k (by have := h.old k hk; omega)), below_setRow h.tr.bel (Nat.le_trans h.base hB) cs, h.tr.new⟩, owns_same h.own (fun k hk => hs k (by have := hv k hk; omega)), h.old, h.base, by simpa [World.setRow] using h.top⟩

theorem up_mem {l : List NodeT} {x z : NodeT} (hx : x ∈ l) {k : Nat} (h : Up l x k z) : z ∈ l := by
  cases k with
  | zero => have e : z = x := h; rw [e]; exact hx
  | succ k => obtain ⟨y, _, h2, _⟩ := h; exact h2


set_option maxRecDepth 100000 in
set_option maxHeartbeats 4000000 in
theorem treeRooted_walk (a : Option Addr) (l : List OpT) (n c : Nat) (w : World) (hm : n ≤ maxLen) (hI : OpsAt w a n l) (hz : ∀ q ∈ l, OpOk q) (hG : Glob8 w) :
    Calls Tryd.prog 4 #[.slice a n c] w fun e w' => e = .returned (.bool true) ∧ Below w.heap.size w w' := by
  obtain ⟨M, hM⟩ := mayM_ex
  have HM : Hid (∀ o, M o = true ↔ MayO o) := hM
  have HG : Hid (Glob8 w) := hG
  have HI : Hid (OpsAt w a n l) := hI
  have HN : Hid (l.length = n) := hI.1
  have HZ : Hid (∀ q ∈ l, OpOk q) := hz
  have hm' : n ≤ 9223372036854775807 := hm
  have CN : Hid (Calls _ _ _ _ _) := new_tr w w (Below.refl _ _)
  have CW : Hid (∀ W, Below w.heap.size w W → Calls Tryd.prog 9 #[] W fun e w' => e = .returned (.bool true) ∧ Below W.heap.size W w') := fun W hW => awake11 W (HG.out.below hW)
  have CF1 : Hid (FewO l 60 → ∀ W, Below w.heap.size w W → Calls Tryd.prog 8 #[.slice a n c, .int .i64 60] W fun e w' => e = .returned (.bool true) ∧ Below W.heap.size W w') := fun hF W hW => few_yes l a n c 60 W hm (by decide) (hI.below hW) hz hF
  have CF0 : Hid (¬ FewO l 60 → ∀ W, Below w.heap.size w W → Calls Tryd.prog 8 #[.slice a n c, .int .i64 60] W fun e w' => e = .returned (.bool false) ∧ Below W.heap.size W w') := fun hF W hW => few_no l a n c 60 W hm (by decide) (hI.below hW) hz hF
  clear hM hG hI hz hm
  go_enter Tryd.func4, Tryd.ntmps4
  go_wp2_with fail
  refine CN.out.mono ?_
  rintro e w1 ⟨g, f, m, rfl, hT, _, _⟩
  have HT : Hid (Tr w w1 g f m none T0) := hT
  clear hT CN
  by_cases hF : FewO l 60
  · have HF : Hid (FewO l 60) := hF
    have CF : Hid (Calls _ _ _ _ _) := CF1.out hF w1 HT.out.bel
    have hn : n ≤ 60 := by rw [← HN.out]; exact hF.1
    clear CF1 CF0 hF
    go_wp2_with fail
    refine CF.out.mono ?_
    rintro e w2 ⟨rfl, hb2⟩
    have HT2 : Hid (Tr w w2 g f m none (playP M T0 (l.take 0))) := HT.out.on hb2
    clear CF HT hb2
    go_wp2_with fail
    go_loopw [4] (fun i wr => ∃ (k : Nat) (r : Option Nat), k ≤ n ∧ i = .int .i64 k ∧ Hid (Tr w wr g f m r (playP M T0 (l.take k)))) (fun i _ => n - (intOf i).toNat)
    case atStart => exact ⟨0, none, by omega, rfl, HT2⟩
    case round =>
      clear HT2
      obtain ⟨k, r, hk, rfl, HT⟩ := hrel
      by_cases hlt : k < n
      · have b0 : (k : Int) < (n : Int) := by omega
        obtain ⟨b, off, rfl, _⟩ := HI.out.2.some (by omega)
        obtain ⟨x0, x1, x2, x3, x4, x5, x6, x7, x8⟩ := (HI.out.below HT.out.bel).cells k hlt
        have hkl : k < l.length := by rw [HN.out]; exact hlt
        have hlen := play_len M (l.take k) (by rw [List.length_take]; omega)
        have CA1 : Hid (Calls _ _ _ _ _) := apply_tr M HM.out g f m r _ (oL l k) w wr HT.out HG.out (by omega) (light_few l 60 HF.out k hkl).1 (light_few l 60 HF.out k hkl).2
        have HS : Hid (playP M T0 (l.take (k + 1)) = (applyP M (playP M T0 (l.take k)) (oL l k)).1) := by show _ = _; rw [take_oL l k hkl, playP_snoc]
        obtain ⟨⟨k0, ⟨k1, k2⟩, ⟨k3, k4⟩, ⟨k5, k6⟩, s7, s8⟩, hkk⟩ : ∃ s, s = oL l k := ⟨_, rfl⟩
        rw [← hkk] at x0 x1 x2 x3 x4 x5 x6 x7 x8 CA1 HS
        simp only [opA] at CA1
        obtain ⟨AT, hAT⟩ : ∃ AT, applyP M (playP M T0 (l.take k)) (k0, (k1, k2), (k3, k4), (k5, k6), s7, s8) = AT := ⟨_, rfl⟩
        rw [hAT] at CA1 HS
        clear hkk hlen hkl hAT
        go_wp2_with fail
        refine CA1.out.mono ?_
        rintro e w3 ⟨rfl, r', hT3, hK3, hN3⟩
        have HT3 : Hid (Tr w w3 g f m r' (playP M T0 (l.take (k + 1)))) := by show Tr _ _ _ _ _ _ _; rw [HS.out]; exact HT.out.next hT3 hK3 hN3
        clear HT hT3 hK3 hN3 CA1 HS x0 x1 x2 x3 x4 x5 x6 x7 x8
        go_wp2_with fail
        refine ⟨?_, ?_⟩
        · first
          | exact ⟨k + 1, r', by omega, by go_num, HT3⟩
          | ((repeat apply Exists.intro); refine ⟨?_, rfl⟩; exact ⟨k + 1, r', by omega, by go_num, HT3⟩)
        · simp [intOf]; omega
      · obtain rfl : k = n := by omega
        have b0 : ¬ ((k : Int) < (k : Int)) := by omega
        have HT5 : Hid (Tr w wr g f m r (playP M T0 l)) := by show Tr _ _ _ _ _ _ _; rw [← List.take_of_length_le (show l.length ≤ k by rw [HN.out]; omega)]; exact HT.out
        have hl5 : l.length ≤ 512 := by rw [HN.out]; omega
        have hlen := play_len M l hl5
        have hR := play_rooted M HM.out l hl5
        have hNL := nodesP_len (playP M T0 l).1 (playP M T0 l).2.1
        obtain ⟨T, hTT⟩ : ∃ T, playP M T0 l = T := ⟨_, rfl⟩
        rw [hTT] at HT5 hlen hR hNL
        have CNo : Hid (Calls _ _ _ _ _) := nodes_any g f m r T wr HT5.out.tree (by omega)
        have CG : Hid (∀ id W, TreeIn W g f m r T → _) := fun id W hW => get_any g f m r T id W hW (by omega)
        obtain ⟨N, hNN⟩ : ∃ N, nodesP T.1 T.2.1 = N := ⟨_, rfl⟩
        rw [hNN] at CNo CG hR hNL
        have HR : Hid (Rooted N) := hR
        obtain ⟨q, hq⟩ : ∃ q, N.length = q := ⟨_, rfl⟩
        rw [hq] at hNL
        have hq5 : q ≤ 512 := by omega
        have HQ : Hid (N.length = q) := hq
        clear hTT hNN hR HT hq hNL hlen hl5 hlt hk HF HI HZ
        go_wp2_with fail
        refine CNo.out.mono ?_
        rintro e w4 ⟨v, rfl, hT4, hO4, hK4⟩
        have HS4 : Hid (RoS w w4 g f m r T wr.heap.size v N) := ⟨HT5.out.next hT4 hK4 (Nx.refl _ _), hO4, fun k hk => HT5.out.tree.lt hk, HT5.out.bel.size, hK4.size⟩
        obtain ⟨B, hBB⟩ : ∃ B, wr.heap.size = B := ⟨_, rfl⟩
        obtain ⟨av, cv, rfl, _⟩ := OwnN.nodes hO4
        rw [HQ.out, hBB] at HS4
        rw [HQ.out]
        clear CNo hT4 hO4 hK4 HT5 hBB
        go_wp2_with fail
        go_loopw [6] (fun i wr => ∃ (k : Nat), k ≤ q ∧ i = .int .i64 k ∧ Hid (RoS w wr g f m r T B (.slice av q cv) N)) (fun i _ => q - (intOf i).toNat)
        case atStart => exact ⟨0, by omega, rfl, HS4⟩
        case round =>
          clear HS4
          obtain ⟨k, hk, rfl, HS⟩ := hrel
          by_cases hlt : k < q
          · have b0 : (k : Int) < (q : Int) := by omega
            obtain ⟨a', c', e', hat⟩ := OwnN.nodes HS.out.own
            rw [HQ.out] at e' hat
            cases e'
            obtain ⟨b, off, rfl, _⟩ := hat.2.some (by omega)
            by_cases hk0 : k = 0
            · have b1 : ¬ ((0 : Int) < (k : Int)) := by omega
              have b1' : ¬ (0 < k) := by omega
              clear hk0
              go_wp2_with fail
              refine wp_region_noPanic ?_
              refine wp_region_held_drew (S := fun _ => True) (by kernel_rfl) (by first | exact trivial | assumption | exact ⟨by assumption, by assumption⟩) (fun hHeld => ?_)
              refine take_at (i := 0) (v := ?_) rfl rfl (by kernel_rfl) (by kernel_rfl) (by kernel_rfl) (fun _ _ _ h => h) (Or.inl ⟨by rfl, ?_⟩) (by assumption) ?_
              rotate_left
              · intro w hSw; (try dsimp only at hSw); go_simp; try with_reducible rfl
              try simp only [Act.put, List.setIfInBounds_toArray, List.set_cons_zero, List.set_cons_succ]
              refine take_at (i := 1) (v := ?_) rfl rfl (by kernel_rfl) (by kernel_rfl) (by kernel_rfl) (fun _ _ _ h => h) (Or.inl ⟨by rfl, ?_⟩) (by assumption) ?_
              rotate_left
              · intro w hSw; (try dsimp only at hSw); go_simp; try with_reducible rfl
              try simp only [Act.put, List.setIfInBounds_toArray, List.set_cons_zero, List.set_cons_succ]
              refine take_at (i := 2) (v := ?_) rfl rfl (by kernel_rfl) (by kernel_rfl) (by kernel_rfl) (fun _ _ _ h => h) (Or.inl ⟨by rfl, ?_⟩) (by assumption) ?_
              rotate_left
              · intro w hSw; (try dsimp only at hSw); go_simp; try with_reducible rfl
              try simp only [Act.put, List.setIfInBounds_toArray, List.set_cons_zero, List.set_cons_succ]
              refine take_at (i := 3) (v := undef) rfl rfl (by kernel_rfl) (by kernel_rfl) (by kernel_rfl) (fun _ _ _ h => h) (Or.inr ⟨by rfl, rfl⟩) (by assumption) ?_
              try simp only [Act.put, List.setIfInBounds_toArray, List.set_cons_zero, List.set_cons_succ]
              refine take_at (i := 4) (v := undef) rfl rfl (by kernel_rfl) (by kernel_rfl) (by kernel_rfl) (fun _ _ _ h => h) (Or.inr ⟨by rfl, rfl⟩) (by assumption) ?_
              try simp only [Act.put, List.setIfInBounds_toArray, List.set_cons_zero, List.set_cons_succ]
              refine take_at (i := 5) (v := undef) rfl rfl (by kernel_rfl) (by kernel_rfl) (by kernel_rfl) (fun _ _ _ h => h) (Or.inr ⟨by rfl, rfl⟩) (by assumption) ?_
              try simp only [Act.put, List.setIfInBounds_toArray, List.set_cons_zero, List.set_cons_succ]
              refine take_at (i := 6) (v := undef) rfl rfl (by kernel_rfl) (by kernel_rfl) (by kernel_rfl) (fun _ _ _ h => h) (Or.inr ⟨by rfl, rfl⟩) (by assumption) ?_
              try simp only [Act.put, List.setIfInBounds_toArray, List.set_cons_zero, List.set_cons_succ]
              refine take_at (i := 7) (v := undef) rfl rfl (by kernel_rfl) (by kernel_rfl) (by kernel_rfl) (fun _ _ _ h => h) (Or.inr ⟨by rfl, rfl⟩) (by assumption) ?_
              try simp only [Act.put, List.setIfInBounds_toArray, List.set_cons_zero, List.set_cons_succ]
              refine take_at (i := 8) (v := undef) rfl rfl (by kernel_rfl) (by kernel_rfl) (by kernel_rfl) (fun _ _ _ h => h) (Or.inr ⟨by rfl, rfl⟩) (by assumption) ?_
              try simp only [Act.put, List.setIfInBounds_toArray, List.set_cons_zero, List.set_cons_succ]
              refine take_at (i := 9) (v := undef) rfl rfl (by kernel_rfl) (by kernel_rfl) (by kernel_rfl) (fun _ _ _ h => h) (Or.inr ⟨by rfl, rfl⟩) (by assumption) ?_
              try simp only [Act.put, List.setIfInBounds_toArray, List.set_cons_zero, List.set_cons_succ]
              refine take_at (i := 10) (v := undef) rfl rfl (by kernel_rfl) (by kernel_rfl) (by kernel_rfl) (fun _ _ _ h => h) (Or.inr ⟨by rfl, rfl⟩) (by assumption) ?_
              try simp only [Act.put, List.setIfInBounds_toArray, List.set_cons_zero, List.set_cons_succ]
              refine take_at (i := 11) (v := undef) rfl rfl (by kernel_rfl) (by kernel_rfl) (by kernel_rfl) (fun _ _ _ h => h) (Or.inr ⟨by rfl, rfl⟩) (by assumption) ?_
              try simp only [Act.put, List.setIfInBounds_toArray, List.set_cons_zero, List.set_cons_succ]
              refine take_at (i := 12) (v := undef) rfl rfl (by kernel_rfl) (by kernel_rfl) (by kernel_rfl) (fun _ _ _ h => h) (Or.inr ⟨by rfl, rfl⟩) (by assumption) ?_
              try simp only [Act.put, List.setIfInBounds_toArray, List.set_cons_zero, List.set_cons_succ]
              refine take_at (i := 13) (v := undef) rfl rfl (by kernel_rfl) (by kernel_rfl) (by kernel_rfl) (fun _ _ _ h => h) (Or.inr ⟨by rfl, rfl⟩) (by assumption) ?_
              try simp only [Act.put, List.setIfInBounds_toArray, List.set_cons_zero, List.set_cons_succ]
              refine take_at (i := 14) (v := undef) rfl rfl (by kernel_rfl) (by kernel_rfl) (by kernel_rfl) (fun _ _ _ h => h) (Or.inr ⟨by rfl, rfl⟩) (by assumption) ?_
              try simp only [Act.put, List.setIfInBounds_toArray, List.set_cons_zero, List.set_cons_succ]
              refine take_at (i := 15) (v := undef) rfl rfl (by kernel_rfl) (by kernel_rfl) (by kernel_rfl) (fun _ _ _ h => h) (Or.inr ⟨by rfl, rfl⟩) (by assumption) ?_
              try simp only [Act.put, List.setIfInBounds_toArray, List.set_cons_zero, List.set_cons_succ]
              refine take_at (i := 16) (v := ?_) rfl rfl (by kernel_rfl) (by kernel_rfl) (by kernel_rfl) (fun _ _ _ h => h) (Or.inl ⟨by rfl, ?_⟩) (by assumption) ?_
              rotate_left
              · intro w hSw; (try dsimp only at hSw); go_simp; try with_reducible rfl
              try simp only [Act.put, List.setIfInBounds_toArray, List.set_cons_zero, List.set_cons_succ]
              refine wpAnyH_done (by kernel_rfl) (NoPanic.normal ?_) _
              have HS0 : Hid (RoS w wr.drew g f m r T B (.slice (some ⟨b, off, none⟩) q cv) N) := HS.out.on (Below.refl _ _).drew
              generalize wr.drew = W0 at *
              clear HS hat b1 b1'
              obtain ⟨_, c'', e'', hat0⟩ := OwnN.nodes HS0.out.own
              rw [HQ.out] at e'' hat0
              cases e''
              obtain ⟨_, _, y2, y3, _, _⟩ := hat0.cells k hlt
              have HX : Hid (nL N k ∈ N) := nL_mem N k (by rw [HQ.out]; exact hlt)
              obtain ⟨x, hx⟩ : ∃ x, nL N k = x := ⟨_, rfl⟩
              rw [hx] at y2 y3 HX
              obtain ⟨⟨x1, x2⟩, ⟨x3, x4⟩, x5, x6⟩ := x
              clear hx hat0
              go_wp2_with fail
              obtain ⟨W1, hW1⟩ : ∃ W1, W0.alloc (.cells #[.int .i64 x3, .int .i64 x4] 28) = W1 := ⟨_, rfl⟩
              obtain ⟨hp, hhp⟩ : ∃ hp, W0.heap.size = hp := ⟨_, rfl⟩
              have HS1 : Hid (RoS w W1 g f m r T B (.slice (some ⟨b, off, none⟩) q cv) N) := by show RoS _ _ _ _ _ _ _ _ _ _; rw [← hW1]; exact HS0.out.on (below_new _ _)
              have HK1 : Hid (Blk W1 28 hp #[.int .i64 x3, .int .i64 x4]) := by show Blk _ _ _ _; rw [← hW1, ← hhp]; exact Blk.new _ _ _
              have HBp : Hid (B ≤ hp) := by show _ ≤ _; rw [← hhp]; exact HS0.out.top
              have HVp : Hid (∀ j, (Value.slice (some ⟨b, off, none⟩) q cv).ownBlock = some j → j < hp) := fun j hj => by rw [← hhp]; exact (World.ownsRow.lt HS0.out.own j hj).2
              rw [hW1, hhp]
              clear hW1 hhp HS0 y2 y3
              go_loopw [8] (fun i wr => ∃ (t : Nat) (z : NodeT), t ≤ q ∧ i = .int .i64 t ∧ Hid (Up N ((x1, x2), (x3, x4), x5, x6) t z) ∧ Hid (Blk wr 28 hp #[.int .i64 z.2.1.1, .int .i64 z.2.1.2]) ∧ Hid (RoS w wr g f m r T B (.slice (some ⟨b, off, none⟩) q cv) N)) (fun i _ => q + 1 - (intOf i).toNat)
              case atStart => exact ⟨0, ((x1, x2), (x3, x4), x5, x6), by omega, rfl, rfl, HK1, HS1⟩
              case round =>
                clear HK1 HS1
                obtain ⟨t, z, ht, rfl, HU, HK, HS⟩ := hrel
                have htq : t < q := by rw [← HQ.out]; exact up_few HR.out HX.out HU.out
                have hzN := up_mem HX.out HU.out
                obtain ⟨⟨z1, z2⟩, ⟨p1, p2⟩, z5, z6⟩ := z
                simp only at HK
                have c0 : wr.cell? ⟨hp, 0, none⟩ = some (.int .i64 p1) := HK.out.cell 0
                have c1 : wr.cell? ⟨hp, 1, none⟩ = some (.int .i64 p2) := HK.out.cell 1
                have b1 : (t : Int) ≤ (q : Int) := by omega
                have hpar := HR.out.par _ hzN
                simp only at hpar
                by_cases hp0 : 0 < p1
                · obtain ⟨y, hy, ey⟩ : ∃ y ∈ N, y.1 = (p1, p2) := by
                    rcases hpar.2 with h | h
                    · omega
                    · exact h
                  have hlk := look_is HR.out.sort hy
                  rw [ey] at hlk
                  have CGx : Hid (Calls _ _ _ _ _) := CG.out (p1, p2) wr HS.out.tr.tree
                  rw [hlk] at CGx
                  have HU' : Hid (Up N ((x1, x2), (x3, x4), x5, x6) (t + 1) y) := ⟨_, HU.out, hy, ey⟩
                  obtain ⟨⟨y1, y2⟩, ⟨y3, y4⟩, y5, y6⟩ := y
                  simp only [stampV, Option.getD_some, Option.isSome_some, nodeV, nodeA] at CGx
                  have b2 : decide (p1 > 0) = true := decide_eq_true hp0
                  have b3 : ((t : Int) == (q : Int)) = false := by simp; omega
                  have b4 : ¬ ((t : Int) = (q : Int)) := by omega
                  clear hlk hpar hzN hy ey HU
                  go_wp2_with fail
                  refine CGx.out.mono ?_
                  rintro e w5 ⟨rfl, hT5, hK5⟩
                  have HS5 := HS.out.get hT5 hK5
                  have K5 : Blk w5 28 hp #[.int .i64 p1, .int .i64 p2] := by unfold Blk; rw [hK5.block _ HK.out.lt (fun h => by have h1 := HS.out.old _ h; have h2 := HBp.out; omega)]; exact HK.out
                  have X1 : Blk (w5.alloc (.cells #[.int .i64 y1, .int .i64 y2, .int .i64 y3, .int .i64 y4, .string y5, .string y6] 40)) 28 hp #[.int .i64 p1, .int .i64 p2] := K5.on (below_new _ _)
                  have HS6 : Hid (RoS w (w5.alloc (.cells #[.int .i64 y1, .int .i64 y2, .int .i64 y3, .int .i64 y4, .string y5, .string y6] 40)) g f m r T B (.slice (some ⟨b, off, none⟩) q cv) N) := HS5.on (below_new _ _)
                  clear CGx hT5 hK5 HS5 K5 HK HS c0 c1
                  go_wp2_with (with_reducible refine wpList_storeBlkH rfl 28 _ _ rfl hp #[.int .i64 p1, .int .i64 p2] #[.int .i64 y3, .int .i64 y4] ?hx ?hy X1 rfl ?hi ?h1 ?_)
                  try (case hx => rfl)
                  try (case hy => rfl)
                  try (case hi => first | kernel_rfl | (refine Option.map_eq_some_iff.1 (?_ : (Tryd.prog.info? 28).map (·.size) = some 2); kernel_rfl))
                  try (case h1 => simp [Value.oneCell'])
                  unfold Hid
                  have HK7 := X1.setRow #[.int .i64 y3, .int .i64 y4]
                  have HS7 := HS6.out.set hp HBp.out HVp.out #[.int .i64 y3, .int .i64 y4]
                  clear X1 HS6
                  go_wp2_with fail
                  refine ⟨?_, ?_⟩
                  · first
                    | exact ⟨t + 1, ((y1, y2), (y3, y4), y5, y6), by omega, by go_num, HU', HK7, HS7⟩
                    | ((repeat apply Exists.intro); refine ⟨?_, rfl⟩; exact ⟨t + 1, ((y1, y2), (y3, y4), y5, y6), by omega, by go_num, HU', HK7, HS7⟩)
                  · simp [intOf]; omega
                · have b2 : decide (p1 > 0) = false := decide_eq_false hp0
                  obtain ⟨rfl, hp2⟩ : p1 = 0 ∧ (p2 = 0 ∨ p2 = 1) := by
                    rcases hpar.1 with h | h
                    · have : 1 ≤ p1 := h.1
                      omega
                    · exact h
                  clear hpar hzN HU HK hp0
                  rcases hp2 with rfl | rfl
                  · go_wp2_with fail
                    refine ⟨?_, ?_⟩
                    · first
                      | exact ⟨k + 1, by omega, by go_num, HS⟩
                      | ((repeat apply Exists.intro); refine ⟨?_, rfl⟩; exact ⟨k + 1, by omega, by go_num, HS⟩)
                    · simp [intOf]; omega
                  · go_wp2_with fail
                    refine ⟨?_, ?_⟩
                    · first
                      | exact ⟨k + 1, by omega, by go_num, HS⟩
                      | ((repeat apply Exists.intro); refine ⟨?_, rfl⟩; exact ⟨k + 1, by omega, by go_num, HS⟩)
                    · simp [intOf]; omega
            · obtain ⟨j, hkj⟩ : ∃ j, k = j + 1 := ⟨k - 1, by omega⟩
              have b1 : (0 : Int) < (k : Int) := by omega
              have b1' : 0 < k := by omega
              have b5 : (j : Int) < (q : Int) := by omega
              have hq0 : IntKind.i64.wrap ((k : Int) - 1) = (j : Int) := by rw [IntKind.wrap_i64]; omega
              obtain ⟨u0, u1, _⟩ := hat.cells j (by omega)
              obtain ⟨v0, v1, _⟩ := hat.cells k hlt
              have hls : LessS (nL N j).1 (nL N k).1 := by
                have := List.pairwise_iff_getElem.1 HR.out.sort j k (by rw [HQ.out]; omega) (by rw [HQ.out]; exact hlt) (by omega)
                have e1 : ∀ i (hi : i < N.length), nL N i = N[i] := fun i hi => by unfold nL; rw [List.getD_eq_getElem?_getD, List.getElem?_eq_getElem hi]; rfl
                rw [e1 j (by rw [HQ.out]; omega), e1 k (by rw [HQ.out]; exact hlt)]; exact this
              have CL : Hid (∀ W, _) := fun W => rless_any (nL N j).1 (nL N k).1 W
              rw [decide_eq_true hls] at CL
              obtain ⟨⟨j1, j2⟩, hj⟩ : ∃ s, s = (nL N j).1 := ⟨_, rfl⟩
              obtain ⟨⟨i1, i2⟩, hi⟩ : ∃ s, s = (nL N k).1 := ⟨_, rfl⟩
              rw [← hj] at u0 u1 CL
              rw [← hi] at v0 v1 CL
              simp only [stampV] at CL
              have hS0 : wr.cell? ⟨b, off + j * 6, none⟩ = some (.int .i64 j1) ∧ wr.cell? ⟨b, off + j * 6 + 1, none⟩ = some (.int .i64 j2) ∧ wr.cell? ⟨b, off + k * 6, none⟩ = some (.int .i64 i1) ∧ wr.cell? ⟨b, off + k * 6 + 1, none⟩ = some (.int .i64 i2) := ⟨u0, u1, v0, v1⟩
              clear hj hi hls hat hkj hk0
              go_wp2_with fail
              refine wp_region_noPanic ?_
              refine wp_region_held_drew (S := fun W => W.cell? ⟨b, off + j * 6, none⟩ = some (.int .i64 j1) ∧ W.cell? ⟨b, off + j * 6 + 1, none⟩ = some (.int .i64 j2) ∧ W.cell? ⟨b, off + k * 6, none⟩ = some (.int .i64 i1) ∧ W.cell? ⟨b, off + k * 6 + 1, none⟩ = some (.int .i64 i2)) (by kernel_rfl) (by first | exact trivial | assumption | exact ⟨by assumption, by assumption⟩) (fun hHeld => ?_)
              refine take_at (i := 0) (v := ?_) rfl rfl (by kernel_rfl) (by kernel_rfl) (by kernel_rfl) (fun _ _ _ h => h) (Or.inl ⟨by rfl, ?_⟩) (by assumption) ?_
              rotate_left
              · intro w hSw; (try dsimp only at hSw); go_simp; try with_reducible rfl
              try simp only [Act.put, List.setIfInBounds_toArray, List.set_cons_zero, List.set_cons_succ]
              refine take_at (i := 1) (v := ?_) rfl rfl (by kernel_rfl) (by kernel_rfl) (by kernel_rfl) (fun _ _ _ h => h) (Or.inl ⟨by rfl, ?_⟩) (by assumption) ?_
              rotate_left
              · intro w hSw; (try dsimp only at hSw); go_simp; try with_reducible rfl
              try simp only [Act.put, List.setIfInBounds_toArray, List.set_cons_zero, List.set_cons_succ]
              refine take_at (i := 2) (v := ?_) rfl rfl (by kernel_rfl) (by kernel_rfl) (by kernel_rfl) (fun _ _ _ h => h) (Or.inl ⟨by rfl, ?_⟩) (by assumption) ?_
              rotate_left
              · intro w hSw; (try dsimp only at hSw); go_simp; try with_reducible rfl
              try simp only [Act.put, List.setIfInBounds_toArray, List.set_cons_zero, List.set_cons_succ]
              refine take_at (i := 3) (v := ?_) rfl rfl (by kernel_rfl) (by kernel_rfl) (by kernel_rfl) (fun _ _ _ h => h) (Or.inl ⟨by rfl, ?_⟩) (by assumption) ?_
              rotate_left
              · intro w hSw; (try dsimp only at hSw); go_simp; try with_reducible rfl
              try simp only [Act.put, List.setIfInBounds_toArray, List.set_cons_zero, List.set_cons_succ]
              refine take_at (i := 4) (v := ?_) rfl rfl (by kernel_rfl) (by kernel_rfl) (by kernel_rfl) (fun _ _ _ h => h) (Or.inl ⟨by rfl, ?_⟩) (by assumption) ?_
              rotate_left
              · intro w hSw; (try dsimp only at hSw); go_simp; try with_reducible rfl
              try simp only [Act.put, List.setIfInBounds_toArray, List.set_cons_zero, List.set_cons_succ]
              refine take_at (i := 5) (v := ?_) rfl rfl (by kernel_rfl) (by kernel_rfl) (by kernel_rfl) (fun _ _ _ h => h) (Or.inl ⟨by rfl, ?_⟩) (by assumption) ?_
              rotate_left
              · intro w hSw; (try dsimp only at hSw); go_simp; try with_reducible rfl
              try simp only [Act.put, List.setIfInBounds_toArray, List.set_cons_zero, List.set_cons_succ]
              refine take_at (i := 6) (v := ?_) rfl rfl (by kernel_rfl) (by kernel_rfl) (by kernel_rfl) (fun _ _ _ h => h) (Or.inl ⟨by rfl, ?_⟩) (by assumption) ?_
              rotate_left
              · intro w hSw; (try dsimp only at hSw); go_simp; try with_reducible rfl
              try simp only [Act.put, List.setIfInBounds_toArray, List.set_cons_zero, List.set_cons_succ]
              refine take_at (i := 7) (v := ?_) rfl rfl (by kernel_rfl) (by kernel_rfl) (by kernel_rfl) (fun _ _ _ h => h) (Or.inl ⟨by rfl, ?_⟩) (by assumption) ?_
              rotate_left
              · intro w hSw; (try dsimp only at hSw); go_simp; try with_reducible rfl
              try simp only [Act.put, List.setIfInBounds_toArray, List.set_cons_zero, List.set_cons_succ]
              refine take_at (i := 8) (v := ?_) rfl rfl (by kernel_rfl) (by kernel_rfl) (by kernel_rfl) (fun _ _ _ h => h) (Or.inl ⟨by rfl, ?_⟩) (by assumption) ?_
              rotate_left
              · intro w hSw; (try dsimp only at hSw); go_simp; try with_reducible rfl
              try simp only [Act.put, List.setIfInBounds_toArray, List.set_cons_zero, List.set_cons_succ]
              refine take_at (i := 9) (v := ?_) rfl rfl (by kernel_rfl) (by kernel_rfl) (by kernel_rfl) (fun _ _ _ h => h) (Or.inl ⟨by rfl, ?_⟩) (by assumption) ?_
              rotate_left
              · intro w hSw; (try dsimp only at hSw); go_simp; try with_reducible rfl
              try simp only [Act.put, List.setIfInBounds_toArray, List.set_cons_zero, List.set_cons_succ]
              refine take_at (i := 10) (v := ?_) rfl rfl (by kernel_rfl) (by kernel_rfl) (by kernel_rfl) (fun _ _ _ h => h) (Or.inl ⟨by rfl, ?_⟩) (by assumption) ?_
              rotate_left
              · intro w hSw; (try dsimp only at hSw); go_simp; try with_reducible rfl
              try simp only [Act.put, List.setIfInBounds_toArray, List.set_cons_zero, List.set_cons_succ]
              refine take_at (i := 11) (v := ?_) rfl rfl (by kernel_rfl) (by kernel_rfl) (by kernel_rfl) (fun _ _ _ h => h) (Or.inl ⟨by rfl, ?_⟩) (by assumption) ?_
              rotate_left
              · intro w hSw; (try dsimp only at hSw); go_simp; try with_reducible rfl
              try simp only [Act.put, List.setIfInBounds_toArray, List.set_cons_zero, List.set_cons_succ]
              refine take_at (i := 12) (v := ?_) rfl rfl (by kernel_rfl) (by kernel_rfl) (by kernel_rfl) (fun _ _ _ h => h) (Or.inl ⟨by rfl, ?_⟩) (by assumption) ?_
              rotate_left
              · intro w hSw; (try dsimp only at hSw); go_simp; try with_reducible rfl
              try simp only [Act.put, List.setIfInBounds_toArray, List.set_cons_zero, List.set_cons_succ]
              refine take_at (i := 13) (v := ?_) rfl rfl (by kernel_rfl) (by kernel_rfl) (by kernel_rfl) (fun _ _ _ h => h) (Or.inl ⟨by rfl, ?_⟩) (by assumption) ?_
              rotate_left
              · intro w hSw; (try dsimp only at hSw); go_simp; try with_reducible rfl
              try simp only [Act.put, List.setIfInBounds_toArray, List.set_cons_zero, List.set_cons_succ]
              refine wpAnyH_ready (rs := [14]) (by kernel_rfl) (by simp) ?_
              refine AllReadyH.cons rfl (fun K hK => ?_) AllReadyH.nil
              go_simp
              refine (CL.out _).mono ?_
              rintro e w2 ⟨rfl, hb2⟩
              have hb3 : Below wr.heap.size wr w2 := below_step (Below.refl _ _).drew (Nat.le_refl _) hb2
              refine hK.out _ _ ⟨by rw [hb3.cell (World.block_lt_of_cell? wr _ u0)]; exact u0, by rw [hb3.cell (World.block_lt_of_cell? wr _ u1)]; exact u1, by rw [hb3.cell (World.block_lt_of_cell? wr _ v0)]; exact v0, by rw [hb3.cell (World.block_lt_of_cell? wr _ v1)]; exact v1⟩ (fun hHeld => ?_)
              clear hK K
              refine take_at (i := 15) (v := ?_) rfl rfl (by kernel_rfl) (by kernel_rfl) (by kernel_rfl) (fun _ _ _ h => h) (Or.inl ⟨by rfl, ?_⟩) (by assumption) ?_
              rotate_left
              · intro w hSw; (try dsimp only at hSw); go_simp; try with_reducible rfl
              try simp only [Act.put, List.setIfInBounds_toArray, List.set_cons_zero, List.set_cons_succ]
              refine take_at (i := 16) (v := ?_) rfl rfl (by kernel_rfl) (by kernel_rfl) (by kernel_rfl) (fun _ _ _ h => h) (Or.inl ⟨by rfl, ?_⟩) (by assumption) ?_
              rotate_left
              · intro w hSw; (try dsimp only at hSw); go_simp; try with_reducible rfl
              try simp only [Act.put, List.setIfInBounds_toArray, List.set_cons_zero, List.set_cons_succ]
              refine wpAnyH_done (by kernel_rfl) (NoPanic.normal ?_) _
              have HS0 : Hid (RoS w w2 g f m r T B (.slice (some ⟨b, off, none⟩) q cv) N) := HS.out.on hb3
              clear CL hb2 hb3 u0 u1 v0 v1 hS0 hq0 b1 b1' b5 HS
              obtain ⟨W0, hW0⟩ : ∃ W0, w2 = W0 := ⟨_, rfl⟩
              rw [hW0] at HS0 ⊢
              clear hW0
              obtain ⟨_, c'', e'', hat0⟩ := OwnN.nodes HS0.out.own
              rw [HQ.out] at e'' hat0
              cases e''
              obtain ⟨_, _, y2, y3, _, _⟩ := hat0.cells k hlt
              have HX : Hid (nL N k ∈ N) := nL_mem N k (by rw [HQ.out]; exact hlt)
              obtain ⟨x, hx⟩ : ∃ x, nL N k = x := ⟨_, rfl⟩
              rw [hx] at y2 y3 HX
              obtain ⟨⟨x1, x2⟩, ⟨x3, x4⟩, x5, x6⟩ := x
              clear hx hat0
              go_wp2_with fail
              obtain ⟨W1, hW1⟩ : ∃ W1, W0.alloc (.cells #[.int .i64 x3, .int .i64 x4] 28) = W1 := ⟨_, rfl⟩
              obtain ⟨hp, hhp⟩ : ∃ hp, W0.heap.size = hp := ⟨_, rfl⟩
              have HS1 : Hid (RoS w W1 g f m r T B (.slice (some ⟨b, off, none⟩) q cv) N) := by show RoS _ _ _ _ _ _ _ _ _ _; rw [← hW1]; exact HS0.out.on (below_new _ _)
              have HK1 : Hid (Blk W1 28 hp #[.int .i64 x3, .int .i64 x4]) := by show Blk _ _ _ _; rw [← hW1, ← hhp]; exact Blk.new _ _ _
              have HBp : Hid (B ≤ hp) := by show _ ≤ _; rw [← hhp]; exact HS0.out.top
              have HVp : Hid (∀ j, (Value.slice (some ⟨b, off, none⟩) q cv).ownBlock = some j → j < hp) := fun j hj => by rw [← hhp]; exact (World.ownsRow.lt HS0.out.own j hj).2
              rw [hW1, hhp]
              clear hW1 hhp HS0 y2 y3
              go_loopw [8] (fun i wr => ∃ (t : Nat) (z : NodeT), t ≤ q ∧ i = .int .i64 t ∧ Hid (Up N ((x1, x2), (x3, x4), x5, x6) t z) ∧ Hid (Blk wr 28 hp #[.int .i64 z.2.1.1, .int .i64 z.2.1.2]) ∧ Hid (RoS w wr g f m r T B (.slice (some ⟨b, off, none⟩) q cv) N)) (fun i _ => q + 1 - (intOf i).toNat)
              case atStart => exact ⟨0, ((x1, x2), (x3, x4), x5, x6), by omega, rfl, rfl, HK1, HS1⟩
              case round =>
                clear HK1 HS1
                obtain ⟨t, z, ht, rfl, HU, HK, HS⟩ := hrel
                have htq : t < q := by rw [← HQ.out]; exact up_few HR.out HX.out HU.out
                have hzN := up_mem HX.out HU.out
                obtain ⟨⟨z1, z2⟩, ⟨p1, p2⟩, z5, z6⟩ := z
                simp only at HK
                have c0 : wr.cell? ⟨hp, 0, none⟩ = some (.int .i64 p1) := HK.out.cell 0
                have c1 : wr.cell? ⟨hp, 1, none⟩ = some (.int .i64 p2) := HK.out.cell 1
                have b1 : (t : Int) ≤ (q : Int) := by omega
                have hpar := HR.out.par _ hzN
                simp only at hpar
                by_cases hp0 : 0 < p1
                · obtain ⟨y, hy, ey⟩ : ∃ y ∈ N, y.1 = (p1, p2) := by
                    rcases hpar.2 with h | h
                    · omega
                    · exact h
                  have hlk := look_is HR.out.sort hy
                  rw [ey] at hlk
                  have CGx : Hid (Calls _ _ _ _ _) := CG.out (p1, p2) wr HS.out.tr.tree
                  rw [hlk] at CGx
                  have HU' : Hid (Up N ((x1, x2), (x3, x4), x5, x6) (t + 1) y) := ⟨_, HU.out, hy, ey⟩
                  obtain ⟨⟨y1, y2⟩, ⟨y3, y4⟩, y5, y6⟩ := y
                  simp only [stampV, Option.getD_some, Option.isSome_some, nodeV, nodeA] at CGx
                  have b2 : decide (p1 > 0) = true := decide_eq_true hp0
                  have b3 : ((t : Int) == (q : Int)) = false := by simp; omega
                  have b4 : ¬ ((t : Int) = (q : Int)) := by omega
                  clear hlk hpar hzN hy ey HU
                  go_wp2_with fail
                  refine CGx.out.mono ?_
                  rintro e w5 ⟨rfl, hT5, hK5⟩
                  have HS5 := HS.out.get hT5 hK5
                  have K5 : Blk w5 28 hp #[.int .i64 p1, .int .i64 p2] := by unfold Blk; rw [hK5.block _ HK.out.lt (fun h => by have h1 := HS.out.old _ h; have h2 := HBp.out; omega)]; exact HK.out
                  have X1 : Blk (w5.alloc (.cells #[.int .i64 y1, .int .i64 y2, .int .i64 y3, .int .i64 y4, .string y5, .string y6] 40)) 28 hp #[.int .i64 p1, .int .i64 p2] := K5.on (below_new _ _)
                  have HS6 : Hid (RoS w (w5.alloc (.cells #[.int .i64 y1, .int .i64 y2, .int .i64 y3, .int .i64 y4, .string y5, .string y6] 40)) g f m r T B (.slice (some ⟨b, off, none⟩) q cv) N) := HS5.on (below_new _ _)
                  clear CGx hT5 hK5 HS5 K5 HK HS c0 c1
                  go_wp2_with (with_reducible refine wpList_storeBlkH rfl 28 _ _ rfl hp #[.int .i64 p1, .int .i64 p2] #[.int .i64 y3, .int .i64 y4] ?hx ?hy X1 rfl ?hi ?h1 ?_)
                  try (case hx => rfl)
                  try (case hy => rfl)
                  try (case hi => first | kernel_rfl | (refine Option.map_eq_some_iff.1 (?_ : (Tryd.prog.info? 28).map (·.size) = some 2); kernel_rfl))
                  try (case h1 => simp [Value.oneCell'])
                  unfold Hid
                  have HK7 := X1.setRow #[.int .i64 y3, .int .i64 y4]
                  have HS7 := HS6.out.set hp HBp.out HVp.out #[.int .i64 y3, .int .i64 y4]
                  clear X1 HS6
                  go_wp2_with fail
                  refine ⟨?_, ?_⟩
                  · first
                    | exact ⟨t + 1, ((y1, y2), (y3, y4), y5, y6), by omega, by go_num, HU', HK7, HS7⟩
                    | ((repeat apply Exists.intro); refine ⟨?_, rfl⟩; exact ⟨t + 1, ((y1, y2), (y3, y4), y5, y6), by omega, by go_num, HU', HK7, HS7⟩)
                  · simp [intOf]; omega
                · have b2 : decide (p1 > 0) = false := decide_eq_false hp0
                  obtain ⟨rfl, hp2⟩ : p1 = 0 ∧ (p2 = 0 ∨ p2 = 1) := by
                    rcases hpar.1 with h | h
                    · have : 1 ≤ p1 := h.1
                      omega
                    · exact h
                  clear hpar hzN HU HK hp0
                  rcases hp2 with rfl | rfl
                  · go_wp2_with fail
                    refine ⟨?_, ?_⟩
                    · first
                      | exact ⟨k + 1, by omega, by go_num, HS⟩
                      | ((repeat apply Exists.intro); refine ⟨?_, rfl⟩; exact ⟨k + 1, by omega, by go_num, HS⟩)
                    · simp [intOf]; omega
                  · go_wp2_with fail
                    refine ⟨?_, ?_⟩
                    · first
                      | exact ⟨k + 1, by omega, by go_num, HS⟩
                      | ((repeat apply Exists.intro); refine ⟨?_, rfl⟩; exact ⟨k + 1, by omega, by go_num, HS⟩)
                    · simp [intOf]; omega
          · obtain rfl : k = q := by omega
            have b0 : ¬ ((k : Int) < (k : Int)) := by omega
            have CWx : Hid (Calls _ _ _ _ _) := CW.out wr HS.out.tr.bel
            have HB : Hid (Below w.heap.size w wr) := HS.out.tr.bel
            clear HS CW
            go_wp2_with fail
            refine CWx.out.mono ?_
            rintro e w5 ⟨rfl, hb5⟩
            have hB5 := below_step HB.out (Nat.le_refl _) hb5
            go_wp2_with fail
            go_ret
            exact ⟨rfl, hB5⟩
  · have CF : Hid (Calls _ _ _ _ _) := CF0.out hF w1 HT.out.bel
    have HB1 : Hid (Below w.heap.size w w1) := HT.out.bel
    clear CF1 CF0 hF HT
    go_wp2_with fail
    refine CF.out.mono ?_
    rintro e w2 ⟨rfl, hb2⟩
    have HB2 : Hid (Below w.heap.size w w2) := below_step HB1.out (Nat.le_refl _) hb2
    have CWx : Hid (Calls _ _ _ _ _) := CW.out w2 HB2.out
    clear CF HB1 hb2 CW
    go_wp2_with fail
    refine CWx.out.mono ?_
    rintro e w5 ⟨rfl, hb5⟩
    have hB5 := below_step HB2.out (Nat.le_refl _) hb5
    go_wp2_with fail
    go_ret
    exact ⟨rfl, hB5⟩
end Go.Proofs.YtmfckdhincffkaaDoor
