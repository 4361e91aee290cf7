/- The library's maps.Values, slices.Collect at nodes (layer 11). -/
import Derived.Test.YtaomhhooipfjbaaDoorTmC
import Derived.RangeFuncNested
import Derived.RangeFuncLeaves
import Derived.RangeFuncBox
import Derived.Maps.AppendAt
import Derived.Shelf.AbstractIn
import Derived.OwnWalkIn
import Derived.TacticsInMore
import Derived.RegionIn
import Derived.LoopNIn
import Derived.LoopIn
namespace Go.Proofs.YtaomhhooipfjbaaDoor
open Go.RowKit
set_option linter.unusedSimpArgs false

theorem MapR.walks {w w' : World} {r it : Nat} {ns rest : List NodeT} (h : MapR w r it ns rest) (hk : KeepsWalks w w') : MapR w' r it ns rest := by
  obtain ⟨h0, l, h1, rl, h2, h3⟩ := h
  obtain ⟨es, clock, since, seen, c0, k1, k2, k3, k4, k5⟩ := h2
  exact ⟨h0, l, h1, rl, ⟨es, clock, since, seen, c0, hk.same r _ k1 rfl, k2, k3, hk.same it _ k4 rfl, k5⟩, h3⟩

set_option maxRecDepth 100000 in
set_option maxHeartbeats 2000000 in
/-- The nodes of a map come, each once, in some order. -/
theorem values1_in (n : Nat) (hn : 1 ≤ n) (l Bm b : Nat) (ns : List NodeT) (J Jx : List NodeT → World → Prop)
    (hY : ∀ pre x W, J pre W → pre.length < ns.length → YieldAt Fence.wide (n - 1) Tryd.prog l #[nodeV x] W fun e W' => (e = .returned (.bool true) ∧ J (pre ++ [x]) W' ∧ KeepsWalks W W') ∨ (e = .returned (.bool false) ∧ Jx (pre ++ [x]) W'))
    (W : World) (hJ : AbidesFrom W.heap.size J) (hm : W.cell? ⟨Bm, 0, none⟩ = some (.map (some b))) (hM : MapN W b ns) (h0 : J [] W) :
    CallsIn Fence.wide n Tryd.prog 59 #[.func (.yield l) #[] #[], .pointer (some ⟨Bm, 0, none⟩)] W fun e W' => (∃ v, e = .returned v) ∧ ((∃ xs : List NodeT, xs.Perm ns ∧ J xs W') ∨ (∃ pre : List NodeT, True ∧ Jx pre W')) := by
  obtain ⟨w0, all, hrun, hall, hR0, hg0, hsz0⟩ := hM.range
  have HY : Hid (∀ pre x W, _) := hY
  have HJ : Hid (AbidesFrom W.heap.size J) := hJ
  have HR0 : Hid (MapR w0 b W.heap.size ns all) := hR0
  have HA : Hid (all.Perm ns) := hall
  have HJ0 : Hid (J [] w0) := hJ [] W w0 none h0 hg0 (fun r e => by cases e)
  clear hY hJ hR0 hall hg0 hM h0
  refine callsIn_of_wp Tryd.func59 rfl trivial ?_ rfl
  simp only [Tryd.ntmps59, List.size_toArray, List.length_cons, List.length_nil, Nat.reduceAdd, Nat.reduceSub, Array.replicate_succ, Array.replicate_zero, List.push_toArray, List.append_toArray, List.nil_append, List.cons_append]
  gi_wp2
  (try go_frame)
  gi_loopw [4] (fun _ wr => ∃ (done rest : List NodeT), Hid (MapR wr b W.heap.size ns rest) ∧ Hid ((done ++ rest).Perm ns) ∧ Hid (J done wr)) (fun _ wr => wr.rangeLeft b W.heap.size)
  case atStart => exact ⟨[], all, HR0, HA, HJ0⟩
  case round =>
    clear HR0 HA HJ0 hrun
    obtain ⟨done, rest, HR, HP, HD⟩ := hrel
    rcases HR.out.next 0 with ⟨h0, hnx⟩ | ⟨m, rest', w2, hp, hnx, hR2, hg2, hs2, hen⟩
    · have hnx' := next_all hnx
      have HE : Hid (done.Perm ns) := by
        have h1 := HP.out
        rw [h0, List.append_nil] at h1
        exact h1
      clear hnx h0
      gi_wp2
      go_end0
      exact ⟨⟨_, rfl⟩, .inl ⟨done, HE.out, HD.out⟩⟩
    · have hnx' := next_all hnx
      have hJ2 : J done w2 := HJ.out done wr w2 (some W.heap.size) HD.out hg2 (fun r e => by cases e; exact ⟨Nat.le_refl _, HR.out.walk⟩)
      have HLr : Hid (wr.rangeLeft b W.heap.size = rest.length) := HR.out.left
      have hlen : rest'.length < rest.length := by have := hp.length_eq; simp at this; omega
      have hlen2 : done.length < ns.length := by have h1 := HP.out.length_eq; rw [List.length_append] at h1; omega
      have HP2 : Hid (((done ++ [m]) ++ rest').Perm ns) := by
        show List.Perm _ _
        rw [List.append_assoc]
        exact ((List.Perm.refl done).append hp.symm).trans HP.out
      obtain ⟨w3, hw3⟩ : ∃ w3, w2.alloc (.cells (nodeA m) 40) = w3 := ⟨_, rfl⟩
      have hJ3 : J done w3 := by rw [← hw3]; exact HJ.out done w2 _ none hJ2 (World.grownBy_alloc w2 _ none) (fun r e => by cases e)
      have HR3 : Hid (MapR w3 b W.heap.size ns rest') := by show MapR w3 b W.heap.size ns rest'; rw [← hw3]; exact hR2.on (below_new w2 _)
      obtain ⟨fn, tmps, assign, body, hy, hR⟩ := HY.out done m w3 hJ3 hlen2
      have HRd : Hid (RoundIn _ _ _ _ _ _ _ _ _ _) := hR
      subst hw3
      have hk0 : KeepsWalks wr wr := KeepsWalks.refl _
      obtain ⟨⟨m1, m2⟩, ⟨m3, m4⟩, m5, m6⟩ := m
      simp only [keyV, nodeV, nodeA] at hnx' hen hy
      clear hnx HR HP HD hR2 hg2 hs2 hJ2 hJ3 hp hR
      gi_wp2
      refine HRd.out.mono ?_
      rintro e w4 (⟨rfl, hJ4, hk4⟩ | ⟨rfl, hJ4⟩)
      · have HJ4 : Hid (J (done ++ [((m1, m2), (m3, m4), m5, m6)]) w4) := hJ4
        have HR4 : Hid (MapR w4 b W.heap.size ns rest') := HR3.out.walks hk4
        clear hJ4 hk4 HR3 HRd hy
        gi_wp2
        go_roundw
        case rel => exact ⟨_, rest', HR4, HP2, HJ4⟩
        case measure => rw [HR4.out.left, HLr.out]; exact hlen
      · have HJ4 : Hid (Jx (done ++ [((m1, m2), (m3, m4), m5, m6)]) w4) := hJ4
        clear hJ4 HR3 HRd hy
        gi_wp2
        refine bodyPost_ret (results_none rfl _ _ _) rfl ?_
        exact ⟨⟨_, rfl⟩, .inr ⟨_, trivial, HJ4.out⟩⟩

/-- maps.Values hands back an iterator over a map's nodes. -/
theorem values_gives (n : Nat) (hn : 1 ≤ n) (Bm b : Nat) (ns : List NodeT) (w : World) (hBm : Bm < w.heap.size) (hm : w.cell? ⟨Bm, 0, none⟩ = some (.map (some b))) (hM : MapN w b ns) :
    SeqStopsK Fence.wide n Tryd.prog 59 #[.pointer (some ⟨Bm, 0, none⟩)] (fun x => #[nodeV x]) KeepsWalks (fun xs => xs.Perm ns) (fun _ => True) ns.length w := fun l J Jx W hW hJ _ hY h0 =>
  values1_in n hn l Bm b ns J Jx hY W hJ ((hW.cell (p := ⟨Bm, 0, none⟩) hBm).trans hm) (hM.on hW) h0

theorem Tryd.infoNodeI : (Tryd.prog.info? 40).map (fun i => (i.zero, i.size, i.bytes)) = some (some (.agg #[.int .i64 0, .int .i64 0, .int .i64 0, .int .i64 0, .string ⟨#[]⟩, .string ⟨#[]⟩]), 6, 64) := by kernel_rfl

theorem nodeA_oneI (x : NodeT) : ∀ u ∈ (nodeA x).toList, u.oneCell' = true := by
  intro u hu
  simp [nodeA] at hu
  rcases hu with rfl | rfl | rfl | rfl | rfl | rfl <;> rfl

theorem blk_ownI (B : Nat) (t : TypeId) (cs : Array Value) {X Y : World} {row : Option Nat} (h : Blk X t B cs) (hg : X.grownBy Y row) (hr : ∀ r, row = some r → ∃ o : Obj, X.heap[r]? = some o ∧ o.isCells = false) : Blk Y t B cs := by
  refine h.grown hg (fun e => ?_)
  obtain ⟨o, h1, h2⟩ := hr B e.symm
  rw [show X.heap[B]? = _ from h] at h1
  cases h1; cases h2

set_option maxRecDepth 100000 in
set_option maxHeartbeats 4000000 in
theorem appendSeq_in (n : Nat) (hn : 3 ≤ n) (gf : Nat) (lb : Array Value) (eg : ∀ args w, (callFunc gf args).run Tryd.prog w = .ok (.enter gf args) w) (ns : List NodeT) (hN : ns.length ≤ 1048576) (w : World)
    (hseq : SeqStopsK Fence.wide (n - 1) Tryd.prog gf lb (fun x => #[nodeV x]) KeepsWalks (fun xs => xs.Perm ns) (fun _ => True) ns.length w) :
    CallsIn Fence.wide n Tryd.prog 67 #[.slice none 0 0, .func (.func gf) #[] lb] w fun e w' => ∃ v xs, e = .returned v ∧ xs.Perm ns ∧ OwnN w' w.heap.size v xs ∧ Below w.heap.size w w' := by
  obtain ⟨i0, hi, hz0, hz1, hz2⟩ := info_parts Tryd.infoNodeI
  have h1 : 1 ≤ n := by omega
  refine callsIn_of_wp_marks Tryd.func67 rfl trivial ?_ rfl
  simp only [Tryd.ntmps67, List.size_toArray, List.length_cons, List.length_nil, Nat.reduceAdd, Nat.reduceSub, Array.replicate_succ, Array.replicate_zero, List.push_toArray, List.append_toArray, List.nil_append, List.cons_append]
  gi_wp2
  have bS := Boxed.new w 34 (.slice none 0 0)
  have hB0 : Below w.heap.size w (w.alloc (.cells #[.slice none 0 0] 34)) := below_new w _
  have hsz : (w.alloc (.cells #[.slice none 0 0] 34)).heap.size = w.heap.size + 1 := by simp
  obtain ⟨W0, hW0⟩ : ∃ W0, w.alloc (.cells #[.slice none 0 0] 34) = W0 := ⟨_, rfl⟩
  rw [hW0] at bS hB0 hsz ⊢
  clear hW0
  refine wpIn_rangeFunc_ownH rfl h1 (gf := gf) (lb := lb) rfl trivial eg hseq walksK_t (fun W l o o' hl ho hc hw => KeepsWalks.putObj _ ho hw) hB0 (fun _ => rfl)
    (fun pre W => (∃ v, Boxed W w.heap.size 34 v ∧ W.ownsRow w.heap.size 40 6 v pre.length (cellsN pre) ∧ True) ∧ Below w.heap.size w W)
    (fun _ _ _ => False)
    (OwnFrom.and (Own.from (holdsRow_own w.heap.size w.heap.size 34 40 6 (fun pre => pre.length) cellsN (fun _ _ => True)) _) (ownFrom_below (Nat.le_refl _) (by omega)))
    (fun _ _ _ _ _ hs _ _ => hs)
    ⟨⟨_, bS, World.ownsRow_nil _ _ _ _, trivial⟩, hB0⟩
    (fun x a' W => ∃ Bx, w.heap.size < Bx ∧ Blk W 40 Bx (nodeA x) ∧ a' = { tmps := #[.slice none 0 0, .func (.func gf) #[] lb, .pointer (some ⟨w.heap.size, 0, none⟩), undef, .slice none 0 0, .pointer (some ⟨Bx, 0, none⟩), .func (.func gf) #[] lb, nodeV x, undef, undef, undef, undef, undef], defers := [] })
    (fun x a' _ X Y row hs hg hr => by obtain ⟨Bx, q1, q2, q3⟩ := hs; exact ⟨Bx, q1, blk_ownI Bx _ _ q2 hg (fun r e => (hr r e).2), q3⟩)
    ?assign ?body ?done ?stop
  case assign =>
    rintro l pre x W K ⟨⟨v, bS1, hrow, _⟩, hB1⟩ hK
    obtain ⟨⟨m1, m2⟩, ⟨m3, m4⟩, m5, m6⟩ := x
    simp only [nodeV, nodeA] at hK ⊢
    gi_wp2_with (rw [Oper.semAt_eq _ _ _ (fun c h => by cases h)]; go_simp)
    exact hK _ _ ((KeepsOthers.alloc _ _).from _) (KeepsWalks.alloc _ _) ⟨⟨v, bS1.alloc _, hrow.alloc _, trivial⟩, hB1.alloc hB1.size _⟩ ⟨W.heap.size, bS1.lt, Blk.new _ _ _, rfl⟩
  case body =>
    rintro l pre x a' W hl ⟨r, hr⟩ ⟨⟨v, bS1, hrow, _⟩, hB1⟩ ⟨Bx, hBx, kX, rfl⟩ hlt
    obtain ⟨⟨m1, m2⟩, ⟨m3, m4⟩, m5, m6⟩ := x
    have x0 : W.cell? ⟨Bx, 0, none⟩ = some (.int .i64 m1) := kX.cell 0
    have x1 : W.cell? ⟨Bx, 1, none⟩ = some (.int .i64 m2) := kX.cell 1
    have x2 : W.cell? ⟨Bx, 2, none⟩ = some (.int .i64 m3) := kX.cell 2
    have x3 : W.cell? ⟨Bx, 3, none⟩ = some (.int .i64 m4) := kX.cell 3
    have x4 : W.cell? ⟨Bx, 4, none⟩ = some (.string m5) := kX.cell 4
    have x5 : W.cell? ⟨Bx, 5, none⟩ = some (.string m6) := kX.cell 5
    have cS := bS1.cell
    have hsW := hB1.size
    have hcell : ∀ j u, (nodeA ((m1, m2), (m3, m4), m5, m6)).toList[j]? = some u → (W.alloc (.cells (nodeA ((m1, m2), (m3, m4), m5, m6)) 40)).cell? ((⟨W.heap.size, 0, none⟩ : Addr).add j) = some u := fun j u hj => by
      rw [Go.WideShapes.add_plain, Nat.zero_add, cell_of_row _ _ _ _ 40 (0, 0) (heap_alloc_last W _)]
      simpa using hj
    have HC : Hid (∀ j u, _) := hcell
    have HB1 : Hid (Below w.heap.size w W) := hB1
    have HR : Hid (W.ownsRow w.heap.size 40 6 v pre.length (cellsN pre)) := hrow
    have HS : Hid (Boxed W w.heap.size 34 v) := bS1
    have HI : Hid (Tryd.prog.info? 40 = some i0 ∧ i0.zero = some (.agg #[.int .i64 0, .int .i64 0, .int .i64 0, .int .i64 0, .string ⟨#[]⟩, .string ⟨#[]⟩]) ∧ i0.size = 6 ∧ i0.bytes = 64) := ⟨hi, hz0, hz1, hz2⟩
    clear hcell hB1 hrow bS1 hi hz0 hz1 hz2 kX hr
    simp only [nodeV, nodeA]
    gi_wp2_with (first
      | (gi_at_builtin
         refine wpListIn_append_own _ rfl _ _ 34 rfl w.heap.size 40 i0 _ 6 64 Tryd.underlying34 HI.out.1 HI.out.2.1 HI.out.2.2.1 HI.out.2.2.2 rfl (by decide) _ _ _ rfl (HR.out.alloc _) ⟨W.heap.size, 0, none⟩ 1 1 (nodeA ((m1, m2), (m3, m4), m5, m6)).toList rfl rfl HC.out (nodeA_oneI _) (by unfold maxLen; omega) (by omega) (by simp; omega) ?_
         intro v' w1 hown' hgrow _
         obtain ⟨g', cap', rfl⟩ := ownsRow_succ hown'
         obtain ⟨hv1, hv2, hr2, hk2, hb2⟩ := HS.out.appended (by decide) HR.out hsW (Nat.le_refl _) hown' hgrow
         have hc1 := hv1.cell
         have hf1 := hv1.frozen)
      | (rw [Oper.semAt_eq _ _ _ (fun c h => by cases h)]; go_simp))
    refine ⟨hk2.from _, ⟨hk2.size, fun k o h hw => hk2.same k o h (by cases o <;> first | rfl | cases hw)⟩, ⟨_, hv2, ?_, trivial⟩, HB1.out.trans hb2⟩
    rw [List.length_append, cellsN_snoc]
    exact hr2
  case done =>
    rintro D xs W hD hS ⟨⟨v, bS1, hrow, _⟩, hB1⟩ hK
    have cS := bS1.cell
    have HR : Hid (W.ownsRow w.heap.size 40 6 v xs.length (cellsN xs)) := hrow
    have HB1 : Hid (Below w.heap.size w W) := hB1
    clear hrow hB1 bS1
    gi_wp2
    refine ⟨by simp, .inl ⟨_, _, rfl, run_takeDeferred hK, ?_⟩⟩
    refine ⟨_, results_tmp rfl _ _ _, v, xs, rfl, hS, owns_same HR.out (fun k hk => World.putObj_heap_other (fun e => ?_)), HB1.out.grown (grownBy_putObj' W D _) HB1.out.size (fun k e => by cases e; omega)⟩
    subst e
    rcases HR.out.2 with ⟨rfl, _⟩ | ⟨g, cap, cur, rfl, _, hgb, _⟩
    · cases hk
    · cases hk
      rw [hK] at hgb; cases hgb
  case stop =>
    rintro D c pre W _ _ h _
    exact h.elim

set_option maxRecDepth 100000 in
set_option maxHeartbeats 2000000 in
theorem collect_in (n : Nat) (hn : 4 ≤ n) (gf : Nat) (lb : Array Value) (eg : ∀ args w, (callFunc gf args).run Tryd.prog w = .ok (.enter gf args) w) (ns : List NodeT) (hN : ns.length ≤ 1048576) (w : World)
    (hseq : SeqStopsK Fence.wide (n - 1 - 1) Tryd.prog gf lb (fun x => #[nodeV x]) KeepsWalks (fun xs => xs.Perm ns) (fun _ => True) ns.length w) :
    CallsIn Fence.wide n Tryd.prog 57 #[.func (.func gf) #[] lb] w fun e w' => ∃ v xs, e = .returned v ∧ xs.Perm ns ∧ OwnN w' w.heap.size v xs ∧ Below w.heap.size w w' := by
  have cA := appendSeq_in (n - 1) (by omega) gf lb eg ns hN w hseq
  have hfS : Fence.wide.fn 67 := trivial
  have h1 : 1 ≤ n := by omega
  refine callsIn_of_wp Tryd.func57 rfl trivial ?_ rfl
  simp only [Tryd.ntmps57, List.size_toArray, List.length_cons, List.length_nil, Nat.reduceAdd, Nat.reduceSub, Array.replicate_succ, Array.replicate_zero, List.push_toArray, List.append_toArray, List.nil_append, List.cons_append]
  gi_wp2_with (gi_at_call 67; refine cA.mono ?_; rintro e w' ⟨v, xs, rfl, q1, q2, q3⟩)
  go_ret
  exact ⟨v, xs, rfl, q1, q2, q3⟩

set_option maxHeartbeats 1000000 in
theorem values_any (b : Nat) (w : World) :
    Calls Tryd.prog 44 #[.map (some b)] w fun e w' => e = .returned (.func (.func 59) #[] #[.pointer (some ⟨w.heap.size, 0, none⟩)]) ∧ w' = w.alloc (.cells #[.map (some b)] 50) := by
  go_enter Tryd.func44, Tryd.ntmps44
  go_wp2
  go_ret
  exact ⟨rfl, rfl⟩

/-- slices.Collect(maps.Values(m)). -/
theorem collect_any (b : Nat) (ns : List NodeT) (hN : ns.length ≤ 1048576) (w : World) (hM : MapN w b ns) :
    Calls Tryd.prog 57 #[.func (.func 59) #[] #[.pointer (some ⟨w.heap.size, 0, none⟩)]] (w.alloc (.cells #[.map (some b)] 50)) fun e w' => ∃ v xs, e = .returned v ∧ xs.Perm ns ∧ OwnN w' (w.heap.size + 1) v xs ∧ Below (w.heap.size + 1) (w.alloc (.cells #[.map (some b)] 50)) w' := by
  have h := collect_in 6 (by omega) 59 #[.pointer (some ⟨w.heap.size, 0, none⟩)] (enters_of Tryd.func59 (by kernel_rfl) rfl) ns hN (w.alloc (.cells #[.map (some b)] 50))
    (values_gives _ (by omega) w.heap.size b ns _ (by simp) (by simp) (hM.on (below_new w _)))
  rw [World.size_alloc] at h
  exact callsIn_wide.1 h
end Go.Proofs.YtaomhhooipfjbaaDoor
