/- The library's slices.SortFunc, SortedFunc at nodes; the code's list (layer 11). -/
import Derived.Test.YtaomhhooipfjbaaDoorTmI
import Derived.Test.YtaomhhooipfjbaaDoorTmO
import Derived.Test.YtaomhhooipfjbaaDoorShelfS
import Derived.Test.YtaomhhooipfjbaaDoorRTrF
import Derived.Shelf.SlSortCmp.WholeK
namespace Go.Proofs.YtaomhhooipfjbaaDoor
open Go.RowKit Go.Sort
set_option linter.unusedSimpArgs false

def encN (x : NodeT) : List Value := (nodeA x).toList

theorem cellsN_len (l : List NodeT) : (cellsN l).length = l.length * 6 := by
  induction l with
  | nil => rfl
  | cons x l ih =>
    show ((nodeA x).toList ++ cellsN l).length = _
    rw [List.length_append, ih, List.length_cons]
    show 6 + _ = _
    omega

theorem flat_cells (d : Array NodeT) : (flatK encN 6 d).toList = cellsN d.toList := by
  apply List.ext_getElem?
  intro t
  by_cases ht : t < d.size * 6
  · have hi : t / 6 < d.toList.length := by rw [Array.length_toList]; omega
    obtain ⟨u, h1, h2⟩ := cellsN_at d.toList (t / 6) hi (t % 6) (by omega)
    rw [show t / 6 * 6 + t % 6 = t by omega] at h2
    rw [h2, Array.getElem?_toList, Array.getElem?_eq_getElem (by rw [size_flatK]; exact ht)]
    have h3 := get_flatK encN 6 d t ht
    rw [getElem!_pos _ t (by rw [size_flatK]; exact ht)] at h3
    rw [h3]
    have hd : d[t / 6]! = nL d.toList (t / 6) := by
      have hlt : t / 6 < d.size := by omega
      rw [getElem!_pos d (t / 6) hlt]
      unfold nL
      rw [List.getD_eq_getElem?_getD, List.getElem?_eq_getElem hi, Array.getElem_toList]; rfl
    rw [hd]
    have hj : t % 6 < (encN (nL d.toList (t / 6))).length := by show t % 6 < 6; omega
    rw [getElem!_pos (encN (nL d.toList (t / 6))) (t % 6) hj]
    have h4 : (encN (nL d.toList (t / 6)))[t % 6]? = some u := by
      show ((nodeA (nL d.toList (t / 6))).toList)[t % 6]? = _
      rw [Array.getElem?_toList]; exact h1
    rw [List.getElem?_eq_getElem hj] at h4
    exact h4
  · rw [List.getElem?_eq_none (by rw [Array.length_toList, size_flatK]; omega), List.getElem?_eq_none (by rw [cellsN_len, Array.length_toList]; omega)]

theorem holds_nodes {w : World} {B g cap : Nat} {l : List NodeT} (h : OwnN w B (.slice (some ⟨g, 0, none⟩) l.length cap) l) : HoldsK encN 6 w g 0 l.toArray := by
  intro j hj
  have hj' : j < l.length * 6 := by rw [size_flatK] at hj; simpa using hj
  rcases h.2 with ⟨h0, _⟩ | ⟨g', cap', cur, hv, hB, hgb, h1, h2, h3, h4⟩
  · cases h0
  · cases hv
    refine ⟨?_, by simp [World.frozen?, hgb]⟩
    rw [Nat.zero_add, World.ownsRow.cellAt h j hj']
    show (cellsN l)[j]? = some (flatK encN 6 l.toArray)[j]!
    have hf := flat_cells l.toArray
    rw [List.toList_toArray] at hf
    rw [← hf, getElem!_pos _ j hj, Array.getElem?_toList, Array.getElem?_eq_getElem hj]

theorem owns_sorted {w : World} {B g cap n : Nat} {os : Array Obj} {l : List NodeT} {d' : Array NodeT} (h : OwnN w B (.slice (some ⟨g, 0, none⟩) l.length cap) l) (hd : d'.size = l.length) :
    OwnN (sortWorldK encN 6 w g 0 n d' os) B (.slice (some ⟨g, 0, none⟩) l.length cap) d'.toList ∧ w.grownBy (sortWorldK encN 6 w g 0 n d' os) (some g) := by
  rcases h.2 with ⟨h0, _⟩ | ⟨g', cap', cur, hv, hB, hgb, h1, h2, h3, h4⟩
  · cases h0
  · cases hv
    have hg : g < w.heap.size := (Array.getElem?_eq_some_iff.1 hgb).1
    have hlen : d'.toList.length = l.length := by rw [Array.length_toList, hd]
    refine ⟨?_, ?_⟩
    · unfold OwnN
      rw [hlen]
      refine ⟨by rw [cellsN_len, hlen], .inr ⟨g, cap, putCells id 0 (flatK encN 6 d') cur, rfl, hB, ?_, h1, h2, ?_, ?_⟩⟩
      · unfold sortWorldK putRowK
        rw [heap_grow_old _ _ (by simpa [putRow, mapBlock, Sort.ahead] using hg)]
        simp [putRow, mapBlock, Sort.ahead, Array.getElem?_modify, hgb, onCells]
      · simp [putCells, h3]
      · have hsz : (flatK encN 6 d').size = l.length * 6 := by rw [size_flatK, hd]
        rw [← flat_cells d']
        apply List.ext_getElem?
        intro j
        by_cases hj : j < l.length * 6
        · have hjc : j < cur.size := by
            rw [h3]
            have := Nat.mul_le_mul_right 6 h1
            omega
          rw [List.getElem?_take_of_lt hj, Array.getElem?_toList, Array.getElem?_toList, Array.getElem?_eq_getElem (show j < (flatK encN 6 d').size by rw [hsz]; exact hj)]
          simp [putCells, hsz, hj, hjc]
        · rw [List.getElem?_take_eq_none (by omega), List.getElem?_eq_none (by rw [Array.length_toList, hsz]; omega)]
    · refine ⟨rfl, rfl, rfl, by simp [sortWorldK, putRowK, grow, putRow, mapBlock, Sort.ahead], fun k hk hne => ?_⟩
      have : g ≠ k := fun e => hne (by rw [e])
      unfold sortWorldK putRowK
      rw [heap_grow_old _ _ (by simpa [putRow, mapBlock, Sort.ahead] using hk)]
      simp [putRow, mapBlock, Sort.ahead, Array.getElem?_modify, this]

theorem cmp_lays (blk off size : Nat) (w : World) : CmpLays Tryd.prog 45 #[] encN 6 cmpN blk off size w :=
  fun _ _ _ _ x y => list1_grew x y _

set_option maxHeartbeats 1000000 in
/-- Nodes of the call's own, sorted. -/
theorem sort_some (B g cap : Nat) (xs ns : List NodeT) (w : World) (hN : ns.length ≤ 1048576) (hp : xs.Perm ns) (hs : SortN ns) (h : OwnN w B (.slice (some ⟨g, 0, none⟩) xs.length cap) xs) :
    Calls Tryd.prog 58 #[.slice (some ⟨g, 0, none⟩) xs.length cap, .func (.func 45) #[] #[]] w fun e w' => e = .returned (.tuple #[]) ∧ OwnN w' B (.slice (some ⟨g, 0, none⟩) xs.length cap) ns ∧ w.grownBy w' (some g) := by
  have hlen := hp.length_eq
  have hcon := AnyQ.slices_SortFunc Tryd.sortS 6 Tryd.isAgg40 Tryd.sizeOf40 encN (fun _ => rfl) (fun x => nodeA_oneI x) cmpN swoN 45 #[] g 0 cap xs.toArray w (enters_of Tryd.func45 (by kernel_rfl) rfl) (cmp_lays _ _ _ _) (holds_nodes h) (World.ownsRow.lt h g rfl).2 (by simp; omega)
  rw [List.size_toArray] at hcon
  change Calls Tryd.prog 58 _ _ _ at hcon
  refine hcon.mono ?_
  rintro e w' ⟨rfl, d', n, os, q1, q2, rfl⟩
  have hd : d'.toList = ns := sorted_nodes (d := xs.toArray) hs hp (by rw [List.size_toArray]; exact q1) (by rw [List.size_toArray]; exact q2)
  have hsz : d'.size = xs.length := by rw [← Array.length_toList, hd, hlen]
  obtain ⟨k1, k2⟩ := owns_sorted (n := n) (os := os) h hsz
  rw [hd] at k1
  exact ⟨rfl, k1, k2⟩


set_option maxHeartbeats 2000000 in
theorem insertionSort_none (p : Option Addr) (cap : Nat) (fv : Value) (w : World) :
    Calls Tryd.prog 75 #[.slice p 0 cap, .int .i64 0, .int .i64 0, fv] w fun e w' => e = .returned (.tuple #[]) ∧ w' = w := by
  go_enter Tryd.func75, Tryd.ntmps75
  go_wp2
  refine wp_loop_rounds 1 ?_
  rw [rounds_succ]
  go_wp2
  go_end0
  exact ⟨rfl, rfl⟩

set_option maxHeartbeats 2000000 in
theorem pdqsort_none (p : Option Addr) (cap : Nat) (lim : Int) (fv : Value) (w : World) :
    Calls Tryd.prog 68 #[.slice p 0 cap, .int .i64 0, .int .i64 0, .int .i64 lim, fv] w fun e w' => e = .returned (.tuple #[]) ∧ w' = w := by
  have hi := fun W => insertionSort_none p cap fv W
  go_enter Tryd.func68, Tryd.ntmps68
  go_wp2
  refine wp_loop_rounds 1 ?_
  rw [rounds_succ]
  go_wp2_with (go_at_call 75; refine (hi _).mono ?_; rintro e w' ⟨rfl, rfl⟩)
  (try simp only [Exit.inBlock, Exit.then]); refine bodyPost_ret (results_none rfl _ _ _) rfl ?_
  exact ⟨rfl, rfl⟩

set_option maxHeartbeats 2000000 in
theorem sort_none (p : Option Addr) (cap : Nat) (fv : Value) (w : World) :
    Calls Tryd.prog 58 #[.slice p 0 cap, fv] w fun e w' => e = .returned (.tuple #[]) ∧ w' = w := by
  have hp := fun lim W => pdqsort_none p cap lim fv W
  have hl : ∀ W, Calls Tryd.prog 69 #[.int .u64 0] W fun e w' => e = .returned (.int .i64 (Lib.bitLen 0 : Nat)) ∧ w' = W := fun W => by
    have h := Any.bits_Len (SlLaysF0.n15.bits (P := Tryd.prog) (ρ := Tryd.sortS_ren) { Tryd.sortS with }) 0 W (by omega) (by omega)
    exact h
  go_enter Tryd.func58, Tryd.ntmps58
  go_wp2_with (first | (go_at_call 69; refine (hl _).mono ?_; rintro e w' ⟨rfl, rfl⟩) | (go_at_call 68; refine (hp _ _).mono ?_; rintro e w' ⟨rfl, rfl⟩))
  go_end0
  exact ⟨rfl, rfl⟩

set_option maxRecDepth 100000 in
set_option maxHeartbeats 2000000 in
/-- The nodes of a map, by their numbers. -/
theorem list_any (b : Nat) (ns : List NodeT) (hN : ns.length ≤ 1048576) (w : World) (hM : MapN w b ns) :
    Calls Tryd.prog 30 #[.map (some b)] w fun e w' => ∃ v, e = .returned v ∧ OwnN w' w.heap.size v ns ∧ Below w.heap.size w w' := by
  have CS : Hid (Calls Tryd.prog 43 #[.func (.func 59) #[] #[.pointer (some ⟨w.heap.size, 0, none⟩)], .func (.func 45) #[] #[]] (w.alloc (.cells #[.map (some b)] 50)) fun e w' => ∃ v, e = .returned v ∧ OwnN w' w.heap.size v ns ∧ Below w.heap.size w w') := by
    have CC : Hid (Calls _ _ _ _ _) := collect_any b ns hN w hM
    have hB0 : Below w.heap.size w (w.alloc (.cells #[.map (some b)] 50)) := below_new w _
    show Calls _ _ _ _ _
    go_enter Tryd.func43, Tryd.ntmps43
    go_wp2_with fail
    refine CC.out.mono ?_
    rintro e w1 ⟨v, xs, rfl, hp, ho, hb⟩
    have hB1 : Below w.heap.size w w1 := hB0.trans (hb.mono (by omega))
    have hlen := hp.length_eq
    rcases ho.2 with ⟨rfl, h0⟩ | ⟨g, cap, cur, rfl, hBg, _⟩
    · have hns : ns = [] := List.length_eq_zero_iff.1 (by omega)
      have HE : Hid (OwnN w1 w.heap.size (.slice none 0 0) ns) := by show OwnN _ _ _ _; rw [hns]; exact OwnN.nil _ _
      clear CC hb ho hp
      go_wp2_with (go_at_call 58; refine (sort_none _ _ _ _).mono ?_; rintro e w' ⟨rfl, rfl⟩)
      go_ret
      exact ⟨_, rfl, HE.out, hB1⟩
    · have CT : Hid (Calls _ _ _ _ _) := sort_some (w.heap.size + 1) g cap xs ns w1 hN hp hM.sort ho
      clear CC hb ho hp hlen
      go_wp2_with fail
      refine CT.out.mono ?_
      rintro e w2 ⟨rfl, ho2, hg2⟩
      have HO : Hid (OwnN w2 w.heap.size _ ns) := own_less ho2 (by omega)
      have HB : Hid (Below w.heap.size w w2) := hB1.grown hg2 hB1.size (fun k e => by cases e; omega)
      clear CT ho2 hg2
      go_wp2_with fail
      go_ret
      exact ⟨_, rfl, HO.out, HB.out⟩
  clear hM
  go_enter Tryd.func30, Tryd.ntmps30
  go_wp2_with fail
  refine (values_any b w).mono ?_
  rintro e w1 ⟨rfl, rfl⟩
  go_wp2_with fail
  refine CS.out.mono ?_
  rintro e w2 ⟨v, rfl, ho, hb⟩
  go_wp2_with fail
  go_ret
  exact ⟨v, rfl, ho, hb⟩
end Go.Proofs.YtaomhhooipfjbaaDoor
