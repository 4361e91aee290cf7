import Derived.Test.YtebnmghjdoblaaaGreatDoorVC
import Derived.Test.YtebnmghjdoblaaaGreatDoorVD
import Derived.Test.YtebnmghjdoblaaaGreatDoorShelfS
import Derived.Shelf.SlSortCmp.WholeK
import Derived.Lib.Bytealg
import Derived.Test.YtebnmghjdoblaaaGreatDoorVB
/- The library's slices.SortFunc at lines, by their names (layer 12). -/
namespace Go.Proofs.YtebnmghjdoblaaaGreatDoor
open Go.RowKit Go.Sort
set_option linter.unusedSimpArgs false

/-- A world with draws, and new blocks, behind another. -/
def Grew (w w' : World) : Prop := ∃ q os, w' = grow (w.drewN q) os

theorem Grew.refl (w : World) : Grew w w := ⟨0, #[], by simp [World.drewN]⟩

theorem Grew.trans {a b c : World} (h : Grew a b) (k : Grew b c) : Grew a c := by
  obtain ⟨q, os, rfl⟩ := h
  obtain ⟨q', os', rfl⟩ := k
  refine ⟨q + q', os ++ os', ?_⟩
  show grow (grow ((a.drewN q).drewN q') os) os' = _
  rw [grow_grow, World.drewN_drewN]

theorem Grew.alloc {a b : World} (h : Grew a b) (o : Obj) : Grew a (b.alloc o) := h.trans ⟨0, #[o], by rw [alloc_eq_grow]; rfl⟩

theorem Grew.below {a b : World} (h : Grew a b) : Below a.heap.size a b := by
  obtain ⟨q, os, rfl⟩ := h
  refine ⟨rfl, rfl, rfl, by simp [grow, World.drewN], fun k hk => ?_⟩
  show (a.heap ++ os)[k]? = _
  rw [Array.getElem?_append_left hk]

theorem cmp_less : ∀ (a b : List UInt8), Lib.compareBytes a b < 0 ↔ Op.bytesLess a b = true
  | [], [] => by simp [Lib.compareBytes, Op.bytesLess]
  | [], _ :: _ => by simp [Lib.compareBytes, Op.bytesLess]
  | _ :: _, [] => by simp [Lib.compareBytes, Op.bytesLess]
  | a :: xs, b :: ys => by
    unfold Lib.compareBytes Op.bytesLess
    by_cases h : a < b
    · simp [h]
    · by_cases k : b < a
      · have : a ≠ b := fun e => by rw [e] at k; exact absurd k (UInt8.lt_irrefl b)
        simp [h, k, this]
      · have e : a = b := UInt8.le_antisymm (UInt8.not_lt.1 k) (UInt8.not_lt.1 h)
        simp [h, k, e, cmp_less xs ys]

/-- How two lines stand. -/
def cmpLn (x y : LineT) : Int := Lib.compareBytes x.2.2.1.data.toList y.2.2.1.data.toList

theorem ltLn (x y : LineT) : ltOf cmpLn x y = ltT x.2.2.1 y.2.2.1 := by
  unfold ltOf cmpLn ltT
  rw [toList_data, toList_data]
  cases h : Op.bytesLess x.2.2.1.data.toList y.2.2.1.data.toList with
  | true => exact decide_eq_true ((cmp_less _ _).2 h)
  | false => exact decide_eq_false (fun k => by rw [(cmp_less _ _).1 k] at h; cases h)

theorem swoL : SWO (ltOf cmpLn) where
  irrefl x := by rw [ltLn]; exact ltT_self _
  trans x y z h1 h2 := by
    rw [ltLn] at *
    exact ltT_trans h1 h2
  ntrans x y z h1 h2 := by
    rw [ltLn] at *
    cases h : ltT x.2.2.1 z.2.2.1 with
    | false => rfl
    | true =>
      by_cases e : y.2.2.1 = x.2.2.1
      · rw [e, h] at h2; exact h2
      · have h3 := ltT_or h1 (fun k => e k.symm)
        rw [ltT_trans h3 h] at h2; exact h2

theorem sorted_lines {d d' : Array LineT} {ns : List LineT} (hs : SortL ns) (hp : d.toList.Perm ns) (h1 : PermIn 0 d.size d d') (h2 : SortedIn (ltOf cmpLn) 0 d.size d') : d'.toList = ns := by
  obtain ⟨k1, _, k3⟩ := h1
  rw [← k1] at k3 h2
  rw [Array.extract_size, show d.extract 0 d'.size = d by rw [k1, Array.extract_size]] at k3
  have hp' : d'.toList.Perm ns := k3.trans hp
  refine sortL_perm ?_ hs hp'
  have hn : (d'.toList.map (fun n => n.2.2.1)).Nodup := by
    refine (hp'.map (fun n : LineT => n.2.2.1)).nodup_iff.2 ?_
    unfold SortL at hs
    rw [List.nodup_iff_pairwise_ne, List.pairwise_map]
    exact hs.imp (fun hl e => by rw [e, ltT_self] at hl; cases hl)
  unfold SortL
  rw [List.pairwise_iff_getElem]
  intro i j hi hj hij
  have hi' : i < d'.size := by simpa using hi
  have hj' : j < d'.size := by simpa using hj
  have h := h2 i j (Nat.zero_le _) hij hj'
  rw [ltLn, getElem!_pos d' j hj', getElem!_pos d' i hi'] at h
  rw [Array.getElem_toList, Array.getElem_toList]
  refine ltT_or h (fun e => ?_)
  rw [List.nodup_iff_pairwise_ne, List.pairwise_map, List.pairwise_iff_getElem] at hn
  have := hn i j hi hj hij
  rw [Array.getElem_toList, Array.getElem_toList] at this
  exact this e.symm

def encL (x : LineT) : List Value := (lineA x).toList

theorem flat_cellsL (d : Array LineT) : (flatK encL 5 d).toList = cellsL d.toList := by
  apply List.ext_getElem?
  intro t
  by_cases ht : t < d.size * 5
  · have hi : t / 5 < d.toList.length := by rw [Array.length_toList]; omega
    obtain ⟨u, h1, h2⟩ := cellsL_at d.toList (t / 5) hi (t % 5) (by omega)
    rw [show t / 5 * 5 + t % 5 = t by omega] at h2
    rw [h2, Array.getElem?_toList, Array.getElem?_eq_getElem (by rw [size_flatK]; exact ht)]
    have h3 := get_flatK encL 5 d t ht
    rw [getElem!_pos _ t (by rw [size_flatK]; exact ht)] at h3
    rw [h3]
    have hd : d[t / 5]! = lL d.toList (t / 5) := by
      have hlt : t / 5 < d.size := by omega
      rw [getElem!_pos d (t / 5) hlt]
      unfold lL
      rw [List.getD_eq_getElem?_getD, List.getElem?_eq_getElem hi, Array.getElem_toList]; rfl
    rw [hd]
    have hj : t % 5 < (encL (lL d.toList (t / 5))).length := by show t % 5 < 5; omega
    rw [getElem!_pos (encL (lL d.toList (t / 5))) (t % 5) hj]
    have h4 : (encL (lL d.toList (t / 5)))[t % 5]? = some u := by
      show ((lineA (lL d.toList (t / 5))).toList)[t % 5]? = _
      rw [Array.getElem?_toList]; exact h1
    rw [List.getElem?_eq_getElem hj] at h4
    exact h4
  · rw [List.getElem?_eq_none (by rw [Array.length_toList, size_flatK]; omega), List.getElem?_eq_none (by rw [cellsL_len, Array.length_toList]; omega)]

theorem holds_lines {w : World} {B g cap : Nat} {l : List LineT} (h : OwnL w B (.slice (some ⟨g, 0, none⟩) l.length cap) l) : HoldsK encL 5 w g 0 l.toArray := by
  intro j hj
  have hj' : j < l.length * 5 := by rw [size_flatK] at hj; simpa using hj
  rcases h.2 with ⟨h0, _⟩ | ⟨g', cap', cur, hv, hB, hgb, h1, h2, h3, h4⟩
  · cases h0
  · cases hv
    refine ⟨?_, by simp [World.frozen?, hgb]⟩
    rw [Nat.zero_add, World.ownsRow.cellAt h j hj']
    show (cellsL l)[j]? = some (flatK encL 5 l.toArray)[j]!
    have hf := flat_cellsL l.toArray
    rw [List.toList_toArray] at hf
    rw [← hf, getElem!_pos _ j hj, Array.getElem?_toList, Array.getElem?_eq_getElem hj]

theorem owns_sortedL {w : World} {B g cap n : Nat} {os : Array Obj} {l : List LineT} {d' : Array LineT} (h : OwnL w B (.slice (some ⟨g, 0, none⟩) l.length cap) l) (hd : d'.size = l.length) :
    OwnL (sortWorldK encL 5 w g 0 n d' os) B (.slice (some ⟨g, 0, none⟩) l.length cap) d'.toList ∧ w.grownBy (sortWorldK encL 5 w g 0 n d' os) (some g) := by
  rcases h.2 with ⟨h0, _⟩ | ⟨g', cap', cur, hv, hB, hgb, h1, h2, h3, h4⟩
  · cases h0
  · cases hv
    have hg : g < w.heap.size := (Array.getElem?_eq_some_iff.1 hgb).1
    have hlen : d'.toList.length = l.length := by rw [Array.length_toList, hd]
    refine ⟨?_, ?_⟩
    · unfold OwnL
      rw [hlen]
      refine ⟨by rw [cellsL_len, hlen], .inr ⟨g, cap, putCells id 0 (flatK encL 5 d') cur, rfl, hB, ?_, h1, h2, ?_, ?_⟩⟩
      · unfold sortWorldK putRowK
        rw [heap_grow_old _ _ (by simpa [putRow, mapBlock, Sort.ahead] using hg)]
        simp [putRow, mapBlock, Sort.ahead, Array.getElem?_modify, hgb, onCells]
      · simp [putCells, h3]
      · have hsz : (flatK encL 5 d').size = l.length * 5 := by rw [size_flatK, hd]
        rw [← flat_cellsL d']
        apply List.ext_getElem?
        intro j
        by_cases hj : j < l.length * 5
        · have hjc : j < cur.size := by
            rw [h3]
            have := Nat.mul_le_mul_right 5 h1
            omega
          rw [List.getElem?_take_of_lt hj, Array.getElem?_toList, Array.getElem?_toList, Array.getElem?_eq_getElem (show j < (flatK encL 5 d').size by rw [hsz]; exact hj)]
          simp [putCells, hsz, hj, hjc]
        · rw [List.getElem?_take_eq_none (by omega), List.getElem?_eq_none (by rw [Array.length_toList, hsz]; omega)]
    · refine ⟨rfl, rfl, rfl, by simp [sortWorldK, putRowK, grow, putRow, mapBlock, Sort.ahead], fun k hk hne => ?_⟩
      have : g ≠ k := fun e => hne (by rw [e])
      unfold sortWorldK putRowK
      rw [heap_grow_old _ _ (by simpa [putRow, mapBlock, Sort.ahead] using hk)]
      simp [putRow, mapBlock, Sort.ahead, Array.getElem?_modify, this]


set_option maxHeartbeats 2000000 in
theorem insertionSort_noneL (p : Option Addr) (cap : Nat) (fv : Value) (w : World) :
    Calls Tryz.prog 104 #[.slice p 0 cap, .int .i64 0, .int .i64 0, fv] w fun e w' => e = .returned (.tuple #[]) ∧ w' = w := by
  go_enter Tryz.func104, Tryz.ntmps104
  go_wp2
  refine wp_loop_rounds 1 ?_
  rw [rounds_succ]
  go_wp2
  go_end0
  exact ⟨rfl, rfl⟩

set_option maxHeartbeats 2000000 in
theorem pdqsort_noneLL (p : Option Addr) (cap : Nat) (lim : Int) (fv : Value) (w : World) :
    Calls Tryz.prog 92 #[.slice p 0 cap, .int .i64 0, .int .i64 0, .int .i64 lim, fv] w fun e w' => e = .returned (.tuple #[]) ∧ w' = w := by
  have hi := fun W => insertionSort_noneL p cap fv W
  go_enter Tryz.func92, Tryz.ntmps92
  go_wp2
  refine wp_loop_rounds 1 ?_
  rw [rounds_succ]
  go_wp2_with (go_at_call 104; refine (hi _).mono ?_; rintro e w' ⟨rfl, rfl⟩)
  (try simp only [Exit.inBlock, Exit.then]); refine bodyPost_ret (results_none rfl _ _ _) rfl ?_
  exact ⟨rfl, rfl⟩

set_option maxHeartbeats 2000000 in
theorem sort_noneL (p : Option Addr) (cap : Nat) (fv : Value) (w : World) :
    Calls Tryz.prog 70 #[.slice p 0 cap, fv] w fun e w' => e = .returned (.tuple #[]) ∧ w' = w := by
  have hp := fun lim W => pdqsort_noneLL p cap lim fv W
  have hl : ∀ W, Calls Tryz.prog 93 #[.int .u64 0] W fun e w' => e = .returned (.int .i64 (Lib.bitLen 0 : Nat)) ∧ w' = W := fun W => by
    have h := Any.bits_Len (SlLaysF0.n15.bits (P := Tryz.prog) (ρ := Tryz.sortS_ren) { Tryz.sortS with }) 0 W (by omega) (by omega)
    exact h
  go_enter Tryz.func70, Tryz.ntmps70
  go_wp2_with (first | (go_at_call 93; refine (hl _).mono ?_; rintro e w' ⟨rfl, rfl⟩) | (go_at_call 92; refine (hp _ _).mono ?_; rintro e w' ⟨rfl, rfl⟩))
  go_end0
  exact ⟨rfl, rfl⟩

set_option maxRecDepth 100000 in
set_option maxHeartbeats 2000000 in
theorem cmpString_any (a b : ByteArray) (w : World) : Calls Tryz.prog 94 #[.string a, .string b] w fun e w' => e = .returned (.int .i64 (Lib.compareBytes a.data.toList b.data.toList)) ∧ w' = w := by
  go_enter Tryz.func94, Tryz.ntmps94
  go_wp2
  rw [run_callFunc_extern Tryz.func114 (by kernel_rfl) (by kernel_rfl) (by kernel_rfl) (e := Extern.BytealgCompare.compare) (by kernel_rfl), Lib.run_compareString]
  simp only [Result.andThen]
  rw [Oper.upon_value]
  go_wp2
  go_ret
  exact ⟨rfl, rfl⟩

set_option maxRecDepth 100000 in
set_option maxHeartbeats 2000000 in
theorem compareS_any (a b : ByteArray) (w : World) : Calls Tryz.prog 72 #[.string a, .string b] w fun e w' => e = .returned (.int .i64 (Lib.compareBytes a.data.toList b.data.toList)) ∧ w' = w := by
  go_enter Tryz.func72, Tryz.ntmps72
  go_wp2_with fail
  refine (cmpString_any a b w).mono ?_
  rintro e w' ⟨rfl, rfl⟩
  go_wp2_with fail
  go_ret
  exact ⟨rfl, rfl⟩

set_option maxRecDepth 100000 in
set_option maxHeartbeats 2000000 in
theorem lines1_grew (n m : LineT) (w : World) :
    Calls Tryz.prog 71 #[.agg (lineA n), .agg (lineA m)] w fun e w' => e = .returned (.int .i64 (cmpLn n m)) ∧ Grew w w' := by
  have C' := fun w => compareS_any n.2.2.1 m.2.2.1 w
  unfold cmpLn
  obtain ⟨E, hE⟩ : ∃ E, Lib.compareBytes n.2.2.1.data.toList m.2.2.1.data.toList = E := ⟨_, rfl⟩
  rw [hE] at C' ⊢
  obtain ⟨k0, ⟨k1, k2⟩, k3, k4⟩ := n
  obtain ⟨q0, ⟨q1, q2⟩, q3, q4⟩ := m
  have C : Hid (∀ w, Calls Tryz.prog 72 #[.string k3, .string q3] w fun e w' => e = .returned (.int .i64 E) ∧ w' = w) := C'
  show Calls Tryz.prog _ #[.agg #[.int .i64 k0, .int .i64 k1, .int .i64 k2, .string k3, .string k4], .agg #[.int .i64 q0, .int .i64 q1, .int .i64 q2, .string q3, .string q4]] w _
  clear C' hE
  go_enter Tryz.func71, Tryz.ntmps71
  go_wp2_with fail
  refine (C.out _).mono ?_
  rintro e w1 ⟨rfl, rfl⟩
  clear C
  go_wp2_with fail
  go_ret
  exact ⟨rfl, ((Grew.refl w).alloc _).alloc _⟩

theorem cmp_laysL (blk off size : Nat) (w : World) : CmpLays Tryz.prog 71 #[] encL 5 cmpLn blk off size w :=
  fun _ _ _ _ x y => lines1_grew x y _

set_option maxHeartbeats 1000000 in
/-- Lines of the call's own, sorted. -/
theorem sort_someL (B g cap : Nat) (xs ns : List LineT) (w : World) (hN : ns.length ≤ 1048576) (hp : xs.Perm ns) (hs : SortL ns) (h : OwnL w B (.slice (some ⟨g, 0, none⟩) xs.length cap) xs) :
    Calls Tryz.prog 70 #[.slice (some ⟨g, 0, none⟩) xs.length cap, .func (.func 71) #[] #[]] w fun e w' => e = .returned (.tuple #[]) ∧ OwnL w' B (.slice (some ⟨g, 0, none⟩) xs.length cap) ns ∧ w.grownBy w' (some g) := by
  have hlen := hp.length_eq
  have hcon := AnyQ.slices_SortFunc Tryz.sortS 5 Tryz.isAgg43 Tryz.sizeOf43 encL (fun _ => rfl) (fun x => lineA_one x) cmpLn swoL 71 #[] g 0 cap xs.toArray w (enters_of Tryz.func71 (by kernel_rfl) rfl) (cmp_laysL _ _ _ _) (holds_lines h) (World.ownsRow.lt h g rfl).2 (by simp; omega)
  rw [List.size_toArray] at hcon
  change Calls Tryz.prog 70 _ _ _ at hcon
  refine hcon.mono ?_
  rintro e w' ⟨rfl, d', n, os, q1, q2, rfl⟩
  have hd : d'.toList = ns := sorted_lines (d := xs.toArray) hs hp (by rw [List.size_toArray]; exact q1) (by rw [List.size_toArray]; exact q2)
  have hsz : d'.size = xs.length := by rw [← Array.length_toList, hd, hlen]
  obtain ⟨k1, k2⟩ := owns_sortedL (n := n) (os := os) h hsz
  rw [hd] at k1
  exact ⟨rfl, k1, k2⟩
end Go.Proofs.YtebnmghjdoblaaaGreatDoor

/- The code's lines of one parent's children (layer 12). -/
namespace Go.Proofs.YtebnmghjdoblaaaGreatDoor
open Go.RowKit
set_option linter.unusedSimpArgs false

theorem take_name (ks : List NodeT) (k : Nat) (h : k < ks.length) : ((ks.take (k + 1)).map (fun x => x.2.2.1)).map Value.string = ((ks.take k).map (fun x => x.2.2.1)).map Value.string ++ [.string (nL ks k).2.2.1] := by
  rw [List.take_succ_eq_append_getElem h, List.map_append, List.map_append, ← nL_getE ks k h]
  rfl

set_option maxRecDepth 100000 in
set_option maxHeartbeats 16000000 in
theorem linesC_any (l : List NodeT) (p : Int × Int) (d : Int) (B r : Nat) (w : World) (hn9 : (kidsP l p l.length).length ≤ 90) (hz : ∀ x ∈ kidsP l p l.length, x.2.2.1.size ≤ 65536) (hG : MapG w B r (fun q => kidsP l q l.length)) :
    Calls Tryz.prog 49 #[.map (some r), .agg #[.int .i64 p.1, .int .i64 p.2], .int .i64 d] w fun e w' => ∃ v, e = .returned v ∧ OwnL w' w.heap.size v (childP l p d) ∧ Below w.heap.size w w' := by
  obtain ⟨v, hlk, hov⟩ := (hG.on (below_new w (.cells #[.int .i64 p.1, .int .i64 p.2] 36))).look 61 22 Tryz.underlying61 zeroRowN p
  obtain ⟨ad, cap, rfl, hat⟩ := OwnN.nodes hov
  obtain ⟨j0, hj, hj0, hj1, hj2⟩ := info_parts Tryz.infoS
  obtain ⟨i1, hl, hl0, hl1, hl2⟩ := info_parts Tryz.infoLine
  have HG : Hid (MapG (w.alloc (.cells #[.int .i64 p.1, .int .i64 p.2] 36)) B r (fun q => kidsP l q l.length)) := hG.on (below_new _ _)
  have HSt : Hid (Blk (w.alloc (.cells #[.int .i64 p.1, .int .i64 p.2] 36)) 36 w.heap.size #[.int .i64 p.1, .int .i64 p.2]) := Blk.new _ _ _
  have HB0 : Hid (Below w.heap.size w (w.alloc (.cells #[.int .i64 p.1, .int .i64 p.2] 36))) := below_new _ _
  have HP : Hid (∀ o : List LineT, o = childP l p d ∨ ¬ o = childP l p d) := fun o => Classical.em _
  have HPs := childP_sort l p d hn9
  have HPp := childF_row (kidsP l p l.length) (distF ((kidsP l p l.length).map (fun x => x.2.2.1)) (kidsP l p l.length).length) d (kidsP l p l.length).length
  have HPl : (childP l p d).length = (kidsP l p l.length).length := childF_len _ _ _ _
  change List.Perm _ (childP l p d) at HPp
  obtain ⟨R, hR⟩ : ∃ R, childP l p d = R := ⟨_, rfl⟩
  rw [hR] at HPs HPp HPl ⊢
  have HLK : Hid (∀ W, MapG W B r (fun q => kidsP l q l.length) → ∃ v, (Instr.lookup 61 (.map (some r)) (keyV p) false).run Tryz.prog W = .ok v W ∧ OwnN W B v (kidsP l p l.length)) := fun W hW => hW.look 61 22 Tryz.underlying61 zeroRowN p
  obtain ⟨KS, hKS⟩ : ∃ KS, kidsP l p l.length = KS := ⟨_, rfl⟩
  simp only [hKS] at hlk hov hat hn9 hz HPp HPl HLK
  have HAt : Hid (NodesAt (w.alloc (.cells #[.int .i64 p.1, .int .i64 p.2] 36)) ad KS.length KS) := hat
  have HPs' : Hid (SortL R) := HPs
  have HZ : Hid (∀ i, i < KS.length → (strL (KS.map (fun x => x.2.2.1)) i).size ≤ 65536) := fun i hi => by
    have : strL (KS.map (fun x => x.2.2.1)) i = (nL KS i).2.2.1 := by
      unfold strL nL
      rw [List.getD_eq_getElem?_getD, List.getD_eq_getElem?_getD, List.getElem?_map, List.getElem?_eq_getElem hi]; rfl
    rw [this, nL_getE KS i hi]
    exact hz _ (List.getElem_mem hi)
  obtain ⟨ns, hns⟩ : ∃ ns, distF (KS.map (fun x => x.2.2.1)) KS.length = ns := ⟨_, rfl⟩
  rw [hns] at HPp
  have HNs : Hid (distF (KS.map (fun x => x.2.2.1)) KS.length = ns) := hns
  obtain ⟨n, hn⟩ : ∃ n, KS.length = n := ⟨_, rfl⟩
  have HKn : Hid (KS.length = n) := hn
  rw [hn] at hlk HAt hn9 HPp HPl HZ HNs
  have HPp' : Hid ((rowL KS ns d n).Perm R) := HPp
  have HPl' : Hid (R.length = n) := HPl
  have x0 : (w.alloc (.cells #[.int .i64 p.1, .int .i64 p.2] 36)).cell? ⟨w.heap.size, 0, none⟩ = some (.int .i64 p.1) := HSt.out.cell 0
  have x1 : (w.alloc (.cells #[.int .i64 p.1, .int .i64 p.2] 36)).cell? ⟨w.heap.size, 1, none⟩ = some (.int .i64 p.2) := HSt.out.cell 1
  obtain ⟨t, u⟩ := p
  simp only [keyV] at hlk x0 x1 HG HAt HB0 HSt HLK ⊢
  clear hG hov hat hKS hn hns hz HPp HPl HPs hR HP
  go_enter Tryz.func49, Tryz.ntmps49
  go_wp2_with fail
  obtain ⟨W0, hW0⟩ : ∃ W0, w.alloc (.cells #[.int .i64 t, .int .i64 u] 36) = W0 := ⟨_, rfl⟩
  rw [hW0] at HG HAt HB0 HSt
  try rw [hW0]
  clear hlk x0 x1 hW0
  go_loopw [7, 18] (fun v7 i wr => ∃ k : Nat, k ≤ n ∧ i = .int .i64 k ∧ Hid (wr.ownsRow W0.heap.size 9 1 v7 k (((KS.take k).map (fun x => x.2.2.1)).map Value.string)) ∧ Hid (Below W0.heap.size W0 wr)) (fun _ i _ => n - (intOf i).toNat)
  case atStart => exact ⟨0, Nat.zero_le _, rfl, World.ownsRow_nil _ _ _ _, Below.refl _ _⟩
  case round =>
    obtain ⟨k, hk, rfl, H7, HB⟩ := hrel
    by_cases hlt : k < n
    · have b0 : (k : Int) < (n : Int) := by omega
      obtain ⟨b, off, rfl, _⟩ := HAt.out.2.some (by omega)
      obtain ⟨x0, x1, x2, x3, x4, x5⟩ := (HAt.out.below HB.out).cells k hlt
      have HTk : Hid (((KS.take (k + 1)).map (fun x => x.2.2.1)).map Value.string = ((KS.take k).map (fun x => x.2.2.1)).map Value.string ++ [.string (nL KS k).2.2.1]) := take_name KS k (by rw [HKn.out]; exact hlt)
      obtain ⟨XK, hXK⟩ : ∃ XK, ((KS.take k).map (fun x => x.2.2.1)).map Value.string = XK := ⟨_, rfl⟩
      rw [hXK] at H7 HTk
      clear hXK
      obtain ⟨⟨⟨m1, m2⟩, ⟨m3, m4⟩, m5, m6⟩, hnd'⟩ : ∃ nd, nd = nL KS k := ⟨_, rfl⟩
      rw [← hnd'] at x0 x1 x2 x3 x4 x5 HTk
      simp only at x0 x1 x2 x3 x4 x5 HTk
      have HC : Hid (∀ j u, [Value.string m5][j]? = some u → ((wr.alloc (.cells #[.int .i64 m1, .int .i64 m2, .int .i64 m3, .int .i64 m4, .string m5, .string m6] 45)).alloc (.cells #[.string m5] 9)).cell? ((⟨wr.heap.size + 1, 0, none⟩ : Addr).add j) = some u) := fun j u hj => by
        have h1 := cells_newV (wr.alloc (.cells #[.int .i64 m1, .int .i64 m2, .int .i64 m3, .int .i64 m4, .string m5, .string m6] 45)) #[.string m5] 9 j u hj
        rw [size_newV] at h1
        exact h1
      have H7' : Hid (((wr.alloc (.cells #[.int .i64 m1, .int .i64 m2, .int .i64 m3, .int .i64 m4, .string m5, .string m6] 45)).alloc (.cells #[.string m5] 9)).ownsRow W0.heap.size 9 1 u7 k XK) := (World.ownsRow.alloc (World.ownsRow.alloc H7.out _) _)
      have HB1 : Hid (Below W0.heap.size W0 ((wr.alloc (.cells #[.int .i64 m1, .int .i64 m2, .int .i64 m3, .int .i64 m4, .string m5, .string m6] 45)).alloc (.cells #[.string m5] 9))) := below_step (below_step HB.out (Nat.le_refl _) (below_new _ _)) (Nat.le_refl _) (below_new _ _)
      clear hnd'
      go_wp2_with (at_builtin; refine wpList_append_own_at _ rfl (.tmp 22) (.tmp 25) 67 rfl W0.heap.size 9 j0 _ 1 16 Tryz.underlying67 hj hj0 hj1 hj2 rfl (by decide) u7 k _ rfl H7'.out ⟨wr.heap.size + 1, 0, none⟩ 1 1 [.string m5] rfl rfl HC.out (by simp [Value.oneCell']) (by unfold maxLen; omega) (by omega) HB1.out.size ?_)
      intro v' w4 ho4 g4 _ _
      have HB4 : Hid (Below W0.heap.size W0 w4) := HB1.out.grown g4 HB1.out.size (fun j e => (World.ownsRow.lt H7'.out j e).1)
      have HO4 : Hid (w4.ownsRow W0.heap.size 9 1 v' (k + 1) (((KS.take (k + 1)).map (fun x => x.2.2.1)).map Value.string)) := by show World.ownsRow _ _ _ _ _ _ _; rw [HTk.out]; exact ho4
      clear ho4 g4 HC H7' HB1 x0 x1 x2 x3 x4 x5
      go_wp2_with fail
      refine ⟨?_, ?_⟩
      · first
        | exact ⟨k + 1, by omega, by go_num, HO4, HB4⟩
        | ((repeat apply Exists.intro); refine ⟨?_, rfl⟩; exact ⟨k + 1, by omega, by go_num, HO4, HB4⟩)
      · simp [intOf] <;> omega
    · obtain rfl : k = n := by omega
      have b0 : ¬ ((k : Int) < (k : Int)) := by omega
      have hot : OwnTx wr W0.heap.size u7 k (KS.map (fun x => x.2.2.1)) := by
        have h := H7.out
        rw [List.take_of_length_le (by rw [HKn.out]; exact Nat.le_refl _)] at h
        exact h
      obtain ⟨a7, c7, rfl, s7⟩ := OwnTx.strs hot
      have CD : Hid (Calls _ _ _ _ _) := ndistinct_any (KS.map (fun x => x.2.2.1)) a7 k c7 wr (by omega) HZ.out s7
      rw [HNs.out] at CD
      clear hot s7 H7 HZ
      go_wp2_with fail
      refine CD.out.mono ?_
      rintro e w2 ⟨a9, c9, rfl, s9, hb2⟩
      have HN2 : Hid (StrsAt w2 a9 k ns) := s9
      have HB2 : Hid (Below W0.heap.size W0 w2) := below_step HB.out (Nat.le_refl _) hb2
      obtain ⟨v, hlk, hov⟩ := HLK.out w2 (HG.out.on HB2.out)
      obtain ⟨a8, c8, rfl, hat⟩ := OwnN.nodes hov
      rw [HKn.out] at hlk hat
      have HK2 : Hid (NodesAt w2 a8 k KS) := hat
      have x0 := (HSt.out.on HB2.out).cell 0
      have x1 := (HSt.out.on HB2.out).cell 1
      have x0' : w2.cell? ⟨w.heap.size, 0, none⟩ = some (.int .i64 t) := x0
      have x1' : w2.cell? ⟨w.heap.size, 1, none⟩ = some (.int .i64 u) := x1
      clear CD s9 hb2 hov hat x0 x1 HB HLK HG
      go_wp2_with fail
      clear x0' x1' hlk
      go_loopw [11, 34] (fun v11 i wr => ∃ q : Nat, q ≤ k ∧ i = .int .i64 q ∧ Hid (OwnL wr w2.heap.size v11 (rowL KS ns d q)) ∧ Hid (Below w2.heap.size w2 wr)) (fun _ i _ => k - (intOf i).toNat)
      case atStart => exact ⟨0, Nat.zero_le _, rfl, OwnL.nil _ _, Below.refl _ _⟩
      case round =>
        obtain ⟨q, hq, rfl, HO, HB⟩ := hrel
        by_cases hqm : q < k
        · have c0 : (q : Int) < (k : Int) := by omega
          obtain ⟨b8, f8, rfl, _⟩ := HK2.out.2.some (by omega)
          obtain ⟨_, h9 | ⟨b9, f9, rfl, hc9⟩⟩ := HN2.out
          · omega
          obtain ⟨x0, x1, x2, x3, x4, x5⟩ := (HK2.out.below HB.out).cells q hqm
          have HO' : Hid (rowL KS ns d (q + 1) = rowL KS ns d q ++ [(d, (nL KS q).1, strL ns q, (nL KS q).2.2.2)]) := rfl
          have HS9 : Hid (∀ W, Below w2.heap.size w2 W → W.cell? ⟨b9, f9 + q, none⟩ = some (.string (strL ns q))) := fun W hW => by
            obtain ⟨_, h9 | ⟨b9', f9', e9, hc⟩⟩ := HN2.out.below hW
            · omega
            · cases e9; exact hc q hqm
          have hOl := rowL_len KS ns d q
          obtain ⟨nm, hnm⟩ : ∃ nm, strL ns q = nm := ⟨_, rfl⟩
          rw [hnm] at HO' HS9
          obtain ⟨O, hO⟩ : ∃ O, rowL KS ns d q = O := ⟨_, rfl⟩
          rw [hO] at HO HO' hOl
          have HOq : Hid (OwnL wr w2.heap.size u11 O) := HO
          have HOl : Hid (O.length = q) := hOl
          have Hhp' : Hid (∀ j, u11.ownBlock = some j → w2.heap.size ≤ j ∧ j < wr.heap.size) := fun j hj => World.ownsRow.lt HOq.out j hj
          obtain ⟨⟨⟨m1, m2⟩, ⟨m3, m4⟩, m5, m6⟩, hnd'⟩ : ∃ nd, nd = nL KS q := ⟨_, rfl⟩
          rw [← hnd'] at x0 x1 x2 x3 x4 x5 HO'
          simp only at x0 x1 x2 x3 x4 x5 HO'
          clear hnd' hnm hO HO hOl hc9
          go_wp2_with fail
          obtain ⟨W1, hW1⟩ : ∃ W1, wr.alloc (.cells #[.int .i64 m1, .int .i64 m2, .int .i64 m3, .int .i64 m4, .string m5, .string m6] 45) = W1 := ⟨_, rfl⟩
          obtain ⟨hp, hhp⟩ : ∃ hp, wr.heap.size = hp := ⟨_, rfl⟩
          have HKn1 : Hid (Blk W1 45 hp #[.int .i64 m1, .int .i64 m2, .int .i64 m3, .int .i64 m4, .string m5, .string m6]) := by show Blk _ _ _ _; rw [← hW1, ← hhp]; exact Blk.new _ _ _
          have HB1 : Hid (Below w2.heap.size w2 W1) := by show Below _ _ _; rw [← hW1]; exact below_step HB.out (Nat.le_refl _) (below_new _ _)
          have HO1 : Hid (OwnL W1 w2.heap.size u11 O) := by show OwnL _ _ _ _; rw [← hW1]; exact World.ownsRow.alloc HOq.out _
          have HSS : Hid (∀ W, Below W1.heap.size W1 W → (W.cell? ⟨b9, f9 + q, none⟩ = some (.string nm)) ∧ (W.cell? ⟨hp, 0, none⟩ = some (.int .i64 m1) ∧ W.cell? ⟨hp, 1, none⟩ = some (.int .i64 m2) ∧ W.cell? ⟨hp, 2, none⟩ = some (.int .i64 m3) ∧ W.cell? ⟨hp, 3, none⟩ = some (.int .i64 m4) ∧ W.cell? ⟨hp, 4, none⟩ = some (.string m5) ∧ W.cell? ⟨hp, 5, none⟩ = some (.string m6))) := fun W hW => by
            have n := HKn1.out.on hW
            exact ⟨HS9.out W (below_step HB1.out (Nat.le_refl _) hW), n.cell 0, n.cell 1, n.cell 2, n.cell 3, n.cell 4, n.cell 5⟩
          have hS0 := HSS.out W1 (Below.refl _ _)
          rw [hW1, hhp]
          rw [hhp] at Hhp'
          clear hW1 hhp x0 x1 x2 x3 x4 x5 HOq
          refine wp_region_noPanic ?_
          refine wp_region_held_drew (S := fun W => (W.cell? ⟨b9, f9 + q, none⟩ = some (.string nm)) ∧ (W.cell? ⟨hp, 0, none⟩ = some (.int .i64 m1) ∧ W.cell? ⟨hp, 1, none⟩ = some (.int .i64 m2) ∧ W.cell? ⟨hp, 2, none⟩ = some (.int .i64 m3) ∧ W.cell? ⟨hp, 3, none⟩ = some (.int .i64 m4) ∧ W.cell? ⟨hp, 4, none⟩ = some (.string m5) ∧ W.cell? ⟨hp, 5, none⟩ = some (.string m6))) (by kernel_rfl) (by first | exact trivial | assumption | exact ⟨by assumption, by assumption⟩) (fun hHeld => ?_)
          refine take_at (i := 0) (v := ?_) rfl rfl (by kernel_rfl) (by kernel_rfl) (by kernel_rfl) (fun _ _ _ h => h) (Or.inl ⟨by rfl, ?_⟩) (by assumption) ?_
          rotate_left
          · intro w hSw; (try dsimp only at hSw); go_simp; try with_reducible rfl
          try simp only [Act.put, List.setIfInBounds_toArray, List.set_cons_zero, List.set_cons_succ]
          refine take_at (i := 1) (v := ?_) rfl rfl (by kernel_rfl) (by kernel_rfl) (by kernel_rfl) (fun _ _ _ h => h) (Or.inl ⟨by rfl, ?_⟩) (by assumption) ?_
          rotate_left
          · intro w hSw; (try dsimp only at hSw); go_simp; try with_reducible rfl
          try simp only [Act.put, List.setIfInBounds_toArray, List.set_cons_zero, List.set_cons_succ]
          refine take_at (i := 2) (v := ?_) rfl rfl (by kernel_rfl) (by kernel_rfl) (by kernel_rfl) (fun _ _ _ h => h) (Or.inl ⟨by rfl, ?_⟩) (by assumption) ?_
          rotate_left
          · intro w hSw; (try dsimp only at hSw); go_simp; try with_reducible rfl
          try simp only [Act.put, List.setIfInBounds_toArray, List.set_cons_zero, List.set_cons_succ]
          refine take_at (i := 3) (v := ?_) rfl rfl (by kernel_rfl) (by kernel_rfl) (by kernel_rfl) (fun _ _ _ h => h) (Or.inl ⟨by rfl, ?_⟩) (by assumption) ?_
          rotate_left
          · intro w hSw; (try dsimp only at hSw); go_simp; try with_reducible rfl
          try simp only [Act.put, List.setIfInBounds_toArray, List.set_cons_zero, List.set_cons_succ]
          refine take_at (i := 4) (v := ?_) rfl rfl (by kernel_rfl) (by kernel_rfl) (by kernel_rfl) (fun _ _ _ h => h) (Or.inl ⟨by rfl, ?_⟩) (by assumption) ?_
          rotate_left
          · intro w hSw; (try dsimp only at hSw); go_simp; try with_reducible rfl
          try simp only [Act.put, List.setIfInBounds_toArray, List.set_cons_zero, List.set_cons_succ]
          refine take_at (i := 5) (v := ?_) rfl rfl (by kernel_rfl) (by kernel_rfl) (by kernel_rfl) (fun _ _ _ h => h) (Or.inl ⟨by rfl, ?_⟩) (by assumption) ?_
          rotate_left
          · intro w hSw; (try dsimp only at hSw); go_simp; try with_reducible rfl
          try simp only [Act.put, List.setIfInBounds_toArray, List.set_cons_zero, List.set_cons_succ]
          refine take_at (i := 6) (v := ?_) rfl rfl (by kernel_rfl) (by kernel_rfl) (by kernel_rfl) (fun _ _ _ h => h) (Or.inl ⟨by rfl, ?_⟩) (by assumption) ?_
          rotate_left
          · intro w hSw; (try dsimp only at hSw); go_simp; try with_reducible rfl
          try simp only [Act.put, List.setIfInBounds_toArray, List.set_cons_zero, List.set_cons_succ]
          refine take_at (i := 7) (v := ?_) rfl rfl (by kernel_rfl) (by kernel_rfl) (by kernel_rfl) (fun _ _ _ h => h) (Or.inl ⟨by rfl, ?_⟩) (by assumption) ?_
          rotate_left
          · intro w hSw; (try dsimp only at hSw); go_simp; try with_reducible rfl
          try simp only [Act.put, List.setIfInBounds_toArray, List.set_cons_zero, List.set_cons_succ]
          refine take_at (i := 8) (v := ?_) rfl rfl (by kernel_rfl) (by kernel_rfl) (by kernel_rfl) (fun _ _ _ h => h) (Or.inl ⟨by rfl, ?_⟩) (by assumption) ?_
          rotate_left
          · intro w hSw; (try dsimp only at hSw); go_simp; try with_reducible rfl
          try simp only [Act.put, List.setIfInBounds_toArray, List.set_cons_zero, List.set_cons_succ]
          refine take_at (i := 9) (v := ?_) rfl rfl (by kernel_rfl) (by kernel_rfl) (by kernel_rfl) (fun _ _ _ h => h) (Or.inl ⟨by rfl, ?_⟩) (by assumption) ?_
          rotate_left
          · intro w hSw; (try dsimp only at hSw); go_simp; try with_reducible rfl
          try simp only [Act.put, List.setIfInBounds_toArray, List.set_cons_zero, List.set_cons_succ]
          refine take_at (i := 10) (v := ?_) rfl rfl (by kernel_rfl) (by kernel_rfl) (by kernel_rfl) (fun _ _ _ h => h) (Or.inl ⟨by rfl, ?_⟩) (by assumption) ?_
          rotate_left
          · intro w hSw; (try dsimp only at hSw); go_simp; try with_reducible rfl
          try simp only [Act.put, List.setIfInBounds_toArray, List.set_cons_zero, List.set_cons_succ]
          refine wpAnyH_ready (rs := [11]) (by kernel_rfl) (by simp) ?_
          refine AllReadyH.cons rfl (fun K hK => ?_) AllReadyH.nil
          go_simp
          have hb5 : Below W1.heap.size W1 (W1.alloc (.cells #[.int .i64 d, .int .i64 m1, .int .i64 m2, .string nm, .string m6] 43)).drew := ((Below.refl _ _).alloc (Nat.le_refl _) _).drew
          refine hK.out _ _ (HSS.out _ hb5) (fun hHeld => ?_)
          clear hK K
          refine wpAnyH_ready (rs := [12]) (by kernel_rfl) (by simp) ?_
          refine AllReadyH.cons rfl (fun K hK => ?_) AllReadyH.nil
          refine step_appW rfl (.tmp 39) (.tmp 50) 28 rfl w2.heap.size 43 i1 _ 5 56 Tryz.underlying28 hl hl0 hl1 hl2 rfl (by decide) u11 O.length (cellsL O) rfl (show World.ownsRow _ _ _ _ _ _ _ from owns_on HO1.out hb5) (.slice (some ⟨W1.heap.size, 0, none⟩) 1 1) 1 (lineA (d, (m1, m2), nm, m6)).toList rfl (new_src (show Blk (W1.alloc (.cells #[.int .i64 d, .int .i64 m1, .int .i64 m2, .string nm, .string m6] 43)).drew 43 W1.heap.size #[.int .i64 d, .int .i64 m1, .int .i64 m2, .string nm, .string m6] from Blk.new W1 _ _) 1) rfl (lineA_one (d, (m1, m2), nm, m6)) (by rw [HOl.out]; unfold maxLen; omega) (by rw [HOl.out]; omega) (by have h1 := HB1.out.size; have h2 := hb5.size; omega) ?_
          intro v14 w5 ho14 hg14
          have HB5 : Hid (Below w2.heap.size w2 w5) := (below_step HB1.out (Nat.le_refl _) hb5).grown hg14 (below_step HB1.out (Nat.le_refl _) hb5).size (fun j e => (Hhp'.out j e).1)
          have HK5 := (HKn1.out.on hb5).grown hg14 (fun e => by have := (Hhp'.out hp (by first | exact e | exact e.symm)).2; omega)
          refine hK.out _ _ ⟨HS9.out _ HB5.out, HK5.cell 0, HK5.cell 1, HK5.cell 2, HK5.cell 3, HK5.cell 4, HK5.cell 5⟩ (fun hHeld => ?_)
          clear hK K
          refine take_at (i := 13) (v := ?_) rfl rfl (by kernel_rfl) (by kernel_rfl) (by kernel_rfl) (fun _ _ _ h => h) (Or.inl ⟨by rfl, ?_⟩) (by assumption) ?_
          rotate_left
          · intro w hSw; (try dsimp only at hSw); go_simp; try with_reducible rfl
          try simp only [Act.put, List.setIfInBounds_toArray, List.set_cons_zero, List.set_cons_succ]
          refine wpAnyH_done (by kernel_rfl) (NoPanic.normal ?_) _
          have HO5 : Hid (OwnL w5 w2.heap.size v14 (rowL KS ns d (q + 1))) := by
            show World.ownsRow _ _ _ _ _ _ _
            rw [HO'.out, cellsL_app, cellsL_one1, List.length_append]
            exact ho14
          clear ho14 hg14 HK5 hb5 HSS hS0 HO1 HB1 HKn1 HS9
          go_wp2_with fail
          refine ⟨?_, ?_⟩
          · first
            | exact ⟨q + 1, by omega, by go_num, HO5, HB5⟩
            | ((repeat apply Exists.intro); refine ⟨?_, rfl⟩; exact ⟨q + 1, by omega, by go_num, HO5, HB5⟩)
          · simp [intOf] <;> omega
        · obtain rfl : q = k := by omega
          have c0 : ¬ ((q : Int) < (q : Int)) := by omega
          have hXl := rowL_len KS ns d q
          obtain ⟨XS, hXS⟩ : ∃ XS, rowL KS ns d q = XS := ⟨_, rfl⟩
          rw [hXS] at HO HPp' hXl
          have HBf : Hid (Below w.heap.size w wr) := below_step (below_step HB0.out (Nat.le_refl _) HB2.out) (Nat.le_refl _) HB.out
          have HSz : Hid (w.heap.size ≤ w2.heap.size) := Nat.le_trans HB0.out.size HB2.out.size
          clear hXS
          obtain ⟨a11, c11, rfl, r11, h0 | ⟨g, rfl, hc⟩⟩ := OwnL.lines2 HO.out
          · obtain ⟨rfl, h1, rfl⟩ := h0
            obtain rfl : XS = [] := List.eq_nil_of_length_eq_zero h1
            obtain rfl : R = [] := List.eq_nil_of_length_eq_zero HPp'.out.length_eq.symm
            have CS : Hid (∀ fv, Calls _ _ _ _ _) := fun fv => sort_noneL none 0 fv wr
            simp only [List.length_nil]
            clear r11 HO HPp'
            go_wp2_with fail
            refine (CS.out _).mono ?_
            rintro e w' ⟨rfl, rfl⟩
            clear CS
            go_wp2_with fail
            go_ret
            exact ⟨_, rfl, OwnL.nil _ _, HBf.out⟩
          · have CS : Hid (Calls _ _ _ _ _) := sort_someL w2.heap.size g c11 XS R wr (by rw [HPl'.out]; omega) HPp'.out HPs'.out HO.out
            have Hg : Hid (w2.heap.size ≤ g) := (World.ownsRow.lt HO.out g rfl).1
            have HXR : Hid (XS.length = R.length) := HPp'.out.length_eq
            obtain ⟨nx, hnx⟩ : ∃ nx, XS.length = nx := ⟨_, rfl⟩
            rw [hnx] at CS ⊢
            clear r11 HO HPp' hnx
            go_wp2_with fail
            refine CS.out.mono ?_
            rintro e w' ⟨rfl, ho, hg⟩
            have HFo : Hid (OwnL w' w.heap.size (.slice (some ⟨g, 0, none⟩) nx c11) R) := owns_lessV ho HSz.out
            have HFb : Hid (Below w.heap.size w w') := HBf.out.grown hg HBf.out.size (fun j e => by cases e; exact Nat.le_trans HSz.out Hg.out)
            clear CS ho hg
            go_wp2_with fail
            go_ret
            exact ⟨_, rfl, HFo.out, HFb.out⟩
end Go.Proofs.YtebnmghjdoblaaaGreatDoor

/- The lines shown so far; the code's Lines$1 (layer 12). -/
namespace Go.Proofs.YtebnmghjdoblaaaGreatDoor
open Go.RowKit
set_option linter.unusedSimpArgs false

/-- What telling a line leaves as it was: all but block g, and the block of its row; the new row lies there, or in a new block. -/
structure ShwK (w w' : World) (g : Nat) (v v' : Value) : Prop where
  os : w'.os = w.os
  tape : w'.tape = w.tape
  output : w'.output = w.output
  size : w.heap.size ≤ w'.heap.size
  block : ∀ k, k < w.heap.size → k ≠ g → some k ≠ v.ownBlock → w'.heap[k]? = w.heap[k]?
  loc : v'.ownBlock = v.ownBlock ∨ ∀ j, v'.ownBlock = some j → w.heap.size ≤ j

theorem ShwK.refl (w : World) (g : Nat) (v : Value) : ShwK w w g v v := ⟨rfl, rfl, rfl, Nat.le_refl _, fun _ _ _ _ => rfl, .inl rfl⟩

theorem ShwK.trans {a b c : World} {g : Nat} {u v x : Value} (h : ShwK a b g u v) (k : ShwK b c g v x) : ShwK a c g u x := by
  refine ⟨k.os.trans h.os, k.tape.trans h.tape, k.output.trans h.output, Nat.le_trans h.size k.size, fun j hj hg hu => ?_, ?_⟩
  · refine (k.block j (Nat.lt_of_lt_of_le hj h.size) hg (fun e => ?_)).trans (h.block j hj hg hu)
    rcases h.loc with e2 | e2
    · rw [e2] at e; exact hu e
    · have := e2 j e.symm; omega
  · rcases k.loc with e | e
    · rw [e]; exact h.loc
    · exact .inr (fun j hj => Nat.le_trans h.size (e j hj))

theorem ShwK.on {a b c : World} {g : Nat} {u v : Value} (h : ShwK a b g u v) (hb : Below b.heap.size b c) : ShwK a c g u v := ⟨hb.os.trans h.os, hb.tape.trans h.tape, hb.output.trans h.output, Nat.le_trans h.size hb.size, fun j hj hg hu => (hb.block j (Nat.lt_of_lt_of_le hj h.size)).trans (h.block j hj hg hu), h.loc⟩

/-- A map, made behind g and ahead of the row's own blocks, stays. -/
theorem ShwK.map {w w' : World} {g B r D : Nat} {v v' : Value} {G : Int × Int → List NodeT} (h : ShwK w w' g v v') (hG : MapG w B r G) (hr : g < r) (hB : g < B) (hD : ∀ j, v.ownBlock = some j → D ≤ j) (hrD : r < D) (hGD : ∀ l, MapSV w r l → ∀ k j, (rowM l k).ownBlock = some j → j < D) : MapG w' B r G := by
  obtain ⟨l, h1, h2, h3⟩ := hG
  refine ⟨l, h1.block (h.block r h1.lt (by omega) (fun e => by have := hD r e.symm; omega)), fun k => owns_same (h2 k) (fun j hj => ?_), h3⟩
  have h4 := World.ownsRow.lt (h2 k) j hj
  have h5 := hGD l h1 k j hj
  exact h.block j h4.2 (by omega) (fun e => by have := hD j e.symm; omega)

theorem ShwK.told {w w' : World} {g : Nat} {v v' : Value} (hg : w.grownBy w' v.ownBlock) (hl : v'.ownBlock = v.ownBlock ∨ v'.ownBlock = some w.heap.size) : ShwK w (w'.setRow g #[v']) g v v' := by
  refine ⟨hg.os, hg.tape, hg.output, ?_, fun k hk hne hv => ?_, hl.imp id (fun e j hj => by rw [e] at hj; cases hj; exact Nat.le_refl _)⟩
  · have : (w'.setRow g #[v']).heap.size = w'.heap.size := by simp
    rw [this]; exact hg.size
  · rw [setRow_other _ _ _ _ hne, hg.block k hk hv]

set_option maxRecDepth 100000 in
set_option maxHeartbeats 4000000 in
theorem shown1_any (x : LineT) (O : List LineT) (B g : Nat) (v : Value) (w : World) (hbv : Blk w 28 g #[v]) (hov : OwnL w B v O) (hg : g < B) (hB : B ≤ w.heap.size) (hO : O.length ≤ 60000) :
    Calls Tryz.prog 30 #[.agg (lineA x), .pointer (some ⟨g, 0, none⟩)] w fun e w' => e = .returned (.tuple #[]) ∧ ∃ v', Blk w' 28 g #[v'] ∧ OwnL w' B v' (O ++ [x]) ∧ ShwK w w' g v v' := by
  obtain ⟨i1, hl, hl0, hl1, hl2⟩ := info_parts Tryz.infoLine
  obtain ⟨m0, ⟨m1, m2⟩, m3, m4⟩ := x
  show Calls Tryz.prog _ #[.agg #[.int .i64 m0, .int .i64 m1, .int .i64 m2, .string m3, .string m4], .pointer (some ⟨g, 0, none⟩)] w _
  have HB2 : Hid (Blk ((w.alloc (.cells #[.int .i64 m0, .int .i64 m1, .int .i64 m2, .string m3, .string m4] 43)).alloc (.cells #[.int .i64 m0, .int .i64 m1, .int .i64 m2, .string m3, .string m4] 43)) 28 g #[v]) := (hbv.alloc _).alloc _
  have HO2 : Hid (OwnL ((w.alloc (.cells #[.int .i64 m0, .int .i64 m1, .int .i64 m2, .string m3, .string m4] 43)).alloc (.cells #[.int .i64 m0, .int .i64 m1, .int .i64 m2, .string m3, .string m4] 43)) B v O) := World.ownsRow.alloc (World.ownsRow.alloc hov _) _
  have y0 : (w.alloc (.cells #[.int .i64 m0, .int .i64 m1, .int .i64 m2, .string m3, .string m4] 43)).cell? ⟨g, 0, none⟩ = some v := (hbv.alloc _).cell 0
  have HC : Hid (∀ j u, (#[.int .i64 m0, .int .i64 m1, .int .i64 m2, .string m3, .string m4] : Array Value).toList[j]? = some u → ((w.alloc (.cells #[.int .i64 m0, .int .i64 m1, .int .i64 m2, .string m3, .string m4] 43)).alloc (.cells #[.int .i64 m0, .int .i64 m1, .int .i64 m2, .string m3, .string m4] 43)).cell? ((⟨w.heap.size + 1, 0, none⟩ : Addr).add j) = some u) := fun j u hj => by
    have h1 := cells_newV (w.alloc (.cells #[.int .i64 m0, .int .i64 m1, .int .i64 m2, .string m3, .string m4] 43)) #[.int .i64 m0, .int .i64 m1, .int .i64 m2, .string m3, .string m4] 43 j u hj
    rw [size_newV] at h1
    exact h1
  have HSz : Hid (B ≤ ((w.alloc (.cells #[.int .i64 m0, .int .i64 m1, .int .i64 m2, .string m3, .string m4] 43)).alloc (.cells #[.int .i64 m0, .int .i64 m1, .int .i64 m2, .string m3, .string m4] 43)).heap.size) := by
    show _ ≤ _
    rw [size_newV, size_newV]
    omega
  have HK0 : Hid (ShwK w ((w.alloc (.cells #[.int .i64 m0, .int .i64 m1, .int .i64 m2, .string m3, .string m4] 43)).alloc (.cells #[.int .i64 m0, .int .i64 m1, .int .i64 m2, .string m3, .string m4] 43)) g v v) := ((ShwK.refl w g v).on (below_new _ _)).on (below_new _ _)
  clear hbv hov
  go_enter Tryz.func30, Tryz.ntmps30
  go_wp2_with (at_builtin; refine wpList_append_own_at _ rfl (.tmp 3) (.tmp 5) 28 rfl B 43 i1 _ 5 56 Tryz.underlying28 hl hl0 hl1 hl2 rfl (by decide) v O.length _ rfl HO2.out ⟨w.heap.size + 1, 0, none⟩ 1 1 (#[.int .i64 m0, .int .i64 m1, .int .i64 m2, .string m3, .string m4] : Array Value).toList rfl rfl HC.out (lineA_one (m0, (m1, m2), m3, m4)) (by unfold maxLen; omega) (by omega) HSz.out ?_)
  intro v' w4 ho4 g4 _ hloc
  have hne : v.ownBlock = none ∨ v.ownBlock ≠ some g := .inr (fun e => by have := (World.ownsRow.lt HO2.out g e).1; omega)
  have hB4 : Blk w4 28 g #[v] := HB2.out.grown g4 (fun e => by rcases hne with h | h <;> rw [← e] at h <;> first | cases h | exact h rfl)
  have HO4 : OwnL w4 B v' (O ++ [(m0, (m1, m2), m3, m4)]) := by
    show World.ownsRow _ _ _ _ _ _ _
    rw [cellsL_app, cellsL_one1, List.length_append]
    exact ho4
  have HF1 : Hid (ShwK w (w4.setRow g #[v']) g v v') := HK0.out.trans (ShwK.told g4 (by rw [size_newV, size_newV]; exact hloc))
  have HF2 : Hid (Blk (w4.setRow g #[v']) 28 g #[v']) := hB4.setRow _
  have HF3 : Hid (OwnL (w4.setRow g #[v']) B v' (O ++ [(m0, (m1, m2), m3, m4)])) := owns_same HO4 (fun j hj => setRow_other _ _ _ _ (fun e => by have := (World.ownsRow.lt HO4 j hj).1; omega))
  have z0 : w4.cell? ⟨g, 0, none⟩ = some v := hB4.cell 0
  have HE : Hid (w4.setCell ⟨g, 0, none⟩ v' = w4.setRow g #[v']) := by
    show _ = _
    rw [setCell_eq_setRow w4 g 0 #[v] 28 (0, 0) v' hB4]; rfl
  have zf : w4.frozen? ⟨g, 0, none⟩ = false := by have h : w4.heap[g]? = some (.cells #[v] 28 (0, 0)) := hB4; simp [World.frozen?, h]
  obtain ⟨aa, cc, hv', _⟩ := OwnL.lines2 HO4
  obtain ⟨nn, hnn⟩ : ∃ nn, (O ++ [(m0, (m1, m2), m3, m4)]).length = nn := ⟨_, rfl⟩
  rw [hnn] at hv'
  subst hv'
  clear HO4 ho4 g4 hloc HC HO2 HB2 HSz HK0 y0 hnn
  go_wp2_with fail
  go_end0
  exact ⟨rfl, _, by rw [HE.out]; exact HF2.out, by rw [HE.out]; exact HF3.out, by rw [HE.out]; exact HF1.out⟩
end Go.Proofs.YtebnmghjdoblaaaGreatDoor

/- The code's show (layer 12): it calls itself, and tells each line. -/
namespace Go.Proofs.YtebnmghjdoblaaaGreatDoor
open Go.RowKit
set_option linter.unusedSimpArgs false

theorem ShwK.map0 {w0 w : World} {g B r : Nat} {v : Value} {G : Int × Int → List NodeT} (h : ShwK w0 w g (.slice none 0 0) v) (hG : MapG w0 B r G) (hr : g < r) (hB : g < B) : MapG w B r G := by
  obtain ⟨l, h1, h2, h3⟩ := hG
  refine ⟨l, h1.block (h.block r h1.lt (by omega) (fun e => by cases e)), fun k => owns_same (h2 k) (fun j hj => ?_), h3⟩
  have h4 := World.ownsRow.lt (h2 k) j hj
  exact h.block j h4.2 (by omega) (fun e => by cases e)

/-- What the first lines show. -/
def flatS (l : List NodeT) (f : Nat) (cl : List LineT) (k : Nat) : List LineT := (cl.take k).flatMap (fun x => x :: showP l f x.2.1 (x.1 + 1))

theorem flatS_succ (l : List NodeT) (f : Nat) (cl : List LineT) (k : Nat) (h : k < cl.length) : flatS l f cl (k + 1) = flatS l f cl k ++ ((lL cl k) :: showP l f (lL cl k).2.1 ((lL cl k).1 + 1)) := by
  unfold flatS
  have e : lL cl k = cl[k] := by unfold lL; rw [List.getD_eq_getElem?_getD, List.getElem?_eq_getElem h]; rfl
  rw [List.take_succ_eq_append_getElem h, List.flatMap_append, ← e]
  simp

theorem flatS_le (l : List NodeT) (f : Nat) (cl : List LineT) (k : Nat) : (flatS l f cl k).length ≤ (flatS l f cl cl.length).length := by
  unfold flatS
  rw [List.take_length]
  conv => rhs; rw [← List.take_append_drop k cl]
  rw [List.flatMap_append, List.length_append]
  omega

set_option maxRecDepth 100000 in
set_option maxHeartbeats 16000000 in
theorem show_any (l : List NodeT) (hnd : (l.map (fun x => x.1)).Nodup) (hr0 : ∀ y ∈ l, y.1 ≠ (0, 0)) (hl9 : l.length ≤ 90) (hz : ∀ x ∈ l, x.2.2.1.size ≤ 65536) (B r g : Nat) (w0 : World) (hG : MapG w0 B r (fun q => kidsP l q l.length)) (hgr : g < r) (hgB : g < B) :
    ∀ (f d : Nat) (p : Int × Int) (O : List LineT) (v : Value) (w : World), Low l f p → UpTo l (0, 0) d p → ShwK w0 w g (.slice none 0 0) v → Blk w 28 g #[v] → OwnL w w0.heap.size v O → O.length + (showP l f p d).length ≤ 60000 →
    Calls Tryz.prog 28 #[.map (some r), .agg #[.int .i64 p.1, .int .i64 p.2], .int .i64 d, .func (.func 30) #[] #[.pointer (some ⟨g, 0, none⟩)]] w fun e w' => e = .returned (.tuple #[]) ∧ ∃ v', Blk w' 28 g #[v'] ∧ OwnL w' w0.heap.size v' (O ++ showP l f p d) ∧ ShwK w w' g v v' := by
  intro f
  induction f with
  | zero => intro d p O v w h; exact absurd h id
  | succ f ih =>
    intro d p O v w hlow hup hsk hbv hov hlen
    have hd9 : d ≤ 90 := Nat.le_trans (upTo_few hnd hr0 hup) hl9
    have hg0 : g < w0.heap.size := Nat.lt_trans hgr hG.lt
    have hk9 : (kidsP l p l.length).length ≤ 90 := Nat.le_trans (kidsP_len _ _ _) hl9
    have hSh : showP l (f + 1) p d = flatS l f (childP l p d) (childP l p d).length := by unfold flatS; rw [List.take_length]; rfl
    have HL : Hid (∀ W, MapG W B r (fun q => kidsP l q l.length) → Calls Tryz.prog 49 #[.map (some r), .agg #[.int .i64 p.1, .int .i64 p.2], .int .i64 d] W fun e w' => ∃ v, e = .returned v ∧ OwnL w' W.heap.size v (childP l p d) ∧ Below W.heap.size W w') := fun W hW => linesC_any l p d B r W hk9 (fun x hx => by
      obtain ⟨j, hj, e⟩ := kidsP_mem l p _ x hx
      rw [e, nL_getE l j hj]; exact hz _ (List.getElem_mem hj)) hW
    have HR : Hid (∀ k, k < (childP l p d).length → (lL (childP l p d) k).1 = d ∧ ∀ (O' : List LineT) (v' : Value) (W : World), ShwK w0 W g (.slice none 0 0) v' → Blk W 28 g #[v'] → OwnL W w0.heap.size v' O' → O'.length + (showP l f (lL (childP l p d) k).2.1 ((d + 1 : Nat) : Int)).length ≤ 60000 → Calls Tryz.prog 28 #[.map (some r), .agg #[.int .i64 (lL (childP l p d) k).2.1.1, .int .i64 (lL (childP l p d) k).2.1.2], .int .i64 ((d + 1 : Nat) : Int), .func (.func 30) #[] #[.pointer (some ⟨g, 0, none⟩)]] W fun e w' => e = .returned (.tuple #[]) ∧ ∃ v'', Blk w' 28 g #[v''] ∧ OwnL w' w0.heap.size v'' (O' ++ showP l f (lL (childP l p d) k).2.1 ((d + 1 : Nat) : Int)) ∧ ShwK W w' g v' v'') := fun k hk => by
      have hm := lL_mem _ k hk
      have hq := childP_kid hm
      refine ⟨childF_deep _ _ _ _ _ hm, fun O' v' W h1 h2 h3 h4 => ?_⟩
      have hu := upTo_add hup (upTo_kid hq)
      rw [Nat.add_comm] at hu
      exact ih (d + 1) _ O' v' W (hlow _ hq) hu h1 h2 h3 h4
    rw [hSh] at hlen ⊢
    have HFl : Hid (∀ k, O.length + (flatS l f (childP l p d) k).length ≤ 60000) := fun k => by have := flatS_le l f (childP l p d) k; omega
    have hc9 : (childP l p d).length ≤ 90 := by rw [show (childP l p d).length = _ from childF_len _ _ _ _]; exact hk9
    obtain ⟨CL, hCL⟩ : ∃ CL, childP l p d = CL := ⟨_, rfl⟩
    simp only [hCL] at HL HR HFl hc9 ⊢
    have HB0 : Hid (Below w.heap.size w (w.alloc (.cells #[.int .i64 p.1, .int .i64 p.2] 36))) := below_new _ _
    have HG0 : Hid (MapG w B r (fun q => kidsP l q l.length)) := hsk.map0 hG hgr hgB
    have HBv : Hid (Blk w 28 g #[v]) := hbv
    have HOv : Hid (OwnL w w0.heap.size v O) := hov
    have HSk : Hid (ShwK w0 w g (.slice none 0 0) v) := hsk
    have w9 : IntKind.i64.wrap ((d : Int) + 1) = ((d + 1 : Nat) : Int) := by rw [IntKind.wrap_i64]; omega
    obtain ⟨t, u⟩ := p
    simp only at HL HB0 ⊢
    clear ih hlow hup hSh hCL hsk hbv hov hlen hk9
    go_enter Tryz.func28, Tryz.ntmps28
    go_wp2_with fail
    obtain ⟨W0, hW0⟩ : ∃ W0, w.alloc (.cells #[.int .i64 t, .int .i64 u] 36) = W0 := ⟨_, rfl⟩
    rw [hW0] at HB0
    try rw [hW0]
    clear hW0
    refine (HL.out W0 (HG0.out.on HB0.out)).mono ?_
    rintro e w1 ⟨v13, rfl, ho13, hb1⟩
    obtain ⟨a13, c13, rfl, r13, _⟩ := OwnL.lines2 ho13
    have HO13 : Hid (OwnL w1 W0.heap.size (.slice a13 CL.length c13) CL) := ho13
    have HB1 : Hid (Below w.heap.size w w1) := below_step HB0.out (Nat.le_refl _) hb1
    have HSz : Hid (w0.heap.size ≤ w.heap.size ∧ w.heap.size ≤ W0.heap.size) := ⟨HSk.out.size, HB0.out.size⟩
    obtain ⟨m, hm⟩ : ∃ m, CL.length = m := ⟨_, rfl⟩
    have HM : Hid (CL.length = m) := hm
    rw [hm] at HO13 hc9 ⊢
    clear ho13 hb1 r13 hm HL
    go_wp2_with fail
    have HSk1 : Hid (ShwK w w1 g v v) := (ShwK.refl w g v).on HB1.out
    go_loopw [15] (fun i wr => ∃ (k : Nat) (vr : Value), k ≤ m ∧ i = .int .i64 k ∧ Hid (Blk wr 28 g #[vr]) ∧ Hid (OwnL wr w0.heap.size vr (O ++ flatS l f CL k)) ∧ Hid (ShwK w1 wr g v vr)) (fun i _ => m - (intOf i).toNat)
    case atStart => exact ⟨0, v, Nat.zero_le _, rfl, HBv.out.on HB1.out, (by show OwnL _ _ _ (O ++ []); rw [List.append_nil]; exact owns_on HOv.out HB1.out), ShwK.refl _ _ _⟩
    case round =>
      obtain ⟨k, vr, hk, rfl, HBr, HOr, HSr⟩ := hrel
      by_cases hlt : k < m
      · have b0 : (k : Int) < (m : Int) := by omega
        have HOw : OwnL wr W0.heap.size (.slice a13 m c13) CL := owns_same HO13.out (fun j hj => by
          have h1 := World.ownsRow.lt HO13.out j hj
          have h2 := HSz.out
          refine HSr.out.block j h1.2 (by omega) (fun e => ?_)
          have h3 := (World.ownsRow.lt HOv.out j e.symm).2
          omega)
        have hrl : LinesAt wr a13 m CL := by
          obtain ⟨a', c', e, r', _⟩ := OwnL.lines2 HOw
          rw [HM.out] at e r'
          injection e with e1 e2 e3
          rw [e1]; exact r'
        obtain ⟨b, off, rfl, _⟩ := hrl.2.some (by omega)
        obtain ⟨x0, x1, x2, x3, x4⟩ := hrl.cells k hlt
        obtain ⟨hdp, HRk⟩ := HR.out k (by rw [HM.out]; exact hlt)
        have HFs : Hid (O ++ flatS l f CL (k + 1) = ((O ++ flatS l f CL k) ++ [lL CL k]) ++ showP l f (lL CL k).2.1 ((d + 1 : Nat) : Int)) := by
          show _ = _
          rw [flatS_succ l f CL k (by rw [HM.out]; exact hlt), hdp]
          simp
        have hle1 := HFl.out (k + 1)
        have hle2 : ((O ++ flatS l f CL k) ++ [lL CL k]).length + (showP l f (lL CL k).2.1 ((d + 1 : Nat) : Int)).length ≤ 60000 := by
          rw [← List.length_append, ← HFs.out, List.length_append]; exact hle1
        obtain ⟨OK, hOK⟩ : ∃ OK, O ++ flatS l f CL k = OK := ⟨_, rfl⟩
        rw [hOK] at HFs HOr hle2
        have hOKl : OK.length ≤ 60000 := by rw [List.length_append] at hle2; omega
        obtain ⟨⟨m0, ⟨m1, m2⟩, m3, m4⟩, hx⟩ : ∃ x, x = lL CL k := ⟨_, rfl⟩
        rw [← hx] at x0 x1 x2 x3 x4 HRk HFs hle2
        simp only at x0 x1 x2 x3 x4 HRk HFs hle2
        obtain ⟨SP, hSP⟩ : ∃ SP, showP l f (m1, m2) ((d + 1 : Nat) : Int) = SP := ⟨_, rfl⟩
        simp only [hSP] at HRk HFs hle2
        have HRk' : Hid (∀ (O' : List LineT) (v' : Value) (W : World), _) := HRk
        clear hx hSP hOK hdp HRk hle1
        go_wp2_with fail
        obtain ⟨W2, hW2⟩ : ∃ W2, wr.alloc (.cells #[.int .i64 m0, .int .i64 m1, .int .i64 m2, .string m3, .string m4] 43) = W2 := ⟨_, rfl⟩
        obtain ⟨hp, hhp⟩ : ∃ hp, wr.heap.size = hp := ⟨_, rfl⟩
        have HBl : Hid (Blk W2 43 hp #[.int .i64 m0, .int .i64 m1, .int .i64 m2, .string m3, .string m4]) := by show Blk _ _ _ _; rw [← hW2, ← hhp]; exact Blk.new _ _ _
        have hb2 : Below wr.heap.size wr W2 := by rw [← hW2]; exact below_new _ _
        have HS2 : Hid (ShwK w1 W2 g v vr) := HSr.out.on hb2
        have HB2 : Hid (Blk W2 28 g #[vr]) := HBr.out.on hb2
        have HO2 : Hid (OwnL W2 w0.heap.size vr OK) := owns_on HOr.out hb2
        have HV : Hid (∀ j, vr.ownBlock = some j → j < hp) := fun j hj => by rw [← hhp]; exact (World.ownsRow.lt HOr.out j hj).2
        have HS2s : Hid (w0.heap.size ≤ W2.heap.size ∧ g ≠ hp) := by
          have h1 := HSz.out; have h2 := HB1.out.size; have h3 := HS2.out.size; have h4 := HBr.out.lt
          exact ⟨by omega, by omega⟩
        rw [hW2, hhp]
        clear hW2 hhp x0 x1 x2 x3 x4 hb2 HSr HBr HOr HOw hrl
        have CT : Hid (Calls _ _ _ _ _) := shown1_any (m0, (m1, m2), m3, m4) OK w0.heap.size g vr W2 HB2.out HO2.out hg0 HS2s.out.1 hOKl
        refine CT.out.mono ?_
        rintro e w3 ⟨rfl, v3, hb3, ho3, hs3⟩
        have HBl3 : Blk w3 43 hp #[.int .i64 m0, .int .i64 m1, .int .i64 m2, .string m3, .string m4] := by
          unfold Blk
          rw [hs3.block hp HBl.out.lt (fun e => HS2s.out.2 e.symm) (fun e => by have := HV.out hp e.symm; omega)]
          exact HBl.out
        have y1 := HBl3.cell 1
        have y2 := HBl3.cell 2
        have y1' : w3.cell? ⟨hp, 1, none⟩ = some (.int .i64 m1) := y1
        have y2' : w3.cell? ⟨hp, 2, none⟩ = some (.int .i64 m2) := y2
        have HS3 : Hid (ShwK w1 w3 g v v3) := HS2.out.trans hs3
        have HC3 : Hid (Calls _ _ _ _ _) := HRk'.out (OK ++ [(m0, (m1, m2), m3, m4)]) v3 w3 ((HSk.out.trans HSk1.out).trans HS3.out) hb3 ho3 hle2
        clear CT y1 y2 HBl3 hb3 ho3 hs3 HS2 HB2 HO2 HV HBl HRk'
        go_wp2_with fail
        refine HC3.out.mono ?_
        rintro e w4 ⟨rfl, v4, hb4, ho4, hs4⟩
        have HS4 : Hid (ShwK w1 w4 g v v4) := HS3.out.trans hs4
        have HB4 : Hid (Blk w4 28 g #[v4]) := hb4
        have HO4 : Hid (OwnL w4 w0.heap.size v4 (O ++ flatS l f CL (k + 1))) := by show OwnL _ _ _ _; rw [HFs.out]; exact ho4
        clear HC3 hb4 ho4 hs4 HS3 y1' y2'
        go_wp2_with fail
        refine ⟨?_, ?_⟩
        · first
          | exact ⟨k + 1, v4, by omega, by go_num, HB4, HO4, HS4⟩
          | ((repeat apply Exists.intro); refine ⟨?_, rfl⟩; exact ⟨k + 1, v4, by omega, by go_num, HB4, HO4, HS4⟩)
        · simp [intOf] <;> omega
      · obtain rfl : k = m := by omega
        have b0 : ¬ ((k : Int) < (k : Int)) := by omega
        have HF1 : Hid (OwnL wr w0.heap.size vr (O ++ flatS l f CL CL.length)) := by show OwnL _ _ _ _; rw [HM.out]; exact HOr.out
        have HF2 : Hid (ShwK w wr g v vr) := HSk1.out.trans HSr.out
        go_wp2_with fail
        go_end0
        exact ⟨rfl, vr, HBr.out, HF1.out, HF2.out⟩
end Go.Proofs.YtebnmghjdoblaaaGreatDoor

/- The code's Lines (layer 12). -/
namespace Go.Proofs.YtebnmghjdoblaaaGreatDoor
open Go.RowKit
set_option linter.unusedSimpArgs false

theorem ShwK.below {w w' : World} {g : Nat} {v' : Value} (h : ShwK w w' g (.slice none 0 0) v') {a : World} (hb : Below a.heap.size a w) (hg : a.heap.size ≤ g) : Below a.heap.size a w' := ⟨h.os.trans hb.os, h.tape.trans hb.tape, h.output.trans hb.output, Nat.le_trans hb.size h.size, fun k hk => (h.block k (Nat.lt_of_lt_of_le hk hb.size) (by omega) (fun e => by cases e)).trans (hb.block k hk)⟩

set_option maxRecDepth 100000 in
set_option maxHeartbeats 8000000 in
theorem linesV_any (l : List NodeT) (a : Option Addr) (n c : Nat) (w : World) (hn : n ≤ 90) (hz : ∀ k, k < n → (nL l k).2.2.1.size ≤ 65536 ∧ (nL l k).2.2.2.size ≤ maxLen) (hI : NodesAt w a n l) (hG : Glob8 w) (D : Bool) (hD : D = true ↔ MayV l) :
    Calls Tryz.prog 12 #[.slice a n c] w fun e w' => ∃ v, e = .returned (.tuple #[v, .int .i64 (if D = true then 0 else 1)]) ∧ OwnL w' w.heap.size v (if D = true then linesP l else []) ∧ Below w.heap.size w w' := by
  have hN : l.length = n := hI.1
  have CC : Hid (Calls _ _ _ _ _) := checkC_any l a n c w (by omega) (fun k hk => ⟨Nat.le_trans (hz k hk).1 (by decide), (hz k hk).2⟩) hI hG D hD
  have HI : Hid (NodesAt w a n l) := hI
  cases D with
  | false =>
    rw [if_neg (by simp)] at CC
    rw [if_neg (by simp), if_neg (by simp)]
    clear hz hI hG hD HI
    go_enter Tryz.func12, Tryz.ntmps12
    go_wp2_with fail
    refine CC.out.mono ?_
    rintro e w1 ⟨rfl, hb1⟩
    clear CC
    go_wp2_with fail
    go_ret2
    exact ⟨_, rfl, OwnL.nil _ _, hb1⟩
  | true =>
    rw [if_pos rfl] at CC
    rw [if_pos rfl, if_pos rfl]
    have hM : MayV l := hD.1 rfl
    have hnd := each_nodup hM.2.1
    have hr0 := each_out hM.2.1 (r := (0, 0)) rfl
    have HLen : Hid ((linesP l).length ≤ 90) := Nat.le_trans (linesP_len hM) (by omega)
    have HSA : Hid (∀ (B r g : Nat) (w0 : World), MapG w0 B r (fun q => kidsP l q l.length) → g < r → g < B → Blk w0 28 g #[.slice none 0 0] → Calls Tryz.prog 28 #[.map (some r), .agg #[.int .i64 0, .int .i64 0], .int .i64 0, .func (.func 30) #[] #[.pointer (some ⟨g, 0, none⟩)]] w0 fun e w' => e = .returned (.tuple #[]) ∧ ∃ v', Blk w' 28 g #[v'] ∧ OwnL w' w0.heap.size v' (linesP l) ∧ ShwK w0 w' g (.slice none 0 0) v') := fun B r g w0 h1 h2 h3 h4 =>
      show_any l hnd hr0 (by omega) (fun x hx => by obtain ⟨j, hj, e⟩ := List.mem_iff_getElem.1 hx; rw [← e, ← nL_getE l j hj]; exact (hz j (by omega)).1) B r g w0 h1 h2 h3 (l.length + 1) 0 (0, 0) [] _ w0 (low_of hnd hr0 _ 0 _ rfl (by omega)) rfl (ShwK.refl _ _ _) h4 (OwnL.nil _ _) (by have := HLen.out; show ([] : List LineT).length + (linesP l).length ≤ _; simp; omega)
    obtain ⟨R, hR⟩ : ∃ R, linesP l = R := ⟨_, rfl⟩
    rw [hR] at HSA ⊢
    clear hz hI hG hD hM hnd hr0 hR HLen
    go_enter Tryz.func12, Tryz.ntmps12
    go_wp2_with fail
    refine CC.out.mono ?_
    rintro e w1 ⟨rfl, hb1⟩
    have HB1 : Hid (Below w.heap.size w w1) := hb1
    clear CC hb1
    have CO : Hid (∀ W, Below w1.heap.size w1 W → Calls _ _ _ _ _) := fun W hW => childrenOf_any l a n c W (by omega) ((HI.out.below HB1.out).below hW)
    go_wp2_with fail
    obtain ⟨W2, hW2⟩ : ∃ W2, w1.alloc (.cells #[.slice none 0 0] 28) = W2 := ⟨_, rfl⟩
    obtain ⟨g, hg⟩ : ∃ g, w1.heap.size = g := ⟨_, rfl⟩
    have HBg : Hid (Blk W2 28 g #[.slice none 0 0]) := by show Blk _ _ _ _; rw [← hW2, ← hg]; exact Blk.new _ _ _
    have HB2 : Hid (Below w1.heap.size w1 W2) := by show Below _ _ _; rw [← hW2]; exact below_new _ _
    have HGg : Hid (w.heap.size ≤ g) := by show _ ≤ _; rw [← hg]; exact HB1.out.size
    try rw [hW2]
    try rw [hg]
    clear hW2 hg
    refine (CO.out W2 HB2.out).mono ?_
    rintro e w3 ⟨rfl, hM3, hb3⟩
    have HM3 : Hid (MapG w3 (W2.heap.size + 1) W2.heap.size (fun q => kidsP l q l.length)) := hM3
    have HB3 : Hid (Below w.heap.size w w3) := below_step (below_step HB1.out (Nat.le_refl _) HB2.out) (Nat.le_refl _) hb3
    have HBg3 : Hid (Blk w3 28 g #[.slice none 0 0]) := HBg.out.on hb3
    have HgW : Hid (g < W2.heap.size) := HBg.out.lt
    clear CO hM3 hb3
    go_wp2_with fail
    refine (rootV_any _).mono ?_
    rintro e w4 ⟨rfl, hb4⟩
    have HM4 : Hid (MapG w4 (W2.heap.size + 1) W2.heap.size (fun q => kidsP l q l.length)) := HM3.out.on hb4
    have HB4 : Hid (Below w.heap.size w w4) := below_step HB3.out (Nat.le_refl _) hb4
    have HBg4 : Hid (Blk w4 28 g #[.slice none 0 0]) := HBg3.out.on hb4
    have CS : Hid (Calls _ _ _ _ _) := HSA.out _ _ g w4 HM4.out HgW.out (Nat.lt_succ_of_lt HgW.out) HBg4.out
    clear hb4 HM3 HB3 HBg3 HSA
    go_wp2_with fail
    refine CS.out.mono ?_
    rintro e w5 ⟨rfl, v5, hb5, ho5, hs5⟩
    have z0 : w5.cell? ⟨g, 0, none⟩ = some v5 := hb5.cell 0
    have HF1 : Hid (OwnL w5 w.heap.size v5 R) := owns_lessV ho5 HB4.out.size
    have HF2 : Hid (Below w.heap.size w w5) := hs5.below HB4.out HGg.out
    clear CS hb5 ho5 hs5
    go_wp2_with fail
    go_ret2
    exact ⟨_, rfl, HF1.out, HF2.out⟩
end Go.Proofs.YtebnmghjdoblaaaGreatDoor
