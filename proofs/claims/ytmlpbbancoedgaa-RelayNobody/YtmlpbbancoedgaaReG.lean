/- Layer 21, the code: first; itemOf. -/
import Derived.Test.YtmlpbbancoedgaaReF
namespace Go.Proofs.Ytmlpbbancoedgaa
open Go.RowKit
set_option maxRecDepth 100000
set_option linter.unusedSimpArgs false
set_option linter.unusedVariables false

/-- What IndexFunc holds while it counts bytes. -/
def FstI (w : World) (L : List ItT) (k : Nat) (W : World) : Prop := Below w.heap.size w W ∧ Blk W 3 w.heap.size #[.int .i64 (sizeL (L.take k) : Int)]

theorem fst_step (w : World) (L : List ItT) (k : Nat) (W : World) (hk : k < L.length) (hz : sizeL L ≤ 4611686018427387904) (h : FstI w L k W) :
    Calls Try.prog 88 #[.agg (itemA (itL L k)), .pointer (some ⟨w.heap.size, 0, none⟩)] W fun e w' => e = .returned (.bool (decide (40000 < sizeL (L.take (k + 1))))) ∧ FstI w L (k + 1) w' := by
  have hs := sizeL_take L k hk
  have hs2 := sizeL_split L (k + 1)
  refine (firstC_any (itL L k) w.heap.size (sizeL (L.take k)) (by omega) W h.2).mono ?_
  rintro e w' ⟨rfl, h1, h2⟩
  rw [← hs] at h1 ⊢
  exact ⟨rfl, h.1.trans (h2.below _ h.1.size (Nat.le_refl _) (fun k hk => by cases hk)), h1⟩

theorem run_sliceTo (a : Option Addr) (n c m : Nat) (hm : m ≤ c) (w : World) : (Instr.slice 29 (.slice a n c) none (some (.int .i64 (m : Int))) none).run Try.prog w = .ok (.slice a m c) w := by
  obtain ⟨i0, hi, hz0, hz1, hz2⟩ := info_parts Try.infoI19
  have h1 : (0 : Int) ≤ (m : Int) ∧ (m : Int) ≤ (c : Int) := by omega
  have ha : a.map (fun x => x.add (0 * 3)) = a := by
    cases a with
    | none => rfl
    | some x => simp [Addr.add]
  unfold Instr.slice
  simp [run_underlying Try.underlying29, Instr.sliceBounds, Instr.sliceBound, asIntOf, sizeOf, typeInfo, hi, hz1, h1]
  cases a with
  | none => rw [if_pos hm]; simp
  | some x => rw [if_pos hm]; simp [Addr.add]


set_option maxHeartbeats 4000000 in
theorem first_any (l : List ItT) (a : Option Addr) (n c most : Nat) (w : World) (hI : ItsAt w a n l) (hn : n ≤ 1048576) (hc : n ≤ c) (hc2 : c ≤ 9223372036854775807) (hmo : most ≤ 1099511627775) (hz : sizeL l ≤ 4611686018427387904) :
    Calls Try.prog 81 #[.slice a n c, .int .i64 (most : Int)] w fun e w' => ∃ c', e = .returned (.slice a (firstL l most).length c') ∧ ((firstL l most).length ≤ c' ∧ c' ≤ 9223372036854775807) ∧ ItsAt w' a (firstL l most).length (firstL l most) ∧ Below w.heap.size w w' := by
  obtain ⟨m, hm⟩ : ∃ m, min most n = m := ⟨_, rfl⟩
  have hmn : m ≤ n := by omega
  have hmin : min (most : Int) (n : Int) = (m : Int) := by omega
  have hlt : l.take most = l.take m := by
    by_cases e : most ≤ n
    · rw [show m = most by omega]
    · rw [List.take_of_length_le (by rw [hI.1]; omega), List.take_of_length_le (by rw [hI.1]; omega)]
  have hLm : (l.take m).length = m := by rw [List.length_take, hI.1]; omega
  have hI1 : ItsAt w a m (l.take m) := hI.take m hmn
  have hz1 : sizeL (l.take m) ≤ 4611686018427387904 := by have := sizeL_split l m; omega
  obtain ⟨L, hL⟩ : ∃ L, l.take m = L := ⟨_, rfl⟩
  rw [hL] at hlt hLm hI1 hz1
  have hfl : firstL l most = fitL L := by unfold firstL; rw [hlt]
  rw [hfl]
  unfold fitL
  rw [hLm]
  obtain ⟨W1, hW1⟩ : ∃ W1, (w.alloc (.cells #[.int .i64 0] 3)).setCell ⟨w.heap.size, 0, none⟩ (.int .i64 0) = W1 := ⟨_, rfl⟩
  have f0 : (w.alloc (.cells #[.int .i64 0] 3)).frozen? ⟨w.heap.size, 0, none⟩ = false := (Blk.new w 3 #[.int .i64 0]).free 0
  have CI' := indexF_any L a m c (.pointer (some ⟨w.heap.size, 0, none⟩)) (fun i => decide (40000 < sizeL (L.take (i + 1)))) (FstI w L) W1 (by omega)
    (fun k W hW => hI1.below hW.1) (fun k W hk hW => fst_step w L k W (by rw [hLm]; exact hk) hz1 hW) (by
      rw [← hW1]
      refine ⟨(below_new w _).setCell (p := ⟨w.heap.size, 0, none⟩) (Nat.le_refl _) _, ?_⟩
      have := (Blk.new w 3 #[.int .i64 0]).setAt 0 (.int .i64 0)
      exact this)
  have HII : Hid (ItsAt w a m L) := hI1
  have HLm : Hid (L.length = m) := hLm
  have gmc : m ≤ c := by omega
  have hs1 := fun wx => run_sliceTo a n c m gmc wx
  have HG : Hid (m ≤ c ∧ c ≤ 9223372036854775807) := ⟨gmc, hc2⟩
  have HM : Hid (m ≤ n) := hmn
  cases hf : fstN (fun i => decide (40000 < sizeL (L.take (i + 1)))) m 0 with
  | some i =>
    obtain ⟨_, hi, _, _⟩ := fstN_some _ m 0 i hf
    rw [hf] at CI'
    have CI : Hid (Calls Try.prog 78 _ _ fun e w' => e = .returned (.int .i64 (i : Int)) ∧ _) := CI'
    simp only
    have him : i ≤ m := by omega
    have hs2 := fun wx => run_sliceTo a m c i (by omega) wx
    have HGI : Hid (i ≤ c) := by show _ ≤ _; omega
    have hli : (L.take i).length = i := by rw [List.length_take, HLm.out]; omega
    rw [hli]
    have HR : Hid (ItsAt w a i (L.take i)) := HII.out.take i him
    clear hf CI' hli him hi hlt hI1 hz1 hfl hI hL hLm hz hm hmn hmo hn hc gmc hc2
    go_enter Try.func81, Try.ntmps81
    go_wp2_with fail
    try rw [hW1]
    refine CI.out.mono ?_
    rintro e w2 ⟨rfl, kk, h2⟩
    have HB : Hid (Below w.heap.size w w2) := h2.1
    clear h2 CI
    go_wp2_with fail
    go_ret
    exact ⟨_, rfl, ⟨HGI.out, HG.out.2⟩, HR.out.below HB.out, HB.out⟩
  | none =>
    rw [hf] at CI'
    have CI : Hid (Calls Try.prog 78 _ _ fun e w' => e = .returned (.int .i64 (-1)) ∧ _) := CI'
    simp only
    rw [HLm.out]
    clear hf CI' hlt hI1 hz1 hfl hI hL hLm hz hm hmn hmo hn hc gmc hc2
    go_enter Try.func81, Try.ntmps81
    go_wp2_with fail
    try rw [hW1]
    refine CI.out.mono ?_
    rintro e w2 ⟨rfl, kk, h2⟩
    have HB : Hid (Below w.heap.size w w2) := h2.1
    clear h2 CI
    go_wp2_with fail
    go_ret
    exact ⟨_, rfl, HG.out, HII.out.below HB.out, HB.out⟩

end Go.Proofs.Ytmlpbbancoedgaa
