import Derived.Test.YtfbgofbjbfidoaaDoorArr
namespace Go.Proofs.YtfbgofbjbfidoaaDoor
open Go.RowKit
set_option linter.unusedSimpArgs false

theorem Tryd.arr8 : (Tryd.prog.info? 40).map (·.size) = some 8 := by kernel_rfl
theorem Tryd.arr64 : (Tryd.prog.info? 66).map (·.size) = some 64 := by kernel_rfl

/-- The first k numbers, zeros behind them. -/
def upTo (l : List Nat) (k j : Nat) : Int := if j < k then ((l.getD j 0 : Nat) : Int) else 0
theorem upTo_zero (l : List Nat) (j : Nat) : upTo l 0 j = 0 := by simp [upTo]
theorem upTo_set (l : List Nat) (n k X : Nat) (h : X = l.getD k 0) : (tab n (upTo l k)).set k (X : Int) = tab n (upTo l (k + 1)) := by
  refine tab_set _ _ _ _ _ (by unfold upTo; rw [if_pos (by omega), h]) (fun i _ hne => ?_)
  unfold upTo
  by_cases h : i < k
  · rw [if_pos h, if_pos (by omega)]
  · rw [if_neg h, if_neg (by omega)]
theorem upTo_all (l : List Nat) (n : Nat) (h : l.length = n) : tab n (upTo l n) = ints l := by
  apply List.ext_getElem
  · rw [tab_length, ints_length, h]
  · intro i h1 h2
    have hi : i < n := by rw [tab_length] at h1; exact h1
    rw [tab_get n _ i hi]
    unfold upTo
    rw [if_pos hi]
    simp [ints, List.getD_eq_getElem?_getD, List.getElem?_eq_getElem (show i < l.length by omega)]

set_option maxHeartbeats 2000000 in
theorem put_any (l : List Nat) (w : World) (hl : l.length = 8) (ho : Ok l) :
    Calls Tryd.prog 19 #[.agg (vals l)] w fun e w' => e = .returned (.string (ofN l)) ∧ Below w.heap.size w w' := by
  obtain ⟨i0, hi, hz0, hz1, hz2⟩ := info_parts Tryd.info3
  go_enter Tryd.func19, Tryd.ntmps19
  go_wp2_with (at_make; refine wpList_make_full _ rfl _ _ 47 rfl (w.heap.size + 1) 3 i0 (.int .i64 0) 1 Tryd.underlying47 hi hz0 hz1 _ _ _ _ 8 rfl rfl ?b4 ?b5 ?b1 ?b2 ?b3 ?_)
  case b1 => rw [hz2]; omega
  case b2 => unfold maxLen; omega
  case b3 => simp
  case b4 => omega
  case b5 => omega
  intro w1 hown0 hgrow
  have hown : Own w1 (w.heap.size + 1) 3 .i64 (w.heap.size + 1) 8 (tab 8 (upTo l 0)) := Own.made' _ (fun i _ => upTo_zero l i) hown0
  have hbl : Below (w.heap.size + 1) (w.alloc (.cells (vals l) 40)) w1 := (Below.refl _ _).grown hgrow (by simp) (fun k hk => by cases hk)
  have harr := (Arr.new w 40 l (vals l) rfl).below hbl (by omega)
  have HA : Hid (Arr w1 40 w.heap.size l) := harr
  have HB : Hid (Below w.heap.size w w1) := (below_new w _).trans (hbl.mono (by omega))
  have hg1 : w.heap.size + 1 ≤ w1.heap.size := by have := hbl.size; simp at this; exact this
  clear hown0 hgrow hi hz0 hz1 hz2 hbl harr
  go_wp2
  go_loopw [6] (fun i wr => ∃ k : Nat, k ≤ 8 ∧ i = .int .i64 k ∧ Own wr (w.heap.size + 1) 3 .i64 (w.heap.size + 1) 8 (tab 8 (upTo l k)) ∧ Below (w.heap.size + 1) w1 wr) (fun i _ => 8 - (intOf i).toNat)
  case atStart => exact ⟨0, Nat.zero_le _, rfl, hown, Below.refl _ _⟩
  case round =>
    clear hown
    obtain ⟨k, hk, rfl, hown, hbl⟩ := hrel
    by_cases hlt : k < 8
    · obtain ⟨X, hX⟩ : ∃ x, x = l.getD k 0 := ⟨_, rfl⟩
      have lX : X < 4294967296 := by rw [hX]; exact ho k
      have c0 := (HA.out.below hbl (by omega)).cell k (by omega)
      rw [← hX] at c0
      have hc := hown.cell k hlt
      rw [tab_getD _ _ _ hlt] at hc
      have hf := hown.free k
      have HO := hown.set k (X : Int)
      rw [upTo_set l 8 k X hX] at HO
      have HBl := hbl.setCell (p := ⟨w.heap.size + 1, k, none⟩) (Nat.le_refl _) (Value.int .i64 (X : Int))
      have b0 : (k : Int) < 8 := by omega
      clear hX
      go_wp2
      go_roundw
      case rel => exact ⟨k + 1, by omega, by go_num, HO, HBl⟩
      case measure => simp [intOf]; omega
    · have hk' : k = 8 := by omega
      subst hk'
      rw [upTo_all l 8 hl] at hown
      have HI : Hid (IntsAt wr .i64 (some ⟨w.heap.size + 1, 0, none⟩) 8 (ints l)) := hown.ints
      clear hown
      go_wp2_with fail
      refine (putBig_any _ 8 _ (ints l) _ (by omega) HI.out).mono ?_
      rintro e w6 ⟨rfl, hb6⟩
      go_wp2_with fail
      go_ret
      exact ⟨rfl, below_step (HB.out.trans (hbl.mono (by omega))) (Nat.le_refl _) hb6⟩
end Go.Proofs.YtfbgofbjbfidoaaDoor
