/- The law PadEdges, walked. -/
import Derived.Test.YtjijkhahmgikoaaDoorPdE
namespace Go.Proofs.YtjijkhahmgikoaaDoor
open Go.RowKit
set_option linter.unusedSimpArgs false

theorem i64_and7 (n : Int) : bits .and .i64 n 7 = n % 8 := i64_mask n 3 (by decide) 7 (by decide)
def fillN14 (C k j : Nat) : Int := if j < k then (C : Int) else 0
theorem fillN14_set (n C k : Nat) : (tab n (fillN14 C k)).set k (C : Int) = tab n (fillN14 C (k + 1)) := by
  refine tab_set _ _ _ _ _ (by unfold fillN14; rw [if_pos (by omega)]) (fun i _ hne => ?_)
  unfold fillN14
  by_cases h : i < k
  · rw [if_pos h, if_pos (by omega)]
  · rw [if_neg h, if_neg (by omega)]
theorem fillN14_all (n C : Nat) (h : C < 256) : tab n (fillN14 C n) = nums (bytesOf n (fun _ => C)) := by
  rw [nums_bytesOf _ _ (fun _ _ => h)]
  exact tab_congr _ _ _ (fun i hi => by unfold fillN14; rw [if_pos hi])

set_option maxRecDepth 100000 in
set_option maxHeartbeats 4000000 in
theorem padEdges_walk (at' c : Int) (w : World) (hc0 : 0 ≤ c) (hc1 : c ≤ 255) : Calls Tryd.prog 7 #[.int .i64 at', .int .u8 c] w fun e w' => e = .returned (.bool true) ∧ Below w.heap.size w w' := by
  have A : Hid (∀ W, _) := fun W => awake14 W
  obtain ⟨C, rfl⟩ : ∃ C : Nat, c = (C : Int) := ⟨c.toNat, by omega⟩
  have hC : C < 256 := by omega
  obtain ⟨n, hn0, hn1, en⟩ : ∃ n : Nat, 16381 ≤ n ∧ n < 16389 ∧ 16381 + at' % 8 = (n : Int) := ⟨(16381 + at' % 8).toNat, by omega, by omega, by omega⟩
  have ha : bits .and .i64 at' 7 = at' % 8 := i64_and7 at'
  have hw : IntKind.i64.wrap (16381 + at' % 8) = (n : Int) := by rw [IntKind.wrap_i64]; omega
  clear en hc0 hc1
  obtain ⟨i0, hi, hz0, hz1, hz2⟩ := info_parts Tryd.info5
  go_enter Tryd.func7, Tryd.ntmps7
  go_wp2_with (at_make; refine wpList_make_full _ rfl _ _ 34 rfl w.heap.size 5 i0 (.int .u8 0) 1 Tryd.underlying34 hi hz0 hz1 _ _ _ _ n rfl rfl ?b4 ?b5 ?b1 ?b2 ?b3 ?_)
  case b1 => rw [hz2]; omega
  case b2 => unfold maxLen; omega
  case b3 => omega
  case b4 => omega
  case b5 => omega
  intro w3 hown0 hgrow
  have hown : Own w3 w.heap.size 5 .u8 w.heap.size n (tab n (fillN14 C 0)) := Own.made' _ (fun i _ => by simp [fillN14]) hown0
  have hbl : Below w.heap.size w w3 := (Below.refl _ _).grown hgrow (Nat.le_refl _) (fun k hk => by cases hk)
  clear hown0 hgrow hi hz0 hz1 hz2 ha hw
  go_wp2_with fail
  go_loopw [7] (fun i wr => ∃ k : Nat, k ≤ n ∧ i = .int .i64 k ∧ Own wr w.heap.size 5 .u8 w.heap.size n (tab n (fillN14 C k)) ∧ Below w.heap.size w wr) (fun i _ => n - (intOf i).toNat)
  case atStart => exact ⟨0, Nat.zero_le _, rfl, hown, hbl⟩
  case round =>
    clear hown hbl
    obtain ⟨k, hk, rfl, hown, hbl⟩ := hrel
    by_cases hlt : k < n
    · have hc := hown.cell k hlt
      rw [tab_getD _ _ _ hlt] at hc
      have hf := hown.free k
      have HO := hown.set k (C : Int)
      rw [fillN14_set] at HO
      have HBl := hbl.setCell (p := ⟨w.heap.size, k, none⟩) (Nat.le_refl _) (Value.int .u8 (C : Int))
      have b0 : (k : Int) < (n : Int) := by omega
      go_wp2_with fail
      go_roundw
      case rel => exact ⟨k + 1, by omega, by go_num, HO, HBl⟩
      case measure => simp [intOf]; omega
    · have hk' : k = n := by omega
      subst hk'
      rw [fillN14_all _ _ hC] at hown
      have hov : OwnV wr w.heap.size 5 .u8 (.slice (some ⟨w.heap.size, 0, none⟩) k k) k (nums (bytesOf k (fun _ => C))) := hown
      obtain ⟨S, HS⟩ : ∃ S : ByteArray, Hid (S = ⟨(bytesOf k (fun _ => C)).toArray⟩) := ⟨_, rfl⟩
      have hSs : S.size = k := by rw [HS.out]; show (bytesOf k (fun _ => C)).toArray.size = _; rw [List.size_toArray, bytesOf_length]
      have hcv := own_conv (P := Tryd.prog) 34 9 hov Tryd.underlying34 Tryd.underlying5 Tryd.underlying9
      rw [← HS.out] at hcv
      have C1' : ∀ W, _ := fun W => pad_any S W (by omega)
      have Hov : Hid (OwnV wr w.heap.size 5 .u8 (.slice (some ⟨w.heap.size, 0, none⟩) k k) k (nums (bytesOf k (fun _ => C)))) := hov
      have HB : Hid (Below w.heap.size w wr) := hbl
      by_cases hbig : 16384 ≤ k
      · rw [pad_full S (by omega)] at C1'
        have C1 : Hid (∀ W, _) := C1'
        have b0 : (16384 : Int) ≤ (k : Int) := by omega
        have b2 : ¬ ((k : Int) < (k : Int)) := by omega
        clear C1' hown hov hbl hSs hlt
        go_wp2_with fail
        refine (C1.out _).mono ?_
        rintro _ w4 ⟨rfl, k4⟩
        clear C1
        have B4 := HB.out.trans (k4.mono HB.out.size)
        clear HB k4
        go_wp2_with fail
        refine (A.out _).mono ?_
        rintro _ w5 ⟨rfl, k5⟩
        clear A
        have B5 := B4.trans (k5.mono B4.size)
        clear B4 k5
        go_wp2_with fail
        go_ret
        exact ⟨rfl, B5⟩
      · obtain ⟨z1, e1, u1⟩ := pad_first S (by omega)
        have z3 : sizeN S.size = 16384 := by
          have h5 := sizeN_one S.size (by omega)
          have h6 := sizeN_is S.size (by omega)
          omega
        obtain ⟨P, hP⟩ : ∃ P, (padP S).1 = P := ⟨_, rfl⟩
        rw [hP, z3] at z1
        rw [hP] at u1
        rw [hP, e1] at C1'
        have C2' : ∀ W, _ := fun W => unpad_any P W (by omega)
        rw [u1] at C2'
        have C1 : Hid (∀ W, _) := C1'
        have C2 : Hid (∀ W, _) := C2'
        have z4 : (P.size : Int) = 16384 := by omega
        have b0 : ¬ ((16384 : Int) ≤ (k : Int)) := by omega
        have b2 : ¬ ((k : Int) < (k : Int)) := by omega
        clear C1' C2' hown hov hbl hlt e1 u1 z1 z3 hP
        go_wp2_with fail
        refine (C1.out _).mono ?_
        rintro _ w4 ⟨rfl, k4⟩
        clear C1
        have B4 := HB.out.trans (k4.mono HB.out.size)
        have O4 : OwnV w4 w.heap.size 5 .u8 (.slice (some ⟨w.heap.size, 0, none⟩) k k) k (nums (bytesOf k (fun _ => C))) := owns_onG Hov.out k4
        clear HB k4 Hov hcv
        go_wp2_with fail
        refine (C2.out _).mono ?_
        rintro _ w5 ⟨rfl, k5⟩
        clear C2
        have B5 := B4.trans (k5.mono B4.size)
        have O5 : OwnV w5 w.heap.size 5 .u8 (.slice (some ⟨w.heap.size, 0, none⟩) k k) k (nums (bytesOf k (fun _ => C))) := owns_onG O4 k5
        have hcv5 := own_conv (P := Tryd.prog) 34 9 O5 Tryd.underlying34 Tryd.underlying5 Tryd.underlying9
        rw [← HS.out] at hcv5
        clear B4 k5 O4 O5
        go_wp2_with fail
        refine (A.out _).mono ?_
        rintro _ w6 ⟨rfl, k6⟩
        clear A
        have B6 := B5.trans (k6.mono B5.size)
        clear B5 k6
        go_wp2_with fail
        go_ret
        exact ⟨rfl, B6⟩
end Go.Proofs.YtjijkhahmgikoaaDoor
