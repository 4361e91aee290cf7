import Derived.Test.YtfbgofbjbfidoaaDoorHm
namespace Go.Proofs.YtfbgofbjbfidoaaDoor
open Go.RowKit
set_option linter.unusedSimpArgs false

theorem cut_bt (s : ByteArray) : tabN 64 (cutN (bt s) s.size) = tabN 64 (bt s) :=
  tabN_congr _ _ _ (fun i _ => by
    unfold cutN
    by_cases h : i < s.size
    · rw [if_pos h]
    · rw [if_neg h, bt_out s i (by omega)])

set_option maxRecDepth 100000 in
set_option maxHeartbeats 4000000 in
theorem keyBlock_short (K : ByteArray) (w : World) (hK : K.size ≤ 64) :
    Calls Tryd.prog 13 #[.string K] w fun e w' => e = .returned (.agg (bvals (tabN 64 (bt K)))) ∧ Below w.heap.size w w' := by
  have g0 : decide ((64 : Int) < (K.size : Int)) = false := by simp; omega
  go_enter Tryd.func13, Tryd.ntmps13
  go_wp2_with fail
  generalize hq : World.alloc (World.alloc w _) _ = W
  have A0 : Hid (Brr W 31 w.heap.size (tabN 64 (cutN (bt K) 0))) := by rw [← hq]; exact (Brr.new w 31 (tabN 64 (cutN (bt K) 0)) _ (by kernel_rfl)).alloc _
  have A1 : Hid (Brr W 31 (w.heap.size + 1) (tabN 64 (cutN (bt K) 0))) := by rw [← hq]; exact Brr.new' _ 31 (tabN 64 (cutN (bt K) 0)) _ (w.heap.size + 1) (by simp) (by kernel_rfl)
  have A2 : Below w.heap.size w W := by rw [← hq]; exact (below_new w _).alloc (by simp) _
  clear hq
  obtain ⟨g, hg⟩ : ∃ g, g = w.heap.size + 1 := ⟨_, rfl⟩
  rw [← hg] at A1 ⊢
  have hne : w.heap.size ≠ g := by omega
  have hgB : w.heap.size ≤ g := by omega
  clear hg
  go_loopw [12] (fun i wr => ∃ k : Nat, k ≤ K.size ∧ i = .int .i64 k ∧ Hid (Brr wr 31 w.heap.size (tabN 64 (cutN (bt K) 0))) ∧ Hid (Brr wr 31 g (tabN 64 (cutN (bt K) k))) ∧ Below w.heap.size w wr) (fun i _ => K.size - (intOf i).toNat)
  case atStart => exact ⟨0, by omega, rfl, A0, A1, A2⟩
  case round =>
    clear A0 A1 A2
    obtain ⟨k, hk, rfl, V0, V1, hbl⟩ := hrel
    by_cases hlt : k < K.size
    · have c1 := V1.out.cell k (by rw [tabN_length]; omega)
      have hfr := V1.out.free k
      have HO := V1.out.set k (bt K k)
      rw [cutN_set, ← bt_get K k hlt] at HO
      have V0' : Hid (Brr _ 31 w.heap.size _) := V0.out.other ⟨g, k, none⟩ hne (Value.int .u8 ((K[k].toNat : Nat) : Int))
      have HO' : Hid (Brr _ 31 g _) := HO
      have HBl := hbl.setCell (p := ⟨g, k, none⟩) hgB (Value.int .u8 ((K[k].toNat : Nat) : Int))
      have b0 : (k : Int) < 64 := by omega
      clear HO V0 V1
      go_wp2_with fail
      go_roundw
      case rel => exact ⟨k + 1, by omega, by go_num, V0', HO', HBl⟩
      case measure => simp [intOf]; omega
    · have hk' : k = K.size := by omega
      subst hk'
      have hV := V1.out
      rw [cut_bt] at hV
      have V1' : Hid (Brr wr 31 g (tabN 64 (bt K))) := hV
      clear hV V1
      go_wp2_with (first
        | (with_reducible refine wpList_loadBrr rfl 31 _ rfl g (tabN 64 (bt K)) ?hx V1'.out 64 5 Tryd.underlying31 ?hi ?_)
        | (with_reducible refine wpList_storeBrr rfl 31 _ _ rfl w.heap.size (tabN 64 (cutN (bt K) 0)) (tabN 64 (bt K)) ?hx2 ?hy V0.out ?hl ?hi2 ?_))
      case hx => rfl
      case hi => rw [tabN_length]; exact Tryd.brr64
      case hl => rw [tabN_length, tabN_length]
      case hi2 => rw [tabN_length]; exact Tryd.brr64
      exact bodyPost_brr rfl w.heap.size (tabN 64 (bt K)) rfl rfl (V0.out.setRow (tabN 64 (bt K))) 64 5 Tryd.underlying31 (by rw [tabN_length]; exact Tryd.brr64) ⟨rfl, below_setRow hbl (Nat.le_refl _) _⟩

set_option maxRecDepth 100000 in
set_option maxHeartbeats 4000000 in
theorem keyBlock_long (key : ByteArray) (w : World) (hk : 64 < key.size) (hs : key.size ≤ 65536) (hB : GlobB w) (hK : GlobK w) :
    Calls Tryd.prog 13 #[.string key] w fun e w' => e = .returned (.agg (bvals (tabN 64 (bt (ofN (sumN key)))))) ∧ Below w.heap.size w w' := by
  have g0 : decide ((64 : Int) < (key.size : Int)) = true := by simp; omega
  have C : Hid (∀ w, GlobB w → GlobK w → _) := fun w => sum_any key w hs
  have HB : Hid (GlobB w) := hB
  have HK : Hid (GlobK w) := hK
  have hKs := sumB_size key
  generalize ofN (sumN key) = K at *
  clear hB hK
  go_enter Tryd.func13, Tryd.ntmps13
  go_wp2_with fail
  generalize hq : World.alloc w _ = W0
  have a0 : Brr W0 31 w.heap.size (tabN 64 (cutN (bt K) 0)) := by rw [← hq]; exact Brr.new w 31 (tabN 64 (cutN (bt K) 0)) _ (by kernel_rfl)
  have hbn : Below w.heap.size w W0 := by rw [← hq]; exact below_new w _
  have hs0 : w.heap.size ≤ W0.heap.size := hbn.size
  clear hq
  refine (C.out _ (HB.out.below hbn) (HK.out.below hbn)).mono ?_
  rintro e w1 ⟨rfl, hb1⟩
  clear C
  have hB1 : Below w.heap.size w w1 := hbn.trans (hb1.mono hs0)
  have a1 : Brr w1 31 w.heap.size (tabN 64 (cutN (bt K) 0)) := a0.below hb1 a0.lt
  have hsz : w.heap.size < w1.heap.size := a1.lt
  clear a0 hbn hb1
  go_wp2_with fail
  generalize hq : World.alloc w1 _ = W
  have A0 : Hid (Brr W 31 w.heap.size (tabN 64 (cutN (bt K) 0))) := by rw [← hq]; exact a1.alloc _
  have A1 : Hid (Brr W 31 w1.heap.size (tabN 64 (cutN (bt K) 0))) := by rw [← hq]; exact Brr.new w1 31 (tabN 64 (cutN (bt K) 0)) _ (by kernel_rfl)
  have A2 : Below w.heap.size w W := by rw [← hq]; exact hB1.alloc (by omega) _
  clear hq
  obtain ⟨g, hg⟩ : ∃ g, g = w1.heap.size := ⟨_, rfl⟩
  rw [← hg] at A1 ⊢
  have hne : w.heap.size ≠ g := by omega
  have hgB : w.heap.size ≤ g := by omega
  clear hg a1 hB1 hsz
  go_loopw [12] (fun i wr => ∃ k : Nat, k ≤ K.size ∧ i = .int .i64 k ∧ Hid (Brr wr 31 w.heap.size (tabN 64 (cutN (bt K) 0))) ∧ Hid (Brr wr 31 g (tabN 64 (cutN (bt K) k))) ∧ Below w.heap.size w wr) (fun i _ => K.size - (intOf i).toNat)
  case atStart => exact ⟨0, by omega, rfl, A0, A1, A2⟩
  case round =>
    clear A0 A1 A2
    obtain ⟨k, hk, rfl, V0, V1, hbl⟩ := hrel
    by_cases hlt : k < K.size
    · have c1 := V1.out.cell k (by rw [tabN_length]; omega)
      have hfr := V1.out.free k
      have HO := V1.out.set k (bt K k)
      rw [cutN_set, ← bt_get K k hlt] at HO
      have V0' : Hid (Brr _ 31 w.heap.size _) := V0.out.other ⟨g, k, none⟩ hne (Value.int .u8 ((K[k].toNat : Nat) : Int))
      have HO' : Hid (Brr _ 31 g _) := HO
      have HBl := hbl.setCell (p := ⟨g, k, none⟩) hgB (Value.int .u8 ((K[k].toNat : Nat) : Int))
      have b0 : (k : Int) < 64 := by omega
      clear HO V0 V1
      go_wp2_with fail
      go_roundw
      case rel => exact ⟨k + 1, by omega, by go_num, V0', HO', HBl⟩
      case measure => simp [intOf]; omega
    · have hk' : k = K.size := by omega
      subst hk'
      have hV := V1.out
      rw [cut_bt] at hV
      have V1' : Hid (Brr wr 31 g (tabN 64 (bt K))) := hV
      clear hV V1
      go_wp2_with (first
        | (with_reducible refine wpList_loadBrr rfl 31 _ rfl g (tabN 64 (bt K)) ?hx V1'.out 64 5 Tryd.underlying31 ?hi ?_)
        | (with_reducible refine wpList_storeBrr rfl 31 _ _ rfl w.heap.size (tabN 64 (cutN (bt K) 0)) (tabN 64 (bt K)) ?hx2 ?hy V0.out ?hl ?hi2 ?_))
      case hx => rfl
      case hi => rw [tabN_length]; exact Tryd.brr64
      case hl => rw [tabN_length, tabN_length]
      case hi2 => rw [tabN_length]; exact Tryd.brr64
      exact bodyPost_brr rfl w.heap.size (tabN 64 (bt K)) rfl rfl (V0.out.setRow (tabN 64 (bt K))) 64 5 Tryd.underlying31 (by rw [tabN_length]; exact Tryd.brr64) ⟨rfl, below_setRow hbl (Nat.le_refl _) _⟩

theorem keyBlock_any (key : ByteArray) (w : World) (hs : key.size ≤ 65536) (hB : GlobB w) (hK : GlobK w) :
    Calls Tryd.prog 13 #[.string key] w fun e w' => e = .returned (.agg (bvals (tabN 64 (bt (keyOf key))))) ∧ Below w.heap.size w w' := by
  by_cases h : 64 < key.size
  · rw [keyOf_long key h]; exact keyBlock_long key w h hs hB hK
  · rw [keyOf_short key (by omega)]; exact keyBlock_short key w (by omega)

end Go.Proofs.YtfbgofbjbfidoaaDoor
