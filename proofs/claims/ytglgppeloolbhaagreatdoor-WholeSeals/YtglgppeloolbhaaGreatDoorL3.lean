import Derived.Test.YtglgppeloolbhaaGreatDoorL2c
import Derived.Test.YtglgppeloolbhaaGreatDoorG
import Derived.Test.YtglgppeloolbhaaGreatDoorL1
/- Arrays of bytes in a block of the call's own: plain facts. -/
namespace Go.Proofs.YtglgppeloolbhaaGreatDoor
open Go.RowKit
set_option maxRecDepth 100000

/-- The cells of an array of bytes; a block that holds one. -/
def bvals (l : List Nat) : Array Value := ((ints l).map (Value.int .u8)).toArray
def Brr (w : World) (t : TypeId) (g : Nat) (l : List Nat) : Prop := w.heap[g]? = some (.cells (bvals l) t (0, 0))
theorem bvals_size (l : List Nat) : (bvals l).size = l.length := by simp [bvals, ints]
theorem bvals_get (l : List Nat) (j : Nat) (hj : j < l.length) : (bvals l)[j]? = some (.int .u8 ((l.getD j 0 : Nat) : Int)) := by
  simp [bvals, ints, List.getD_eq_getElem?_getD, List.getElem?_eq_getElem hj]
theorem bvals_one (l : List Nat) : (bvals l).all (·.oneCell') = true := by
  refine Array.all_eq_true_iff_forall_mem.2 (fun v hv => ?_)
  simp only [bvals, List.mem_toArray, List.mem_map] at hv
  obtain ⟨z, _, rfl⟩ := hv
  rfl
theorem Brr.cell {w : World} {t : TypeId} {g : Nat} {l : List Nat} (h : Brr w t g l) (j : Nat) (hj : j < l.length) : w.cell? ⟨g, j, none⟩ = some (.int .u8 ((l.getD j 0 : Nat) : Int)) := by
  rw [cell_of_row _ _ _ _ t (0, 0) h, bvals_get l j hj]
theorem Brr.lt {w : World} {t : TypeId} {g : Nat} {l : List Nat} (h : Brr w t g l) : g < w.heap.size := (Array.getElem?_eq_some_iff.1 h).1
theorem Brr.free {w : World} {t : TypeId} {g : Nat} {l : List Nat} (h : Brr w t g l) (j : Nat) : w.frozen? ⟨g, j, none⟩ = false := by
  unfold Brr at h
  simp [World.frozen?, h]
theorem Brr.below {w w' : World} {t : TypeId} {B g : Nat} {l : List Nat} (h : Brr w t g l) (hb : Below B w w') (hg : g < B) : Brr w' t g l := by
  unfold Brr; rw [hb.block g hg]; exact h
theorem Brr.alloc {w : World} {t : TypeId} {g : Nat} {l : List Nat} (h : Brr w t g l) (o : Obj) : Brr (w.alloc o) t g l := by
  unfold Brr; rw [Below.heap_alloc w o g h.lt]; exact h
theorem Brr.new (w : World) (t : TypeId) (l : List Nat) (c : Array Value) (hc : c = bvals l) : Brr (w.alloc (.cells c t)) t w.heap.size l := by
  subst hc; exact heap_alloc_last w _
theorem Brr.other {w : World} {t : TypeId} {g : Nat} {l : List Nat} (h : Brr w t g l) (p : Addr) (hp : g ≠ p.block) (u : Value) : Brr (w.setCell p u) t g l := by
  unfold Brr; rw [Below.heap_setCell w p u g hp]; exact h
theorem Brr.set {w : World} {t : TypeId} {g : Nat} {l : List Nat} (h : Brr w t g l) (j : Nat) (x : Nat) : Brr (w.setCell ⟨g, j, none⟩ (.int .u8 (x : Int))) t g (l.set j x) := by
  have e : bvals (l.set j x) = (bvals l).setIfInBounds j (.int .u8 (x : Int)) := by simp [bvals, ints, List.map_set]
  unfold Brr
  rw [e]
  exact heap_setCell_same w g j _ t _ h
theorem Brr.setRow {w : World} {t : TypeId} {g : Nat} {l : List Nat} (h : Brr w t g l) (l' : List Nat) : Brr (w.setRow g (bvals l')) t g l' := setRow_heap w g _ _ t (0, 0) h
theorem Brr.setRowOther {w : World} {t : TypeId} {g : Nat} {l : List Nat} (h : Brr w t g l) (g' : Nat) (hg : g ≠ g') (c : Array Value) : Brr (w.setRow g' c) t g l := by
  unfold Brr; rw [setRow_other w g' g c hg]; exact h

section
variable {P : Program} {ops : Array Oper} {rest : List Oper} {o : Oper} {a : Act} {w : World} {Q : Exit → Act → World → Prop}
theorem run_loadBrr (t : TypeId) (g : Nat) (l : List Nat) (h : Brr w t g l) (n : Nat) (e : TypeId) (hu : P.underlying t = some (.array n e)) (hi : (P.info? t).map (·.size) = some l.length) :
    (loadVar t ⟨g, 0, none⟩).run P w = .ok (.agg (bvals l)) w :=
  run_loadVar_row w g t t (bvals l) (0, 0) _ h hu rfl (by rw [bvals_size]; exact hi)
/-- An array that is handed back out of a cell. -/
theorem bodyPost_brr {fn : Func} {p : Tmp} {ty : TypeId} {R : Ending → World → Prop} (hf : fn.results = #[.cell p ty]) (g : Nat) (l : List Nat) (hp : a.tmps.getD p undef = .pointer (some ⟨g, 0, none⟩)) (hd : a.defers = []) (h : Brr w ty g l)
    (n : Nat) (e : TypeId) (hu : P.underlying ty = some (.array n e)) (hi : (P.info? ty).map (·.size) = some l.length) (hR : R (.returned (.agg (bvals l))) w) : bodyPost P fn R .ret a w := by
  refine bodyPost_ret (v := .agg (bvals l)) ?_ hd hR
  rw [results_cell hf, hp]
  simp [asAddr, Result.andThen, run_loadBrr ty g l h n e hu hi]
/-- A whole array is read. -/
theorem wpList_loadBrr (hgd : o.guard = none) (t : TypeId) (x : Operand) (ho : o.op = .load t x) (g : Nat) (l : List Nat) (hx : a.eval x = .pointer (some ⟨g, 0, none⟩)) (h : Brr w t g l)
    (n : Nat) (e : TypeId) (hu : P.underlying t = some (.array n e)) (hi : (P.info? t).map (·.size) = some l.length) (hk : wpList P ops Q rest (a.put o.dst (.agg (bvals l))) w) : wpList P ops Q (o :: rest) a w :=
  wpList_plain hgd fun _ hK => by
    unfold Oper.wp execOp
    simp only [ho, hx, Instr.loadAt, Instr.sureAddr, Sem.run_bind, Sem.run_pure, Result.andThen_ok, run_loadBrr t g l h n e hu hi]
    exact hK _ _ hk
/-- A whole array is written. -/
theorem wpList_storeBrr (hgd : o.guard = none) (t : TypeId) (x y : Operand) (ho : o.op = .store t x y) (g : Nat) (l l' : List Nat) (hx : a.eval x = .pointer (some ⟨g, 0, none⟩)) (hy : a.eval y = .agg (bvals l')) (h : Brr w t g l) (hl : l.length = l'.length)
    (hi : (P.info? t).map (·.size) = some l.length) (hk : wpList P ops Q rest (a.put o.dst undef) (w.setRow g (bvals l'))) : wpList P ops Q (o :: rest) a w :=
  wpList_plain hgd fun _ hK => by
    unfold Oper.wp execOp
    have := run_storeVar_row (P := P) w g t t (bvals l) (bvals l') h (by rw [bvals_size, ← hl]; exact hi) (by rw [bvals_size, bvals_size, hl]) (bvals_one l')
    simp only [ho, hx, hy, Instr.storeAt, Instr.sureAddr, Sem.run_bind, Sem.run_pure, Result.andThen_ok, this]
    exact hK _ _ hk
end
section
variable {P : Program} {ops : Array Oper} {o : Oper} {a : Act} {w : World} {K' : Act → World → Prop} {Q : Exit → Act → World → Prop} {E : Prop}
end

theorem Brr.cast {w : World} {t : TypeId} {g : Nat} {l l' : List Nat} (e : l = l') (h : Brr w t g l) : Brr w t g l' := e ▸ h
end Go.Proofs.YtglgppeloolbhaaGreatDoor

/- A key's block, and the block turned into a byte: plain facts and the landed functions. -/
namespace Go.Proofs.YtglgppeloolbhaaGreatDoor
open Go.RowKit
set_option maxRecDepth 100000
set_option linter.unusedSimpArgs false

theorem Brr.new' (w : World) (t : TypeId) (l : List Nat) (c : Array Value) (g : Nat) (hg : w.heap.size = g) (hc : c = bvals l) : Brr (w.alloc (.cells c t)) t g l := by
  subst hg; exact Brr.new w t l c hc
theorem Tryz.brr64 : (Tryz.prog.info? 48).map (·.size) = some 64 := by kernel_rfl
theorem u8_xor_nat (a b : Nat) (ha : a < 256) (hb : b < 256) : bits .xor .u8 (a : Int) (b : Int) = ((a ^^^ b : Nat) : Int) := by
  have h := bits_xor_byte (UInt8.ofNat a) (UInt8.ofNat b)
  have e1 : (UInt8.ofNat a).toNat = a := by simp [Nat.mod_eq_of_lt ha]
  have e2 : (UInt8.ofNat b).toNat = b := by simp [Nat.mod_eq_of_lt hb]
  rw [UInt8.toNat_xor, e1, e2] at h
  exact h
theorem xor_lt8 (a b : Nat) (ha : a < 256) (hb : b < 256) : a ^^^ b < 256 := Nat.xor_lt_two_pow (n := 8) ha hb
theorem bt_out (s : ByteArray) (j : Nat) (h : s.size ≤ j) : bt s j = 0 := by
  rw [bt_eq, Array.getElem?_eq_none h]; rfl
theorem Brr.conv {P : Program} {w : World} {t : TypeId} {g n : Nat} {f : Nat → Nat} {e : TypeId} (h : Brr w t g (tabN n f)) (hf : ∀ i, i < n → f i < 256) (src dst : TypeId)
    (hs : P.underlying src = some (.slice e)) (he : P.underlying e = some (.int .u8)) (hd : P.underlying dst = some .string) :
    (convert src dst (.slice (some ⟨g, 0, none⟩) n n)).run P w = .ok (.string ⟨(bytesOf n f).toArray⟩) w := by
  rw [← str_nums, nums_bytesOf n f hf]
  exact run_convert_bytes_arg w src e hs he g 0 n n (tab n fun i => (f i : Int)) (tab_length _ _) (fun i hi => by rw [Nat.zero_add, tab_getD _ _ _ hi, h.cell i (by rw [tabN_length]; exact hi), tabN_getD _ _ _ hi]) dst hd

/-- A block turned into a byte; the key that counts; the sum under a key. -/
def turnB (f : Nat → Nat) (c : Nat) : ByteArray := ⟨(bytesOf 64 (fun i => f i ^^^ c)).toArray⟩
def keyOf (key : ByteArray) : ByteArray := if 64 < key.size then ofN (sumN key) else key
def macB (key s : ByteArray) : ByteArray := ofN (sumN (turnB (bt (keyOf key)) 92 ++ ofN (sumN (turnB (bt (keyOf key)) 54 ++ s))))
theorem turnB_size (f : Nat → Nat) (c : Nat) : (turnB f c).size = 64 := by
  show (bytesOf 64 _).toArray.size = 64
  rw [List.size_toArray, bytesOf_length]
theorem sumB_size (s : ByteArray) : (ofN (sumN s)).size = 32 := ofN_size _ (foldN_length _ _ rfl _)
theorem keyOf_long (key : ByteArray) (h : 64 < key.size) : keyOf key = ofN (sumN key) := if_pos h
theorem keyOf_short (key : ByteArray) (h : key.size ≤ 64) : keyOf key = key := if_neg (by omega)
theorem macB_size (key s : ByteArray) : (macB key s).size = 32 := sumB_size _

/-- A block of which the first k bytes are turned. -/
def trnN (f : Nat → Nat) (c k j : Nat) : Nat := if j < k then f j ^^^ c else f j
theorem trnN_zero (f : Nat → Nat) (c : Nat) : tabN 64 (trnN f c 0) = tabN 64 f := tabN_congr _ _ _ (fun i _ => by unfold trnN; rw [if_neg (by omega)])
theorem trnN_at (f : Nat → Nat) (c k : Nat) : trnN f c k k = f k := by unfold trnN; rw [if_neg (by omega)]
theorem trnN_set (f : Nat → Nat) (c k : Nat) : (tabN 64 (trnN f c k)).set k (f k ^^^ c) = tabN 64 (trnN f c (k + 1)) := by
  refine tabN_set _ _ _ _ _ (by unfold trnN; rw [if_pos (by omega)]) (fun i _ hne => ?_)
  unfold trnN
  by_cases h : i < k
  · rw [if_pos h, if_pos (by omega)]
  · rw [if_neg h, if_neg (by omega)]
theorem trnN_all (f : Nat → Nat) (c : Nat) : tabN 64 (trnN f c 64) = tabN 64 (fun i => f i ^^^ c) := tabN_congr _ _ _ (fun i hi => by unfold trnN; rw [if_pos hi])

set_option maxRecDepth 100000 in
set_option maxHeartbeats 4000000 in
theorem hturned_any (f : Nat → Nat) (c : Nat) (w : World) (hf : ∀ i, f i < 256) (hc : c < 256) :
    Calls Tryz.prog 39 #[.agg (bvals (tabN 64 f)), .int .u8 (c : Int)] w fun e w' => e = .returned (.string (turnB f c)) ∧ Below w.heap.size w w' := by
  have HF : Hid (∀ i, f i < 256) := hf
  have HC : Hid (c < 256) := hc
  clear hf hc
  go_enter Tryz.func39, Tryz.ntmps39
  go_wp2_with fail
  have V0 : Hid (Brr _ 48 w.heap.size (tabN 64 (trnN f c 0))) := Brr.cast (trnN_zero f c).symm <| Brr.new w 48 (tabN 64 f) _ rfl
  have V2 : Below w.heap.size w _ := below_new w (.cells (bvals (tabN 64 f)) 48)
  go_loopw [6] (fun i wr => ∃ k : Nat, k ≤ 64 ∧ i = .int .i64 k ∧ Hid (Brr wr 48 w.heap.size (tabN 64 (trnN f c k))) ∧ Below w.heap.size w wr) (fun i _ => 64 - (intOf i).toNat)
  case atStart => exact ⟨0, by omega, rfl, V0, V2⟩
  case round =>
    clear V0 V2
    obtain ⟨k, hk, rfl, V0, hbl⟩ := hrel
    by_cases hlt : k < 64
    · obtain ⟨X, hX⟩ : ∃ x, x = f k := ⟨_, rfl⟩
      have c0 := V0.out.cell k (by rw [tabN_length]; omega)
      rw [tabN_getD _ _ _ hlt, trnN_at, ← hX] at c0
      have hfr := V0.out.free k
      have HO := V0.out.set k (X ^^^ c)
      rw [hX, trnN_set, ← hX] at HO
      have hxr : bits .xor .u8 (X : Int) (c : Int) = ((X ^^^ c : Nat) : Int) := u8_xor_nat X c (by rw [hX]; exact HF.out k) HC.out
      have HO' : Hid (Brr _ 48 w.heap.size _) := HO
      have HBl := hbl.setCell (p := ⟨w.heap.size, k, none⟩) (by simp) (Value.int .u8 ((X ^^^ c : Nat) : Int))
      have b0 : (k : Int) < 64 := by omega
      clear HO hX V0
      go_wp2_with fail
      go_roundw
      case rel => exact ⟨k + 1, by omega, by go_num, HO', HBl⟩
      case measure => simp [intOf]; omega
    · have hk' : k = 64 := by omega
      subst hk'
      have hV := V0.out
      rw [trnN_all] at hV
      have hcv := Brr.conv (P := Tryz.prog) hV (fun i _ => xor_lt8 _ _ (HF.out i) HC.out) 35 9 Tryz.underlying35 Tryz.underlying5 Tryz.underlying9
      clear hV V0
      go_wp2_with fail
      go_ret
      exact ⟨rfl, hbl⟩

end Go.Proofs.YtglgppeloolbhaaGreatDoor

/- The chapter's example, computed by the kernel. -/
namespace Go.Proofs.YtglgppeloolbhaaGreatDoor
open Go.RowKit
set_option maxRecDepth 100000

end Go.Proofs.YtglgppeloolbhaaGreatDoor

namespace Go.Proofs.YtglgppeloolbhaaGreatDoor
open Go.RowKit
set_option maxRecDepth 100000
set_option linter.unusedSimpArgs false

theorem cut_bt (s : ByteArray) : tabN 64 (cutN (bt s) s.size) = tabN 64 (bt s) :=
  tabN_congr _ _ _ (fun i _ => by
    unfold cutN
    by_cases h : i < s.size
    · rw [if_pos h]
    · rw [if_neg h, bt_out s i (by omega)])

set_option maxRecDepth 100000 in
set_option maxHeartbeats 4000000 in
theorem keyBlock_short (K : ByteArray) (w : World) (hK : K.size ≤ 64) :
    Calls Tryz.prog 37 #[.string K] w fun e w' => e = .returned (.agg (bvals (tabN 64 (bt K)))) ∧ Below w.heap.size w w' := by
  have g0 : decide ((64 : Int) < (K.size : Int)) = false := by simp; omega
  go_enter Tryz.func37, Tryz.ntmps37
  go_wp2_with fail
  generalize hq : World.alloc (World.alloc w _) _ = W
  have A0 : Hid (Brr W 48 w.heap.size (tabN 64 (cutN (bt K) 0))) := by rw [← hq]; exact (Brr.new w 48 (tabN 64 (cutN (bt K) 0)) _ (by kernel_rfl)).alloc _
  have A1 : Hid (Brr W 48 (w.heap.size + 1) (tabN 64 (cutN (bt K) 0))) := by rw [← hq]; exact Brr.new' _ 48 (tabN 64 (cutN (bt K) 0)) _ (w.heap.size + 1) (by simp) (by kernel_rfl)
  have A2 : Below w.heap.size w W := by rw [← hq]; exact (below_new w _).alloc (by simp) _
  clear hq
  obtain ⟨g, hg⟩ : ∃ g, g = w.heap.size + 1 := ⟨_, rfl⟩
  rw [← hg] at A1 ⊢
  have hne : w.heap.size ≠ g := by omega
  have hgB : w.heap.size ≤ g := by omega
  clear hg
  go_loopw [12] (fun i wr => ∃ k : Nat, k ≤ K.size ∧ i = .int .i64 k ∧ Hid (Brr wr 48 w.heap.size (tabN 64 (cutN (bt K) 0))) ∧ Hid (Brr wr 48 g (tabN 64 (cutN (bt K) k))) ∧ Below w.heap.size w wr) (fun i _ => K.size - (intOf i).toNat)
  case atStart => exact ⟨0, by omega, rfl, A0, A1, A2⟩
  case round =>
    clear A0 A1 A2
    obtain ⟨k, hk, rfl, V0, V1, hbl⟩ := hrel
    by_cases hlt : k < K.size
    · have c1 := V1.out.cell k (by rw [tabN_length]; omega)
      have hfr := V1.out.free k
      have HO := V1.out.set k (bt K k)
      rw [cutN_set, ← bt_get K k hlt] at HO
      have V0' : Hid (Brr _ 48 w.heap.size _) := V0.out.other ⟨g, k, none⟩ hne (Value.int .u8 ((K[k].toNat : Nat) : Int))
      have HO' : Hid (Brr _ 48 g _) := HO
      have HBl := hbl.setCell (p := ⟨g, k, none⟩) hgB (Value.int .u8 ((K[k].toNat : Nat) : Int))
      have b0 : (k : Int) < 64 := by omega
      clear HO V0 V1
      go_wp2_with fail
      go_roundw
      case rel => exact ⟨k + 1, by omega, by go_num, V0', HO', HBl⟩
      case measure => simp [intOf]; omega
    · have hk' : k = K.size := by omega
      subst hk'
      have hV := V1.out
      rw [cut_bt] at hV
      have V1' : Hid (Brr wr 48 g (tabN 64 (bt K))) := hV
      clear hV V1
      go_wp2_with (first
        | (with_reducible refine wpList_loadBrr rfl 48 _ rfl g (tabN 64 (bt K)) ?hx V1'.out 64 5 Tryz.underlying48 ?hi ?_)
        | (with_reducible refine wpList_storeBrr rfl 48 _ _ rfl w.heap.size (tabN 64 (cutN (bt K) 0)) (tabN 64 (bt K)) ?hx2 ?hy V0.out ?hl ?hi2 ?_))
      case hx => rfl
      case hi => rw [tabN_length]; exact Tryz.brr64
      case hl => rw [tabN_length, tabN_length]
      case hi2 => rw [tabN_length]; exact Tryz.brr64
      exact bodyPost_brr rfl w.heap.size (tabN 64 (bt K)) rfl rfl (V0.out.setRow (tabN 64 (bt K))) 64 5 Tryz.underlying48 (by rw [tabN_length]; exact Tryz.brr64) ⟨rfl, below_setRow hbl (Nat.le_refl _) _⟩

set_option maxRecDepth 100000 in
set_option maxHeartbeats 4000000 in
theorem keyBlock_long (key : ByteArray) (w : World) (hk : 64 < key.size) (hs : key.size ≤ 65536) (hB : GlobB w) (hK : GlobK w) :
    Calls Tryz.prog 37 #[.string key] w fun e w' => e = .returned (.agg (bvals (tabN 64 (bt (ofN (sumN key)))))) ∧ Below w.heap.size w w' := by
  have g0 : decide ((64 : Int) < (key.size : Int)) = true := by simp; omega
  have C : Hid (∀ w, GlobB w → GlobK w → _) := fun w => sum_any key w hs
  have HB : Hid (GlobB w) := hB
  have HK : Hid (GlobK w) := hK
  have hKs := sumB_size key
  generalize ofN (sumN key) = K at *
  clear hB hK
  go_enter Tryz.func37, Tryz.ntmps37
  go_wp2_with fail
  generalize hq : World.alloc w _ = W0
  have a0 : Brr W0 48 w.heap.size (tabN 64 (cutN (bt K) 0)) := by rw [← hq]; exact Brr.new w 48 (tabN 64 (cutN (bt K) 0)) _ (by kernel_rfl)
  have hbn : Below w.heap.size w W0 := by rw [← hq]; exact below_new w _
  have hs0 : w.heap.size ≤ W0.heap.size := hbn.size
  clear hq
  refine (C.out _ (HB.out.below hbn) (HK.out.below hbn)).mono ?_
  rintro e w1 ⟨rfl, hb1⟩
  clear C
  have hB1 : Below w.heap.size w w1 := hbn.trans (hb1.mono hs0)
  have a1 : Brr w1 48 w.heap.size (tabN 64 (cutN (bt K) 0)) := a0.below hb1 a0.lt
  have hsz : w.heap.size < w1.heap.size := a1.lt
  clear a0 hbn hb1
  go_wp2_with fail
  generalize hq : World.alloc w1 _ = W
  have A0 : Hid (Brr W 48 w.heap.size (tabN 64 (cutN (bt K) 0))) := by rw [← hq]; exact a1.alloc _
  have A1 : Hid (Brr W 48 w1.heap.size (tabN 64 (cutN (bt K) 0))) := by rw [← hq]; exact Brr.new w1 48 (tabN 64 (cutN (bt K) 0)) _ (by kernel_rfl)
  have A2 : Below w.heap.size w W := by rw [← hq]; exact hB1.alloc (by omega) _
  clear hq
  obtain ⟨g, hg⟩ : ∃ g, g = w1.heap.size := ⟨_, rfl⟩
  rw [← hg] at A1 ⊢
  have hne : w.heap.size ≠ g := by omega
  have hgB : w.heap.size ≤ g := by omega
  clear hg a1 hB1 hsz
  go_loopw [12] (fun i wr => ∃ k : Nat, k ≤ K.size ∧ i = .int .i64 k ∧ Hid (Brr wr 48 w.heap.size (tabN 64 (cutN (bt K) 0))) ∧ Hid (Brr wr 48 g (tabN 64 (cutN (bt K) k))) ∧ Below w.heap.size w wr) (fun i _ => K.size - (intOf i).toNat)
  case atStart => exact ⟨0, by omega, rfl, A0, A1, A2⟩
  case round =>
    clear A0 A1 A2
    obtain ⟨k, hk, rfl, V0, V1, hbl⟩ := hrel
    by_cases hlt : k < K.size
    · have c1 := V1.out.cell k (by rw [tabN_length]; omega)
      have hfr := V1.out.free k
      have HO := V1.out.set k (bt K k)
      rw [cutN_set, ← bt_get K k hlt] at HO
      have V0' : Hid (Brr _ 48 w.heap.size _) := V0.out.other ⟨g, k, none⟩ hne (Value.int .u8 ((K[k].toNat : Nat) : Int))
      have HO' : Hid (Brr _ 48 g _) := HO
      have HBl := hbl.setCell (p := ⟨g, k, none⟩) hgB (Value.int .u8 ((K[k].toNat : Nat) : Int))
      have b0 : (k : Int) < 64 := by omega
      clear HO V0 V1
      go_wp2_with fail
      go_roundw
      case rel => exact ⟨k + 1, by omega, by go_num, V0', HO', HBl⟩
      case measure => simp [intOf]; omega
    · have hk' : k = K.size := by omega
      subst hk'
      have hV := V1.out
      rw [cut_bt] at hV
      have V1' : Hid (Brr wr 48 g (tabN 64 (bt K))) := hV
      clear hV V1
      go_wp2_with (first
        | (with_reducible refine wpList_loadBrr rfl 48 _ rfl g (tabN 64 (bt K)) ?hx V1'.out 64 5 Tryz.underlying48 ?hi ?_)
        | (with_reducible refine wpList_storeBrr rfl 48 _ _ rfl w.heap.size (tabN 64 (cutN (bt K) 0)) (tabN 64 (bt K)) ?hx2 ?hy V0.out ?hl ?hi2 ?_))
      case hx => rfl
      case hi => rw [tabN_length]; exact Tryz.brr64
      case hl => rw [tabN_length, tabN_length]
      case hi2 => rw [tabN_length]; exact Tryz.brr64
      exact bodyPost_brr rfl w.heap.size (tabN 64 (bt K)) rfl rfl (V0.out.setRow (tabN 64 (bt K))) 64 5 Tryz.underlying48 (by rw [tabN_length]; exact Tryz.brr64) ⟨rfl, below_setRow hbl (Nat.le_refl _) _⟩

theorem keyBlock_any (key : ByteArray) (w : World) (hs : key.size ≤ 65536) (hB : GlobB w) (hK : GlobK w) :
    Calls Tryz.prog 37 #[.string key] w fun e w' => e = .returned (.agg (bvals (tabN 64 (bt (keyOf key))))) ∧ Below w.heap.size w w' := by
  by_cases h : 64 < key.size
  · rw [keyOf_long key h]; exact keyBlock_long key w h hs hB hK
  · rw [keyOf_short key (by omega)]; exact keyBlock_short key w (by omega)

end Go.Proofs.YtglgppeloolbhaaGreatDoor

namespace Go.Proofs.YtglgppeloolbhaaGreatDoor
open Go.RowKit
set_option maxRecDepth 100000
set_option linter.unusedSimpArgs false

def blkL (f : Nat → Nat) (c : Nat) : List UInt8 := bytesOf 64 (fun i => f i ^^^ c)
theorem blkL_length (f : Nat → Nat) (c : Nat) : (blkL f c).length = 64 := bytesOf_length _ _
theorem blkL_get (f : Nat → Nat) (c : Nat) (hf : ∀ i, f i < 256) (hc : c < 256) (k : Nat) (hk : k < 64) (h : k < (nums (blkL f c)).length) : (nums (blkL f c))[k] = ((f k ^^^ c : Nat) : Int) := by
  have e : nums (blkL f c) = tab 64 (fun i => ((f i ^^^ c : Nat) : Int)) := nums_bytesOf _ _ (fun i _ => xor_lt8 _ _ (hf i) hc)
  simp only [e, tab_get _ _ k hk]

set_option maxRecDepth 100000 in
set_option maxHeartbeats 4000000 in
theorem rturned_short (K : ByteArray) (c : Nat) (w : World) (hK : K.size ≤ 64) (hc : c < 256) :
    Calls Tryz.prog 59 #[.string K, .int .u8 (c : Int)] w fun e w' => e = .returned (.string (turnB (bt K) c)) ∧ Below w.heap.size w w' := by
  have HC : Hid (c < 256) := hc
  clear hc
  have g0 : decide ((64 : Int) < (K.size : Int)) = false := by simp; omega
  obtain ⟨i0, hi, hz0, hz1, hz2⟩ := info_parts Tryz.info5
  have A2 := Below.refl w.heap.size w
  go_enter Tryz.func59, Tryz.ntmps59
  go_wp2_with fail
  go_loopw [5, 6] (fun v i wr => ∃ k : Nat, k ≤ 64 ∧ i = .int .i64 k ∧ OwnV wr w.heap.size 5 .u8 v k ((nums (blkL (bt K) c)).take k) ∧ Below w.heap.size w wr) (fun _ i _ => 64 - (intOf i).toNat)
  case atStart => exact ⟨0, Nat.zero_le _, rfl, OwnV.nil _ _ _ _, A2⟩
  case round =>
    clear A2
    obtain ⟨k, hk, rfl, hown, hbl⟩ := hrel
    have hsz := hbl.size
    by_cases hlt : k < 64
    · have hkn : k < (nums (blkL (bt K) c)).length := by rw [nums_length, blkL_length]; exact hlt
      by_cases hin : k < K.size
      · have hxr : bits .xor .u8 (K[k].toNat : Int) (c : Int) = ((K[k].toNat ^^^ c : Nat) : Int) := u8_xor_nat _ _ (byte_lt _) HC.out
        have hy : Hid ((nums (blkL (bt K) c))[k] = ((K[k].toNat ^^^ c : Nat) : Int)) := by show _ = _; rw [bt_get K k hin]; exact blkL_get _ _ (bt_lt K) HC.out k hlt hkn
        go_wp2_with (at_builtin; refine wpList_app1 rfl _ _ 35 rfl w.heap.size 5 i0 .u8 1 Tryz.underlying35 hi hz0 hz1 hz2 wr u5 k _ rfl hown _ rfl (by omega) (by omega) hsz ?_)
        intro v' w1 hown1 hbl1
        rw [take_snoc_int _ _ hkn _ hy.out] at hown1
        have HB := hbl.trans hbl1
        clear hbl1 hown
        go_wp2_with fail
        go_roundw
        case rel => exact ⟨k + 1, by omega, by go_num, hown1, HB⟩
        case measure => simp [intOf]; omega
      · have hxr : bits .xor .u8 (0 : Int) (c : Int) = (c : Int) := by
          have := u8_xor_nat 0 c (by omega) HC.out
          rw [Nat.zero_xor] at this; exact this
        have hy : Hid ((nums (blkL (bt K) c))[k] = (c : Int)) := by show _ = _; rw [blkL_get _ _ (bt_lt K) HC.out k hlt hkn, bt_out K k (by omega), Nat.zero_xor]
        go_wp2_with (at_builtin; refine wpList_app1 rfl _ _ 35 rfl w.heap.size 5 i0 .u8 1 Tryz.underlying35 hi hz0 hz1 hz2 wr u5 k _ rfl hown _ rfl (by omega) (by omega) hsz ?_)
        intro v' w1 hown1 hbl1
        rw [take_snoc_int _ _ hkn _ hy.out] at hown1
        have HB := hbl.trans hbl1
        clear hbl1 hown
        go_wp2_with fail
        go_roundw
        case rel => exact ⟨k + 1, by omega, by go_num, hown1, HB⟩
        case measure => simp [intOf]; omega
    · rw [List.take_of_length_le (by rw [nums_length, blkL_length]; omega)] at hown
      have hcv := own_conv (P := Tryz.prog) 35 9 hown Tryz.underlying35 Tryz.underlying5 Tryz.underlying9
      clear hown hi hz0 hz1 hz2
      go_wp2_with fail
      go_ret
      exact ⟨rfl, hbl⟩

set_option maxRecDepth 100000 in
set_option maxHeartbeats 4000000 in
theorem rturned_long (key : ByteArray) (c : Nat) (w : World) (hk : 64 < key.size) (hs : key.size ≤ 65536) (hc : c < 256) :
    Calls Tryz.prog 59 #[.string key, .int .u8 (c : Int)] w fun e w' => e = .returned (.string (turnB (bt (ofN (sumN key))) c)) ∧ Below w.heap.size w w' := by
  have HC : Hid (c < 256) := hc
  clear hc
  have g0 : decide ((64 : Int) < (key.size : Int)) = true := by simp; omega
  obtain ⟨i0, hi, hz0, hz1, hz2⟩ := info_parts Tryz.info5
  have C : Hid (∀ w, _) := fun w => rsum_any key w hs
  have hK := sumB_size key
  generalize ofN (sumN key) = K at *
  go_enter Tryz.func59, Tryz.ntmps59
  go_wp2_with fail
  refine (C.out _).mono ?_
  rintro e w1 ⟨rfl, A2⟩
  clear C
  go_wp2_with fail
  go_loopw [5, 6] (fun v i wr => ∃ k : Nat, k ≤ 64 ∧ i = .int .i64 k ∧ OwnV wr w.heap.size 5 .u8 v k ((nums (blkL (bt K) c)).take k) ∧ Below w.heap.size w wr) (fun _ i _ => 64 - (intOf i).toNat)
  case atStart => exact ⟨0, Nat.zero_le _, rfl, OwnV.nil _ _ _ _, A2⟩
  case round =>
    clear A2
    obtain ⟨k, hk, rfl, hown, hbl⟩ := hrel
    have hsz := hbl.size
    by_cases hlt : k < 64
    · have hkn : k < (nums (blkL (bt K) c)).length := by rw [nums_length, blkL_length]; exact hlt
      by_cases hin : k < K.size
      · have hxr : bits .xor .u8 (K[k].toNat : Int) (c : Int) = ((K[k].toNat ^^^ c : Nat) : Int) := u8_xor_nat _ _ (byte_lt _) HC.out
        have hy : Hid ((nums (blkL (bt K) c))[k] = ((K[k].toNat ^^^ c : Nat) : Int)) := by show _ = _; rw [bt_get K k hin]; exact blkL_get _ _ (bt_lt K) HC.out k hlt hkn
        go_wp2_with (at_builtin; refine wpList_app1 rfl _ _ 35 rfl w.heap.size 5 i0 .u8 1 Tryz.underlying35 hi hz0 hz1 hz2 wr u5 k _ rfl hown _ rfl (by omega) (by omega) hsz ?_)
        intro v' w1 hown1 hbl1
        rw [take_snoc_int _ _ hkn _ hy.out] at hown1
        have HB := hbl.trans hbl1
        clear hbl1 hown
        go_wp2_with fail
        go_roundw
        case rel => exact ⟨k + 1, by omega, by go_num, hown1, HB⟩
        case measure => simp [intOf]; omega
      · have hxr : bits .xor .u8 (0 : Int) (c : Int) = (c : Int) := by
          have := u8_xor_nat 0 c (by omega) HC.out
          rw [Nat.zero_xor] at this; exact this
        have hy : Hid ((nums (blkL (bt K) c))[k] = (c : Int)) := by show _ = _; rw [blkL_get _ _ (bt_lt K) HC.out k hlt hkn, bt_out K k (by omega), Nat.zero_xor]
        go_wp2_with (at_builtin; refine wpList_app1 rfl _ _ 35 rfl w.heap.size 5 i0 .u8 1 Tryz.underlying35 hi hz0 hz1 hz2 wr u5 k _ rfl hown _ rfl (by omega) (by omega) hsz ?_)
        intro v' w1 hown1 hbl1
        rw [take_snoc_int _ _ hkn _ hy.out] at hown1
        have HB := hbl.trans hbl1
        clear hbl1 hown
        go_wp2_with fail
        go_roundw
        case rel => exact ⟨k + 1, by omega, by go_num, hown1, HB⟩
        case measure => simp [intOf]; omega
    · rw [List.take_of_length_le (by rw [nums_length, blkL_length]; omega)] at hown
      have hcv := own_conv (P := Tryz.prog) 35 9 hown Tryz.underlying35 Tryz.underlying5 Tryz.underlying9
      clear hown hi hz0 hz1 hz2
      go_wp2_with fail
      go_ret
      exact ⟨rfl, hbl⟩

theorem rturned_any (key : ByteArray) (c : Nat) (w : World) (hs : key.size ≤ 65536) (hc : c < 256) :
    Calls Tryz.prog 59 #[.string key, .int .u8 (c : Int)] w fun e w' => e = .returned (.string (turnB (bt (keyOf key)) c)) ∧ Below w.heap.size w w' := by
  by_cases h : 64 < key.size
  · rw [keyOf_long key h]; exact rturned_long key c w h hs hc
  · rw [keyOf_short key (by omega)]; exact rturned_short key c w (by omega) hc

end Go.Proofs.YtglgppeloolbhaaGreatDoor

namespace Go.Proofs.YtglgppeloolbhaaGreatDoor
open Go.RowKit
set_option maxRecDepth 100000
set_option linter.unusedSimpArgs false

theorem exec_loadBrr {P : Program} {o : Oper} {ρ : Operand → Value} {w : World} (t : TypeId) (x : Operand) (ho : o.op = .load t x) (g : Nat) (l : List Nat) (hx : ρ x = .pointer (some ⟨g, 0, none⟩)) (h : Brr w t g l)
    (n : Nat) (e : TypeId) (hu : P.underlying t = some (.array n e)) (hi : (P.info? t).map (·.size) = some l.length) : (execOp ρ o).run P w = .ok (.value (.agg (bvals l))) w := by
  unfold execOp
  simp only [ho, hx, Instr.loadAt, Instr.sureAddr, Sem.run_bind, Sem.run_pure, Result.andThen_ok, run_loadBrr t g l h n e hu hi]

set_option maxRecDepth 100000 in
set_option maxHeartbeats 4000000 in
theorem mac_any (key s : ByteArray) (w : World) (hk : key.size ≤ 65536) (hs : s.size ≤ 65472) (hB : GlobB w) (hK : GlobK w) :
    Calls Tryz.prog 20 #[.string key, .string s] w fun e w' => e = .returned (.string (macB key s)) ∧ Below w.heap.size w w' := by
  have HB : Hid (GlobB w) := hB
  have HK : Hid (GlobK w) := hK
  have C0 : Hid (Calls _ _ _ _ _) := keyBlock_any key w hk hB hK
  obtain ⟨f, Hf⟩ : ∃ f, Hid (f = bt (keyOf key)) := ⟨_, rfl⟩
  have hf : Hid (∀ i, f i < 256) := by show ∀ i, _; rw [Hf.out]; exact bt_lt _
  rw [← Hf.out] at C0
  have C1 : Hid (∀ w, _) := fun w => hturned_any f 92 w hf.out (by decide)
  have C2 : Hid (∀ w, _) := fun w => hturned_any f 54 w hf.out (by decide)
  obtain ⟨A, HA⟩ : ∃ A, Hid (A = turnB f 92) := ⟨_, rfl⟩
  obtain ⟨I, HI⟩ : ∃ I, Hid (I = turnB f 54) := ⟨_, rfl⟩
  have hAs : A.size = 64 := by rw [HA.out]; exact turnB_size _ _
  have hIs : I.size = 64 := by rw [HI.out]; exact turnB_size _ _
  rw [← HA.out] at C1
  rw [← HI.out] at C2
  obtain ⟨M, HM⟩ : ∃ M, Hid (M = ofN (sumN (I ++ s))) := ⟨_, rfl⟩
  have hMs : M.size = 32 := by rw [HM.out]; exact sumB_size _
  have C3 : Hid (∀ w, GlobB w → GlobK w → _) := fun w => sum_any (I ++ s) w (by rw [ByteArray.size_append]; omega)
  have C4 : Hid (∀ w, GlobB w → GlobK w → _) := fun w => sum_any (A ++ M) w (by rw [ByteArray.size_append]; omega)
  rw [← HM.out] at C3
  have HZ : Hid (macB key s = ofN (sumN (A ++ M))) := by show _ = _; rw [HM.out, HA.out, HI.out, Hf.out]; rfl
  obtain ⟨Z, hZ⟩ : ∃ Z, Z = ofN (sumN (A ++ M)) := ⟨_, rfl⟩
  rw [← hZ] at C4 HZ
  have hsum1 : ¬ (9223372036854775807 < I.size + s.size) := by omega
  have hsum2 : ¬ (9223372036854775807 < A.size + M.size) := by omega
  clear hB hK hZ HA HI HM Hf hf hAs hIs hMs
  go_enter Tryz.func20, Tryz.ntmps20
  go_wp2_with fail
  refine C0.out.mono ?_
  rintro e w1 ⟨rfl, hb1⟩
  clear C0
  go_wp2_with (with_reducible refine wpList_storeBrr rfl 48 _ _ rfl w1.heap.size (tabN 64 (cutN f 0)) (tabN 64 f) ?hx ?hy ?ha ?hl ?hi ?_)
  case hx => rfl
  case hy => rfl
  case ha => exact Brr.new w1 _ _ _ (by kernel_rfl)
  case hl => rw [tabN_length, tabN_length]
  case hi => rw [tabN_length]; exact Tryz.brr64
  rw [World.setRow_alloc_new]
  simp only [Act.put]
  generalize hq : World.alloc w1 _ = w2
  have V0 : Brr w2 48 w1.heap.size (tabN 64 f) := by rw [← hq]; exact Brr.new w1 48 _ _ rfl
  have hB2 : Hid (Below w.heap.size w w2) := by rw [← hq]; exact hb1.alloc hb1.size _
  have hg2 : w1.heap.size < w2.heap.size := V0.lt
  clear hq
  obtain ⟨g, hg⟩ : ∃ g, g = w1.heap.size := ⟨_, rfl⟩
  rw [← hg] at V0 hg2 ⊢
  clear hb1 hg
  go_wp2_with fail
  refine wp_region_noPanic ?_
  refine wp_region_held_drew (S := fun w' => Brr w' 48 g (tabN 64 f)) (by kernel_rfl) (by first | exact trivial | assumption | exact ⟨by assumption, by assumption⟩) (fun hHeld => ?_)
  refine take_at (i := 0) (v := .agg (bvals (tabN 64 f))) rfl rfl (by kernel_rfl) (by kernel_rfl) (by kernel_rfl) (fun _ _ _ h => h) (Or.inl ⟨by rfl, ?_⟩) (by assumption) ?_
  · intro w' hSw
    exact exec_loadBrr 48 _ rfl g (tabN 64 f) rfl hSw 64 5 Tryz.underlying48 (by rw [tabN_length]; exact Tryz.brr64)
  try simp only [Act.put, List.setIfInBounds_toArray, List.set_cons_zero, List.set_cons_succ]
  refine take_at (i := 2) (v := .agg (bvals (tabN 64 f))) rfl rfl (by kernel_rfl) (by kernel_rfl) (by kernel_rfl) (fun _ _ _ h => h) (Or.inl ⟨by rfl, ?_⟩) (by assumption) ?_
  · intro w' hSw
    exact exec_loadBrr 48 _ rfl g (tabN 64 f) rfl hSw 64 5 Tryz.underlying48 (by rw [tabN_length]; exact Tryz.brr64)
  try simp only [Act.put, List.setIfInBounds_toArray, List.set_cons_zero, List.set_cons_succ]
  refine take_at (i := 4) (v := ?_) rfl rfl (by kernel_rfl) (by kernel_rfl) (by kernel_rfl) (fun _ _ _ h => h) (Or.inl ⟨by rfl, ?_⟩) (by assumption) ?_
  rotate_left
  · intro w hSw; (try dsimp only at hSw); go_simp; try with_reducible rfl
  try simp only [Act.put, List.setIfInBounds_toArray, List.set_cons_zero, List.set_cons_succ]
  refine wpAnyH_ready (rs := [1]) (by kernel_rfl) (by simp) ?_
  refine AllReadyH.cons rfl (fun K hK => ?_) AllReadyH.nil
  go_simp
  refine (C1.out _).mono ?_
  rintro e w3 ⟨rfl, hb3⟩
  have V3 : Brr w3 48 g (tabN 64 f) := Brr.below (w := w2.drew) V0 hb3 hg2
  have hB3 : Hid (Below w.heap.size w w3) := below_step hB2.out.drew (Nat.le_refl _) hb3
  have hg3 : g < w3.heap.size := V3.lt
  clear hb3 C1
  refine hK.out _ _ V3 (fun hHeld => ?_)
  clear hK K
  refine wpAnyH_ready (rs := [3]) (by kernel_rfl) (by simp) ?_
  refine AllReadyH.cons rfl (fun K hK => ?_) AllReadyH.nil
  go_simp
  refine (C2.out _).mono ?_
  rintro e w4 ⟨rfl, hb4⟩
  have V4 := V3.below hb4 hg3
  have hB4 : Hid (Below w.heap.size w w4) := below_step hB3.out (Nat.le_refl _) hb4
  have hg4 : g < w4.heap.size := V4.lt
  clear hb4 C2 V3 hB3 hg3 V0 hB2 hg2
  refine hK.out _ _ V4 (fun hHeld => ?_)
  clear hK K
  refine take_at (i := 5) (v := ?_) rfl rfl (by kernel_rfl) (by kernel_rfl) (by kernel_rfl) (fun _ _ _ h => h) (Or.inl ⟨by rfl, ?_⟩) (by assumption) ?_
  rotate_left
  · intro w hSw; (try dsimp only at hSw); go_simp; try with_reducible rfl
  try simp only [Act.put, List.setIfInBounds_toArray, List.set_cons_zero, List.set_cons_succ]
  refine wpAnyH_ready (rs := [6]) (by kernel_rfl) (by simp) ?_
  refine AllReadyH.cons rfl (fun K hK => ?_) AllReadyH.nil
  go_simp
  refine (C3.out _ (HB.out.below hB4.out) (HK.out.below hB4.out)).mono ?_
  rintro e w5 ⟨rfl, hb5⟩
  have V5 := V4.below hb5 hg4
  have hB5 : Hid (Below w.heap.size w w5) := below_step hB4.out (Nat.le_refl _) hb5
  have hg5 : g < w5.heap.size := V5.lt
  clear hb5 C3 V4 hB4 hg4
  refine hK.out _ _ V5 (fun hHeld => ?_)
  clear hK K
  refine take_at (i := 7) (v := ?_) rfl rfl (by kernel_rfl) (by kernel_rfl) (by kernel_rfl) (fun _ _ _ h => h) (Or.inl ⟨by rfl, ?_⟩) (by assumption) ?_
  rotate_left
  · intro w hSw; (try dsimp only at hSw); go_simp; try with_reducible rfl
  try simp only [Act.put, List.setIfInBounds_toArray, List.set_cons_zero, List.set_cons_succ]
  refine wpAnyH_ready (rs := [8]) (by kernel_rfl) (by simp) ?_
  refine AllReadyH.cons rfl (fun K hK => ?_) AllReadyH.nil
  go_simp
  refine (C4.out _ (HB.out.below hB5.out) (HK.out.below hB5.out)).mono ?_
  rintro e w6 ⟨rfl, hb6⟩
  have V6 := V5.below hb6 hg5
  have hB6 : Hid (Below w.heap.size w w6) := below_step hB5.out (Nat.le_refl _) hb6
  clear hb6 C4 V5 hB5 hg5
  refine hK.out _ _ V6 (fun hHeld => ?_)
  clear hK K
  refine take_at (i := 9) (v := ?_) rfl rfl (by kernel_rfl) (by kernel_rfl) (by kernel_rfl) (fun _ _ _ h => h) (Or.inl ⟨by rfl, ?_⟩) (by assumption) ?_
  rotate_left
  · intro w hSw; (try dsimp only at hSw); go_simp; try with_reducible rfl
  try simp only [Act.put, List.setIfInBounds_toArray, List.set_cons_zero, List.set_cons_succ]
  refine wpAnyH_done (by kernel_rfl) (NoPanic.normal ?_) _
  go_wp2_with fail
  go_ret
  exact ⟨by rw [HZ.out]; rfl, hB6.out⟩

set_option maxRecDepth 100000 in
set_option maxHeartbeats 4000000 in
theorem rmac_any (key s : ByteArray) (w : World) (hk : key.size ≤ 65536) (hs : s.size ≤ 65472) :
    Calls Tryz.prog 36 #[.string key, .string s] w fun e w' => e = .returned (.string (macB key s)) ∧ Below w.heap.size w w' := by
  have C1 : Hid (∀ w, _) := fun w => rturned_any key 92 w hk (by decide)
  have C2 : Hid (∀ w, _) := fun w => rturned_any key 54 w hk (by decide)
  obtain ⟨A, HA⟩ : ∃ A, Hid (A = turnB (bt (keyOf key)) 92) := ⟨_, rfl⟩
  obtain ⟨I, HI⟩ : ∃ I, Hid (I = turnB (bt (keyOf key)) 54) := ⟨_, rfl⟩
  have hAs : A.size = 64 := by rw [HA.out]; exact turnB_size _ _
  have hIs : I.size = 64 := by rw [HI.out]; exact turnB_size _ _
  rw [← HA.out] at C1
  rw [← HI.out] at C2
  obtain ⟨M, HM⟩ : ∃ M, Hid (M = ofN (sumN (I ++ s))) := ⟨_, rfl⟩
  have hMs : M.size = 32 := by rw [HM.out]; exact sumB_size _
  have C3 : Hid (∀ w, _) := fun w => rsum_any (I ++ s) w (by rw [ByteArray.size_append]; omega)
  have C4 : Hid (∀ w, _) := fun w => rsum_any (A ++ M) w (by rw [ByteArray.size_append]; omega)
  rw [← HM.out] at C3
  have HZ : Hid (macB key s = ofN (sumN (A ++ M))) := by show _ = _; rw [HM.out, HA.out, HI.out]; rfl
  obtain ⟨Z, hZ⟩ : ∃ Z, Z = ofN (sumN (A ++ M)) := ⟨_, rfl⟩
  rw [← hZ] at C4 HZ
  have hsum1 : ¬ (9223372036854775807 < I.size + s.size) := by omega
  have hsum2 : ¬ (9223372036854775807 < A.size + M.size) := by omega
  clear hZ HA HI HM hAs hIs hMs
  go_enter Tryz.func36, Tryz.ntmps36
  go_wp2_with fail
  refine (C1.out _).mono ?_
  rintro e w1 ⟨rfl, hb1⟩
  go_wp2_with fail
  refine (C2.out _).mono ?_
  rintro e w2 ⟨rfl, hb2⟩
  have hB2 := below_step hb1 (Nat.le_refl _) hb2
  go_wp2_with fail
  refine (C3.out _).mono ?_
  rintro e w3 ⟨rfl, hb3⟩
  have hB3 := below_step hB2 (Nat.le_refl _) hb3
  go_wp2_with fail
  refine (C4.out _).mono ?_
  rintro e w4 ⟨rfl, hb4⟩
  have hB4 := below_step hB3 (Nat.le_refl _) hb4
  go_wp2_with fail
  go_ret
  exact ⟨by rw [HZ.out]; rfl, hB4⟩

end Go.Proofs.YtglgppeloolbhaaGreatDoor
