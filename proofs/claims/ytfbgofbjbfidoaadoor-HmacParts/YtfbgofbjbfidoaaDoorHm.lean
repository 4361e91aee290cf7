/- A key's block, and the block turned into a byte: plain facts and the landed functions. -/
import Derived.Test.YtfbgofbjbfidoaaDoorArr8
namespace Go.Proofs.YtfbgofbjbfidoaaDoor
open Go.RowKit
set_option linter.unusedSimpArgs false

theorem Brr.new' (w : World) (t : TypeId) (l : List Nat) (c : Array Value) (g : Nat) (hg : w.heap.size = g) (hc : c = bvals l) : Brr (w.alloc (.cells c t)) t g l := by
  subst hg; exact Brr.new w t l c hc
theorem Tryd.brr64 : (Tryd.prog.info? 31).map (·.size) = some 64 := by kernel_rfl
theorem u8_xor_nat (a b : Nat) (ha : a < 256) (hb : b < 256) : bits .xor .u8 (a : Int) (b : Int) = ((a ^^^ b : Nat) : Int) := by
  have h := bits_xor_byte (UInt8.ofNat a) (UInt8.ofNat b)
  have e1 : (UInt8.ofNat a).toNat = a := by simp [Nat.mod_eq_of_lt ha]
  have e2 : (UInt8.ofNat b).toNat = b := by simp [Nat.mod_eq_of_lt hb]
  rw [UInt8.toNat_xor, e1, e2] at h
  exact h
theorem xor_lt8 (a b : Nat) (ha : a < 256) (hb : b < 256) : a ^^^ b < 256 := Nat.xor_lt_two_pow (n := 8) ha hb
theorem bt_out (s : ByteArray) (j : Nat) (h : s.size ≤ j) : bt s j = 0 := by
  rw [bt_eq, Array.getElem?_eq_none h]; rfl
theorem Brr.conv {P : Program} {w : World} {t : TypeId} {g n : Nat} {f : Nat → Nat} {e : TypeId} (h : Brr w t g (tabN n f)) (hf : ∀ i, i < n → f i < 256) (src dst : TypeId)
    (hs : P.underlying src = some (.slice e)) (he : P.underlying e = some (.int .u8)) (hd : P.underlying dst = some .string) :
    (convert src dst (.slice (some ⟨g, 0, none⟩) n n)).run P w = .ok (.string ⟨(bytesOf n f).toArray⟩) w := by
  rw [← str_nums, nums_bytesOf n f hf]
  exact run_convert_bytes_arg w src e hs he g 0 n n (tab n fun i => (f i : Int)) (tab_length _ _) (fun i hi => by rw [Nat.zero_add, tab_getD _ _ _ hi, h.cell i (by rw [tabN_length]; exact hi), tabN_getD _ _ _ hi]) dst hd

/-- A block turned into a byte; the key that counts; the sum under a key. -/
def turnB (f : Nat → Nat) (c : Nat) : ByteArray := ⟨(bytesOf 64 (fun i => f i ^^^ c)).toArray⟩
def keyOf (key : ByteArray) : ByteArray := if 64 < key.size then ofN (sumN key) else key
def macB (key s : ByteArray) : ByteArray := ofN (sumN (turnB (bt (keyOf key)) 92 ++ ofN (sumN (turnB (bt (keyOf key)) 54 ++ s))))
theorem turnB_size (f : Nat → Nat) (c : Nat) : (turnB f c).size = 64 := by
  show (bytesOf 64 _).toArray.size = 64
  rw [List.size_toArray, bytesOf_length]
theorem turnB_congr (f g : Nat → Nat) (c : Nat) (h : ∀ i, i < 64 → f i = g i) : turnB f c = turnB g c := by
  unfold turnB bytesOf
  rw [List.map_congr_left (g := fun i => UInt8.ofNat (g i ^^^ c)) (fun i hi => by simp only [h i (List.mem_range.1 hi)])]
theorem sumB_size (s : ByteArray) : (ofN (sumN s)).size = 32 := ofN_size _ (foldN_length _ _ rfl _)
theorem keyOf_size (key : ByteArray) : (keyOf key).size ≤ 64 := by
  unfold keyOf
  by_cases h : 64 < key.size
  · rw [if_pos h, sumB_size]; omega
  · rw [if_neg h]; omega
theorem keyOf_long (key : ByteArray) (h : 64 < key.size) : keyOf key = ofN (sumN key) := if_pos h
theorem keyOf_short (key : ByteArray) (h : key.size ≤ 64) : keyOf key = key := if_neg (by omega)
theorem macB_size (key s : ByteArray) : (macB key s).size = 32 := sumB_size _

/-- A block of which the first k bytes are turned. -/
def trnN (f : Nat → Nat) (c k j : Nat) : Nat := if j < k then f j ^^^ c else f j
theorem trnN_zero (f : Nat → Nat) (c : Nat) : tabN 64 (trnN f c 0) = tabN 64 f := tabN_congr _ _ _ (fun i _ => by unfold trnN; rw [if_neg (by omega)])
theorem trnN_at (f : Nat → Nat) (c k : Nat) : trnN f c k k = f k := by unfold trnN; rw [if_neg (by omega)]
theorem trnN_set (f : Nat → Nat) (c k : Nat) : (tabN 64 (trnN f c k)).set k (f k ^^^ c) = tabN 64 (trnN f c (k + 1)) := by
  refine tabN_set _ _ _ _ _ (by unfold trnN; rw [if_pos (by omega)]) (fun i _ hne => ?_)
  unfold trnN
  by_cases h : i < k
  · rw [if_pos h, if_pos (by omega)]
  · rw [if_neg h, if_neg (by omega)]
theorem trnN_all (f : Nat → Nat) (c : Nat) : tabN 64 (trnN f c 64) = tabN 64 (fun i => f i ^^^ c) := tabN_congr _ _ _ (fun i hi => by unfold trnN; rw [if_pos hi])

set_option maxRecDepth 100000 in
set_option maxHeartbeats 4000000 in
theorem turned_any (f : Nat → Nat) (c : Nat) (w : World) (hf : ∀ i, f i < 256) (hc : c < 256) :
    Calls Tryd.prog 14 #[.agg (bvals (tabN 64 f)), .int .u8 (c : Int)] w fun e w' => e = .returned (.string (turnB f c)) ∧ Below w.heap.size w w' := by
  have HF : Hid (∀ i, f i < 256) := hf
  have HC : Hid (c < 256) := hc
  clear hf hc
  go_enter Tryd.func14, Tryd.ntmps14
  go_wp2_with fail
  have V0 : Hid (Brr _ 31 w.heap.size (tabN 64 (trnN f c 0))) := Brr.cast (trnN_zero f c).symm <| Brr.new w 31 (tabN 64 f) _ rfl
  have V2 : Below w.heap.size w _ := below_new w (.cells (bvals (tabN 64 f)) 31)
  go_loopw [6] (fun i wr => ∃ k : Nat, k ≤ 64 ∧ i = .int .i64 k ∧ Hid (Brr wr 31 w.heap.size (tabN 64 (trnN f c k))) ∧ Below w.heap.size w wr) (fun i _ => 64 - (intOf i).toNat)
  case atStart => exact ⟨0, by omega, rfl, V0, V2⟩
  case round =>
    clear V0 V2
    obtain ⟨k, hk, rfl, V0, hbl⟩ := hrel
    by_cases hlt : k < 64
    · obtain ⟨X, hX⟩ : ∃ x, x = f k := ⟨_, rfl⟩
      have c0 := V0.out.cell k (by rw [tabN_length]; omega)
      rw [tabN_getD _ _ _ hlt, trnN_at, ← hX] at c0
      have hfr := V0.out.free k
      have HO := V0.out.set k (X ^^^ c)
      rw [hX, trnN_set, ← hX] at HO
      have hxr : bits .xor .u8 (X : Int) (c : Int) = ((X ^^^ c : Nat) : Int) := u8_xor_nat X c (by rw [hX]; exact HF.out k) HC.out
      have HO' : Hid (Brr _ 31 w.heap.size _) := HO
      have HBl := hbl.setCell (p := ⟨w.heap.size, k, none⟩) (by simp) (Value.int .u8 ((X ^^^ c : Nat) : Int))
      have b0 : (k : Int) < 64 := by omega
      clear HO hX V0
      go_wp2_with fail
      go_roundw
      case rel => exact ⟨k + 1, by omega, by go_num, HO', HBl⟩
      case measure => simp [intOf]; omega
    · have hk' : k = 64 := by omega
      subst hk'
      have hV := V0.out
      rw [trnN_all] at hV
      have hcv := Brr.conv (P := Tryd.prog) hV (fun i _ => xor_lt8 _ _ (HF.out i) HC.out) 26 9 Tryd.underlying26 Tryd.underlying5 Tryd.underlying9
      clear hV V0
      go_wp2_with fail
      go_ret
      exact ⟨rfl, hbl⟩

end Go.Proofs.YtfbgofbjbfidoaaDoor
