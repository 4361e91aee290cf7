/- The program's read, put. -/
import Derived.Test.YtmegllddjlippaaDoorPyD
namespace Go.Proofs.YtmegllddjlippaaDoor
open Go.RowKit
set_option linter.unusedSimpArgs false

theorem bt_past (s : ByteArray) (j : Nat) (h : s.size ≤ j) : bt s j = 0 := by
  rw [bt_eq, Array.getElem?_eq_none h]; rfl
section
variable {P : Program} {ops : Array Oper} {rest : List Oper} {o : Oper} {a : Act} {w : World} {Q : Exit → Act → World → Prop}
/-- A text copied to the head of an array of noughts. -/
theorem run_copyB (dT sT ty elem : TypeId) (g n c : Nat) (s : ByteArray) (cur : Array Value) (t : TypeId)
    (hu : P.underlying dT = some (.slice elem)) (hs : (P.info? elem).map (·.size) = some 1) (hg : Blk w t g cur) (hle : s.size ≤ n) (hfit : s.size ≤ cur.size) :
    (Builtin.copy_ #[dT, sT] ty #[.slice (some ⟨g, 0, none⟩) n c, .string s]).run P w = .ok (goInt s.size) (w.setRow g (Lib.strCells s ++ cur.toList.drop s.size).toArray) := by
  have hlen : (Lib.strCells s).length = s.size := Lib.strCells_length s
  have hst := run_storeCells_at P g 0 t (Lib.strCells s) 0 cur w hg (by rw [hlen]; omega) (by
    intro v hv
    unfold Lib.strCells at hv
    obtain ⟨x, _, rfl⟩ := List.mem_map.1 hv
    rfl)
  rw [hlen] at hst
  simp only [Nat.add_zero, Nat.zero_add, List.take_zero, List.nil_append] at hst
  have hmin : Nat.min s.size n = s.size := Nat.min_eq_left hle
  have htk : List.take s.size (List.map (fun b : UInt8 => Value.int IntKind.u8 (b.toNat : Int)) s.data.toList) = Lib.strCells s := by
    rw [List.take_of_length_le (by rw [List.length_map, Array.length_toList]; exact Nat.le_refl _)]
    rfl
  cases hq : P.info? elem with
  | none => simp [hq] at hs
  | some i =>
    simp [Builtin.copy_, run_underlying hu, Builtin.lenOf, Builtin.firstCells, sizeOf, typeInfo, hq, hmin]
    rw [htk, hst]
    simp [Result.andThen]
theorem run_copy20 (dT sT ty elem : TypeId) (g n c : Nat) (s : ByteArray) (cur : Array Value) (t : TypeId)
    (hu : P.underlying dT = some (.slice elem)) (hsz : (P.info? elem).map (·.size) = some 1) (hg : Blk w t g cur) (hn : cur.size = n) (hz : ∀ j, j < n → cur[j]? = some (.int .u8 0)) (hle : s.size ≤ n) :
    ∃ cs, (Builtin.copy_ #[dT, sT] ty #[.slice (some ⟨g, 0, none⟩) n c, .string s]).run P w = .ok (goInt s.size) (w.setRow g cs) ∧ Row8 (w.setRow g cs) g n (bt s) := by
  refine ⟨_, run_copyB dT sT ty elem g n c s cur t hu hsz hg hle (by omega), ⟨_, t, (0, 0), setRow_heap w g _ _ t (0, 0) hg, Or.inr rfl, fun j hj => ?_⟩⟩
  rw [List.getElem?_toArray]
  by_cases h1 : j < s.size
  · rw [List.getElem?_append_left (by rw [Lib.strCells_length]; exact h1), strCells_bt s j h1]
  · rw [List.getElem?_append_right (by rw [Lib.strCells_length]; omega), Lib.strCells_length, List.getElem?_drop, show s.size + (j - s.size) = j by omega, Array.getElem?_toList, hz j hj, bt_past s j (by omega)]; rfl
end

/-! ### Limbs out of bytes. -/
theorem valF_past (f : Nat → Nat) (n k : Nat) (h : ∀ j, n ≤ j → f j = 0) : valF f (n + k) = valF f n := by
  induction k with
  | zero => rfl
  | succ k ih => show valF f (n + k) + f (n + k) * _ = _; rw [ih, h _ (by omega)]; omega
theorem dig_of (f : Nat → Nat) (n i : Nat) (h : ∀ i, i < n → f i < 256) (hi : i < n) : f i = valF f n / 256 ^ i % 256 := by
  have hl : ∀ j, (tabN n f).getD j 0 < 256 := fun j => by
    by_cases hj : j < n
    · rw [tabN_getD _ _ _ hj]; exact h j hj
    · rw [getD_none _ _ (by rw [tabN_length]; omega)]; decide
  have h1 := carried_digit (tabN n f) i
  rw [carry_none _ hl, Nat.zero_add, tabN_getD _ _ _ hi, valL_tabN, Nat.mod_eq_of_lt (h i hi)] at h1
  exact h1
theorem four_digits (v i : Nat) : v / 256 ^ (4 * i + 3) % 256 * 16777216 + v / 256 ^ (4 * i + 2) % 256 * 65536 + v / 256 ^ (4 * i + 1) % 256 * 256 + v / 256 ^ (4 * i) % 256 = v / 4294967296 ^ i % 4294967296 := by
  have e0 : (256 : Nat) ^ (4 * i) = 4294967296 ^ i := by rw [Nat.pow_mul]
  have e : ∀ k, v / 256 ^ (4 * i + k) = v / 4294967296 ^ i / 256 ^ k := fun k => by rw [Nat.pow_add, ← Nat.div_div_eq_div_mul, e0]
  rw [e 3, e 2, e 1, e0]
  generalize v / 4294967296 ^ i = x
  omega
theorem numB_20 (s : ByteArray) (hs : s.size ≤ 20) : valF (bt s) 20 = numB s := by
  have := valF_past (bt s) s.size (20 - s.size) (fun j hj => bt_past s j hj)
  rw [show s.size + (20 - s.size) = 20 by omega] at this
  exact this
/-- Twenty bytes, the text first. -/
def padB20 (s : ByteArray) : ByteArray := ⟨(bytesOf 20 (bt s)).toArray⟩
theorem padB20_size (s : ByteArray) : (padB20 s).size = 20 := by
  show (bytesOf 20 _).toArray.size = 20
  rw [List.size_toArray, bytesOf_length]
theorem bt_padB20 (s : ByteArray) (j : Nat) (hj : j < 20) : bt (padB20 s) j = bt s j := bt_bytesOf 20 _ j hj (bt_lt s j)
theorem words_lim (s : ByteArray) (hs : s.size ≤ 20) (i : Nat) (hi : i < 5) : wAt (padB20 s) ssh (padB20 s).size i = limF (numB s) i := by
  rw [wAt_small _ i (by rw [padB20_size]; omega), bigW_sum _ _ _ _ (bt_lt _ _) (bt_lt _ _) (bt_lt _ _), bt_padB20 _ _ (by omega), bt_padB20 _ _ (by omega), bt_padB20 _ _ (by omega), bt_padB20 _ _ (by omega)]
  rw [dig_of (bt s) 20 (4 * i + 3) (fun i _ => bt_lt s i) (by omega), dig_of (bt s) 20 (4 * i + 2) (fun i _ => bt_lt s i) (by omega), dig_of (bt s) 20 (4 * i + 1) (fun i _ => bt_lt s i) (by omega), dig_of (bt s) 20 (4 * i) (fun i _ => bt_lt s i) (by omega)]
  have hv := valF_lt (bt s) 20 (fun i _ => bt_lt s i)
  rw [numB_20 s hs] at hv
  rw [numB_20 s hs, four_digits]
  unfold limF
  by_cases h4 : i < 4
  · rw [if_pos h4]
  · rw [if_neg h4, show i = 4 by omega]
    exact Nat.mod_eq_of_lt (Nat.div_lt_of_lt_mul hv)
theorem wordsL_lim (s : ByteArray) (hs : s.size ≤ 20) : wordsL (padB20 s) ssh = wT (limF (numB s)) 5 := by
  unfold wordsL wT
  rw [padB20_size]
  refine tab_congr _ _ _ (fun i hi => ?_)
  have := words_lim s hs i hi
  rw [padB20_size] at this
  rw [this]
theorem limF_word (s : ByteArray) (hs : s.size ≤ 20) (i : Nat) (hi : i < 5) : limF (numB s) i < 4294967296 := by
  rw [← words_lim s hs i hi]; exact wAt_lt _ _ ssh_le _ _

theorem Tryd.size1 : (Tryd.prog.info? 5).map (·.size) = some 1 := by kernel_rfl
def z20 : Array Value := (List.replicate 20 (Value.int .u8 0)).toArray

set_option maxRecDepth 100000 in
set_option maxHeartbeats 4000000 in
theorem read_any (s : ByteArray) (w : World) (hs : s.size ≤ 20) :
    Calls Tryd.prog 15 #[.string s] w fun e w' => e = .returned (.agg (v64 (limN (numB s)))) ∧ Below w.heap.size w w' := by
  obtain ⟨D, HD⟩ : ∃ D, Hid (D = padB20 s) := ⟨_, rfl⟩
  have hD : D.size = 20 := by rw [HD.out]; exact padB20_size s
  obtain ⟨f, Hf⟩ : ∃ f, Hid (f = limF (numB s)) := ⟨_, rfl⟩
  have HW : Hid (wordsL D ssh = wT f 5) := by show _ = _; rw [HD.out, Hf.out]; exact wordsL_lim s hs
  have HL : Hid (∀ i, i < 5 → f i < 4294967296) := by show ∀ i, _; rw [Hf.out]; exact limF_word s hs
  obtain ⟨E, HE⟩ : ∃ E, Hid (E = limN (numB s)) := ⟨_, rfl⟩
  have hE5 : E.length = 5 := by rw [HE.out]; exact limN_length _
  have HEf : Hid (tabN 5 f = E) := by show _ = _; rw [HE.out, Hf.out]; rfl
  have CS : Hid (∀ w, _) := fun w => small_even D w (by omega) (by omega)
  rw [← HE.out]
  have HDs : Hid ((⟨(bytesOf 20 (bt s)).toArray⟩ : ByteArray) = D) := by show _ = _; rw [HD.out]; rfl
  clear HE Hf HD
  generalize hh : w.heap.size = h at *
  obtain ⟨W1, hcp, R1, A1, B1⟩ : ∃ W1, (Builtin.copy_ #[29, 9] 3 #[.slice (some ⟨h + 1, 0, none⟩) 20 20, .string s]).run Tryd.prog ((w.alloc (.cells #[.int .u64 0, .int .u64 0, .int .u64 0, .int .u64 0, .int .u64 0] 35)).alloc (.cells #[.int .u8 0, .int .u8 0, .int .u8 0, .int .u8 0, .int .u8 0, .int .u8 0, .int .u8 0, .int .u8 0, .int .u8 0, .int .u8 0, .int .u8 0, .int .u8 0, .int .u8 0, .int .u8 0, .int .u8 0, .int .u8 0, .int .u8 0, .int .u8 0, .int .u8 0, .int .u8 0] 46)) = .ok (goInt s.size) W1 ∧ Row8 W1 (h + 1) 20 (bt s) ∧ Hid (Lim W1 h (List.replicate 5 0)) ∧ Below h w W1 := by
    have a0 : Lim ((w.alloc (.cells #[.int .u64 0, .int .u64 0, .int .u64 0, .int .u64 0, .int .u64 0] 35)).alloc (.cells #[.int .u8 0, .int .u8 0, .int .u8 0, .int .u8 0, .int .u8 0, .int .u8 0, .int .u8 0, .int .u8 0, .int .u8 0, .int .u8 0, .int .u8 0, .int .u8 0, .int .u8 0, .int .u8 0, .int .u8 0, .int .u8 0, .int .u8 0, .int .u8 0, .int .u8 0, .int .u8 0] 46)) h (List.replicate 5 0) := (Lim.new' w (List.replicate 5 0) _ h hh rfl).alloc _
    have a1 : Blk ((w.alloc (.cells #[.int .u64 0, .int .u64 0, .int .u64 0, .int .u64 0, .int .u64 0] 35)).alloc (.cells #[.int .u8 0, .int .u8 0, .int .u8 0, .int .u8 0, .int .u8 0, .int .u8 0, .int .u8 0, .int .u8 0, .int .u8 0, .int .u8 0, .int .u8 0, .int .u8 0, .int .u8 0, .int .u8 0, .int .u8 0, .int .u8 0, .int .u8 0, .int .u8 0, .int .u8 0, .int .u8 0] 46)) 46 (h + 1) z20 := Blk.new' _ _ _ (h + 1) (by simp [hh])
    have ab : Below h w ((w.alloc (.cells #[.int .u64 0, .int .u64 0, .int .u64 0, .int .u64 0, .int .u64 0] 35)).alloc (.cells #[.int .u8 0, .int .u8 0, .int .u8 0, .int .u8 0, .int .u8 0, .int .u8 0, .int .u8 0, .int .u8 0, .int .u8 0, .int .u8 0, .int .u8 0, .int .u8 0, .int .u8 0, .int .u8 0, .int .u8 0, .int .u8 0, .int .u8 0, .int .u8 0, .int .u8 0, .int .u8 0] 46)) := by rw [← hh]; exact (below_new w _).alloc (by simp) _
    have hz : ∀ j, j < 20 → z20[j]? = some (.int .u8 0) := fun j hj => by unfold z20; rw [List.getElem?_toArray, List.getElem?_replicate, if_pos hj]
    obtain ⟨cs, hr, hrow⟩ := run_copy20 29 9 3 5 (h + 1) 20 20 s z20 46 Tryd.underlying29 Tryd.size1 a1 rfl hz hs
    exact ⟨_, hr, hrow, a0.setRowOther _ (by omega) _, below_setRow ab (by omega) _⟩
  have hcv := R1.conv (P := Tryd.prog) (bt_lt s) 20 20 (Nat.le_refl _) 29 9 Tryd.underlying29 Tryd.underlying5 Tryd.underlying9
  rw [HDs.out] at hcv
  clear R1 HDs
  go_enter Tryd.func15, Tryd.ntmps15
  go_wp2_with fail
  refine (CS.out _).mono ?_
  rintro e w2 ⟨rfl, ho2, hb2⟩
  rw [HW.out] at ho2
  have hq5 : D.size / 4 = 5 := by omega
  rw [hq5] at ho2 ⊢
  have D0 : Hid (Lim w2 h (List.replicate 5 0)) := A1.out.on hb2
  have hB2 := below_step B1 (by have := B1.size; omega) hb2
  have hl1 := A1.out.lt
  have D2 : Hid (IntsAt w2 .i64 (some ⟨W1.heap.size, 0, none⟩) 5 (wT f 5)) := ho2.ints
  have hl2 := ho2.lt
  clear A1 B1 ho2 hb2 CS HW hq5 hcp hcv
  generalize W1.heap.size = g at *
  clear W1
  go_wp2_with fail
  have hgl : g < w2.heap.size := (hl2 g rfl).2
  have N0 : Hid (Lim (w2.alloc (.cells (v64 (tabN 5 (cutN f 0))) 35)) h (List.replicate 5 0)) := D0.out.alloc _
  have N1 : Hid (Lim (w2.alloc (.cells (v64 (tabN 5 (cutN f 0))) 35)) w2.heap.size (tabN 5 (cutN f 0))) := Lim.new w2 _ _ rfl
  have N2 : Hid (IntsAt (w2.alloc (.cells (v64 (tabN 5 (cutN f 0))) 35)) .i64 (some ⟨g, 0, none⟩) 5 (wT f 5)) := D2.out.below ((Below.refl _ _).alloc (Nat.le_refl _) _)
  have hsz := hB2.size
  have NB : Below h w (w2.alloc (.cells (v64 (tabN 5 (cutN f 0))) 35)) := hB2.alloc (by omega) _
  clear D0 D2 hB2 hl2
  generalize w2.heap.size = q at *
  go_loopw [17] (fun i wr => ∃ k : Nat, k ≤ 5 ∧ i = .int .i64 k ∧ Hid (Lim wr h (List.replicate 5 0)) ∧ Hid (Lim wr q (tabN 5 (cutN f k))) ∧ Hid (IntsAt wr .i64 (some ⟨g, 0, none⟩) 5 (wT f 5)) ∧ Below h w wr) (fun i _ => 5 - (intOf i).toNat)
  case atStart => exact ⟨0, Nat.zero_le _, rfl, N0, N1, N2, NB⟩
  case round =>
    clear N0 N1 N2 NB
    obtain ⟨k, hk', rfl, HA0, HA1, HI, hbl⟩ := hrel
    by_cases hlt : k < 5
    · obtain ⟨X, hX⟩ : ∃ x, x = f k := ⟨_, rfl⟩
      have lX : X < 4294967296 := by rw [hX]; exact HL.out k hlt
      have c0 := HI.out.cellAt k hlt
      rw [wT_getD _ _ _ hlt, ← hX] at c0
      have c1 := HA1.out.cell k (by rw [tabN_length]; exact hlt)
      have hf := HA1.out.free k
      have HO := HA1.out.set k X
      rw [hX, cutN_set, ← hX] at HO
      have HA0' : Hid (Lim _ h _) := HA0.out.other ⟨q, k, none⟩ (by simp; omega) (Value.int .u64 (X : Int))
      have HI' : Hid (IntsAt _ .i64 (some ⟨g, 0, none⟩) 5 (wT f 5)) := HI.out.other ⟨q, k, none⟩ (by simp; omega) (Value.int .u64 (X : Int))
      have HO' : Hid (Lim _ q _) := HO
      have HBl := hbl.setCell (p := ⟨q, k, none⟩) (by simp; omega) (Value.int .u64 (X : Int))
      have b0 : (k : Int) < 5 := by omega
      clear hX HO HA0 HA1 HI
      go_wp2
      go_roundw
      case rel => exact ⟨k + 1, by omega, by go_num, HA0', HO', HI', HBl⟩
      case measure => simp [intOf]; omega
    · have hk5 : k = 5 := by omega
      subst hk5
      have hA1 := HA1.out
      rw [cutN_all, HEf.out] at hA1
      have HA1' : Hid (Lim wr q E) := hA1
      clear HA1 hA1 HI
      go_wp2_with (first
        | (with_reducible refine wpList_loadLim rfl _ rfl q E ?hx HA1'.out hE5 ?_)
        | (with_reducible refine wpList_storeLim rfl _ _ rfl h (List.replicate 5 0) E ?hx2 ?hy HA0.out rfl hE5 ?_))
      try (case hx => rfl)
      try (case hx2 => rfl)
      try (case hy => rfl)
      exact bodyPost_lim rfl h E rfl rfl (HA0.out.setRow E) hE5 ⟨rfl, below_setRow hbl (Nat.le_refl _) _⟩
end Go.Proofs.YtmegllddjlippaaDoor
