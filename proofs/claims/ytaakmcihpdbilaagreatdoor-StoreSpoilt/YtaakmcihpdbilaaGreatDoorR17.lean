import Derived.Test.YtaakmcihpdbilaaGreatDoorBA
/- Layer 17, the document's device: Read, Fuse, On. -/
namespace Go.Proofs.YtaakmcihpdbilaaGreatDoor
open Go.RowKit
set_option maxRecDepth 100000
set_option linter.unusedSimpArgs false
set_option maxRecDepth 100000

/-- A device on plain data: its blocks, its fuse, whether it is off, how many were written. -/
abbrev DevT := List ByteArray × Int × Bool × Int
def devA (b c : Nat) (D : DevT) : Array Value := #[.slice (some ⟨b, 0, none⟩) D.1.length c, .int .i64 D.2.1, .bool D.2.2.1, .int .i64 D.2.2.2]
def RowD (w : World) (b c : Nat) (l : List ByteArray) : Prop := l.length ≤ c ∧ ∀ i, i < l.length → w.cell? ⟨b, i, none⟩ = some (.string (strL l i))
def DevIn (w : World) (v : Value) (D : DevT) : Prop := ∃ b c, v = .agg (devA b c D) ∧ RowD w b c D.1
theorem RowD.on {w w' : World} {b c : Nat} {l : List ByteArray} (h : RowD w b c l) (hb : Below w.heap.size w w') : RowD w' b c l :=
  ⟨h.1, fun i hi => by rw [hb.cell (p := ⟨b, i, none⟩) (World.block_lt_of_cell? w _ (h.2 i hi))]; exact h.2 i hi⟩
theorem DevIn.on {w w' : World} {v : Value} {D : DevT} (h : DevIn w v D) (hb : Below w.heap.size w w') : DevIn w' v D := by
  obtain ⟨b, c, e, hr⟩ := h
  exact ⟨b, c, e, hr.on hb⟩

def MayB (D : DevT) (at_ : Int) : Prop := 0 ≤ at_ ∧ at_ < (D.1.length : Int)
/-- What Read answers; a device behind Fuse, behind On. -/
def readB (D : DevT) (k : Nat) : ByteArray × Int := if D.2.2.1 then (⟨#[]⟩, 170) else (strL D.1 k, 0)
def fuseB (D : DevT) (n : Int) : DevT := (D.1, max n (-1), D.2.2.1, D.2.2.2)
def onB (D : DevT) : DevT := (D.1, -1, false, D.2.2.2)

end Go.Proofs.YtaakmcihpdbilaaGreatDoor

/- Layer 17, the document's device: Fuse, On, New. -/
namespace Go.Proofs.YtaakmcihpdbilaaGreatDoor
open Go.RowKit
set_option maxRecDepth 100000
set_option linter.unusedSimpArgs false
set_option maxRecDepth 100000

def zeroD : Array Value := #[.slice none 0 0, .int .i64 0, .bool false, .int .i64 0]

set_option maxHeartbeats 2000000 in
theorem ron17_any (D : DevT) (v : Value) (w : World) (h : DevIn w v D) :
    Calls Tryz.prog 17 #[v] w fun e w' => ∃ v', e = .returned v' ∧ DevIn w' v' (onB D) ∧ Below w.heap.size w w' := by
  obtain ⟨b, c, rfl, hr⟩ := h
  obtain ⟨L, F, O, N⟩ := D
  unfold devA onB
  simp only at hr ⊢
  have HR : Hid (RowD w b c L) := hr
  clear hr
  go_enter Tryz.func17, Tryz.ntmps17
  go_wp2_with fail
  exact bodyPost_row rfl (w.heap.size + 1) (devA b c (L, -1, false, N)) rfl rfl (Blk.new' _ _ _ _ (by simp)) _ Tryz.underlying28 rfl (by kernel_rfl) ⟨_, rfl, ⟨b, c, rfl, (HR.out.on (below_new w _)).on (below_new _ _)⟩, (below_new w _).alloc (by simp) _⟩

set_option maxHeartbeats 2000000 in
theorem rfuse17_any (D : DevT) (v : Value) (n : Int) (w : World) (h : DevIn w v D) :
    Calls Tryz.prog 26 #[v, .int .i64 n] w fun e w' => ∃ v', e = .returned v' ∧ DevIn w' v' (fuseB D n) ∧ Below w.heap.size w w' := by
  obtain ⟨b, c, rfl, hr⟩ := h
  obtain ⟨L, F, O, N⟩ := D
  unfold devA fuseB
  simp only at hr ⊢
  have HR : Hid (RowD w b c L) := hr
  clear hr
  by_cases hn : n < -1
  · have hm : max n (-1) = -1 := by omega
    rw [hm]
    clear hm
    go_enter Tryz.func26, Tryz.ntmps26
    go_wp2_with fail
    exact bodyPost_row rfl (w.heap.size + 1) (devA b c (L, -1, O, N)) rfl rfl (Blk.new' _ _ _ _ (by simp)) _ Tryz.underlying28 rfl (by kernel_rfl) ⟨_, rfl, ⟨b, c, rfl, (HR.out.on (below_new w _)).on (below_new _ _)⟩, (below_new w _).alloc (by simp) _⟩
  · have hm : max n (-1) = n := by omega
    rw [hm]
    clear hm
    go_enter Tryz.func26, Tryz.ntmps26
    go_wp2_with fail
    exact bodyPost_row rfl (w.heap.size + 1) (devA b c (L, n, O, N)) rfl rfl (Blk.new' _ _ _ _ (by simp)) _ Tryz.underlying28 rfl (by kernel_rfl) ⟨_, rfl, ⟨b, c, rfl, (HR.out.on (below_new w _)).on (below_new _ _)⟩, (below_new w _).alloc (by simp) _⟩

set_option maxHeartbeats 2000000 in
theorem rnew17_not (n : Int) (w : World) (h : ¬ (1 ≤ n ∧ n ≤ 4096)) :
    Calls Tryz.prog 6 #[.int .i64 n] w fun e w' => e = .returned (.tuple #[.agg zeroD, .int .i64 1]) ∧ Below w.heap.size w w' := by
  by_cases h0 : n < 1
  · have q0 : decide (n < 1) = true := decide_eq_true h0
    clear h
    go_enter Tryz.func6, Tryz.ntmps6
    go_wp2_with fail
    exact bodyPost_rowTmp rfl w.heap.size zeroD _ rfl rfl rfl (Blk.new _ _ _) _ Tryz.underlying28 rfl (by kernel_rfl) ⟨rfl, below_new w _⟩
  · have q0 : decide (n < 1) = false := decide_eq_false h0
    have q1 : decide (4096 < n) = true := decide_eq_true (by omega)
    clear h
    go_enter Tryz.func6, Tryz.ntmps6
    go_wp2_with fail
    exact bodyPost_rowTmp rfl w.heap.size zeroD _ rfl rfl rfl (Blk.new _ _ _) _ Tryz.underlying28 rfl (by kernel_rfl) ⟨rfl, below_new w _⟩

theorem made_texts17 (w : World) (n : Nat) (hn : n ≤ 1048576) :
    ∃ w', (Instr.makeSlice 26 (.int .i64 (n : Int)) (.int .i64 (n : Int))).run Tryz.prog w = .ok (.slice (some ⟨w.heap.size, 0, none⟩) n n) w' ∧ RowT w' w.heap.size n (fun _ => ⟨#[]⟩) ∧ Below w.heap.size w w' := by
  obtain ⟨i0, hi, hz0, hz1, hz2⟩ := info_parts Tryz.infoS
  have hr := run_make (P := Tryz.prog) w 26 9 i0 (.string ⟨#[]⟩) Tryz.underlying26 hi hz0 .i64 .i64 n n (by omega) (Int.le_refl _) (by rw [hz2]; omega) (by omega)
  rw [hz1, Int.toNat_natCast, Nat.mul_one] at hr
  exact ⟨_, hr, RowT.made w _ n, below_new w _⟩

/-- A new device. -/
def newB (n : Nat) : DevT := (List.replicate n (zeroB 64), -1, false, 0)
def fillD (k i : Nat) : ByteArray := if i < k then zeroB 64 else ⟨#[]⟩
theorem fillD_set (k : Nat) : (fun i => if i = k then zeroB 64 else fillD k i) = fillD (k + 1) := by
  funext i
  unfold fillD
  by_cases h : i = k
  · rw [if_pos h, if_pos (by omega)]
  · rw [if_neg h]
    by_cases h2 : i < k
    · rw [if_pos h2, if_pos (by omega)]
    · rw [if_neg h2, if_neg (by omega)]

set_option maxHeartbeats 4000000 in
theorem rnew17_any (n : Nat) (w : World) (h : 1 ≤ n ∧ n ≤ 4096) :
    Calls Tryz.prog 6 #[.int .i64 (n : Int)] w fun e w' => ∃ v, e = .returned (.tuple #[v, .int .i64 0]) ∧ DevIn w' v (newB n) ∧ Below w.heap.size w w' := by
  have q0 : decide ((n : Int) < 1) = false := decide_eq_false (by omega)
  have q1 : decide ((4096 : Int) < (n : Int)) = false := decide_eq_false (by omega)
  obtain ⟨w2, hmk, R2, hb2⟩ := made_texts17 (w.alloc (.cells zeroD 28)) n (by omega)
  have hsz : (w.alloc (.cells zeroD 28)).heap.size = w.heap.size + 1 := by simp
  rw [hsz] at hmk R2 hb2
  have V2 : Hid (Blk w2 28 w.heap.size zeroD) := (Blk.new w _ _).below hb2 (by omega)
  have HB2 : Hid (Below w.heap.size w w2) := (below_new w _).trans (hb2.mono (by omega))
  have HR2 : Hid (RowT w2 (w.heap.size + 1) n (fillD 0)) := by
    have e : fillD 0 = fun _ => ⟨#[]⟩ := by funext i; unfold fillD; rw [if_neg (by omega)]
    rw [e]; exact R2
  clear R2 hb2 hsz
  unfold zeroD at hmk
  go_enter Tryz.func6, Tryz.ntmps6
  go_wp2_with fail
  go_loopw [5] (fun c wr => ∃ k : Nat, k ≤ n ∧ c = .int .i64 k ∧ Hid (Blk wr 28 w.heap.size zeroD) ∧ Hid (RowT wr (w.heap.size + 1) n (fillD k)) ∧ Hid (Below w.heap.size w wr)) (fun c _ => n - (intOf c).toNat)
  case atStart => exact ⟨0, Nat.zero_le _, rfl, V2, HR2, HB2⟩
  case round =>
    obtain ⟨k, hk, rfl, HV, HR, HB⟩ := hrel
    clear V2 HR2 HB2
    by_cases hlt : k < n
    · have b0 : (k : Int) < (n : Int) := by omega
      have m1 := make_zeros 64 64 rfl (by decide) wr
      have v1 : (convert 43 9 (.slice (some ⟨wr.heap.size, 0, none⟩) 64 64)).run Tryz.prog (wr.alloc (.cells (zcells 64) 5)) = .ok (.string (zeroB 64)) (wr.alloc (.cells (zcells 64) 5)) := conv_zeros (row_zeros 64 wr)
      have hbx := below_new wr (.cells (zcells 64) 5)
      have R3 : RowT (wr.alloc (.cells (zcells 64) 5)) (w.heap.size + 1) n (fillD k) := HR.out.block (hbx.block _ HR.out.lt)
      have c3 := R3.cell k hlt
      have f3 := R3.free k hlt
      have R4 := R3.set k (zeroB 64)
      rw [fillD_set] at R4
      have HV4 : Hid (Blk ((wr.alloc (.cells (zcells 64) 5)).setCell ⟨w.heap.size + 1, k, none⟩ (.string (zeroB 64))) 28 w.heap.size zeroD) := (HV.out.on hbx).other _ (by show w.heap.size ≠ w.heap.size + 1; omega) _
      have HR4 : Hid (RowT ((wr.alloc (.cells (zcells 64) 5)).setCell ⟨w.heap.size + 1, k, none⟩ (.string (zeroB 64))) (w.heap.size + 1) n (fillD (k + 1))) := R4
      have HB4 : Hid (Below w.heap.size w ((wr.alloc (.cells (zcells 64) 5)).setCell ⟨w.heap.size + 1, k, none⟩ (.string (zeroB 64)))) := (below_step HB.out (Nat.le_refl _) hbx).setCell (p := ⟨w.heap.size + 1, k, none⟩) (by show w.heap.size ≤ w.heap.size + 1; omega) _
      generalize zeroB 64 = Z at *
      clear R3 R4 hbx HV HR HB
      go_wp2_with fail
      refine ⟨⟨k + 1, by omega, by go_num, HV4, HR4, HB4⟩, ?_⟩
      simp [intOf]; omega
    · obtain rfl : k = n := by omega
      have b0 : ¬ ((k : Int) < (k : Int)) := by omega
      have hlen : (List.replicate k (zeroB 64)).length = k := List.length_replicate
      have HD : Hid (RowD wr (w.heap.size + 1) k (List.replicate k (zeroB 64))) := ⟨by rw [hlen]; exact Nat.le_refl _, fun i hi => by
        rw [hlen] at hi
        have h1 := HR.out.cell i hi
        rw [h1]
        unfold fillD strL
        rw [if_pos hi, List.getD_eq_getElem?_getD, List.getElem?_replicate, if_pos hi]; rfl⟩
      have HVr : Hid (Blk wr 28 w.heap.size #[.slice none 0 0, .int .i64 0, .bool false, .int .i64 0]) := HV.out
      go_wp2_with (with_reducible refine wpList_storeBlk rfl 28 _ _ rfl w.heap.size #[.slice none 0 0, .int .i64 0, .bool false, .int .i64 0] #[.slice (some ⟨w.heap.size + 1, 0, none⟩) k k, .int .i64 (-1), .bool false, .int .i64 0] (by with_unfolding_all rfl) (by with_unfolding_all rfl) HVr.out rfl (by kernel_rfl) (by simp [Value.oneCell']) ?_)
      refine bodyPost_rowTmp rfl w.heap.size #[.slice (some ⟨w.heap.size + 1, 0, none⟩) k k, .int .i64 (-1), .bool false, .int .i64 0] _ rfl rfl rfl (HVr.out.setRow _) _ Tryz.underlying28 rfl (by kernel_rfl) ⟨_, rfl, ⟨w.heap.size + 1, k, ?_, ?_⟩, below_setRow HB.out (Nat.le_refl _) _⟩
      · unfold devA newB
        simp only [hlen]
      · refine ⟨HD.out.1, fun i hi => ?_⟩
        refine Eq.trans ?_ (HD.out.2 i hi)
        exact cell_setRow_other _ _ _ ⟨w.heap.size + 1, i, none⟩ (by show w.heap.size + 1 ≠ w.heap.size; omega)

end Go.Proofs.YtaakmcihpdbilaaGreatDoor

/- Layer 17, the document's device: Write. -/
namespace Go.Proofs.YtaakmcihpdbilaaGreatDoor
open Go.RowKit
set_option maxRecDepth 100000
set_option linter.unusedSimpArgs false
set_option maxRecDepth 100000

theorem RowD.other {w : World} {b c : Nat} {l : List ByteArray} (h : RowD w b c l) (p : Addr) (hp : p.block ≠ b) (u : Value) : RowD (w.setCell p u) b c l :=
  ⟨h.1, fun i hi => by rw [World.cell?_setCell_other _ _ _ _ (fun e => hp (by rw [e]))]; exact h.2 i hi⟩

/-- May s be written at k? A device behind it. -/
def MayWr (D : DevT) (k : Int) (s : ByteArray) : Prop := (0 ≤ k ∧ k < (D.1.length : Int)) ∧ s.size = 64
def offB (D : DevT) : DevT := (D.1, -1, true, D.2.2.2)
def writeB (D : DevT) (k : Nat) (s : ByteArray) : DevT × Int :=
  if D.2.2.1 = true ∨ D.2.1 = 0 then (offB D, 170) else ((D.1.set k s, (if 0 < D.2.1 then D.2.1 - 1 else D.2.1), false, D.2.2.2 + 1), 0)


set_option maxHeartbeats 4000000 in
theorem rwrite17_arg (D : DevT) (v : Value) (k : Int) (s : ByteArray) (w : World) (h : DevIn w v D) (hl : D.1.length ≤ 1048576) (hk : ¬ MayWr D k s) :
    Calls Tryz.prog 10 #[v, .int .i64 k, .string s] w fun e w' => ∃ v', e = .returned (.tuple #[v', .int .i64 1]) ∧ DevIn w' v' D ∧ Below w.heap.size w w' := by
  obtain ⟨b, c, rfl, hr⟩ := h
  obtain ⟨L, F, O, N⟩ := D
  have HR : Hid (RowD w b c L) := hr
  unfold devA
  unfold MayWr at hk
  simp only at hl hk ⊢
  clear hr
  by_cases h0 : k < 0
  · have q0 : decide (k < 0) = true := decide_eq_true h0
    clear hk
    go_enter Tryz.func10, Tryz.ntmps10
    go_wp2_with fail
    exact bodyPost_rowTmp rfl (w.heap.size + 1) (devA b c (L, F, O, N)) _ rfl rfl rfl (Blk.new' _ _ _ _ (by simp)) _ Tryz.underlying28 rfl (by kernel_rfl) ⟨_, rfl, ⟨b, c, rfl, (HR.out.on (below_new w _)).on (below_new _ _)⟩, (below_new w _).alloc (by simp) _⟩
  · have q0 : decide (k < 0) = false := decide_eq_false h0
    by_cases h1 : (L.length : Int) ≤ k
    · have q1 : decide ((L.length : Int) ≤ k) = true := decide_eq_true h1
      clear hk
      go_enter Tryz.func10, Tryz.ntmps10
      go_wp2_with fail
      exact bodyPost_rowTmp rfl (w.heap.size + 1) (devA b c (L, F, O, N)) _ rfl rfl rfl (Blk.new' _ _ _ _ (by simp)) _ Tryz.underlying28 rfl (by kernel_rfl) ⟨_, rfl, ⟨b, c, rfl, (HR.out.on (below_new w _)).on (below_new _ _)⟩, (below_new w _).alloc (by simp) _⟩
    · have q1 : decide ((L.length : Int) ≤ k) = false := decide_eq_false h1
      have q2 : ((s.size : Int) != 64) = true := by rw [bne_iff_ne]; exact fun e => hk ⟨⟨by omega, by omega⟩, by omega⟩
      clear hk
      go_enter Tryz.func10, Tryz.ntmps10
      go_wp2_with fail
      exact bodyPost_rowTmp rfl (w.heap.size + 1) (devA b c (L, F, O, N)) _ rfl rfl rfl (Blk.new' _ _ _ _ (by simp)) _ Tryz.underlying28 rfl (by kernel_rfl) ⟨_, rfl, ⟨b, c, rfl, (HR.out.on (below_new w _)).on (below_new _ _)⟩, (below_new w _).alloc (by simp) _⟩


set_option maxHeartbeats 4000000 in
theorem rwrite17_off (D : DevT) (v : Value) (k : Nat) (s : ByteArray) (w : World) (h : DevIn w v D) (hl : D.1.length ≤ 1048576) (hk : k < D.1.length) (hs : s.size = 64) (ho : D.2.2.1 = true ∨ D.2.1 = 0) :
    Calls Tryz.prog 10 #[v, .int .i64 (k : Int), .string s] w fun e w' => ∃ v', e = .returned (.tuple #[v', .int .i64 170]) ∧ DevIn w' v' (offB D) ∧ Below w.heap.size w w' := by
  obtain ⟨b, c, rfl, hr⟩ := h
  obtain ⟨L, F, O, N⟩ := D
  have HR : Hid (RowD w b c L) := hr
  unfold devA offB
  simp only at hl hk ho ⊢
  clear hr
  have q0 : decide ((k : Int) < 0) = false := decide_eq_false (by omega)
  have q1 : decide ((L.length : Int) ≤ (k : Int)) = false := decide_eq_false (by omega)
  have q2 : ((s.size : Int) != 64) = false := by rw [bne_eq_false_iff_eq]; omega
  cases O with
  | true =>
    clear ho
    go_enter Tryz.func10, Tryz.ntmps10
    go_wp2_with fail
    exact bodyPost_rowTmp rfl (w.heap.size + 1) (devA b c (L, -1, true, N)) _ rfl rfl rfl (Blk.new' _ _ _ _ (by simp)) _ Tryz.underlying28 rfl (by kernel_rfl) ⟨_, rfl, ⟨b, c, rfl, (HR.out.on (below_new w _)).on (below_new _ _)⟩, (below_new w _).alloc (by simp) _⟩
  | false =>
    obtain rfl : F = 0 := by rcases ho with h | h; exact absurd h (by decide); exact h
    clear ho
    go_enter Tryz.func10, Tryz.ntmps10
    go_wp2_with fail
    exact bodyPost_rowTmp rfl (w.heap.size + 1) (devA b c (L, -1, true, N)) _ rfl rfl rfl (Blk.new' _ _ _ _ (by simp)) _ Tryz.underlying28 rfl (by kernel_rfl) ⟨_, rfl, ⟨b, c, rfl, (HR.out.on (below_new w _)).on (below_new _ _)⟩, (below_new w _).alloc (by simp) _⟩

theorem strs_src (w : World) (b off n c : Nat) (l : List ByteArray) (hl : l.length = n) (h : ∀ i, i < n → w.cell? ⟨b, off + i, none⟩ = some (.string (strL l i))) : SrcAt w (.slice (some ⟨b, off, none⟩) n c) n (l.map Value.string) := by
  refine .inr ⟨_, c, rfl, fun j u hu => ?_⟩
  rw [List.getElem?_map] at hu
  obtain ⟨s, hs, rfl⟩ := Option.map_eq_some_iff.1 hu
  have hj : j < l.length := (List.getElem?_eq_some_iff.1 hs).1
  have h1 := h j (by omega)
  unfold strL at h1
  rw [List.getD_eq_getElem?_getD, hs] at h1
  rw [Go.WideShapes.add_plain]
  exact h1

theorem set_parts (L : List ByteArray) (k : Nat) (s : ByteArray) (h : k < L.length) : L.take k ++ [s] ++ L.drop (k + 1) = L.set k s := by
  rw [List.set_eq_take_append_cons_drop, if_pos h, List.append_assoc]; rfl



set_option maxHeartbeats 8000000 in
theorem rwrite17_yes (D : DevT) (v : Value) (k : Nat) (s : ByteArray) (w : World) (h : DevIn w v D) (hl : D.1.length ≤ 1048576) (hk : k < D.1.length) (hs : s.size = 64) (ho : D.2.2.1 = false) (hf : D.2.1 ≠ 0) (hN : 0 ≤ D.2.2.2 ∧ D.2.2.2 < 1152921504606846976) (hF : -1 ≤ D.2.1 ∧ D.2.1 ≤ 9223372036854775807) :
    Calls Tryz.prog 10 #[v, .int .i64 (k : Int), .string s] w fun e w' => ∃ v', e = .returned (.tuple #[v', .int .i64 0]) ∧ DevIn w' v' (writeB D k s).1 ∧ Below w.heap.size w w' := by
  obtain ⟨b, c, rfl, hr⟩ := h
  obtain ⟨L, F, O, N⟩ := D
  obtain ⟨i0, hi, hz0, hz1, hz2⟩ := info_parts Tryz.infoS
  have HR : Hid (RowD w b c L) := hr
  have hc := hr.1
  unfold devA writeB
  simp only at hl hk ho hf hN hF hc ⊢
  subst ho
  rw [if_neg (by simp; exact hf)]
  obtain ⟨F2, HF2⟩ : ∃ z, Hid (z = if 0 < F then F - 1 else F) := ⟨_, rfl⟩
  rw [← HF2.out]
  clear hr
  have q0 : decide ((k : Int) < 0) = false := decide_eq_false (by omega)
  have q1 : decide ((L.length : Int) ≤ (k : Int)) = false := decide_eq_false (by omega)
  have q2 : ((s.size : Int) != 64) = false := by rw [bne_eq_false_iff_eq]; omega
  have q3 : (F == 0) = false := by rw [beq_eq_false_iff_ne]; exact hf
  have hb20 : Below w.heap.size w ((w.alloc (.cells #[.slice (some ⟨b, 0, none⟩) L.length c, .int .i64 F, .bool false, .int .i64 N] 28)).alloc (.cells #[.slice none 0 0, .int .i64 0, .bool false, .int .i64 0] 28)) := (below_new w _).alloc (by simp) _
  have hV0 : Blk ((w.alloc (.cells #[.slice (some ⟨b, 0, none⟩) L.length c, .int .i64 F, .bool false, .int .i64 N] 28)).alloc (.cells #[.slice none 0 0, .int .i64 0, .bool false, .int .i64 0] 28)) 28 w.heap.size #[.slice (some ⟨b, 0, none⟩) L.length c, .int .i64 F, .bool false, .int .i64 N] := (Blk.new w _ _).alloc _
  have hU0 : Blk ((w.alloc (.cells #[.slice (some ⟨b, 0, none⟩) L.length c, .int .i64 F, .bool false, .int .i64 N] 28)).alloc (.cells #[.slice none 0 0, .int .i64 0, .bool false, .int .i64 0] 28)) 28 (w.heap.size + 1) #[.slice none 0 0, .int .i64 0, .bool false, .int .i64 0] := Blk.new' _ _ _ _ (by simp)
  have hS0 : ((w.alloc (.cells #[.slice (some ⟨b, 0, none⟩) L.length c, .int .i64 F, .bool false, .int .i64 N] 28)).alloc (.cells #[.slice none 0 0, .int .i64 0, .bool false, .int .i64 0] 28)).heap.size = w.heap.size + 2 := by simp
  obtain ⟨W2, hW2⟩ : ∃ W2, (w.alloc (.cells #[.slice (some ⟨b, 0, none⟩) L.length c, .int .i64 F, .bool false, .int .i64 N] 28)).alloc (.cells #[.slice none 0 0, .int .i64 0, .bool false, .int .i64 0] 28) = W2 := ⟨_, rfl⟩
  rw [hW2] at hb20 hV0 hU0 hS0
  have HB2 : Hid (Below w.heap.size w W2) := hb20
  have HV2 : Hid (Blk W2 28 w.heap.size #[.slice (some ⟨b, 0, none⟩) L.length c, .int .i64 F, .bool false, .int .i64 N]) := hV0
  have HU2 : Hid (Blk W2 28 (w.heap.size + 1) #[.slice none 0 0, .int .i64 0, .bool false, .int .i64 0]) := hU0
  have HS2 : Hid (W2.heap.size = w.heap.size + 2) := hS0
  have HR2 : Hid (RowD W2 b c L) := HR.out.on hb20
  have d0 : W2.cell? ⟨w.heap.size, 0, none⟩ = some (.slice (some ⟨b, 0, none⟩) L.length c) := hV0.cell 0
  have d1 : W2.cell? ⟨w.heap.size, 1, none⟩ = some (.int .i64 F) := hV0.cell 1
  have d2 : W2.cell? ⟨w.heap.size, 2, none⟩ = some (.bool false) := hV0.cell 2
  have hkc : k ≤ c := by omega
  clear hb20 hV0 hU0 hS0 HR
  go_enter Tryz.func10, Tryz.ntmps10
  go_wp2_with (at_builtin; refine wpList_appW (by rfl) (.tmp 34) (.tmp 38) 26 rfl (w.heap.size + 2) 9 i0 _ 1 16 Tryz.underlying26 hi hz0 hz1 hz2 rfl (by decide) (.slice none 0 0) 0 [] rfl (World.ownsRow_nil _ _ _ _) (.slice (some ⟨b, 0, none⟩) k c) k ((L.take k).map Value.string) rfl (strs_src W2 b 0 k c (L.take k) (by rw [List.length_take]; omega) (fun i hi => by rw [Nat.zero_add, HR2.out.2 i (by omega)]; unfold strL; rw [List.getD_eq_getElem?_getD, List.getD_eq_getElem?_getD, List.getElem?_take, if_pos hi])) (by rw [List.length_map, List.length_take]; omega) (fun u hu => by obtain ⟨z, _, rfl⟩ := List.mem_map.1 hu; rfl) (by unfold maxLen; omega) (by omega) (by rw [HS2.out]; exact Nat.le_refl _) ?_)
  intro v3 w3 hown3 hg3
  have O3 : Hid (OwnTx w3 (w.heap.size + 2) v3 k (L.take k)) := by
    show World.ownsRow _ _ _ _ _ _ _
    rw [List.map_take]
    simpa using hown3
  have b3 : Below (w.heap.size + 2) W2 w3 := (Below.refl _ _).grown hg3 (by rw [HS2.out]; exact Nat.le_refl _) (fun z hz => by cases hz)
  have HB3 : Hid (Below (w.heap.size + 2) W2 w3) := b3
  have HV3 : Hid (Blk w3 28 w.heap.size #[.slice (some ⟨b, 0, none⟩) L.length c, .int .i64 F, .bool false, .int .i64 N]) := HV2.out.below b3 (by omega)
  have hs3 : w.heap.size + 2 ≤ w3.heap.size := by have := b3.size; rw [HS2.out] at this; exact this
  clear hown3 hg3 b3 d0 d1 d2 hW2
  go_wp2_with (at_builtin; refine wpList_appS rfl (.tmp 40) (.tmp 42) rfl (w.heap.size + 2) w3 v3 k (L.take k) rfl O3.out s rfl (by omega) hs3 ?_)
  intro v4 w4 hown4 b4
  have O4 : Hid (OwnTx w4 (w.heap.size + 2) v4 (k + 1) (L.take k ++ [s])) := hown4
  have HB4 : Hid (Below (w.heap.size + 2) W2 w4) := HB3.out.trans b4
  have HV4 : Hid (Blk w4 28 w.heap.size #[.slice (some ⟨b, 0, none⟩) L.length c, .int .i64 F, .bool false, .int .i64 N]) := HV3.out.below b4 (by omega)
  have hs4 : w.heap.size + 2 ≤ w4.heap.size := by have := b4.size; omega
  have HR4 : Hid (RowD w4 b c L) := ⟨HR2.out.1, fun i hi => by
    have h1 := HR2.out.2 i hi
    rw [HB4.out.cell (p := ⟨b, i, none⟩) (by have := World.block_lt_of_cell? W2 _ h1; rw [HS2.out] at this; exact this)]; exact h1⟩
  have d0 : w4.cell? ⟨w.heap.size, 0, none⟩ = some (.slice (some ⟨b, 0, none⟩) L.length c) := HV4.out.cell 0
  have hw1 : (k : Int) + 1 ≤ (L.length : Int) := by omega
  have HU4 : Hid (Blk w4 28 (w.heap.size + 1) #[.slice none 0 0, .int .i64 0, .bool false, .int .i64 0]) := HU2.out.below HB4.out (by omega)
  clear hown4 b4 O3 HB3 HV3 hs3
  by_cases hcap : k + 1 < c
  · have hcz : ¬ (c - (k + 1) = 0) := by omega
    have hsrc : SrcAt w4 (.slice (some ⟨b, k + 1, none⟩) (L.length - (k + 1)) (c - (k + 1))) (L.length - (k + 1)) ((L.drop (k + 1)).map Value.string) := strs_src w4 b (k + 1) _ _ (L.drop (k + 1)) List.length_drop (fun i hi => by
      rw [HR4.out.2 (k + 1 + i) (by omega)]
      unfold strL
      rw [List.getD_eq_getElem?_getD, List.getD_eq_getElem?_getD, List.getElem?_drop])
    go_wp2_with (at_builtin; refine wpList_appW (by rfl) (.tmp 44) (.tmp 49) 26 rfl (w.heap.size + 2) 9 i0 _ 1 16 Tryz.underlying26 hi hz0 hz1 hz2 rfl (by decide) v4 (k + 1) _ rfl (show World.ownsRow w4 (w.heap.size + 2) 9 1 v4 (k + 1) ((L.take k ++ [s]).map Value.string) from O4.out) _ (L.length - (k + 1)) ((L.drop (k + 1)).map Value.string) rfl hsrc (by rw [List.length_map, List.length_drop]; omega) (fun u hu => by obtain ⟨z, _, rfl⟩ := List.mem_map.1 hu; rfl) (by unfold maxLen; omega) (by omega) hs4 ?_)
    intro v5 w5 hown5 hgr
    have O5 : OwnTx w5 (w.heap.size + 2) v5 L.length (L.set k s) := by
      unfold OwnTx
      rw [← set_parts L k s hk]
      have e1 : k + 1 + (L.length - (k + 1)) = L.length := by omega
      first | (simpa [e1] using hown5) | (simpa [hLe] using hown5)
    have b5 : Below (w.heap.size + 2) w4 w5 := (Below.refl _ _).grown hgr hs4 (fun z hz => (World.ownsRow.lt O4.out z hz).1)
    obtain ⟨g5, c5, rfl, hRow⟩ : ∃ g5 c5, v5 = .slice (some ⟨g5, 0, none⟩) L.length c5 ∧ (RowD w5 g5 c5 (L.set k s) ∧ w.heap.size + 2 ≤ g5) := by
      obtain ⟨hln, h | ⟨g5, cap, cur, hv, hB, hcu, hle, _, _, htk⟩⟩ := O5
      · omega
      · refine ⟨g5, cap, hv, ⟨by rw [List.length_set]; exact hle, fun i hi => ?_⟩, hB⟩
        rw [cell_of_row _ _ _ _ _ (0, 0) hcu]
        have h1 : (cur.toList.take (L.length * 1))[i]? = some (.string (strL (L.set k s) i)) := by
          rw [htk, List.getElem?_map]
          unfold strL
          rw [List.getD_eq_getElem?_getD, List.getElem?_eq_getElem hi]; rfl
        rw [List.length_set] at hi
        rw [List.getElem?_take, if_pos (by omega)] at h1
        rw [← Array.getElem?_toList]; exact h1
    have HV5 : Hid (Blk w5 28 w.heap.size #[.slice (some ⟨b, 0, none⟩) L.length c, .int .i64 F, .bool false, .int .i64 N]) := HV4.out.below b5 (by omega)
    have HU5 : Hid (Blk w5 28 (w.heap.size + 1) #[.slice none 0 0, .int .i64 0, .bool false, .int .i64 0]) := HU4.out.below b5 (by omega)
    have HB5 : Hid (Below w.heap.size w w5) := HB2.out.trans ((HB4.out.trans b5).mono (by omega))
    have HRow : Hid (RowD w5 g5 c5 (L.set k s) ∧ w.heap.size + 2 ≤ g5) := hRow
    have hg5 := hRow.2
    have y0 : w5.cell? ⟨w.heap.size, 0, none⟩ = some (.slice (some ⟨b, 0, none⟩) L.length c) := HV5.out.cell 0
    have y1 : w5.cell? ⟨w.heap.size, 1, none⟩ = some (.int .i64 F) := HV5.out.cell 1
    have y2 : w5.cell? ⟨w.heap.size, 2, none⟩ = some (.bool false) := HV5.out.cell 2
    have y3 : w5.cell? ⟨w.heap.size, 3, none⟩ = some (.int .i64 N) := HV5.out.cell 3
    have z0 : w5.cell? ⟨w.heap.size + 1, 0, none⟩ = some (.slice none 0 0) := HU5.out.cell 0
    have z1 : w5.cell? ⟨w.heap.size + 1, 1, none⟩ = some (.int .i64 0) := HU5.out.cell 1
    have z2 : w5.cell? ⟨w.heap.size + 1, 2, none⟩ = some (.bool false) := HU5.out.cell 2
    have z3 : w5.cell? ⟨w.heap.size + 1, 3, none⟩ = some (.int .i64 0) := HU5.out.cell 3
    have fy0 := HV5.out.free 0
    have fy1 := HV5.out.free 1
    have fy3 := HV5.out.free 3
    have fz0 := HU5.out.free 0
    have fz1 := HU5.out.free 1
    have fz2 := HU5.out.free 2
    have fz3 := HU5.out.free 3
    have hne1 : ¬ (w.heap.size = w.heap.size + 1) := by omega
    have hne2 : ¬ (w.heap.size + 1 = w.heap.size) := by omega
    clear hown5 hgr b5 O5 O4 HV4 HU4 HB4 HR4 HR2 HV2 HU2 HB2 HS2 hRow hsrc d0
    by_cases hF0 : 0 < F
    · have q4 : decide (0 < F) = true := decide_eq_true hF0
      have hF2 : F2 = F - 1 := by rw [HF2.out, if_pos hF0]
      have hwF : IntKind.i64.wrap (F - 1) = F - 1 := by rw [IntKind.wrap_i64]; omega
      subst hF2
      clear HF2
      go_wp2_with fail
      refine bodyPost_rowTmp rfl (w.heap.size + 1) #[.slice (some ⟨g5, 0, none⟩) _ c5, .int .i64 (F - 1), .bool false, .int .i64 (N + 1)] _ rfl rfl rfl ((((((((HU5.out.other ⟨w.heap.size, 0, none⟩ hne2 _).other ⟨w.heap.size, 3, none⟩ hne2 _).other ⟨w.heap.size, 1, none⟩ hne2 _).setAt 0 _).setAt 1 _).setAt 2 _).setAt 3 _)) _ Tryz.underlying28 rfl (by kernel_rfl) ⟨_, rfl, ⟨g5, c5, (by unfold devA; first | (simp only [List.length_set]; done) | (simp only [List.length_set, hLe]; done)), ?_⟩, ?_⟩
      · exact (((((((HRow.out.1.other _ (by show w.heap.size ≠ g5; omega) _).other _ (by show w.heap.size ≠ g5; omega) _).other _ (by show w.heap.size ≠ g5; omega) _).other _ (by show w.heap.size + 1 ≠ g5; omega) _).other _ (by show w.heap.size + 1 ≠ g5; omega) _).other _ (by show w.heap.size + 1 ≠ g5; omega) _).other _ (by show w.heap.size + 1 ≠ g5; omega) _)
      · exact ((((((HB5.out.setCell (p := ⟨w.heap.size, 0, none⟩) (Nat.le_refl _) _).setCell (p := ⟨w.heap.size, 3, none⟩) (Nat.le_refl _) _).setCell (p := ⟨w.heap.size, 1, none⟩) (Nat.le_refl _) _).setCell (p := ⟨w.heap.size + 1, 0, none⟩) (Nat.le_succ _) _).setCell (p := ⟨w.heap.size + 1, 1, none⟩) (Nat.le_succ _) _).setCell (p := ⟨w.heap.size + 1, 2, none⟩) (Nat.le_succ _) _).setCell (p := ⟨w.heap.size + 1, 3, none⟩) (Nat.le_succ _) _
    · have q4 : decide (0 < F) = false := decide_eq_false hF0
      have hF2 : F2 = F := by rw [HF2.out, if_neg hF0]
      subst hF2
      clear HF2
      go_wp2_with fail
      refine bodyPost_rowTmp rfl (w.heap.size + 1) #[.slice (some ⟨g5, 0, none⟩) _ c5, .int .i64 F2, .bool false, .int .i64 (N + 1)] _ rfl rfl rfl (((((((HU5.out.other ⟨w.heap.size, 0, none⟩ hne2 _).other ⟨w.heap.size, 3, none⟩ hne2 _).setAt 0 _).setAt 1 _).setAt 2 _).setAt 3 _)) _ Tryz.underlying28 rfl (by kernel_rfl) ⟨_, rfl, ⟨g5, c5, (by unfold devA; first | (simp only [List.length_set]; done) | (simp only [List.length_set, hLe]; done)), ?_⟩, ?_⟩
      · exact ((((((HRow.out.1.other _ (by show w.heap.size ≠ g5; omega) _).other _ (by show w.heap.size ≠ g5; omega) _).other _ (by show w.heap.size + 1 ≠ g5; omega) _).other _ (by show w.heap.size + 1 ≠ g5; omega) _).other _ (by show w.heap.size + 1 ≠ g5; omega) _).other _ (by show w.heap.size + 1 ≠ g5; omega) _)
      · exact (((((HB5.out.setCell (p := ⟨w.heap.size, 0, none⟩) (Nat.le_refl _) _).setCell (p := ⟨w.heap.size, 3, none⟩) (Nat.le_refl _) _).setCell (p := ⟨w.heap.size + 1, 0, none⟩) (Nat.le_succ _) _).setCell (p := ⟨w.heap.size + 1, 1, none⟩) (Nat.le_succ _) _).setCell (p := ⟨w.heap.size + 1, 2, none⟩) (Nat.le_succ _) _).setCell (p := ⟨w.heap.size + 1, 3, none⟩) (Nat.le_succ _) _
  · have hce : c = k + 1 := by omega
    have hLe : L.length = k + 1 := by omega
    have hsrc : ∀ p, SrcAt w4 (.slice (some p) 0 0) 0 ((L.drop (k + 1)).map Value.string) := fun p => .inr ⟨p, 0, rfl, fun j u hu => by rw [List.drop_eq_nil_of_le (by omega)] at hu; simp at hu⟩
    go_wp2_with (at_builtin; refine wpList_appW (by rfl) (.tmp 44) (.tmp 49) 26 rfl (w.heap.size + 2) 9 i0 _ 1 16 Tryz.underlying26 hi hz0 hz1 hz2 rfl (by decide) v4 (k + 1) _ rfl (show World.ownsRow w4 (w.heap.size + 2) 9 1 v4 (k + 1) ((L.take k ++ [s]).map Value.string) from O4.out) _ 0 ((L.drop (k + 1)).map Value.string) rfl (hsrc _) (by rw [List.length_map, List.length_drop]; omega) (fun u hu => by obtain ⟨z, _, rfl⟩ := List.mem_map.1 hu; rfl) (by unfold maxLen; omega) (by omega) hs4 ?_)
    intro v5 w5 hown5 hgr
    have O5 : OwnTx w5 (w.heap.size + 2) v5 L.length (L.set k s) := by
      unfold OwnTx
      rw [← set_parts L k s hk]
      have e1 : k + 1 + (L.length - (k + 1)) = L.length := by omega
      first | (simpa [e1] using hown5) | (simpa [hLe] using hown5)
    have b5 : Below (w.heap.size + 2) w4 w5 := (Below.refl _ _).grown hgr hs4 (fun z hz => (World.ownsRow.lt O4.out z hz).1)
    obtain ⟨g5, c5, rfl, hRow⟩ : ∃ g5 c5, v5 = .slice (some ⟨g5, 0, none⟩) L.length c5 ∧ (RowD w5 g5 c5 (L.set k s) ∧ w.heap.size + 2 ≤ g5) := by
      obtain ⟨hln, h | ⟨g5, cap, cur, hv, hB, hcu, hle, _, _, htk⟩⟩ := O5
      · omega
      · refine ⟨g5, cap, hv, ⟨by rw [List.length_set]; exact hle, fun i hi => ?_⟩, hB⟩
        rw [cell_of_row _ _ _ _ _ (0, 0) hcu]
        have h1 : (cur.toList.take (L.length * 1))[i]? = some (.string (strL (L.set k s) i)) := by
          rw [htk, List.getElem?_map]
          unfold strL
          rw [List.getD_eq_getElem?_getD, List.getElem?_eq_getElem hi]; rfl
        rw [List.length_set] at hi
        rw [List.getElem?_take, if_pos (by omega)] at h1
        rw [← Array.getElem?_toList]; exact h1
    have HV5 : Hid (Blk w5 28 w.heap.size #[.slice (some ⟨b, 0, none⟩) L.length c, .int .i64 F, .bool false, .int .i64 N]) := HV4.out.below b5 (by omega)
    have HU5 : Hid (Blk w5 28 (w.heap.size + 1) #[.slice none 0 0, .int .i64 0, .bool false, .int .i64 0]) := HU4.out.below b5 (by omega)
    have HB5 : Hid (Below w.heap.size w w5) := HB2.out.trans ((HB4.out.trans b5).mono (by omega))
    have HRow : Hid (RowD w5 g5 c5 (L.set k s) ∧ w.heap.size + 2 ≤ g5) := hRow
    have hg5 := hRow.2
    have y0 : w5.cell? ⟨w.heap.size, 0, none⟩ = some (.slice (some ⟨b, 0, none⟩) L.length c) := HV5.out.cell 0
    have y1 : w5.cell? ⟨w.heap.size, 1, none⟩ = some (.int .i64 F) := HV5.out.cell 1
    have y2 : w5.cell? ⟨w.heap.size, 2, none⟩ = some (.bool false) := HV5.out.cell 2
    have y3 : w5.cell? ⟨w.heap.size, 3, none⟩ = some (.int .i64 N) := HV5.out.cell 3
    have z0 : w5.cell? ⟨w.heap.size + 1, 0, none⟩ = some (.slice none 0 0) := HU5.out.cell 0
    have z1 : w5.cell? ⟨w.heap.size + 1, 1, none⟩ = some (.int .i64 0) := HU5.out.cell 1
    have z2 : w5.cell? ⟨w.heap.size + 1, 2, none⟩ = some (.bool false) := HU5.out.cell 2
    have z3 : w5.cell? ⟨w.heap.size + 1, 3, none⟩ = some (.int .i64 0) := HU5.out.cell 3
    have fy0 := HV5.out.free 0
    have fy1 := HV5.out.free 1
    have fy3 := HV5.out.free 3
    have fz0 := HU5.out.free 0
    have fz1 := HU5.out.free 1
    have fz2 := HU5.out.free 2
    have fz3 := HU5.out.free 3
    have hne1 : ¬ (w.heap.size = w.heap.size + 1) := by omega
    have hne2 : ¬ (w.heap.size + 1 = w.heap.size) := by omega
    clear hown5 hgr b5 O5 O4 HV4 HU4 HB4 HR4 HR2 HV2 HU2 HB2 HS2 hRow hsrc d0
    by_cases hF0 : 0 < F
    · have q4 : decide (0 < F) = true := decide_eq_true hF0
      have hF2 : F2 = F - 1 := by rw [HF2.out, if_pos hF0]
      have hwF : IntKind.i64.wrap (F - 1) = F - 1 := by rw [IntKind.wrap_i64]; omega
      subst hF2
      clear HF2
      go_wp2_with fail
      refine bodyPost_rowTmp rfl (w.heap.size + 1) #[.slice (some ⟨g5, 0, none⟩) _ c5, .int .i64 (F - 1), .bool false, .int .i64 (N + 1)] _ rfl rfl rfl ((((((((HU5.out.other ⟨w.heap.size, 0, none⟩ hne2 _).other ⟨w.heap.size, 3, none⟩ hne2 _).other ⟨w.heap.size, 1, none⟩ hne2 _).setAt 0 _).setAt 1 _).setAt 2 _).setAt 3 _)) _ Tryz.underlying28 rfl (by kernel_rfl) ⟨_, rfl, ⟨g5, c5, (by unfold devA; first | (simp only [List.length_set]; done) | (simp only [List.length_set, hLe]; done)), ?_⟩, ?_⟩
      · exact (((((((HRow.out.1.other _ (by show w.heap.size ≠ g5; omega) _).other _ (by show w.heap.size ≠ g5; omega) _).other _ (by show w.heap.size ≠ g5; omega) _).other _ (by show w.heap.size + 1 ≠ g5; omega) _).other _ (by show w.heap.size + 1 ≠ g5; omega) _).other _ (by show w.heap.size + 1 ≠ g5; omega) _).other _ (by show w.heap.size + 1 ≠ g5; omega) _)
      · exact ((((((HB5.out.setCell (p := ⟨w.heap.size, 0, none⟩) (Nat.le_refl _) _).setCell (p := ⟨w.heap.size, 3, none⟩) (Nat.le_refl _) _).setCell (p := ⟨w.heap.size, 1, none⟩) (Nat.le_refl _) _).setCell (p := ⟨w.heap.size + 1, 0, none⟩) (Nat.le_succ _) _).setCell (p := ⟨w.heap.size + 1, 1, none⟩) (Nat.le_succ _) _).setCell (p := ⟨w.heap.size + 1, 2, none⟩) (Nat.le_succ _) _).setCell (p := ⟨w.heap.size + 1, 3, none⟩) (Nat.le_succ _) _
    · have q4 : decide (0 < F) = false := decide_eq_false hF0
      have hF2 : F2 = F := by rw [HF2.out, if_neg hF0]
      subst hF2
      clear HF2
      go_wp2_with fail
      refine bodyPost_rowTmp rfl (w.heap.size + 1) #[.slice (some ⟨g5, 0, none⟩) _ c5, .int .i64 F2, .bool false, .int .i64 (N + 1)] _ rfl rfl rfl (((((((HU5.out.other ⟨w.heap.size, 0, none⟩ hne2 _).other ⟨w.heap.size, 3, none⟩ hne2 _).setAt 0 _).setAt 1 _).setAt 2 _).setAt 3 _)) _ Tryz.underlying28 rfl (by kernel_rfl) ⟨_, rfl, ⟨g5, c5, (by unfold devA; first | (simp only [List.length_set]; done) | (simp only [List.length_set, hLe]; done)), ?_⟩, ?_⟩
      · exact ((((((HRow.out.1.other _ (by show w.heap.size ≠ g5; omega) _).other _ (by show w.heap.size ≠ g5; omega) _).other _ (by show w.heap.size + 1 ≠ g5; omega) _).other _ (by show w.heap.size + 1 ≠ g5; omega) _).other _ (by show w.heap.size + 1 ≠ g5; omega) _).other _ (by show w.heap.size + 1 ≠ g5; omega) _)
      · exact (((((HB5.out.setCell (p := ⟨w.heap.size, 0, none⟩) (Nat.le_refl _) _).setCell (p := ⟨w.heap.size, 3, none⟩) (Nat.le_refl _) _).setCell (p := ⟨w.heap.size + 1, 0, none⟩) (Nat.le_succ _) _).setCell (p := ⟨w.heap.size + 1, 1, none⟩) (Nat.le_succ _) _).setCell (p := ⟨w.heap.size + 1, 2, none⟩) (Nat.le_succ _) _).setCell (p := ⟨w.heap.size + 1, 3, none⟩) (Nat.le_succ _) _

end Go.Proofs.YtaakmcihpdbilaaGreatDoor
