import Derived.Test.YtaakmcihpdbilaaGreatDoorRS
/- Layer 18, the document's: writes. -/
namespace Go.Proofs.YtaakmcihpdbilaaGreatDoor
open Go.RowKit
set_option maxRecDepth 100000
set_option linter.unusedSimpArgs false
set_option maxRecDepth 100000

/-- Block i of a text; the blocks of a text written from one on, f of them; then the head. -/
def blkB (s : ByteArray) (i : Nat) : ByteArray := s.extract (64 * i) (64 * i + 64)
def wrsF (s : ByteArray) (p : Nat) : Nat → Nat → DevT → DevT × Int
  | 0, _, D => (D, 0)
  | f + 1, i, D => if (writeB D (p + 1 + i) (blkB s i)).2 = 0 then wrsF s p f (i + 1) (writeB D (p + 1 + i) (blkB s i)).1 else writeB D (p + 1 + i) (blkB s i)
def writesP (D : DevT) (turn m : Nat) (s : ByteArray) : DevT × Int :=
  let p := turn % 2 * (D.1.length / 2)
  let R := wrsF (filB s) p ((s.size + 63) / 64 - m) m D
  if R.2 = 0 then writeB R.1 p (hdB (turn : Int) s) else R

/-- A device's measures: so many blocks, at most c written, a fuse that can be one. -/
structure DvO (n : Nat) (c : Int) (D : DevT) : Prop where
  len : D.1.length = n
  n0 : 0 ≤ D.2.2.2
  n1 : D.2.2.2 ≤ c
  f0 : -1 ≤ D.2.1
  f1 : D.2.1 ≤ 9223372036854775807
theorem DvO.mono {n : Nat} {c c' : Int} {D : DevT} (h : DvO n c D) (hc : c ≤ c') : DvO n c' D := ⟨h.len, h.n0, Int.le_trans h.n1 hc, h.f0, h.f1⟩
theorem DvO.wr {n : Nat} {c : Int} {D : DevT} (h : DvO n c D) (k : Nat) (s : ByteArray) : DvO n (c + 1) (writeB D k s).1 := by
  have h1 := h.n0
  have h2 := h.n1
  have h3 := h.f0
  have h4 := h.f1
  unfold writeB
  split
  · exact ⟨h.len, h.n0, by show D.2.2.2 ≤ c + 1; omega, by show (-1 : Int) ≤ -1; omega, by show (-1 : Int) ≤ _; omega⟩
  · refine ⟨by show (D.1.set k s).length = n; rw [List.length_set]; exact h.len, by show 0 ≤ D.2.2.2 + 1; omega, by show D.2.2.2 + 1 ≤ c + 1; omega, ?_, ?_⟩
    · show -1 ≤ (if 0 < D.2.1 then D.2.1 - 1 else D.2.1); split <;> omega
    · show (if 0 < D.2.1 then D.2.1 - 1 else D.2.1) ≤ _; split <;> omega

theorem writeB_two (D : DevT) (k : Nat) (s : ByteArray) : (writeB D k s).2 = 0 ∨ (writeB D k s).2 = 170 := by
  unfold writeB
  split
  · exact .inr rfl
  · exact .inl rfl

theorem rwriteB_any (D : DevT) (v : Value) (n : Nat) (c : Int) (k : Nat) (s : ByteArray) (w : World) (h : DevIn w v D) (hD : DvO n c D) (hn : n ≤ 2048) (hc : c < 1152921504606846976) (hk : k < n) (hs : s.size = 64) :
    Calls Tryz.prog 10 #[v, .int .i64 (k : Int), .string s] w fun e w' => ∃ v', e = .returned (.tuple #[v', .int .i64 (writeB D k s).2]) ∧ DevIn w' v' (writeB D k s).1 ∧ Below w.heap.size w w' := by
  have hl : D.1.length ≤ 1048576 := by have := hD.len; omega
  have hk2 : k < D.1.length := by rw [hD.len]; exact hk
  by_cases ho : D.2.2.1 = true ∨ D.2.1 = 0
  · have e : writeB D k s = (offB D, 170) := by unfold writeB; rw [if_pos ho]
    rw [e]
    exact rwrite17_off D v k s w h hl hk2 hs ho
  · have h1 : D.2.2.1 = false := Bool.eq_false_iff.2 (fun e => ho (.inl e))
    have h2 : D.2.1 ≠ 0 := fun e => ho (.inr e)
    have e : (writeB D k s).2 = 0 := by
      unfold writeB
      rw [if_neg ho]
    rw [e]
    exact rwrite17_yes D v k s w h hl hk2 hs h1 h2 ⟨hD.n0, by have := hD.n1; omega⟩ ⟨hD.f0, hD.f1⟩

theorem rd18_setRow {w : World} {r c q : Nat} {L : List ByteArray} (h : RowD w r c L) (hq : r ≠ q) (cs : Array Value) : RowD (w.setRow q cs) r c L :=
  ⟨h.1, fun i hi => Eq.trans (cell_setRow_other _ _ _ ⟨r, i, none⟩ hq) (h.2 i hi)⟩
theorem rd18_apart {w : World} {r c q : Nat} {L : List ByteArray} {t : TypeId} {cs : Array Value} {a : Option Addr} {n m : Nat} (h : RowD w r c L) (hl : 0 < L.length) (hq : Blk w t q cs) (hc : cs[0]? = some (.slice a n m)) : r ≠ q := by
  have h0 := h.2 0 hl
  rintro rfl
  rw [hq.cell 0, hc] at h0
  cases h0

/-- The frame of writes: the device's copy at the first block, the answer's cell at the second. -/
structure WrS (w W : World) (D : DevT) (r c : Nat) : Prop where
  d : Blk W 28 w.heap.size #[.slice (some ⟨r, 0, none⟩) D.1.length c, .int .i64 D.2.1, .bool D.2.2.1, .int .i64 D.2.2.2]
  z : Blk W 28 (w.heap.size + 1) #[.slice none 0 0, .int .i64 0, .bool false, .int .i64 0]
  r : RowD W r c D.1
  b : Below w.heap.size w W
theorem WrS.on {w W W' : World} {D : DevT} {r c : Nat} (h : WrS w W D r c) (hb : Below W.heap.size W W') : WrS w W' D r c := ⟨h.d.on hb, h.z.on hb, h.r.on hb, below_step h.b (Nat.le_refl _) hb⟩
theorem WrS.cells {w W : World} {D : DevT} {r c : Nat} (h : WrS w W D r c) : W.cell? ⟨w.heap.size, 0, none⟩ = some (.slice (some ⟨r, 0, none⟩) D.1.length c) ∧ W.cell? ⟨w.heap.size, 1, none⟩ = some (.int .i64 D.2.1) ∧ W.cell? ⟨w.heap.size, 2, none⟩ = some (.bool D.2.2.1) ∧ W.cell? ⟨w.heap.size, 3, none⟩ = some (.int .i64 D.2.2.2) := ⟨h.d.cell 0, h.d.cell 1, h.d.cell 2, h.d.cell 3⟩
theorem WrS.devIn {w W : World} {D : DevT} {r c : Nat} (h : WrS w W D r c) : DevIn W (.agg #[.slice (some ⟨r, 0, none⟩) D.1.length c, .int .i64 D.2.1, .bool D.2.2.1, .int .i64 D.2.2.2]) D := ⟨r, c, rfl, h.r⟩
/-- The copy is another device now. -/
theorem WrS.put {w W : World} {D E : DevT} {r c r' c' : Nat} (h : WrS w W D r c) (hr : RowD W r' c' E.1) (hl : 0 < E.1.length) : WrS w (W.setRow w.heap.size #[.slice (some ⟨r', 0, none⟩) E.1.length c', .int .i64 E.2.1, .bool E.2.2.1, .int .i64 E.2.2.2]) E r' c' :=
  ⟨h.d.setRow _, h.z.setRowOther _ (by omega) _, rd18_setRow hr (rd18_apart hr hl h.d rfl) _, below_setRow h.b (Nat.le_refl _) _⟩


set_option maxHeartbeats 8000000 in
theorem rwrites18_any (D : DevT) (v : Value) (n : Nat) (c0 : Int) (turn m : Nat) (s : ByteArray) (w : World) (h : DevIn w v D) (hD : DvO n c0 D) (hn : n ≤ 2048) (hc : c0 < 576460752303423488) (hr : (s.size + 63) / 64 + 1 ≤ n / 2) (hm : m ≤ (s.size + 63) / 64) (ht : turn ≤ 1099511627775) :
    Calls Tryz.prog 42 #[v, .int .i64 (turn : Int), .int .i64 (m : Int), .string s] w fun e w' => ∃ v', e = .returned (.tuple #[v', .int .i64 (writesP D turn m s).2]) ∧ DevIn w' v' (writesP D turn m s).1 ∧ Below w.heap.size w w' := by
  obtain ⟨b, c, rfl, hrow⟩ := h
  unfold devA
  obtain ⟨S, HS⟩ : ∃ S, Hid (S = filB s) := ⟨_, rfl⟩
  obtain ⟨q, hq⟩ : ∃ q, (s.size + 63) / 64 = q := ⟨_, rfl⟩
  have hSz : S.size = 64 * q := by rw [HS.out, filB_size, hq]
  obtain ⟨l2, hl2⟩ : ∃ l2, n / 2 = l2 := ⟨_, rfl⟩
  obtain ⟨p, hp⟩ : ∃ p, turn % 2 * l2 = p := ⟨_, rfl⟩
  have hpl : p = 0 ∨ p = l2 := by
    rcases (show turn % 2 = 0 ∨ turn % 2 = 1 by omega) with e | e
    · left; rw [← hp, e]; omega
    · right; rw [← hp, e]; omega
  rw [hq] at hr hm
  rw [hl2] at hr
  have hn1 : 0 < n := by omega
  have HW : Hid (writesP D turn m s = if (wrsF S p (q - m) m D).2 = 0 then writeB (wrsF S p (q - m) m D).1 p (hdB (turn : Int) s) else wrsF S p (q - m) m D) := by
    show _ = _
    unfold writesP
    simp only [hD.len, hl2, hp, hq, HS.out]
  have r1 : Int.tmod (turn : Int) 2 = ((turn % 2 : Nat) : Int) := rfl
  have r2 : Int.tdiv (D.1.length : Int) 2 = (l2 : Int) := by rw [hD.len, Int.tdiv_eq_ediv_of_nonneg (by omega)]; omega
  have r2' : (D.1.length : Int) / 2 = (l2 : Int) := by rw [hD.len]; omega
  have r3 : ((turn % 2 : Nat) : Int) * (l2 : Int) = (p : Int) := by rw [← hp, Int.natCast_mul]
  have CF : Hid (∀ w, Calls Tryz.prog 60 #[.string s] w fun e w' => e = .returned (.string S) ∧ Below w.heap.size w w') := by rw [HS.out]; exact fun w => rfilled18_any s w (by omega)
  have HX0 : Hid (WrS w ((w.alloc (.cells #[.slice (some ⟨b, 0, none⟩) D.1.length c, .int .i64 D.2.1, .bool D.2.2.1, .int .i64 D.2.2.2] 28)).alloc (.cells #[.slice none 0 0, .int .i64 0, .bool false, .int .i64 0] 28)) D b c) :=
    ⟨(Blk.new w _ _).alloc _, Blk.new' _ _ _ _ (by simp), (hrow.on (below_new w _)).on (below_new _ _), (below_new w _).alloc (by simp) _⟩
  obtain ⟨x0, x1, x2, x3⟩ := HX0.out.cells
  have HD0 : Hid (DvO n c0 D) := hD
  have HSz : Hid (s.size ≤ 65536) := by show s.size ≤ 65536; omega
  clear hrow x1 x2 x3 hD
  go_enter Tryz.func42, Tryz.ntmps42
  have e10 : wrap64 ((turn : Int) % 2 * (l2 : Int)) = (p : Int) := by
    have e : (turn : Int) % 2 * (l2 : Int) = (p : Int) := by rw [← r3]; rfl
    rw [e, w64_small _ (by omega) (by omega)]
  go_wp2_with fail
  rw [e10]
  refine (CF.out _).mono ?_
  rintro e w1 ⟨rfl, hb1⟩
  have HX1 : Hid (WrS w w1 D b c) := HX0.out.on hb1
  clear HX0 hb1 CF x0 e10 r1 r2 r2' r3
  go_wp2_with fail
  go_loopw [12] (fun i wr => ∃ (k : Nat) (E : DevT) (r c : Nat), m ≤ k ∧ k ≤ q ∧ i = .int .i64 k ∧ Hid (WrS w wr E r c) ∧ Hid (DvO n (c0 + k) E) ∧ Hid (wrsF S p (q - k) k E = wrsF S p (q - m) m D)) (fun i _ => q - (intOf i).toNat)
  case atStart => exact ⟨m, D, b, c, Nat.le_refl _, hm, rfl, HX1, HD0.out.mono (by omega), rfl⟩
  case round =>
    obtain ⟨k, E, r, c', hk1, hk2, rfl, HX, HD, HF⟩ := hrel
    clear HX1 HD0
    by_cases hlt : k < q
    · obtain ⟨z, hz⟩ : ∃ z : Nat, z = 64 * k := ⟨_, rfl⟩
      obtain ⟨z2, hz2⟩ : ∃ z2 : Nat, z2 = z + 64 := ⟨_, rfl⟩
      obtain ⟨p1, hp1⟩ : ∃ p1 : Nat, p1 = p + 1 := ⟨_, rfl⟩
      obtain ⟨pk, hpk⟩ : ∃ pk : Nat, pk = p1 + k := ⟨_, rfl⟩
      have wa : IntKind.i64.wrap (64 * (k : Int)) = (z : Int) := by rw [IntKind.wrap_i64]; omega
      have wb : IntKind.i64.wrap ((z : Int) + 64) = (z2 : Int) := by rw [IntKind.wrap_i64]; omega
      have wc : IntKind.i64.wrap ((p : Int) + 1) = (p1 : Int) := by rw [IntKind.wrap_i64]; omega
      have wd : IntKind.i64.wrap ((p1 : Int) + (k : Int)) = (pk : Int) := by rw [IntKind.wrap_i64]; omega
      have d0 : (z : Int) < (S.size : Int) := by omega
      have d1 : (z2 : Int) ≤ (S.size : Int) := by omega
      have d2 : (z : Int) ≤ (z2 : Int) := by omega
      have d3 : (64 : Int) * (k : Int) < (S.size : Int) := by omega
      obtain ⟨B, HB⟩ : ∃ B, Hid (S.extract z z2 = B) := ⟨_, rfl⟩
      have xB : S.extract z z2 = B := HB.out
      have hB64 : Hid (B.size = 64) := by show B.size = 64; rw [← HB.out, ByteArray.size_extract]; omega
      have HBk : Hid (blkB S k = B) := by show S.extract (64 * k) (64 * k + 64) = B; rw [← HB.out, hz2, hz]
      have HPk : Hid (p + 1 + k = pk ∧ pk < n) := ⟨by omega, by omega⟩
      have hS0 := (HX.out.on (Below.refl _ _).drew).cells
      have HSq : Hid (S.size = 64 * q) := hSz
      clear hSz hz hz2 hp1 hpk HB
      go_wp2_with fail
      refine wp_region_noPanic ?_
      refine wp_region_held_drew (S := fun w' => w'.cell? ⟨w.heap.size, 0, none⟩ = some (.slice (some ⟨r, 0, none⟩) E.1.length c') ∧ w'.cell? ⟨w.heap.size, 1, none⟩ = some (.int .i64 E.2.1) ∧ w'.cell? ⟨w.heap.size, 2, none⟩ = some (.bool E.2.2.1) ∧ w'.cell? ⟨w.heap.size, 3, none⟩ = some (.int .i64 E.2.2.2)) (by kernel_rfl) (by first | exact trivial | assumption | exact ⟨by assumption, by assumption⟩) (fun hHeld => ?_)
      refine take_at (i := 0) (v := ?_) rfl rfl (by kernel_rfl) (by kernel_rfl) (by kernel_rfl) (fun _ _ _ h => h) (Or.inl ⟨by rfl, ?_⟩) (by assumption) ?_
      rotate_left
      · intro w hSw; (try dsimp only at hSw); go_simp; try with_reducible rfl
      try simp only [Act.put, List.setIfInBounds_toArray, List.set_cons_zero, List.set_cons_succ]
      refine take_at (i := 1) (v := ?_) rfl rfl (by kernel_rfl) (by kernel_rfl) (by kernel_rfl) (fun _ _ _ h => h) (Or.inl ⟨by rfl, ?_⟩) (by assumption) ?_
      rotate_left
      · intro w hSw; (try dsimp only at hSw); go_simp; try with_reducible rfl
      try simp only [Act.put, List.setIfInBounds_toArray, List.set_cons_zero, List.set_cons_succ]
      refine take_at (i := 2) (v := ?_) rfl rfl (by kernel_rfl) (by kernel_rfl) (by kernel_rfl) (fun _ _ _ h => h) (Or.inl ⟨by rfl, ?_⟩) (by assumption) ?_
      rotate_left
      · intro w hSw; (try dsimp only at hSw); go_simp; try with_reducible rfl
      try simp only [Act.put, List.setIfInBounds_toArray, List.set_cons_zero, List.set_cons_succ]
      refine take_at (i := 3) (v := ?_) rfl rfl (by kernel_rfl) (by kernel_rfl) (by kernel_rfl) (fun _ _ _ h => h) (Or.inl ⟨by rfl, ?_⟩) (by assumption) ?_
      rotate_left
      · intro w hSw; (try dsimp only at hSw); go_simp; try with_reducible rfl
      try simp only [Act.put, List.setIfInBounds_toArray, List.set_cons_zero, List.set_cons_succ]
      refine take_at (i := 4) (v := ?_) rfl rfl (by kernel_rfl) (by kernel_rfl) (by kernel_rfl) (fun _ _ _ h => h) (Or.inl ⟨by rfl, ?_⟩) (by assumption) ?_
      rotate_left
      · intro w hSw; (try dsimp only at hSw); go_simp; try with_reducible rfl
      try simp only [Act.put, List.setIfInBounds_toArray, List.set_cons_zero, List.set_cons_succ]
      refine take_at (i := 5) (v := ?_) rfl rfl (by kernel_rfl) (by kernel_rfl) (by kernel_rfl) (fun _ _ _ h => h) (Or.inl ⟨by rfl, ?_⟩) (by assumption) ?_
      rotate_left
      · intro w hSw; (try dsimp only at hSw); go_simp; try with_reducible rfl
      try simp only [Act.put, List.setIfInBounds_toArray, List.set_cons_zero, List.set_cons_succ]
      refine take_at (i := 6) (v := ?_) rfl rfl (by kernel_rfl) (by kernel_rfl) (by kernel_rfl) (fun _ _ _ h => h) (Or.inl ⟨by rfl, ?_⟩) (by assumption) ?_
      rotate_left
      · intro w hSw; (try dsimp only at hSw); go_simp; try with_reducible rfl
      try simp only [Act.put, List.setIfInBounds_toArray, List.set_cons_zero, List.set_cons_succ]
      refine take_at (i := 7) (v := ?_) rfl rfl (by kernel_rfl) (by kernel_rfl) (by kernel_rfl) (fun _ _ _ h => h) (Or.inl ⟨by rfl, ?_⟩) (by assumption) ?_
      rotate_left
      · intro w hSw; (try dsimp only at hSw); go_simp; try with_reducible rfl
      try simp only [Act.put, List.setIfInBounds_toArray, List.set_cons_zero, List.set_cons_succ]
      refine take_at (i := 8) (v := ?_) rfl rfl (by kernel_rfl) (by kernel_rfl) (by kernel_rfl) (fun _ _ _ h => h) (Or.inl ⟨by rfl, ?_⟩) (by assumption) ?_
      rotate_left
      · intro w hSw; (try dsimp only at hSw); go_simp; try with_reducible rfl
      try simp only [Act.put, List.setIfInBounds_toArray, List.set_cons_zero, List.set_cons_succ]
      refine take_at (i := 9) (v := ?_) rfl rfl (by kernel_rfl) (by kernel_rfl) (by kernel_rfl) (fun _ _ _ h => h) (Or.inl ⟨by rfl, ?_⟩) (by assumption) ?_
      rotate_left
      · intro w hSw; (try dsimp only at hSw); go_simp; try with_reducible rfl
      try simp only [Act.put, List.setIfInBounds_toArray, List.set_cons_zero, List.set_cons_succ]
      refine take_at (i := 10) (v := ?_) rfl rfl (by kernel_rfl) (by kernel_rfl) (by kernel_rfl) (fun _ _ _ h => h) (Or.inl ⟨by rfl, ?_⟩) (by assumption) ?_
      rotate_left
      · intro w hSw; (try dsimp only at hSw); go_simp; try with_reducible rfl
      try simp only [Act.put, List.setIfInBounds_toArray, List.set_cons_zero, List.set_cons_succ]
      refine take_at (i := 11) (v := ?_) rfl rfl (by kernel_rfl) (by kernel_rfl) (by kernel_rfl) (fun _ _ _ h => h) (Or.inl ⟨by rfl, ?_⟩) (by assumption) ?_
      rotate_left
      · intro w hSw; (try dsimp only at hSw); go_simp; try with_reducible rfl
      try simp only [Act.put, List.setIfInBounds_toArray, List.set_cons_zero, List.set_cons_succ]
      obtain ⟨R, HR⟩ : ∃ R, Hid (writeB E pk B = R) := ⟨_, rfl⟩
      have CW : Hid (∀ W, DevIn W (.agg #[.slice (some ⟨r, 0, none⟩) E.1.length c', .int .i64 E.2.1, .bool E.2.2.1, .int .i64 E.2.2.2]) E → Calls Tryz.prog 10 #[.agg #[.slice (some ⟨r, 0, none⟩) E.1.length c', .int .i64 E.2.1, .bool E.2.2.1, .int .i64 E.2.2.2], .int .i64 (pk : Int), .string B] W fun e w' => ∃ v', e = .returned (.tuple #[v', .int .i64 R.2]) ∧ DevIn w' v' R.1 ∧ Below W.heap.size W w') := fun W hW => by
        have := rwriteB_any E _ n _ pk B W hW HD.out hn (by omega) HPk.out.2 hB64.out
        rw [HR.out] at this
        exact this
      have HDR : Hid (DvO n (c0 + (k + 1 : Nat)) R.1) := by
        have := HD.out.wr pk B
        rw [HR.out] at this
        exact this.mono (by omega)
      have HL : Hid (0 < R.1.1.length) := by have := HDR.out.len; show 0 < R.1.1.length; omega
      have HDE : Hid (0 < E.1.length) := by have := HD.out.len; show 0 < E.1.length; omega
      have HF1 : Hid (wrsF S p (q - m) m D = if R.2 = 0 then wrsF S p (q - (k + 1)) (k + 1) R.1 else R) := by
        show _ = _
        rw [← HF.out, show q - k = (q - (k + 1)) + 1 by omega]
        show (if (writeB E (p + 1 + k) (blkB S k)).2 = 0 then wrsF S p (q - (k + 1)) (k + 1) (writeB E (p + 1 + k) (blkB S k)).1 else writeB E (p + 1 + k) (blkB S k)) = _
        rw [HPk.out.1, HBk.out, HR.out]
      have HR2 : Hid (R.2 = 0 ∨ R.2 = 170) := by rw [← HR.out]; exact writeB_two _ _ _
      clear HF HD HR HBk hB64 xB wa wb wc wd d0 d1 d2 d3
      refine wpAnyH_ready (rs := [12, 16]) (by kernel_rfl) (by simp) ?_
      refine AllReadyH.cons rfl (fun K hK => ?_) (AllReadyH.cons rfl (fun K hK => ?_) AllReadyH.nil)
      · go_simp
        refine (CW.out _ (HX.out.on (Below.refl _ _).drew).devIn).mono ?_
        rintro e w2 ⟨v', rfl, ⟨r2, c2, rfl, hr2⟩, hb2⟩
        unfold devA
        have HX2 : Hid (WrS w w2 E r c') := (HX.out.on (Below.refl _ _).drew).on hb2
        clear HX CW hb2
        refine hK.out _ _ HX2.out.cells (fun hHeld => ?_)
        clear hK K
        refine take_at (i := 13) (v := ?_) rfl rfl (by kernel_rfl) (by kernel_rfl) (by kernel_rfl) (fun _ _ _ h => h) (Or.inl ⟨by rfl, ?_⟩) (by assumption) ?_
        rotate_left
        · intro w hSw; (try dsimp only at hSw); go_simp; try with_reducible rfl
        try simp only [Act.put, List.setIfInBounds_toArray, List.set_cons_zero, List.set_cons_succ]
        refine take_at (i := 14) (v := ?_) rfl rfl (by kernel_rfl) (by kernel_rfl) (by kernel_rfl) (fun _ _ _ h => h) (Or.inl ⟨by rfl, ?_⟩) (by assumption) ?_
        rotate_left
        · intro w hSw; (try dsimp only at hSw); go_simp; try with_reducible rfl
        try simp only [Act.put, List.setIfInBounds_toArray, List.set_cons_zero, List.set_cons_succ]
        refine take_at (i := 15) (v := ?_) rfl rfl (by kernel_rfl) (by kernel_rfl) (by kernel_rfl) (fun _ _ _ h => h) (Or.inl ⟨by rfl, ?_⟩) (by assumption) ?_
        rotate_left
        · intro w hSw; (try dsimp only at hSw); go_simp; try with_reducible rfl
        try simp only [Act.put, List.setIfInBounds_toArray, List.set_cons_zero, List.set_cons_succ]
        refine wpAnyH_ready (rs := [16]) (by kernel_rfl) (by simp) ?_
        refine AllReadyH.cons rfl (fun K hK => ?_) AllReadyH.nil
        go_simp
        refine hK.out _ _ ((HX2.out.on (below_new _ _)).cells) (fun hHeld => ?_)
        clear hK K
        refine wpAnyH_ready (rs := [17]) (by kernel_rfl) (by simp) ?_
        refine AllReadyH.cons rfl (fun K hK => ?_) AllReadyH.nil
        go_simp
        refine hK.out _ _ ((HX2.out.on (below_new _ _)).cells) (fun hHeld => ?_)
        clear hK K
        refine take_at (i := 18) (v := ?_) rfl rfl (by kernel_rfl) (by kernel_rfl) (by kernel_rfl) (fun _ _ _ h => h) (Or.inl ⟨by rfl, ?_⟩) (by assumption) ?_
        rotate_left
        · intro w hSw; (try dsimp only at hSw); go_simp; try with_reducible rfl
        try simp only [Act.put, List.setIfInBounds_toArray, List.set_cons_zero, List.set_cons_succ]
        refine wpAnyH_done (by kernel_rfl) (NoPanic.normal ?_) _
        obtain ⟨nb, hnb⟩ : ∃ nb, nb = w2.heap.size := ⟨_, rfl⟩
        obtain ⟨V, hV⟩ : ∃ V, V = w2.alloc (.cells #[.slice (some ⟨r2, 0, none⟩) R.1.1.length c2, .int .i64 R.1.2.1, .bool R.1.2.2.1, .int .i64 R.1.2.2.2] 28) := ⟨_, rfl⟩
        have HXV : Hid (WrS w V E r c') := by rw [hV]; exact HX2.out.on (below_new _ _)
        have HNV : Hid (Blk V 28 nb #[.slice (some ⟨r2, 0, none⟩) R.1.1.length c2, .int .i64 R.1.2.1, .bool R.1.2.2.1, .int .i64 R.1.2.2.2]) := by show Blk _ _ _ _; rw [hV]; exact Blk.new' _ _ _ _ hnb.symm
        have HRV : Hid (RowD V r2 c2 R.1.1) := by rw [hV]; exact hr2.on (below_new _ _)
        rw [← hV, ← hnb]
        clear hV hnb hr2 HX2 hS0
        have n0 : V.cell? ⟨nb, 0, none⟩ = some (.slice (some ⟨r2, 0, none⟩) R.1.1.length c2) := HNV.out.cell 0
        have n1 : V.cell? ⟨nb, 1, none⟩ = some (.int .i64 R.1.2.1) := HNV.out.cell 1
        have n2 : V.cell? ⟨nb, 2, none⟩ = some (.bool R.1.2.2.1) := HNV.out.cell 2
        have n3 : V.cell? ⟨nb, 3, none⟩ = some (.int .i64 R.1.2.2.2) := HNV.out.cell 3
        have HX6 : Hid (WrS w (V.setRow w.heap.size #[.slice (some ⟨r2, 0, none⟩) R.1.1.length c2, .int .i64 R.1.2.1, .bool R.1.2.2.1, .int .i64 R.1.2.2.2]) R.1 r2 c2) := HXV.out.put HRV.out HL.out
        rcases HR2.out with h0 | h0
        · have g0 : (R.2 != 0) = false := by rw [bne_eq_false_iff_eq]; exact h0
          go_wp2_with (with_reducible refine wpList_storeBlk rfl 28 _ _ rfl w.heap.size _ #[.slice (some ⟨r2, 0, none⟩) R.1.1.length c2, .int .i64 R.1.2.1, .bool R.1.2.2.1, .int .i64 R.1.2.2.2] (by with_unfolding_all rfl) (by with_unfolding_all rfl) HXV.out.d rfl (by kernel_rfl) (by simp [Value.oneCell']) ?_; dsimp only [Act.put])
          refine ⟨⟨k + 1, R.1, r2, c2, by omega, by omega, by go_num, HX6, HDR, ?_⟩, ?_⟩
          · show _ = _
            rw [HF1.out, if_pos h0]
          · simp [intOf]; omega
        · have g0 : (R.2 != 0) = true := by rw [bne_iff_ne, h0]; decide
          obtain ⟨y0, y1, y2, y3⟩ := HX6.out.cells
          go_wp2_with (first | (with_reducible refine wpList_storeBlk rfl 28 _ _ rfl w.heap.size _ #[.slice (some ⟨r2, 0, none⟩) R.1.1.length c2, .int .i64 R.1.2.1, .bool R.1.2.2.1, .int .i64 R.1.2.2.2] (by with_unfolding_all rfl) (by with_unfolding_all rfl) HXV.out.d rfl (by kernel_rfl) (by simp [Value.oneCell']) ?_; dsimp only [Act.put]) | (with_reducible refine wpList_storeBlk rfl 28 _ _ rfl (w.heap.size + 1) _ #[.slice (some ⟨r2, 0, none⟩) R.1.1.length c2, .int .i64 R.1.2.1, .bool R.1.2.2.1, .int .i64 R.1.2.2.2] (by with_unfolding_all rfl) (by with_unfolding_all rfl) HX6.out.z rfl (by kernel_rfl) (by simp [Value.oneCell']) ?_; dsimp only [Act.put]))
          have e9 : writesP D turn m s = R := by
            have e8 : wrsF S p (q - m) m D = R := by rw [HF1.out, if_neg (by rw [h0]; decide)]
            rw [HW.out, e8, if_neg (by rw [h0]; decide)]
          rw [e9]
          refine bodyPost_rowTmp rfl (w.heap.size + 1) #[.slice (some ⟨r2, 0, none⟩) R.1.1.length c2, .int .i64 R.1.2.1, .bool R.1.2.2.1, .int .i64 R.1.2.2.2] _ rfl rfl rfl (HX6.out.z.setRow _) _ Tryz.underlying28 rfl (by kernel_rfl) ⟨_, rfl, ⟨r2, c2, rfl, ?_⟩, ?_⟩
          · exact rd18_setRow HX6.out.r (rd18_apart HX6.out.r HL.out HX6.out.z rfl) _
          · exact below_setRow HX6.out.b (by omega) _
      · go_simp
        obtain ⟨nb, hnb⟩ : ∃ nb, nb = wr.heap.size := ⟨_, rfl⟩
        have HX1 : Hid (WrS w (wr.drew.alloc (.cells #[.slice none 0 0, .int .i64 0, .bool false, .int .i64 0] 28)) E r c') := (HX.out.on (Below.refl _ _).drew).on (below_new _ _)
        have HN1 : Hid (Blk (wr.drew.alloc (.cells #[.slice none 0 0, .int .i64 0, .bool false, .int .i64 0] 28)) 28 nb #[.slice none 0 0, .int .i64 0, .bool false, .int .i64 0]) := Blk.new' _ _ _ _ hnb.symm
        have HG : Hid (nb ≠ w.heap.size ∧ nb ≠ w.heap.size + 1 ∧ w.heap.size ≤ nb) := by
          have h1 := HX.out.d.lt
          have h2 := HX.out.z.lt
          exact ⟨by omega, by omega, by omega⟩
        refine hK.out _ _ (HX1.out.cells) (fun hHeld => ?_)
        clear hK K
        refine wpAnyH_ready (rs := [12]) (by kernel_rfl) (by simp) ?_
        refine AllReadyH.cons rfl (fun K hK => ?_) AllReadyH.nil
        go_simp
        refine (CW.out _ HX1.out.devIn).mono ?_
        rintro e w2 ⟨v', rfl, ⟨r2, c2, rfl, hr2⟩, hb2⟩
        unfold devA
        have HX2 : Hid (WrS w w2 E r c') := HX1.out.on hb2
        have HN2 : Hid (Blk w2 28 nb #[.slice none 0 0, .int .i64 0, .bool false, .int .i64 0]) := HN1.out.on hb2
        clear HX HX1 HN1 CW hb2
        refine hK.out _ _ HX2.out.cells (fun hHeld => ?_)
        clear hK K
        refine take_at (i := 13) (v := ?_) rfl rfl (by kernel_rfl) (by kernel_rfl) (by kernel_rfl) (fun _ _ _ h => h) (Or.inl ⟨by rfl, ?_⟩) (by assumption) ?_
        rotate_left
        · intro w hSw; (try dsimp only at hSw); go_simp; try with_reducible rfl
        try simp only [Act.put, List.setIfInBounds_toArray, List.set_cons_zero, List.set_cons_succ]
        refine take_at (i := 14) (v := ?_) rfl rfl (by kernel_rfl) (by kernel_rfl) (by kernel_rfl) (fun _ _ _ h => h) (Or.inl ⟨by rfl, ?_⟩) (by assumption) ?_
        rotate_left
        · intro w hSw; (try dsimp only at hSw); go_simp; try with_reducible rfl
        try simp only [Act.put, List.setIfInBounds_toArray, List.set_cons_zero, List.set_cons_succ]
        refine take_at (i := 15) (v := ?_) rfl rfl (by kernel_rfl) (by kernel_rfl) (by kernel_rfl) (fun _ _ _ h => h) (Or.inl ⟨by rfl, ?_⟩) (by assumption) ?_
        rotate_left
        · intro w hSw; (try dsimp only at hSw); go_simp; try with_reducible rfl
        try simp only [Act.put, List.setIfInBounds_toArray, List.set_cons_zero, List.set_cons_succ]
        obtain ⟨V, hV⟩ : ∃ V, V = w2.setRow nb #[.slice (some ⟨r2, 0, none⟩) R.1.1.length c2, .int .i64 R.1.2.1, .bool R.1.2.2.1, .int .i64 R.1.2.2.2] := ⟨_, rfl⟩
        have HXV : Hid (WrS w V E r c') := by
          rw [hV]
          have x := HX2.out
          exact ⟨x.d.setRowOther _ (fun e => HG.out.1 e.symm) _, x.z.setRowOther _ (fun e => HG.out.2.1 e.symm) _, rd18_setRow x.r (rd18_apart x.r (by have := HDE.out; omega) HN2.out rfl) _, below_setRow x.b HG.out.2.2 _⟩
        have HNV : Hid (Blk V 28 nb #[.slice (some ⟨r2, 0, none⟩) R.1.1.length c2, .int .i64 R.1.2.1, .bool R.1.2.2.1, .int .i64 R.1.2.2.2]) := by show Blk _ _ _ _; rw [hV]; exact HN2.out.setRow _
        have HRV : Hid (RowD V r2 c2 R.1.1) := by rw [hV]; exact rd18_setRow hr2 (rd18_apart hr2 HL.out HN2.out rfl) _
        refine wpAnyH_ready (rs := [17]) (by kernel_rfl) (by simp) ?_
        refine AllReadyH.cons rfl (fun K hK => ?_) AllReadyH.nil
        refine step_storeRow rfl rfl 28 _ _ rfl nb #[.slice none 0 0, .int .i64 0, .bool false, .int .i64 0] #[.slice (some ⟨r2, 0, none⟩) R.1.1.length c2, .int .i64 R.1.2.1, .bool R.1.2.2.1, .int .i64 R.1.2.2.2] (by rw [hnb]; with_unfolding_all rfl) (by with_unfolding_all rfl) HN2.out rfl (by kernel_rfl) (by simp [Value.oneCell']) ?_
        rw [← hV]
        refine hK.out _ _ HXV.out.cells (fun hHeld => ?_)
        clear hK K
        refine take_at (i := 18) (v := ?_) rfl rfl (by kernel_rfl) (by kernel_rfl) (by kernel_rfl) (fun _ _ _ h => h) (Or.inl ⟨by rfl, ?_⟩) (by assumption) ?_
        rotate_left
        · intro w hSw; (try dsimp only at hSw); go_simp; try with_reducible rfl
        try simp only [Act.put, List.setIfInBounds_toArray, List.set_cons_zero, List.set_cons_succ]
        refine wpAnyH_done (by kernel_rfl) (NoPanic.normal ?_) _
        rw [← hnb]
        clear hV hnb hr2 HX2 HN2 hS0 HG
        have n0 : V.cell? ⟨nb, 0, none⟩ = some (.slice (some ⟨r2, 0, none⟩) R.1.1.length c2) := HNV.out.cell 0
        have n1 : V.cell? ⟨nb, 1, none⟩ = some (.int .i64 R.1.2.1) := HNV.out.cell 1
        have n2 : V.cell? ⟨nb, 2, none⟩ = some (.bool R.1.2.2.1) := HNV.out.cell 2
        have n3 : V.cell? ⟨nb, 3, none⟩ = some (.int .i64 R.1.2.2.2) := HNV.out.cell 3
        have HX6 : Hid (WrS w (V.setRow w.heap.size #[.slice (some ⟨r2, 0, none⟩) R.1.1.length c2, .int .i64 R.1.2.1, .bool R.1.2.2.1, .int .i64 R.1.2.2.2]) R.1 r2 c2) := HXV.out.put HRV.out HL.out
        rcases HR2.out with h0 | h0
        · have g0 : (R.2 != 0) = false := by rw [bne_eq_false_iff_eq]; exact h0
          go_wp2_with (with_reducible refine wpList_storeBlk rfl 28 _ _ rfl w.heap.size _ #[.slice (some ⟨r2, 0, none⟩) R.1.1.length c2, .int .i64 R.1.2.1, .bool R.1.2.2.1, .int .i64 R.1.2.2.2] (by with_unfolding_all rfl) (by with_unfolding_all rfl) HXV.out.d rfl (by kernel_rfl) (by simp [Value.oneCell']) ?_; dsimp only [Act.put])
          refine ⟨⟨k + 1, R.1, r2, c2, by omega, by omega, by go_num, HX6, HDR, ?_⟩, ?_⟩
          · show _ = _
            rw [HF1.out, if_pos h0]
          · simp [intOf]; omega
        · have g0 : (R.2 != 0) = true := by rw [bne_iff_ne, h0]; decide
          obtain ⟨y0, y1, y2, y3⟩ := HX6.out.cells
          go_wp2_with (first | (with_reducible refine wpList_storeBlk rfl 28 _ _ rfl w.heap.size _ #[.slice (some ⟨r2, 0, none⟩) R.1.1.length c2, .int .i64 R.1.2.1, .bool R.1.2.2.1, .int .i64 R.1.2.2.2] (by with_unfolding_all rfl) (by with_unfolding_all rfl) HXV.out.d rfl (by kernel_rfl) (by simp [Value.oneCell']) ?_; dsimp only [Act.put]) | (with_reducible refine wpList_storeBlk rfl 28 _ _ rfl (w.heap.size + 1) _ #[.slice (some ⟨r2, 0, none⟩) R.1.1.length c2, .int .i64 R.1.2.1, .bool R.1.2.2.1, .int .i64 R.1.2.2.2] (by with_unfolding_all rfl) (by with_unfolding_all rfl) HX6.out.z rfl (by kernel_rfl) (by simp [Value.oneCell']) ?_; dsimp only [Act.put]))
          have e9 : writesP D turn m s = R := by
            have e8 : wrsF S p (q - m) m D = R := by rw [HF1.out, if_neg (by rw [h0]; decide)]
            rw [HW.out, e8, if_neg (by rw [h0]; decide)]
          rw [e9]
          refine bodyPost_rowTmp rfl (w.heap.size + 1) #[.slice (some ⟨r2, 0, none⟩) R.1.1.length c2, .int .i64 R.1.2.1, .bool R.1.2.2.1, .int .i64 R.1.2.2.2] _ rfl rfl rfl (HX6.out.z.setRow _) _ Tryz.underlying28 rfl (by kernel_rfl) ⟨_, rfl, ⟨r2, c2, rfl, ?_⟩, ?_⟩
          · exact rd18_setRow HX6.out.r (rd18_apart HX6.out.r HL.out HX6.out.z rfl) _
          · exact below_setRow HX6.out.b (by omega) _
    · obtain rfl : k = q := by omega
      have d0 : ¬ ((64 : Int) * (k : Int) < (S.size : Int)) := by omega
      have hS0 := (HX.out.on (Below.refl _ _).drew).cells
      obtain ⟨Hd, HHd⟩ : ∃ Hd, Hid (hdB (turn : Int) s = Hd) := ⟨_, rfl⟩
      have hH64 : Hid (Hd.size = 64) := by rw [← HHd.out]; exact hdB_size _ _
      have CH : Hid (∀ W, Calls Tryz.prog 57 #[.int .i64 (turn : Int), .string s] W fun e w' => e = .returned (.string Hd) ∧ Below W.heap.size W w') := by rw [← HHd.out]; exact fun W => rhead18_any (turn : Int) s W HSz.out (by omega) (by omega)
      obtain ⟨R, HR⟩ : ∃ R, Hid (writeB E p Hd = R) := ⟨_, rfl⟩
      have CW : Hid (∀ W, DevIn W (.agg #[.slice (some ⟨r, 0, none⟩) E.1.length c', .int .i64 E.2.1, .bool E.2.2.1, .int .i64 E.2.2.2]) E → Calls Tryz.prog 10 #[.agg #[.slice (some ⟨r, 0, none⟩) E.1.length c', .int .i64 E.2.1, .bool E.2.2.1, .int .i64 E.2.2.2], .int .i64 (p : Int), .string Hd] W fun e w' => ∃ v', e = .returned (.tuple #[v', .int .i64 R.2]) ∧ DevIn w' v' R.1 ∧ Below W.heap.size W w') := fun W hW => by
        have := rwriteB_any E _ n _ p Hd W hW HD.out hn (by omega) (by omega) hH64.out
        rw [HR.out] at this
        exact this
      have HL : Hid (0 < R.1.1.length) := by
        have := HD.out.wr p Hd
        rw [HR.out] at this
        have := this.len
        show 0 < R.1.1.length; omega
      have e9 : Hid (writesP D turn m s = R) := by
        show _ = _
        rw [HW.out, ← HF.out, Nat.sub_self]
        show (if (0 : Int) = 0 then writeB E p (hdB (turn : Int) s) else (E, 0)) = R
        rw [if_pos rfl, HHd.out, HR.out]
      clear HF HR hH64 HHd HW
      go_wp2_with fail
      refine wp_region_noPanic ?_
      refine wp_region_held_drew (S := fun w' => w'.cell? ⟨w.heap.size, 0, none⟩ = some (.slice (some ⟨r, 0, none⟩) E.1.length c') ∧ w'.cell? ⟨w.heap.size, 1, none⟩ = some (.int .i64 E.2.1) ∧ w'.cell? ⟨w.heap.size, 2, none⟩ = some (.bool E.2.2.1) ∧ w'.cell? ⟨w.heap.size, 3, none⟩ = some (.int .i64 E.2.2.2)) (by kernel_rfl) (by first | exact trivial | assumption | exact ⟨by assumption, by assumption⟩) (fun hHeld => ?_)
      refine take_at (i := 0) (v := ?_) rfl rfl (by kernel_rfl) (by kernel_rfl) (by kernel_rfl) (fun _ _ _ h => h) (Or.inl ⟨by rfl, ?_⟩) (by assumption) ?_
      rotate_left
      · intro w hSw; (try dsimp only at hSw); go_simp; try with_reducible rfl
      try simp only [Act.put, List.setIfInBounds_toArray, List.set_cons_zero, List.set_cons_succ]
      refine take_at (i := 1) (v := ?_) rfl rfl (by kernel_rfl) (by kernel_rfl) (by kernel_rfl) (fun _ _ _ h => h) (Or.inl ⟨by rfl, ?_⟩) (by assumption) ?_
      rotate_left
      · intro w hSw; (try dsimp only at hSw); go_simp; try with_reducible rfl
      try simp only [Act.put, List.setIfInBounds_toArray, List.set_cons_zero, List.set_cons_succ]
      refine take_at (i := 2) (v := ?_) rfl rfl (by kernel_rfl) (by kernel_rfl) (by kernel_rfl) (fun _ _ _ h => h) (Or.inl ⟨by rfl, ?_⟩) (by assumption) ?_
      rotate_left
      · intro w hSw; (try dsimp only at hSw); go_simp; try with_reducible rfl
      try simp only [Act.put, List.setIfInBounds_toArray, List.set_cons_zero, List.set_cons_succ]
      refine take_at (i := 3) (v := ?_) rfl rfl (by kernel_rfl) (by kernel_rfl) (by kernel_rfl) (fun _ _ _ h => h) (Or.inl ⟨by rfl, ?_⟩) (by assumption) ?_
      rotate_left
      · intro w hSw; (try dsimp only at hSw); go_simp; try with_reducible rfl
      try simp only [Act.put, List.setIfInBounds_toArray, List.set_cons_zero, List.set_cons_succ]
      refine wpAnyH_ready (rs := [4]) (by kernel_rfl) (by simp) ?_
      refine AllReadyH.cons rfl (fun K hK => ?_) AllReadyH.nil
      go_simp
      refine (CH.out _).mono ?_
      rintro e w2 ⟨rfl, hb2⟩
      have HX2 : Hid (WrS w w2 E r c') := (HX.out.on (Below.refl _ _).drew).on hb2
      clear HX CH hb2
      refine hK.out _ _ HX2.out.cells (fun hHeld => ?_)
      clear hK K
      refine wpAnyH_ready (rs := [5]) (by kernel_rfl) (by simp) ?_
      refine AllReadyH.cons rfl (fun K hK => ?_) AllReadyH.nil
      go_simp
      refine (CW.out _ HX2.out.devIn).mono ?_
      rintro e w3 ⟨v', rfl, ⟨r2, c2, rfl, hr2⟩, hb3⟩
      unfold devA
      have HX3 : Hid (WrS w w3 E r c') := HX2.out.on hb3
      clear HX2 CW hb3
      refine hK.out _ _ HX3.out.cells (fun hHeld => ?_)
      clear hK K
      refine take_at (i := 6) (v := ?_) rfl rfl (by kernel_rfl) (by kernel_rfl) (by kernel_rfl) (fun _ _ _ h => h) (Or.inl ⟨by rfl, ?_⟩) (by assumption) ?_
      rotate_left
      · intro w hSw; (try dsimp only at hSw); go_simp; try with_reducible rfl
      try simp only [Act.put, List.setIfInBounds_toArray, List.set_cons_zero, List.set_cons_succ]
      refine take_at (i := 7) (v := ?_) rfl rfl (by kernel_rfl) (by kernel_rfl) (by kernel_rfl) (fun _ _ _ h => h) (Or.inl ⟨by rfl, ?_⟩) (by assumption) ?_
      rotate_left
      · intro w hSw; (try dsimp only at hSw); go_simp; try with_reducible rfl
      try simp only [Act.put, List.setIfInBounds_toArray, List.set_cons_zero, List.set_cons_succ]
      obtain ⟨V, hV⟩ : ∃ V, V = w3.setRow (w.heap.size + 1) #[.slice (some ⟨r2, 0, none⟩) R.1.1.length c2, .int .i64 R.1.2.1, .bool R.1.2.2.1, .int .i64 R.1.2.2.2] := ⟨_, rfl⟩
      have hSV : V.cell? ⟨w.heap.size, 0, none⟩ = some (.slice (some ⟨r, 0, none⟩) E.1.length c') ∧ V.cell? ⟨w.heap.size, 1, none⟩ = some (.int .i64 E.2.1) ∧ V.cell? ⟨w.heap.size, 2, none⟩ = some (.bool E.2.2.1) ∧ V.cell? ⟨w.heap.size, 3, none⟩ = some (.int .i64 E.2.2.2) := by
        have x := HX3.out.d.setRowOther (w.heap.size + 1) (by omega) #[.slice (some ⟨r2, 0, none⟩) R.1.1.length c2, .int .i64 R.1.2.1, .bool R.1.2.2.1, .int .i64 R.1.2.2.2]
        rw [hV]
        exact ⟨x.cell 0, x.cell 1, x.cell 2, x.cell 3⟩
      refine wpAnyH_ready (rs := [8]) (by kernel_rfl) (by simp) ?_
      refine AllReadyH.cons rfl (fun K hK => ?_) AllReadyH.nil
      refine step_storeRow rfl rfl 28 _ _ rfl (w.heap.size + 1) #[.slice none 0 0, .int .i64 0, .bool false, .int .i64 0] #[.slice (some ⟨r2, 0, none⟩) R.1.1.length c2, .int .i64 R.1.2.1, .bool R.1.2.2.1, .int .i64 R.1.2.2.2] (by with_unfolding_all rfl) (by with_unfolding_all rfl) HX3.out.z rfl (by kernel_rfl) (by simp [Value.oneCell']) ?_
      rw [← hV]
      refine hK.out _ _ hSV (fun hHeld => ?_)
      clear hK K
      refine take_at (i := 9) (v := ?_) rfl rfl (by kernel_rfl) (by kernel_rfl) (by kernel_rfl) (fun _ _ _ h => h) (Or.inl ⟨by rfl, ?_⟩) (by assumption) ?_
      rotate_left
      · intro w hSw; (try dsimp only at hSw); go_simp; try with_reducible rfl
      try simp only [Act.put, List.setIfInBounds_toArray, List.set_cons_zero, List.set_cons_succ]
      refine wpAnyH_done (by kernel_rfl) (NoPanic.normal ?_) _
      go_wp2_with fail
      rw [e9.out]
      refine bodyPost_rowTmp rfl (w.heap.size + 1) #[.slice (some ⟨r2, 0, none⟩) R.1.1.length c2, .int .i64 R.1.2.1, .bool R.1.2.2.1, .int .i64 R.1.2.2.2] _ rfl rfl rfl (by rw [hV]; exact HX3.out.z.setRow _) _ Tryz.underlying28 rfl (by kernel_rfl) ⟨_, rfl, ⟨r2, c2, rfl, ?_⟩, ?_⟩
      · rw [hV]; exact rd18_setRow hr2 (rd18_apart hr2 HL.out HX3.out.z rfl) _
      · rw [hV]; exact below_setRow HX3.out.b (by omega) _

end Go.Proofs.YtaakmcihpdbilaaGreatDoor

/- Layer 18, the document's: Add. -/
namespace Go.Proofs.YtaakmcihpdbilaaGreatDoor
open Go.RowKit
set_option maxRecDepth 100000
set_option linter.unusedSimpArgs false
set_option maxRecDepth 100000

/-- Is there room for n bytes in a half of a device of k blocks? What Add leaves and answers. -/
def RoomP (k n : Nat) : Prop := (n + 63) / 64 + 1 ≤ k / 2
def addP (D : DevT) (X : StoT) (t : ByteArray) : DevT × StoT × Int :=
  if X.2.2.1 = 0 ∨ 32768 < t.size ∨ ¬ ((X.2.2.2.size + (t.size + 2) + 63) / 64 + 1 ≤ D.1.length / 2) then (D, X, 2)
  else
    let R := writesP D X.2.2.1.toNat (X.2.2.2.size / 64) (X.2.2.2 ++ txB t)
    if R.2 = 0 then (R.1, (X.1, X.2.1 ++ [t], X.2.2.1, X.2.2.2 ++ txB t), 0) else (R.1, X, R.2)

theorem writeB_len (D : DevT) (k : Nat) (s : ByteArray) : (writeB D k s).1.1.length = D.1.length := by
  unfold writeB
  split
  · rfl
  · exact List.length_set
theorem wrsF_len (s : ByteArray) (p : Nat) : ∀ f i D, (wrsF s p f i D).1.1.length = D.1.length
  | 0, _, _ => rfl
  | f + 1, i, D => by
    show (if _ = _ then _ else _ : DevT × Int).1.1.length = _
    split
    · rw [wrsF_len s p f, writeB_len]
    · rw [writeB_len]
theorem writesP_len (D : DevT) (turn m : Nat) (s : ByteArray) : (writesP D turn m s).1.1.length = D.1.length := by
  unfold writesP
  simp only
  split
  · rw [writeB_len, wrsF_len]
  · rw [wrsF_len]

/-- A store's measures. -/
structure StO (X : StoT) : Prop where
  t0 : 0 ≤ X.2.2.1
  t1 : X.2.2.1 ≤ 1099511627775
  b : X.2.2.2.size ≤ 65536
  l : X.2.1.length ≤ 65536

/-- The frame of Add and of Lay: copies of the device and of the store, the answers' cells behind them. -/
structure AdS (w W : World) (D : DevT) (X : StoT) (r c : Nat) (a : Option Addr) (cx : Nat) : Prop where
  d : Blk W 28 w.heap.size #[.slice (some ⟨r, 0, none⟩) D.1.length c, .int .i64 D.2.1, .bool D.2.2.1, .int .i64 D.2.2.2]
  s : Blk W 30 (w.heap.size + 1) #[.string X.1, .slice a X.2.1.length cx, .int .i64 X.2.2.1, .string X.2.2.2]
  zd : Blk W 28 (w.heap.size + 1 + 1) #[.slice none 0 0, .int .i64 0, .bool false, .int .i64 0]
  zs : Blk W 30 (w.heap.size + 1 + 1 + 1) #[.string ⟨#[]⟩, .slice none 0 0, .int .i64 0, .string ⟨#[]⟩]
  r : RowD W r c D.1
  t : StrsAt W a X.2.1.length X.2.1
  b : Below w.heap.size w W
theorem AdS.on {w W W' : World} {D : DevT} {X : StoT} {r c cx : Nat} {a : Option Addr} (h : AdS w W D X r c a cx) (hb : Below W.heap.size W W') : AdS w W' D X r c a cx :=
  ⟨h.d.on hb, h.s.on hb, h.zd.on hb, h.zs.on hb, h.r.on hb, h.t.below hb, below_step h.b (Nat.le_refl _) hb⟩
theorem AdS.new (w : World) (D : DevT) (X : StoT) (r c : Nat) (a : Option Addr) (cx : Nat) (hr : RowD w r c D.1) (ht : StrsAt w a X.2.1.length X.2.1) :
    AdS w ((((w.alloc (.cells #[.slice (some ⟨r, 0, none⟩) D.1.length c, .int .i64 D.2.1, .bool D.2.2.1, .int .i64 D.2.2.2] 28)).alloc (.cells #[.string X.1, .slice a X.2.1.length cx, .int .i64 X.2.2.1, .string X.2.2.2] 30)).alloc (.cells #[.slice none 0 0, .int .i64 0, .bool false, .int .i64 0] 28)).alloc (.cells #[.string ⟨#[]⟩, .slice none 0 0, .int .i64 0, .string ⟨#[]⟩] 30)) D X r c a cx := by
  refine ⟨(((Blk.new w _ _).alloc _).alloc _).alloc _, ((Blk.new' _ _ _ _ (by simp)).alloc _).alloc _, (Blk.new' _ _ _ _ (by simp)).alloc _, Blk.new' _ _ _ _ (by simp), (((hr.on (below_new w _)).on (below_new _ _)).on (below_new _ _)).on (below_new _ _), (((ht.below (below_new w _)).below (below_new _ _)).below (below_new _ _)).below (below_new _ _), (((below_new w _).alloc (by simp) _).alloc (by simp; omega) _).alloc (by simp; omega) _⟩
/-- What the frame's cells hold. -/
def AdC (w W : World) (D : DevT) (X : StoT) (r c : Nat) (a : Option Addr) (cx : Nat) : Prop :=
  (W.cell? ⟨w.heap.size, 0, none⟩ = some (.slice (some ⟨r, 0, none⟩) D.1.length c) ∧ W.cell? ⟨w.heap.size, 1, none⟩ = some (.int .i64 D.2.1) ∧ W.cell? ⟨w.heap.size, 2, none⟩ = some (.bool D.2.2.1) ∧ W.cell? ⟨w.heap.size, 3, none⟩ = some (.int .i64 D.2.2.2)) ∧
  (W.cell? ⟨w.heap.size + 1, 0, none⟩ = some (.string X.1) ∧ W.cell? ⟨w.heap.size + 1, 1, none⟩ = some (.slice a X.2.1.length cx) ∧ W.cell? ⟨w.heap.size + 1, 2, none⟩ = some (.int .i64 X.2.2.1) ∧ W.cell? ⟨w.heap.size + 1, 3, none⟩ = some (.string X.2.2.2))
theorem AdS.cells {w W : World} {D : DevT} {X : StoT} {r c cx : Nat} {a : Option Addr} (h : AdS w W D X r c a cx) :
    (W.cell? ⟨w.heap.size, 0, none⟩ = some (.slice (some ⟨r, 0, none⟩) D.1.length c) ∧ W.cell? ⟨w.heap.size, 1, none⟩ = some (.int .i64 D.2.1) ∧ W.cell? ⟨w.heap.size, 2, none⟩ = some (.bool D.2.2.1) ∧ W.cell? ⟨w.heap.size, 3, none⟩ = some (.int .i64 D.2.2.2)) ∧
    (W.cell? ⟨w.heap.size + 1, 0, none⟩ = some (.string X.1) ∧ W.cell? ⟨w.heap.size + 1, 1, none⟩ = some (.slice a X.2.1.length cx) ∧ W.cell? ⟨w.heap.size + 1, 2, none⟩ = some (.int .i64 X.2.2.1) ∧ W.cell? ⟨w.heap.size + 1, 3, none⟩ = some (.string X.2.2.2)) :=
  ⟨⟨h.d.cell 0, h.d.cell 1, h.d.cell 2, h.d.cell 3⟩, ⟨h.s.cell 0, h.s.cell 1, h.s.cell 2, h.s.cell 3⟩⟩
theorem AdS.devIn {w W : World} {D : DevT} {X : StoT} {r c cx : Nat} {a : Option Addr} (h : AdS w W D X r c a cx) : DevIn W (.agg #[.slice (some ⟨r, 0, none⟩) D.1.length c, .int .i64 D.2.1, .bool D.2.2.1, .int .i64 D.2.2.2]) D := ⟨r, c, rfl, h.r⟩

theorem AdS.cellsRow {w W : World} {D : DevT} {X : StoT} {r c cx : Nat} {a : Option Addr} (h : AdS w W D X r c a cx) (g : Nat) (hg : w.heap.size + 1 < g) (cs : Array Value) :
    ((W.setRow g cs).cell? ⟨w.heap.size, 0, none⟩ = some (.slice (some ⟨r, 0, none⟩) D.1.length c) ∧ (W.setRow g cs).cell? ⟨w.heap.size, 1, none⟩ = some (.int .i64 D.2.1) ∧ (W.setRow g cs).cell? ⟨w.heap.size, 2, none⟩ = some (.bool D.2.2.1) ∧ (W.setRow g cs).cell? ⟨w.heap.size, 3, none⟩ = some (.int .i64 D.2.2.2)) ∧
    ((W.setRow g cs).cell? ⟨w.heap.size + 1, 0, none⟩ = some (.string X.1) ∧ (W.setRow g cs).cell? ⟨w.heap.size + 1, 1, none⟩ = some (.slice a X.2.1.length cx) ∧ (W.setRow g cs).cell? ⟨w.heap.size + 1, 2, none⟩ = some (.int .i64 X.2.2.1) ∧ (W.setRow g cs).cell? ⟨w.heap.size + 1, 3, none⟩ = some (.string X.2.2.2)) := by
  have x := h.d.setRowOther g (by omega) cs
  have y := h.s.setRowOther g (by omega) cs
  exact ⟨⟨x.cell 0, x.cell 1, x.cell 2, x.cell 3⟩, ⟨y.cell 0, y.cell 1, y.cell 2, y.cell 3⟩⟩
theorem AdS.cellsRow2 {w W : World} {D : DevT} {X : StoT} {r c cx : Nat} {a : Option Addr} (h : AdS w W D X r c a cx) (g g' : Nat) (hg : w.heap.size + 1 < g) (hg' : w.heap.size + 1 < g') (cs cs' : Array Value) :
    (((W.setRow g cs).setRow g' cs').cell? ⟨w.heap.size, 0, none⟩ = some (.slice (some ⟨r, 0, none⟩) D.1.length c) ∧ ((W.setRow g cs).setRow g' cs').cell? ⟨w.heap.size, 1, none⟩ = some (.int .i64 D.2.1) ∧ ((W.setRow g cs).setRow g' cs').cell? ⟨w.heap.size, 2, none⟩ = some (.bool D.2.2.1) ∧ ((W.setRow g cs).setRow g' cs').cell? ⟨w.heap.size, 3, none⟩ = some (.int .i64 D.2.2.2)) ∧
    (((W.setRow g cs).setRow g' cs').cell? ⟨w.heap.size + 1, 0, none⟩ = some (.string X.1) ∧ ((W.setRow g cs).setRow g' cs').cell? ⟨w.heap.size + 1, 1, none⟩ = some (.slice a X.2.1.length cx) ∧ ((W.setRow g cs).setRow g' cs').cell? ⟨w.heap.size + 1, 2, none⟩ = some (.int .i64 X.2.2.1) ∧ ((W.setRow g cs).setRow g' cs').cell? ⟨w.heap.size + 1, 3, none⟩ = some (.string X.2.2.2)) := by
  have x := (h.d.setRowOther g (by omega) cs).setRowOther g' (by omega) cs'
  have y := (h.s.setRowOther g (by omega) cs).setRowOther g' (by omega) cs'
  exact ⟨⟨x.cell 0, x.cell 1, x.cell 2, x.cell 3⟩, ⟨y.cell 0, y.cell 1, y.cell 2, y.cell 3⟩⟩
/-- A row of two texts at least is no store's cell. -/
theorem rd18_apartS {w : World} {r c q : Nat} {L : List ByteArray} {t : TypeId} {cs : Array Value} {a : Option Addr} {n m : Nat} (h : RowD w r c L) (hl : 2 ≤ L.length) (hq : Blk w t q cs) (hc : cs[1]? = some (.slice a n m)) : r ≠ q := by
  have h0 := h.2 1 (by omega)
  rintro rfl
  rw [hq.cell 1, hc] at h0
  cases h0
theorem strs_set18 {w W : World} {a : Option Addr} {n : Nat} {l : List ByteArray} (h0 : StrsAt w a n l) (hW : StrsAt W a n l) (g : Nat) (hg : w.heap.size ≤ g) (cs : Array Value) : StrsAt (W.setRow g cs) a n l := by
  refine ⟨hW.1, ?_⟩
  rcases hW.2 with h | ⟨b, off, rfl, hc⟩
  · exact .inl h
  · by_cases hn : n = 0
    · exact .inl hn
    · refine .inr ⟨b, off, rfl, fun i hi => ?_⟩
      have hb : b < w.heap.size := by
        rcases h0.2 with h | ⟨b', off', e, hc'⟩
        · exact absurd h hn
        · simp only [Option.some.injEq, Addr.mk.injEq] at e
          obtain ⟨rfl, rfl, _⟩ := e
          exact World.block_lt_of_cell? w _ (hc' i hi)
      exact Eq.trans (cell_setRow_other _ _ _ ⟨b, off + i, none⟩ (by show b ≠ g; omega)) (hc i hi)
/-- Both answers stored: what they hold. -/
theorem AdS.out {w W : World} {D E : DevT} {X : StoT} {r c cx r' c' : Nat} {a : Option Addr} (h : AdS w W D X r c a cx) (hr : RowD W r' c' E.1) (hl : 2 ≤ E.1.length) (cd cs : Array Value) :
    Blk ((W.setRow (w.heap.size + 1 + 1) cd).setRow (w.heap.size + 1 + 1 + 1) cs) 28 (w.heap.size + 1 + 1) cd ∧ Blk ((W.setRow (w.heap.size + 1 + 1) cd).setRow (w.heap.size + 1 + 1 + 1) cs) 30 (w.heap.size + 1 + 1 + 1) cs ∧ RowD ((W.setRow (w.heap.size + 1 + 1) cd).setRow (w.heap.size + 1 + 1 + 1) cs) r' c' E.1 ∧ Below w.heap.size w ((W.setRow (w.heap.size + 1 + 1) cd).setRow (w.heap.size + 1 + 1 + 1) cs) := by
  have z := h.zs.setRowOther (w.heap.size + 1 + 1) (by omega) cd
  refine ⟨(h.zd.setRow cd).setRowOther _ (by omega) _, z.setRow cs, ?_, below_setRow (below_setRow h.b (by omega) _) (by omega) _⟩
  have h1 := rd18_setRow hr (rd18_apart hr (by omega) h.zd rfl) cd
  exact rd18_setRow h1 (rd18_apartS h1 hl z rfl) cs

section
variable {P : Program} {ops : Array Oper} {rest : List Oper} {o : Oper} {a : Act} {w : World} {K' : Act → World → Prop} {Q : Exit → Act → World → Prop} {E : Prop}
/-- An append whose run is told. -/
theorem wpList_runApp (hgd : o.guard = none) (s x : Operand) (t : TypeId) (ho : o.op = .call { callee := .builtin .append, args := #[s, x], argTypes := #[t, t] }) (v u : Value) (hs : a.eval s = v) (hx : a.eval x = u) {v' : Value} {w' : World}
    (hr : (Builtin.append_ #[t, t] o.type #[v, u]).run P w = .ok v' w') (h : wpList P ops Q rest (a.put o.dst v') w') : wpList P ops Q (o :: rest) a w :=
  wpList_plain hgd fun _ hK => by
    unfold Oper.wp execOp
    simp only [ho, resolve, invoke, builtin, Sem.run_bind, Sem.run_pure, Result.andThen_ok, List.map_toArray, List.map_cons, List.map_nil, hs, hx, hr]
    exact hK _ _ h
theorem step_runApp {d : Tmp} (hgd : o.guard = none) (hd : o.dst = some d) (s x : Operand) (t : TypeId) (ho : o.op = .call { callee := .builtin .append, args := #[s, x], argTypes := #[t, t] }) (v u : Value) (hs : a.eval s = v) (hx : a.eval x = u) {v' : Value} {w' : World}
    (hr : (Builtin.append_ #[t, t] o.type #[v, u]).run P w = .ok v' w') (h : K' (a.put (some d) v') w') : if Region.wanted o (yielded ops a.tmps) = true then Oper.wp P o a w K' Q else E := by
  rw [if_pos (by simp [Region.wanted, hgd])]
  unfold Oper.wp execOp
  simp only [ho, resolve, invoke, builtin, Sem.run_bind, Sem.run_pure, Result.andThen_ok, List.map_toArray, List.map_cons, List.map_nil, hs, hx, hr]
  show K' (a.put o.dst _) _
  rw [hd]
  exact h
end

theorem app18 (W : World) (a : Option Addr) (n cx : Nat) (l : List ByteArray) (h : StrsAt W a n l) (hn : n ≤ 65536) :
    ∃ v' w', (Builtin.append_ #[26, 26] 26 #[.slice none 0 0, .slice a n cx]).run Tryz.prog W = .ok v' w' ∧ OwnTx w' W.heap.size v' n l ∧ Below W.heap.size W w' := by
  obtain ⟨i0, hi, hz0, hz1, hz2⟩ := info_parts Tryz.infoStr18
  have hnil : ∀ cx, (Builtin.append_ #[26, 26] 26 #[.slice none 0 0, .slice a 0 cx]).run Tryz.prog W = .ok (.slice none 0 0) W := fun cx => by
    cases a <;> simp [Builtin.append_, run_underlying Tryz.underlying26, sizeOf, typeInfo, hi, Builtin.lenOf, Builtin.firstCells, loadCells, loadCellsFrom]
  by_cases h0 : n = 0
  · subst h0
    have hl : l = [] := List.length_eq_zero_iff.1 h.1
    subst hl
    exact ⟨_, _, hnil cx, World.ownsRow_nil _ _ _ _, Below.refl _ _⟩
  · rcases h.2 with h2 | ⟨b, off, rfl, hc⟩
    · exact absurd h2 h0
    · obtain ⟨v', w', hr, h2, h3, h4⟩ := run_append_own (P := Tryz.prog) W W.heap.size 26 26 9 i0 (.string ⟨#[]⟩) 1 16 Tryz.underlying26 hi hz0 hz1 hz2 rfl (by decide) (.slice none 0 0) 0 [] (World.ownsRow_nil _ _ _ _) ⟨b, off, none⟩ n cx (l.map Value.string) (by rw [List.length_map, h.1]; omega) (fun j u hj => by
          have hjl := (List.getElem?_eq_some_iff.1 hj).1
          rw [List.length_map, h.1] at hjl
          rw [Go.WideShapes.add_plain, hc j hjl, ← hj]
          unfold strL
          rw [List.getElem?_map, List.getD_eq_getElem?_getD, List.getElem?_eq_getElem (by rw [h.1]; exact hjl)]; rfl) (fun u hu => by obtain ⟨z, _, rfl⟩ := List.mem_map.1 hu; rfl) (by unfold maxLen; omega) (by omega) (Nat.le_refl _)
      refine ⟨v', w', hr, ?_, (Below.refl _ _).grown h3 (Nat.le_refl _) (fun z hz => by cases hz)⟩
      unfold OwnTx
      simpa using h2

theorem app18b (V : World) (base : Nat) (hbase : base ≤ V.heap.size) (v : Value) (n : Nat) (l : List ByteArray) (t : ByteArray) (ho : OwnTx V base v n l) (hn : n ≤ 65536) :
    ∃ g8 c8 w8, (Builtin.append_ #[26, 26] 26 #[v, .slice (some ⟨V.heap.size, 0, none⟩) 1 1]).run Tryz.prog (V.alloc (.cells #[.string t] 9)) = .ok (.slice (some ⟨g8, 0, none⟩) (n + 1) c8) w8 ∧ OwnTx w8 base (.slice (some ⟨g8, 0, none⟩) (n + 1) c8) (n + 1) (l ++ [t]) ∧ Below base (V.alloc (.cells #[.string t] 9)) w8 ∧ base ≤ g8 := by
  obtain ⟨i0, hi, hz0, hz1, hz2⟩ := info_parts Tryz.infoStr18
  have ho1 : (V.alloc (.cells #[.string t] 9)).ownsRow base 9 1 v n (l.map Value.string) := World.ownsRow.alloc ho _
  obtain ⟨v', w', hr, h2, h3, h4⟩ := run_append_own (P := Tryz.prog) (V.alloc (.cells #[.string t] 9)) base 26 26 9 i0 (.string ⟨#[]⟩) 1 16 Tryz.underlying26 hi hz0 hz1 hz2 rfl (by decide) v n _ ho1 ⟨V.heap.size, 0, none⟩ 1 1 [.string t] rfl (fun j u hj => by
      have hjl := (List.getElem?_eq_some_iff.1 hj).1
      have : j = 0 := by simpa using hjl
      subst this
      rw [Go.WideShapes.add_plain, cell_of_row _ _ _ #[.string t] 9 (0, 0) (heap_alloc_last V _)]
      simpa using hj) (fun u hu => by simp at hu; rw [hu]; rfl) (by unfold maxLen; omega) (by omega) (by simp; omega)
  have h5 : OwnTx w' base v' (n + 1) (l ++ [t]) := by
    unfold OwnTx
    rw [List.map_append]
    exact h2
  have h6 : Below base (V.alloc (.cells #[.string t] 9)) w' := (Below.refl _ _).grown h3 (by simp; omega) (fun k hk => (World.ownsRow.lt ho1 k hk).1)
  rcases h5.2 with ⟨_, e⟩ | ⟨g, cap, cur, rfl, hg, _⟩
  · omega
  · exact ⟨g, cap, w', hr, h5, h6, hg⟩


set_option maxHeartbeats 8000000 in
theorem radd18_none (D : DevT) (v : Value) (n : Nat) (c0 : Int) (B : Nat) (X : StoT) (u : Value) (t : ByteArray) (w : World) (h : DevIn w v D) (hD : DvO n c0 D) (hn2 : 2 ≤ n) (_hn : n ≤ 2048) (_hc : c0 < 576460752303423488) (hX : StoIn w B u X) (hO : StO X) (hB : B ≤ w.heap.size) (ht0 : X.2.2.1 = 0) :
    Calls Tryz.prog 24 #[v, u, .string t] w fun e w' => ∃ v' u', e = .returned (.tuple #[v', u', .int .i64 (addP D X t).2.2]) ∧ DevIn w' v' (addP D X t).1 ∧ StoIn w' B u' (addP D X t).2.1 ∧ Below w.heap.size w w' := by
  obtain ⟨r, c, rfl, hrow⟩ := h
  obtain ⟨a, cx, rfl, htx, hax⟩ := hX
  unfold devA
  have HA0 : Hid (AdS w _ D X r c a cx) := AdS.new w D X r c a cx hrow htx
  have HO : Hid (StO X) := hO
  have HD : Hid (DvO n c0 D) := hD
  have HAX : Hid (∀ x, a = some x → B ≤ x.block) := hax
  have HB : Hid (B ≤ w.heap.size) := hB
  have HT0 : Hid (StrsAt w a X.2.1.length X.2.1) := htx
  have HN2 : Hid (2 ≤ n) := hn2
  clear hrow htx hD hO hax
  obtain ⟨W0, hW0⟩ : ∃ W0, (((w.alloc (.cells #[.slice (some ⟨r, 0, none⟩) D.1.length c, .int .i64 D.2.1, .bool D.2.2.1, .int .i64 D.2.2.2] 28)).alloc (.cells #[.string X.1, .slice a X.2.1.length cx, .int .i64 X.2.2.1, .string X.2.2.2] 30)).alloc (.cells #[.slice none 0 0, .int .i64 0, .bool false, .int .i64 0] 28)).alloc (.cells #[.string ⟨#[]⟩, .slice none 0 0, .int .i64 0, .string ⟨#[]⟩] 30) = W0 := ⟨_, rfl⟩
  rw [hW0] at HA0
  have HA := HA0
  clear HA0
  have q0 : (X.2.2.1 == 0) = true := by rw [ht0]; rfl
  have e9 : addP D X t = (D, X, 2) := by unfold addP; rw [if_pos (.inl ht0)]
  rw [e9]
  have hS0 := (HA.out.on (Below.refl _ _).drew).cells
  clear ht0
  go_enter Tryz.func24, Tryz.ntmps24
  go_wp2_with fail
  refine wp_region_noPanic ?_
  refine wp_region_held_drew (S := fun W => (W.cell? ⟨w.heap.size, 0, none⟩ = some (.slice (some ⟨r, 0, none⟩) D.1.length c) ∧ W.cell? ⟨w.heap.size, 1, none⟩ = some (.int .i64 D.2.1) ∧ W.cell? ⟨w.heap.size, 2, none⟩ = some (.bool D.2.2.1) ∧ W.cell? ⟨w.heap.size, 3, none⟩ = some (.int .i64 D.2.2.2)) ∧ (W.cell? ⟨w.heap.size + 1, 0, none⟩ = some (.string X.1) ∧ W.cell? ⟨w.heap.size + 1, 1, none⟩ = some (.slice a X.2.1.length cx) ∧ W.cell? ⟨w.heap.size + 1, 2, none⟩ = some (.int .i64 X.2.2.1) ∧ W.cell? ⟨w.heap.size + 1, 3, none⟩ = some (.string X.2.2.2))) (by kernel_rfl) (by first | exact trivial | assumption | exact ⟨by assumption, by assumption⟩) (fun hHeld => ?_)
  refine take_at (i := 0) (v := ?_) rfl rfl (by kernel_rfl) (by kernel_rfl) (by kernel_rfl) (fun _ _ _ h => h) (Or.inl ⟨by rfl, ?_⟩) (by assumption) ?_
  rotate_left
  · intro w hSw; (try dsimp only at hSw); go_simp; try with_reducible rfl
  try simp only [Act.put, List.setIfInBounds_toArray, List.set_cons_zero, List.set_cons_succ]
  refine take_at (i := 1) (v := ?_) rfl rfl (by kernel_rfl) (by kernel_rfl) (by kernel_rfl) (fun _ _ _ h => h) (Or.inl ⟨by rfl, ?_⟩) (by assumption) ?_
  rotate_left
  · intro w hSw; (try dsimp only at hSw); go_simp; try with_reducible rfl
  try simp only [Act.put, List.setIfInBounds_toArray, List.set_cons_zero, List.set_cons_succ]
  refine take_at (i := 2) (v := ?_) rfl rfl (by kernel_rfl) (by kernel_rfl) (by kernel_rfl) (fun _ _ _ h => h) (Or.inl ⟨by rfl, ?_⟩) (by assumption) ?_
  rotate_left
  · intro w hSw; (try dsimp only at hSw); go_simp; try with_reducible rfl
  try simp only [Act.put, List.setIfInBounds_toArray, List.set_cons_zero, List.set_cons_succ]
  refine take_at (i := 3) (v := ?_) rfl rfl (by kernel_rfl) (by kernel_rfl) (by kernel_rfl) (fun _ _ _ h => h) (Or.inl ⟨by rfl, ?_⟩) (by assumption) ?_
  rotate_left
  · intro w hSw; (try dsimp only at hSw); go_simp; try with_reducible rfl
  try simp only [Act.put, List.setIfInBounds_toArray, List.set_cons_zero, List.set_cons_succ]
  refine take_at (i := 4) (v := undef) rfl rfl (by kernel_rfl) (by kernel_rfl) (by kernel_rfl) (fun _ _ _ h => h) (Or.inr ⟨by rfl, rfl⟩) (by assumption) ?_
  try simp only [Act.put, List.setIfInBounds_toArray, List.set_cons_zero, List.set_cons_succ]
  refine take_at (i := 5) (v := undef) rfl rfl (by kernel_rfl) (by kernel_rfl) (by kernel_rfl) (fun _ _ _ h => h) (Or.inr ⟨by rfl, rfl⟩) (by assumption) ?_
  try simp only [Act.put, List.setIfInBounds_toArray, List.set_cons_zero, List.set_cons_succ]
  refine take_at (i := 6) (v := undef) rfl rfl (by kernel_rfl) (by kernel_rfl) (by kernel_rfl) (fun _ _ _ h => h) (Or.inr ⟨by rfl, rfl⟩) (by assumption) ?_
  try simp only [Act.put, List.setIfInBounds_toArray, List.set_cons_zero, List.set_cons_succ]
  refine take_at (i := 7) (v := ?_) rfl rfl (by kernel_rfl) (by kernel_rfl) (by kernel_rfl) (fun _ _ _ h => h) (Or.inl ⟨by rfl, ?_⟩) (by assumption) ?_
  rotate_left
  · intro w hSw; (try dsimp only at hSw); go_simp; try with_reducible rfl
  try simp only [Act.put, List.setIfInBounds_toArray, List.set_cons_zero, List.set_cons_succ]
  refine take_at (i := 8) (v := ?_) rfl rfl (by kernel_rfl) (by kernel_rfl) (by kernel_rfl) (fun _ _ _ h => h) (Or.inl ⟨by rfl, ?_⟩) (by assumption) ?_
  rotate_left
  · intro w hSw; (try dsimp only at hSw); go_simp; try with_reducible rfl
  try simp only [Act.put, List.setIfInBounds_toArray, List.set_cons_zero, List.set_cons_succ]
  refine take_at (i := 9) (v := undef) rfl rfl (by kernel_rfl) (by kernel_rfl) (by kernel_rfl) (fun _ _ _ h => h) (Or.inr ⟨by rfl, rfl⟩) (by assumption) ?_
  try simp only [Act.put, List.setIfInBounds_toArray, List.set_cons_zero, List.set_cons_succ]
  refine take_at (i := 10) (v := undef) rfl rfl (by kernel_rfl) (by kernel_rfl) (by kernel_rfl) (fun _ _ _ h => h) (Or.inr ⟨by rfl, rfl⟩) (by assumption) ?_
  try simp only [Act.put, List.setIfInBounds_toArray, List.set_cons_zero, List.set_cons_succ]
  refine take_at (i := 11) (v := undef) rfl rfl (by kernel_rfl) (by kernel_rfl) (by kernel_rfl) (fun _ _ _ h => h) (Or.inr ⟨by rfl, rfl⟩) (by assumption) ?_
  try simp only [Act.put, List.setIfInBounds_toArray, List.set_cons_zero, List.set_cons_succ]
  refine take_at (i := 12) (v := undef) rfl rfl (by kernel_rfl) (by kernel_rfl) (by kernel_rfl) (fun _ _ _ h => h) (Or.inr ⟨by rfl, rfl⟩) (by assumption) ?_
  try simp only [Act.put, List.setIfInBounds_toArray, List.set_cons_zero, List.set_cons_succ]
  refine take_at (i := 13) (v := undef) rfl rfl (by kernel_rfl) (by kernel_rfl) (by kernel_rfl) (fun _ _ _ h => h) (Or.inr ⟨by rfl, rfl⟩) (by assumption) ?_
  try simp only [Act.put, List.setIfInBounds_toArray, List.set_cons_zero, List.set_cons_succ]
  refine take_at (i := 14) (v := undef) rfl rfl (by kernel_rfl) (by kernel_rfl) (by kernel_rfl) (fun _ _ _ h => h) (Or.inr ⟨by rfl, rfl⟩) (by assumption) ?_
  try simp only [Act.put, List.setIfInBounds_toArray, List.set_cons_zero, List.set_cons_succ]
  refine take_at (i := 15) (v := undef) rfl rfl (by kernel_rfl) (by kernel_rfl) (by kernel_rfl) (fun _ _ _ h => h) (Or.inr ⟨by rfl, rfl⟩) (by assumption) ?_
  try simp only [Act.put, List.setIfInBounds_toArray, List.set_cons_zero, List.set_cons_succ]
  refine take_at (i := 16) (v := undef) rfl rfl (by kernel_rfl) (by kernel_rfl) (by kernel_rfl) (fun _ _ _ h => h) (Or.inr ⟨by rfl, rfl⟩) (by assumption) ?_
  try simp only [Act.put, List.setIfInBounds_toArray, List.set_cons_zero, List.set_cons_succ]
  refine take_at (i := 17) (v := ?_) rfl rfl (by kernel_rfl) (by kernel_rfl) (by kernel_rfl) (fun _ _ _ h => h) (Or.inl ⟨by rfl, ?_⟩) (by assumption) ?_
  rotate_left
  · intro w hSw; (try dsimp only at hSw); go_simp; try with_reducible rfl
  try simp only [Act.put, List.setIfInBounds_toArray, List.set_cons_zero, List.set_cons_succ]
  refine wpAnyH_done (by kernel_rfl) (NoPanic.normal ?_) _
  obtain ⟨W1, hW1⟩ : ∃ W1, W1 = W0.drew := ⟨_, rfl⟩
  have HA1 : Hid (AdS w W1 D X r c a cx) := by rw [hW1]; exact HA.out.on (Below.refl _ _).drew
  rw [← hW1]
  clear hW1 HA hS0
  go_wp2_with fail
  have hS1 := (HA1.out.on (Below.refl _ _).drew).cells
  refine wp_region_noPanic ?_
  refine wp_region_held_drew (S := fun W => (W.cell? ⟨w.heap.size, 0, none⟩ = some (.slice (some ⟨r, 0, none⟩) D.1.length c) ∧ W.cell? ⟨w.heap.size, 1, none⟩ = some (.int .i64 D.2.1) ∧ W.cell? ⟨w.heap.size, 2, none⟩ = some (.bool D.2.2.1) ∧ W.cell? ⟨w.heap.size, 3, none⟩ = some (.int .i64 D.2.2.2)) ∧ (W.cell? ⟨w.heap.size + 1, 0, none⟩ = some (.string X.1) ∧ W.cell? ⟨w.heap.size + 1, 1, none⟩ = some (.slice a X.2.1.length cx) ∧ W.cell? ⟨w.heap.size + 1, 2, none⟩ = some (.int .i64 X.2.2.1) ∧ W.cell? ⟨w.heap.size + 1, 3, none⟩ = some (.string X.2.2.2))) (by kernel_rfl) (by first | exact trivial | assumption | exact ⟨by assumption, by assumption⟩) (fun hHeld => ?_)
  obtain ⟨V, hV⟩ : ∃ V, V = W1.drew := ⟨_, rfl⟩
  have HAV : Hid (AdS w V D X r c a cx) := by rw [hV]; exact HA1.out.on (Below.refl _ _).drew
  refine take_at (i := 0) (v := ?_) rfl rfl (by kernel_rfl) (by kernel_rfl) (by kernel_rfl) (fun _ _ _ h => h) (Or.inl ⟨by rfl, ?_⟩) (by assumption) ?_
  rotate_left
  · intro w hSw; (try dsimp only at hSw); go_simp; try with_reducible rfl
  try simp only [Act.put, List.setIfInBounds_toArray, List.set_cons_zero, List.set_cons_succ]
  refine take_at (i := 1) (v := ?_) rfl rfl (by kernel_rfl) (by kernel_rfl) (by kernel_rfl) (fun _ _ _ h => h) (Or.inl ⟨by rfl, ?_⟩) (by assumption) ?_
  rotate_left
  · intro w hSw; (try dsimp only at hSw); go_simp; try with_reducible rfl
  try simp only [Act.put, List.setIfInBounds_toArray, List.set_cons_zero, List.set_cons_succ]
  rw [← hV]
  refine wpAnyH_ready (rs := [2]) (by kernel_rfl) (by simp) ?_
  refine AllReadyH.cons rfl (fun K hK => ?_) AllReadyH.nil
  refine step_storeRow rfl rfl 28 _ _ rfl (w.heap.size + 1 + 1) #[.slice none 0 0, .int .i64 0, .bool false, .int .i64 0] #[.slice (some ⟨r, 0, none⟩) D.1.length c, .int .i64 D.2.1, .bool D.2.2.1, .int .i64 D.2.2.2] (by with_unfolding_all rfl) (by with_unfolding_all rfl) HAV.out.zd rfl (by kernel_rfl) (by simp [Value.oneCell']) ?_
  refine hK.out _ _ (HAV.out.cellsRow _ (by omega) _) (fun hHeld => ?_)
  clear hK K
  refine wpAnyH_ready (rs := [3]) (by kernel_rfl) (by simp) ?_
  refine AllReadyH.cons rfl (fun K hK => ?_) AllReadyH.nil
  refine step_storeRow rfl rfl 30 _ _ rfl (w.heap.size + 1 + 1 + 1) #[.string ⟨#[]⟩, .slice none 0 0, .int .i64 0, .string ⟨#[]⟩] #[.string X.1, .slice a X.2.1.length cx, .int .i64 X.2.2.1, .string X.2.2.2] (by with_unfolding_all rfl) (by with_unfolding_all rfl) (HAV.out.zs.setRowOther _ (by omega) _) rfl (by kernel_rfl) (by simp [Value.oneCell']) ?_
  refine hK.out _ _ (HAV.out.cellsRow2 _ _ (by omega) (by omega) _ _) (fun hHeld => ?_)
  clear hK K
  refine take_at (i := 4) (v := ?_) rfl rfl (by kernel_rfl) (by kernel_rfl) (by kernel_rfl) (fun _ _ _ h => h) (Or.inl ⟨by rfl, ?_⟩) (by assumption) ?_
  rotate_left
  · intro w hSw; (try dsimp only at hSw); go_simp; try with_reducible rfl
  try simp only [Act.put, List.setIfInBounds_toArray, List.set_cons_zero, List.set_cons_succ]
  refine wpAnyH_done (by kernel_rfl) (NoPanic.normal ?_) _
  go_wp2_with fail
  obtain ⟨o1, o2, o3, o4⟩ := HAV.out.out HAV.out.r (by rw [HD.out.len]; exact HN2.out) #[.slice (some ⟨r, 0, none⟩) D.1.length c, .int .i64 D.2.1, .bool D.2.2.1, .int .i64 D.2.2.2] #[.string X.1, .slice a X.2.1.length cx, .int .i64 X.2.2.1, .string X.2.2.2]
  exact bodyPost_rowsTmp rfl (w.heap.size + 1 + 1) (w.heap.size + 1 + 1 + 1) #[.slice (some ⟨r, 0, none⟩) D.1.length c, .int .i64 D.2.1, .bool D.2.2.1, .int .i64 D.2.2.2] #[.string X.1, .slice a X.2.1.length cx, .int .i64 X.2.2.1, .string X.2.2.2] _ rfl rfl rfl rfl o1 o2 _ _ Tryz.underlying28 rfl (by kernel_rfl) Tryz.underlying30 rfl (by kernel_rfl) ⟨_, _, rfl, ⟨r, c, rfl, o3⟩, ⟨a, cx, rfl, strs_set18 HT0.out (strs_set18 HT0.out HAV.out.t _ (by omega) _) _ (by omega) _, HAX.out⟩, o4⟩

set_option maxHeartbeats 8000000 in
theorem radd18_long (D : DevT) (v : Value) (n : Nat) (c0 : Int) (B : Nat) (X : StoT) (u : Value) (t : ByteArray) (w : World) (h : DevIn w v D) (hD : DvO n c0 D) (hn2 : 2 ≤ n) (_hn : n ≤ 2048) (_hc : c0 < 576460752303423488) (hX : StoIn w B u X) (hO : StO X) (hB : B ≤ w.heap.size) (ht0 : ¬ X.2.2.1 = 0) (ht1 : 32768 < t.size) :
    Calls Tryz.prog 24 #[v, u, .string t] w fun e w' => ∃ v' u', e = .returned (.tuple #[v', u', .int .i64 (addP D X t).2.2]) ∧ DevIn w' v' (addP D X t).1 ∧ StoIn w' B u' (addP D X t).2.1 ∧ Below w.heap.size w w' := by
  obtain ⟨r, c, rfl, hrow⟩ := h
  obtain ⟨a, cx, rfl, htx, hax⟩ := hX
  unfold devA
  have HA0 : Hid (AdS w _ D X r c a cx) := AdS.new w D X r c a cx hrow htx
  have HO : Hid (StO X) := hO
  have HD : Hid (DvO n c0 D) := hD
  have HAX : Hid (∀ x, a = some x → B ≤ x.block) := hax
  have HB : Hid (B ≤ w.heap.size) := hB
  have HT0 : Hid (StrsAt w a X.2.1.length X.2.1) := htx
  have HN2 : Hid (2 ≤ n) := hn2
  clear hrow htx hD hO hax
  obtain ⟨W0, hW0⟩ : ∃ W0, (((w.alloc (.cells #[.slice (some ⟨r, 0, none⟩) D.1.length c, .int .i64 D.2.1, .bool D.2.2.1, .int .i64 D.2.2.2] 28)).alloc (.cells #[.string X.1, .slice a X.2.1.length cx, .int .i64 X.2.2.1, .string X.2.2.2] 30)).alloc (.cells #[.slice none 0 0, .int .i64 0, .bool false, .int .i64 0] 28)).alloc (.cells #[.string ⟨#[]⟩, .slice none 0 0, .int .i64 0, .string ⟨#[]⟩] 30) = W0 := ⟨_, rfl⟩
  rw [hW0] at HA0
  have HA := HA0
  clear HA0
  have q0 : (X.2.2.1 == 0) = false := by rw [beq_eq_false_iff_ne]; exact ht0
  have HT : Hid (¬ X.2.2.1 = 0) := ht0
  clear ht0
  have q1 : decide ((32768 : Int) < (t.size : Int)) = true := decide_eq_true (by omega)
  have e9 : addP D X t = (D, X, 2) := by unfold addP; rw [if_pos (.inr (.inl ht1))]
  rw [e9]
  have hS0 := (HA.out.on (Below.refl _ _).drew).cells
  go_enter Tryz.func24, Tryz.ntmps24
  go_wp2_with fail
  refine wp_region_noPanic ?_
  refine wp_region_held_drew (S := fun W => (W.cell? ⟨w.heap.size, 0, none⟩ = some (.slice (some ⟨r, 0, none⟩) D.1.length c) ∧ W.cell? ⟨w.heap.size, 1, none⟩ = some (.int .i64 D.2.1) ∧ W.cell? ⟨w.heap.size, 2, none⟩ = some (.bool D.2.2.1) ∧ W.cell? ⟨w.heap.size, 3, none⟩ = some (.int .i64 D.2.2.2)) ∧ (W.cell? ⟨w.heap.size + 1, 0, none⟩ = some (.string X.1) ∧ W.cell? ⟨w.heap.size + 1, 1, none⟩ = some (.slice a X.2.1.length cx) ∧ W.cell? ⟨w.heap.size + 1, 2, none⟩ = some (.int .i64 X.2.2.1) ∧ W.cell? ⟨w.heap.size + 1, 3, none⟩ = some (.string X.2.2.2))) (by kernel_rfl) (by first | exact trivial | assumption | exact ⟨by assumption, by assumption⟩) (fun hHeld => ?_)
  refine take_at (i := 0) (v := ?_) rfl rfl (by kernel_rfl) (by kernel_rfl) (by kernel_rfl) (fun _ _ _ h => h) (Or.inl ⟨by rfl, ?_⟩) (by assumption) ?_
  rotate_left
  · intro w hSw; (try dsimp only at hSw); go_simp; try with_reducible rfl
  try simp only [Act.put, List.setIfInBounds_toArray, List.set_cons_zero, List.set_cons_succ]
  refine take_at (i := 1) (v := ?_) rfl rfl (by kernel_rfl) (by kernel_rfl) (by kernel_rfl) (fun _ _ _ h => h) (Or.inl ⟨by rfl, ?_⟩) (by assumption) ?_
  rotate_left
  · intro w hSw; (try dsimp only at hSw); go_simp; try with_reducible rfl
  try simp only [Act.put, List.setIfInBounds_toArray, List.set_cons_zero, List.set_cons_succ]
  refine take_at (i := 2) (v := ?_) rfl rfl (by kernel_rfl) (by kernel_rfl) (by kernel_rfl) (fun _ _ _ h => h) (Or.inl ⟨by rfl, ?_⟩) (by assumption) ?_
  rotate_left
  · intro w hSw; (try dsimp only at hSw); go_simp; try with_reducible rfl
  try simp only [Act.put, List.setIfInBounds_toArray, List.set_cons_zero, List.set_cons_succ]
  refine take_at (i := 3) (v := ?_) rfl rfl (by kernel_rfl) (by kernel_rfl) (by kernel_rfl) (fun _ _ _ h => h) (Or.inl ⟨by rfl, ?_⟩) (by assumption) ?_
  rotate_left
  · intro w hSw; (try dsimp only at hSw); go_simp; try with_reducible rfl
  try simp only [Act.put, List.setIfInBounds_toArray, List.set_cons_zero, List.set_cons_succ]
  refine take_at (i := 4) (v := ?_) rfl rfl (by kernel_rfl) (by kernel_rfl) (by kernel_rfl) (fun _ _ _ h => h) (Or.inl ⟨by rfl, ?_⟩) (by assumption) ?_
  rotate_left
  · intro w hSw; (try dsimp only at hSw); go_simp; try with_reducible rfl
  try simp only [Act.put, List.setIfInBounds_toArray, List.set_cons_zero, List.set_cons_succ]
  refine take_at (i := 5) (v := ?_) rfl rfl (by kernel_rfl) (by kernel_rfl) (by kernel_rfl) (fun _ _ _ h => h) (Or.inl ⟨by rfl, ?_⟩) (by assumption) ?_
  rotate_left
  · intro w hSw; (try dsimp only at hSw); go_simp; try with_reducible rfl
  try simp only [Act.put, List.setIfInBounds_toArray, List.set_cons_zero, List.set_cons_succ]
  refine take_at (i := 6) (v := ?_) rfl rfl (by kernel_rfl) (by kernel_rfl) (by kernel_rfl) (fun _ _ _ h => h) (Or.inl ⟨by rfl, ?_⟩) (by assumption) ?_
  rotate_left
  · intro w hSw; (try dsimp only at hSw); go_simp; try with_reducible rfl
  try simp only [Act.put, List.setIfInBounds_toArray, List.set_cons_zero, List.set_cons_succ]
  refine take_at (i := 7) (v := ?_) rfl rfl (by kernel_rfl) (by kernel_rfl) (by kernel_rfl) (fun _ _ _ h => h) (Or.inl ⟨by rfl, ?_⟩) (by assumption) ?_
  rotate_left
  · intro w hSw; (try dsimp only at hSw); go_simp; try with_reducible rfl
  try simp only [Act.put, List.setIfInBounds_toArray, List.set_cons_zero, List.set_cons_succ]
  refine take_at (i := 8) (v := ?_) rfl rfl (by kernel_rfl) (by kernel_rfl) (by kernel_rfl) (fun _ _ _ h => h) (Or.inl ⟨by rfl, ?_⟩) (by assumption) ?_
  rotate_left
  · intro w hSw; (try dsimp only at hSw); go_simp; try with_reducible rfl
  try simp only [Act.put, List.setIfInBounds_toArray, List.set_cons_zero, List.set_cons_succ]
  refine take_at (i := 9) (v := undef) rfl rfl (by kernel_rfl) (by kernel_rfl) (by kernel_rfl) (fun _ _ _ h => h) (Or.inr ⟨by rfl, rfl⟩) (by assumption) ?_
  try simp only [Act.put, List.setIfInBounds_toArray, List.set_cons_zero, List.set_cons_succ]
  refine take_at (i := 10) (v := undef) rfl rfl (by kernel_rfl) (by kernel_rfl) (by kernel_rfl) (fun _ _ _ h => h) (Or.inr ⟨by rfl, rfl⟩) (by assumption) ?_
  try simp only [Act.put, List.setIfInBounds_toArray, List.set_cons_zero, List.set_cons_succ]
  refine take_at (i := 11) (v := undef) rfl rfl (by kernel_rfl) (by kernel_rfl) (by kernel_rfl) (fun _ _ _ h => h) (Or.inr ⟨by rfl, rfl⟩) (by assumption) ?_
  try simp only [Act.put, List.setIfInBounds_toArray, List.set_cons_zero, List.set_cons_succ]
  refine take_at (i := 12) (v := undef) rfl rfl (by kernel_rfl) (by kernel_rfl) (by kernel_rfl) (fun _ _ _ h => h) (Or.inr ⟨by rfl, rfl⟩) (by assumption) ?_
  try simp only [Act.put, List.setIfInBounds_toArray, List.set_cons_zero, List.set_cons_succ]
  refine take_at (i := 13) (v := undef) rfl rfl (by kernel_rfl) (by kernel_rfl) (by kernel_rfl) (fun _ _ _ h => h) (Or.inr ⟨by rfl, rfl⟩) (by assumption) ?_
  try simp only [Act.put, List.setIfInBounds_toArray, List.set_cons_zero, List.set_cons_succ]
  refine take_at (i := 14) (v := undef) rfl rfl (by kernel_rfl) (by kernel_rfl) (by kernel_rfl) (fun _ _ _ h => h) (Or.inr ⟨by rfl, rfl⟩) (by assumption) ?_
  try simp only [Act.put, List.setIfInBounds_toArray, List.set_cons_zero, List.set_cons_succ]
  refine take_at (i := 15) (v := undef) rfl rfl (by kernel_rfl) (by kernel_rfl) (by kernel_rfl) (fun _ _ _ h => h) (Or.inr ⟨by rfl, rfl⟩) (by assumption) ?_
  try simp only [Act.put, List.setIfInBounds_toArray, List.set_cons_zero, List.set_cons_succ]
  refine take_at (i := 16) (v := undef) rfl rfl (by kernel_rfl) (by kernel_rfl) (by kernel_rfl) (fun _ _ _ h => h) (Or.inr ⟨by rfl, rfl⟩) (by assumption) ?_
  try simp only [Act.put, List.setIfInBounds_toArray, List.set_cons_zero, List.set_cons_succ]
  refine take_at (i := 17) (v := ?_) rfl rfl (by kernel_rfl) (by kernel_rfl) (by kernel_rfl) (fun _ _ _ h => h) (Or.inl ⟨by rfl, ?_⟩) (by assumption) ?_
  rotate_left
  · intro w hSw; (try dsimp only at hSw); go_simp; try with_reducible rfl
  try simp only [Act.put, List.setIfInBounds_toArray, List.set_cons_zero, List.set_cons_succ]
  refine wpAnyH_done (by kernel_rfl) (NoPanic.normal ?_) _
  obtain ⟨W1, hW1⟩ : ∃ W1, W1 = W0.drew := ⟨_, rfl⟩
  have HA1 : Hid (AdS w W1 D X r c a cx) := by rw [hW1]; exact HA.out.on (Below.refl _ _).drew
  rw [← hW1]
  clear hW1 HA hS0
  go_wp2_with fail
  have hS1 := (HA1.out.on (Below.refl _ _).drew).cells
  refine wp_region_noPanic ?_
  refine wp_region_held_drew (S := fun W => (W.cell? ⟨w.heap.size, 0, none⟩ = some (.slice (some ⟨r, 0, none⟩) D.1.length c) ∧ W.cell? ⟨w.heap.size, 1, none⟩ = some (.int .i64 D.2.1) ∧ W.cell? ⟨w.heap.size, 2, none⟩ = some (.bool D.2.2.1) ∧ W.cell? ⟨w.heap.size, 3, none⟩ = some (.int .i64 D.2.2.2)) ∧ (W.cell? ⟨w.heap.size + 1, 0, none⟩ = some (.string X.1) ∧ W.cell? ⟨w.heap.size + 1, 1, none⟩ = some (.slice a X.2.1.length cx) ∧ W.cell? ⟨w.heap.size + 1, 2, none⟩ = some (.int .i64 X.2.2.1) ∧ W.cell? ⟨w.heap.size + 1, 3, none⟩ = some (.string X.2.2.2))) (by kernel_rfl) (by first | exact trivial | assumption | exact ⟨by assumption, by assumption⟩) (fun hHeld => ?_)
  obtain ⟨V, hV⟩ : ∃ V, V = W1.drew := ⟨_, rfl⟩
  have HAV : Hid (AdS w V D X r c a cx) := by rw [hV]; exact HA1.out.on (Below.refl _ _).drew
  refine take_at (i := 0) (v := ?_) rfl rfl (by kernel_rfl) (by kernel_rfl) (by kernel_rfl) (fun _ _ _ h => h) (Or.inl ⟨by rfl, ?_⟩) (by assumption) ?_
  rotate_left
  · intro w hSw; (try dsimp only at hSw); go_simp; try with_reducible rfl
  try simp only [Act.put, List.setIfInBounds_toArray, List.set_cons_zero, List.set_cons_succ]
  refine take_at (i := 1) (v := ?_) rfl rfl (by kernel_rfl) (by kernel_rfl) (by kernel_rfl) (fun _ _ _ h => h) (Or.inl ⟨by rfl, ?_⟩) (by assumption) ?_
  rotate_left
  · intro w hSw; (try dsimp only at hSw); go_simp; try with_reducible rfl
  try simp only [Act.put, List.setIfInBounds_toArray, List.set_cons_zero, List.set_cons_succ]
  rw [← hV]
  refine wpAnyH_ready (rs := [2]) (by kernel_rfl) (by simp) ?_
  refine AllReadyH.cons rfl (fun K hK => ?_) AllReadyH.nil
  refine step_storeRow rfl rfl 28 _ _ rfl (w.heap.size + 1 + 1) #[.slice none 0 0, .int .i64 0, .bool false, .int .i64 0] #[.slice (some ⟨r, 0, none⟩) D.1.length c, .int .i64 D.2.1, .bool D.2.2.1, .int .i64 D.2.2.2] (by with_unfolding_all rfl) (by with_unfolding_all rfl) HAV.out.zd rfl (by kernel_rfl) (by simp [Value.oneCell']) ?_
  refine hK.out _ _ (HAV.out.cellsRow _ (by omega) _) (fun hHeld => ?_)
  clear hK K
  refine wpAnyH_ready (rs := [3]) (by kernel_rfl) (by simp) ?_
  refine AllReadyH.cons rfl (fun K hK => ?_) AllReadyH.nil
  refine step_storeRow rfl rfl 30 _ _ rfl (w.heap.size + 1 + 1 + 1) #[.string ⟨#[]⟩, .slice none 0 0, .int .i64 0, .string ⟨#[]⟩] #[.string X.1, .slice a X.2.1.length cx, .int .i64 X.2.2.1, .string X.2.2.2] (by with_unfolding_all rfl) (by with_unfolding_all rfl) (HAV.out.zs.setRowOther _ (by omega) _) rfl (by kernel_rfl) (by simp [Value.oneCell']) ?_
  refine hK.out _ _ (HAV.out.cellsRow2 _ _ (by omega) (by omega) _ _) (fun hHeld => ?_)
  clear hK K
  refine take_at (i := 4) (v := ?_) rfl rfl (by kernel_rfl) (by kernel_rfl) (by kernel_rfl) (fun _ _ _ h => h) (Or.inl ⟨by rfl, ?_⟩) (by assumption) ?_
  rotate_left
  · intro w hSw; (try dsimp only at hSw); go_simp; try with_reducible rfl
  try simp only [Act.put, List.setIfInBounds_toArray, List.set_cons_zero, List.set_cons_succ]
  refine wpAnyH_done (by kernel_rfl) (NoPanic.normal ?_) _
  go_wp2_with fail
  obtain ⟨o1, o2, o3, o4⟩ := HAV.out.out HAV.out.r (by rw [HD.out.len]; exact HN2.out) #[.slice (some ⟨r, 0, none⟩) D.1.length c, .int .i64 D.2.1, .bool D.2.2.1, .int .i64 D.2.2.2] #[.string X.1, .slice a X.2.1.length cx, .int .i64 X.2.2.1, .string X.2.2.2]
  exact bodyPost_rowsTmp rfl (w.heap.size + 1 + 1) (w.heap.size + 1 + 1 + 1) #[.slice (some ⟨r, 0, none⟩) D.1.length c, .int .i64 D.2.1, .bool D.2.2.1, .int .i64 D.2.2.2] #[.string X.1, .slice a X.2.1.length cx, .int .i64 X.2.2.1, .string X.2.2.2] _ rfl rfl rfl rfl o1 o2 _ _ Tryz.underlying28 rfl (by kernel_rfl) Tryz.underlying30 rfl (by kernel_rfl) ⟨_, _, rfl, ⟨r, c, rfl, o3⟩, ⟨a, cx, rfl, strs_set18 HT0.out (strs_set18 HT0.out HAV.out.t _ (by omega) _) _ (by omega) _, HAX.out⟩, o4⟩

set_option maxHeartbeats 8000000 in
theorem radd18_full (D : DevT) (v : Value) (n : Nat) (c0 : Int) (B : Nat) (X : StoT) (u : Value) (t : ByteArray) (w : World) (h : DevIn w v D) (hD : DvO n c0 D) (hn2 : 2 ≤ n) (hn : n ≤ 2048) (_hc : c0 < 576460752303423488) (hX : StoIn w B u X) (hO : StO X) (hB : B ≤ w.heap.size) (ht0 : ¬ X.2.2.1 = 0) (ht1 : ¬ 32768 < t.size) (hroom' : ¬ ((X.2.2.2.size + (t.size + 2) + 63) / 64 + 1 ≤ D.1.length / 2)) :
    Calls Tryz.prog 24 #[v, u, .string t] w fun e w' => ∃ v' u', e = .returned (.tuple #[v', u', .int .i64 (addP D X t).2.2]) ∧ DevIn w' v' (addP D X t).1 ∧ StoIn w' B u' (addP D X t).2.1 ∧ Below w.heap.size w w' := by
  obtain ⟨r, c, rfl, hrow⟩ := h
  obtain ⟨a, cx, rfl, htx, hax⟩ := hX
  unfold devA
  have HA0 : Hid (AdS w _ D X r c a cx) := AdS.new w D X r c a cx hrow htx
  have HO : Hid (StO X) := hO
  have HD : Hid (DvO n c0 D) := hD
  have HAX : Hid (∀ x, a = some x → B ≤ x.block) := hax
  have HB : Hid (B ≤ w.heap.size) := hB
  have HT0 : Hid (StrsAt w a X.2.1.length X.2.1) := htx
  have HN2 : Hid (2 ≤ n) := hn2
  clear hrow htx hD hO hax
  obtain ⟨W0, hW0⟩ : ∃ W0, (((w.alloc (.cells #[.slice (some ⟨r, 0, none⟩) D.1.length c, .int .i64 D.2.1, .bool D.2.2.1, .int .i64 D.2.2.2] 28)).alloc (.cells #[.string X.1, .slice a X.2.1.length cx, .int .i64 X.2.2.1, .string X.2.2.2] 30)).alloc (.cells #[.slice none 0 0, .int .i64 0, .bool false, .int .i64 0] 28)).alloc (.cells #[.string ⟨#[]⟩, .slice none 0 0, .int .i64 0, .string ⟨#[]⟩] 30) = W0 := ⟨_, rfl⟩
  rw [hW0] at HA0
  have HA := HA0
  clear HA0
  have q0 : (X.2.2.1 == 0) = false := by rw [beq_eq_false_iff_ne]; exact ht0
  have HT : Hid (¬ X.2.2.1 = 0) := ht0
  clear ht0
  have q1 : decide ((32768 : Int) < (t.size : Int)) = false := decide_eq_false (by omega)
  obtain ⟨T, HTx⟩ : ∃ T, Hid (txB t = T) := ⟨_, rfl⟩
  have hTs : Hid (T.size = t.size + 2) := by rw [← HTx.out]; exact txB_size t
  have CT : Hid (∀ W, Calls Tryz.prog 41 #[.string t] W fun e w' => e = .returned (.string T) ∧ Below W.heap.size W w') := by rw [← HTx.out]; exact fun W => rtext18_any t W (by omega)
  obtain ⟨BB, HBB⟩ : ∃ BB, Hid (X.2.2.2 ++ T = BB) := ⟨_, rfl⟩
  have xBB : X.2.2.2 ++ T = BB := HBB.out
  have hBs : Hid (BB.size = X.2.2.2.size + (t.size + 2)) := by show BB.size = _; rw [← HBB.out, ByteArray.size_append, hTs.out]
  have hsum : ¬ (9223372036854775807 < X.2.2.2.size + T.size) := by have h1 := HO.out.b; have h2 := hTs.out; omega
  have CR : Hid (∀ W v, DevIn W v D → Calls Tryz.prog 40 #[v, .string BB] W fun e w' => e = .returned (.bool (decide ((BB.size + 63) / 64 + 1 ≤ D.1.length / 2))) ∧ Below W.heap.size W w') := fun W v hv => rroom18_any D v BB W hv (by have := HD.out.len; omega) (by have h1 := HO.out.b; have h2 := hBs.out; omega)
  have hroom : ¬ ((BB.size + 63) / 64 + 1 ≤ D.1.length / 2) := by rw [hBs.out]; exact hroom'
  clear hroom'
  have qR : decide ((BB.size + 63) / 64 + 1 ≤ D.1.length / 2) = false := decide_eq_false hroom
  rw [qR] at CR
  have e9 : addP D X t = (D, X, 2) := by unfold addP; rw [if_pos (.inr (.inr (by rw [← hBs.out]; exact hroom)))]
  rw [e9]
  clear hroom qR
  have hS0 := (HA.out.on (Below.refl _ _).drew).cells
  go_enter Tryz.func24, Tryz.ntmps24
  go_wp2_with fail
  refine wp_region_noPanic ?_
  refine wp_region_held_drew (S := fun W => (W.cell? ⟨w.heap.size, 0, none⟩ = some (.slice (some ⟨r, 0, none⟩) D.1.length c) ∧ W.cell? ⟨w.heap.size, 1, none⟩ = some (.int .i64 D.2.1) ∧ W.cell? ⟨w.heap.size, 2, none⟩ = some (.bool D.2.2.1) ∧ W.cell? ⟨w.heap.size, 3, none⟩ = some (.int .i64 D.2.2.2)) ∧ (W.cell? ⟨w.heap.size + 1, 0, none⟩ = some (.string X.1) ∧ W.cell? ⟨w.heap.size + 1, 1, none⟩ = some (.slice a X.2.1.length cx) ∧ W.cell? ⟨w.heap.size + 1, 2, none⟩ = some (.int .i64 X.2.2.1) ∧ W.cell? ⟨w.heap.size + 1, 3, none⟩ = some (.string X.2.2.2))) (by kernel_rfl) (by first | exact trivial | assumption | exact ⟨by assumption, by assumption⟩) (fun hHeld => ?_)
  refine take_at (i := 0) (v := ?_) rfl rfl (by kernel_rfl) (by kernel_rfl) (by kernel_rfl) (fun _ _ _ h => h) (Or.inl ⟨by rfl, ?_⟩) (by assumption) ?_
  rotate_left
  · intro w hSw; (try dsimp only at hSw); go_simp; try with_reducible rfl
  try simp only [Act.put, List.setIfInBounds_toArray, List.set_cons_zero, List.set_cons_succ]
  refine take_at (i := 1) (v := ?_) rfl rfl (by kernel_rfl) (by kernel_rfl) (by kernel_rfl) (fun _ _ _ h => h) (Or.inl ⟨by rfl, ?_⟩) (by assumption) ?_
  rotate_left
  · intro w hSw; (try dsimp only at hSw); go_simp; try with_reducible rfl
  try simp only [Act.put, List.setIfInBounds_toArray, List.set_cons_zero, List.set_cons_succ]
  refine take_at (i := 2) (v := ?_) rfl rfl (by kernel_rfl) (by kernel_rfl) (by kernel_rfl) (fun _ _ _ h => h) (Or.inl ⟨by rfl, ?_⟩) (by assumption) ?_
  rotate_left
  · intro w hSw; (try dsimp only at hSw); go_simp; try with_reducible rfl
  try simp only [Act.put, List.setIfInBounds_toArray, List.set_cons_zero, List.set_cons_succ]
  refine take_at (i := 3) (v := ?_) rfl rfl (by kernel_rfl) (by kernel_rfl) (by kernel_rfl) (fun _ _ _ h => h) (Or.inl ⟨by rfl, ?_⟩) (by assumption) ?_
  rotate_left
  · intro w hSw; (try dsimp only at hSw); go_simp; try with_reducible rfl
  try simp only [Act.put, List.setIfInBounds_toArray, List.set_cons_zero, List.set_cons_succ]
  refine take_at (i := 4) (v := ?_) rfl rfl (by kernel_rfl) (by kernel_rfl) (by kernel_rfl) (fun _ _ _ h => h) (Or.inl ⟨by rfl, ?_⟩) (by assumption) ?_
  rotate_left
  · intro w hSw; (try dsimp only at hSw); go_simp; try with_reducible rfl
  try simp only [Act.put, List.setIfInBounds_toArray, List.set_cons_zero, List.set_cons_succ]
  refine take_at (i := 5) (v := ?_) rfl rfl (by kernel_rfl) (by kernel_rfl) (by kernel_rfl) (fun _ _ _ h => h) (Or.inl ⟨by rfl, ?_⟩) (by assumption) ?_
  rotate_left
  · intro w hSw; (try dsimp only at hSw); go_simp; try with_reducible rfl
  try simp only [Act.put, List.setIfInBounds_toArray, List.set_cons_zero, List.set_cons_succ]
  refine take_at (i := 6) (v := ?_) rfl rfl (by kernel_rfl) (by kernel_rfl) (by kernel_rfl) (fun _ _ _ h => h) (Or.inl ⟨by rfl, ?_⟩) (by assumption) ?_
  rotate_left
  · intro w hSw; (try dsimp only at hSw); go_simp; try with_reducible rfl
  try simp only [Act.put, List.setIfInBounds_toArray, List.set_cons_zero, List.set_cons_succ]
  refine take_at (i := 7) (v := ?_) rfl rfl (by kernel_rfl) (by kernel_rfl) (by kernel_rfl) (fun _ _ _ h => h) (Or.inl ⟨by rfl, ?_⟩) (by assumption) ?_
  rotate_left
  · intro w hSw; (try dsimp only at hSw); go_simp; try with_reducible rfl
  try simp only [Act.put, List.setIfInBounds_toArray, List.set_cons_zero, List.set_cons_succ]
  refine take_at (i := 8) (v := ?_) rfl rfl (by kernel_rfl) (by kernel_rfl) (by kernel_rfl) (fun _ _ _ h => h) (Or.inl ⟨by rfl, ?_⟩) (by assumption) ?_
  rotate_left
  · intro w hSw; (try dsimp only at hSw); go_simp; try with_reducible rfl
  try simp only [Act.put, List.setIfInBounds_toArray, List.set_cons_zero, List.set_cons_succ]
  refine take_at (i := 9) (v := ?_) rfl rfl (by kernel_rfl) (by kernel_rfl) (by kernel_rfl) (fun _ _ _ h => h) (Or.inl ⟨by rfl, ?_⟩) (by assumption) ?_
  rotate_left
  · intro w hSw; (try dsimp only at hSw); go_simp; try with_reducible rfl
  try simp only [Act.put, List.setIfInBounds_toArray, List.set_cons_zero, List.set_cons_succ]
  refine take_at (i := 10) (v := ?_) rfl rfl (by kernel_rfl) (by kernel_rfl) (by kernel_rfl) (fun _ _ _ h => h) (Or.inl ⟨by rfl, ?_⟩) (by assumption) ?_
  rotate_left
  · intro w hSw; (try dsimp only at hSw); go_simp; try with_reducible rfl
  try simp only [Act.put, List.setIfInBounds_toArray, List.set_cons_zero, List.set_cons_succ]
  refine take_at (i := 11) (v := ?_) rfl rfl (by kernel_rfl) (by kernel_rfl) (by kernel_rfl) (fun _ _ _ h => h) (Or.inl ⟨by rfl, ?_⟩) (by assumption) ?_
  rotate_left
  · intro w hSw; (try dsimp only at hSw); go_simp; try with_reducible rfl
  try simp only [Act.put, List.setIfInBounds_toArray, List.set_cons_zero, List.set_cons_succ]
  refine take_at (i := 12) (v := ?_) rfl rfl (by kernel_rfl) (by kernel_rfl) (by kernel_rfl) (fun _ _ _ h => h) (Or.inl ⟨by rfl, ?_⟩) (by assumption) ?_
  rotate_left
  · intro w hSw; (try dsimp only at hSw); go_simp; try with_reducible rfl
  try simp only [Act.put, List.setIfInBounds_toArray, List.set_cons_zero, List.set_cons_succ]
  refine wpAnyH_ready (rs := [13]) (by kernel_rfl) (by simp) ?_
  refine AllReadyH.cons rfl (fun K hK => ?_) AllReadyH.nil
  go_simp
  refine (CT.out _).mono ?_
  rintro e w2 ⟨rfl, hb2⟩
  have HA2 : Hid (AdS w w2 D X r c a cx) := (HA.out.on (Below.refl _ _).drew).on hb2
  clear HA hb2
  refine hK.out _ _ HA2.out.cells (fun hHeld => ?_)
  clear hK K
  refine take_at (i := 14) (v := ?_) rfl rfl (by kernel_rfl) (by kernel_rfl) (by kernel_rfl) (fun _ _ _ h => h) (Or.inl ⟨by rfl, ?_⟩) (by assumption) ?_
  rotate_left
  · intro w hSw; (try dsimp only at hSw); go_simp; try with_reducible rfl
  try simp only [Act.put, List.setIfInBounds_toArray, List.set_cons_zero, List.set_cons_succ]
  refine wpAnyH_ready (rs := [15]) (by kernel_rfl) (by simp) ?_
  refine AllReadyH.cons rfl (fun K hK => ?_) AllReadyH.nil
  go_simp
  refine (CR.out _ _ HA2.out.devIn).mono ?_
  rintro e W1 ⟨rfl, hb3⟩
  have HA1 : Hid (AdS w W1 D X r c a cx) := HA2.out.on hb3
  clear HA2 hb3 CR
  refine hK.out _ _ HA1.out.cells (fun hHeld => ?_)
  clear hK K
  refine take_at (i := 16) (v := ?_) rfl rfl (by kernel_rfl) (by kernel_rfl) (by kernel_rfl) (fun _ _ _ h => h) (Or.inl ⟨by rfl, ?_⟩) (by assumption) ?_
  rotate_left
  · intro w hSw; (try dsimp only at hSw); go_simp; try with_reducible rfl
  try simp only [Act.put, List.setIfInBounds_toArray, List.set_cons_zero, List.set_cons_succ]
  refine take_at (i := 17) (v := ?_) rfl rfl (by kernel_rfl) (by kernel_rfl) (by kernel_rfl) (fun _ _ _ h => h) (Or.inl ⟨by rfl, ?_⟩) (by assumption) ?_
  rotate_left
  · intro w hSw; (try dsimp only at hSw); go_simp; try with_reducible rfl
  try simp only [Act.put, List.setIfInBounds_toArray, List.set_cons_zero, List.set_cons_succ]
  refine wpAnyH_done (by kernel_rfl) (NoPanic.normal ?_) _
  clear hS0 xBB
  go_wp2_with fail
  have hS1 := (HA1.out.on (Below.refl _ _).drew).cells
  refine wp_region_noPanic ?_
  refine wp_region_held_drew (S := fun W => (W.cell? ⟨w.heap.size, 0, none⟩ = some (.slice (some ⟨r, 0, none⟩) D.1.length c) ∧ W.cell? ⟨w.heap.size, 1, none⟩ = some (.int .i64 D.2.1) ∧ W.cell? ⟨w.heap.size, 2, none⟩ = some (.bool D.2.2.1) ∧ W.cell? ⟨w.heap.size, 3, none⟩ = some (.int .i64 D.2.2.2)) ∧ (W.cell? ⟨w.heap.size + 1, 0, none⟩ = some (.string X.1) ∧ W.cell? ⟨w.heap.size + 1, 1, none⟩ = some (.slice a X.2.1.length cx) ∧ W.cell? ⟨w.heap.size + 1, 2, none⟩ = some (.int .i64 X.2.2.1) ∧ W.cell? ⟨w.heap.size + 1, 3, none⟩ = some (.string X.2.2.2))) (by kernel_rfl) (by first | exact trivial | assumption | exact ⟨by assumption, by assumption⟩) (fun hHeld => ?_)
  obtain ⟨V, hV⟩ : ∃ V, V = W1.drew := ⟨_, rfl⟩
  have HAV : Hid (AdS w V D X r c a cx) := by rw [hV]; exact HA1.out.on (Below.refl _ _).drew
  refine take_at (i := 0) (v := ?_) rfl rfl (by kernel_rfl) (by kernel_rfl) (by kernel_rfl) (fun _ _ _ h => h) (Or.inl ⟨by rfl, ?_⟩) (by assumption) ?_
  rotate_left
  · intro w hSw; (try dsimp only at hSw); go_simp; try with_reducible rfl
  try simp only [Act.put, List.setIfInBounds_toArray, List.set_cons_zero, List.set_cons_succ]
  refine take_at (i := 1) (v := ?_) rfl rfl (by kernel_rfl) (by kernel_rfl) (by kernel_rfl) (fun _ _ _ h => h) (Or.inl ⟨by rfl, ?_⟩) (by assumption) ?_
  rotate_left
  · intro w hSw; (try dsimp only at hSw); go_simp; try with_reducible rfl
  try simp only [Act.put, List.setIfInBounds_toArray, List.set_cons_zero, List.set_cons_succ]
  rw [← hV]
  refine wpAnyH_ready (rs := [2]) (by kernel_rfl) (by simp) ?_
  refine AllReadyH.cons rfl (fun K hK => ?_) AllReadyH.nil
  refine step_storeRow rfl rfl 28 _ _ rfl (w.heap.size + 1 + 1) #[.slice none 0 0, .int .i64 0, .bool false, .int .i64 0] #[.slice (some ⟨r, 0, none⟩) D.1.length c, .int .i64 D.2.1, .bool D.2.2.1, .int .i64 D.2.2.2] (by with_unfolding_all rfl) (by with_unfolding_all rfl) HAV.out.zd rfl (by kernel_rfl) (by simp [Value.oneCell']) ?_
  refine hK.out _ _ (HAV.out.cellsRow _ (by omega) _) (fun hHeld => ?_)
  clear hK K
  refine wpAnyH_ready (rs := [3]) (by kernel_rfl) (by simp) ?_
  refine AllReadyH.cons rfl (fun K hK => ?_) AllReadyH.nil
  refine step_storeRow rfl rfl 30 _ _ rfl (w.heap.size + 1 + 1 + 1) #[.string ⟨#[]⟩, .slice none 0 0, .int .i64 0, .string ⟨#[]⟩] #[.string X.1, .slice a X.2.1.length cx, .int .i64 X.2.2.1, .string X.2.2.2] (by with_unfolding_all rfl) (by with_unfolding_all rfl) (HAV.out.zs.setRowOther _ (by omega) _) rfl (by kernel_rfl) (by simp [Value.oneCell']) ?_
  refine hK.out _ _ (HAV.out.cellsRow2 _ _ (by omega) (by omega) _ _) (fun hHeld => ?_)
  clear hK K
  refine take_at (i := 4) (v := ?_) rfl rfl (by kernel_rfl) (by kernel_rfl) (by kernel_rfl) (fun _ _ _ h => h) (Or.inl ⟨by rfl, ?_⟩) (by assumption) ?_
  rotate_left
  · intro w hSw; (try dsimp only at hSw); go_simp; try with_reducible rfl
  try simp only [Act.put, List.setIfInBounds_toArray, List.set_cons_zero, List.set_cons_succ]
  refine wpAnyH_done (by kernel_rfl) (NoPanic.normal ?_) _
  go_wp2_with fail
  obtain ⟨o1, o2, o3, o4⟩ := HAV.out.out HAV.out.r (by rw [HD.out.len]; exact HN2.out) #[.slice (some ⟨r, 0, none⟩) D.1.length c, .int .i64 D.2.1, .bool D.2.2.1, .int .i64 D.2.2.2] #[.string X.1, .slice a X.2.1.length cx, .int .i64 X.2.2.1, .string X.2.2.2]
  exact bodyPost_rowsTmp rfl (w.heap.size + 1 + 1) (w.heap.size + 1 + 1 + 1) #[.slice (some ⟨r, 0, none⟩) D.1.length c, .int .i64 D.2.1, .bool D.2.2.1, .int .i64 D.2.2.2] #[.string X.1, .slice a X.2.1.length cx, .int .i64 X.2.2.1, .string X.2.2.2] _ rfl rfl rfl rfl o1 o2 _ _ Tryz.underlying28 rfl (by kernel_rfl) Tryz.underlying30 rfl (by kernel_rfl) ⟨_, _, rfl, ⟨r, c, rfl, o3⟩, ⟨a, cx, rfl, strs_set18 HT0.out (strs_set18 HT0.out HAV.out.t _ (by omega) _) _ (by omega) _, HAX.out⟩, o4⟩


set_option maxHeartbeats 8000000 in
theorem radd18_off (D : DevT) (v : Value) (n : Nat) (c0 : Int) (B : Nat) (X : StoT) (u : Value) (t : ByteArray) (w : World) (h : DevIn w v D) (hD : DvO n c0 D) (hn2 : 2 ≤ n) (hn : n ≤ 2048) (hc : c0 < 576460752303423488) (hX : StoIn w B u X) (hO : StO X) (hB : B ≤ w.heap.size) (ht0 : ¬ X.2.2.1 = 0) (ht1 : ¬ 32768 < t.size) (hroom' : (X.2.2.2.size + (t.size + 2) + 63) / 64 + 1 ≤ D.1.length / 2) (h0' : ¬ (writesP D X.2.2.1.toNat (X.2.2.2.size / 64) (X.2.2.2 ++ txB t)).2 = 0) :
    Calls Tryz.prog 24 #[v, u, .string t] w fun e w' => ∃ v' u', e = .returned (.tuple #[v', u', .int .i64 (addP D X t).2.2]) ∧ DevIn w' v' (addP D X t).1 ∧ StoIn w' B u' (addP D X t).2.1 ∧ Below w.heap.size w w' := by
  obtain ⟨r, c, rfl, hrow⟩ := h
  obtain ⟨a, cx, rfl, htx, hax⟩ := hX
  unfold devA
  have HA0 : Hid (AdS w _ D X r c a cx) := AdS.new w D X r c a cx hrow htx
  have HO : Hid (StO X) := hO
  have HD : Hid (DvO n c0 D) := hD
  have HAX : Hid (∀ x, a = some x → B ≤ x.block) := hax
  have HB : Hid (B ≤ w.heap.size) := hB
  have HT0 : Hid (StrsAt w a X.2.1.length X.2.1) := htx
  have HN2 : Hid (2 ≤ n) := hn2
  clear hrow htx hD hO hax
  obtain ⟨W0, hW0⟩ : ∃ W0, (((w.alloc (.cells #[.slice (some ⟨r, 0, none⟩) D.1.length c, .int .i64 D.2.1, .bool D.2.2.1, .int .i64 D.2.2.2] 28)).alloc (.cells #[.string X.1, .slice a X.2.1.length cx, .int .i64 X.2.2.1, .string X.2.2.2] 30)).alloc (.cells #[.slice none 0 0, .int .i64 0, .bool false, .int .i64 0] 28)).alloc (.cells #[.string ⟨#[]⟩, .slice none 0 0, .int .i64 0, .string ⟨#[]⟩] 30) = W0 := ⟨_, rfl⟩
  rw [hW0] at HA0
  have HA := HA0
  clear HA0
  have q0 : (X.2.2.1 == 0) = false := by rw [beq_eq_false_iff_ne]; exact ht0
  have HT : Hid (¬ X.2.2.1 = 0) := ht0
  clear ht0
  have q1 : decide ((32768 : Int) < (t.size : Int)) = false := decide_eq_false (by omega)
  obtain ⟨T, HTx⟩ : ∃ T, Hid (txB t = T) := ⟨_, rfl⟩
  have hTs : Hid (T.size = t.size + 2) := by rw [← HTx.out]; exact txB_size t
  have CT : Hid (∀ W, Calls Tryz.prog 41 #[.string t] W fun e w' => e = .returned (.string T) ∧ Below W.heap.size W w') := by rw [← HTx.out]; exact fun W => rtext18_any t W (by omega)
  obtain ⟨BB, HBB⟩ : ∃ BB, Hid (X.2.2.2 ++ T = BB) := ⟨_, rfl⟩
  have xBB : X.2.2.2 ++ T = BB := HBB.out
  have hBs : Hid (BB.size = X.2.2.2.size + (t.size + 2)) := by show BB.size = _; rw [← HBB.out, ByteArray.size_append, hTs.out]
  have hsum : ¬ (9223372036854775807 < X.2.2.2.size + T.size) := by have h1 := HO.out.b; have h2 := hTs.out; omega
  have CR : Hid (∀ W v, DevIn W v D → Calls Tryz.prog 40 #[v, .string BB] W fun e w' => e = .returned (.bool (decide ((BB.size + 63) / 64 + 1 ≤ D.1.length / 2))) ∧ Below W.heap.size W w') := fun W v hv => rroom18_any D v BB W hv (by have := HD.out.len; omega) (by have h1 := HO.out.b; have h2 := hBs.out; omega)
  have hroom : (BB.size + 63) / 64 + 1 ≤ D.1.length / 2 := by rw [hBs.out]; exact hroom'
  clear hroom'
  obtain ⟨m, hm⟩ : ∃ m, X.2.2.2.size / 64 = m := ⟨_, rfl⟩
  obtain ⟨tn, htn⟩ : ∃ tn : Nat, X.2.2.1 = (tn : Int) := ⟨X.2.2.1.toNat, by have := HO.out.t0; omega⟩
  obtain ⟨R, HR⟩ : ∃ R, Hid (writesP D tn m BB = R) := ⟨_, rfl⟩
  have CW : Hid (∀ W v, DevIn W v D → Calls Tryz.prog 42 #[v, .int .i64 X.2.2.1, .int .i64 (m : Int), .string BB] W fun e w' => ∃ v', e = .returned (.tuple #[v', .int .i64 R.2]) ∧ DevIn w' v' R.1 ∧ Below W.heap.size W w') := fun W v hv => by
    have := rwrites18_any D v n c0 tn m BB W hv HD.out hn hc (by rw [← HD.out.len]; exact hroom) (by have := hBs.out; omega) (by have := HO.out.t1; omega)
    rw [HR.out] at this
    rw [htn]
    exact this
  have HDR : Hid (2 ≤ R.1.1.length) := by
    have := writesP_len D tn m BB
    rw [HR.out, HD.out.len] at this
    show 2 ≤ R.1.1.length; rw [this]; exact HN2.out
  have HAd : Hid (addP D X t = if R.2 = 0 then (R.1, (X.1, X.2.1 ++ [t], X.2.2.1, BB), 0) else (R.1, X, R.2)) := by
    show _ = _
    unfold addP
    rw [if_neg (by rintro (e | e | e); · exact HT.out e
                   · omega
                   · exact e (by rw [← hBs.out]; exact hroom))]
    simp only [htn, hm, HTx.out, HBB.out, HR.out, Int.toNat_natCast]
  have r6 : Int.tdiv (X.2.2.2.size : Int) 64 = (m : Int) := by rw [Int.tdiv_eq_ediv_of_nonneg (by omega)]; omega
  have r7 : (X.2.2.2.size : Int) / 64 = (m : Int) := by omega
  have qR : decide ((BB.size + 63) / 64 + 1 ≤ D.1.length / 2) = true := decide_eq_true hroom
  rw [qR] at CR
  have h0 : ¬ R.2 = 0 := by have e := HR.out; rw [← e, ← HBB.out, ← HTx.out, ← hm]; rw [htn, Int.toNat_natCast] at h0'; exact h0'
  clear h0'
  clear hm htn HR hroom qR
  have g0 : (R.2 != 0) = true := by rw [bne_iff_ne]; exact h0
  have e9 : addP D X t = (R.1, X, R.2) := by rw [HAd.out, if_neg h0]
  rw [e9]
  clear HAd h0
  have hS0 := (HA.out.on (Below.refl _ _).drew).cells
  go_enter Tryz.func24, Tryz.ntmps24
  go_wp2_with fail
  refine wp_region_noPanic ?_
  refine wp_region_held_drew (S := fun W => (W.cell? ⟨w.heap.size, 0, none⟩ = some (.slice (some ⟨r, 0, none⟩) D.1.length c) ∧ W.cell? ⟨w.heap.size, 1, none⟩ = some (.int .i64 D.2.1) ∧ W.cell? ⟨w.heap.size, 2, none⟩ = some (.bool D.2.2.1) ∧ W.cell? ⟨w.heap.size, 3, none⟩ = some (.int .i64 D.2.2.2)) ∧ (W.cell? ⟨w.heap.size + 1, 0, none⟩ = some (.string X.1) ∧ W.cell? ⟨w.heap.size + 1, 1, none⟩ = some (.slice a X.2.1.length cx) ∧ W.cell? ⟨w.heap.size + 1, 2, none⟩ = some (.int .i64 X.2.2.1) ∧ W.cell? ⟨w.heap.size + 1, 3, none⟩ = some (.string X.2.2.2))) (by kernel_rfl) (by first | exact trivial | assumption | exact ⟨by assumption, by assumption⟩) (fun hHeld => ?_)
  refine take_at (i := 0) (v := ?_) rfl rfl (by kernel_rfl) (by kernel_rfl) (by kernel_rfl) (fun _ _ _ h => h) (Or.inl ⟨by rfl, ?_⟩) (by assumption) ?_
  rotate_left
  · intro w hSw; (try dsimp only at hSw); go_simp; try with_reducible rfl
  try simp only [Act.put, List.setIfInBounds_toArray, List.set_cons_zero, List.set_cons_succ]
  refine take_at (i := 1) (v := ?_) rfl rfl (by kernel_rfl) (by kernel_rfl) (by kernel_rfl) (fun _ _ _ h => h) (Or.inl ⟨by rfl, ?_⟩) (by assumption) ?_
  rotate_left
  · intro w hSw; (try dsimp only at hSw); go_simp; try with_reducible rfl
  try simp only [Act.put, List.setIfInBounds_toArray, List.set_cons_zero, List.set_cons_succ]
  refine take_at (i := 2) (v := ?_) rfl rfl (by kernel_rfl) (by kernel_rfl) (by kernel_rfl) (fun _ _ _ h => h) (Or.inl ⟨by rfl, ?_⟩) (by assumption) ?_
  rotate_left
  · intro w hSw; (try dsimp only at hSw); go_simp; try with_reducible rfl
  try simp only [Act.put, List.setIfInBounds_toArray, List.set_cons_zero, List.set_cons_succ]
  refine take_at (i := 3) (v := ?_) rfl rfl (by kernel_rfl) (by kernel_rfl) (by kernel_rfl) (fun _ _ _ h => h) (Or.inl ⟨by rfl, ?_⟩) (by assumption) ?_
  rotate_left
  · intro w hSw; (try dsimp only at hSw); go_simp; try with_reducible rfl
  try simp only [Act.put, List.setIfInBounds_toArray, List.set_cons_zero, List.set_cons_succ]
  refine take_at (i := 4) (v := ?_) rfl rfl (by kernel_rfl) (by kernel_rfl) (by kernel_rfl) (fun _ _ _ h => h) (Or.inl ⟨by rfl, ?_⟩) (by assumption) ?_
  rotate_left
  · intro w hSw; (try dsimp only at hSw); go_simp; try with_reducible rfl
  try simp only [Act.put, List.setIfInBounds_toArray, List.set_cons_zero, List.set_cons_succ]
  refine take_at (i := 5) (v := ?_) rfl rfl (by kernel_rfl) (by kernel_rfl) (by kernel_rfl) (fun _ _ _ h => h) (Or.inl ⟨by rfl, ?_⟩) (by assumption) ?_
  rotate_left
  · intro w hSw; (try dsimp only at hSw); go_simp; try with_reducible rfl
  try simp only [Act.put, List.setIfInBounds_toArray, List.set_cons_zero, List.set_cons_succ]
  refine take_at (i := 6) (v := ?_) rfl rfl (by kernel_rfl) (by kernel_rfl) (by kernel_rfl) (fun _ _ _ h => h) (Or.inl ⟨by rfl, ?_⟩) (by assumption) ?_
  rotate_left
  · intro w hSw; (try dsimp only at hSw); go_simp; try with_reducible rfl
  try simp only [Act.put, List.setIfInBounds_toArray, List.set_cons_zero, List.set_cons_succ]
  refine take_at (i := 7) (v := ?_) rfl rfl (by kernel_rfl) (by kernel_rfl) (by kernel_rfl) (fun _ _ _ h => h) (Or.inl ⟨by rfl, ?_⟩) (by assumption) ?_
  rotate_left
  · intro w hSw; (try dsimp only at hSw); go_simp; try with_reducible rfl
  try simp only [Act.put, List.setIfInBounds_toArray, List.set_cons_zero, List.set_cons_succ]
  refine take_at (i := 8) (v := ?_) rfl rfl (by kernel_rfl) (by kernel_rfl) (by kernel_rfl) (fun _ _ _ h => h) (Or.inl ⟨by rfl, ?_⟩) (by assumption) ?_
  rotate_left
  · intro w hSw; (try dsimp only at hSw); go_simp; try with_reducible rfl
  try simp only [Act.put, List.setIfInBounds_toArray, List.set_cons_zero, List.set_cons_succ]
  refine take_at (i := 9) (v := ?_) rfl rfl (by kernel_rfl) (by kernel_rfl) (by kernel_rfl) (fun _ _ _ h => h) (Or.inl ⟨by rfl, ?_⟩) (by assumption) ?_
  rotate_left
  · intro w hSw; (try dsimp only at hSw); go_simp; try with_reducible rfl
  try simp only [Act.put, List.setIfInBounds_toArray, List.set_cons_zero, List.set_cons_succ]
  refine take_at (i := 10) (v := ?_) rfl rfl (by kernel_rfl) (by kernel_rfl) (by kernel_rfl) (fun _ _ _ h => h) (Or.inl ⟨by rfl, ?_⟩) (by assumption) ?_
  rotate_left
  · intro w hSw; (try dsimp only at hSw); go_simp; try with_reducible rfl
  try simp only [Act.put, List.setIfInBounds_toArray, List.set_cons_zero, List.set_cons_succ]
  refine take_at (i := 11) (v := ?_) rfl rfl (by kernel_rfl) (by kernel_rfl) (by kernel_rfl) (fun _ _ _ h => h) (Or.inl ⟨by rfl, ?_⟩) (by assumption) ?_
  rotate_left
  · intro w hSw; (try dsimp only at hSw); go_simp; try with_reducible rfl
  try simp only [Act.put, List.setIfInBounds_toArray, List.set_cons_zero, List.set_cons_succ]
  refine take_at (i := 12) (v := ?_) rfl rfl (by kernel_rfl) (by kernel_rfl) (by kernel_rfl) (fun _ _ _ h => h) (Or.inl ⟨by rfl, ?_⟩) (by assumption) ?_
  rotate_left
  · intro w hSw; (try dsimp only at hSw); go_simp; try with_reducible rfl
  try simp only [Act.put, List.setIfInBounds_toArray, List.set_cons_zero, List.set_cons_succ]
  refine wpAnyH_ready (rs := [13]) (by kernel_rfl) (by simp) ?_
  refine AllReadyH.cons rfl (fun K hK => ?_) AllReadyH.nil
  go_simp
  refine (CT.out _).mono ?_
  rintro e w2 ⟨rfl, hb2⟩
  have HA2 : Hid (AdS w w2 D X r c a cx) := (HA.out.on (Below.refl _ _).drew).on hb2
  clear HA hb2
  refine hK.out _ _ HA2.out.cells (fun hHeld => ?_)
  clear hK K
  refine take_at (i := 14) (v := ?_) rfl rfl (by kernel_rfl) (by kernel_rfl) (by kernel_rfl) (fun _ _ _ h => h) (Or.inl ⟨by rfl, ?_⟩) (by assumption) ?_
  rotate_left
  · intro w hSw; (try dsimp only at hSw); go_simp; try with_reducible rfl
  try simp only [Act.put, List.setIfInBounds_toArray, List.set_cons_zero, List.set_cons_succ]
  refine wpAnyH_ready (rs := [15]) (by kernel_rfl) (by simp) ?_
  refine AllReadyH.cons rfl (fun K hK => ?_) AllReadyH.nil
  go_simp
  refine (CR.out _ _ HA2.out.devIn).mono ?_
  rintro e W1 ⟨rfl, hb3⟩
  have HA1 : Hid (AdS w W1 D X r c a cx) := HA2.out.on hb3
  clear HA2 hb3 CR
  refine hK.out _ _ HA1.out.cells (fun hHeld => ?_)
  clear hK K
  refine take_at (i := 16) (v := ?_) rfl rfl (by kernel_rfl) (by kernel_rfl) (by kernel_rfl) (fun _ _ _ h => h) (Or.inl ⟨by rfl, ?_⟩) (by assumption) ?_
  rotate_left
  · intro w hSw; (try dsimp only at hSw); go_simp; try with_reducible rfl
  try simp only [Act.put, List.setIfInBounds_toArray, List.set_cons_zero, List.set_cons_succ]
  refine take_at (i := 17) (v := ?_) rfl rfl (by kernel_rfl) (by kernel_rfl) (by kernel_rfl) (fun _ _ _ h => h) (Or.inl ⟨by rfl, ?_⟩) (by assumption) ?_
  rotate_left
  · intro w hSw; (try dsimp only at hSw); go_simp; try with_reducible rfl
  try simp only [Act.put, List.setIfInBounds_toArray, List.set_cons_zero, List.set_cons_succ]
  refine wpAnyH_done (by kernel_rfl) (NoPanic.normal ?_) _
  go_wp2_with fail
  have hS1 := (HA1.out.on (Below.refl _ _).drew).cells
  refine wp_region_noPanic ?_
  refine wp_region_held_drew (S := fun W => (W.cell? ⟨w.heap.size, 0, none⟩ = some (.slice (some ⟨r, 0, none⟩) D.1.length c) ∧ W.cell? ⟨w.heap.size, 1, none⟩ = some (.int .i64 D.2.1) ∧ W.cell? ⟨w.heap.size, 2, none⟩ = some (.bool D.2.2.1) ∧ W.cell? ⟨w.heap.size, 3, none⟩ = some (.int .i64 D.2.2.2)) ∧ (W.cell? ⟨w.heap.size + 1, 0, none⟩ = some (.string X.1) ∧ W.cell? ⟨w.heap.size + 1, 1, none⟩ = some (.slice a X.2.1.length cx) ∧ W.cell? ⟨w.heap.size + 1, 2, none⟩ = some (.int .i64 X.2.2.1) ∧ W.cell? ⟨w.heap.size + 1, 3, none⟩ = some (.string X.2.2.2))) (by kernel_rfl) (by first | exact trivial | assumption | exact ⟨by assumption, by assumption⟩) (fun hHeld => ?_)
  refine take_at (i := 0) (v := ?_) rfl rfl (by kernel_rfl) (by kernel_rfl) (by kernel_rfl) (fun _ _ _ h => h) (Or.inl ⟨by rfl, ?_⟩) (by assumption) ?_
  rotate_left
  · intro w hSw; (try dsimp only at hSw); go_simp; try with_reducible rfl
  try simp only [Act.put, List.setIfInBounds_toArray, List.set_cons_zero, List.set_cons_succ]
  refine take_at (i := 1) (v := ?_) rfl rfl (by kernel_rfl) (by kernel_rfl) (by kernel_rfl) (fun _ _ _ h => h) (Or.inl ⟨by rfl, ?_⟩) (by assumption) ?_
  rotate_left
  · intro w hSw; (try dsimp only at hSw); go_simp; try with_reducible rfl
  try simp only [Act.put, List.setIfInBounds_toArray, List.set_cons_zero, List.set_cons_succ]
  refine take_at (i := 2) (v := ?_) rfl rfl (by kernel_rfl) (by kernel_rfl) (by kernel_rfl) (fun _ _ _ h => h) (Or.inl ⟨by rfl, ?_⟩) (by assumption) ?_
  rotate_left
  · intro w hSw; (try dsimp only at hSw); go_simp; try with_reducible rfl
  try simp only [Act.put, List.setIfInBounds_toArray, List.set_cons_zero, List.set_cons_succ]
  refine wpAnyH_ready (rs := [3]) (by kernel_rfl) (by simp) ?_
  refine AllReadyH.cons rfl (fun K hK => ?_) AllReadyH.nil
  go_simp
  refine (CT.out _).mono ?_
  rintro e w4 ⟨rfl, hb4⟩
  have HA4 : Hid (AdS w w4 D X r c a cx) := (HA1.out.on (Below.refl _ _).drew).on hb4
  clear HA1 hb4 CT hS0 hS1
  refine hK.out _ _ HA4.out.cells (fun hHeld => ?_)
  clear hK K
  refine take_at (i := 4) (v := ?_) rfl rfl (by kernel_rfl) (by kernel_rfl) (by kernel_rfl) (fun _ _ _ h => h) (Or.inl ⟨by rfl, ?_⟩) (by assumption) ?_
  rotate_left
  · intro w hSw; (try dsimp only at hSw); go_simp; try with_reducible rfl
  try simp only [Act.put, List.setIfInBounds_toArray, List.set_cons_zero, List.set_cons_succ]
  refine take_at (i := 5) (v := ?_) rfl rfl (by kernel_rfl) (by kernel_rfl) (by kernel_rfl) (fun _ _ _ h => h) (Or.inl ⟨by rfl, ?_⟩) (by assumption) ?_
  rotate_left
  · intro w hSw; (try dsimp only at hSw); go_simp; try with_reducible rfl
  try simp only [Act.put, List.setIfInBounds_toArray, List.set_cons_zero, List.set_cons_succ]
  refine wpAnyH_done (by kernel_rfl) (NoPanic.normal ?_) _
  obtain ⟨⟨y0, y1, y2, y3⟩, x0, x1, x2, x3⟩ := HA4.out.cells
  go_wp2_with fail
  refine (CW.out _ _ HA4.out.devIn).mono ?_
  rintro e w5 ⟨v', rfl, ⟨r2, c2, rfl, hr2⟩, hb5⟩
  unfold devA
  clear y0 y1 y2 y3 x0 x1 x2 x3 CW
  obtain ⟨nb, hnb⟩ : ∃ nb, nb = w5.heap.size := ⟨_, rfl⟩
  obtain ⟨W6, hW6⟩ : ∃ W6, w5.alloc (.cells #[.slice (some ⟨r2, 0, none⟩) R.1.1.length c2, .int .i64 R.1.2.1, .bool R.1.2.2.1, .int .i64 R.1.2.2.2] 28) = W6 := ⟨_, rfl⟩
  have HA6 : Hid (AdS w W6 D X r c a cx) := by rw [← hW6]; exact (HA4.out.on hb5).on (below_new _ _)
  have HN6 : Hid (Blk W6 28 nb #[.slice (some ⟨r2, 0, none⟩) R.1.1.length c2, .int .i64 R.1.2.1, .bool R.1.2.2.1, .int .i64 R.1.2.2.2]) := by show Blk _ _ _ _; rw [← hW6]; exact Blk.new' _ _ _ _ hnb.symm
  have HR6 : Hid (RowD W6 r2 c2 R.1.1) := by rw [← hW6]; exact hr2.on (below_new _ _)
  have HNb : Hid (w.heap.size + 1 + 1 + 1 < nb) := by
    have h1 := HA4.out.zs.lt
    have h2 := hb5.size
    show w.heap.size + 1 + 1 + 1 < nb; omega
  clear HA4 hb5 hr2
  go_wp2_with fail
  rw [← hnb]
  clear hW6 hnb
  have SNV : Hid (∀ W, Blk W 28 nb #[.slice (some ⟨r2, 0, none⟩) R.1.1.length c2, .int .i64 R.1.2.1, .bool R.1.2.2.1, .int .i64 R.1.2.2.2] → Blk W 30 (w.heap.size + 1) #[.string X.1, .slice a X.2.1.length cx, .int .i64 X.2.2.1, .string X.2.2.2] → (W.cell? ⟨nb, 0, none⟩ = some (.slice (some ⟨r2, 0, none⟩) R.1.1.length c2) ∧ W.cell? ⟨nb, 1, none⟩ = some (.int .i64 R.1.2.1) ∧ W.cell? ⟨nb, 2, none⟩ = some (.bool R.1.2.2.1) ∧ W.cell? ⟨nb, 3, none⟩ = some (.int .i64 R.1.2.2.2)) ∧ (W.cell? ⟨w.heap.size + 1, 0, none⟩ = some (.string X.1) ∧ W.cell? ⟨w.heap.size + 1, 1, none⟩ = some (.slice a X.2.1.length cx) ∧ W.cell? ⟨w.heap.size + 1, 2, none⟩ = some (.int .i64 X.2.2.1) ∧ W.cell? ⟨w.heap.size + 1, 3, none⟩ = some (.string X.2.2.2))) := fun W x y => ⟨⟨x.cell 0, x.cell 1, x.cell 2, x.cell 3⟩, ⟨y.cell 0, y.cell 1, y.cell 2, y.cell 3⟩⟩
  obtain ⟨V, hV⟩ : ∃ V, V = W6.drew := ⟨_, rfl⟩
  have HAV : Hid (AdS w V D X r c a cx) := by rw [hV]; exact HA6.out.on (Below.refl _ _).drew
  have HNV : Hid (Blk V 28 nb #[.slice (some ⟨r2, 0, none⟩) R.1.1.length c2, .int .i64 R.1.2.1, .bool R.1.2.2.1, .int .i64 R.1.2.2.2]) := by rw [hV]; exact HN6.out.on (Below.refl _ _).drew
  have HRV : Hid (RowD V r2 c2 R.1.1) := by rw [hV]; exact HR6.out.on (Below.refl _ _).drew
  have hS6 := SNV.out _ HNV.out HAV.out.s
  rw [hV] at hS6
  refine wp_region_noPanic ?_
  refine wp_region_held_drew (S := fun W => (W.cell? ⟨nb, 0, none⟩ = some (.slice (some ⟨r2, 0, none⟩) R.1.1.length c2) ∧ W.cell? ⟨nb, 1, none⟩ = some (.int .i64 R.1.2.1) ∧ W.cell? ⟨nb, 2, none⟩ = some (.bool R.1.2.2.1) ∧ W.cell? ⟨nb, 3, none⟩ = some (.int .i64 R.1.2.2.2)) ∧ (W.cell? ⟨w.heap.size + 1, 0, none⟩ = some (.string X.1) ∧ W.cell? ⟨w.heap.size + 1, 1, none⟩ = some (.slice a X.2.1.length cx) ∧ W.cell? ⟨w.heap.size + 1, 2, none⟩ = some (.int .i64 X.2.2.1) ∧ W.cell? ⟨w.heap.size + 1, 3, none⟩ = some (.string X.2.2.2))) (by kernel_rfl) (by first | exact trivial | assumption | exact ⟨by assumption, by assumption⟩) (fun hHeld => ?_)
  refine take_at (i := 0) (v := ?_) rfl rfl (by kernel_rfl) (by kernel_rfl) (by kernel_rfl) (fun _ _ _ h => h) (Or.inl ⟨by rfl, ?_⟩) (by assumption) ?_
  rotate_left
  · intro w hSw; (try dsimp only at hSw); go_simp; try with_reducible rfl
  try simp only [Act.put, List.setIfInBounds_toArray, List.set_cons_zero, List.set_cons_succ]
  refine take_at (i := 1) (v := ?_) rfl rfl (by kernel_rfl) (by kernel_rfl) (by kernel_rfl) (fun _ _ _ h => h) (Or.inl ⟨by rfl, ?_⟩) (by assumption) ?_
  rotate_left
  · intro w hSw; (try dsimp only at hSw); go_simp; try with_reducible rfl
  try simp only [Act.put, List.setIfInBounds_toArray, List.set_cons_zero, List.set_cons_succ]
  refine take_at (i := 2) (v := ?_) rfl rfl (by kernel_rfl) (by kernel_rfl) (by kernel_rfl) (fun _ _ _ h => h) (Or.inl ⟨by rfl, ?_⟩) (by assumption) ?_
  rotate_left
  · intro w hSw; (try dsimp only at hSw); go_simp; try with_reducible rfl
  try simp only [Act.put, List.setIfInBounds_toArray, List.set_cons_zero, List.set_cons_succ]
  rw [← hV]
  refine wpAnyH_ready (rs := [3]) (by kernel_rfl) (by simp) ?_
  refine AllReadyH.cons rfl (fun K hK => ?_) AllReadyH.nil
  refine step_storeRow rfl rfl 28 _ _ rfl (w.heap.size + 1 + 1) #[.slice none 0 0, .int .i64 0, .bool false, .int .i64 0] #[.slice (some ⟨r2, 0, none⟩) R.1.1.length c2, .int .i64 R.1.2.1, .bool R.1.2.2.1, .int .i64 R.1.2.2.2] (by with_unfolding_all rfl) (by with_unfolding_all rfl) HAV.out.zd rfl (by kernel_rfl) (by simp [Value.oneCell']) ?_
  refine hK.out _ _ (SNV.out _ (HNV.out.setRowOther _ (by have := HNb.out; omega) _) (HAV.out.s.setRowOther _ (by omega) _)) (fun hHeld => ?_)
  clear hK K
  refine wpAnyH_ready (rs := [4]) (by kernel_rfl) (by simp) ?_
  refine AllReadyH.cons rfl (fun K hK => ?_) AllReadyH.nil
  refine step_storeRow rfl rfl 30 _ _ rfl (w.heap.size + 1 + 1 + 1) #[.string ⟨#[]⟩, .slice none 0 0, .int .i64 0, .string ⟨#[]⟩] #[.string X.1, .slice a X.2.1.length cx, .int .i64 X.2.2.1, .string X.2.2.2] (by with_unfolding_all rfl) (by with_unfolding_all rfl) (HAV.out.zs.setRowOther _ (by omega) _) rfl (by kernel_rfl) (by simp [Value.oneCell']) ?_
  refine hK.out _ _ (SNV.out _ ((HNV.out.setRowOther _ (by have := HNb.out; omega) _).setRowOther _ (by have := HNb.out; omega) _) ((HAV.out.s.setRowOther _ (by omega) _).setRowOther _ (by omega) _)) (fun hHeld => ?_)
  clear hK K
  refine take_at (i := 5) (v := ?_) rfl rfl (by kernel_rfl) (by kernel_rfl) (by kernel_rfl) (fun _ _ _ h => h) (Or.inl ⟨by rfl, ?_⟩) (by assumption) ?_
  rotate_left
  · intro w hSw; (try dsimp only at hSw); go_simp; try with_reducible rfl
  try simp only [Act.put, List.setIfInBounds_toArray, List.set_cons_zero, List.set_cons_succ]
  refine wpAnyH_done (by kernel_rfl) (NoPanic.normal ?_) _
  go_wp2_with fail
  obtain ⟨o1, o2, o3, o4⟩ := HAV.out.out HRV.out HDR.out #[.slice (some ⟨r2, 0, none⟩) R.1.1.length c2, .int .i64 R.1.2.1, .bool R.1.2.2.1, .int .i64 R.1.2.2.2] #[.string X.1, .slice a X.2.1.length cx, .int .i64 X.2.2.1, .string X.2.2.2]
  exact bodyPost_rowsTmp rfl (w.heap.size + 1 + 1) (w.heap.size + 1 + 1 + 1) #[.slice (some ⟨r2, 0, none⟩) R.1.1.length c2, .int .i64 R.1.2.1, .bool R.1.2.2.1, .int .i64 R.1.2.2.2] #[.string X.1, .slice a X.2.1.length cx, .int .i64 X.2.2.1, .string X.2.2.2] _ rfl rfl rfl rfl o1 o2 _ _ Tryz.underlying28 rfl (by kernel_rfl) Tryz.underlying30 rfl (by kernel_rfl) ⟨_, _, rfl, ⟨r2, c2, rfl, o3⟩, ⟨a, cx, rfl, strs_set18 HT0.out (strs_set18 HT0.out HAV.out.t _ (by omega) _) _ (by omega) _, HAX.out⟩, o4⟩

set_option maxHeartbeats 8000000 in
theorem radd18_done (D : DevT) (v : Value) (n : Nat) (c0 : Int) (B : Nat) (X : StoT) (u : Value) (t : ByteArray) (w : World) (h : DevIn w v D) (hD : DvO n c0 D) (hn2 : 2 ≤ n) (hn : n ≤ 2048) (hc : c0 < 576460752303423488) (hX : StoIn w B u X) (hO : StO X) (hB : B ≤ w.heap.size) (ht0 : ¬ X.2.2.1 = 0) (ht1 : ¬ 32768 < t.size) (hroom' : (X.2.2.2.size + (t.size + 2) + 63) / 64 + 1 ≤ D.1.length / 2) (h0' : (writesP D X.2.2.1.toNat (X.2.2.2.size / 64) (X.2.2.2 ++ txB t)).2 = 0) :
    Calls Tryz.prog 24 #[v, u, .string t] w fun e w' => ∃ v' u', e = .returned (.tuple #[v', u', .int .i64 (addP D X t).2.2]) ∧ DevIn w' v' (addP D X t).1 ∧ StoIn w' B u' (addP D X t).2.1 ∧ Below w.heap.size w w' := by
  obtain ⟨r, c, rfl, hrow⟩ := h
  obtain ⟨a, cx, rfl, htx, hax⟩ := hX
  unfold devA
  have HA0 : Hid (AdS w _ D X r c a cx) := AdS.new w D X r c a cx hrow htx
  have HO : Hid (StO X) := hO
  have HD : Hid (DvO n c0 D) := hD
  have HAX : Hid (∀ x, a = some x → B ≤ x.block) := hax
  have HB : Hid (B ≤ w.heap.size) := hB
  have HT0 : Hid (StrsAt w a X.2.1.length X.2.1) := htx
  have HN2 : Hid (2 ≤ n) := hn2
  clear hrow htx hD hO hax
  obtain ⟨W0, hW0⟩ : ∃ W0, (((w.alloc (.cells #[.slice (some ⟨r, 0, none⟩) D.1.length c, .int .i64 D.2.1, .bool D.2.2.1, .int .i64 D.2.2.2] 28)).alloc (.cells #[.string X.1, .slice a X.2.1.length cx, .int .i64 X.2.2.1, .string X.2.2.2] 30)).alloc (.cells #[.slice none 0 0, .int .i64 0, .bool false, .int .i64 0] 28)).alloc (.cells #[.string ⟨#[]⟩, .slice none 0 0, .int .i64 0, .string ⟨#[]⟩] 30) = W0 := ⟨_, rfl⟩
  rw [hW0] at HA0
  have HA := HA0
  clear HA0
  have q0 : (X.2.2.1 == 0) = false := by rw [beq_eq_false_iff_ne]; exact ht0
  have HT : Hid (¬ X.2.2.1 = 0) := ht0
  clear ht0
  have q1 : decide ((32768 : Int) < (t.size : Int)) = false := decide_eq_false (by omega)
  obtain ⟨T, HTx⟩ : ∃ T, Hid (txB t = T) := ⟨_, rfl⟩
  have hTs : Hid (T.size = t.size + 2) := by rw [← HTx.out]; exact txB_size t
  have CT : Hid (∀ W, Calls Tryz.prog 41 #[.string t] W fun e w' => e = .returned (.string T) ∧ Below W.heap.size W w') := by rw [← HTx.out]; exact fun W => rtext18_any t W (by omega)
  obtain ⟨BB, HBB⟩ : ∃ BB, Hid (X.2.2.2 ++ T = BB) := ⟨_, rfl⟩
  have xBB : X.2.2.2 ++ T = BB := HBB.out
  have hBs : Hid (BB.size = X.2.2.2.size + (t.size + 2)) := by show BB.size = _; rw [← HBB.out, ByteArray.size_append, hTs.out]
  have hsum : ¬ (9223372036854775807 < X.2.2.2.size + T.size) := by have h1 := HO.out.b; have h2 := hTs.out; omega
  have CR : Hid (∀ W v, DevIn W v D → Calls Tryz.prog 40 #[v, .string BB] W fun e w' => e = .returned (.bool (decide ((BB.size + 63) / 64 + 1 ≤ D.1.length / 2))) ∧ Below W.heap.size W w') := fun W v hv => rroom18_any D v BB W hv (by have := HD.out.len; omega) (by have h1 := HO.out.b; have h2 := hBs.out; omega)
  have hroom : (BB.size + 63) / 64 + 1 ≤ D.1.length / 2 := by rw [hBs.out]; exact hroom'
  clear hroom'
  obtain ⟨m, hm⟩ : ∃ m, X.2.2.2.size / 64 = m := ⟨_, rfl⟩
  obtain ⟨tn, htn⟩ : ∃ tn : Nat, X.2.2.1 = (tn : Int) := ⟨X.2.2.1.toNat, by have := HO.out.t0; omega⟩
  obtain ⟨R, HR⟩ : ∃ R, Hid (writesP D tn m BB = R) := ⟨_, rfl⟩
  have CW : Hid (∀ W v, DevIn W v D → Calls Tryz.prog 42 #[v, .int .i64 X.2.2.1, .int .i64 (m : Int), .string BB] W fun e w' => ∃ v', e = .returned (.tuple #[v', .int .i64 R.2]) ∧ DevIn w' v' R.1 ∧ Below W.heap.size W w') := fun W v hv => by
    have := rwrites18_any D v n c0 tn m BB W hv HD.out hn hc (by rw [← HD.out.len]; exact hroom) (by have := hBs.out; omega) (by have := HO.out.t1; omega)
    rw [HR.out] at this
    rw [htn]
    exact this
  have HDR : Hid (2 ≤ R.1.1.length) := by
    have := writesP_len D tn m BB
    rw [HR.out, HD.out.len] at this
    show 2 ≤ R.1.1.length; rw [this]; exact HN2.out
  have HAd : Hid (addP D X t = if R.2 = 0 then (R.1, (X.1, X.2.1 ++ [t], X.2.2.1, BB), 0) else (R.1, X, R.2)) := by
    show _ = _
    unfold addP
    rw [if_neg (by rintro (e | e | e); · exact HT.out e
                   · omega
                   · exact e (by rw [← hBs.out]; exact hroom))]
    simp only [htn, hm, HTx.out, HBB.out, HR.out, Int.toNat_natCast]
  have r6 : Int.tdiv (X.2.2.2.size : Int) 64 = (m : Int) := by rw [Int.tdiv_eq_ediv_of_nonneg (by omega)]; omega
  have r7 : (X.2.2.2.size : Int) / 64 = (m : Int) := by omega
  have qR : decide ((BB.size + 63) / 64 + 1 ≤ D.1.length / 2) = true := decide_eq_true hroom
  rw [qR] at CR
  have h0 : R.2 = 0 := by have e := HR.out; rw [← e, ← HBB.out, ← HTx.out, ← hm]; rw [htn, Int.toNat_natCast] at h0'; exact h0'
  clear h0'
  clear hm htn HR hroom qR
  have g0 : (R.2 != 0) = false := by rw [bne_eq_false_iff_eq]; exact h0
  have e9 : addP D X t = (R.1, (X.1, X.2.1 ++ [t], X.2.2.1, BB), 0) := by rw [HAd.out, if_pos h0]
  rw [e9]
  clear HAd h0
  have hS0 := (HA.out.on (Below.refl _ _).drew).cells
  go_enter Tryz.func24, Tryz.ntmps24
  go_wp2_with fail
  refine wp_region_noPanic ?_
  refine wp_region_held_drew (S := fun W => (W.cell? ⟨w.heap.size, 0, none⟩ = some (.slice (some ⟨r, 0, none⟩) D.1.length c) ∧ W.cell? ⟨w.heap.size, 1, none⟩ = some (.int .i64 D.2.1) ∧ W.cell? ⟨w.heap.size, 2, none⟩ = some (.bool D.2.2.1) ∧ W.cell? ⟨w.heap.size, 3, none⟩ = some (.int .i64 D.2.2.2)) ∧ (W.cell? ⟨w.heap.size + 1, 0, none⟩ = some (.string X.1) ∧ W.cell? ⟨w.heap.size + 1, 1, none⟩ = some (.slice a X.2.1.length cx) ∧ W.cell? ⟨w.heap.size + 1, 2, none⟩ = some (.int .i64 X.2.2.1) ∧ W.cell? ⟨w.heap.size + 1, 3, none⟩ = some (.string X.2.2.2))) (by kernel_rfl) (by first | exact trivial | assumption | exact ⟨by assumption, by assumption⟩) (fun hHeld => ?_)
  refine take_at (i := 0) (v := ?_) rfl rfl (by kernel_rfl) (by kernel_rfl) (by kernel_rfl) (fun _ _ _ h => h) (Or.inl ⟨by rfl, ?_⟩) (by assumption) ?_
  rotate_left
  · intro w hSw; (try dsimp only at hSw); go_simp; try with_reducible rfl
  try simp only [Act.put, List.setIfInBounds_toArray, List.set_cons_zero, List.set_cons_succ]
  refine take_at (i := 1) (v := ?_) rfl rfl (by kernel_rfl) (by kernel_rfl) (by kernel_rfl) (fun _ _ _ h => h) (Or.inl ⟨by rfl, ?_⟩) (by assumption) ?_
  rotate_left
  · intro w hSw; (try dsimp only at hSw); go_simp; try with_reducible rfl
  try simp only [Act.put, List.setIfInBounds_toArray, List.set_cons_zero, List.set_cons_succ]
  refine take_at (i := 2) (v := ?_) rfl rfl (by kernel_rfl) (by kernel_rfl) (by kernel_rfl) (fun _ _ _ h => h) (Or.inl ⟨by rfl, ?_⟩) (by assumption) ?_
  rotate_left
  · intro w hSw; (try dsimp only at hSw); go_simp; try with_reducible rfl
  try simp only [Act.put, List.setIfInBounds_toArray, List.set_cons_zero, List.set_cons_succ]
  refine take_at (i := 3) (v := ?_) rfl rfl (by kernel_rfl) (by kernel_rfl) (by kernel_rfl) (fun _ _ _ h => h) (Or.inl ⟨by rfl, ?_⟩) (by assumption) ?_
  rotate_left
  · intro w hSw; (try dsimp only at hSw); go_simp; try with_reducible rfl
  try simp only [Act.put, List.setIfInBounds_toArray, List.set_cons_zero, List.set_cons_succ]
  refine take_at (i := 4) (v := ?_) rfl rfl (by kernel_rfl) (by kernel_rfl) (by kernel_rfl) (fun _ _ _ h => h) (Or.inl ⟨by rfl, ?_⟩) (by assumption) ?_
  rotate_left
  · intro w hSw; (try dsimp only at hSw); go_simp; try with_reducible rfl
  try simp only [Act.put, List.setIfInBounds_toArray, List.set_cons_zero, List.set_cons_succ]
  refine take_at (i := 5) (v := ?_) rfl rfl (by kernel_rfl) (by kernel_rfl) (by kernel_rfl) (fun _ _ _ h => h) (Or.inl ⟨by rfl, ?_⟩) (by assumption) ?_
  rotate_left
  · intro w hSw; (try dsimp only at hSw); go_simp; try with_reducible rfl
  try simp only [Act.put, List.setIfInBounds_toArray, List.set_cons_zero, List.set_cons_succ]
  refine take_at (i := 6) (v := ?_) rfl rfl (by kernel_rfl) (by kernel_rfl) (by kernel_rfl) (fun _ _ _ h => h) (Or.inl ⟨by rfl, ?_⟩) (by assumption) ?_
  rotate_left
  · intro w hSw; (try dsimp only at hSw); go_simp; try with_reducible rfl
  try simp only [Act.put, List.setIfInBounds_toArray, List.set_cons_zero, List.set_cons_succ]
  refine take_at (i := 7) (v := ?_) rfl rfl (by kernel_rfl) (by kernel_rfl) (by kernel_rfl) (fun _ _ _ h => h) (Or.inl ⟨by rfl, ?_⟩) (by assumption) ?_
  rotate_left
  · intro w hSw; (try dsimp only at hSw); go_simp; try with_reducible rfl
  try simp only [Act.put, List.setIfInBounds_toArray, List.set_cons_zero, List.set_cons_succ]
  refine take_at (i := 8) (v := ?_) rfl rfl (by kernel_rfl) (by kernel_rfl) (by kernel_rfl) (fun _ _ _ h => h) (Or.inl ⟨by rfl, ?_⟩) (by assumption) ?_
  rotate_left
  · intro w hSw; (try dsimp only at hSw); go_simp; try with_reducible rfl
  try simp only [Act.put, List.setIfInBounds_toArray, List.set_cons_zero, List.set_cons_succ]
  refine take_at (i := 9) (v := ?_) rfl rfl (by kernel_rfl) (by kernel_rfl) (by kernel_rfl) (fun _ _ _ h => h) (Or.inl ⟨by rfl, ?_⟩) (by assumption) ?_
  rotate_left
  · intro w hSw; (try dsimp only at hSw); go_simp; try with_reducible rfl
  try simp only [Act.put, List.setIfInBounds_toArray, List.set_cons_zero, List.set_cons_succ]
  refine take_at (i := 10) (v := ?_) rfl rfl (by kernel_rfl) (by kernel_rfl) (by kernel_rfl) (fun _ _ _ h => h) (Or.inl ⟨by rfl, ?_⟩) (by assumption) ?_
  rotate_left
  · intro w hSw; (try dsimp only at hSw); go_simp; try with_reducible rfl
  try simp only [Act.put, List.setIfInBounds_toArray, List.set_cons_zero, List.set_cons_succ]
  refine take_at (i := 11) (v := ?_) rfl rfl (by kernel_rfl) (by kernel_rfl) (by kernel_rfl) (fun _ _ _ h => h) (Or.inl ⟨by rfl, ?_⟩) (by assumption) ?_
  rotate_left
  · intro w hSw; (try dsimp only at hSw); go_simp; try with_reducible rfl
  try simp only [Act.put, List.setIfInBounds_toArray, List.set_cons_zero, List.set_cons_succ]
  refine take_at (i := 12) (v := ?_) rfl rfl (by kernel_rfl) (by kernel_rfl) (by kernel_rfl) (fun _ _ _ h => h) (Or.inl ⟨by rfl, ?_⟩) (by assumption) ?_
  rotate_left
  · intro w hSw; (try dsimp only at hSw); go_simp; try with_reducible rfl
  try simp only [Act.put, List.setIfInBounds_toArray, List.set_cons_zero, List.set_cons_succ]
  refine wpAnyH_ready (rs := [13]) (by kernel_rfl) (by simp) ?_
  refine AllReadyH.cons rfl (fun K hK => ?_) AllReadyH.nil
  go_simp
  refine (CT.out _).mono ?_
  rintro e w2 ⟨rfl, hb2⟩
  have HA2 : Hid (AdS w w2 D X r c a cx) := (HA.out.on (Below.refl _ _).drew).on hb2
  clear HA hb2
  refine hK.out _ _ HA2.out.cells (fun hHeld => ?_)
  clear hK K
  refine take_at (i := 14) (v := ?_) rfl rfl (by kernel_rfl) (by kernel_rfl) (by kernel_rfl) (fun _ _ _ h => h) (Or.inl ⟨by rfl, ?_⟩) (by assumption) ?_
  rotate_left
  · intro w hSw; (try dsimp only at hSw); go_simp; try with_reducible rfl
  try simp only [Act.put, List.setIfInBounds_toArray, List.set_cons_zero, List.set_cons_succ]
  refine wpAnyH_ready (rs := [15]) (by kernel_rfl) (by simp) ?_
  refine AllReadyH.cons rfl (fun K hK => ?_) AllReadyH.nil
  go_simp
  refine (CR.out _ _ HA2.out.devIn).mono ?_
  rintro e W1 ⟨rfl, hb3⟩
  have HA1 : Hid (AdS w W1 D X r c a cx) := HA2.out.on hb3
  clear HA2 hb3 CR
  refine hK.out _ _ HA1.out.cells (fun hHeld => ?_)
  clear hK K
  refine take_at (i := 16) (v := ?_) rfl rfl (by kernel_rfl) (by kernel_rfl) (by kernel_rfl) (fun _ _ _ h => h) (Or.inl ⟨by rfl, ?_⟩) (by assumption) ?_
  rotate_left
  · intro w hSw; (try dsimp only at hSw); go_simp; try with_reducible rfl
  try simp only [Act.put, List.setIfInBounds_toArray, List.set_cons_zero, List.set_cons_succ]
  refine take_at (i := 17) (v := ?_) rfl rfl (by kernel_rfl) (by kernel_rfl) (by kernel_rfl) (fun _ _ _ h => h) (Or.inl ⟨by rfl, ?_⟩) (by assumption) ?_
  rotate_left
  · intro w hSw; (try dsimp only at hSw); go_simp; try with_reducible rfl
  try simp only [Act.put, List.setIfInBounds_toArray, List.set_cons_zero, List.set_cons_succ]
  refine wpAnyH_done (by kernel_rfl) (NoPanic.normal ?_) _
  go_wp2_with fail
  have hS1 := (HA1.out.on (Below.refl _ _).drew).cells
  refine wp_region_noPanic ?_
  refine wp_region_held_drew (S := fun W => (W.cell? ⟨w.heap.size, 0, none⟩ = some (.slice (some ⟨r, 0, none⟩) D.1.length c) ∧ W.cell? ⟨w.heap.size, 1, none⟩ = some (.int .i64 D.2.1) ∧ W.cell? ⟨w.heap.size, 2, none⟩ = some (.bool D.2.2.1) ∧ W.cell? ⟨w.heap.size, 3, none⟩ = some (.int .i64 D.2.2.2)) ∧ (W.cell? ⟨w.heap.size + 1, 0, none⟩ = some (.string X.1) ∧ W.cell? ⟨w.heap.size + 1, 1, none⟩ = some (.slice a X.2.1.length cx) ∧ W.cell? ⟨w.heap.size + 1, 2, none⟩ = some (.int .i64 X.2.2.1) ∧ W.cell? ⟨w.heap.size + 1, 3, none⟩ = some (.string X.2.2.2))) (by kernel_rfl) (by first | exact trivial | assumption | exact ⟨by assumption, by assumption⟩) (fun hHeld => ?_)
  refine take_at (i := 0) (v := ?_) rfl rfl (by kernel_rfl) (by kernel_rfl) (by kernel_rfl) (fun _ _ _ h => h) (Or.inl ⟨by rfl, ?_⟩) (by assumption) ?_
  rotate_left
  · intro w hSw; (try dsimp only at hSw); go_simp; try with_reducible rfl
  try simp only [Act.put, List.setIfInBounds_toArray, List.set_cons_zero, List.set_cons_succ]
  refine take_at (i := 1) (v := ?_) rfl rfl (by kernel_rfl) (by kernel_rfl) (by kernel_rfl) (fun _ _ _ h => h) (Or.inl ⟨by rfl, ?_⟩) (by assumption) ?_
  rotate_left
  · intro w hSw; (try dsimp only at hSw); go_simp; try with_reducible rfl
  try simp only [Act.put, List.setIfInBounds_toArray, List.set_cons_zero, List.set_cons_succ]
  refine take_at (i := 2) (v := ?_) rfl rfl (by kernel_rfl) (by kernel_rfl) (by kernel_rfl) (fun _ _ _ h => h) (Or.inl ⟨by rfl, ?_⟩) (by assumption) ?_
  rotate_left
  · intro w hSw; (try dsimp only at hSw); go_simp; try with_reducible rfl
  try simp only [Act.put, List.setIfInBounds_toArray, List.set_cons_zero, List.set_cons_succ]
  refine wpAnyH_ready (rs := [3]) (by kernel_rfl) (by simp) ?_
  refine AllReadyH.cons rfl (fun K hK => ?_) AllReadyH.nil
  go_simp
  refine (CT.out _).mono ?_
  rintro e w4 ⟨rfl, hb4⟩
  have HA4 : Hid (AdS w w4 D X r c a cx) := (HA1.out.on (Below.refl _ _).drew).on hb4
  clear HA1 hb4 CT hS0 hS1
  refine hK.out _ _ HA4.out.cells (fun hHeld => ?_)
  clear hK K
  refine take_at (i := 4) (v := ?_) rfl rfl (by kernel_rfl) (by kernel_rfl) (by kernel_rfl) (fun _ _ _ h => h) (Or.inl ⟨by rfl, ?_⟩) (by assumption) ?_
  rotate_left
  · intro w hSw; (try dsimp only at hSw); go_simp; try with_reducible rfl
  try simp only [Act.put, List.setIfInBounds_toArray, List.set_cons_zero, List.set_cons_succ]
  refine take_at (i := 5) (v := ?_) rfl rfl (by kernel_rfl) (by kernel_rfl) (by kernel_rfl) (fun _ _ _ h => h) (Or.inl ⟨by rfl, ?_⟩) (by assumption) ?_
  rotate_left
  · intro w hSw; (try dsimp only at hSw); go_simp; try with_reducible rfl
  try simp only [Act.put, List.setIfInBounds_toArray, List.set_cons_zero, List.set_cons_succ]
  refine wpAnyH_done (by kernel_rfl) (NoPanic.normal ?_) _
  obtain ⟨⟨y0, y1, y2, y3⟩, x0, x1, x2, x3⟩ := HA4.out.cells
  go_wp2_with fail
  refine (CW.out _ _ HA4.out.devIn).mono ?_
  rintro e w5 ⟨v', rfl, ⟨r2, c2, rfl, hr2⟩, hb5⟩
  unfold devA
  clear y0 y1 y2 y3 x0 x1 x2 x3 CW
  obtain ⟨nb, hnb⟩ : ∃ nb, nb = w5.heap.size := ⟨_, rfl⟩
  obtain ⟨W6, hW6⟩ : ∃ W6, w5.alloc (.cells #[.slice (some ⟨r2, 0, none⟩) R.1.1.length c2, .int .i64 R.1.2.1, .bool R.1.2.2.1, .int .i64 R.1.2.2.2] 28) = W6 := ⟨_, rfl⟩
  have HA6 : Hid (AdS w W6 D X r c a cx) := by rw [← hW6]; exact (HA4.out.on hb5).on (below_new _ _)
  have HN6 : Hid (Blk W6 28 nb #[.slice (some ⟨r2, 0, none⟩) R.1.1.length c2, .int .i64 R.1.2.1, .bool R.1.2.2.1, .int .i64 R.1.2.2.2]) := by show Blk _ _ _ _; rw [← hW6]; exact Blk.new' _ _ _ _ hnb.symm
  have HR6 : Hid (RowD W6 r2 c2 R.1.1) := by rw [← hW6]; exact hr2.on (below_new _ _)
  have HNb : Hid (w.heap.size + 1 + 1 + 1 < nb) := by
    have h1 := HA4.out.zs.lt
    have h2 := hb5.size
    show w.heap.size + 1 + 1 + 1 < nb; omega
  clear HA4 hb5 hr2
  obtain ⟨v7, w7, happ, ho7, hb7⟩ := app18 W6 a X.2.1.length cx X.2.1 HA6.out.t (by have := HO.out.l; omega)
  have y1 : W6.cell? ⟨w.heap.size + 1, 1, none⟩ = some (.slice a X.2.1.length cx) := HA6.out.s.cell 1
  go_wp2_with (at_builtin; refine wpList_runApp rfl (.tmp 55) (.tmp 57) 26 rfl _ _ rfl rfl happ ?_; dsimp only [Act.put])
  rw [← hnb]
  clear hW6 hnb happ y1
  have SNV : Hid (∀ W, Blk W 28 nb #[.slice (some ⟨r2, 0, none⟩) R.1.1.length c2, .int .i64 R.1.2.1, .bool R.1.2.2.1, .int .i64 R.1.2.2.2] → Blk W 30 (w.heap.size + 1) #[.string X.1, .slice a X.2.1.length cx, .int .i64 X.2.2.1, .string X.2.2.2] → (W.cell? ⟨nb, 0, none⟩ = some (.slice (some ⟨r2, 0, none⟩) R.1.1.length c2) ∧ W.cell? ⟨nb, 1, none⟩ = some (.int .i64 R.1.2.1) ∧ W.cell? ⟨nb, 2, none⟩ = some (.bool R.1.2.2.1) ∧ W.cell? ⟨nb, 3, none⟩ = some (.int .i64 R.1.2.2.2)) ∧ (W.cell? ⟨w.heap.size + 1, 0, none⟩ = some (.string X.1) ∧ W.cell? ⟨w.heap.size + 1, 1, none⟩ = some (.slice a X.2.1.length cx) ∧ W.cell? ⟨w.heap.size + 1, 2, none⟩ = some (.int .i64 X.2.2.1) ∧ W.cell? ⟨w.heap.size + 1, 3, none⟩ = some (.string X.2.2.2))) := fun W x y => ⟨⟨x.cell 0, x.cell 1, x.cell 2, x.cell 3⟩, ⟨y.cell 0, y.cell 1, y.cell 2, y.cell 3⟩⟩
  obtain ⟨V, hV⟩ : ∃ V, V = w7.drew := ⟨_, rfl⟩
  have HBV : Hid (Below W6.heap.size W6 V) := by rw [hV]; exact hb7.drew
  have HOV : OwnTx V W6.heap.size v7 X.2.1.length X.2.1 := by rw [hV]; exact ho7
  have hS9 := SNV.out _ (HN6.out.on HBV.out) (HA6.out.s.on HBV.out)
  obtain ⟨g8, c8, w8, happ8, ho8, hb8, hg8⟩ := app18b V W6.heap.size HBV.out.size v7 X.2.1.length X.2.1 t HOV (by have := HO.out.l; omega)
  have HO8 : Hid (OwnTx w8 W6.heap.size (.slice (some ⟨g8, 0, none⟩) (X.2.1.length + 1) c8) (X.2.1.length + 1) (X.2.1 ++ [t])) := ho8
  have HBA : Hid (Below W6.heap.size W6 (V.alloc (.cells #[.string t] 9))) := HBV.out.alloc HBV.out.size _
  have HB8 : Hid (Below W6.heap.size W6 w8) := HBA.out.trans hb8
  have HG8 : Hid (W6.heap.size ≤ g8) := hg8
  rw [hV] at hS9
  clear ho7 hb7 HOV ho8 hb8 hg8
  refine wp_region_noPanic ?_
  refine wp_region_held_drew (S := fun W => (W.cell? ⟨nb, 0, none⟩ = some (.slice (some ⟨r2, 0, none⟩) R.1.1.length c2) ∧ W.cell? ⟨nb, 1, none⟩ = some (.int .i64 R.1.2.1) ∧ W.cell? ⟨nb, 2, none⟩ = some (.bool R.1.2.2.1) ∧ W.cell? ⟨nb, 3, none⟩ = some (.int .i64 R.1.2.2.2)) ∧ (W.cell? ⟨w.heap.size + 1, 0, none⟩ = some (.string X.1) ∧ W.cell? ⟨w.heap.size + 1, 1, none⟩ = some (.slice a X.2.1.length cx) ∧ W.cell? ⟨w.heap.size + 1, 2, none⟩ = some (.int .i64 X.2.2.1) ∧ W.cell? ⟨w.heap.size + 1, 3, none⟩ = some (.string X.2.2.2))) (by kernel_rfl) (by first | exact trivial | assumption | exact ⟨by assumption, by assumption⟩) (fun hHeld => ?_)
  refine take_at (i := 0) (v := ?_) rfl rfl (by kernel_rfl) (by kernel_rfl) (by kernel_rfl) (fun _ _ _ h => h) (Or.inl ⟨by rfl, ?_⟩) (by assumption) ?_
  rotate_left
  · intro w hSw; (try dsimp only at hSw); go_simp; try with_reducible rfl
  try simp only [Act.put, List.setIfInBounds_toArray, List.set_cons_zero, List.set_cons_succ]
  refine take_at (i := 1) (v := ?_) rfl rfl (by kernel_rfl) (by kernel_rfl) (by kernel_rfl) (fun _ _ _ h => h) (Or.inl ⟨by rfl, ?_⟩) (by assumption) ?_
  rotate_left
  · intro w hSw; (try dsimp only at hSw); go_simp; try with_reducible rfl
  try simp only [Act.put, List.setIfInBounds_toArray, List.set_cons_zero, List.set_cons_succ]
  refine take_at (i := 2) (v := ?_) rfl rfl (by kernel_rfl) (by kernel_rfl) (by kernel_rfl) (fun _ _ _ h => h) (Or.inl ⟨by rfl, ?_⟩) (by assumption) ?_
  rotate_left
  · intro w hSw; (try dsimp only at hSw); go_simp; try with_reducible rfl
  try simp only [Act.put, List.setIfInBounds_toArray, List.set_cons_zero, List.set_cons_succ]
  refine take_at (i := 3) (v := ?_) rfl rfl (by kernel_rfl) (by kernel_rfl) (by kernel_rfl) (fun _ _ _ h => h) (Or.inl ⟨by rfl, ?_⟩) (by assumption) ?_
  rotate_left
  · intro w hSw; (try dsimp only at hSw); go_simp; try with_reducible rfl
  try simp only [Act.put, List.setIfInBounds_toArray, List.set_cons_zero, List.set_cons_succ]
  refine take_at (i := 4) (v := ?_) rfl rfl (by kernel_rfl) (by kernel_rfl) (by kernel_rfl) (fun _ _ _ h => h) (Or.inl ⟨by rfl, ?_⟩) (by assumption) ?_
  rotate_left
  · intro w hSw; (try dsimp only at hSw); go_simp; try with_reducible rfl
  try simp only [Act.put, List.setIfInBounds_toArray, List.set_cons_zero, List.set_cons_succ]
  refine take_at (i := 7) (v := ?_) rfl rfl (by kernel_rfl) (by kernel_rfl) (by kernel_rfl) (fun _ _ _ h => h) (Or.inl ⟨by rfl, ?_⟩) (by assumption) ?_
  rotate_left
  · intro w hSw; (try dsimp only at hSw); go_simp; try with_reducible rfl
  try simp only [Act.put, List.setIfInBounds_toArray, List.set_cons_zero, List.set_cons_succ]
  refine take_at (i := 8) (v := ?_) rfl rfl (by kernel_rfl) (by kernel_rfl) (by kernel_rfl) (fun _ _ _ h => h) (Or.inl ⟨by rfl, ?_⟩) (by assumption) ?_
  rotate_left
  · intro w hSw; (try dsimp only at hSw); go_simp; try with_reducible rfl
  try simp only [Act.put, List.setIfInBounds_toArray, List.set_cons_zero, List.set_cons_succ]
  refine take_at (i := 9) (v := ?_) rfl rfl (by kernel_rfl) (by kernel_rfl) (by kernel_rfl) (fun _ _ _ h => h) (Or.inl ⟨by rfl, ?_⟩) (by assumption) ?_
  rotate_left
  · intro w hSw; (try dsimp only at hSw); go_simp; try with_reducible rfl
  try simp only [Act.put, List.setIfInBounds_toArray, List.set_cons_zero, List.set_cons_succ]
  rw [← hV]
  clear hV
  refine wpAnyH_ready (rs := [5]) (by kernel_rfl) (by simp) ?_
  refine AllReadyH.cons rfl (fun K hK => ?_) AllReadyH.nil
  go_simp
  refine hK.out _ _ (SNV.out _ (HN6.out.on HBA.out) (HA6.out.s.on HBA.out)) (fun hHeld => ?_)
  clear hK K
  refine wpAnyH_ready (rs := [6]) (by kernel_rfl) (by simp) ?_
  refine AllReadyH.cons rfl (fun K hK => ?_) AllReadyH.nil
  refine step_runApp rfl rfl (.tmp 62) (.tmp 64) 26 rfl _ _ rfl rfl happ8 ?_
  refine hK.out _ _ (SNV.out _ (HN6.out.on HB8.out) (HA6.out.s.on HB8.out)) (fun hHeld => ?_)
  clear hK K
  simp only [Act.put, List.setIfInBounds_toArray, List.set_cons_zero, List.set_cons_succ]
  refine take_at (i := 10) (v := ?_) rfl rfl (by kernel_rfl) (by kernel_rfl) (by kernel_rfl) (fun _ _ _ h => h) (Or.inl ⟨by rfl, ?_⟩) (by assumption) ?_
  rotate_left
  · intro w hSw; (try dsimp only at hSw); go_simp; try with_reducible rfl
  try simp only [Act.put, List.setIfInBounds_toArray, List.set_cons_zero, List.set_cons_succ]
  obtain ⟨HAV, HNV⟩ : Hid (AdS w w8 D X r c a cx) ∧ Hid (Blk w8 28 nb #[.slice (some ⟨r2, 0, none⟩) R.1.1.length c2, .int .i64 R.1.2.1, .bool R.1.2.2.1, .int .i64 R.1.2.2.2]) := ⟨HA6.out.on HB8.out, HN6.out.on HB8.out⟩
  have HRV : Hid (RowD w8 r2 c2 R.1.1) := HR6.out.on HB8.out
  refine wpAnyH_ready (rs := [11]) (by kernel_rfl) (by simp) ?_
  refine AllReadyH.cons rfl (fun K hK => ?_) AllReadyH.nil
  refine step_storeRow rfl rfl 28 _ _ rfl (w.heap.size + 1 + 1) #[.slice none 0 0, .int .i64 0, .bool false, .int .i64 0] #[.slice (some ⟨r2, 0, none⟩) R.1.1.length c2, .int .i64 R.1.2.1, .bool R.1.2.2.1, .int .i64 R.1.2.2.2] (by with_unfolding_all rfl) (by with_unfolding_all rfl) HAV.out.zd rfl (by kernel_rfl) (by simp [Value.oneCell']) ?_
  refine hK.out _ _ (SNV.out _ (HNV.out.setRowOther _ (by have := HNb.out; omega) _) (HAV.out.s.setRowOther _ (by omega) _)) (fun hHeld => ?_)
  clear hK K
  refine wpAnyH_ready (rs := [12]) (by kernel_rfl) (by simp) ?_
  refine AllReadyH.cons rfl (fun K hK => ?_) AllReadyH.nil
  refine step_storeRow rfl rfl 30 _ _ rfl (w.heap.size + 1 + 1 + 1) #[.string ⟨#[]⟩, .slice none 0 0, .int .i64 0, .string ⟨#[]⟩] #[.string X.1, .slice (some ⟨g8, 0, none⟩) (X.2.1.length + 1) c8, .int .i64 X.2.2.1, .string BB] (by with_unfolding_all rfl) (by with_unfolding_all rfl) (HAV.out.zs.setRowOther _ (by omega) _) rfl (by kernel_rfl) (by simp [Value.oneCell']) ?_
  refine hK.out _ _ (SNV.out _ ((HNV.out.setRowOther _ (by have := HNb.out; omega) _).setRowOther _ (by have := HNb.out; omega) _) ((HAV.out.s.setRowOther _ (by omega) _).setRowOther _ (by omega) _)) (fun hHeld => ?_)
  clear hK K
  refine take_at (i := 13) (v := ?_) rfl rfl (by kernel_rfl) (by kernel_rfl) (by kernel_rfl) (fun _ _ _ h => h) (Or.inl ⟨by rfl, ?_⟩) (by assumption) ?_
  rotate_left
  · intro w hSw; (try dsimp only at hSw); go_simp; try with_reducible rfl
  try simp only [Act.put, List.setIfInBounds_toArray, List.set_cons_zero, List.set_cons_succ]
  refine wpAnyH_done (by kernel_rfl) (NoPanic.normal ?_) _
  go_wp2_with fail
  obtain ⟨o1, o2, o3, o4⟩ := HAV.out.out HRV.out HDR.out #[.slice (some ⟨r2, 0, none⟩) R.1.1.length c2, .int .i64 R.1.2.1, .bool R.1.2.2.1, .int .i64 R.1.2.2.2] #[.string X.1, .slice (some ⟨g8, 0, none⟩) (X.2.1.length + 1) c8, .int .i64 X.2.2.1, .string BB]
  have hgz : w.heap.size + 1 + 1 + 1 < g8 := by have h1 := HA6.out.zs.lt; have h2 := HG8.out; omega
  have hst : StrsAt w8 (some ⟨g8, 0, none⟩) (X.2.1.length + 1) (X.2.1 ++ [t]) := ⟨by rw [List.length_append]; rfl, .inr ⟨g8, 0, rfl, own_cells HO8.out⟩⟩
  have hst2 := strs_row (g := w.heap.size + 1 + 1) (cs := #[.slice (some ⟨r2, 0, none⟩) R.1.1.length c2, .int .i64 R.1.2.1, .bool R.1.2.2.1, .int .i64 R.1.2.2.2]) hst (fun x hx => by cases hx; show w.heap.size + 1 + 1 < g8; omega)
  have hst3 := strs_row (g := w.heap.size + 1 + 1 + 1) (cs := #[.string X.1, .slice (some ⟨g8, 0, none⟩) (X.2.1.length + 1) c8, .int .i64 X.2.2.1, .string BB]) hst2 (fun x hx => by cases hx; show w.heap.size + 1 + 1 + 1 < g8; omega)
  refine bodyPost_rowsTmp rfl (w.heap.size + 1 + 1) (w.heap.size + 1 + 1 + 1) #[.slice (some ⟨r2, 0, none⟩) R.1.1.length c2, .int .i64 R.1.2.1, .bool R.1.2.2.1, .int .i64 R.1.2.2.2] #[.string X.1, .slice (some ⟨g8, 0, none⟩) (X.2.1.length + 1) c8, .int .i64 X.2.2.1, .string BB] (.int .i64 0) rfl rfl rfl rfl o1 o2 _ _ Tryz.underlying28 rfl (by kernel_rfl) Tryz.underlying30 rfl (by kernel_rfl) ⟨_, _, rfl, ⟨r2, c2, rfl, o3⟩, ⟨some ⟨g8, 0, none⟩, c8, ?_, ?_, fun x hx => ?_⟩, o4⟩
  · simp only [List.length_append, List.length_singleton]
  · simp only [List.length_append, List.length_singleton]; exact hst3
  · cases hx; show B ≤ g8; have := HB.out; omega

set_option maxHeartbeats 8000000 in
theorem radd18_any (D : DevT) (v : Value) (n : Nat) (c0 : Int) (B : Nat) (X : StoT) (u : Value) (t : ByteArray) (w : World) (h : DevIn w v D) (hD : DvO n c0 D) (hn2 : 2 ≤ n) (hn : n ≤ 2048) (hc : c0 < 576460752303423488) (hX : StoIn w B u X) (hO : StO X) (hB : B ≤ w.heap.size) :
    Calls Tryz.prog 24 #[v, u, .string t] w fun e w' => ∃ v' u', e = .returned (.tuple #[v', u', .int .i64 (addP D X t).2.2]) ∧ DevIn w' v' (addP D X t).1 ∧ StoIn w' B u' (addP D X t).2.1 ∧ Below w.heap.size w w' := by
  by_cases ht0 : X.2.2.1 = 0
  · exact radd18_none D v n c0 B X u t w h hD hn2 hn hc hX hO hB ht0
  · by_cases ht1 : 32768 < t.size
    · exact radd18_long D v n c0 B X u t w h hD hn2 hn hc hX hO hB ht0 ht1
    · by_cases hr : (X.2.2.2.size + (t.size + 2) + 63) / 64 + 1 ≤ D.1.length / 2
      · by_cases h0 : (writesP D X.2.2.1.toNat (X.2.2.2.size / 64) (X.2.2.2 ++ txB t)).2 = 0
        · exact radd18_done D v n c0 B X u t w h hD hn2 hn hc hX hO hB ht0 ht1 hr h0
        · exact radd18_off D v n c0 B X u t w h hD hn2 hn hc hX hO hB ht0 ht1 hr h0
      · exact radd18_full D v n c0 B X u t w h hD hn2 hn hc hX hO hB ht0 ht1 hr

end Go.Proofs.YtaakmcihpdbilaaGreatDoor

/- Layer 18, the document's: Lay. -/
namespace Go.Proofs.YtaakmcihpdbilaaGreatDoor
open Go.RowKit
set_option maxRecDepth 100000
set_option linter.unusedSimpArgs false
set_option maxRecDepth 100000

/-- What Lay leaves and answers. -/
def layS (D : DevT) (X : StoT) (t : ByteArray) : DevT × StoT × Int :=
  if 32768 < t.size ∨ 1099511627775 ≤ X.2.2.1 ∨ ¬ ((t.size + 2 + 63) / 64 + 1 ≤ D.1.length / 2) then (D, X, 2)
  else
    let R := writesP D (X.2.2.1 + 1).toNat 0 (txB t)
    if R.2 = 0 then (R.1, (t, [], X.2.2.1 + 1, txB t), 0) else (R.1, X, R.2)



set_option maxHeartbeats 8000000 in
theorem rlay18_long (D : DevT) (v : Value) (n : Nat) (c0 : Int) (B : Nat) (X : StoT) (u : Value) (t : ByteArray) (w : World) (h : DevIn w v D) (hD : DvO n c0 D) (hn2 : 2 ≤ n) (_hn : n ≤ 2048) (_hc : c0 < 576460752303423488) (hX : StoIn w B u X) (hO : StO X) (hB : B ≤ w.heap.size) (ht1 : 32768 < t.size) :
    Calls Tryz.prog 25 #[v, u, .string t] w fun e w' => ∃ v' u', e = .returned (.tuple #[v', u', .int .i64 (layS D X t).2.2]) ∧ DevIn w' v' (layS D X t).1 ∧ StoIn w' B u' (layS D X t).2.1 ∧ Below w.heap.size w w' := by
  obtain ⟨r, c, rfl, hrow⟩ := h
  obtain ⟨a, cx, rfl, htx, hax⟩ := hX
  unfold devA
  have HA0 : Hid (AdS w _ D X r c a cx) := AdS.new w D X r c a cx hrow htx
  have HO : Hid (StO X) := hO
  have HD : Hid (DvO n c0 D) := hD
  have HAX : Hid (∀ x, a = some x → B ≤ x.block) := hax
  have HB : Hid (B ≤ w.heap.size) := hB
  have HT0 : Hid (StrsAt w a X.2.1.length X.2.1) := htx
  have HN2 : Hid (2 ≤ n) := hn2
  clear hrow htx hD hO hax
  obtain ⟨W0, hW0⟩ : ∃ W0, (((w.alloc (.cells #[.slice (some ⟨r, 0, none⟩) D.1.length c, .int .i64 D.2.1, .bool D.2.2.1, .int .i64 D.2.2.2] 28)).alloc (.cells #[.string X.1, .slice a X.2.1.length cx, .int .i64 X.2.2.1, .string X.2.2.2] 30)).alloc (.cells #[.slice none 0 0, .int .i64 0, .bool false, .int .i64 0] 28)).alloc (.cells #[.string ⟨#[]⟩, .slice none 0 0, .int .i64 0, .string ⟨#[]⟩] 30) = W0 := ⟨_, rfl⟩
  rw [hW0] at HA0
  have HA := HA0
  clear HA0
  have q1 : decide ((32768 : Int) < (t.size : Int)) = true := decide_eq_true (by omega)
  have e9 : layS D X t = (D, X, 2) := by unfold layS; rw [if_pos (.inl ht1)]
  rw [e9]
  have hS0 := (HA.out.on (Below.refl _ _).drew).cells
  go_enter Tryz.func25, Tryz.ntmps25
  go_wp2_with fail
  refine wp_region_noPanic ?_
  refine wp_region_held_drew (S := fun W => (W.cell? ⟨w.heap.size, 0, none⟩ = some (.slice (some ⟨r, 0, none⟩) D.1.length c) ∧ W.cell? ⟨w.heap.size, 1, none⟩ = some (.int .i64 D.2.1) ∧ W.cell? ⟨w.heap.size, 2, none⟩ = some (.bool D.2.2.1) ∧ W.cell? ⟨w.heap.size, 3, none⟩ = some (.int .i64 D.2.2.2)) ∧ (W.cell? ⟨w.heap.size + 1, 0, none⟩ = some (.string X.1) ∧ W.cell? ⟨w.heap.size + 1, 1, none⟩ = some (.slice a X.2.1.length cx) ∧ W.cell? ⟨w.heap.size + 1, 2, none⟩ = some (.int .i64 X.2.2.1) ∧ W.cell? ⟨w.heap.size + 1, 3, none⟩ = some (.string X.2.2.2))) (by kernel_rfl) (by first | exact trivial | assumption | exact ⟨by assumption, by assumption⟩) (fun hHeld => ?_)
  refine take_at (i := 0) (v := ?_) rfl rfl (by kernel_rfl) (by kernel_rfl) (by kernel_rfl) (fun _ _ _ h => h) (Or.inl ⟨by rfl, ?_⟩) (by assumption) ?_
  rotate_left
  · intro w hSw; (try dsimp only at hSw); go_simp; try with_reducible rfl
  try simp only [Act.put, List.setIfInBounds_toArray, List.set_cons_zero, List.set_cons_succ]
  refine take_at (i := 1) (v := ?_) rfl rfl (by kernel_rfl) (by kernel_rfl) (by kernel_rfl) (fun _ _ _ h => h) (Or.inl ⟨by rfl, ?_⟩) (by assumption) ?_
  rotate_left
  · intro w hSw; (try dsimp only at hSw); go_simp; try with_reducible rfl
  try simp only [Act.put, List.setIfInBounds_toArray, List.set_cons_zero, List.set_cons_succ]
  refine take_at (i := 2) (v := ?_) rfl rfl (by kernel_rfl) (by kernel_rfl) (by kernel_rfl) (fun _ _ _ h => h) (Or.inl ⟨by rfl, ?_⟩) (by assumption) ?_
  rotate_left
  · intro w hSw; (try dsimp only at hSw); go_simp; try with_reducible rfl
  try simp only [Act.put, List.setIfInBounds_toArray, List.set_cons_zero, List.set_cons_succ]
  refine take_at (i := 3) (v := ?_) rfl rfl (by kernel_rfl) (by kernel_rfl) (by kernel_rfl) (fun _ _ _ h => h) (Or.inl ⟨by rfl, ?_⟩) (by assumption) ?_
  rotate_left
  · intro w hSw; (try dsimp only at hSw); go_simp; try with_reducible rfl
  try simp only [Act.put, List.setIfInBounds_toArray, List.set_cons_zero, List.set_cons_succ]
  refine take_at (i := 4) (v := undef) rfl rfl (by kernel_rfl) (by kernel_rfl) (by kernel_rfl) (fun _ _ _ h => h) (Or.inr ⟨by rfl, rfl⟩) (by assumption) ?_
  try simp only [Act.put, List.setIfInBounds_toArray, List.set_cons_zero, List.set_cons_succ]
  refine take_at (i := 5) (v := undef) rfl rfl (by kernel_rfl) (by kernel_rfl) (by kernel_rfl) (fun _ _ _ h => h) (Or.inr ⟨by rfl, rfl⟩) (by assumption) ?_
  try simp only [Act.put, List.setIfInBounds_toArray, List.set_cons_zero, List.set_cons_succ]
  refine take_at (i := 6) (v := undef) rfl rfl (by kernel_rfl) (by kernel_rfl) (by kernel_rfl) (fun _ _ _ h => h) (Or.inr ⟨by rfl, rfl⟩) (by assumption) ?_
  try simp only [Act.put, List.setIfInBounds_toArray, List.set_cons_zero, List.set_cons_succ]
  refine take_at (i := 7) (v := ?_) rfl rfl (by kernel_rfl) (by kernel_rfl) (by kernel_rfl) (fun _ _ _ h => h) (Or.inl ⟨by rfl, ?_⟩) (by assumption) ?_
  rotate_left
  · intro w hSw; (try dsimp only at hSw); go_simp; try with_reducible rfl
  try simp only [Act.put, List.setIfInBounds_toArray, List.set_cons_zero, List.set_cons_succ]
  refine take_at (i := 8) (v := ?_) rfl rfl (by kernel_rfl) (by kernel_rfl) (by kernel_rfl) (fun _ _ _ h => h) (Or.inl ⟨by rfl, ?_⟩) (by assumption) ?_
  rotate_left
  · intro w hSw; (try dsimp only at hSw); go_simp; try with_reducible rfl
  try simp only [Act.put, List.setIfInBounds_toArray, List.set_cons_zero, List.set_cons_succ]
  refine take_at (i := 9) (v := undef) rfl rfl (by kernel_rfl) (by kernel_rfl) (by kernel_rfl) (fun _ _ _ h => h) (Or.inr ⟨by rfl, rfl⟩) (by assumption) ?_
  try simp only [Act.put, List.setIfInBounds_toArray, List.set_cons_zero, List.set_cons_succ]
  refine take_at (i := 10) (v := undef) rfl rfl (by kernel_rfl) (by kernel_rfl) (by kernel_rfl) (fun _ _ _ h => h) (Or.inr ⟨by rfl, rfl⟩) (by assumption) ?_
  try simp only [Act.put, List.setIfInBounds_toArray, List.set_cons_zero, List.set_cons_succ]
  refine take_at (i := 11) (v := undef) rfl rfl (by kernel_rfl) (by kernel_rfl) (by kernel_rfl) (fun _ _ _ h => h) (Or.inr ⟨by rfl, rfl⟩) (by assumption) ?_
  try simp only [Act.put, List.setIfInBounds_toArray, List.set_cons_zero, List.set_cons_succ]
  refine take_at (i := 12) (v := undef) rfl rfl (by kernel_rfl) (by kernel_rfl) (by kernel_rfl) (fun _ _ _ h => h) (Or.inr ⟨by rfl, rfl⟩) (by assumption) ?_
  try simp only [Act.put, List.setIfInBounds_toArray, List.set_cons_zero, List.set_cons_succ]
  refine take_at (i := 13) (v := undef) rfl rfl (by kernel_rfl) (by kernel_rfl) (by kernel_rfl) (fun _ _ _ h => h) (Or.inr ⟨by rfl, rfl⟩) (by assumption) ?_
  try simp only [Act.put, List.setIfInBounds_toArray, List.set_cons_zero, List.set_cons_succ]
  refine take_at (i := 14) (v := ?_) rfl rfl (by kernel_rfl) (by kernel_rfl) (by kernel_rfl) (fun _ _ _ h => h) (Or.inl ⟨by rfl, ?_⟩) (by assumption) ?_
  rotate_left
  · intro w hSw; (try dsimp only at hSw); go_simp; try with_reducible rfl
  try simp only [Act.put, List.setIfInBounds_toArray, List.set_cons_zero, List.set_cons_succ]
  refine wpAnyH_done (by kernel_rfl) (NoPanic.normal ?_) _
  obtain ⟨W1, hW1⟩ : ∃ W1, W1 = W0.drew := ⟨_, rfl⟩
  have HA1 : Hid (AdS w W1 D X r c a cx) := by rw [hW1]; exact HA.out.on (Below.refl _ _).drew
  rw [← hW1]
  clear hW1 HA hS0
  go_wp2_with fail
  have hS1 := (HA1.out.on (Below.refl _ _).drew).cells
  refine wp_region_noPanic ?_
  refine wp_region_held_drew (S := fun W => (W.cell? ⟨w.heap.size, 0, none⟩ = some (.slice (some ⟨r, 0, none⟩) D.1.length c) ∧ W.cell? ⟨w.heap.size, 1, none⟩ = some (.int .i64 D.2.1) ∧ W.cell? ⟨w.heap.size, 2, none⟩ = some (.bool D.2.2.1) ∧ W.cell? ⟨w.heap.size, 3, none⟩ = some (.int .i64 D.2.2.2)) ∧ (W.cell? ⟨w.heap.size + 1, 0, none⟩ = some (.string X.1) ∧ W.cell? ⟨w.heap.size + 1, 1, none⟩ = some (.slice a X.2.1.length cx) ∧ W.cell? ⟨w.heap.size + 1, 2, none⟩ = some (.int .i64 X.2.2.1) ∧ W.cell? ⟨w.heap.size + 1, 3, none⟩ = some (.string X.2.2.2))) (by kernel_rfl) (by first | exact trivial | assumption | exact ⟨by assumption, by assumption⟩) (fun hHeld => ?_)
  obtain ⟨V, hV⟩ : ∃ V, V = W1.drew := ⟨_, rfl⟩
  have HAV : Hid (AdS w V D X r c a cx) := by rw [hV]; exact HA1.out.on (Below.refl _ _).drew
  refine take_at (i := 0) (v := ?_) rfl rfl (by kernel_rfl) (by kernel_rfl) (by kernel_rfl) (fun _ _ _ h => h) (Or.inl ⟨by rfl, ?_⟩) (by assumption) ?_
  rotate_left
  · intro w hSw; (try dsimp only at hSw); go_simp; try with_reducible rfl
  try simp only [Act.put, List.setIfInBounds_toArray, List.set_cons_zero, List.set_cons_succ]
  refine take_at (i := 1) (v := ?_) rfl rfl (by kernel_rfl) (by kernel_rfl) (by kernel_rfl) (fun _ _ _ h => h) (Or.inl ⟨by rfl, ?_⟩) (by assumption) ?_
  rotate_left
  · intro w hSw; (try dsimp only at hSw); go_simp; try with_reducible rfl
  try simp only [Act.put, List.setIfInBounds_toArray, List.set_cons_zero, List.set_cons_succ]
  rw [← hV]
  refine wpAnyH_ready (rs := [2]) (by kernel_rfl) (by simp) ?_
  refine AllReadyH.cons rfl (fun K hK => ?_) AllReadyH.nil
  refine step_storeRow rfl rfl 28 _ _ rfl (w.heap.size + 1 + 1) #[.slice none 0 0, .int .i64 0, .bool false, .int .i64 0] #[.slice (some ⟨r, 0, none⟩) D.1.length c, .int .i64 D.2.1, .bool D.2.2.1, .int .i64 D.2.2.2] (by with_unfolding_all rfl) (by with_unfolding_all rfl) HAV.out.zd rfl (by kernel_rfl) (by simp [Value.oneCell']) ?_
  refine hK.out _ _ (HAV.out.cellsRow _ (by omega) _) (fun hHeld => ?_)
  clear hK K
  refine wpAnyH_ready (rs := [3]) (by kernel_rfl) (by simp) ?_
  refine AllReadyH.cons rfl (fun K hK => ?_) AllReadyH.nil
  refine step_storeRow rfl rfl 30 _ _ rfl (w.heap.size + 1 + 1 + 1) #[.string ⟨#[]⟩, .slice none 0 0, .int .i64 0, .string ⟨#[]⟩] #[.string X.1, .slice a X.2.1.length cx, .int .i64 X.2.2.1, .string X.2.2.2] (by with_unfolding_all rfl) (by with_unfolding_all rfl) (HAV.out.zs.setRowOther _ (by omega) _) rfl (by kernel_rfl) (by simp [Value.oneCell']) ?_
  refine hK.out _ _ (HAV.out.cellsRow2 _ _ (by omega) (by omega) _ _) (fun hHeld => ?_)
  clear hK K
  refine take_at (i := 4) (v := ?_) rfl rfl (by kernel_rfl) (by kernel_rfl) (by kernel_rfl) (fun _ _ _ h => h) (Or.inl ⟨by rfl, ?_⟩) (by assumption) ?_
  rotate_left
  · intro w hSw; (try dsimp only at hSw); go_simp; try with_reducible rfl
  try simp only [Act.put, List.setIfInBounds_toArray, List.set_cons_zero, List.set_cons_succ]
  refine wpAnyH_done (by kernel_rfl) (NoPanic.normal ?_) _
  go_wp2_with fail
  obtain ⟨o1, o2, o3, o4⟩ := HAV.out.out HAV.out.r (by rw [HD.out.len]; exact HN2.out) #[.slice (some ⟨r, 0, none⟩) D.1.length c, .int .i64 D.2.1, .bool D.2.2.1, .int .i64 D.2.2.2] #[.string X.1, .slice a X.2.1.length cx, .int .i64 X.2.2.1, .string X.2.2.2]
  exact bodyPost_rowsTmp rfl (w.heap.size + 1 + 1) (w.heap.size + 1 + 1 + 1) #[.slice (some ⟨r, 0, none⟩) D.1.length c, .int .i64 D.2.1, .bool D.2.2.1, .int .i64 D.2.2.2] #[.string X.1, .slice a X.2.1.length cx, .int .i64 X.2.2.1, .string X.2.2.2] _ rfl rfl rfl rfl o1 o2 _ _ Tryz.underlying28 rfl (by kernel_rfl) Tryz.underlying30 rfl (by kernel_rfl) ⟨_, _, rfl, ⟨r, c, rfl, o3⟩, ⟨a, cx, rfl, strs_set18 HT0.out (strs_set18 HT0.out HAV.out.t _ (by omega) _) _ (by omega) _, HAX.out⟩, o4⟩

set_option maxHeartbeats 8000000 in
theorem rlay18_late (D : DevT) (v : Value) (n : Nat) (c0 : Int) (B : Nat) (X : StoT) (u : Value) (t : ByteArray) (w : World) (h : DevIn w v D) (hD : DvO n c0 D) (hn2 : 2 ≤ n) (_hn : n ≤ 2048) (_hc : c0 < 576460752303423488) (hX : StoIn w B u X) (hO : StO X) (hB : B ≤ w.heap.size) (ht1 : ¬ 32768 < t.size) (ht2 : 1099511627775 ≤ X.2.2.1) :
    Calls Tryz.prog 25 #[v, u, .string t] w fun e w' => ∃ v' u', e = .returned (.tuple #[v', u', .int .i64 (layS D X t).2.2]) ∧ DevIn w' v' (layS D X t).1 ∧ StoIn w' B u' (layS D X t).2.1 ∧ Below w.heap.size w w' := by
  obtain ⟨r, c, rfl, hrow⟩ := h
  obtain ⟨a, cx, rfl, htx, hax⟩ := hX
  unfold devA
  have HA0 : Hid (AdS w _ D X r c a cx) := AdS.new w D X r c a cx hrow htx
  have HO : Hid (StO X) := hO
  have HD : Hid (DvO n c0 D) := hD
  have HAX : Hid (∀ x, a = some x → B ≤ x.block) := hax
  have HB : Hid (B ≤ w.heap.size) := hB
  have HT0 : Hid (StrsAt w a X.2.1.length X.2.1) := htx
  have HN2 : Hid (2 ≤ n) := hn2
  clear hrow htx hD hO hax
  obtain ⟨W0, hW0⟩ : ∃ W0, (((w.alloc (.cells #[.slice (some ⟨r, 0, none⟩) D.1.length c, .int .i64 D.2.1, .bool D.2.2.1, .int .i64 D.2.2.2] 28)).alloc (.cells #[.string X.1, .slice a X.2.1.length cx, .int .i64 X.2.2.1, .string X.2.2.2] 30)).alloc (.cells #[.slice none 0 0, .int .i64 0, .bool false, .int .i64 0] 28)).alloc (.cells #[.string ⟨#[]⟩, .slice none 0 0, .int .i64 0, .string ⟨#[]⟩] 30) = W0 := ⟨_, rfl⟩
  rw [hW0] at HA0
  have HA := HA0
  clear HA0
  have q1 : decide ((32768 : Int) < (t.size : Int)) = false := decide_eq_false (by omega)
  have q2 : decide ((1099511627775 : Int) ≤ X.2.2.1) = true := decide_eq_true ht2
  have e9 : layS D X t = (D, X, 2) := by unfold layS; rw [if_pos (.inr (.inl ht2))]
  rw [e9]
  clear ht2
  have hS0 := (HA.out.on (Below.refl _ _).drew).cells
  go_enter Tryz.func25, Tryz.ntmps25
  go_wp2_with fail
  refine wp_region_noPanic ?_
  refine wp_region_held_drew (S := fun W => (W.cell? ⟨w.heap.size, 0, none⟩ = some (.slice (some ⟨r, 0, none⟩) D.1.length c) ∧ W.cell? ⟨w.heap.size, 1, none⟩ = some (.int .i64 D.2.1) ∧ W.cell? ⟨w.heap.size, 2, none⟩ = some (.bool D.2.2.1) ∧ W.cell? ⟨w.heap.size, 3, none⟩ = some (.int .i64 D.2.2.2)) ∧ (W.cell? ⟨w.heap.size + 1, 0, none⟩ = some (.string X.1) ∧ W.cell? ⟨w.heap.size + 1, 1, none⟩ = some (.slice a X.2.1.length cx) ∧ W.cell? ⟨w.heap.size + 1, 2, none⟩ = some (.int .i64 X.2.2.1) ∧ W.cell? ⟨w.heap.size + 1, 3, none⟩ = some (.string X.2.2.2))) (by kernel_rfl) (by first | exact trivial | assumption | exact ⟨by assumption, by assumption⟩) (fun hHeld => ?_)
  refine take_at (i := 0) (v := ?_) rfl rfl (by kernel_rfl) (by kernel_rfl) (by kernel_rfl) (fun _ _ _ h => h) (Or.inl ⟨by rfl, ?_⟩) (by assumption) ?_
  rotate_left
  · intro w hSw; (try dsimp only at hSw); go_simp; try with_reducible rfl
  try simp only [Act.put, List.setIfInBounds_toArray, List.set_cons_zero, List.set_cons_succ]
  refine take_at (i := 1) (v := ?_) rfl rfl (by kernel_rfl) (by kernel_rfl) (by kernel_rfl) (fun _ _ _ h => h) (Or.inl ⟨by rfl, ?_⟩) (by assumption) ?_
  rotate_left
  · intro w hSw; (try dsimp only at hSw); go_simp; try with_reducible rfl
  try simp only [Act.put, List.setIfInBounds_toArray, List.set_cons_zero, List.set_cons_succ]
  refine take_at (i := 2) (v := ?_) rfl rfl (by kernel_rfl) (by kernel_rfl) (by kernel_rfl) (fun _ _ _ h => h) (Or.inl ⟨by rfl, ?_⟩) (by assumption) ?_
  rotate_left
  · intro w hSw; (try dsimp only at hSw); go_simp; try with_reducible rfl
  try simp only [Act.put, List.setIfInBounds_toArray, List.set_cons_zero, List.set_cons_succ]
  refine take_at (i := 3) (v := ?_) rfl rfl (by kernel_rfl) (by kernel_rfl) (by kernel_rfl) (fun _ _ _ h => h) (Or.inl ⟨by rfl, ?_⟩) (by assumption) ?_
  rotate_left
  · intro w hSw; (try dsimp only at hSw); go_simp; try with_reducible rfl
  try simp only [Act.put, List.setIfInBounds_toArray, List.set_cons_zero, List.set_cons_succ]
  refine take_at (i := 4) (v := ?_) rfl rfl (by kernel_rfl) (by kernel_rfl) (by kernel_rfl) (fun _ _ _ h => h) (Or.inl ⟨by rfl, ?_⟩) (by assumption) ?_
  rotate_left
  · intro w hSw; (try dsimp only at hSw); go_simp; try with_reducible rfl
  try simp only [Act.put, List.setIfInBounds_toArray, List.set_cons_zero, List.set_cons_succ]
  refine take_at (i := 5) (v := ?_) rfl rfl (by kernel_rfl) (by kernel_rfl) (by kernel_rfl) (fun _ _ _ h => h) (Or.inl ⟨by rfl, ?_⟩) (by assumption) ?_
  rotate_left
  · intro w hSw; (try dsimp only at hSw); go_simp; try with_reducible rfl
  try simp only [Act.put, List.setIfInBounds_toArray, List.set_cons_zero, List.set_cons_succ]
  refine take_at (i := 6) (v := ?_) rfl rfl (by kernel_rfl) (by kernel_rfl) (by kernel_rfl) (fun _ _ _ h => h) (Or.inl ⟨by rfl, ?_⟩) (by assumption) ?_
  rotate_left
  · intro w hSw; (try dsimp only at hSw); go_simp; try with_reducible rfl
  try simp only [Act.put, List.setIfInBounds_toArray, List.set_cons_zero, List.set_cons_succ]
  refine take_at (i := 7) (v := ?_) rfl rfl (by kernel_rfl) (by kernel_rfl) (by kernel_rfl) (fun _ _ _ h => h) (Or.inl ⟨by rfl, ?_⟩) (by assumption) ?_
  rotate_left
  · intro w hSw; (try dsimp only at hSw); go_simp; try with_reducible rfl
  try simp only [Act.put, List.setIfInBounds_toArray, List.set_cons_zero, List.set_cons_succ]
  refine take_at (i := 8) (v := ?_) rfl rfl (by kernel_rfl) (by kernel_rfl) (by kernel_rfl) (fun _ _ _ h => h) (Or.inl ⟨by rfl, ?_⟩) (by assumption) ?_
  rotate_left
  · intro w hSw; (try dsimp only at hSw); go_simp; try with_reducible rfl
  try simp only [Act.put, List.setIfInBounds_toArray, List.set_cons_zero, List.set_cons_succ]
  refine take_at (i := 9) (v := undef) rfl rfl (by kernel_rfl) (by kernel_rfl) (by kernel_rfl) (fun _ _ _ h => h) (Or.inr ⟨by rfl, rfl⟩) (by assumption) ?_
  try simp only [Act.put, List.setIfInBounds_toArray, List.set_cons_zero, List.set_cons_succ]
  refine take_at (i := 10) (v := undef) rfl rfl (by kernel_rfl) (by kernel_rfl) (by kernel_rfl) (fun _ _ _ h => h) (Or.inr ⟨by rfl, rfl⟩) (by assumption) ?_
  try simp only [Act.put, List.setIfInBounds_toArray, List.set_cons_zero, List.set_cons_succ]
  refine take_at (i := 11) (v := undef) rfl rfl (by kernel_rfl) (by kernel_rfl) (by kernel_rfl) (fun _ _ _ h => h) (Or.inr ⟨by rfl, rfl⟩) (by assumption) ?_
  try simp only [Act.put, List.setIfInBounds_toArray, List.set_cons_zero, List.set_cons_succ]
  refine take_at (i := 12) (v := undef) rfl rfl (by kernel_rfl) (by kernel_rfl) (by kernel_rfl) (fun _ _ _ h => h) (Or.inr ⟨by rfl, rfl⟩) (by assumption) ?_
  try simp only [Act.put, List.setIfInBounds_toArray, List.set_cons_zero, List.set_cons_succ]
  refine take_at (i := 13) (v := undef) rfl rfl (by kernel_rfl) (by kernel_rfl) (by kernel_rfl) (fun _ _ _ h => h) (Or.inr ⟨by rfl, rfl⟩) (by assumption) ?_
  try simp only [Act.put, List.setIfInBounds_toArray, List.set_cons_zero, List.set_cons_succ]
  refine take_at (i := 14) (v := ?_) rfl rfl (by kernel_rfl) (by kernel_rfl) (by kernel_rfl) (fun _ _ _ h => h) (Or.inl ⟨by rfl, ?_⟩) (by assumption) ?_
  rotate_left
  · intro w hSw; (try dsimp only at hSw); go_simp; try with_reducible rfl
  try simp only [Act.put, List.setIfInBounds_toArray, List.set_cons_zero, List.set_cons_succ]
  refine wpAnyH_done (by kernel_rfl) (NoPanic.normal ?_) _
  obtain ⟨W1, hW1⟩ : ∃ W1, W1 = W0.drew := ⟨_, rfl⟩
  have HA1 : Hid (AdS w W1 D X r c a cx) := by rw [hW1]; exact HA.out.on (Below.refl _ _).drew
  rw [← hW1]
  clear hW1 HA hS0
  go_wp2_with fail
  have hS1 := (HA1.out.on (Below.refl _ _).drew).cells
  refine wp_region_noPanic ?_
  refine wp_region_held_drew (S := fun W => (W.cell? ⟨w.heap.size, 0, none⟩ = some (.slice (some ⟨r, 0, none⟩) D.1.length c) ∧ W.cell? ⟨w.heap.size, 1, none⟩ = some (.int .i64 D.2.1) ∧ W.cell? ⟨w.heap.size, 2, none⟩ = some (.bool D.2.2.1) ∧ W.cell? ⟨w.heap.size, 3, none⟩ = some (.int .i64 D.2.2.2)) ∧ (W.cell? ⟨w.heap.size + 1, 0, none⟩ = some (.string X.1) ∧ W.cell? ⟨w.heap.size + 1, 1, none⟩ = some (.slice a X.2.1.length cx) ∧ W.cell? ⟨w.heap.size + 1, 2, none⟩ = some (.int .i64 X.2.2.1) ∧ W.cell? ⟨w.heap.size + 1, 3, none⟩ = some (.string X.2.2.2))) (by kernel_rfl) (by first | exact trivial | assumption | exact ⟨by assumption, by assumption⟩) (fun hHeld => ?_)
  obtain ⟨V, hV⟩ : ∃ V, V = W1.drew := ⟨_, rfl⟩
  have HAV : Hid (AdS w V D X r c a cx) := by rw [hV]; exact HA1.out.on (Below.refl _ _).drew
  refine take_at (i := 0) (v := ?_) rfl rfl (by kernel_rfl) (by kernel_rfl) (by kernel_rfl) (fun _ _ _ h => h) (Or.inl ⟨by rfl, ?_⟩) (by assumption) ?_
  rotate_left
  · intro w hSw; (try dsimp only at hSw); go_simp; try with_reducible rfl
  try simp only [Act.put, List.setIfInBounds_toArray, List.set_cons_zero, List.set_cons_succ]
  refine take_at (i := 1) (v := ?_) rfl rfl (by kernel_rfl) (by kernel_rfl) (by kernel_rfl) (fun _ _ _ h => h) (Or.inl ⟨by rfl, ?_⟩) (by assumption) ?_
  rotate_left
  · intro w hSw; (try dsimp only at hSw); go_simp; try with_reducible rfl
  try simp only [Act.put, List.setIfInBounds_toArray, List.set_cons_zero, List.set_cons_succ]
  rw [← hV]
  refine wpAnyH_ready (rs := [2]) (by kernel_rfl) (by simp) ?_
  refine AllReadyH.cons rfl (fun K hK => ?_) AllReadyH.nil
  refine step_storeRow rfl rfl 28 _ _ rfl (w.heap.size + 1 + 1) #[.slice none 0 0, .int .i64 0, .bool false, .int .i64 0] #[.slice (some ⟨r, 0, none⟩) D.1.length c, .int .i64 D.2.1, .bool D.2.2.1, .int .i64 D.2.2.2] (by with_unfolding_all rfl) (by with_unfolding_all rfl) HAV.out.zd rfl (by kernel_rfl) (by simp [Value.oneCell']) ?_
  refine hK.out _ _ (HAV.out.cellsRow _ (by omega) _) (fun hHeld => ?_)
  clear hK K
  refine wpAnyH_ready (rs := [3]) (by kernel_rfl) (by simp) ?_
  refine AllReadyH.cons rfl (fun K hK => ?_) AllReadyH.nil
  refine step_storeRow rfl rfl 30 _ _ rfl (w.heap.size + 1 + 1 + 1) #[.string ⟨#[]⟩, .slice none 0 0, .int .i64 0, .string ⟨#[]⟩] #[.string X.1, .slice a X.2.1.length cx, .int .i64 X.2.2.1, .string X.2.2.2] (by with_unfolding_all rfl) (by with_unfolding_all rfl) (HAV.out.zs.setRowOther _ (by omega) _) rfl (by kernel_rfl) (by simp [Value.oneCell']) ?_
  refine hK.out _ _ (HAV.out.cellsRow2 _ _ (by omega) (by omega) _ _) (fun hHeld => ?_)
  clear hK K
  refine take_at (i := 4) (v := ?_) rfl rfl (by kernel_rfl) (by kernel_rfl) (by kernel_rfl) (fun _ _ _ h => h) (Or.inl ⟨by rfl, ?_⟩) (by assumption) ?_
  rotate_left
  · intro w hSw; (try dsimp only at hSw); go_simp; try with_reducible rfl
  try simp only [Act.put, List.setIfInBounds_toArray, List.set_cons_zero, List.set_cons_succ]
  refine wpAnyH_done (by kernel_rfl) (NoPanic.normal ?_) _
  go_wp2_with fail
  obtain ⟨o1, o2, o3, o4⟩ := HAV.out.out HAV.out.r (by rw [HD.out.len]; exact HN2.out) #[.slice (some ⟨r, 0, none⟩) D.1.length c, .int .i64 D.2.1, .bool D.2.2.1, .int .i64 D.2.2.2] #[.string X.1, .slice a X.2.1.length cx, .int .i64 X.2.2.1, .string X.2.2.2]
  exact bodyPost_rowsTmp rfl (w.heap.size + 1 + 1) (w.heap.size + 1 + 1 + 1) #[.slice (some ⟨r, 0, none⟩) D.1.length c, .int .i64 D.2.1, .bool D.2.2.1, .int .i64 D.2.2.2] #[.string X.1, .slice a X.2.1.length cx, .int .i64 X.2.2.1, .string X.2.2.2] _ rfl rfl rfl rfl o1 o2 _ _ Tryz.underlying28 rfl (by kernel_rfl) Tryz.underlying30 rfl (by kernel_rfl) ⟨_, _, rfl, ⟨r, c, rfl, o3⟩, ⟨a, cx, rfl, strs_set18 HT0.out (strs_set18 HT0.out HAV.out.t _ (by omega) _) _ (by omega) _, HAX.out⟩, o4⟩

set_option maxHeartbeats 8000000 in
theorem rlay18_full (D : DevT) (v : Value) (n : Nat) (c0 : Int) (B : Nat) (X : StoT) (u : Value) (t : ByteArray) (w : World) (h : DevIn w v D) (hD : DvO n c0 D) (hn2 : 2 ≤ n) (hn : n ≤ 2048) (_hc : c0 < 576460752303423488) (hX : StoIn w B u X) (hO : StO X) (hB : B ≤ w.heap.size) (ht1 : ¬ 32768 < t.size) (ht2 : ¬ 1099511627775 ≤ X.2.2.1) (hroom' : ¬ ((t.size + 2 + 63) / 64 + 1 ≤ D.1.length / 2)) :
    Calls Tryz.prog 25 #[v, u, .string t] w fun e w' => ∃ v' u', e = .returned (.tuple #[v', u', .int .i64 (layS D X t).2.2]) ∧ DevIn w' v' (layS D X t).1 ∧ StoIn w' B u' (layS D X t).2.1 ∧ Below w.heap.size w w' := by
  obtain ⟨r, c, rfl, hrow⟩ := h
  obtain ⟨a, cx, rfl, htx, hax⟩ := hX
  unfold devA
  have HA0 : Hid (AdS w _ D X r c a cx) := AdS.new w D X r c a cx hrow htx
  have HO : Hid (StO X) := hO
  have HD : Hid (DvO n c0 D) := hD
  have HAX : Hid (∀ x, a = some x → B ≤ x.block) := hax
  have HB : Hid (B ≤ w.heap.size) := hB
  have HT0 : Hid (StrsAt w a X.2.1.length X.2.1) := htx
  have HN2 : Hid (2 ≤ n) := hn2
  clear hrow htx hD hO hax
  obtain ⟨W0, hW0⟩ : ∃ W0, (((w.alloc (.cells #[.slice (some ⟨r, 0, none⟩) D.1.length c, .int .i64 D.2.1, .bool D.2.2.1, .int .i64 D.2.2.2] 28)).alloc (.cells #[.string X.1, .slice a X.2.1.length cx, .int .i64 X.2.2.1, .string X.2.2.2] 30)).alloc (.cells #[.slice none 0 0, .int .i64 0, .bool false, .int .i64 0] 28)).alloc (.cells #[.string ⟨#[]⟩, .slice none 0 0, .int .i64 0, .string ⟨#[]⟩] 30) = W0 := ⟨_, rfl⟩
  rw [hW0] at HA0
  have HA := HA0
  clear HA0
  have q1 : decide ((32768 : Int) < (t.size : Int)) = false := decide_eq_false (by omega)
  have q2 : decide ((1099511627775 : Int) ≤ X.2.2.1) = false := decide_eq_false ht2
  obtain ⟨T, HTx⟩ : ∃ T, Hid (txB t = T) := ⟨_, rfl⟩
  have hTs : Hid (T.size = t.size + 2) := by rw [← HTx.out]; exact txB_size t
  have CT : Hid (∀ W, Calls Tryz.prog 41 #[.string t] W fun e w' => e = .returned (.string T) ∧ Below W.heap.size W w') := by rw [← HTx.out]; exact fun W => rtext18_any t W (by omega)
  have CR : Hid (∀ W v, DevIn W v D → Calls Tryz.prog 40 #[v, .string T] W fun e w' => e = .returned (.bool (decide ((T.size + 63) / 64 + 1 ≤ D.1.length / 2))) ∧ Below W.heap.size W w') := fun W v hv => rroom18_any D v T W hv (by have := HD.out.len; omega) (by have h2 := hTs.out; omega)
  have hroom : ¬ ((T.size + 63) / 64 + 1 ≤ D.1.length / 2) := by rw [hTs.out]; exact hroom'
  have e9 : layS D X t = (D, X, 2) := by unfold layS; rw [if_pos (.inr (.inr hroom'))]
  rw [e9]
  have qR : decide ((T.size + 63) / 64 + 1 ≤ D.1.length / 2) = false := decide_eq_false hroom
  rw [qR] at CR
  clear hroom hroom' qR ht2
  have hS0 := (HA.out.on (Below.refl _ _).drew).cells
  go_enter Tryz.func25, Tryz.ntmps25
  go_wp2_with fail
  refine wp_region_noPanic ?_
  refine wp_region_held_drew (S := fun W => (W.cell? ⟨w.heap.size, 0, none⟩ = some (.slice (some ⟨r, 0, none⟩) D.1.length c) ∧ W.cell? ⟨w.heap.size, 1, none⟩ = some (.int .i64 D.2.1) ∧ W.cell? ⟨w.heap.size, 2, none⟩ = some (.bool D.2.2.1) ∧ W.cell? ⟨w.heap.size, 3, none⟩ = some (.int .i64 D.2.2.2)) ∧ (W.cell? ⟨w.heap.size + 1, 0, none⟩ = some (.string X.1) ∧ W.cell? ⟨w.heap.size + 1, 1, none⟩ = some (.slice a X.2.1.length cx) ∧ W.cell? ⟨w.heap.size + 1, 2, none⟩ = some (.int .i64 X.2.2.1) ∧ W.cell? ⟨w.heap.size + 1, 3, none⟩ = some (.string X.2.2.2))) (by kernel_rfl) (by first | exact trivial | assumption | exact ⟨by assumption, by assumption⟩) (fun hHeld => ?_)
  refine take_at (i := 0) (v := ?_) rfl rfl (by kernel_rfl) (by kernel_rfl) (by kernel_rfl) (fun _ _ _ h => h) (Or.inl ⟨by rfl, ?_⟩) (by assumption) ?_
  rotate_left
  · intro w hSw; (try dsimp only at hSw); go_simp; try with_reducible rfl
  try simp only [Act.put, List.setIfInBounds_toArray, List.set_cons_zero, List.set_cons_succ]
  refine take_at (i := 1) (v := ?_) rfl rfl (by kernel_rfl) (by kernel_rfl) (by kernel_rfl) (fun _ _ _ h => h) (Or.inl ⟨by rfl, ?_⟩) (by assumption) ?_
  rotate_left
  · intro w hSw; (try dsimp only at hSw); go_simp; try with_reducible rfl
  try simp only [Act.put, List.setIfInBounds_toArray, List.set_cons_zero, List.set_cons_succ]
  refine take_at (i := 2) (v := ?_) rfl rfl (by kernel_rfl) (by kernel_rfl) (by kernel_rfl) (fun _ _ _ h => h) (Or.inl ⟨by rfl, ?_⟩) (by assumption) ?_
  rotate_left
  · intro w hSw; (try dsimp only at hSw); go_simp; try with_reducible rfl
  try simp only [Act.put, List.setIfInBounds_toArray, List.set_cons_zero, List.set_cons_succ]
  refine take_at (i := 3) (v := ?_) rfl rfl (by kernel_rfl) (by kernel_rfl) (by kernel_rfl) (fun _ _ _ h => h) (Or.inl ⟨by rfl, ?_⟩) (by assumption) ?_
  rotate_left
  · intro w hSw; (try dsimp only at hSw); go_simp; try with_reducible rfl
  try simp only [Act.put, List.setIfInBounds_toArray, List.set_cons_zero, List.set_cons_succ]
  refine take_at (i := 4) (v := ?_) rfl rfl (by kernel_rfl) (by kernel_rfl) (by kernel_rfl) (fun _ _ _ h => h) (Or.inl ⟨by rfl, ?_⟩) (by assumption) ?_
  rotate_left
  · intro w hSw; (try dsimp only at hSw); go_simp; try with_reducible rfl
  try simp only [Act.put, List.setIfInBounds_toArray, List.set_cons_zero, List.set_cons_succ]
  refine take_at (i := 5) (v := ?_) rfl rfl (by kernel_rfl) (by kernel_rfl) (by kernel_rfl) (fun _ _ _ h => h) (Or.inl ⟨by rfl, ?_⟩) (by assumption) ?_
  rotate_left
  · intro w hSw; (try dsimp only at hSw); go_simp; try with_reducible rfl
  try simp only [Act.put, List.setIfInBounds_toArray, List.set_cons_zero, List.set_cons_succ]
  refine take_at (i := 6) (v := ?_) rfl rfl (by kernel_rfl) (by kernel_rfl) (by kernel_rfl) (fun _ _ _ h => h) (Or.inl ⟨by rfl, ?_⟩) (by assumption) ?_
  rotate_left
  · intro w hSw; (try dsimp only at hSw); go_simp; try with_reducible rfl
  try simp only [Act.put, List.setIfInBounds_toArray, List.set_cons_zero, List.set_cons_succ]
  refine take_at (i := 7) (v := ?_) rfl rfl (by kernel_rfl) (by kernel_rfl) (by kernel_rfl) (fun _ _ _ h => h) (Or.inl ⟨by rfl, ?_⟩) (by assumption) ?_
  rotate_left
  · intro w hSw; (try dsimp only at hSw); go_simp; try with_reducible rfl
  try simp only [Act.put, List.setIfInBounds_toArray, List.set_cons_zero, List.set_cons_succ]
  refine take_at (i := 8) (v := ?_) rfl rfl (by kernel_rfl) (by kernel_rfl) (by kernel_rfl) (fun _ _ _ h => h) (Or.inl ⟨by rfl, ?_⟩) (by assumption) ?_
  rotate_left
  · intro w hSw; (try dsimp only at hSw); go_simp; try with_reducible rfl
  try simp only [Act.put, List.setIfInBounds_toArray, List.set_cons_zero, List.set_cons_succ]
  refine take_at (i := 9) (v := ?_) rfl rfl (by kernel_rfl) (by kernel_rfl) (by kernel_rfl) (fun _ _ _ h => h) (Or.inl ⟨by rfl, ?_⟩) (by assumption) ?_
  rotate_left
  · intro w hSw; (try dsimp only at hSw); go_simp; try with_reducible rfl
  try simp only [Act.put, List.setIfInBounds_toArray, List.set_cons_zero, List.set_cons_succ]
  refine take_at (i := 10) (v := ?_) rfl rfl (by kernel_rfl) (by kernel_rfl) (by kernel_rfl) (fun _ _ _ h => h) (Or.inl ⟨by rfl, ?_⟩) (by assumption) ?_
  rotate_left
  · intro w hSw; (try dsimp only at hSw); go_simp; try with_reducible rfl
  try simp only [Act.put, List.setIfInBounds_toArray, List.set_cons_zero, List.set_cons_succ]
  refine wpAnyH_ready (rs := [11]) (by kernel_rfl) (by simp) ?_
  refine AllReadyH.cons rfl (fun K hK => ?_) AllReadyH.nil
  go_simp
  refine (CT.out _).mono ?_
  rintro e w2 ⟨rfl, hb2⟩
  have HA2 : Hid (AdS w w2 D X r c a cx) := (HA.out.on (Below.refl _ _).drew).on hb2
  clear HA hb2
  refine hK.out _ _ HA2.out.cells (fun hHeld => ?_)
  clear hK K
  refine wpAnyH_ready (rs := [12]) (by kernel_rfl) (by simp) ?_
  refine AllReadyH.cons rfl (fun K hK => ?_) AllReadyH.nil
  go_simp
  refine (CR.out _ _ HA2.out.devIn).mono ?_
  rintro e W1 ⟨rfl, hb3⟩
  have HA1 : Hid (AdS w W1 D X r c a cx) := HA2.out.on hb3
  clear HA2 hb3 CR
  refine hK.out _ _ HA1.out.cells (fun hHeld => ?_)
  clear hK K
  refine take_at (i := 13) (v := ?_) rfl rfl (by kernel_rfl) (by kernel_rfl) (by kernel_rfl) (fun _ _ _ h => h) (Or.inl ⟨by rfl, ?_⟩) (by assumption) ?_
  rotate_left
  · intro w hSw; (try dsimp only at hSw); go_simp; try with_reducible rfl
  try simp only [Act.put, List.setIfInBounds_toArray, List.set_cons_zero, List.set_cons_succ]
  refine take_at (i := 14) (v := ?_) rfl rfl (by kernel_rfl) (by kernel_rfl) (by kernel_rfl) (fun _ _ _ h => h) (Or.inl ⟨by rfl, ?_⟩) (by assumption) ?_
  rotate_left
  · intro w hSw; (try dsimp only at hSw); go_simp; try with_reducible rfl
  try simp only [Act.put, List.setIfInBounds_toArray, List.set_cons_zero, List.set_cons_succ]
  refine wpAnyH_done (by kernel_rfl) (NoPanic.normal ?_) _
  clear hS0
  go_wp2_with fail
  have hS1 := (HA1.out.on (Below.refl _ _).drew).cells
  refine wp_region_noPanic ?_
  refine wp_region_held_drew (S := fun W => (W.cell? ⟨w.heap.size, 0, none⟩ = some (.slice (some ⟨r, 0, none⟩) D.1.length c) ∧ W.cell? ⟨w.heap.size, 1, none⟩ = some (.int .i64 D.2.1) ∧ W.cell? ⟨w.heap.size, 2, none⟩ = some (.bool D.2.2.1) ∧ W.cell? ⟨w.heap.size, 3, none⟩ = some (.int .i64 D.2.2.2)) ∧ (W.cell? ⟨w.heap.size + 1, 0, none⟩ = some (.string X.1) ∧ W.cell? ⟨w.heap.size + 1, 1, none⟩ = some (.slice a X.2.1.length cx) ∧ W.cell? ⟨w.heap.size + 1, 2, none⟩ = some (.int .i64 X.2.2.1) ∧ W.cell? ⟨w.heap.size + 1, 3, none⟩ = some (.string X.2.2.2))) (by kernel_rfl) (by first | exact trivial | assumption | exact ⟨by assumption, by assumption⟩) (fun hHeld => ?_)
  obtain ⟨V, hV⟩ : ∃ V, V = W1.drew := ⟨_, rfl⟩
  have HAV : Hid (AdS w V D X r c a cx) := by rw [hV]; exact HA1.out.on (Below.refl _ _).drew
  refine take_at (i := 0) (v := ?_) rfl rfl (by kernel_rfl) (by kernel_rfl) (by kernel_rfl) (fun _ _ _ h => h) (Or.inl ⟨by rfl, ?_⟩) (by assumption) ?_
  rotate_left
  · intro w hSw; (try dsimp only at hSw); go_simp; try with_reducible rfl
  try simp only [Act.put, List.setIfInBounds_toArray, List.set_cons_zero, List.set_cons_succ]
  refine take_at (i := 1) (v := ?_) rfl rfl (by kernel_rfl) (by kernel_rfl) (by kernel_rfl) (fun _ _ _ h => h) (Or.inl ⟨by rfl, ?_⟩) (by assumption) ?_
  rotate_left
  · intro w hSw; (try dsimp only at hSw); go_simp; try with_reducible rfl
  try simp only [Act.put, List.setIfInBounds_toArray, List.set_cons_zero, List.set_cons_succ]
  rw [← hV]
  refine wpAnyH_ready (rs := [2]) (by kernel_rfl) (by simp) ?_
  refine AllReadyH.cons rfl (fun K hK => ?_) AllReadyH.nil
  refine step_storeRow rfl rfl 28 _ _ rfl (w.heap.size + 1 + 1) #[.slice none 0 0, .int .i64 0, .bool false, .int .i64 0] #[.slice (some ⟨r, 0, none⟩) D.1.length c, .int .i64 D.2.1, .bool D.2.2.1, .int .i64 D.2.2.2] (by with_unfolding_all rfl) (by with_unfolding_all rfl) HAV.out.zd rfl (by kernel_rfl) (by simp [Value.oneCell']) ?_
  refine hK.out _ _ (HAV.out.cellsRow _ (by omega) _) (fun hHeld => ?_)
  clear hK K
  refine wpAnyH_ready (rs := [3]) (by kernel_rfl) (by simp) ?_
  refine AllReadyH.cons rfl (fun K hK => ?_) AllReadyH.nil
  refine step_storeRow rfl rfl 30 _ _ rfl (w.heap.size + 1 + 1 + 1) #[.string ⟨#[]⟩, .slice none 0 0, .int .i64 0, .string ⟨#[]⟩] #[.string X.1, .slice a X.2.1.length cx, .int .i64 X.2.2.1, .string X.2.2.2] (by with_unfolding_all rfl) (by with_unfolding_all rfl) (HAV.out.zs.setRowOther _ (by omega) _) rfl (by kernel_rfl) (by simp [Value.oneCell']) ?_
  refine hK.out _ _ (HAV.out.cellsRow2 _ _ (by omega) (by omega) _ _) (fun hHeld => ?_)
  clear hK K
  refine take_at (i := 4) (v := ?_) rfl rfl (by kernel_rfl) (by kernel_rfl) (by kernel_rfl) (fun _ _ _ h => h) (Or.inl ⟨by rfl, ?_⟩) (by assumption) ?_
  rotate_left
  · intro w hSw; (try dsimp only at hSw); go_simp; try with_reducible rfl
  try simp only [Act.put, List.setIfInBounds_toArray, List.set_cons_zero, List.set_cons_succ]
  refine wpAnyH_done (by kernel_rfl) (NoPanic.normal ?_) _
  go_wp2_with fail
  obtain ⟨o1, o2, o3, o4⟩ := HAV.out.out HAV.out.r (by rw [HD.out.len]; exact HN2.out) #[.slice (some ⟨r, 0, none⟩) D.1.length c, .int .i64 D.2.1, .bool D.2.2.1, .int .i64 D.2.2.2] #[.string X.1, .slice a X.2.1.length cx, .int .i64 X.2.2.1, .string X.2.2.2]
  exact bodyPost_rowsTmp rfl (w.heap.size + 1 + 1) (w.heap.size + 1 + 1 + 1) #[.slice (some ⟨r, 0, none⟩) D.1.length c, .int .i64 D.2.1, .bool D.2.2.1, .int .i64 D.2.2.2] #[.string X.1, .slice a X.2.1.length cx, .int .i64 X.2.2.1, .string X.2.2.2] _ rfl rfl rfl rfl o1 o2 _ _ Tryz.underlying28 rfl (by kernel_rfl) Tryz.underlying30 rfl (by kernel_rfl) ⟨_, _, rfl, ⟨r, c, rfl, o3⟩, ⟨a, cx, rfl, strs_set18 HT0.out (strs_set18 HT0.out HAV.out.t _ (by omega) _) _ (by omega) _, HAX.out⟩, o4⟩

set_option maxHeartbeats 8000000 in
theorem rlay18_off (D : DevT) (v : Value) (n : Nat) (c0 : Int) (B : Nat) (X : StoT) (u : Value) (t : ByteArray) (w : World) (h : DevIn w v D) (hD : DvO n c0 D) (hn2 : 2 ≤ n) (hn : n ≤ 2048) (hc : c0 < 576460752303423488) (hX : StoIn w B u X) (hO : StO X) (hB : B ≤ w.heap.size) (ht1 : ¬ 32768 < t.size) (ht2 : ¬ 1099511627775 ≤ X.2.2.1) (hroom' : (t.size + 2 + 63) / 64 + 1 ≤ D.1.length / 2) (h0 : ¬ (writesP D (X.2.2.1 + 1).toNat 0 (txB t)).2 = 0) :
    Calls Tryz.prog 25 #[v, u, .string t] w fun e w' => ∃ v' u', e = .returned (.tuple #[v', u', .int .i64 (layS D X t).2.2]) ∧ DevIn w' v' (layS D X t).1 ∧ StoIn w' B u' (layS D X t).2.1 ∧ Below w.heap.size w w' := by
  obtain ⟨r, c, rfl, hrow⟩ := h
  obtain ⟨a, cx, rfl, htx, hax⟩ := hX
  unfold devA
  have HA0 : Hid (AdS w _ D X r c a cx) := AdS.new w D X r c a cx hrow htx
  have HO : Hid (StO X) := hO
  have HD : Hid (DvO n c0 D) := hD
  have HAX : Hid (∀ x, a = some x → B ≤ x.block) := hax
  have HB : Hid (B ≤ w.heap.size) := hB
  have HT0 : Hid (StrsAt w a X.2.1.length X.2.1) := htx
  have HN2 : Hid (2 ≤ n) := hn2
  clear hrow htx hD hO hax
  obtain ⟨W0, hW0⟩ : ∃ W0, (((w.alloc (.cells #[.slice (some ⟨r, 0, none⟩) D.1.length c, .int .i64 D.2.1, .bool D.2.2.1, .int .i64 D.2.2.2] 28)).alloc (.cells #[.string X.1, .slice a X.2.1.length cx, .int .i64 X.2.2.1, .string X.2.2.2] 30)).alloc (.cells #[.slice none 0 0, .int .i64 0, .bool false, .int .i64 0] 28)).alloc (.cells #[.string ⟨#[]⟩, .slice none 0 0, .int .i64 0, .string ⟨#[]⟩] 30) = W0 := ⟨_, rfl⟩
  rw [hW0] at HA0
  have HA := HA0
  clear HA0
  have q1 : decide ((32768 : Int) < (t.size : Int)) = false := decide_eq_false (by omega)
  have q2 : decide ((1099511627775 : Int) ≤ X.2.2.1) = false := decide_eq_false ht2
  obtain ⟨T, HTx⟩ : ∃ T, Hid (txB t = T) := ⟨_, rfl⟩
  have hTs : Hid (T.size = t.size + 2) := by rw [← HTx.out]; exact txB_size t
  have CT : Hid (∀ W, Calls Tryz.prog 41 #[.string t] W fun e w' => e = .returned (.string T) ∧ Below W.heap.size W w') := by rw [← HTx.out]; exact fun W => rtext18_any t W (by omega)
  have CR : Hid (∀ W v, DevIn W v D → Calls Tryz.prog 40 #[v, .string T] W fun e w' => e = .returned (.bool (decide ((T.size + 63) / 64 + 1 ≤ D.1.length / 2))) ∧ Below W.heap.size W w') := fun W v hv => rroom18_any D v T W hv (by have := HD.out.len; omega) (by have h2 := hTs.out; omega)
  have hroom : (T.size + 63) / 64 + 1 ≤ D.1.length / 2 := by rw [hTs.out]; exact hroom'
  obtain ⟨tn, htn⟩ : ∃ tn : Nat, X.2.2.1 + 1 = (tn : Int) := ⟨(X.2.2.1 + 1).toNat, by have := HO.out.t0; omega⟩
  obtain ⟨R, HR⟩ : ∃ R, Hid (writesP D tn 0 T = R) := ⟨_, rfl⟩
  have CW : Hid (∀ W v, DevIn W v D → Calls Tryz.prog 42 #[v, .int .i64 (X.2.2.1 + 1), .int .i64 0, .string T] W fun e w' => ∃ v', e = .returned (.tuple #[v', .int .i64 R.2]) ∧ DevIn w' v' R.1 ∧ Below W.heap.size W w') := fun W v hv => by
    have := rwrites18_any D v n c0 tn 0 T W hv HD.out hn hc (by rw [← HD.out.len]; exact hroom) (Nat.zero_le _) (by have := HO.out.t1; omega)
    rw [HR.out] at this
    rw [htn]
    exact this
  have HDR : Hid (2 ≤ R.1.1.length) := by
    have := writesP_len D tn 0 T
    rw [HR.out, HD.out.len] at this
    show 2 ≤ R.1.1.length; rw [this]; exact HN2.out
  have eR : writesP D (X.2.2.1 + 1).toNat 0 (txB t) = R := by rw [htn, Int.toNat_natCast, HTx.out, HR.out]
  rw [eR] at h0
  have HAd : Hid (layS D X t = if R.2 = 0 then (R.1, (t, [], X.2.2.1 + 1, T), 0) else (R.1, X, R.2)) := by
    show _ = _
    unfold layS
    rw [if_neg (by rintro (e | e | e); · exact ht1 e
                   · exact ht2 e
                   · exact e hroom'), eR, HTx.out]
  have wt : IntKind.i64.wrap (X.2.2.1 + 1) = X.2.2.1 + 1 := by have h1 := HO.out.t0; have h2 := HO.out.t1; rw [IntKind.wrap_i64]; omega
  have qR : decide ((T.size + 63) / 64 + 1 ≤ D.1.length / 2) = true := decide_eq_true hroom
  rw [qR] at CR
  clear hroom hroom' qR ht2 htn HR eR
  have g0 : (R.2 != 0) = true := by rw [bne_iff_ne]; exact h0
  have e9 : layS D X t = (R.1, X, R.2) := by rw [HAd.out, if_neg h0]
  rw [e9]
  clear HAd h0
  have hS0 := (HA.out.on (Below.refl _ _).drew).cells
  go_enter Tryz.func25, Tryz.ntmps25
  go_wp2_with fail
  refine wp_region_noPanic ?_
  refine wp_region_held_drew (S := fun W => (W.cell? ⟨w.heap.size, 0, none⟩ = some (.slice (some ⟨r, 0, none⟩) D.1.length c) ∧ W.cell? ⟨w.heap.size, 1, none⟩ = some (.int .i64 D.2.1) ∧ W.cell? ⟨w.heap.size, 2, none⟩ = some (.bool D.2.2.1) ∧ W.cell? ⟨w.heap.size, 3, none⟩ = some (.int .i64 D.2.2.2)) ∧ (W.cell? ⟨w.heap.size + 1, 0, none⟩ = some (.string X.1) ∧ W.cell? ⟨w.heap.size + 1, 1, none⟩ = some (.slice a X.2.1.length cx) ∧ W.cell? ⟨w.heap.size + 1, 2, none⟩ = some (.int .i64 X.2.2.1) ∧ W.cell? ⟨w.heap.size + 1, 3, none⟩ = some (.string X.2.2.2))) (by kernel_rfl) (by first | exact trivial | assumption | exact ⟨by assumption, by assumption⟩) (fun hHeld => ?_)
  refine take_at (i := 0) (v := ?_) rfl rfl (by kernel_rfl) (by kernel_rfl) (by kernel_rfl) (fun _ _ _ h => h) (Or.inl ⟨by rfl, ?_⟩) (by assumption) ?_
  rotate_left
  · intro w hSw; (try dsimp only at hSw); go_simp; try with_reducible rfl
  try simp only [Act.put, List.setIfInBounds_toArray, List.set_cons_zero, List.set_cons_succ]
  refine take_at (i := 1) (v := ?_) rfl rfl (by kernel_rfl) (by kernel_rfl) (by kernel_rfl) (fun _ _ _ h => h) (Or.inl ⟨by rfl, ?_⟩) (by assumption) ?_
  rotate_left
  · intro w hSw; (try dsimp only at hSw); go_simp; try with_reducible rfl
  try simp only [Act.put, List.setIfInBounds_toArray, List.set_cons_zero, List.set_cons_succ]
  refine take_at (i := 2) (v := ?_) rfl rfl (by kernel_rfl) (by kernel_rfl) (by kernel_rfl) (fun _ _ _ h => h) (Or.inl ⟨by rfl, ?_⟩) (by assumption) ?_
  rotate_left
  · intro w hSw; (try dsimp only at hSw); go_simp; try with_reducible rfl
  try simp only [Act.put, List.setIfInBounds_toArray, List.set_cons_zero, List.set_cons_succ]
  refine take_at (i := 3) (v := ?_) rfl rfl (by kernel_rfl) (by kernel_rfl) (by kernel_rfl) (fun _ _ _ h => h) (Or.inl ⟨by rfl, ?_⟩) (by assumption) ?_
  rotate_left
  · intro w hSw; (try dsimp only at hSw); go_simp; try with_reducible rfl
  try simp only [Act.put, List.setIfInBounds_toArray, List.set_cons_zero, List.set_cons_succ]
  refine take_at (i := 4) (v := ?_) rfl rfl (by kernel_rfl) (by kernel_rfl) (by kernel_rfl) (fun _ _ _ h => h) (Or.inl ⟨by rfl, ?_⟩) (by assumption) ?_
  rotate_left
  · intro w hSw; (try dsimp only at hSw); go_simp; try with_reducible rfl
  try simp only [Act.put, List.setIfInBounds_toArray, List.set_cons_zero, List.set_cons_succ]
  refine take_at (i := 5) (v := ?_) rfl rfl (by kernel_rfl) (by kernel_rfl) (by kernel_rfl) (fun _ _ _ h => h) (Or.inl ⟨by rfl, ?_⟩) (by assumption) ?_
  rotate_left
  · intro w hSw; (try dsimp only at hSw); go_simp; try with_reducible rfl
  try simp only [Act.put, List.setIfInBounds_toArray, List.set_cons_zero, List.set_cons_succ]
  refine take_at (i := 6) (v := ?_) rfl rfl (by kernel_rfl) (by kernel_rfl) (by kernel_rfl) (fun _ _ _ h => h) (Or.inl ⟨by rfl, ?_⟩) (by assumption) ?_
  rotate_left
  · intro w hSw; (try dsimp only at hSw); go_simp; try with_reducible rfl
  try simp only [Act.put, List.setIfInBounds_toArray, List.set_cons_zero, List.set_cons_succ]
  refine take_at (i := 7) (v := ?_) rfl rfl (by kernel_rfl) (by kernel_rfl) (by kernel_rfl) (fun _ _ _ h => h) (Or.inl ⟨by rfl, ?_⟩) (by assumption) ?_
  rotate_left
  · intro w hSw; (try dsimp only at hSw); go_simp; try with_reducible rfl
  try simp only [Act.put, List.setIfInBounds_toArray, List.set_cons_zero, List.set_cons_succ]
  refine take_at (i := 8) (v := ?_) rfl rfl (by kernel_rfl) (by kernel_rfl) (by kernel_rfl) (fun _ _ _ h => h) (Or.inl ⟨by rfl, ?_⟩) (by assumption) ?_
  rotate_left
  · intro w hSw; (try dsimp only at hSw); go_simp; try with_reducible rfl
  try simp only [Act.put, List.setIfInBounds_toArray, List.set_cons_zero, List.set_cons_succ]
  refine take_at (i := 9) (v := ?_) rfl rfl (by kernel_rfl) (by kernel_rfl) (by kernel_rfl) (fun _ _ _ h => h) (Or.inl ⟨by rfl, ?_⟩) (by assumption) ?_
  rotate_left
  · intro w hSw; (try dsimp only at hSw); go_simp; try with_reducible rfl
  try simp only [Act.put, List.setIfInBounds_toArray, List.set_cons_zero, List.set_cons_succ]
  refine take_at (i := 10) (v := ?_) rfl rfl (by kernel_rfl) (by kernel_rfl) (by kernel_rfl) (fun _ _ _ h => h) (Or.inl ⟨by rfl, ?_⟩) (by assumption) ?_
  rotate_left
  · intro w hSw; (try dsimp only at hSw); go_simp; try with_reducible rfl
  try simp only [Act.put, List.setIfInBounds_toArray, List.set_cons_zero, List.set_cons_succ]
  refine wpAnyH_ready (rs := [11]) (by kernel_rfl) (by simp) ?_
  refine AllReadyH.cons rfl (fun K hK => ?_) AllReadyH.nil
  go_simp
  refine (CT.out _).mono ?_
  rintro e w2 ⟨rfl, hb2⟩
  have HA2 : Hid (AdS w w2 D X r c a cx) := (HA.out.on (Below.refl _ _).drew).on hb2
  clear HA hb2
  refine hK.out _ _ HA2.out.cells (fun hHeld => ?_)
  clear hK K
  refine wpAnyH_ready (rs := [12]) (by kernel_rfl) (by simp) ?_
  refine AllReadyH.cons rfl (fun K hK => ?_) AllReadyH.nil
  go_simp
  refine (CR.out _ _ HA2.out.devIn).mono ?_
  rintro e W1 ⟨rfl, hb3⟩
  have HA1 : Hid (AdS w W1 D X r c a cx) := HA2.out.on hb3
  clear HA2 hb3 CR
  refine hK.out _ _ HA1.out.cells (fun hHeld => ?_)
  clear hK K
  refine take_at (i := 13) (v := ?_) rfl rfl (by kernel_rfl) (by kernel_rfl) (by kernel_rfl) (fun _ _ _ h => h) (Or.inl ⟨by rfl, ?_⟩) (by assumption) ?_
  rotate_left
  · intro w hSw; (try dsimp only at hSw); go_simp; try with_reducible rfl
  try simp only [Act.put, List.setIfInBounds_toArray, List.set_cons_zero, List.set_cons_succ]
  refine take_at (i := 14) (v := ?_) rfl rfl (by kernel_rfl) (by kernel_rfl) (by kernel_rfl) (fun _ _ _ h => h) (Or.inl ⟨by rfl, ?_⟩) (by assumption) ?_
  rotate_left
  · intro w hSw; (try dsimp only at hSw); go_simp; try with_reducible rfl
  try simp only [Act.put, List.setIfInBounds_toArray, List.set_cons_zero, List.set_cons_succ]
  refine wpAnyH_done (by kernel_rfl) (NoPanic.normal ?_) _
  clear hS0
  go_wp2_with fail
  have hS1 := (HA1.out.on (Below.refl _ _).drew).cells
  refine wp_region_noPanic ?_
  refine wp_region_held_drew (S := fun W => (W.cell? ⟨w.heap.size, 0, none⟩ = some (.slice (some ⟨r, 0, none⟩) D.1.length c) ∧ W.cell? ⟨w.heap.size, 1, none⟩ = some (.int .i64 D.2.1) ∧ W.cell? ⟨w.heap.size, 2, none⟩ = some (.bool D.2.2.1) ∧ W.cell? ⟨w.heap.size, 3, none⟩ = some (.int .i64 D.2.2.2)) ∧ (W.cell? ⟨w.heap.size + 1, 0, none⟩ = some (.string X.1) ∧ W.cell? ⟨w.heap.size + 1, 1, none⟩ = some (.slice a X.2.1.length cx) ∧ W.cell? ⟨w.heap.size + 1, 2, none⟩ = some (.int .i64 X.2.2.1) ∧ W.cell? ⟨w.heap.size + 1, 3, none⟩ = some (.string X.2.2.2))) (by kernel_rfl) (by first | exact trivial | assumption | exact ⟨by assumption, by assumption⟩) (fun hHeld => ?_)
  refine take_at (i := 0) (v := ?_) rfl rfl (by kernel_rfl) (by kernel_rfl) (by kernel_rfl) (fun _ _ _ h => h) (Or.inl ⟨by rfl, ?_⟩) (by assumption) ?_
  rotate_left
  · intro w hSw; (try dsimp only at hSw); go_simp; try with_reducible rfl
  try simp only [Act.put, List.setIfInBounds_toArray, List.set_cons_zero, List.set_cons_succ]
  refine take_at (i := 1) (v := ?_) rfl rfl (by kernel_rfl) (by kernel_rfl) (by kernel_rfl) (fun _ _ _ h => h) (Or.inl ⟨by rfl, ?_⟩) (by assumption) ?_
  rotate_left
  · intro w hSw; (try dsimp only at hSw); go_simp; try with_reducible rfl
  try simp only [Act.put, List.setIfInBounds_toArray, List.set_cons_zero, List.set_cons_succ]
  refine take_at (i := 2) (v := ?_) rfl rfl (by kernel_rfl) (by kernel_rfl) (by kernel_rfl) (fun _ _ _ h => h) (Or.inl ⟨by rfl, ?_⟩) (by assumption) ?_
  rotate_left
  · intro w hSw; (try dsimp only at hSw); go_simp; try with_reducible rfl
  try simp only [Act.put, List.setIfInBounds_toArray, List.set_cons_zero, List.set_cons_succ]
  refine take_at (i := 3) (v := ?_) rfl rfl (by kernel_rfl) (by kernel_rfl) (by kernel_rfl) (fun _ _ _ h => h) (Or.inl ⟨by rfl, ?_⟩) (by assumption) ?_
  rotate_left
  · intro w hSw; (try dsimp only at hSw); go_simp; try with_reducible rfl
  try simp only [Act.put, List.setIfInBounds_toArray, List.set_cons_zero, List.set_cons_succ]
  refine take_at (i := 4) (v := ?_) rfl rfl (by kernel_rfl) (by kernel_rfl) (by kernel_rfl) (fun _ _ _ h => h) (Or.inl ⟨by rfl, ?_⟩) (by assumption) ?_
  rotate_left
  · intro w hSw; (try dsimp only at hSw); go_simp; try with_reducible rfl
  try simp only [Act.put, List.setIfInBounds_toArray, List.set_cons_zero, List.set_cons_succ]
  refine wpAnyH_ready (rs := [5, 10]) (by kernel_rfl) (by simp) ?_
  refine AllReadyH.cons rfl (fun K hK => ?_) (AllReadyH.cons rfl (fun K hK => ?_) AllReadyH.nil)
  · go_simp
    refine (CT.out _).mono ?_
    rintro e w4 ⟨rfl, hb4⟩
    have HA4 : Hid (AdS w w4 D X r c a cx) := (HA1.out.on (Below.refl _ _).drew).on hb4
    clear HA1 hb4 hS1
    refine hK.out _ _ HA4.out.cells (fun hHeld => ?_)
    clear hK K
    refine wpAnyH_ready (rs := [6, 10]) (by kernel_rfl) (by simp) ?_
    refine AllReadyH.cons rfl (fun K hK => ?_) (AllReadyH.cons rfl (fun K hK => ?_) AllReadyH.nil)
    · go_simp
      refine (CW.out _ _ HA4.out.devIn).mono ?_
      rintro e w5 ⟨v', rfl, ⟨r2, c2, rfl, hr2⟩, hb5⟩
      unfold devA
      have HA5 : Hid (AdS w w5 D X r c a cx) := HA4.out.on hb5
      clear HA4 hb5 CW
      refine hK.out _ _ HA5.out.cells (fun hHeld => ?_)
      clear hK K
      refine take_at (i := 7) (v := ?_) rfl rfl (by kernel_rfl) (by kernel_rfl) (by kernel_rfl) (fun _ _ _ h => h) (Or.inl ⟨by rfl, ?_⟩) (by assumption) ?_
      rotate_left
      · intro w hSw; (try dsimp only at hSw); go_simp; try with_reducible rfl
      try simp only [Act.put, List.setIfInBounds_toArray, List.set_cons_zero, List.set_cons_succ]
      refine take_at (i := 8) (v := ?_) rfl rfl (by kernel_rfl) (by kernel_rfl) (by kernel_rfl) (fun _ _ _ h => h) (Or.inl ⟨by rfl, ?_⟩) (by assumption) ?_
      rotate_left
      · intro w hSw; (try dsimp only at hSw); go_simp; try with_reducible rfl
      try simp only [Act.put, List.setIfInBounds_toArray, List.set_cons_zero, List.set_cons_succ]
      refine take_at (i := 9) (v := ?_) rfl rfl (by kernel_rfl) (by kernel_rfl) (by kernel_rfl) (fun _ _ _ h => h) (Or.inl ⟨by rfl, ?_⟩) (by assumption) ?_
      rotate_left
      · intro w hSw; (try dsimp only at hSw); go_simp; try with_reducible rfl
      try simp only [Act.put, List.setIfInBounds_toArray, List.set_cons_zero, List.set_cons_succ]
      refine wpAnyH_ready (rs := [10]) (by kernel_rfl) (by simp) ?_
      refine AllReadyH.cons rfl (fun K hK => ?_) AllReadyH.nil
      go_simp
      refine hK.out _ _ ((HA5.out.on (below_new _ _)).cells) (fun hHeld => ?_)
      clear hK K
      refine wpAnyH_ready (rs := [11]) (by kernel_rfl) (by simp) ?_
      refine AllReadyH.cons rfl (fun K hK => ?_) AllReadyH.nil
      go_simp
      refine hK.out _ _ ((HA5.out.on (below_new _ _)).cells) (fun hHeld => ?_)
      clear hK K
      refine take_at (i := 12) (v := ?_) rfl rfl (by kernel_rfl) (by kernel_rfl) (by kernel_rfl) (fun _ _ _ h => h) (Or.inl ⟨by rfl, ?_⟩) (by assumption) ?_
      rotate_left
      · intro w hSw; (try dsimp only at hSw); go_simp; try with_reducible rfl
      try simp only [Act.put, List.setIfInBounds_toArray, List.set_cons_zero, List.set_cons_succ]
      refine wpAnyH_done (by kernel_rfl) (NoPanic.normal ?_) _
      obtain ⟨nb, hnb⟩ : ∃ nb, nb = w5.heap.size := ⟨_, rfl⟩
      obtain ⟨W6, hW6⟩ : ∃ W6, W6 = w5.alloc (.cells #[.slice (some ⟨r2, 0, none⟩) R.1.1.length c2, .int .i64 R.1.2.1, .bool R.1.2.2.1, .int .i64 R.1.2.2.2] 28) := ⟨_, rfl⟩
      have HA6 : Hid (AdS w W6 D X r c a cx) := by rw [hW6]; exact HA5.out.on (below_new _ _)
      have HN6 : Hid (Blk W6 28 nb #[.slice (some ⟨r2, 0, none⟩) R.1.1.length c2, .int .i64 R.1.2.1, .bool R.1.2.2.1, .int .i64 R.1.2.2.2]) := by show Blk _ _ _ _; rw [hW6]; exact Blk.new' _ _ _ _ hnb.symm
      have HR6 : Hid (RowD W6 r2 c2 R.1.1) := by rw [hW6]; exact hr2.on (below_new _ _)
      have HNb : Hid (w.heap.size + 1 + 1 + 1 < nb) := by have h1 := HA5.out.zs.lt; show w.heap.size + 1 + 1 + 1 < nb; omega
      rw [← hW6, ← hnb]
      clear hW6 hnb HA5 hr2
      go_wp2_with fail
      have SNV : Hid (∀ W, Blk W 28 nb #[.slice (some ⟨r2, 0, none⟩) R.1.1.length c2, .int .i64 R.1.2.1, .bool R.1.2.2.1, .int .i64 R.1.2.2.2] → Blk W 30 (w.heap.size + 1) #[.string X.1, .slice a X.2.1.length cx, .int .i64 X.2.2.1, .string X.2.2.2] → (W.cell? ⟨nb, 0, none⟩ = some (.slice (some ⟨r2, 0, none⟩) R.1.1.length c2) ∧ W.cell? ⟨nb, 1, none⟩ = some (.int .i64 R.1.2.1) ∧ W.cell? ⟨nb, 2, none⟩ = some (.bool R.1.2.2.1) ∧ W.cell? ⟨nb, 3, none⟩ = some (.int .i64 R.1.2.2.2)) ∧ (W.cell? ⟨w.heap.size + 1, 0, none⟩ = some (.string X.1) ∧ W.cell? ⟨w.heap.size + 1, 1, none⟩ = some (.slice a X.2.1.length cx) ∧ W.cell? ⟨w.heap.size + 1, 2, none⟩ = some (.int .i64 X.2.2.1) ∧ W.cell? ⟨w.heap.size + 1, 3, none⟩ = some (.string X.2.2.2))) := fun W x y => ⟨⟨x.cell 0, x.cell 1, x.cell 2, x.cell 3⟩, ⟨y.cell 0, y.cell 1, y.cell 2, y.cell 3⟩⟩
      obtain ⟨V, hV⟩ : ∃ V, V = W6.drew := ⟨_, rfl⟩
      have HAV : Hid (AdS w V D X r c a cx) := by rw [hV]; exact HA6.out.on (Below.refl _ _).drew
      have HNV : Hid (Blk V 28 nb #[.slice (some ⟨r2, 0, none⟩) R.1.1.length c2, .int .i64 R.1.2.1, .bool R.1.2.2.1, .int .i64 R.1.2.2.2]) := by rw [hV]; exact HN6.out.on (Below.refl _ _).drew
      have HRV : Hid (RowD V r2 c2 R.1.1) := by rw [hV]; exact HR6.out.on (Below.refl _ _).drew
      have hS6 := SNV.out _ HNV.out HAV.out.s
      rw [hV] at hS6
      refine wp_region_noPanic ?_
      refine wp_region_held_drew (S := fun W => (W.cell? ⟨nb, 0, none⟩ = some (.slice (some ⟨r2, 0, none⟩) R.1.1.length c2) ∧ W.cell? ⟨nb, 1, none⟩ = some (.int .i64 R.1.2.1) ∧ W.cell? ⟨nb, 2, none⟩ = some (.bool R.1.2.2.1) ∧ W.cell? ⟨nb, 3, none⟩ = some (.int .i64 R.1.2.2.2)) ∧ (W.cell? ⟨w.heap.size + 1, 0, none⟩ = some (.string X.1) ∧ W.cell? ⟨w.heap.size + 1, 1, none⟩ = some (.slice a X.2.1.length cx) ∧ W.cell? ⟨w.heap.size + 1, 2, none⟩ = some (.int .i64 X.2.2.1) ∧ W.cell? ⟨w.heap.size + 1, 3, none⟩ = some (.string X.2.2.2))) (by kernel_rfl) (by first | exact trivial | assumption | exact ⟨by assumption, by assumption⟩) (fun hHeld => ?_)
      refine take_at (i := 0) (v := ?_) rfl rfl (by kernel_rfl) (by kernel_rfl) (by kernel_rfl) (fun _ _ _ h => h) (Or.inl ⟨by rfl, ?_⟩) (by assumption) ?_
      rotate_left
      · intro w hSw; (try dsimp only at hSw); go_simp; try with_reducible rfl
      try simp only [Act.put, List.setIfInBounds_toArray, List.set_cons_zero, List.set_cons_succ]
      refine take_at (i := 1) (v := ?_) rfl rfl (by kernel_rfl) (by kernel_rfl) (by kernel_rfl) (fun _ _ _ h => h) (Or.inl ⟨by rfl, ?_⟩) (by assumption) ?_
      rotate_left
      · intro w hSw; (try dsimp only at hSw); go_simp; try with_reducible rfl
      try simp only [Act.put, List.setIfInBounds_toArray, List.set_cons_zero, List.set_cons_succ]
      refine take_at (i := 2) (v := ?_) rfl rfl (by kernel_rfl) (by kernel_rfl) (by kernel_rfl) (fun _ _ _ h => h) (Or.inl ⟨by rfl, ?_⟩) (by assumption) ?_
      rotate_left
      · intro w hSw; (try dsimp only at hSw); go_simp; try with_reducible rfl
      try simp only [Act.put, List.setIfInBounds_toArray, List.set_cons_zero, List.set_cons_succ]
      rw [← hV]
      refine wpAnyH_ready (rs := [3]) (by kernel_rfl) (by simp) ?_
      refine AllReadyH.cons rfl (fun K hK => ?_) AllReadyH.nil
      refine step_storeRow rfl rfl 28 _ _ rfl (w.heap.size + 1 + 1) #[.slice none 0 0, .int .i64 0, .bool false, .int .i64 0] #[.slice (some ⟨r2, 0, none⟩) R.1.1.length c2, .int .i64 R.1.2.1, .bool R.1.2.2.1, .int .i64 R.1.2.2.2] (by with_unfolding_all rfl) (by with_unfolding_all rfl) HAV.out.zd rfl (by kernel_rfl) (by simp [Value.oneCell']) ?_
      refine hK.out _ _ (SNV.out _ (HNV.out.setRowOther _ (by have := HNb.out; omega) _) (HAV.out.s.setRowOther _ (by omega) _)) (fun hHeld => ?_)
      clear hK K
      refine wpAnyH_ready (rs := [4]) (by kernel_rfl) (by simp) ?_
      refine AllReadyH.cons rfl (fun K hK => ?_) AllReadyH.nil
      refine step_storeRow rfl rfl 30 _ _ rfl (w.heap.size + 1 + 1 + 1) #[.string ⟨#[]⟩, .slice none 0 0, .int .i64 0, .string ⟨#[]⟩] #[.string X.1, .slice a X.2.1.length cx, .int .i64 X.2.2.1, .string X.2.2.2] (by with_unfolding_all rfl) (by with_unfolding_all rfl) (HAV.out.zs.setRowOther _ (by omega) _) rfl (by kernel_rfl) (by simp [Value.oneCell']) ?_
      refine hK.out _ _ (SNV.out _ ((HNV.out.setRowOther _ (by have := HNb.out; omega) _).setRowOther _ (by have := HNb.out; omega) _) ((HAV.out.s.setRowOther _ (by omega) _).setRowOther _ (by omega) _)) (fun hHeld => ?_)
      clear hK K
      refine take_at (i := 5) (v := ?_) rfl rfl (by kernel_rfl) (by kernel_rfl) (by kernel_rfl) (fun _ _ _ h => h) (Or.inl ⟨by rfl, ?_⟩) (by assumption) ?_
      rotate_left
      · intro w hSw; (try dsimp only at hSw); go_simp; try with_reducible rfl
      try simp only [Act.put, List.setIfInBounds_toArray, List.set_cons_zero, List.set_cons_succ]
      refine wpAnyH_done (by kernel_rfl) (NoPanic.normal ?_) _
      go_wp2_with fail
      obtain ⟨o1, o2, o3, o4⟩ := HAV.out.out HRV.out HDR.out #[.slice (some ⟨r2, 0, none⟩) R.1.1.length c2, .int .i64 R.1.2.1, .bool R.1.2.2.1, .int .i64 R.1.2.2.2] #[.string X.1, .slice a X.2.1.length cx, .int .i64 X.2.2.1, .string X.2.2.2]
      exact bodyPost_rowsTmp rfl (w.heap.size + 1 + 1) (w.heap.size + 1 + 1 + 1) #[.slice (some ⟨r2, 0, none⟩) R.1.1.length c2, .int .i64 R.1.2.1, .bool R.1.2.2.1, .int .i64 R.1.2.2.2] #[.string X.1, .slice a X.2.1.length cx, .int .i64 X.2.2.1, .string X.2.2.2] _ rfl rfl rfl rfl o1 o2 _ _ Tryz.underlying28 rfl (by kernel_rfl) Tryz.underlying30 rfl (by kernel_rfl) ⟨_, _, rfl, ⟨r2, c2, rfl, o3⟩, ⟨a, cx, rfl, strs_set18 HT0.out (strs_set18 HT0.out HAV.out.t _ (by omega) _) _ (by omega) _, HAX.out⟩, o4⟩
    · go_simp
      obtain ⟨nb, hnb⟩ : ∃ nb, nb = w4.heap.size := ⟨_, rfl⟩
      obtain ⟨w3, hw3⟩ : ∃ w3, w3 = w4.alloc (.cells #[.slice none 0 0, .int .i64 0, .bool false, .int .i64 0] 28) := ⟨_, rfl⟩
      have HA3 : Hid (AdS w w3 D X r c a cx) := by rw [hw3]; exact HA4.out.on (below_new _ _)
      have HN3 : Hid (Blk w3 28 nb #[.slice none 0 0, .int .i64 0, .bool false, .int .i64 0]) := by show Blk _ _ _ _; rw [hw3]; exact Blk.new' _ _ _ _ hnb.symm
      have HNb : Hid (w.heap.size + 1 + 1 + 1 < nb) := by have h1 := HA4.out.zs.lt; show w.heap.size + 1 + 1 + 1 < nb; omega
      rw [← hw3, ← hnb]
      clear hw3 hnb HA4
      refine hK.out _ _ HA3.out.cells (fun hHeld => ?_)
      clear hK K
      refine wpAnyH_ready (rs := [6]) (by kernel_rfl) (by simp) ?_
      refine AllReadyH.cons rfl (fun K hK => ?_) AllReadyH.nil
      go_simp
      refine (CW.out _ _ HA3.out.devIn).mono ?_
      rintro e w5 ⟨v', rfl, ⟨r2, c2, rfl, hr2⟩, hb5⟩
      unfold devA
      have HA5 : Hid (AdS w w5 D X r c a cx) := HA3.out.on hb5
      have HN5 : Hid (Blk w5 28 nb #[.slice none 0 0, .int .i64 0, .bool false, .int .i64 0]) := HN3.out.on hb5
      clear HA3 HN3 hb5 CW
      refine hK.out _ _ HA5.out.cells (fun hHeld => ?_)
      clear hK K
      refine take_at (i := 7) (v := ?_) rfl rfl (by kernel_rfl) (by kernel_rfl) (by kernel_rfl) (fun _ _ _ h => h) (Or.inl ⟨by rfl, ?_⟩) (by assumption) ?_
      rotate_left
      · intro w hSw; (try dsimp only at hSw); go_simp; try with_reducible rfl
      try simp only [Act.put, List.setIfInBounds_toArray, List.set_cons_zero, List.set_cons_succ]
      refine take_at (i := 8) (v := ?_) rfl rfl (by kernel_rfl) (by kernel_rfl) (by kernel_rfl) (fun _ _ _ h => h) (Or.inl ⟨by rfl, ?_⟩) (by assumption) ?_
      rotate_left
      · intro w hSw; (try dsimp only at hSw); go_simp; try with_reducible rfl
      try simp only [Act.put, List.setIfInBounds_toArray, List.set_cons_zero, List.set_cons_succ]
      refine take_at (i := 9) (v := ?_) rfl rfl (by kernel_rfl) (by kernel_rfl) (by kernel_rfl) (fun _ _ _ h => h) (Or.inl ⟨by rfl, ?_⟩) (by assumption) ?_
      rotate_left
      · intro w hSw; (try dsimp only at hSw); go_simp; try with_reducible rfl
      try simp only [Act.put, List.setIfInBounds_toArray, List.set_cons_zero, List.set_cons_succ]
      obtain ⟨W6, hW6⟩ : ∃ W6, W6 = w5.setRow nb #[.slice (some ⟨r2, 0, none⟩) R.1.1.length c2, .int .i64 R.1.2.1, .bool R.1.2.2.1, .int .i64 R.1.2.2.2] := ⟨_, rfl⟩
      have HA6 : Hid (AdS w W6 D X r c a cx) := by
        rw [hW6]
        have x := HA5.out
        have hn := HNb.out
        exact ⟨x.d.setRowOther _ (by omega) _, x.s.setRowOther _ (by omega) _, x.zd.setRowOther _ (by omega) _, x.zs.setRowOther _ (by omega) _, rd18_setRow x.r (rd18_apart x.r (by have := HD.out.len; have := HN2.out; omega) HN5.out rfl) _, strs_set18 HT0.out x.t _ (by omega) _, below_setRow x.b (by omega) _⟩
      have HN6 : Hid (Blk W6 28 nb #[.slice (some ⟨r2, 0, none⟩) R.1.1.length c2, .int .i64 R.1.2.1, .bool R.1.2.2.1, .int .i64 R.1.2.2.2]) := by show Blk _ _ _ _; rw [hW6]; exact HN5.out.setRow _
      have HR6 : Hid (RowD W6 r2 c2 R.1.1) := by rw [hW6]; exact rd18_setRow hr2 (rd18_apart hr2 (by have := HDR.out; omega) HN5.out rfl) _
      refine wpAnyH_ready (rs := [11]) (by kernel_rfl) (by simp) ?_
      refine AllReadyH.cons rfl (fun K hK => ?_) AllReadyH.nil
      refine step_storeRow rfl rfl 28 _ _ rfl nb #[.slice none 0 0, .int .i64 0, .bool false, .int .i64 0] #[.slice (some ⟨r2, 0, none⟩) R.1.1.length c2, .int .i64 R.1.2.1, .bool R.1.2.2.1, .int .i64 R.1.2.2.2] (by with_unfolding_all rfl) (by with_unfolding_all rfl) HN5.out rfl (by kernel_rfl) (by simp [Value.oneCell']) ?_
      rw [← hW6]
      refine hK.out _ _ HA6.out.cells (fun hHeld => ?_)
      clear hK K
      refine take_at (i := 12) (v := ?_) rfl rfl (by kernel_rfl) (by kernel_rfl) (by kernel_rfl) (fun _ _ _ h => h) (Or.inl ⟨by rfl, ?_⟩) (by assumption) ?_
      rotate_left
      · intro w hSw; (try dsimp only at hSw); go_simp; try with_reducible rfl
      try simp only [Act.put, List.setIfInBounds_toArray, List.set_cons_zero, List.set_cons_succ]
      refine wpAnyH_done (by kernel_rfl) (NoPanic.normal ?_) _
      clear hW6 HA5 HN5 hr2
      go_wp2_with fail
      have SNV : Hid (∀ W, Blk W 28 nb #[.slice (some ⟨r2, 0, none⟩) R.1.1.length c2, .int .i64 R.1.2.1, .bool R.1.2.2.1, .int .i64 R.1.2.2.2] → Blk W 30 (w.heap.size + 1) #[.string X.1, .slice a X.2.1.length cx, .int .i64 X.2.2.1, .string X.2.2.2] → (W.cell? ⟨nb, 0, none⟩ = some (.slice (some ⟨r2, 0, none⟩) R.1.1.length c2) ∧ W.cell? ⟨nb, 1, none⟩ = some (.int .i64 R.1.2.1) ∧ W.cell? ⟨nb, 2, none⟩ = some (.bool R.1.2.2.1) ∧ W.cell? ⟨nb, 3, none⟩ = some (.int .i64 R.1.2.2.2)) ∧ (W.cell? ⟨w.heap.size + 1, 0, none⟩ = some (.string X.1) ∧ W.cell? ⟨w.heap.size + 1, 1, none⟩ = some (.slice a X.2.1.length cx) ∧ W.cell? ⟨w.heap.size + 1, 2, none⟩ = some (.int .i64 X.2.2.1) ∧ W.cell? ⟨w.heap.size + 1, 3, none⟩ = some (.string X.2.2.2))) := fun W x y => ⟨⟨x.cell 0, x.cell 1, x.cell 2, x.cell 3⟩, ⟨y.cell 0, y.cell 1, y.cell 2, y.cell 3⟩⟩
      obtain ⟨V, hV⟩ : ∃ V, V = W6.drew := ⟨_, rfl⟩
      have HAV : Hid (AdS w V D X r c a cx) := by rw [hV]; exact HA6.out.on (Below.refl _ _).drew
      have HNV : Hid (Blk V 28 nb #[.slice (some ⟨r2, 0, none⟩) R.1.1.length c2, .int .i64 R.1.2.1, .bool R.1.2.2.1, .int .i64 R.1.2.2.2]) := by rw [hV]; exact HN6.out.on (Below.refl _ _).drew
      have HRV : Hid (RowD V r2 c2 R.1.1) := by rw [hV]; exact HR6.out.on (Below.refl _ _).drew
      have hS6 := SNV.out _ HNV.out HAV.out.s
      rw [hV] at hS6
      refine wp_region_noPanic ?_
      refine wp_region_held_drew (S := fun W => (W.cell? ⟨nb, 0, none⟩ = some (.slice (some ⟨r2, 0, none⟩) R.1.1.length c2) ∧ W.cell? ⟨nb, 1, none⟩ = some (.int .i64 R.1.2.1) ∧ W.cell? ⟨nb, 2, none⟩ = some (.bool R.1.2.2.1) ∧ W.cell? ⟨nb, 3, none⟩ = some (.int .i64 R.1.2.2.2)) ∧ (W.cell? ⟨w.heap.size + 1, 0, none⟩ = some (.string X.1) ∧ W.cell? ⟨w.heap.size + 1, 1, none⟩ = some (.slice a X.2.1.length cx) ∧ W.cell? ⟨w.heap.size + 1, 2, none⟩ = some (.int .i64 X.2.2.1) ∧ W.cell? ⟨w.heap.size + 1, 3, none⟩ = some (.string X.2.2.2))) (by kernel_rfl) (by first | exact trivial | assumption | exact ⟨by assumption, by assumption⟩) (fun hHeld => ?_)
      refine take_at (i := 0) (v := ?_) rfl rfl (by kernel_rfl) (by kernel_rfl) (by kernel_rfl) (fun _ _ _ h => h) (Or.inl ⟨by rfl, ?_⟩) (by assumption) ?_
      rotate_left
      · intro w hSw; (try dsimp only at hSw); go_simp; try with_reducible rfl
      try simp only [Act.put, List.setIfInBounds_toArray, List.set_cons_zero, List.set_cons_succ]
      refine take_at (i := 1) (v := ?_) rfl rfl (by kernel_rfl) (by kernel_rfl) (by kernel_rfl) (fun _ _ _ h => h) (Or.inl ⟨by rfl, ?_⟩) (by assumption) ?_
      rotate_left
      · intro w hSw; (try dsimp only at hSw); go_simp; try with_reducible rfl
      try simp only [Act.put, List.setIfInBounds_toArray, List.set_cons_zero, List.set_cons_succ]
      refine take_at (i := 2) (v := ?_) rfl rfl (by kernel_rfl) (by kernel_rfl) (by kernel_rfl) (fun _ _ _ h => h) (Or.inl ⟨by rfl, ?_⟩) (by assumption) ?_
      rotate_left
      · intro w hSw; (try dsimp only at hSw); go_simp; try with_reducible rfl
      try simp only [Act.put, List.setIfInBounds_toArray, List.set_cons_zero, List.set_cons_succ]
      rw [← hV]
      refine wpAnyH_ready (rs := [3]) (by kernel_rfl) (by simp) ?_
      refine AllReadyH.cons rfl (fun K hK => ?_) AllReadyH.nil
      refine step_storeRow rfl rfl 28 _ _ rfl (w.heap.size + 1 + 1) #[.slice none 0 0, .int .i64 0, .bool false, .int .i64 0] #[.slice (some ⟨r2, 0, none⟩) R.1.1.length c2, .int .i64 R.1.2.1, .bool R.1.2.2.1, .int .i64 R.1.2.2.2] (by with_unfolding_all rfl) (by with_unfolding_all rfl) HAV.out.zd rfl (by kernel_rfl) (by simp [Value.oneCell']) ?_
      refine hK.out _ _ (SNV.out _ (HNV.out.setRowOther _ (by have := HNb.out; omega) _) (HAV.out.s.setRowOther _ (by omega) _)) (fun hHeld => ?_)
      clear hK K
      refine wpAnyH_ready (rs := [4]) (by kernel_rfl) (by simp) ?_
      refine AllReadyH.cons rfl (fun K hK => ?_) AllReadyH.nil
      refine step_storeRow rfl rfl 30 _ _ rfl (w.heap.size + 1 + 1 + 1) #[.string ⟨#[]⟩, .slice none 0 0, .int .i64 0, .string ⟨#[]⟩] #[.string X.1, .slice a X.2.1.length cx, .int .i64 X.2.2.1, .string X.2.2.2] (by with_unfolding_all rfl) (by with_unfolding_all rfl) (HAV.out.zs.setRowOther _ (by omega) _) rfl (by kernel_rfl) (by simp [Value.oneCell']) ?_
      refine hK.out _ _ (SNV.out _ ((HNV.out.setRowOther _ (by have := HNb.out; omega) _).setRowOther _ (by have := HNb.out; omega) _) ((HAV.out.s.setRowOther _ (by omega) _).setRowOther _ (by omega) _)) (fun hHeld => ?_)
      clear hK K
      refine take_at (i := 5) (v := ?_) rfl rfl (by kernel_rfl) (by kernel_rfl) (by kernel_rfl) (fun _ _ _ h => h) (Or.inl ⟨by rfl, ?_⟩) (by assumption) ?_
      rotate_left
      · intro w hSw; (try dsimp only at hSw); go_simp; try with_reducible rfl
      try simp only [Act.put, List.setIfInBounds_toArray, List.set_cons_zero, List.set_cons_succ]
      refine wpAnyH_done (by kernel_rfl) (NoPanic.normal ?_) _
      go_wp2_with fail
      obtain ⟨o1, o2, o3, o4⟩ := HAV.out.out HRV.out HDR.out #[.slice (some ⟨r2, 0, none⟩) R.1.1.length c2, .int .i64 R.1.2.1, .bool R.1.2.2.1, .int .i64 R.1.2.2.2] #[.string X.1, .slice a X.2.1.length cx, .int .i64 X.2.2.1, .string X.2.2.2]
      exact bodyPost_rowsTmp rfl (w.heap.size + 1 + 1) (w.heap.size + 1 + 1 + 1) #[.slice (some ⟨r2, 0, none⟩) R.1.1.length c2, .int .i64 R.1.2.1, .bool R.1.2.2.1, .int .i64 R.1.2.2.2] #[.string X.1, .slice a X.2.1.length cx, .int .i64 X.2.2.1, .string X.2.2.2] _ rfl rfl rfl rfl o1 o2 _ _ Tryz.underlying28 rfl (by kernel_rfl) Tryz.underlying30 rfl (by kernel_rfl) ⟨_, _, rfl, ⟨r2, c2, rfl, o3⟩, ⟨a, cx, rfl, strs_set18 HT0.out (strs_set18 HT0.out HAV.out.t _ (by omega) _) _ (by omega) _, HAX.out⟩, o4⟩
  · go_simp
    obtain ⟨w4, hw4⟩ : ∃ w4, w4 = W1.drew := ⟨_, rfl⟩
    have HA4 : Hid (AdS w w4 D X r c a cx) := by rw [hw4]; exact HA1.out.on (Below.refl _ _).drew
    have ezz : W1.heap.size = w4.heap.size := by rw [hw4]; rfl
    have eyy : (W1.alloc (.cells #[.slice none 0 0, .int .i64 0, .bool false, .int .i64 0] 28)).drew = w4.alloc (.cells #[.slice none 0 0, .int .i64 0, .bool false, .int .i64 0] 28) := by rw [hw4]; rfl
    first | rw [eyy, ezz] | rw [← hw4, ezz] | rw [ezz]
    clear hw4 HA1 hS1 ezz eyy
    obtain ⟨nb, hnb⟩ : ∃ nb, nb = w4.heap.size := ⟨_, rfl⟩
    obtain ⟨w3, hw3⟩ : ∃ w3, w3 = w4.alloc (.cells #[.slice none 0 0, .int .i64 0, .bool false, .int .i64 0] 28) := ⟨_, rfl⟩
    have HA3 : Hid (AdS w w3 D X r c a cx) := by rw [hw3]; exact HA4.out.on (below_new _ _)
    have HN3 : Hid (Blk w3 28 nb #[.slice none 0 0, .int .i64 0, .bool false, .int .i64 0]) := by show Blk _ _ _ _; rw [hw3]; exact Blk.new' _ _ _ _ hnb.symm
    have HNb : Hid (w.heap.size + 1 + 1 + 1 < nb) := by have h1 := HA4.out.zs.lt; show w.heap.size + 1 + 1 + 1 < nb; omega
    rw [← hw3, ← hnb]
    clear hw3 hnb HA4
    refine hK.out _ _ HA3.out.cells (fun hHeld => ?_)
    clear hK K
    refine wpAnyH_ready (rs := [5]) (by kernel_rfl) (by simp) ?_
    refine AllReadyH.cons rfl (fun K hK => ?_) AllReadyH.nil
    go_simp
    refine (CT.out _).mono ?_
    rintro e w9 ⟨rfl, hb9⟩
    have HB4 : Hid (AdS w w9 D X r c a cx) := HA3.out.on hb9
    have HN9 : Hid (Blk w9 28 nb #[.slice none 0 0, .int .i64 0, .bool false, .int .i64 0]) := HN3.out.on hb9
    clear HA3 HN3 hb9
    have HA3 := HB4
    have HN3 := HN9
    clear HB4 HN9
    refine hK.out _ _ HA3.out.cells (fun hHeld => ?_)
    clear hK K
    refine wpAnyH_ready (rs := [6]) (by kernel_rfl) (by simp) ?_
    refine AllReadyH.cons rfl (fun K hK => ?_) AllReadyH.nil
    go_simp
    refine (CW.out _ _ HA3.out.devIn).mono ?_
    rintro e w5 ⟨v', rfl, ⟨r2, c2, rfl, hr2⟩, hb5⟩
    unfold devA
    have HA5 : Hid (AdS w w5 D X r c a cx) := HA3.out.on hb5
    have HN5 : Hid (Blk w5 28 nb #[.slice none 0 0, .int .i64 0, .bool false, .int .i64 0]) := HN3.out.on hb5
    clear HA3 HN3 hb5 CW
    refine hK.out _ _ HA5.out.cells (fun hHeld => ?_)
    clear hK K
    refine take_at (i := 7) (v := ?_) rfl rfl (by kernel_rfl) (by kernel_rfl) (by kernel_rfl) (fun _ _ _ h => h) (Or.inl ⟨by rfl, ?_⟩) (by assumption) ?_
    rotate_left
    · intro w hSw; (try dsimp only at hSw); go_simp; try with_reducible rfl
    try simp only [Act.put, List.setIfInBounds_toArray, List.set_cons_zero, List.set_cons_succ]
    refine take_at (i := 8) (v := ?_) rfl rfl (by kernel_rfl) (by kernel_rfl) (by kernel_rfl) (fun _ _ _ h => h) (Or.inl ⟨by rfl, ?_⟩) (by assumption) ?_
    rotate_left
    · intro w hSw; (try dsimp only at hSw); go_simp; try with_reducible rfl
    try simp only [Act.put, List.setIfInBounds_toArray, List.set_cons_zero, List.set_cons_succ]
    refine take_at (i := 9) (v := ?_) rfl rfl (by kernel_rfl) (by kernel_rfl) (by kernel_rfl) (fun _ _ _ h => h) (Or.inl ⟨by rfl, ?_⟩) (by assumption) ?_
    rotate_left
    · intro w hSw; (try dsimp only at hSw); go_simp; try with_reducible rfl
    try simp only [Act.put, List.setIfInBounds_toArray, List.set_cons_zero, List.set_cons_succ]
    obtain ⟨W6, hW6⟩ : ∃ W6, W6 = w5.setRow nb #[.slice (some ⟨r2, 0, none⟩) R.1.1.length c2, .int .i64 R.1.2.1, .bool R.1.2.2.1, .int .i64 R.1.2.2.2] := ⟨_, rfl⟩
    have HA6 : Hid (AdS w W6 D X r c a cx) := by
      rw [hW6]
      have x := HA5.out
      have hn := HNb.out
      exact ⟨x.d.setRowOther _ (by omega) _, x.s.setRowOther _ (by omega) _, x.zd.setRowOther _ (by omega) _, x.zs.setRowOther _ (by omega) _, rd18_setRow x.r (rd18_apart x.r (by have := HD.out.len; have := HN2.out; omega) HN5.out rfl) _, strs_set18 HT0.out x.t _ (by omega) _, below_setRow x.b (by omega) _⟩
    have HN6 : Hid (Blk W6 28 nb #[.slice (some ⟨r2, 0, none⟩) R.1.1.length c2, .int .i64 R.1.2.1, .bool R.1.2.2.1, .int .i64 R.1.2.2.2]) := by show Blk _ _ _ _; rw [hW6]; exact HN5.out.setRow _
    have HR6 : Hid (RowD W6 r2 c2 R.1.1) := by rw [hW6]; exact rd18_setRow hr2 (rd18_apart hr2 (by have := HDR.out; omega) HN5.out rfl) _
    refine wpAnyH_ready (rs := [11]) (by kernel_rfl) (by simp) ?_
    refine AllReadyH.cons rfl (fun K hK => ?_) AllReadyH.nil
    refine step_storeRow rfl rfl 28 _ _ rfl nb #[.slice none 0 0, .int .i64 0, .bool false, .int .i64 0] #[.slice (some ⟨r2, 0, none⟩) R.1.1.length c2, .int .i64 R.1.2.1, .bool R.1.2.2.1, .int .i64 R.1.2.2.2] (by with_unfolding_all rfl) (by with_unfolding_all rfl) HN5.out rfl (by kernel_rfl) (by simp [Value.oneCell']) ?_
    rw [← hW6]
    refine hK.out _ _ HA6.out.cells (fun hHeld => ?_)
    clear hK K
    refine take_at (i := 12) (v := ?_) rfl rfl (by kernel_rfl) (by kernel_rfl) (by kernel_rfl) (fun _ _ _ h => h) (Or.inl ⟨by rfl, ?_⟩) (by assumption) ?_
    rotate_left
    · intro w hSw; (try dsimp only at hSw); go_simp; try with_reducible rfl
    try simp only [Act.put, List.setIfInBounds_toArray, List.set_cons_zero, List.set_cons_succ]
    refine wpAnyH_done (by kernel_rfl) (NoPanic.normal ?_) _
    clear hW6 HA5 HN5 hr2
    go_wp2_with fail
    have SNV : Hid (∀ W, Blk W 28 nb #[.slice (some ⟨r2, 0, none⟩) R.1.1.length c2, .int .i64 R.1.2.1, .bool R.1.2.2.1, .int .i64 R.1.2.2.2] → Blk W 30 (w.heap.size + 1) #[.string X.1, .slice a X.2.1.length cx, .int .i64 X.2.2.1, .string X.2.2.2] → (W.cell? ⟨nb, 0, none⟩ = some (.slice (some ⟨r2, 0, none⟩) R.1.1.length c2) ∧ W.cell? ⟨nb, 1, none⟩ = some (.int .i64 R.1.2.1) ∧ W.cell? ⟨nb, 2, none⟩ = some (.bool R.1.2.2.1) ∧ W.cell? ⟨nb, 3, none⟩ = some (.int .i64 R.1.2.2.2)) ∧ (W.cell? ⟨w.heap.size + 1, 0, none⟩ = some (.string X.1) ∧ W.cell? ⟨w.heap.size + 1, 1, none⟩ = some (.slice a X.2.1.length cx) ∧ W.cell? ⟨w.heap.size + 1, 2, none⟩ = some (.int .i64 X.2.2.1) ∧ W.cell? ⟨w.heap.size + 1, 3, none⟩ = some (.string X.2.2.2))) := fun W x y => ⟨⟨x.cell 0, x.cell 1, x.cell 2, x.cell 3⟩, ⟨y.cell 0, y.cell 1, y.cell 2, y.cell 3⟩⟩
    obtain ⟨V, hV⟩ : ∃ V, V = W6.drew := ⟨_, rfl⟩
    have HAV : Hid (AdS w V D X r c a cx) := by rw [hV]; exact HA6.out.on (Below.refl _ _).drew
    have HNV : Hid (Blk V 28 nb #[.slice (some ⟨r2, 0, none⟩) R.1.1.length c2, .int .i64 R.1.2.1, .bool R.1.2.2.1, .int .i64 R.1.2.2.2]) := by rw [hV]; exact HN6.out.on (Below.refl _ _).drew
    have HRV : Hid (RowD V r2 c2 R.1.1) := by rw [hV]; exact HR6.out.on (Below.refl _ _).drew
    have hS6 := SNV.out _ HNV.out HAV.out.s
    rw [hV] at hS6
    refine wp_region_noPanic ?_
    refine wp_region_held_drew (S := fun W => (W.cell? ⟨nb, 0, none⟩ = some (.slice (some ⟨r2, 0, none⟩) R.1.1.length c2) ∧ W.cell? ⟨nb, 1, none⟩ = some (.int .i64 R.1.2.1) ∧ W.cell? ⟨nb, 2, none⟩ = some (.bool R.1.2.2.1) ∧ W.cell? ⟨nb, 3, none⟩ = some (.int .i64 R.1.2.2.2)) ∧ (W.cell? ⟨w.heap.size + 1, 0, none⟩ = some (.string X.1) ∧ W.cell? ⟨w.heap.size + 1, 1, none⟩ = some (.slice a X.2.1.length cx) ∧ W.cell? ⟨w.heap.size + 1, 2, none⟩ = some (.int .i64 X.2.2.1) ∧ W.cell? ⟨w.heap.size + 1, 3, none⟩ = some (.string X.2.2.2))) (by kernel_rfl) (by first | exact trivial | assumption | exact ⟨by assumption, by assumption⟩) (fun hHeld => ?_)
    refine take_at (i := 0) (v := ?_) rfl rfl (by kernel_rfl) (by kernel_rfl) (by kernel_rfl) (fun _ _ _ h => h) (Or.inl ⟨by rfl, ?_⟩) (by assumption) ?_
    rotate_left
    · intro w hSw; (try dsimp only at hSw); go_simp; try with_reducible rfl
    try simp only [Act.put, List.setIfInBounds_toArray, List.set_cons_zero, List.set_cons_succ]
    refine take_at (i := 1) (v := ?_) rfl rfl (by kernel_rfl) (by kernel_rfl) (by kernel_rfl) (fun _ _ _ h => h) (Or.inl ⟨by rfl, ?_⟩) (by assumption) ?_
    rotate_left
    · intro w hSw; (try dsimp only at hSw); go_simp; try with_reducible rfl
    try simp only [Act.put, List.setIfInBounds_toArray, List.set_cons_zero, List.set_cons_succ]
    refine take_at (i := 2) (v := ?_) rfl rfl (by kernel_rfl) (by kernel_rfl) (by kernel_rfl) (fun _ _ _ h => h) (Or.inl ⟨by rfl, ?_⟩) (by assumption) ?_
    rotate_left
    · intro w hSw; (try dsimp only at hSw); go_simp; try with_reducible rfl
    try simp only [Act.put, List.setIfInBounds_toArray, List.set_cons_zero, List.set_cons_succ]
    rw [← hV]
    refine wpAnyH_ready (rs := [3]) (by kernel_rfl) (by simp) ?_
    refine AllReadyH.cons rfl (fun K hK => ?_) AllReadyH.nil
    refine step_storeRow rfl rfl 28 _ _ rfl (w.heap.size + 1 + 1) #[.slice none 0 0, .int .i64 0, .bool false, .int .i64 0] #[.slice (some ⟨r2, 0, none⟩) R.1.1.length c2, .int .i64 R.1.2.1, .bool R.1.2.2.1, .int .i64 R.1.2.2.2] (by with_unfolding_all rfl) (by with_unfolding_all rfl) HAV.out.zd rfl (by kernel_rfl) (by simp [Value.oneCell']) ?_
    refine hK.out _ _ (SNV.out _ (HNV.out.setRowOther _ (by have := HNb.out; omega) _) (HAV.out.s.setRowOther _ (by omega) _)) (fun hHeld => ?_)
    clear hK K
    refine wpAnyH_ready (rs := [4]) (by kernel_rfl) (by simp) ?_
    refine AllReadyH.cons rfl (fun K hK => ?_) AllReadyH.nil
    refine step_storeRow rfl rfl 30 _ _ rfl (w.heap.size + 1 + 1 + 1) #[.string ⟨#[]⟩, .slice none 0 0, .int .i64 0, .string ⟨#[]⟩] #[.string X.1, .slice a X.2.1.length cx, .int .i64 X.2.2.1, .string X.2.2.2] (by with_unfolding_all rfl) (by with_unfolding_all rfl) (HAV.out.zs.setRowOther _ (by omega) _) rfl (by kernel_rfl) (by simp [Value.oneCell']) ?_
    refine hK.out _ _ (SNV.out _ ((HNV.out.setRowOther _ (by have := HNb.out; omega) _).setRowOther _ (by have := HNb.out; omega) _) ((HAV.out.s.setRowOther _ (by omega) _).setRowOther _ (by omega) _)) (fun hHeld => ?_)
    clear hK K
    refine take_at (i := 5) (v := ?_) rfl rfl (by kernel_rfl) (by kernel_rfl) (by kernel_rfl) (fun _ _ _ h => h) (Or.inl ⟨by rfl, ?_⟩) (by assumption) ?_
    rotate_left
    · intro w hSw; (try dsimp only at hSw); go_simp; try with_reducible rfl
    try simp only [Act.put, List.setIfInBounds_toArray, List.set_cons_zero, List.set_cons_succ]
    refine wpAnyH_done (by kernel_rfl) (NoPanic.normal ?_) _
    go_wp2_with fail
    obtain ⟨o1, o2, o3, o4⟩ := HAV.out.out HRV.out HDR.out #[.slice (some ⟨r2, 0, none⟩) R.1.1.length c2, .int .i64 R.1.2.1, .bool R.1.2.2.1, .int .i64 R.1.2.2.2] #[.string X.1, .slice a X.2.1.length cx, .int .i64 X.2.2.1, .string X.2.2.2]
    exact bodyPost_rowsTmp rfl (w.heap.size + 1 + 1) (w.heap.size + 1 + 1 + 1) #[.slice (some ⟨r2, 0, none⟩) R.1.1.length c2, .int .i64 R.1.2.1, .bool R.1.2.2.1, .int .i64 R.1.2.2.2] #[.string X.1, .slice a X.2.1.length cx, .int .i64 X.2.2.1, .string X.2.2.2] _ rfl rfl rfl rfl o1 o2 _ _ Tryz.underlying28 rfl (by kernel_rfl) Tryz.underlying30 rfl (by kernel_rfl) ⟨_, _, rfl, ⟨r2, c2, rfl, o3⟩, ⟨a, cx, rfl, strs_set18 HT0.out (strs_set18 HT0.out HAV.out.t _ (by omega) _) _ (by omega) _, HAX.out⟩, o4⟩

end Go.Proofs.YtaakmcihpdbilaaGreatDoor

/- Layer 18, the document's: Lay, done. -/
namespace Go.Proofs.YtaakmcihpdbilaaGreatDoor
open Go.RowKit
set_option maxRecDepth 100000
set_option linter.unusedSimpArgs false
set_option maxRecDepth 100000



set_option maxHeartbeats 8000000 in
theorem rlay18_done (D : DevT) (v : Value) (n : Nat) (c0 : Int) (B : Nat) (X : StoT) (u : Value) (t : ByteArray) (w : World) (h : DevIn w v D) (hD : DvO n c0 D) (hn2 : 2 ≤ n) (hn : n ≤ 2048) (hc : c0 < 576460752303423488) (hX : StoIn w B u X) (hO : StO X) (hB : B ≤ w.heap.size) (ht1 : ¬ 32768 < t.size) (ht2 : ¬ 1099511627775 ≤ X.2.2.1) (hroom' : (t.size + 2 + 63) / 64 + 1 ≤ D.1.length / 2) (h0 : (writesP D (X.2.2.1 + 1).toNat 0 (txB t)).2 = 0) :
    Calls Tryz.prog 25 #[v, u, .string t] w fun e w' => ∃ v' u', e = .returned (.tuple #[v', u', .int .i64 (layS D X t).2.2]) ∧ DevIn w' v' (layS D X t).1 ∧ StoIn w' B u' (layS D X t).2.1 ∧ Below w.heap.size w w' := by
  obtain ⟨r, c, rfl, hrow⟩ := h
  obtain ⟨a, cx, rfl, htx, hax⟩ := hX
  unfold devA
  have HA0 : Hid (AdS w _ D X r c a cx) := AdS.new w D X r c a cx hrow htx
  have HO : Hid (StO X) := hO
  have HD : Hid (DvO n c0 D) := hD
  have HAX : Hid (∀ x, a = some x → B ≤ x.block) := hax
  have HB : Hid (B ≤ w.heap.size) := hB
  have HT0 : Hid (StrsAt w a X.2.1.length X.2.1) := htx
  have HN2 : Hid (2 ≤ n) := hn2
  clear hrow htx hD hO hax
  obtain ⟨W0, hW0⟩ : ∃ W0, (((w.alloc (.cells #[.slice (some ⟨r, 0, none⟩) D.1.length c, .int .i64 D.2.1, .bool D.2.2.1, .int .i64 D.2.2.2] 28)).alloc (.cells #[.string X.1, .slice a X.2.1.length cx, .int .i64 X.2.2.1, .string X.2.2.2] 30)).alloc (.cells #[.slice none 0 0, .int .i64 0, .bool false, .int .i64 0] 28)).alloc (.cells #[.string ⟨#[]⟩, .slice none 0 0, .int .i64 0, .string ⟨#[]⟩] 30) = W0 := ⟨_, rfl⟩
  rw [hW0] at HA0
  have HA := HA0
  clear HA0
  have q1 : decide ((32768 : Int) < (t.size : Int)) = false := decide_eq_false (by omega)
  have q2 : decide ((1099511627775 : Int) ≤ X.2.2.1) = false := decide_eq_false ht2
  obtain ⟨T, HTx⟩ : ∃ T, Hid (txB t = T) := ⟨_, rfl⟩
  have hTs : Hid (T.size = t.size + 2) := by rw [← HTx.out]; exact txB_size t
  have CT : Hid (∀ W, Calls Tryz.prog 41 #[.string t] W fun e w' => e = .returned (.string T) ∧ Below W.heap.size W w') := by rw [← HTx.out]; exact fun W => rtext18_any t W (by omega)
  have CR : Hid (∀ W v, DevIn W v D → Calls Tryz.prog 40 #[v, .string T] W fun e w' => e = .returned (.bool (decide ((T.size + 63) / 64 + 1 ≤ D.1.length / 2))) ∧ Below W.heap.size W w') := fun W v hv => rroom18_any D v T W hv (by have := HD.out.len; omega) (by have h2 := hTs.out; omega)
  have hroom : (T.size + 63) / 64 + 1 ≤ D.1.length / 2 := by rw [hTs.out]; exact hroom'
  obtain ⟨tn, htn⟩ : ∃ tn : Nat, X.2.2.1 + 1 = (tn : Int) := ⟨(X.2.2.1 + 1).toNat, by have := HO.out.t0; omega⟩
  obtain ⟨R, HR⟩ : ∃ R, Hid (writesP D tn 0 T = R) := ⟨_, rfl⟩
  have CW : Hid (∀ W v, DevIn W v D → Calls Tryz.prog 42 #[v, .int .i64 (X.2.2.1 + 1), .int .i64 0, .string T] W fun e w' => ∃ v', e = .returned (.tuple #[v', .int .i64 R.2]) ∧ DevIn w' v' R.1 ∧ Below W.heap.size W w') := fun W v hv => by
    have := rwrites18_any D v n c0 tn 0 T W hv HD.out hn hc (by rw [← HD.out.len]; exact hroom) (Nat.zero_le _) (by have := HO.out.t1; omega)
    rw [HR.out] at this
    rw [htn]
    exact this
  have HDR : Hid (2 ≤ R.1.1.length) := by
    have := writesP_len D tn 0 T
    rw [HR.out, HD.out.len] at this
    show 2 ≤ R.1.1.length; rw [this]; exact HN2.out
  have eR : writesP D (X.2.2.1 + 1).toNat 0 (txB t) = R := by rw [htn, Int.toNat_natCast, HTx.out, HR.out]
  rw [eR] at h0
  have HAd : Hid (layS D X t = if R.2 = 0 then (R.1, (t, [], X.2.2.1 + 1, T), 0) else (R.1, X, R.2)) := by
    show _ = _
    unfold layS
    rw [if_neg (by rintro (e | e | e); · exact ht1 e
                   · exact ht2 e
                   · exact e hroom'), eR, HTx.out]
  have wt : IntKind.i64.wrap (X.2.2.1 + 1) = X.2.2.1 + 1 := by have h1 := HO.out.t0; have h2 := HO.out.t1; rw [IntKind.wrap_i64]; omega
  have qR : decide ((T.size + 63) / 64 + 1 ≤ D.1.length / 2) = true := decide_eq_true hroom
  rw [qR] at CR
  clear hroom hroom' qR ht2 htn HR eR
  have g0 : (R.2 != 0) = false := by rw [bne_eq_false_iff_eq]; exact h0
  have e9 : layS D X t = (R.1, (t, [], X.2.2.1 + 1, T), 0) := by rw [HAd.out, if_pos h0]
  rw [e9]
  clear HAd h0
  have hS0 := (HA.out.on (Below.refl _ _).drew).cells
  go_enter Tryz.func25, Tryz.ntmps25
  go_wp2_with fail
  refine wp_region_noPanic ?_
  refine wp_region_held_drew (S := fun W => (W.cell? ⟨w.heap.size, 0, none⟩ = some (.slice (some ⟨r, 0, none⟩) D.1.length c) ∧ W.cell? ⟨w.heap.size, 1, none⟩ = some (.int .i64 D.2.1) ∧ W.cell? ⟨w.heap.size, 2, none⟩ = some (.bool D.2.2.1) ∧ W.cell? ⟨w.heap.size, 3, none⟩ = some (.int .i64 D.2.2.2)) ∧ (W.cell? ⟨w.heap.size + 1, 0, none⟩ = some (.string X.1) ∧ W.cell? ⟨w.heap.size + 1, 1, none⟩ = some (.slice a X.2.1.length cx) ∧ W.cell? ⟨w.heap.size + 1, 2, none⟩ = some (.int .i64 X.2.2.1) ∧ W.cell? ⟨w.heap.size + 1, 3, none⟩ = some (.string X.2.2.2))) (by kernel_rfl) (by first | exact trivial | assumption | exact ⟨by assumption, by assumption⟩) (fun hHeld => ?_)
  refine take_at (i := 0) (v := ?_) rfl rfl (by kernel_rfl) (by kernel_rfl) (by kernel_rfl) (fun _ _ _ h => h) (Or.inl ⟨by rfl, ?_⟩) (by assumption) ?_
  rotate_left
  · intro w hSw; (try dsimp only at hSw); go_simp; try with_reducible rfl
  try simp only [Act.put, List.setIfInBounds_toArray, List.set_cons_zero, List.set_cons_succ]
  refine take_at (i := 1) (v := ?_) rfl rfl (by kernel_rfl) (by kernel_rfl) (by kernel_rfl) (fun _ _ _ h => h) (Or.inl ⟨by rfl, ?_⟩) (by assumption) ?_
  rotate_left
  · intro w hSw; (try dsimp only at hSw); go_simp; try with_reducible rfl
  try simp only [Act.put, List.setIfInBounds_toArray, List.set_cons_zero, List.set_cons_succ]
  refine take_at (i := 2) (v := ?_) rfl rfl (by kernel_rfl) (by kernel_rfl) (by kernel_rfl) (fun _ _ _ h => h) (Or.inl ⟨by rfl, ?_⟩) (by assumption) ?_
  rotate_left
  · intro w hSw; (try dsimp only at hSw); go_simp; try with_reducible rfl
  try simp only [Act.put, List.setIfInBounds_toArray, List.set_cons_zero, List.set_cons_succ]
  refine take_at (i := 3) (v := ?_) rfl rfl (by kernel_rfl) (by kernel_rfl) (by kernel_rfl) (fun _ _ _ h => h) (Or.inl ⟨by rfl, ?_⟩) (by assumption) ?_
  rotate_left
  · intro w hSw; (try dsimp only at hSw); go_simp; try with_reducible rfl
  try simp only [Act.put, List.setIfInBounds_toArray, List.set_cons_zero, List.set_cons_succ]
  refine take_at (i := 4) (v := ?_) rfl rfl (by kernel_rfl) (by kernel_rfl) (by kernel_rfl) (fun _ _ _ h => h) (Or.inl ⟨by rfl, ?_⟩) (by assumption) ?_
  rotate_left
  · intro w hSw; (try dsimp only at hSw); go_simp; try with_reducible rfl
  try simp only [Act.put, List.setIfInBounds_toArray, List.set_cons_zero, List.set_cons_succ]
  refine take_at (i := 5) (v := ?_) rfl rfl (by kernel_rfl) (by kernel_rfl) (by kernel_rfl) (fun _ _ _ h => h) (Or.inl ⟨by rfl, ?_⟩) (by assumption) ?_
  rotate_left
  · intro w hSw; (try dsimp only at hSw); go_simp; try with_reducible rfl
  try simp only [Act.put, List.setIfInBounds_toArray, List.set_cons_zero, List.set_cons_succ]
  refine take_at (i := 6) (v := ?_) rfl rfl (by kernel_rfl) (by kernel_rfl) (by kernel_rfl) (fun _ _ _ h => h) (Or.inl ⟨by rfl, ?_⟩) (by assumption) ?_
  rotate_left
  · intro w hSw; (try dsimp only at hSw); go_simp; try with_reducible rfl
  try simp only [Act.put, List.setIfInBounds_toArray, List.set_cons_zero, List.set_cons_succ]
  refine take_at (i := 7) (v := ?_) rfl rfl (by kernel_rfl) (by kernel_rfl) (by kernel_rfl) (fun _ _ _ h => h) (Or.inl ⟨by rfl, ?_⟩) (by assumption) ?_
  rotate_left
  · intro w hSw; (try dsimp only at hSw); go_simp; try with_reducible rfl
  try simp only [Act.put, List.setIfInBounds_toArray, List.set_cons_zero, List.set_cons_succ]
  refine take_at (i := 8) (v := ?_) rfl rfl (by kernel_rfl) (by kernel_rfl) (by kernel_rfl) (fun _ _ _ h => h) (Or.inl ⟨by rfl, ?_⟩) (by assumption) ?_
  rotate_left
  · intro w hSw; (try dsimp only at hSw); go_simp; try with_reducible rfl
  try simp only [Act.put, List.setIfInBounds_toArray, List.set_cons_zero, List.set_cons_succ]
  refine take_at (i := 9) (v := ?_) rfl rfl (by kernel_rfl) (by kernel_rfl) (by kernel_rfl) (fun _ _ _ h => h) (Or.inl ⟨by rfl, ?_⟩) (by assumption) ?_
  rotate_left
  · intro w hSw; (try dsimp only at hSw); go_simp; try with_reducible rfl
  try simp only [Act.put, List.setIfInBounds_toArray, List.set_cons_zero, List.set_cons_succ]
  refine take_at (i := 10) (v := ?_) rfl rfl (by kernel_rfl) (by kernel_rfl) (by kernel_rfl) (fun _ _ _ h => h) (Or.inl ⟨by rfl, ?_⟩) (by assumption) ?_
  rotate_left
  · intro w hSw; (try dsimp only at hSw); go_simp; try with_reducible rfl
  try simp only [Act.put, List.setIfInBounds_toArray, List.set_cons_zero, List.set_cons_succ]
  refine wpAnyH_ready (rs := [11]) (by kernel_rfl) (by simp) ?_
  refine AllReadyH.cons rfl (fun K hK => ?_) AllReadyH.nil
  go_simp
  refine (CT.out _).mono ?_
  rintro e w2 ⟨rfl, hb2⟩
  have HA2 : Hid (AdS w w2 D X r c a cx) := (HA.out.on (Below.refl _ _).drew).on hb2
  clear HA hb2
  refine hK.out _ _ HA2.out.cells (fun hHeld => ?_)
  clear hK K
  refine wpAnyH_ready (rs := [12]) (by kernel_rfl) (by simp) ?_
  refine AllReadyH.cons rfl (fun K hK => ?_) AllReadyH.nil
  go_simp
  refine (CR.out _ _ HA2.out.devIn).mono ?_
  rintro e W1 ⟨rfl, hb3⟩
  have HA1 : Hid (AdS w W1 D X r c a cx) := HA2.out.on hb3
  clear HA2 hb3 CR
  refine hK.out _ _ HA1.out.cells (fun hHeld => ?_)
  clear hK K
  refine take_at (i := 13) (v := ?_) rfl rfl (by kernel_rfl) (by kernel_rfl) (by kernel_rfl) (fun _ _ _ h => h) (Or.inl ⟨by rfl, ?_⟩) (by assumption) ?_
  rotate_left
  · intro w hSw; (try dsimp only at hSw); go_simp; try with_reducible rfl
  try simp only [Act.put, List.setIfInBounds_toArray, List.set_cons_zero, List.set_cons_succ]
  refine take_at (i := 14) (v := ?_) rfl rfl (by kernel_rfl) (by kernel_rfl) (by kernel_rfl) (fun _ _ _ h => h) (Or.inl ⟨by rfl, ?_⟩) (by assumption) ?_
  rotate_left
  · intro w hSw; (try dsimp only at hSw); go_simp; try with_reducible rfl
  try simp only [Act.put, List.setIfInBounds_toArray, List.set_cons_zero, List.set_cons_succ]
  refine wpAnyH_done (by kernel_rfl) (NoPanic.normal ?_) _
  clear hS0
  go_wp2_with fail
  have hS1 := (HA1.out.on (Below.refl _ _).drew).cells
  refine wp_region_noPanic ?_
  refine wp_region_held_drew (S := fun W => (W.cell? ⟨w.heap.size, 0, none⟩ = some (.slice (some ⟨r, 0, none⟩) D.1.length c) ∧ W.cell? ⟨w.heap.size, 1, none⟩ = some (.int .i64 D.2.1) ∧ W.cell? ⟨w.heap.size, 2, none⟩ = some (.bool D.2.2.1) ∧ W.cell? ⟨w.heap.size, 3, none⟩ = some (.int .i64 D.2.2.2)) ∧ (W.cell? ⟨w.heap.size + 1, 0, none⟩ = some (.string X.1) ∧ W.cell? ⟨w.heap.size + 1, 1, none⟩ = some (.slice a X.2.1.length cx) ∧ W.cell? ⟨w.heap.size + 1, 2, none⟩ = some (.int .i64 X.2.2.1) ∧ W.cell? ⟨w.heap.size + 1, 3, none⟩ = some (.string X.2.2.2))) (by kernel_rfl) (by first | exact trivial | assumption | exact ⟨by assumption, by assumption⟩) (fun hHeld => ?_)
  refine take_at (i := 0) (v := ?_) rfl rfl (by kernel_rfl) (by kernel_rfl) (by kernel_rfl) (fun _ _ _ h => h) (Or.inl ⟨by rfl, ?_⟩) (by assumption) ?_
  rotate_left
  · intro w hSw; (try dsimp only at hSw); go_simp; try with_reducible rfl
  try simp only [Act.put, List.setIfInBounds_toArray, List.set_cons_zero, List.set_cons_succ]
  refine take_at (i := 1) (v := ?_) rfl rfl (by kernel_rfl) (by kernel_rfl) (by kernel_rfl) (fun _ _ _ h => h) (Or.inl ⟨by rfl, ?_⟩) (by assumption) ?_
  rotate_left
  · intro w hSw; (try dsimp only at hSw); go_simp; try with_reducible rfl
  try simp only [Act.put, List.setIfInBounds_toArray, List.set_cons_zero, List.set_cons_succ]
  refine take_at (i := 2) (v := ?_) rfl rfl (by kernel_rfl) (by kernel_rfl) (by kernel_rfl) (fun _ _ _ h => h) (Or.inl ⟨by rfl, ?_⟩) (by assumption) ?_
  rotate_left
  · intro w hSw; (try dsimp only at hSw); go_simp; try with_reducible rfl
  try simp only [Act.put, List.setIfInBounds_toArray, List.set_cons_zero, List.set_cons_succ]
  refine take_at (i := 3) (v := ?_) rfl rfl (by kernel_rfl) (by kernel_rfl) (by kernel_rfl) (fun _ _ _ h => h) (Or.inl ⟨by rfl, ?_⟩) (by assumption) ?_
  rotate_left
  · intro w hSw; (try dsimp only at hSw); go_simp; try with_reducible rfl
  try simp only [Act.put, List.setIfInBounds_toArray, List.set_cons_zero, List.set_cons_succ]
  refine take_at (i := 4) (v := ?_) rfl rfl (by kernel_rfl) (by kernel_rfl) (by kernel_rfl) (fun _ _ _ h => h) (Or.inl ⟨by rfl, ?_⟩) (by assumption) ?_
  rotate_left
  · intro w hSw; (try dsimp only at hSw); go_simp; try with_reducible rfl
  try simp only [Act.put, List.setIfInBounds_toArray, List.set_cons_zero, List.set_cons_succ]
  refine wpAnyH_ready (rs := [5, 10]) (by kernel_rfl) (by simp) ?_
  refine AllReadyH.cons rfl (fun K hK => ?_) (AllReadyH.cons rfl (fun K hK => ?_) AllReadyH.nil)
  · go_simp
    refine (CT.out _).mono ?_
    rintro e w4 ⟨rfl, hb4⟩
    have HA4 : Hid (AdS w w4 D X r c a cx) := (HA1.out.on (Below.refl _ _).drew).on hb4
    clear HA1 hb4 hS1
    refine hK.out _ _ HA4.out.cells (fun hHeld => ?_)
    clear hK K
    refine wpAnyH_ready (rs := [6, 10]) (by kernel_rfl) (by simp) ?_
    refine AllReadyH.cons rfl (fun K hK => ?_) (AllReadyH.cons rfl (fun K hK => ?_) AllReadyH.nil)
    · go_simp
      refine (CW.out _ _ HA4.out.devIn).mono ?_
      rintro e w5 ⟨v', rfl, ⟨r2, c2, rfl, hr2⟩, hb5⟩
      unfold devA
      have HA5 : Hid (AdS w w5 D X r c a cx) := HA4.out.on hb5
      clear HA4 hb5 CW
      refine hK.out _ _ HA5.out.cells (fun hHeld => ?_)
      clear hK K
      refine take_at (i := 7) (v := ?_) rfl rfl (by kernel_rfl) (by kernel_rfl) (by kernel_rfl) (fun _ _ _ h => h) (Or.inl ⟨by rfl, ?_⟩) (by assumption) ?_
      rotate_left
      · intro w hSw; (try dsimp only at hSw); go_simp; try with_reducible rfl
      try simp only [Act.put, List.setIfInBounds_toArray, List.set_cons_zero, List.set_cons_succ]
      refine take_at (i := 8) (v := ?_) rfl rfl (by kernel_rfl) (by kernel_rfl) (by kernel_rfl) (fun _ _ _ h => h) (Or.inl ⟨by rfl, ?_⟩) (by assumption) ?_
      rotate_left
      · intro w hSw; (try dsimp only at hSw); go_simp; try with_reducible rfl
      try simp only [Act.put, List.setIfInBounds_toArray, List.set_cons_zero, List.set_cons_succ]
      refine take_at (i := 9) (v := ?_) rfl rfl (by kernel_rfl) (by kernel_rfl) (by kernel_rfl) (fun _ _ _ h => h) (Or.inl ⟨by rfl, ?_⟩) (by assumption) ?_
      rotate_left
      · intro w hSw; (try dsimp only at hSw); go_simp; try with_reducible rfl
      try simp only [Act.put, List.setIfInBounds_toArray, List.set_cons_zero, List.set_cons_succ]
      refine wpAnyH_ready (rs := [10]) (by kernel_rfl) (by simp) ?_
      refine AllReadyH.cons rfl (fun K hK => ?_) AllReadyH.nil
      go_simp
      refine hK.out _ _ ((HA5.out.on (below_new _ _)).cells) (fun hHeld => ?_)
      clear hK K
      refine wpAnyH_ready (rs := [11]) (by kernel_rfl) (by simp) ?_
      refine AllReadyH.cons rfl (fun K hK => ?_) AllReadyH.nil
      go_simp
      refine hK.out _ _ ((HA5.out.on (below_new _ _)).cells) (fun hHeld => ?_)
      clear hK K
      refine take_at (i := 12) (v := ?_) rfl rfl (by kernel_rfl) (by kernel_rfl) (by kernel_rfl) (fun _ _ _ h => h) (Or.inl ⟨by rfl, ?_⟩) (by assumption) ?_
      rotate_left
      · intro w hSw; (try dsimp only at hSw); go_simp; try with_reducible rfl
      try simp only [Act.put, List.setIfInBounds_toArray, List.set_cons_zero, List.set_cons_succ]
      refine wpAnyH_done (by kernel_rfl) (NoPanic.normal ?_) _
      obtain ⟨nb, hnb⟩ : ∃ nb, nb = w5.heap.size := ⟨_, rfl⟩
      obtain ⟨W6, hW6⟩ : ∃ W6, W6 = w5.alloc (.cells #[.slice (some ⟨r2, 0, none⟩) R.1.1.length c2, .int .i64 R.1.2.1, .bool R.1.2.2.1, .int .i64 R.1.2.2.2] 28) := ⟨_, rfl⟩
      have HA6 : Hid (AdS w W6 D X r c a cx) := by rw [hW6]; exact HA5.out.on (below_new _ _)
      have HN6 : Hid (Blk W6 28 nb #[.slice (some ⟨r2, 0, none⟩) R.1.1.length c2, .int .i64 R.1.2.1, .bool R.1.2.2.1, .int .i64 R.1.2.2.2]) := by show Blk _ _ _ _; rw [hW6]; exact Blk.new' _ _ _ _ hnb.symm
      have HR6 : Hid (RowD W6 r2 c2 R.1.1) := by rw [hW6]; exact hr2.on (below_new _ _)
      have HNb : Hid (w.heap.size + 1 + 1 + 1 < nb) := by have h1 := HA5.out.zs.lt; show w.heap.size + 1 + 1 + 1 < nb; omega
      rw [← hW6, ← hnb]
      clear hW6 hnb HA5 hr2
      go_wp2_with fail
      have SNV : Hid (∀ W, Blk W 28 nb #[.slice (some ⟨r2, 0, none⟩) R.1.1.length c2, .int .i64 R.1.2.1, .bool R.1.2.2.1, .int .i64 R.1.2.2.2] → Blk W 30 (w.heap.size + 1) #[.string X.1, .slice a X.2.1.length cx, .int .i64 X.2.2.1, .string X.2.2.2] → (W.cell? ⟨nb, 0, none⟩ = some (.slice (some ⟨r2, 0, none⟩) R.1.1.length c2) ∧ W.cell? ⟨nb, 1, none⟩ = some (.int .i64 R.1.2.1) ∧ W.cell? ⟨nb, 2, none⟩ = some (.bool R.1.2.2.1) ∧ W.cell? ⟨nb, 3, none⟩ = some (.int .i64 R.1.2.2.2)) ∧ (W.cell? ⟨w.heap.size + 1, 0, none⟩ = some (.string X.1) ∧ W.cell? ⟨w.heap.size + 1, 1, none⟩ = some (.slice a X.2.1.length cx) ∧ W.cell? ⟨w.heap.size + 1, 2, none⟩ = some (.int .i64 X.2.2.1) ∧ W.cell? ⟨w.heap.size + 1, 3, none⟩ = some (.string X.2.2.2))) := fun W x y => ⟨⟨x.cell 0, x.cell 1, x.cell 2, x.cell 3⟩, ⟨y.cell 0, y.cell 1, y.cell 2, y.cell 3⟩⟩
      have hS6 := SNV.out _ (HN6.out.on (Below.refl _ _).drew) (HA6.out.s.on (Below.refl _ _).drew)
      refine wp_region_noPanic ?_
      refine wp_region_held_drew (S := fun W => (W.cell? ⟨nb, 0, none⟩ = some (.slice (some ⟨r2, 0, none⟩) R.1.1.length c2) ∧ W.cell? ⟨nb, 1, none⟩ = some (.int .i64 R.1.2.1) ∧ W.cell? ⟨nb, 2, none⟩ = some (.bool R.1.2.2.1) ∧ W.cell? ⟨nb, 3, none⟩ = some (.int .i64 R.1.2.2.2)) ∧ (W.cell? ⟨w.heap.size + 1, 0, none⟩ = some (.string X.1) ∧ W.cell? ⟨w.heap.size + 1, 1, none⟩ = some (.slice a X.2.1.length cx) ∧ W.cell? ⟨w.heap.size + 1, 2, none⟩ = some (.int .i64 X.2.2.1) ∧ W.cell? ⟨w.heap.size + 1, 3, none⟩ = some (.string X.2.2.2))) (by kernel_rfl) (by first | exact trivial | assumption | exact ⟨by assumption, by assumption⟩) (fun hHeld => ?_)
      refine take_at (i := 0) (v := ?_) rfl rfl (by kernel_rfl) (by kernel_rfl) (by kernel_rfl) (fun _ _ _ h => h) (Or.inl ⟨by rfl, ?_⟩) (by assumption) ?_
      rotate_left
      · intro w hSw; (try dsimp only at hSw); go_simp; try with_reducible rfl
      try simp only [Act.put, List.setIfInBounds_toArray, List.set_cons_zero, List.set_cons_succ]
      refine take_at (i := 1) (v := ?_) rfl rfl (by kernel_rfl) (by kernel_rfl) (by kernel_rfl) (fun _ _ _ h => h) (Or.inl ⟨by rfl, ?_⟩) (by assumption) ?_
      rotate_left
      · intro w hSw; (try dsimp only at hSw); go_simp; try with_reducible rfl
      try simp only [Act.put, List.setIfInBounds_toArray, List.set_cons_zero, List.set_cons_succ]
      refine take_at (i := 2) (v := ?_) rfl rfl (by kernel_rfl) (by kernel_rfl) (by kernel_rfl) (fun _ _ _ h => h) (Or.inl ⟨by rfl, ?_⟩) (by assumption) ?_
      rotate_left
      · intro w hSw; (try dsimp only at hSw); go_simp; try with_reducible rfl
      try simp only [Act.put, List.setIfInBounds_toArray, List.set_cons_zero, List.set_cons_succ]
      refine take_at (i := 3) (v := ?_) rfl rfl (by kernel_rfl) (by kernel_rfl) (by kernel_rfl) (fun _ _ _ h => h) (Or.inl ⟨by rfl, ?_⟩) (by assumption) ?_
      rotate_left
      · intro w hSw; (try dsimp only at hSw); go_simp; try with_reducible rfl
      try simp only [Act.put, List.setIfInBounds_toArray, List.set_cons_zero, List.set_cons_succ]
      refine take_at (i := 4) (v := ?_) rfl rfl (by kernel_rfl) (by kernel_rfl) (by kernel_rfl) (fun _ _ _ h => h) (Or.inl ⟨by rfl, ?_⟩) (by assumption) ?_
      rotate_left
      · intro w hSw; (try dsimp only at hSw); go_simp; try with_reducible rfl
      try simp only [Act.put, List.setIfInBounds_toArray, List.set_cons_zero, List.set_cons_succ]
      refine take_at (i := 5) (v := ?_) rfl rfl (by kernel_rfl) (by kernel_rfl) (by kernel_rfl) (fun _ _ _ h => h) (Or.inl ⟨by rfl, ?_⟩) (by assumption) ?_
      rotate_left
      · intro w hSw; (try dsimp only at hSw); go_simp; try with_reducible rfl
      try simp only [Act.put, List.setIfInBounds_toArray, List.set_cons_zero, List.set_cons_succ]
      refine wpAnyH_ready (rs := [6]) (by kernel_rfl) (by simp) ?_
      refine AllReadyH.cons rfl (fun K hK => ?_) AllReadyH.nil
      go_simp
      refine (CT.out _).mono ?_
      rintro e V ⟨rfl, hb7⟩
      have HBV : Hid (Below W6.heap.size W6 V) := below_step (Below.refl _ _).drew (Nat.le_refl _) hb7
      have HAV : Hid (AdS w V D X r c a cx) := HA6.out.on HBV.out
      have HNV : Hid (Blk V 28 nb #[.slice (some ⟨r2, 0, none⟩) R.1.1.length c2, .int .i64 R.1.2.1, .bool R.1.2.2.1, .int .i64 R.1.2.2.2]) := HN6.out.on HBV.out
      have HRV : Hid (RowD V r2 c2 R.1.1) := HR6.out.on HBV.out
      clear hb7 HBV
      refine hK.out _ _ (SNV.out _ HNV.out HAV.out.s) (fun hHeld => ?_)
      clear hK K
      refine take_at (i := 7) (v := ?_) rfl rfl (by kernel_rfl) (by kernel_rfl) (by kernel_rfl) (fun _ _ _ h => h) (Or.inl ⟨by rfl, ?_⟩) (by assumption) ?_
      rotate_left
      · intro w hSw; (try dsimp only at hSw); go_simp; try with_reducible rfl
      try simp only [Act.put, List.setIfInBounds_toArray, List.set_cons_zero, List.set_cons_succ]
      refine wpAnyH_ready (rs := [8]) (by kernel_rfl) (by simp) ?_
      refine AllReadyH.cons rfl (fun K hK => ?_) AllReadyH.nil
      refine step_storeRow rfl rfl 28 _ _ rfl (w.heap.size + 1 + 1) #[.slice none 0 0, .int .i64 0, .bool false, .int .i64 0] #[.slice (some ⟨r2, 0, none⟩) R.1.1.length c2, .int .i64 R.1.2.1, .bool R.1.2.2.1, .int .i64 R.1.2.2.2] (by with_unfolding_all rfl) (by with_unfolding_all rfl) HAV.out.zd rfl (by kernel_rfl) (by simp [Value.oneCell']) ?_
      refine hK.out _ _ (SNV.out _ (HNV.out.setRowOther _ (by have := HNb.out; omega) _) (HAV.out.s.setRowOther _ (by omega) _)) (fun hHeld => ?_)
      clear hK K
      refine wpAnyH_ready (rs := [9]) (by kernel_rfl) (by simp) ?_
      refine AllReadyH.cons rfl (fun K hK => ?_) AllReadyH.nil
      refine step_storeRow rfl rfl 30 _ _ rfl (w.heap.size + 1 + 1 + 1) #[.string ⟨#[]⟩, .slice none 0 0, .int .i64 0, .string ⟨#[]⟩] #[.string t, .slice none 0 0, .int .i64 (X.2.2.1 + 1), .string T] (by with_unfolding_all rfl) (by with_unfolding_all rfl) (HAV.out.zs.setRowOther _ (by omega) _) rfl (by kernel_rfl) (by simp [Value.oneCell']) ?_
      refine hK.out _ _ (SNV.out _ ((HNV.out.setRowOther _ (by have := HNb.out; omega) _).setRowOther _ (by have := HNb.out; omega) _) ((HAV.out.s.setRowOther _ (by omega) _).setRowOther _ (by omega) _)) (fun hHeld => ?_)
      clear hK K
      refine take_at (i := 10) (v := ?_) rfl rfl (by kernel_rfl) (by kernel_rfl) (by kernel_rfl) (fun _ _ _ h => h) (Or.inl ⟨by rfl, ?_⟩) (by assumption) ?_
      rotate_left
      · intro w hSw; (try dsimp only at hSw); go_simp; try with_reducible rfl
      try simp only [Act.put, List.setIfInBounds_toArray, List.set_cons_zero, List.set_cons_succ]
      refine wpAnyH_done (by kernel_rfl) (NoPanic.normal ?_) _
      go_wp2_with fail
      obtain ⟨o1, o2, o3, o4⟩ := HAV.out.out HRV.out HDR.out #[.slice (some ⟨r2, 0, none⟩) R.1.1.length c2, .int .i64 R.1.2.1, .bool R.1.2.2.1, .int .i64 R.1.2.2.2] #[.string t, .slice none 0 0, .int .i64 (X.2.2.1 + 1), .string T]
      exact bodyPost_rowsTmp rfl (w.heap.size + 1 + 1) (w.heap.size + 1 + 1 + 1) #[.slice (some ⟨r2, 0, none⟩) R.1.1.length c2, .int .i64 R.1.2.1, .bool R.1.2.2.1, .int .i64 R.1.2.2.2] #[.string t, .slice none 0 0, .int .i64 (X.2.2.1 + 1), .string T] (.int .i64 0) rfl rfl rfl rfl o1 o2 _ _ Tryz.underlying28 rfl (by kernel_rfl) Tryz.underlying30 rfl (by kernel_rfl) ⟨_, _, rfl, ⟨r2, c2, rfl, o3⟩, ⟨none, 0, rfl, ⟨rfl, .inl rfl⟩, fun x hx => by cases hx⟩, o4⟩
    · go_simp
      obtain ⟨nb, hnb⟩ : ∃ nb, nb = w4.heap.size := ⟨_, rfl⟩
      obtain ⟨w3, hw3⟩ : ∃ w3, w3 = w4.alloc (.cells #[.slice none 0 0, .int .i64 0, .bool false, .int .i64 0] 28) := ⟨_, rfl⟩
      have HA3 : Hid (AdS w w3 D X r c a cx) := by rw [hw3]; exact HA4.out.on (below_new _ _)
      have HN3 : Hid (Blk w3 28 nb #[.slice none 0 0, .int .i64 0, .bool false, .int .i64 0]) := by show Blk _ _ _ _; rw [hw3]; exact Blk.new' _ _ _ _ hnb.symm
      have HNb : Hid (w.heap.size + 1 + 1 + 1 < nb) := by have h1 := HA4.out.zs.lt; show w.heap.size + 1 + 1 + 1 < nb; omega
      rw [← hw3, ← hnb]
      clear hw3 hnb HA4
      refine hK.out _ _ HA3.out.cells (fun hHeld => ?_)
      clear hK K
      refine wpAnyH_ready (rs := [6]) (by kernel_rfl) (by simp) ?_
      refine AllReadyH.cons rfl (fun K hK => ?_) AllReadyH.nil
      go_simp
      refine (CW.out _ _ HA3.out.devIn).mono ?_
      rintro e w5 ⟨v', rfl, ⟨r2, c2, rfl, hr2⟩, hb5⟩
      unfold devA
      have HA5 : Hid (AdS w w5 D X r c a cx) := HA3.out.on hb5
      have HN5 : Hid (Blk w5 28 nb #[.slice none 0 0, .int .i64 0, .bool false, .int .i64 0]) := HN3.out.on hb5
      clear HA3 HN3 hb5 CW
      refine hK.out _ _ HA5.out.cells (fun hHeld => ?_)
      clear hK K
      refine take_at (i := 7) (v := ?_) rfl rfl (by kernel_rfl) (by kernel_rfl) (by kernel_rfl) (fun _ _ _ h => h) (Or.inl ⟨by rfl, ?_⟩) (by assumption) ?_
      rotate_left
      · intro w hSw; (try dsimp only at hSw); go_simp; try with_reducible rfl
      try simp only [Act.put, List.setIfInBounds_toArray, List.set_cons_zero, List.set_cons_succ]
      refine take_at (i := 8) (v := ?_) rfl rfl (by kernel_rfl) (by kernel_rfl) (by kernel_rfl) (fun _ _ _ h => h) (Or.inl ⟨by rfl, ?_⟩) (by assumption) ?_
      rotate_left
      · intro w hSw; (try dsimp only at hSw); go_simp; try with_reducible rfl
      try simp only [Act.put, List.setIfInBounds_toArray, List.set_cons_zero, List.set_cons_succ]
      refine take_at (i := 9) (v := ?_) rfl rfl (by kernel_rfl) (by kernel_rfl) (by kernel_rfl) (fun _ _ _ h => h) (Or.inl ⟨by rfl, ?_⟩) (by assumption) ?_
      rotate_left
      · intro w hSw; (try dsimp only at hSw); go_simp; try with_reducible rfl
      try simp only [Act.put, List.setIfInBounds_toArray, List.set_cons_zero, List.set_cons_succ]
      obtain ⟨W6, hW6⟩ : ∃ W6, W6 = w5.setRow nb #[.slice (some ⟨r2, 0, none⟩) R.1.1.length c2, .int .i64 R.1.2.1, .bool R.1.2.2.1, .int .i64 R.1.2.2.2] := ⟨_, rfl⟩
      have HA6 : Hid (AdS w W6 D X r c a cx) := by
        rw [hW6]
        have x := HA5.out
        have hn := HNb.out
        exact ⟨x.d.setRowOther _ (by omega) _, x.s.setRowOther _ (by omega) _, x.zd.setRowOther _ (by omega) _, x.zs.setRowOther _ (by omega) _, rd18_setRow x.r (rd18_apart x.r (by have := HD.out.len; have := HN2.out; omega) HN5.out rfl) _, strs_set18 HT0.out x.t _ (by omega) _, below_setRow x.b (by omega) _⟩
      have HN6 : Hid (Blk W6 28 nb #[.slice (some ⟨r2, 0, none⟩) R.1.1.length c2, .int .i64 R.1.2.1, .bool R.1.2.2.1, .int .i64 R.1.2.2.2]) := by show Blk _ _ _ _; rw [hW6]; exact HN5.out.setRow _
      have HR6 : Hid (RowD W6 r2 c2 R.1.1) := by rw [hW6]; exact rd18_setRow hr2 (rd18_apart hr2 (by have := HDR.out; omega) HN5.out rfl) _
      refine wpAnyH_ready (rs := [11]) (by kernel_rfl) (by simp) ?_
      refine AllReadyH.cons rfl (fun K hK => ?_) AllReadyH.nil
      refine step_storeRow rfl rfl 28 _ _ rfl nb #[.slice none 0 0, .int .i64 0, .bool false, .int .i64 0] #[.slice (some ⟨r2, 0, none⟩) R.1.1.length c2, .int .i64 R.1.2.1, .bool R.1.2.2.1, .int .i64 R.1.2.2.2] (by with_unfolding_all rfl) (by with_unfolding_all rfl) HN5.out rfl (by kernel_rfl) (by simp [Value.oneCell']) ?_
      rw [← hW6]
      refine hK.out _ _ HA6.out.cells (fun hHeld => ?_)
      clear hK K
      refine take_at (i := 12) (v := ?_) rfl rfl (by kernel_rfl) (by kernel_rfl) (by kernel_rfl) (fun _ _ _ h => h) (Or.inl ⟨by rfl, ?_⟩) (by assumption) ?_
      rotate_left
      · intro w hSw; (try dsimp only at hSw); go_simp; try with_reducible rfl
      try simp only [Act.put, List.setIfInBounds_toArray, List.set_cons_zero, List.set_cons_succ]
      refine wpAnyH_done (by kernel_rfl) (NoPanic.normal ?_) _
      clear hW6 HA5 HN5 hr2
      go_wp2_with fail
      have SNV : Hid (∀ W, Blk W 28 nb #[.slice (some ⟨r2, 0, none⟩) R.1.1.length c2, .int .i64 R.1.2.1, .bool R.1.2.2.1, .int .i64 R.1.2.2.2] → Blk W 30 (w.heap.size + 1) #[.string X.1, .slice a X.2.1.length cx, .int .i64 X.2.2.1, .string X.2.2.2] → (W.cell? ⟨nb, 0, none⟩ = some (.slice (some ⟨r2, 0, none⟩) R.1.1.length c2) ∧ W.cell? ⟨nb, 1, none⟩ = some (.int .i64 R.1.2.1) ∧ W.cell? ⟨nb, 2, none⟩ = some (.bool R.1.2.2.1) ∧ W.cell? ⟨nb, 3, none⟩ = some (.int .i64 R.1.2.2.2)) ∧ (W.cell? ⟨w.heap.size + 1, 0, none⟩ = some (.string X.1) ∧ W.cell? ⟨w.heap.size + 1, 1, none⟩ = some (.slice a X.2.1.length cx) ∧ W.cell? ⟨w.heap.size + 1, 2, none⟩ = some (.int .i64 X.2.2.1) ∧ W.cell? ⟨w.heap.size + 1, 3, none⟩ = some (.string X.2.2.2))) := fun W x y => ⟨⟨x.cell 0, x.cell 1, x.cell 2, x.cell 3⟩, ⟨y.cell 0, y.cell 1, y.cell 2, y.cell 3⟩⟩
      have hS6 := SNV.out _ (HN6.out.on (Below.refl _ _).drew) (HA6.out.s.on (Below.refl _ _).drew)
      refine wp_region_noPanic ?_
      refine wp_region_held_drew (S := fun W => (W.cell? ⟨nb, 0, none⟩ = some (.slice (some ⟨r2, 0, none⟩) R.1.1.length c2) ∧ W.cell? ⟨nb, 1, none⟩ = some (.int .i64 R.1.2.1) ∧ W.cell? ⟨nb, 2, none⟩ = some (.bool R.1.2.2.1) ∧ W.cell? ⟨nb, 3, none⟩ = some (.int .i64 R.1.2.2.2)) ∧ (W.cell? ⟨w.heap.size + 1, 0, none⟩ = some (.string X.1) ∧ W.cell? ⟨w.heap.size + 1, 1, none⟩ = some (.slice a X.2.1.length cx) ∧ W.cell? ⟨w.heap.size + 1, 2, none⟩ = some (.int .i64 X.2.2.1) ∧ W.cell? ⟨w.heap.size + 1, 3, none⟩ = some (.string X.2.2.2))) (by kernel_rfl) (by first | exact trivial | assumption | exact ⟨by assumption, by assumption⟩) (fun hHeld => ?_)
      refine take_at (i := 0) (v := ?_) rfl rfl (by kernel_rfl) (by kernel_rfl) (by kernel_rfl) (fun _ _ _ h => h) (Or.inl ⟨by rfl, ?_⟩) (by assumption) ?_
      rotate_left
      · intro w hSw; (try dsimp only at hSw); go_simp; try with_reducible rfl
      try simp only [Act.put, List.setIfInBounds_toArray, List.set_cons_zero, List.set_cons_succ]
      refine take_at (i := 1) (v := ?_) rfl rfl (by kernel_rfl) (by kernel_rfl) (by kernel_rfl) (fun _ _ _ h => h) (Or.inl ⟨by rfl, ?_⟩) (by assumption) ?_
      rotate_left
      · intro w hSw; (try dsimp only at hSw); go_simp; try with_reducible rfl
      try simp only [Act.put, List.setIfInBounds_toArray, List.set_cons_zero, List.set_cons_succ]
      refine take_at (i := 2) (v := ?_) rfl rfl (by kernel_rfl) (by kernel_rfl) (by kernel_rfl) (fun _ _ _ h => h) (Or.inl ⟨by rfl, ?_⟩) (by assumption) ?_
      rotate_left
      · intro w hSw; (try dsimp only at hSw); go_simp; try with_reducible rfl
      try simp only [Act.put, List.setIfInBounds_toArray, List.set_cons_zero, List.set_cons_succ]
      refine take_at (i := 3) (v := ?_) rfl rfl (by kernel_rfl) (by kernel_rfl) (by kernel_rfl) (fun _ _ _ h => h) (Or.inl ⟨by rfl, ?_⟩) (by assumption) ?_
      rotate_left
      · intro w hSw; (try dsimp only at hSw); go_simp; try with_reducible rfl
      try simp only [Act.put, List.setIfInBounds_toArray, List.set_cons_zero, List.set_cons_succ]
      refine take_at (i := 4) (v := ?_) rfl rfl (by kernel_rfl) (by kernel_rfl) (by kernel_rfl) (fun _ _ _ h => h) (Or.inl ⟨by rfl, ?_⟩) (by assumption) ?_
      rotate_left
      · intro w hSw; (try dsimp only at hSw); go_simp; try with_reducible rfl
      try simp only [Act.put, List.setIfInBounds_toArray, List.set_cons_zero, List.set_cons_succ]
      refine take_at (i := 5) (v := ?_) rfl rfl (by kernel_rfl) (by kernel_rfl) (by kernel_rfl) (fun _ _ _ h => h) (Or.inl ⟨by rfl, ?_⟩) (by assumption) ?_
      rotate_left
      · intro w hSw; (try dsimp only at hSw); go_simp; try with_reducible rfl
      try simp only [Act.put, List.setIfInBounds_toArray, List.set_cons_zero, List.set_cons_succ]
      refine wpAnyH_ready (rs := [6]) (by kernel_rfl) (by simp) ?_
      refine AllReadyH.cons rfl (fun K hK => ?_) AllReadyH.nil
      go_simp
      refine (CT.out _).mono ?_
      rintro e V ⟨rfl, hb7⟩
      have HBV : Hid (Below W6.heap.size W6 V) := below_step (Below.refl _ _).drew (Nat.le_refl _) hb7
      have HAV : Hid (AdS w V D X r c a cx) := HA6.out.on HBV.out
      have HNV : Hid (Blk V 28 nb #[.slice (some ⟨r2, 0, none⟩) R.1.1.length c2, .int .i64 R.1.2.1, .bool R.1.2.2.1, .int .i64 R.1.2.2.2]) := HN6.out.on HBV.out
      have HRV : Hid (RowD V r2 c2 R.1.1) := HR6.out.on HBV.out
      clear hb7 HBV
      refine hK.out _ _ (SNV.out _ HNV.out HAV.out.s) (fun hHeld => ?_)
      clear hK K
      refine take_at (i := 7) (v := ?_) rfl rfl (by kernel_rfl) (by kernel_rfl) (by kernel_rfl) (fun _ _ _ h => h) (Or.inl ⟨by rfl, ?_⟩) (by assumption) ?_
      rotate_left
      · intro w hSw; (try dsimp only at hSw); go_simp; try with_reducible rfl
      try simp only [Act.put, List.setIfInBounds_toArray, List.set_cons_zero, List.set_cons_succ]
      refine wpAnyH_ready (rs := [8]) (by kernel_rfl) (by simp) ?_
      refine AllReadyH.cons rfl (fun K hK => ?_) AllReadyH.nil
      refine step_storeRow rfl rfl 28 _ _ rfl (w.heap.size + 1 + 1) #[.slice none 0 0, .int .i64 0, .bool false, .int .i64 0] #[.slice (some ⟨r2, 0, none⟩) R.1.1.length c2, .int .i64 R.1.2.1, .bool R.1.2.2.1, .int .i64 R.1.2.2.2] (by with_unfolding_all rfl) (by with_unfolding_all rfl) HAV.out.zd rfl (by kernel_rfl) (by simp [Value.oneCell']) ?_
      refine hK.out _ _ (SNV.out _ (HNV.out.setRowOther _ (by have := HNb.out; omega) _) (HAV.out.s.setRowOther _ (by omega) _)) (fun hHeld => ?_)
      clear hK K
      refine wpAnyH_ready (rs := [9]) (by kernel_rfl) (by simp) ?_
      refine AllReadyH.cons rfl (fun K hK => ?_) AllReadyH.nil
      refine step_storeRow rfl rfl 30 _ _ rfl (w.heap.size + 1 + 1 + 1) #[.string ⟨#[]⟩, .slice none 0 0, .int .i64 0, .string ⟨#[]⟩] #[.string t, .slice none 0 0, .int .i64 (X.2.2.1 + 1), .string T] (by with_unfolding_all rfl) (by with_unfolding_all rfl) (HAV.out.zs.setRowOther _ (by omega) _) rfl (by kernel_rfl) (by simp [Value.oneCell']) ?_
      refine hK.out _ _ (SNV.out _ ((HNV.out.setRowOther _ (by have := HNb.out; omega) _).setRowOther _ (by have := HNb.out; omega) _) ((HAV.out.s.setRowOther _ (by omega) _).setRowOther _ (by omega) _)) (fun hHeld => ?_)
      clear hK K
      refine take_at (i := 10) (v := ?_) rfl rfl (by kernel_rfl) (by kernel_rfl) (by kernel_rfl) (fun _ _ _ h => h) (Or.inl ⟨by rfl, ?_⟩) (by assumption) ?_
      rotate_left
      · intro w hSw; (try dsimp only at hSw); go_simp; try with_reducible rfl
      try simp only [Act.put, List.setIfInBounds_toArray, List.set_cons_zero, List.set_cons_succ]
      refine wpAnyH_done (by kernel_rfl) (NoPanic.normal ?_) _
      go_wp2_with fail
      obtain ⟨o1, o2, o3, o4⟩ := HAV.out.out HRV.out HDR.out #[.slice (some ⟨r2, 0, none⟩) R.1.1.length c2, .int .i64 R.1.2.1, .bool R.1.2.2.1, .int .i64 R.1.2.2.2] #[.string t, .slice none 0 0, .int .i64 (X.2.2.1 + 1), .string T]
      exact bodyPost_rowsTmp rfl (w.heap.size + 1 + 1) (w.heap.size + 1 + 1 + 1) #[.slice (some ⟨r2, 0, none⟩) R.1.1.length c2, .int .i64 R.1.2.1, .bool R.1.2.2.1, .int .i64 R.1.2.2.2] #[.string t, .slice none 0 0, .int .i64 (X.2.2.1 + 1), .string T] (.int .i64 0) rfl rfl rfl rfl o1 o2 _ _ Tryz.underlying28 rfl (by kernel_rfl) Tryz.underlying30 rfl (by kernel_rfl) ⟨_, _, rfl, ⟨r2, c2, rfl, o3⟩, ⟨none, 0, rfl, ⟨rfl, .inl rfl⟩, fun x hx => by cases hx⟩, o4⟩
  · go_simp
    obtain ⟨w4, hw4⟩ : ∃ w4, w4 = W1.drew := ⟨_, rfl⟩
    have HA4 : Hid (AdS w w4 D X r c a cx) := by rw [hw4]; exact HA1.out.on (Below.refl _ _).drew
    have ezz : W1.heap.size = w4.heap.size := by rw [hw4]; rfl
    have eyy : (W1.alloc (.cells #[.slice none 0 0, .int .i64 0, .bool false, .int .i64 0] 28)).drew = w4.alloc (.cells #[.slice none 0 0, .int .i64 0, .bool false, .int .i64 0] 28) := by rw [hw4]; rfl
    first | rw [eyy, ezz] | rw [← hw4, ezz] | rw [ezz]
    clear hw4 HA1 hS1 ezz eyy
    obtain ⟨nb, hnb⟩ : ∃ nb, nb = w4.heap.size := ⟨_, rfl⟩
    obtain ⟨w3, hw3⟩ : ∃ w3, w3 = w4.alloc (.cells #[.slice none 0 0, .int .i64 0, .bool false, .int .i64 0] 28) := ⟨_, rfl⟩
    have HA3 : Hid (AdS w w3 D X r c a cx) := by rw [hw3]; exact HA4.out.on (below_new _ _)
    have HN3 : Hid (Blk w3 28 nb #[.slice none 0 0, .int .i64 0, .bool false, .int .i64 0]) := by show Blk _ _ _ _; rw [hw3]; exact Blk.new' _ _ _ _ hnb.symm
    have HNb : Hid (w.heap.size + 1 + 1 + 1 < nb) := by have h1 := HA4.out.zs.lt; show w.heap.size + 1 + 1 + 1 < nb; omega
    rw [← hw3, ← hnb]
    clear hw3 hnb HA4
    refine hK.out _ _ HA3.out.cells (fun hHeld => ?_)
    clear hK K
    refine wpAnyH_ready (rs := [5]) (by kernel_rfl) (by simp) ?_
    refine AllReadyH.cons rfl (fun K hK => ?_) AllReadyH.nil
    go_simp
    refine (CT.out _).mono ?_
    rintro e w9 ⟨rfl, hb9⟩
    have HB4 : Hid (AdS w w9 D X r c a cx) := HA3.out.on hb9
    have HN9 : Hid (Blk w9 28 nb #[.slice none 0 0, .int .i64 0, .bool false, .int .i64 0]) := HN3.out.on hb9
    clear HA3 HN3 hb9
    have HA3 := HB4
    have HN3 := HN9
    clear HB4 HN9
    refine hK.out _ _ HA3.out.cells (fun hHeld => ?_)
    clear hK K
    refine wpAnyH_ready (rs := [6]) (by kernel_rfl) (by simp) ?_
    refine AllReadyH.cons rfl (fun K hK => ?_) AllReadyH.nil
    go_simp
    refine (CW.out _ _ HA3.out.devIn).mono ?_
    rintro e w5 ⟨v', rfl, ⟨r2, c2, rfl, hr2⟩, hb5⟩
    unfold devA
    have HA5 : Hid (AdS w w5 D X r c a cx) := HA3.out.on hb5
    have HN5 : Hid (Blk w5 28 nb #[.slice none 0 0, .int .i64 0, .bool false, .int .i64 0]) := HN3.out.on hb5
    clear HA3 HN3 hb5 CW
    refine hK.out _ _ HA5.out.cells (fun hHeld => ?_)
    clear hK K
    refine take_at (i := 7) (v := ?_) rfl rfl (by kernel_rfl) (by kernel_rfl) (by kernel_rfl) (fun _ _ _ h => h) (Or.inl ⟨by rfl, ?_⟩) (by assumption) ?_
    rotate_left
    · intro w hSw; (try dsimp only at hSw); go_simp; try with_reducible rfl
    try simp only [Act.put, List.setIfInBounds_toArray, List.set_cons_zero, List.set_cons_succ]
    refine take_at (i := 8) (v := ?_) rfl rfl (by kernel_rfl) (by kernel_rfl) (by kernel_rfl) (fun _ _ _ h => h) (Or.inl ⟨by rfl, ?_⟩) (by assumption) ?_
    rotate_left
    · intro w hSw; (try dsimp only at hSw); go_simp; try with_reducible rfl
    try simp only [Act.put, List.setIfInBounds_toArray, List.set_cons_zero, List.set_cons_succ]
    refine take_at (i := 9) (v := ?_) rfl rfl (by kernel_rfl) (by kernel_rfl) (by kernel_rfl) (fun _ _ _ h => h) (Or.inl ⟨by rfl, ?_⟩) (by assumption) ?_
    rotate_left
    · intro w hSw; (try dsimp only at hSw); go_simp; try with_reducible rfl
    try simp only [Act.put, List.setIfInBounds_toArray, List.set_cons_zero, List.set_cons_succ]
    obtain ⟨W6, hW6⟩ : ∃ W6, W6 = w5.setRow nb #[.slice (some ⟨r2, 0, none⟩) R.1.1.length c2, .int .i64 R.1.2.1, .bool R.1.2.2.1, .int .i64 R.1.2.2.2] := ⟨_, rfl⟩
    have HA6 : Hid (AdS w W6 D X r c a cx) := by
      rw [hW6]
      have x := HA5.out
      have hn := HNb.out
      exact ⟨x.d.setRowOther _ (by omega) _, x.s.setRowOther _ (by omega) _, x.zd.setRowOther _ (by omega) _, x.zs.setRowOther _ (by omega) _, rd18_setRow x.r (rd18_apart x.r (by have := HD.out.len; have := HN2.out; omega) HN5.out rfl) _, strs_set18 HT0.out x.t _ (by omega) _, below_setRow x.b (by omega) _⟩
    have HN6 : Hid (Blk W6 28 nb #[.slice (some ⟨r2, 0, none⟩) R.1.1.length c2, .int .i64 R.1.2.1, .bool R.1.2.2.1, .int .i64 R.1.2.2.2]) := by show Blk _ _ _ _; rw [hW6]; exact HN5.out.setRow _
    have HR6 : Hid (RowD W6 r2 c2 R.1.1) := by rw [hW6]; exact rd18_setRow hr2 (rd18_apart hr2 (by have := HDR.out; omega) HN5.out rfl) _
    refine wpAnyH_ready (rs := [11]) (by kernel_rfl) (by simp) ?_
    refine AllReadyH.cons rfl (fun K hK => ?_) AllReadyH.nil
    refine step_storeRow rfl rfl 28 _ _ rfl nb #[.slice none 0 0, .int .i64 0, .bool false, .int .i64 0] #[.slice (some ⟨r2, 0, none⟩) R.1.1.length c2, .int .i64 R.1.2.1, .bool R.1.2.2.1, .int .i64 R.1.2.2.2] (by with_unfolding_all rfl) (by with_unfolding_all rfl) HN5.out rfl (by kernel_rfl) (by simp [Value.oneCell']) ?_
    rw [← hW6]
    refine hK.out _ _ HA6.out.cells (fun hHeld => ?_)
    clear hK K
    refine take_at (i := 12) (v := ?_) rfl rfl (by kernel_rfl) (by kernel_rfl) (by kernel_rfl) (fun _ _ _ h => h) (Or.inl ⟨by rfl, ?_⟩) (by assumption) ?_
    rotate_left
    · intro w hSw; (try dsimp only at hSw); go_simp; try with_reducible rfl
    try simp only [Act.put, List.setIfInBounds_toArray, List.set_cons_zero, List.set_cons_succ]
    refine wpAnyH_done (by kernel_rfl) (NoPanic.normal ?_) _
    clear hW6 HA5 HN5 hr2
    go_wp2_with fail
    have SNV : Hid (∀ W, Blk W 28 nb #[.slice (some ⟨r2, 0, none⟩) R.1.1.length c2, .int .i64 R.1.2.1, .bool R.1.2.2.1, .int .i64 R.1.2.2.2] → Blk W 30 (w.heap.size + 1) #[.string X.1, .slice a X.2.1.length cx, .int .i64 X.2.2.1, .string X.2.2.2] → (W.cell? ⟨nb, 0, none⟩ = some (.slice (some ⟨r2, 0, none⟩) R.1.1.length c2) ∧ W.cell? ⟨nb, 1, none⟩ = some (.int .i64 R.1.2.1) ∧ W.cell? ⟨nb, 2, none⟩ = some (.bool R.1.2.2.1) ∧ W.cell? ⟨nb, 3, none⟩ = some (.int .i64 R.1.2.2.2)) ∧ (W.cell? ⟨w.heap.size + 1, 0, none⟩ = some (.string X.1) ∧ W.cell? ⟨w.heap.size + 1, 1, none⟩ = some (.slice a X.2.1.length cx) ∧ W.cell? ⟨w.heap.size + 1, 2, none⟩ = some (.int .i64 X.2.2.1) ∧ W.cell? ⟨w.heap.size + 1, 3, none⟩ = some (.string X.2.2.2))) := fun W x y => ⟨⟨x.cell 0, x.cell 1, x.cell 2, x.cell 3⟩, ⟨y.cell 0, y.cell 1, y.cell 2, y.cell 3⟩⟩
    have hS6 := SNV.out _ (HN6.out.on (Below.refl _ _).drew) (HA6.out.s.on (Below.refl _ _).drew)
    refine wp_region_noPanic ?_
    refine wp_region_held_drew (S := fun W => (W.cell? ⟨nb, 0, none⟩ = some (.slice (some ⟨r2, 0, none⟩) R.1.1.length c2) ∧ W.cell? ⟨nb, 1, none⟩ = some (.int .i64 R.1.2.1) ∧ W.cell? ⟨nb, 2, none⟩ = some (.bool R.1.2.2.1) ∧ W.cell? ⟨nb, 3, none⟩ = some (.int .i64 R.1.2.2.2)) ∧ (W.cell? ⟨w.heap.size + 1, 0, none⟩ = some (.string X.1) ∧ W.cell? ⟨w.heap.size + 1, 1, none⟩ = some (.slice a X.2.1.length cx) ∧ W.cell? ⟨w.heap.size + 1, 2, none⟩ = some (.int .i64 X.2.2.1) ∧ W.cell? ⟨w.heap.size + 1, 3, none⟩ = some (.string X.2.2.2))) (by kernel_rfl) (by first | exact trivial | assumption | exact ⟨by assumption, by assumption⟩) (fun hHeld => ?_)
    refine take_at (i := 0) (v := ?_) rfl rfl (by kernel_rfl) (by kernel_rfl) (by kernel_rfl) (fun _ _ _ h => h) (Or.inl ⟨by rfl, ?_⟩) (by assumption) ?_
    rotate_left
    · intro w hSw; (try dsimp only at hSw); go_simp; try with_reducible rfl
    try simp only [Act.put, List.setIfInBounds_toArray, List.set_cons_zero, List.set_cons_succ]
    refine take_at (i := 1) (v := ?_) rfl rfl (by kernel_rfl) (by kernel_rfl) (by kernel_rfl) (fun _ _ _ h => h) (Or.inl ⟨by rfl, ?_⟩) (by assumption) ?_
    rotate_left
    · intro w hSw; (try dsimp only at hSw); go_simp; try with_reducible rfl
    try simp only [Act.put, List.setIfInBounds_toArray, List.set_cons_zero, List.set_cons_succ]
    refine take_at (i := 2) (v := ?_) rfl rfl (by kernel_rfl) (by kernel_rfl) (by kernel_rfl) (fun _ _ _ h => h) (Or.inl ⟨by rfl, ?_⟩) (by assumption) ?_
    rotate_left
    · intro w hSw; (try dsimp only at hSw); go_simp; try with_reducible rfl
    try simp only [Act.put, List.setIfInBounds_toArray, List.set_cons_zero, List.set_cons_succ]
    refine take_at (i := 3) (v := ?_) rfl rfl (by kernel_rfl) (by kernel_rfl) (by kernel_rfl) (fun _ _ _ h => h) (Or.inl ⟨by rfl, ?_⟩) (by assumption) ?_
    rotate_left
    · intro w hSw; (try dsimp only at hSw); go_simp; try with_reducible rfl
    try simp only [Act.put, List.setIfInBounds_toArray, List.set_cons_zero, List.set_cons_succ]
    refine take_at (i := 4) (v := ?_) rfl rfl (by kernel_rfl) (by kernel_rfl) (by kernel_rfl) (fun _ _ _ h => h) (Or.inl ⟨by rfl, ?_⟩) (by assumption) ?_
    rotate_left
    · intro w hSw; (try dsimp only at hSw); go_simp; try with_reducible rfl
    try simp only [Act.put, List.setIfInBounds_toArray, List.set_cons_zero, List.set_cons_succ]
    refine take_at (i := 5) (v := ?_) rfl rfl (by kernel_rfl) (by kernel_rfl) (by kernel_rfl) (fun _ _ _ h => h) (Or.inl ⟨by rfl, ?_⟩) (by assumption) ?_
    rotate_left
    · intro w hSw; (try dsimp only at hSw); go_simp; try with_reducible rfl
    try simp only [Act.put, List.setIfInBounds_toArray, List.set_cons_zero, List.set_cons_succ]
    refine wpAnyH_ready (rs := [6]) (by kernel_rfl) (by simp) ?_
    refine AllReadyH.cons rfl (fun K hK => ?_) AllReadyH.nil
    go_simp
    refine (CT.out _).mono ?_
    rintro e V ⟨rfl, hb7⟩
    have HBV : Hid (Below W6.heap.size W6 V) := below_step (Below.refl _ _).drew (Nat.le_refl _) hb7
    have HAV : Hid (AdS w V D X r c a cx) := HA6.out.on HBV.out
    have HNV : Hid (Blk V 28 nb #[.slice (some ⟨r2, 0, none⟩) R.1.1.length c2, .int .i64 R.1.2.1, .bool R.1.2.2.1, .int .i64 R.1.2.2.2]) := HN6.out.on HBV.out
    have HRV : Hid (RowD V r2 c2 R.1.1) := HR6.out.on HBV.out
    clear hb7 HBV
    refine hK.out _ _ (SNV.out _ HNV.out HAV.out.s) (fun hHeld => ?_)
    clear hK K
    refine take_at (i := 7) (v := ?_) rfl rfl (by kernel_rfl) (by kernel_rfl) (by kernel_rfl) (fun _ _ _ h => h) (Or.inl ⟨by rfl, ?_⟩) (by assumption) ?_
    rotate_left
    · intro w hSw; (try dsimp only at hSw); go_simp; try with_reducible rfl
    try simp only [Act.put, List.setIfInBounds_toArray, List.set_cons_zero, List.set_cons_succ]
    refine wpAnyH_ready (rs := [8]) (by kernel_rfl) (by simp) ?_
    refine AllReadyH.cons rfl (fun K hK => ?_) AllReadyH.nil
    refine step_storeRow rfl rfl 28 _ _ rfl (w.heap.size + 1 + 1) #[.slice none 0 0, .int .i64 0, .bool false, .int .i64 0] #[.slice (some ⟨r2, 0, none⟩) R.1.1.length c2, .int .i64 R.1.2.1, .bool R.1.2.2.1, .int .i64 R.1.2.2.2] (by with_unfolding_all rfl) (by with_unfolding_all rfl) HAV.out.zd rfl (by kernel_rfl) (by simp [Value.oneCell']) ?_
    refine hK.out _ _ (SNV.out _ (HNV.out.setRowOther _ (by have := HNb.out; omega) _) (HAV.out.s.setRowOther _ (by omega) _)) (fun hHeld => ?_)
    clear hK K
    refine wpAnyH_ready (rs := [9]) (by kernel_rfl) (by simp) ?_
    refine AllReadyH.cons rfl (fun K hK => ?_) AllReadyH.nil
    refine step_storeRow rfl rfl 30 _ _ rfl (w.heap.size + 1 + 1 + 1) #[.string ⟨#[]⟩, .slice none 0 0, .int .i64 0, .string ⟨#[]⟩] #[.string t, .slice none 0 0, .int .i64 (X.2.2.1 + 1), .string T] (by with_unfolding_all rfl) (by with_unfolding_all rfl) (HAV.out.zs.setRowOther _ (by omega) _) rfl (by kernel_rfl) (by simp [Value.oneCell']) ?_
    refine hK.out _ _ (SNV.out _ ((HNV.out.setRowOther _ (by have := HNb.out; omega) _).setRowOther _ (by have := HNb.out; omega) _) ((HAV.out.s.setRowOther _ (by omega) _).setRowOther _ (by omega) _)) (fun hHeld => ?_)
    clear hK K
    refine take_at (i := 10) (v := ?_) rfl rfl (by kernel_rfl) (by kernel_rfl) (by kernel_rfl) (fun _ _ _ h => h) (Or.inl ⟨by rfl, ?_⟩) (by assumption) ?_
    rotate_left
    · intro w hSw; (try dsimp only at hSw); go_simp; try with_reducible rfl
    try simp only [Act.put, List.setIfInBounds_toArray, List.set_cons_zero, List.set_cons_succ]
    refine wpAnyH_done (by kernel_rfl) (NoPanic.normal ?_) _
    go_wp2_with fail
    obtain ⟨o1, o2, o3, o4⟩ := HAV.out.out HRV.out HDR.out #[.slice (some ⟨r2, 0, none⟩) R.1.1.length c2, .int .i64 R.1.2.1, .bool R.1.2.2.1, .int .i64 R.1.2.2.2] #[.string t, .slice none 0 0, .int .i64 (X.2.2.1 + 1), .string T]
    exact bodyPost_rowsTmp rfl (w.heap.size + 1 + 1) (w.heap.size + 1 + 1 + 1) #[.slice (some ⟨r2, 0, none⟩) R.1.1.length c2, .int .i64 R.1.2.1, .bool R.1.2.2.1, .int .i64 R.1.2.2.2] #[.string t, .slice none 0 0, .int .i64 (X.2.2.1 + 1), .string T] (.int .i64 0) rfl rfl rfl rfl o1 o2 _ _ Tryz.underlying28 rfl (by kernel_rfl) Tryz.underlying30 rfl (by kernel_rfl) ⟨_, _, rfl, ⟨r2, c2, rfl, o3⟩, ⟨none, 0, rfl, ⟨rfl, .inl rfl⟩, fun x hx => by cases hx⟩, o4⟩

theorem rlay18_any (D : DevT) (v : Value) (n : Nat) (c0 : Int) (B : Nat) (X : StoT) (u : Value) (t : ByteArray) (w : World) (h : DevIn w v D) (hD : DvO n c0 D) (hn2 : 2 ≤ n) (hn : n ≤ 2048) (hc : c0 < 576460752303423488) (hX : StoIn w B u X) (hO : StO X) (hB : B ≤ w.heap.size) :
    Calls Tryz.prog 25 #[v, u, .string t] w fun e w' => ∃ v' u', e = .returned (.tuple #[v', u', .int .i64 (layS D X t).2.2]) ∧ DevIn w' v' (layS D X t).1 ∧ StoIn w' B u' (layS D X t).2.1 ∧ Below w.heap.size w w' := by
  by_cases ht1 : 32768 < t.size
  · exact rlay18_long D v n c0 B X u t w h hD hn2 hn hc hX hO hB ht1
  · by_cases ht2 : 1099511627775 ≤ X.2.2.1
    · exact rlay18_late D v n c0 B X u t w h hD hn2 hn hc hX hO hB ht1 ht2
    · by_cases hr : (t.size + 2 + 63) / 64 + 1 ≤ D.1.length / 2
      · by_cases h0 : (writesP D (X.2.2.1 + 1).toNat 0 (txB t)).2 = 0
        · exact rlay18_done D v n c0 B X u t w h hD hn2 hn hc hX hO hB ht1 ht2 hr h0
        · exact rlay18_off D v n c0 B X u t w h hD hn2 hn hc hX hO hB ht1 ht2 hr h0
      · exact rlay18_full D v n c0 B X u t w h hD hn2 hn hc hX hO hB ht1 ht2 hr

end Go.Proofs.YtaakmcihpdbilaaGreatDoor
