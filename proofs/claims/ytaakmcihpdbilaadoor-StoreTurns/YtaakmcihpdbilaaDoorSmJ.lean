/- Layer 18, the code's: write, walked. -/
import Derived.Test.YtaakmcihpdbilaaDoorSmI
namespace Go.Proofs.YtaakmcihpdbilaaDoor
open Go.RowKit
set_option maxRecDepth 100000
set_option linter.unusedSimpArgs false
set_option linter.unusedVariables false
set_option maxRecDepth 100000

set_option maxHeartbeats 4000000 in
theorem write18_full (gs g b : Nat) (S : Nat → Prop) (X : StoT) (D : DevT) (n : Nat) (turn : Nat) (A t : ByteArray) (w : World) (h : StC w S gs g X) (hd : DevAt w g b D) (hn : D.1.length = n) (hn2 : 2 ≤ n) (hn9 : n ≤ 2048) (hA : A.size ≤ 65536) (hf : 32768 < t.size ∨ ¬ ((A.size + (t.size + 2) + 63) / 64 + 1 ≤ n / 2)) :
    Calls Tryd.prog 21 #[.pointer (some ⟨gs, 0, none⟩), .int .i64 (turn : Int), .string A, .string t] w fun e w' => e = .returned (.int .i64 2) ∧ Below w.heap.size w w' := by
  by_cases h1 : 32768 < t.size
  · have d0 : (32768 : Int) < (t.size : Int) := by omega
    clear h hd hf
    go_enter Tryd.func21, Tryd.ntmps21
    go_wp2
    go_ret
    exact ⟨rfl, Below.refl _ _⟩
  · have d0 : ¬ ((32768 : Int) < (t.size : Int)) := by omega
    have h2 : ¬ ((A.size + (t.size + 2) + 63) / 64 + 1 ≤ n / 2) := hf.elim (fun e => absurd e h1) id
    have C1 : Hid (∀ W, Calls Tryd.prog 32 #[.string t] W fun e w' => e = .returned (.string (txB t)) ∧ Below W.heap.size W w') := fun W => part18_any t W (by omega)
    have hz : (txB t).size = t.size + 2 := txB_size t
    obtain ⟨T, hT⟩ : ∃ T, txB t = T := ⟨_, rfl⟩
    rw [hT] at C1 hz
    have C2 : Hid (∀ W, Below w.heap.size w W → Calls Tryd.prog 29 #[.pointer (some ⟨g, 0, none⟩)] W fun e w' => e = .returned (.int .i64 ((64 * (n / 2 - 1) : Nat) : Int)) ∧ w' = W) := fun W e => by
      have := room18_any g b D W (hd.on e) (by omega) (by omega)
      rw [hn] at this
      exact this
    have HS : Hid (∀ W, Below w.heap.size w W → W.cell? ⟨gs, 1, none⟩ = some (.pointer (some ⟨g, 0, none⟩))) := fun W e => (h.1.on e).cell 1
    have hsum : ¬ (9223372036854775807 < A.size + T.size) := by omega
    have hls : (A ++ T).size = A.size + T.size := ByteArray.size_append
    obtain ⟨LD, hLD⟩ : ∃ LD, A ++ T = LD := ⟨_, rfl⟩
    obtain ⟨q, hq⟩ : ∃ q, 64 * (n / 2 - 1) = q := ⟨_, rfl⟩
    rw [hq] at C2
    have hls2 : LD.size = A.size + T.size := by rw [← hLD]; exact hls
    have d1 : (q : Int) < (LD.size : Int) := by omega
    clear h hd hf hT hls hq
    go_enter Tryd.func21, Tryd.ntmps21
    go_wp2_with fail
    refine (C1.out _).mono ?_
    rintro e w1 ⟨rfl, hb1⟩
    have c1 := HS.out w1 hb1
    go_wp2_with fail
    refine (C2.out _ hb1).mono ?_
    rintro e w2 ⟨rfl, hw2⟩
    subst hw2
    go_wp2
    go_ret
    exact ⟨rfl, hb1⟩

theorem wrsF_step (s : ByteArray) (p f i : Nat) (D : DevT) : wrsF s p (f + 1) i D = if (writeB D (p + 1 + i) (blkB s i)).2 = 0 then wrsF s p f (i + 1) (writeB D (p + 1 + i) (blkB s i)).1 else writeB D (p + 1 + i) (blkB s i) := rfl

set_option maxHeartbeats 400000 in
theorem write18_yes (gs g b : Nat) (S : Nat → Prop) (X : StoT) (D : DevT) (n : Nat) (c0 : Int) (turn : Nat) (A t : ByteArray) (w : World) (h : StC w S gs g X) (hd : DevAt w g b D) (hD : DvO n c0 D) (hn2 : 2 ≤ n) (hn9 : n ≤ 2048) (hc : c0 < 576460752303423488) (hA : A.size ≤ 65536) (ht1 : ¬ 32768 < t.size) (hr : (A.size + (t.size + 2) + 63) / 64 + 1 ≤ n / 2) (ht9 : turn ≤ 1099511627775) (x1 : gs ≠ g) (x2 : gs ≠ b) (hB : GlobB w) (hK : GlobK w) :
    Calls Tryd.prog 21 #[.pointer (some ⟨gs, 0, none⟩), .int .i64 (turn : Int), .string A, .string t] w fun e w' =>
      e = .returned (.int .i64 (writesP D turn (A.size / 64) (A ++ txB t)).2) ∧ DevAt w' g b (writesP D turn (A.size / 64) (A ++ txB t)).1 ∧ KeptS (Tri gs g b) w w' ∧
      ((writesP D turn (A.size / 64) (A ++ txB t)).2 = 0 → Blk w' 45 gs #[.pointer (some ⟨gs, 0, none⟩), .pointer (some ⟨g, 0, none⟩), .int .i64 (turn : Int), .string (A ++ txB t)]) := by
  have hmf : ∀ (fn : Fn) (first cap : Array Value) (w : World), (Instr.makeFunc fn first cap).run Tryd.prog w = .ok (.func fn first cap) w := fun _ _ _ _ => rfl
  have hlen := hD.len
  have d0 : ¬ ((32768 : Int) < (t.size : Int)) := by omega
  have C1 : Hid (∀ W, Calls Tryd.prog 32 #[.string t] W fun e w' => e = .returned (.string (txB t)) ∧ Below W.heap.size W w') := fun W => part18_any t W (by omega)
  have hz : (txB t).size = t.size + 2 := txB_size t
  obtain ⟨T, hT⟩ : ∃ T, txB t = T := ⟨_, rfl⟩
  rw [hT] at C1 hz ⊢
  have C2 : Hid (∀ W, Below w.heap.size w W → Calls Tryd.prog 29 #[.pointer (some ⟨g, 0, none⟩)] W fun e w' => e = .returned (.int .i64 ((64 * (n / 2 - 1) : Nat) : Int)) ∧ w' = W) := fun W e => by
    have := room18_any g b D W (hd.on e) (by omega) (by omega)
    rw [hlen] at this
    exact this
  have r3 : Int.tmod (turn : Int) 2 = ((turn % 2 : Nat) : Int) := by rw [show (2 : Int) = ((2 : Nat) : Int) from rfl, ← Int.ofNat_tmod]
  obtain ⟨u, hu⟩ : ∃ u, turn % 2 = u := ⟨_, rfl⟩
  rw [hu] at r3
  obtain ⟨p, hp⟩ : ∃ p, u * (n / 2) = p := ⟨_, rfl⟩
  have hp9 : p + n / 2 ≤ n := by
    rw [← hp]
    have : u * (n / 2) ≤ 1 * (n / 2) := Nat.mul_le_mul_right _ (by omega)
    omega
  have C3 : Hid (∀ W, Below w.heap.size w W → Calls Tryd.prog 26 #[.pointer (some ⟨g, 0, none⟩), .int .i64 (u : Int)] W fun e w' => e = .returned (.int .i64 (p : Int)) ∧ w' = W) := fun W e => by
    have := first18_any g b D u W (hd.on e) (by omega) (by omega)
    rw [hlen, hp] at this
    exact this
  have C4 : Hid (∀ W, _) := fun W => into18_any p g W
  have hsum : ¬ (9223372036854775807 < A.size + T.size) := by omega
  obtain ⟨LD, hLD⟩ : ∃ LD, A ++ T = LD := ⟨_, rfl⟩
  have hls : LD.size = A.size + T.size := by rw [← hLD]; exact ByteArray.size_append
  rw [hLD]
  obtain ⟨q, hq⟩ : ∃ q, 64 * (n / 2 - 1) = q := ⟨_, rfl⟩
  rw [hq] at C2
  have d1 : ¬ ((q : Int) < (LD.size : Int)) := by omega
  obtain ⟨Q, hQ⟩ : ∃ Q, (LD.size + 63) / 64 = Q := ⟨_, rfl⟩
  have C5 : Hid (∀ W, Calls Tryd.prog 35 #[.int .i64 (LD.size : Int)] W fun e w' => e = .returned (.int .i64 (Q : Int)) ∧ w' = W) := fun W => by rw [← hQ]; exact blocks18_any LD.size W (by omega)
  have r4 : Int.tdiv (A.size : Int) 64 = ((A.size / 64 : Nat) : Int) := by rw [show (64 : Int) = ((64 : Nat) : Int) from rfl, ← Int.ofNat_tdiv]
  obtain ⟨m, hm⟩ : ∃ m, A.size / 64 = m := ⟨_, rfl⟩
  rw [hm] at r4 ⊢
  have hmQ : m ≤ Q := by omega
  have hQn : Q + 1 ≤ n / 2 := by omega
  obtain ⟨R, HR⟩ : ∃ R, Hid (R = writesP D turn m LD) := ⟨_, rfl⟩
  have HR2 : Hid (R = if (wrsF (filB LD) p (Q - m) m D).2 = 0 then writeB (wrsF (filB LD) p (Q - m) m D).1 p (hdB (turn : Int) LD) else wrsF (filB LD) p (Q - m) m D) := by
    show _ = _
    rw [HR.out]
    unfold writesP
    simp only
    rw [hu, hlen, hp, hQ]
  rw [← HR.out]
  have HG : Hid (∀ W, KeptS (Tri gs g b) w W → GlobB W ∧ GlobK W) := fun W e => by
    obtain ⟨F, e1, e2, _⟩ := hd
    exact ⟨hB.keptS e (fun hh => by
      rcases hh with hh | hh | hh
      · exact hB.other h.1 rfl hh
      · exact hB.other e1 rfl hh
      · exact hB.otherRow e2 (by omega) hh), hK.keptS e (fun hh => by
      rcases hh with hh | hh | hh
      · exact hK.other h.1 rfl hh
      · exact hK.other e1 rfl hh
      · exact hK.otherRow e2 (by omega) hh)⟩
  have HS : Hid (∀ W, Below w.heap.size w W → W.cell? ⟨gs, 1, none⟩ = some (.pointer (some ⟨g, 0, none⟩))) := fun W e => (h.1.on e).cell 1
  have HW0 : Hid (∀ W cw cf, Below w.heap.size w W → TelS W cw cf g p → WrW w W gs g b cw cf p D X.2.2.1 X.2.2.2) := fun W cw cf e ht => ⟨hd.on e, h.1.on e, ht, (KeptS.ofBelow e).sub (fun _ e => e.elim)⟩
  have HL : Hid (g < w.heap.size ∧ b < w.heap.size) := hd.lt
  have HD0 : Hid (DvO n c0 D) := hD
  obtain ⟨tx, AX, hX1, hX2⟩ : ∃ tx AX, tx = X.2.2.1 ∧ AX = X.2.2.2 := ⟨_, _, rfl, rfl⟩
  rw [← hX1, ← hX2] at HW0
  have Hq : Hid ((LD.size + 63) / 64 = Q ∧ m = A.size / 64) := ⟨hQ, hm.symm⟩
  have hLb : LD.size ≤ 65536 := by omega
  have hqb : q ≤ 65536 := by omega
  clear h hd hD hB hK hX1 hX2 hT HR hp hu hq hQ hm hls hz
  go_enter Tryd.func21, Tryd.ntmps21
  go_wp2_with fail
  refine (C1.out _).mono ?_
  rintro e w1 ⟨rfl, hb1⟩
  have B1 : Hid (Below w.heap.size w w1) := hb1
  have c1 := HS.out w1 hb1
  clear hb1
  go_wp2_with fail
  refine (C2.out _ B1.out).mono ?_
  rintro e w2 ⟨rfl, hw2⟩
  subst hw2
  clear C1 C2
  have hS0 : w2.drew.cell? ⟨gs, 1, none⟩ = some (.pointer (some ⟨g, 0, none⟩)) := HS.out _ B1.out.drew
  go_wp2_with fail
  refine wp_region_noPanic ?_
  refine wp_region_held_drew (S := fun W => W.cell? ⟨gs, 1, none⟩ = some (.pointer (some ⟨g, 0, none⟩))) (by kernel_rfl) (by first | exact trivial | assumption | exact ⟨by assumption, by assumption⟩) (fun hHeld => ?_)
  refine take_at (i := 0) (v := ?_) rfl rfl (by kernel_rfl) (by kernel_rfl) (by kernel_rfl) (fun _ _ _ h => h) (Or.inl ⟨by rfl, ?_⟩) (by assumption) ?_
  rotate_left
  · intro w hSw; (try dsimp only at hSw); go_simp; try with_reducible rfl
  try simp only [Act.put, List.setIfInBounds_toArray, List.set_cons_zero, List.set_cons_succ]
  refine take_at (i := 1) (v := ?_) rfl rfl (by kernel_rfl) (by kernel_rfl) (by kernel_rfl) (fun _ _ _ h => h) (Or.inl ⟨by rfl, ?_⟩) (by assumption) ?_
  rotate_left
  · intro w hSw; (try dsimp only at hSw); go_simp; try with_reducible rfl
  try simp only [Act.put, List.setIfInBounds_toArray, List.set_cons_zero, List.set_cons_succ]
  refine take_at (i := 2) (v := ?_) rfl rfl (by kernel_rfl) (by kernel_rfl) (by kernel_rfl) (fun _ _ _ h => h) (Or.inl ⟨by rfl, ?_⟩) (by assumption) ?_
  rotate_left
  · intro w hSw; (try dsimp only at hSw); go_simp; try with_reducible rfl
  try simp only [Act.put, List.setIfInBounds_toArray, List.set_cons_zero, List.set_cons_succ]
  refine take_at (i := 3) (v := ?_) rfl rfl (by kernel_rfl) (by kernel_rfl) (by kernel_rfl) (fun _ _ _ h => h) (Or.inl ⟨by rfl, ?_⟩) (by assumption) ?_
  rotate_left
  · intro w hSw; (try dsimp only at hSw); go_simp; try with_reducible rfl
  try simp only [Act.put, List.setIfInBounds_toArray, List.set_cons_zero, List.set_cons_succ]
  refine take_at (i := 4) (v := ?_) rfl rfl (by kernel_rfl) (by kernel_rfl) (by kernel_rfl) (fun _ _ _ h => h) (Or.inl ⟨by rfl, ?_⟩) (by assumption) ?_
  rotate_left
  · intro w hSw; (try dsimp only at hSw); go_simp; try with_reducible rfl
  try simp only [Act.put, List.setIfInBounds_toArray, List.set_cons_zero, List.set_cons_succ]
  refine take_at (i := 5) (v := ?_) rfl rfl (by kernel_rfl) (by kernel_rfl) (by kernel_rfl) (fun _ _ _ h => h) (Or.inl ⟨by rfl, ?_⟩) (by assumption) ?_
  rotate_left
  · intro w hSw; (try dsimp only at hSw); go_simp; try with_reducible rfl
  try simp only [Act.put, List.setIfInBounds_toArray, List.set_cons_zero, List.set_cons_succ]
  refine take_at (i := 7) (v := ?_) rfl rfl (by kernel_rfl) (by kernel_rfl) (by kernel_rfl) (fun _ _ _ h => h) (Or.inl ⟨by rfl, ?_⟩) (by assumption) ?_
  rotate_left
  · intro w hSw; (try dsimp only at hSw); go_simp; try with_reducible rfl
  try simp only [Act.put, List.setIfInBounds_toArray, List.set_cons_zero, List.set_cons_succ]
  refine take_at (i := 8) (v := ?_) rfl rfl (by kernel_rfl) (by kernel_rfl) (by kernel_rfl) (fun _ _ _ h => h) (Or.inl ⟨by rfl, ?_⟩) (by assumption) ?_
  rotate_left
  · intro w hSw; (try dsimp only at hSw); go_simp; try with_reducible rfl
  try simp only [Act.put, List.setIfInBounds_toArray, List.set_cons_zero, List.set_cons_succ]
  refine take_at (i := 9) (v := ?_) rfl rfl (by kernel_rfl) (by kernel_rfl) (by kernel_rfl) (fun _ _ _ h => h) (Or.inl ⟨by rfl, ?_⟩) (by assumption) ?_
  rotate_left
  · intro w hSw; (try dsimp only at hSw); go_simp; try with_reducible rfl
  try simp only [Act.put, List.setIfInBounds_toArray, List.set_cons_zero, List.set_cons_succ]
  refine take_at (i := 10) (v := ?_) rfl rfl (by kernel_rfl) (by kernel_rfl) (by kernel_rfl) (fun _ _ _ h => h) (Or.inl ⟨by rfl, ?_⟩) (by assumption) ?_
  rotate_left
  · intro w hSw; (try dsimp only at hSw); go_simp; try with_reducible rfl
  try simp only [Act.put, List.setIfInBounds_toArray, List.set_cons_zero, List.set_cons_succ]
  refine take_at (i := 11) (v := ?_) rfl rfl (by kernel_rfl) (by kernel_rfl) (by kernel_rfl) (fun _ _ _ h => h) (Or.inl ⟨by rfl, ?_⟩) (by assumption) ?_
  rotate_left
  · intro w hSw; (try dsimp only at hSw); go_simp; try with_reducible rfl
  try simp only [Act.put, List.setIfInBounds_toArray, List.set_cons_zero, List.set_cons_succ]
  refine wpAnyH_ready (rs := [6]) (by kernel_rfl) (by simp) ?_
  refine AllReadyH.cons rfl (fun K hK => ?_) AllReadyH.nil
  go_simp
  refine (C3.out _ B1.out.drew).mono ?_
  rintro e w3 ⟨rfl, hw3⟩
  subst hw3
  refine hK.out _ _ hS0 (fun hHeld => ?_)
  clear hK K
  refine wpAnyH_ready (rs := [12]) (by kernel_rfl) (by simp) ?_
  refine AllReadyH.cons rfl (fun K hK => ?_) AllReadyH.nil
  go_simp
  refine (C4.out _).mono ?_
  rintro e w4 ⟨cw, cf, rfl, ht4, h41, h42, hb4⟩
  have B4 : Hid (Below w.heap.size w w4) := below_step B1.out.drew (Nat.le_refl _) hb4
  have X4 : Hid (cw ≠ g ∧ cw ≠ b ∧ cf ≠ g ∧ cf ≠ b) := by
    have h9 := B1.out.drew.size
    have h8 := HL.out
    exact ⟨by omega, by omega, by omega, by omega⟩
  have W4 : Hid (WrW w w4 gs g b cw cf p D tx AX) := HW0.out w4 cw cf B4.out ht4
  have hS4 := HS.out _ B4.out
  clear ht4 h41 h42 hb4 C3 C4 HW0 B1 B4 HL
  refine hK.out _ _ hS4 (fun hHeld => ?_)
  clear hK K
  refine take_at (i := 13) (v := ?_) rfl rfl (by kernel_rfl) (by kernel_rfl) (by kernel_rfl) (fun _ _ _ h => h) (Or.inl ⟨by rfl, ?_⟩) (by assumption) ?_
  rotate_left
  · intro w hSw; (try dsimp only at hSw); go_simp; try with_reducible rfl
  try simp only [Act.put, List.setIfInBounds_toArray, List.set_cons_zero, List.set_cons_succ]
  refine wpAnyH_done (by kernel_rfl) (NoPanic.normal ?_) _
  clear hS4 hS0 HS c1 d0 d1 r3
  have Hw0 : Hid (wrsF (filB LD) p (Q - m) m D = wrsF (filB LD) p (Q - m) m D) := rfl
  go_wp2_with fail
  go_loopw [11] (fun v wr => ∃ (k : Nat) (E : DevT), m ≤ k ∧ k ≤ Q ∧ v = .int .i64 k ∧ Hid (WrW w wr gs g b cw cf p E tx AX) ∧ Hid (DvO n (c0 + (k : Int)) E) ∧ Hid (wrsF (filB LD) p (Q - m) m D = wrsF (filB LD) p (Q - k) k E)) (fun v _ => Q - (intOf v).toNat)
  case atStart => exact ⟨m, D, Nat.le_refl _, hmQ, rfl, W4, HD0.out.mono (by omega), rfl⟩
  case round =>
    clear W4 HD0
    obtain ⟨k, E, hk1, hk2, rfl, HW, HD, HE⟩ := hrel
    by_cases hlt : k < Q
    · have e0 : (k : Int) < (Q : Int) := by omega
      obtain ⟨v, hv⟩ : ∃ v, min (64 * k + 64) LD.size = v := ⟨_, rfl⟩
      have hQ9 := Hq.out.1
      have hmn : min (((k : Int) + 1) * 64) (LD.size : Int) = (v : Int) := by omega
      have hv1 : (k : Int) * 64 ≤ (v : Int) := by omega
      have hv2 : v ≤ LD.size := by omega
      have eB : fl18 (LD.extract (k * 64) v) = blkB (filB LD) k := by
        rw [← hv, Nat.mul_comm k 64]
        exact fl18_blk LD k (by omega)
      have CT : Hid (∀ W, W = wr → Calls Tryd.prog 52 #[.int .i64 (1 + (k : Int)), .string (LD.extract (k * 64) v), .pointer (some ⟨cw, 0, none⟩), .pointer (some ⟨cf, 0, none⟩)] W fun e w' => e = .returned (.int .i64 (writeB E (p + 1 + k) (blkB (filB LD) k)).2) ∧ WrW w w' gs g b cw cf p (writeB E (p + 1 + k) (blkB (filB LD) k)).1 tx AX) := fun W e => by
        subst e
        have h := tellw18_any cw cf p g b E n (c0 + (k : Int)) (1 + k) (LD.extract (k * 64) v) _ HW.out.t X4.out HW.out.d HD.out (by omega) (by omega) (by omega) (by rw [← hv, Nat.mul_comm k 64]; exact blk_short LD k)
        rw [eB, show p + (1 + k) = p + 1 + k by omega, show ((1 + k : Nat) : Int) = 1 + (k : Int) by omega] at h
        refine h.mono ?_
        rintro e w' ⟨h1, h2⟩
        exact ⟨h1, HW.out.to X4.out x1 x2 h2⟩
      have HD2 : Hid (DvO n (c0 + ((k + 1 : Nat) : Int)) (writeB E (p + 1 + k) (blkB (filB LD) k)).1) := (HD.out.wr (p + 1 + k) (blkB (filB LD) k)).mono (by omega)
      have HE2 : Hid (wrsF (filB LD) p (Q - m) m D = if (writeB E (p + 1 + k) (blkB (filB LD) k)).2 = 0 then wrsF (filB LD) p (Q - (k + 1)) (k + 1) (writeB E (p + 1 + k) (blkB (filB LD) k)).1 else writeB E (p + 1 + k) (blkB (filB LD) k)) := by
        show _ = _
        rw [HE.out, show Q - k = Q - (k + 1) + 1 by omega]
        exact wrsF_step _ _ _ _ _
      obtain ⟨⟨E2, z⟩, hz⟩ : ∃ z, writeB E (p + 1 + k) (blkB (filB LD) k) = z := ⟨_, rfl⟩
      rw [hz] at CT HD2 HE2
      simp only at CT
      clear hQ9 eB hz HE HD HW
      go_wp2_with fail
      refine (C5.out _).mono ?_
      rintro e W1 ⟨rfl, hW1⟩
      subst hW1
      go_wp2_with fail
      refine (CT.out _ rfl).mono ?_
      rintro e W2 ⟨rfl, hW2⟩
      have HW2 : Hid (WrW w W2 gs g b cw cf p E2 tx AX) := hW2
      clear hW2 CT
      by_cases hc0 : z = 0
      · subst hc0
        have HE3 : Hid (wrsF (filB LD) p (Q - m) m D = wrsF (filB LD) p (Q - (k + 1)) (k + 1) E2) := by
          show _ = _
          rw [HE2.out]
          exact if_pos rfl
        clear HE2
        go_wp2_with fail
        refine ⟨⟨k + 1, E2, by omega, by omega, by rfl, HW2, HD2, HE3⟩, ?_⟩
        show Q - (k + 1) < Q - k
        omega
      · have q9 : (z != 0) = true := by rw [bne_iff_ne]; exact hc0
        have E9 : Hid (R = (E2, z)) := by
          show _ = _
          have h8 : wrsF (filB LD) p (Q - m) m D = (E2, z) := by rw [HE2.out]; exact if_neg hc0
          rw [HR2.out, h8]
          exact if_neg hc0
        clear HE2 HR2
        go_wp2_with fail
        go_ret
        rw [E9.out]
        exact ⟨rfl, HW2.out.d, HW2.out.k, fun e => absurd e hc0⟩
    · have e0 : ¬ ((k : Int) < (Q : Int)) := by omega
      obtain rfl : k = Q := by omega
      have HE3 : Hid (wrsF (filB LD) p (k - m) m D = (E, 0)) := by
        show _ = _
        rw [HE.out, Nat.sub_self]; rfl
      have CH : Hid (∀ W, W = wr → Calls Tryd.prog 31 #[.int .i64 (turn : Int), .string LD] W fun e w' => e = .returned (.string (hd0 (turn : Int) LD)) ∧ WrW w w' gs g b cw cf p E tx AX) := fun W e => by
        subst e
        have hg := HG.out _ HW.out.k
        refine (head18_any (turn : Int) LD _ (by omega) (by omega) (by omega) hg.1 hg.2).mono ?_
        rintro e w' ⟨h1, h2⟩
        exact ⟨h1, HW.out.on h2⟩
      have CT : Hid (∀ W, WrW w W gs g b cw cf p E tx AX → Calls Tryd.prog 52 #[.int .i64 0, .string (hd0 (turn : Int) LD), .pointer (some ⟨cw, 0, none⟩), .pointer (some ⟨cf, 0, none⟩)] W fun e w' => e = .returned (.int .i64 (writeB E p (hdB (turn : Int) LD)).2) ∧ WrW w w' gs g b cw cf p (writeB E p (hdB (turn : Int) LD)).1 tx AX) := fun W hW => by
        have h := tellw18_any cw cf p g b E n (c0 + (k : Int)) 0 (hd0 (turn : Int) LD) W hW.t X4.out hW.d HD.out (by omega) (by omega) (by omega) (by rw [hd0_size]; decide)
        rw [hd0_fl, Nat.add_zero] at h
        refine h.mono ?_
        rintro e w' ⟨h1, h2⟩
        exact ⟨h1, hW.to X4.out x1 x2 h2⟩
      have E9 : Hid (R = writeB E p (hdB (turn : Int) LD)) := by
        show _ = _
        rw [HR2.out, HE3.out]
        exact if_pos rfl
      rw [← E9.out] at CT
      obtain ⟨HH, hHH⟩ : ∃ HH, hd0 (turn : Int) LD = HH := ⟨_, rfl⟩
      rw [hHH] at CH CT
      obtain ⟨R1, R2⟩ := R
      simp only at CT
      clear hHH E9 HE3 HE HR2
      go_wp2_with fail
      refine (C5.out _).mono ?_
      rintro e W1 ⟨rfl, hW1⟩
      subst hW1
      go_wp2_with fail
      refine (CH.out _ rfl).mono ?_
      rintro e W2 ⟨rfl, hW2⟩
      have HW2 : Hid (WrW w W2 gs g b cw cf p E tx AX) := hW2
      clear hW2 CH HW
      go_wp2_with fail
      refine (CT.out _ HW2.out).mono ?_
      rintro e W3 ⟨rfl, hW3⟩
      have HW3 : Hid (WrW w W3 gs g b cw cf p R1 tx AX) := hW3
      clear hW3 CT HW2
      by_cases hc0 : R2 = 0
      · subst hc0
        have f2 := HW3.out.s.free 2
        have f3 := HW3.out.s.free 3
        have k2 : W3.cell? ⟨gs, 2, none⟩ = some (.int .i64 tx) := HW3.out.s.cell 2
        have k3 : W3.cell? ⟨gs, 3, none⟩ = some (.string AX) := HW3.out.s.cell 3
        go_wp2_with fail
        go_ret
        have h9 := HW3.out.set x1 x2 (((Kept2.refl gs none W3).setCell ⟨gs, 2, none⟩ rfl (.int .i64 (turn : Int))).setCell ⟨gs, 3, none⟩ rfl (.string LD))
        exact ⟨rfl, h9.1, h9.2, (HW3.out.s.setAt 2 _).setAt 3 _⟩
      · have q9 : (R2 != 0) = true := by rw [bne_iff_ne]; exact hc0
        go_wp2_with fail
        go_ret
        exact ⟨rfl, HW3.out.d, HW3.out.k⟩

end Go.Proofs.YtaakmcihpdbilaaDoor
