import Derived.Test.YtaakmcihpdbilaaGreatDoorSM
import Derived.Test.YtaakmcihpdbilaaGreatDoorSI
import Derived.Test.YtaakmcihpdbilaaGreatDoorSP
/- Layer 18, the code's: write, its plain facts. -/
namespace Go.Proofs.YtaakmcihpdbilaaGreatDoor
open Go.RowKit
set_option maxRecDepth 100000
set_option linter.unusedSimpArgs false
set_option linter.unusedVariables false
set_option maxRecDepth 100000

theorem bt_tail18 (A : ByteArray) (n j : Nat) (h : A.size ≤ j) : bt (A ++ zeroB n) j = 0 := by
  obtain ⟨d, rfl⟩ : ∃ d, j = A.size + d := ⟨j - A.size, by omega⟩
  rw [bt_append_right, bt_noughts]
/-- What the code tells of block k of a text is its block, with noughts behind. -/
theorem fl18_blk (s : ByteArray) (k : Nat) (hk : k < (s.size + 63) / 64) : fl18 (s.extract (64 * k) (min (64 * k + 64) s.size)) = blkB (filB s) k := by
  have hz : (s.extract (64 * k) (min (64 * k + 64) s.size)).size = min (64 * k + 64) s.size - 64 * k := by rw [ByteArray.size_extract]; omega
  have hf : (filB s).size = 64 * ((s.size + 63) / 64) := filB_size s
  refine bt_ext _ _ ?_ (fun i hi => ?_)
  · rw [fl18_size _ (by rw [hz]; omega), blkB_size s k hk]
  · rw [fl18_size _ (by rw [hz]; omega)] at hi
    rw [blkB_bt s k i hi (by omega)]
    unfold fl18 filB
    by_cases h1 : 64 * k + i < s.size
    · rw [bt_append_left _ _ _ (by rw [hz]; omega), bt_append_left _ _ _ h1, bt_extract _ _ _ _ (by omega) (by omega)]
    · rw [bt_tail18 _ _ _ (by rw [hz]; omega), bt_tail18 _ _ _ (by omega)]
theorem blk_short (s : ByteArray) (k : Nat) : (s.extract (64 * k) (min (64 * k + 64) s.size)).size ≤ 64 := by rw [ByteArray.size_extract]; omega

theorem GlobB.other {w : World} {t : TypeId} {g : Nat} {cs : Array Value} {p : Option Addr} (h : GlobB w) (hg : Blk w t g cs) (hc : cs[0]? = some (.pointer p)) : 0 ≠ g := by
  intro e
  have h0 := h 0 (by decide)
  have h1 := hg.cell 0
  rw [← e, hc, h0] at h1
  cases h1
theorem GlobK.other {w : World} {t : TypeId} {g : Nat} {cs : Array Value} {p : Option Addr} (h : GlobK w) (hg : Blk w t g cs) (hc : cs[0]? = some (.pointer p)) : 1 ≠ g := by
  intro e
  have h0 := h 0 (by decide)
  have h1 := hg.cell 0
  rw [← e, hc, h0] at h1
  cases h1
theorem GlobB.otherRow {w : World} {b : Nat} {L : List ByteArray} (h : GlobB w) (hb : RowC w b L) (hl : 0 < L.length) : 0 ≠ b := by
  intro e
  obtain ⟨cs, h1, h2, h3⟩ := hb
  have h0 := h 0 (by decide)
  have h4 := h1.cell 0
  rw [h3 0 (by omega), ← e, h0] at h4
  cases h4
theorem GlobK.otherRow {w : World} {b : Nat} {L : List ByteArray} (h : GlobK w) (hb : RowC w b L) (hl : 0 < L.length) : 1 ≠ b := by
  intro e
  obtain ⟨cs, h1, h2, h3⟩ := hb
  have h0 := h 0 (by decide)
  have h4 := h1.cell 0
  rw [h3 0 (by omega), ← e, h0] at h4
  cases h4
theorem cell_same {w w' : World} {k i : Nat} (h : w'.heap[k]? = w.heap[k]?) : w'.cell? ⟨k, i, none⟩ = w.cell? ⟨k, i, none⟩ := by
  simp only [World.cell?, h]
theorem cell_lt {w : World} {k i : Nat} {v : Value} (h : w.cell? ⟨k, i, none⟩ = some v) : k < w.heap.size := by
  rcases Nat.lt_or_ge k w.heap.size with h' | h'
  · exact h'
  · simp [World.cell?, Array.getElem?_eq_none h'] at h
theorem GlobB.keptS {w w' : World} {T : Nat → Prop} (h : GlobB w) (hk : KeptS T w w') (hT : ¬ T 0) : GlobB w' := fun j hj => by
  rw [cell_same (hk.block _ (cell_lt (h j hj)) hT)]; exact h j hj
theorem GlobK.keptS {w w' : World} {T : Nat → Prop} (h : GlobK w) (hk : KeptS T w w') (hT : ¬ T 1) : GlobK w' := fun j hj => by
  rw [cell_same (hk.block _ (cell_lt (h j hj)) hT)]; exact h j hj

theorem KeptS.trans {T : Nat → Prop} {w w1 w2 : World} (h1 : KeptS T w w1) (h2 : KeptS T w1 w2) : KeptS T w w2 :=
  ⟨h2.os.trans h1.os, h2.tape.trans h1.tape, h2.output.trans h1.output, Nat.le_trans h1.size h2.size, fun k hk hn => by rw [h2.block k (Nat.lt_of_lt_of_le hk h1.size) hn]; exact h1.block k hk hn⟩
theorem KeptS.sub {T T' : Nat → Prop} {w w1 : World} (h : KeptS T w w1) (hT : ∀ k, T k → T' k) : KeptS T' w w1 := ⟨h.os, h.tape, h.output, h.size, fun k hk hn => h.block k hk (fun e => hn (hT k e))⟩
theorem KeptS.refl (T : Nat → Prop) (w : World) : KeptS T w w := ⟨rfl, rfl, rfl, Nat.le_refl _, fun _ _ _ => rfl⟩

/-- The blocks that a store on a device may turn. -/
def Tri (gs g b : Nat) : Nat → Prop := fun k => k = gs ∨ k = g ∨ k = b
/-- While blocks are written. -/
structure WrW (w W : World) (gs g b cw cf p : Nat) (D : DevT) (t : Int) (A : ByteArray) : Prop where
  d : DevAt W g b D
  s : Blk W 72 gs #[.pointer (some ⟨gs, 0, none⟩), .pointer (some ⟨g, 0, none⟩), .int .i64 t, .string A]
  t : TelS W cw cf g p
  k : KeptS (Tri gs g b) w W
theorem WrW.on {w W W' : World} {gs g b cw cf p : Nat} {D : DevT} {t : Int} {A : ByteArray} (h : WrW w W gs g b cw cf p D t A) (hb : Below W.heap.size W W') : WrW w W' gs g b cw cf p D t A :=
  ⟨h.d.on hb, h.s.on hb, h.t.on hb, h.k.trans ((KeptS.ofBelow hb).sub (fun _ e => e.elim))⟩
theorem WrW.to {w W W' : World} {gs g b cw cf p : Nat} {D D' : DevT} {t : Int} {A : ByteArray} (h : WrW w W gs g b cw cf p D t A) (hx : cw ≠ g ∧ cw ≠ b ∧ cf ≠ g ∧ cf ≠ b) (h1 : gs ≠ g) (h2 : gs ≠ b) (hd : DevTo W g b D' W') : WrW w W' gs g b cw cf p D' t A :=
  ⟨hd.1, h.s.kept hd.2 h1 (fun e => h2 (by cases e; rfl)), h.t.kept hd.2 hx.1 hx.2.1 hx.2.2.1 hx.2.2.2, h.k.trans ((KeptS.ofDev hd).sub (fun _ e => .inr e))⟩

theorem KeptS.ofKept {w w' : World} {g : Nat} (h : Kept2 g none w w') : KeptS (fun k => k = g) w w' := ⟨h.os, h.tape, h.output, h.size, fun k hk hn => h.block k hk hn (fun e => by cases e)⟩
theorem WrW.set {w W W' : World} {gs g b cw cf p : Nat} {D : DevT} {t : Int} {A : ByteArray} (h : WrW w W gs g b cw cf p D t A) (h1 : gs ≠ g) (h2 : gs ≠ b) (hk : Kept2 gs none W W') : DevAt W' g b D ∧ KeptS (Tri gs g b) w W' :=
  ⟨h.d.kept hk (fun e => h1 e.symm) (fun e => by cases e) (fun e => h2 e.symm) (fun e => by cases e), h.k.trans ((KeptS.ofKept hk).sub (fun _ e => .inl e))⟩

/-- What write leaves and answers. -/
def wrP18 (D : DevT) (turn : Nat) (A t : ByteArray) : DevT × Int :=
  if 32768 < t.size ∨ ¬ ((A.size + (t.size + 2) + 63) / 64 + 1 ≤ D.1.length / 2) then (D, 2) else writesP D turn (A.size / 64) (A ++ txB t)

end Go.Proofs.YtaakmcihpdbilaaGreatDoor

/- Layer 18, the code's: write, walked. -/
namespace Go.Proofs.YtaakmcihpdbilaaGreatDoor
open Go.RowKit
set_option maxRecDepth 100000
set_option linter.unusedSimpArgs false
set_option linter.unusedVariables false
set_option maxRecDepth 100000

set_option maxHeartbeats 4000000 in
theorem write18_full (gs g b : Nat) (S : Nat → Prop) (X : StoT) (D : DevT) (n : Nat) (turn : Nat) (A t : ByteArray) (w : World) (h : StC w S gs g X) (hd : DevAt w g b D) (hn : D.1.length = n) (hn2 : 2 ≤ n) (hn9 : n ≤ 2048) (hA : A.size ≤ 65536) (hf : 32768 < t.size ∨ ¬ ((A.size + (t.size + 2) + 63) / 64 + 1 ≤ n / 2)) :
    Calls Tryz.prog 31 #[.pointer (some ⟨gs, 0, none⟩), .int .i64 (turn : Int), .string A, .string t] w fun e w' => e = .returned (.int .i64 2) ∧ Below w.heap.size w w' := by
  by_cases h1 : 32768 < t.size
  · have d0 : (32768 : Int) < (t.size : Int) := by omega
    clear h hd hf
    go_enter Tryz.func31, Tryz.ntmps31
    go_wp2
    go_ret
    exact ⟨rfl, Below.refl _ _⟩
  · have d0 : ¬ ((32768 : Int) < (t.size : Int)) := by omega
    have h2 : ¬ ((A.size + (t.size + 2) + 63) / 64 + 1 ≤ n / 2) := hf.elim (fun e => absurd e h1) id
    have C1 : Hid (∀ W, Calls Tryz.prog 43 #[.string t] W fun e w' => e = .returned (.string (txB t)) ∧ Below W.heap.size W w') := fun W => part18_any t W (by omega)
    have hz : (txB t).size = t.size + 2 := txB_size t
    obtain ⟨T, hT⟩ : ∃ T, txB t = T := ⟨_, rfl⟩
    rw [hT] at C1 hz
    have C2 : Hid (∀ W, Below w.heap.size w W → Calls Tryz.prog 44 #[.pointer (some ⟨g, 0, none⟩)] W fun e w' => e = .returned (.int .i64 ((64 * (n / 2 - 1) : Nat) : Int)) ∧ w' = W) := fun W e => by
      have := room18_any g b D W (hd.on e) (by omega) (by omega)
      rw [hn] at this
      exact this
    have HS : Hid (∀ W, Below w.heap.size w W → W.cell? ⟨gs, 1, none⟩ = some (.pointer (some ⟨g, 0, none⟩))) := fun W e => (h.1.on e).cell 1
    have hsum : ¬ (9223372036854775807 < A.size + T.size) := by omega
    have hls : (A ++ T).size = A.size + T.size := ByteArray.size_append
    obtain ⟨LD, hLD⟩ : ∃ LD, A ++ T = LD := ⟨_, rfl⟩
    obtain ⟨q, hq⟩ : ∃ q, 64 * (n / 2 - 1) = q := ⟨_, rfl⟩
    rw [hq] at C2
    have hls2 : LD.size = A.size + T.size := by rw [← hLD]; exact hls
    have d1 : (q : Int) < (LD.size : Int) := by omega
    clear h hd hf hT hls hq
    go_enter Tryz.func31, Tryz.ntmps31
    go_wp2_with fail
    refine (C1.out _).mono ?_
    rintro e w1 ⟨rfl, hb1⟩
    have c1 := HS.out w1 hb1
    go_wp2_with fail
    refine (C2.out _ hb1).mono ?_
    rintro e w2 ⟨rfl, hw2⟩
    subst hw2
    go_wp2
    go_ret
    exact ⟨rfl, hb1⟩

theorem wrsF_step (s : ByteArray) (p f i : Nat) (D : DevT) : wrsF s p (f + 1) i D = if (writeB D (p + 1 + i) (blkB s i)).2 = 0 then wrsF s p f (i + 1) (writeB D (p + 1 + i) (blkB s i)).1 else writeB D (p + 1 + i) (blkB s i) := rfl

set_option maxHeartbeats 400000 in
theorem write18_yes (gs g b : Nat) (S : Nat → Prop) (X : StoT) (D : DevT) (n : Nat) (c0 : Int) (turn : Nat) (A t : ByteArray) (w : World) (h : StC w S gs g X) (hd : DevAt w g b D) (hD : DvO n c0 D) (hn2 : 2 ≤ n) (hn9 : n ≤ 2048) (hc : c0 < 576460752303423488) (hA : A.size ≤ 65536) (ht1 : ¬ 32768 < t.size) (hr : (A.size + (t.size + 2) + 63) / 64 + 1 ≤ n / 2) (ht9 : turn ≤ 1099511627775) (x1 : gs ≠ g) (x2 : gs ≠ b) (hB : GlobB w) (hK : GlobK w) :
    Calls Tryz.prog 31 #[.pointer (some ⟨gs, 0, none⟩), .int .i64 (turn : Int), .string A, .string t] w fun e w' =>
      e = .returned (.int .i64 (writesP D turn (A.size / 64) (A ++ txB t)).2) ∧ DevAt w' g b (writesP D turn (A.size / 64) (A ++ txB t)).1 ∧ KeptS (Tri gs g b) w w' ∧
      ((writesP D turn (A.size / 64) (A ++ txB t)).2 = 0 → Blk w' 72 gs #[.pointer (some ⟨gs, 0, none⟩), .pointer (some ⟨g, 0, none⟩), .int .i64 (turn : Int), .string (A ++ txB t)]) := by
  have hmf : ∀ (fn : Fn) (first cap : Array Value) (w : World), (Instr.makeFunc fn first cap).run Tryz.prog w = .ok (.func fn first cap) w := fun _ _ _ _ => rfl
  have hlen := hD.len
  have d0 : ¬ ((32768 : Int) < (t.size : Int)) := by omega
  have C1 : Hid (∀ W, Calls Tryz.prog 43 #[.string t] W fun e w' => e = .returned (.string (txB t)) ∧ Below W.heap.size W w') := fun W => part18_any t W (by omega)
  have hz : (txB t).size = t.size + 2 := txB_size t
  obtain ⟨T, hT⟩ : ∃ T, txB t = T := ⟨_, rfl⟩
  rw [hT] at C1 hz ⊢
  have C2 : Hid (∀ W, Below w.heap.size w W → Calls Tryz.prog 44 #[.pointer (some ⟨g, 0, none⟩)] W fun e w' => e = .returned (.int .i64 ((64 * (n / 2 - 1) : Nat) : Int)) ∧ w' = W) := fun W e => by
    have := room18_any g b D W (hd.on e) (by omega) (by omega)
    rw [hlen] at this
    exact this
  have r3 : Int.tmod (turn : Int) 2 = ((turn % 2 : Nat) : Int) := by rw [show (2 : Int) = ((2 : Nat) : Int) from rfl, ← Int.ofNat_tmod]
  obtain ⟨u, hu⟩ : ∃ u, turn % 2 = u := ⟨_, rfl⟩
  rw [hu] at r3
  obtain ⟨p, hp⟩ : ∃ p, u * (n / 2) = p := ⟨_, rfl⟩
  have hp9 : p + n / 2 ≤ n := by
    rw [← hp]
    have : u * (n / 2) ≤ 1 * (n / 2) := Nat.mul_le_mul_right _ (by omega)
    omega
  have C3 : Hid (∀ W, Below w.heap.size w W → Calls Tryz.prog 46 #[.pointer (some ⟨g, 0, none⟩), .int .i64 (u : Int)] W fun e w' => e = .returned (.int .i64 (p : Int)) ∧ w' = W) := fun W e => by
    have := first18_any g b D u W (hd.on e) (by omega) (by omega)
    rw [hlen, hp] at this
    exact this
  have C4 : Hid (∀ W, _) := fun W => into18_any p g W
  have hsum : ¬ (9223372036854775807 < A.size + T.size) := by omega
  obtain ⟨LD, hLD⟩ : ∃ LD, A ++ T = LD := ⟨_, rfl⟩
  have hls : LD.size = A.size + T.size := by rw [← hLD]; exact ByteArray.size_append
  rw [hLD]
  obtain ⟨q, hq⟩ : ∃ q, 64 * (n / 2 - 1) = q := ⟨_, rfl⟩
  rw [hq] at C2
  have d1 : ¬ ((q : Int) < (LD.size : Int)) := by omega
  obtain ⟨Q, hQ⟩ : ∃ Q, (LD.size + 63) / 64 = Q := ⟨_, rfl⟩
  have C5 : Hid (∀ W, Calls Tryz.prog 47 #[.int .i64 (LD.size : Int)] W fun e w' => e = .returned (.int .i64 (Q : Int)) ∧ w' = W) := fun W => by rw [← hQ]; exact blocks18_any LD.size W (by omega)
  have r4 : Int.tdiv (A.size : Int) 64 = ((A.size / 64 : Nat) : Int) := by rw [show (64 : Int) = ((64 : Nat) : Int) from rfl, ← Int.ofNat_tdiv]
  obtain ⟨m, hm⟩ : ∃ m, A.size / 64 = m := ⟨_, rfl⟩
  rw [hm] at r4 ⊢
  have hmQ : m ≤ Q := by omega
  have hQn : Q + 1 ≤ n / 2 := by omega
  obtain ⟨R, HR⟩ : ∃ R, Hid (R = writesP D turn m LD) := ⟨_, rfl⟩
  have HR2 : Hid (R = if (wrsF (filB LD) p (Q - m) m D).2 = 0 then writeB (wrsF (filB LD) p (Q - m) m D).1 p (hdB (turn : Int) LD) else wrsF (filB LD) p (Q - m) m D) := by
    show _ = _
    rw [HR.out]
    unfold writesP
    simp only
    rw [hu, hlen, hp, hQ]
  rw [← HR.out]
  have HG : Hid (∀ W, KeptS (Tri gs g b) w W → GlobB W ∧ GlobK W) := fun W e => by
    obtain ⟨F, e1, e2, _⟩ := hd
    exact ⟨hB.keptS e (fun hh => by
      rcases hh with hh | hh | hh
      · exact hB.other h.1 rfl hh
      · exact hB.other e1 rfl hh
      · exact hB.otherRow e2 (by omega) hh), hK.keptS e (fun hh => by
      rcases hh with hh | hh | hh
      · exact hK.other h.1 rfl hh
      · exact hK.other e1 rfl hh
      · exact hK.otherRow e2 (by omega) hh)⟩
  have HS : Hid (∀ W, Below w.heap.size w W → W.cell? ⟨gs, 1, none⟩ = some (.pointer (some ⟨g, 0, none⟩))) := fun W e => (h.1.on e).cell 1
  have HW0 : Hid (∀ W cw cf, Below w.heap.size w W → TelS W cw cf g p → WrW w W gs g b cw cf p D X.2.2.1 X.2.2.2) := fun W cw cf e ht => ⟨hd.on e, h.1.on e, ht, (KeptS.ofBelow e).sub (fun _ e => e.elim)⟩
  have HL : Hid (g < w.heap.size ∧ b < w.heap.size) := hd.lt
  have HD0 : Hid (DvO n c0 D) := hD
  obtain ⟨tx, AX, hX1, hX2⟩ : ∃ tx AX, tx = X.2.2.1 ∧ AX = X.2.2.2 := ⟨_, _, rfl, rfl⟩
  rw [← hX1, ← hX2] at HW0
  have Hq : Hid ((LD.size + 63) / 64 = Q ∧ m = A.size / 64) := ⟨hQ, hm.symm⟩
  have hLb : LD.size ≤ 65536 := by omega
  have hqb : q ≤ 65536 := by omega
  clear h hd hD hB hK hX1 hX2 hT HR hp hu hq hQ hm hls hz
  go_enter Tryz.func31, Tryz.ntmps31
  go_wp2_with fail
  refine (C1.out _).mono ?_
  rintro e w1 ⟨rfl, hb1⟩
  have B1 : Hid (Below w.heap.size w w1) := hb1
  have c1 := HS.out w1 hb1
  clear hb1
  go_wp2_with fail
  refine (C2.out _ B1.out).mono ?_
  rintro e w2 ⟨rfl, hw2⟩
  subst hw2
  clear C1 C2
  have hS0 : w2.drew.cell? ⟨gs, 1, none⟩ = some (.pointer (some ⟨g, 0, none⟩)) := HS.out _ B1.out.drew
  go_wp2_with fail
  refine wp_region_noPanic ?_
  refine wp_region_held_drew (S := fun W => W.cell? ⟨gs, 1, none⟩ = some (.pointer (some ⟨g, 0, none⟩))) (by kernel_rfl) (by first | exact trivial | assumption | exact ⟨by assumption, by assumption⟩) (fun hHeld => ?_)
  refine take_at (i := 0) (v := ?_) rfl rfl (by kernel_rfl) (by kernel_rfl) (by kernel_rfl) (fun _ _ _ h => h) (Or.inl ⟨by rfl, ?_⟩) (by assumption) ?_
  rotate_left
  · intro w hSw; (try dsimp only at hSw); go_simp; try with_reducible rfl
  try simp only [Act.put, List.setIfInBounds_toArray, List.set_cons_zero, List.set_cons_succ]
  refine take_at (i := 1) (v := ?_) rfl rfl (by kernel_rfl) (by kernel_rfl) (by kernel_rfl) (fun _ _ _ h => h) (Or.inl ⟨by rfl, ?_⟩) (by assumption) ?_
  rotate_left
  · intro w hSw; (try dsimp only at hSw); go_simp; try with_reducible rfl
  try simp only [Act.put, List.setIfInBounds_toArray, List.set_cons_zero, List.set_cons_succ]
  refine take_at (i := 2) (v := ?_) rfl rfl (by kernel_rfl) (by kernel_rfl) (by kernel_rfl) (fun _ _ _ h => h) (Or.inl ⟨by rfl, ?_⟩) (by assumption) ?_
  rotate_left
  · intro w hSw; (try dsimp only at hSw); go_simp; try with_reducible rfl
  try simp only [Act.put, List.setIfInBounds_toArray, List.set_cons_zero, List.set_cons_succ]
  refine take_at (i := 3) (v := ?_) rfl rfl (by kernel_rfl) (by kernel_rfl) (by kernel_rfl) (fun _ _ _ h => h) (Or.inl ⟨by rfl, ?_⟩) (by assumption) ?_
  rotate_left
  · intro w hSw; (try dsimp only at hSw); go_simp; try with_reducible rfl
  try simp only [Act.put, List.setIfInBounds_toArray, List.set_cons_zero, List.set_cons_succ]
  refine take_at (i := 4) (v := ?_) rfl rfl (by kernel_rfl) (by kernel_rfl) (by kernel_rfl) (fun _ _ _ h => h) (Or.inl ⟨by rfl, ?_⟩) (by assumption) ?_
  rotate_left
  · intro w hSw; (try dsimp only at hSw); go_simp; try with_reducible rfl
  try simp only [Act.put, List.setIfInBounds_toArray, List.set_cons_zero, List.set_cons_succ]
  refine take_at (i := 5) (v := ?_) rfl rfl (by kernel_rfl) (by kernel_rfl) (by kernel_rfl) (fun _ _ _ h => h) (Or.inl ⟨by rfl, ?_⟩) (by assumption) ?_
  rotate_left
  · intro w hSw; (try dsimp only at hSw); go_simp; try with_reducible rfl
  try simp only [Act.put, List.setIfInBounds_toArray, List.set_cons_zero, List.set_cons_succ]
  refine take_at (i := 7) (v := ?_) rfl rfl (by kernel_rfl) (by kernel_rfl) (by kernel_rfl) (fun _ _ _ h => h) (Or.inl ⟨by rfl, ?_⟩) (by assumption) ?_
  rotate_left
  · intro w hSw; (try dsimp only at hSw); go_simp; try with_reducible rfl
  try simp only [Act.put, List.setIfInBounds_toArray, List.set_cons_zero, List.set_cons_succ]
  refine take_at (i := 8) (v := ?_) rfl rfl (by kernel_rfl) (by kernel_rfl) (by kernel_rfl) (fun _ _ _ h => h) (Or.inl ⟨by rfl, ?_⟩) (by assumption) ?_
  rotate_left
  · intro w hSw; (try dsimp only at hSw); go_simp; try with_reducible rfl
  try simp only [Act.put, List.setIfInBounds_toArray, List.set_cons_zero, List.set_cons_succ]
  refine take_at (i := 9) (v := ?_) rfl rfl (by kernel_rfl) (by kernel_rfl) (by kernel_rfl) (fun _ _ _ h => h) (Or.inl ⟨by rfl, ?_⟩) (by assumption) ?_
  rotate_left
  · intro w hSw; (try dsimp only at hSw); go_simp; try with_reducible rfl
  try simp only [Act.put, List.setIfInBounds_toArray, List.set_cons_zero, List.set_cons_succ]
  refine take_at (i := 10) (v := ?_) rfl rfl (by kernel_rfl) (by kernel_rfl) (by kernel_rfl) (fun _ _ _ h => h) (Or.inl ⟨by rfl, ?_⟩) (by assumption) ?_
  rotate_left
  · intro w hSw; (try dsimp only at hSw); go_simp; try with_reducible rfl
  try simp only [Act.put, List.setIfInBounds_toArray, List.set_cons_zero, List.set_cons_succ]
  refine take_at (i := 11) (v := ?_) rfl rfl (by kernel_rfl) (by kernel_rfl) (by kernel_rfl) (fun _ _ _ h => h) (Or.inl ⟨by rfl, ?_⟩) (by assumption) ?_
  rotate_left
  · intro w hSw; (try dsimp only at hSw); go_simp; try with_reducible rfl
  try simp only [Act.put, List.setIfInBounds_toArray, List.set_cons_zero, List.set_cons_succ]
  refine wpAnyH_ready (rs := [6]) (by kernel_rfl) (by simp) ?_
  refine AllReadyH.cons rfl (fun K hK => ?_) AllReadyH.nil
  go_simp
  refine (C3.out _ B1.out.drew).mono ?_
  rintro e w3 ⟨rfl, hw3⟩
  subst hw3
  refine hK.out _ _ hS0 (fun hHeld => ?_)
  clear hK K
  refine wpAnyH_ready (rs := [12]) (by kernel_rfl) (by simp) ?_
  refine AllReadyH.cons rfl (fun K hK => ?_) AllReadyH.nil
  go_simp
  refine (C4.out _).mono ?_
  rintro e w4 ⟨cw, cf, rfl, ht4, h41, h42, hb4⟩
  have B4 : Hid (Below w.heap.size w w4) := below_step B1.out.drew (Nat.le_refl _) hb4
  have X4 : Hid (cw ≠ g ∧ cw ≠ b ∧ cf ≠ g ∧ cf ≠ b) := by
    have h9 := B1.out.drew.size
    have h8 := HL.out
    exact ⟨by omega, by omega, by omega, by omega⟩
  have W4 : Hid (WrW w w4 gs g b cw cf p D tx AX) := HW0.out w4 cw cf B4.out ht4
  have hS4 := HS.out _ B4.out
  clear ht4 h41 h42 hb4 C3 C4 HW0 B1 B4 HL
  refine hK.out _ _ hS4 (fun hHeld => ?_)
  clear hK K
  refine take_at (i := 13) (v := ?_) rfl rfl (by kernel_rfl) (by kernel_rfl) (by kernel_rfl) (fun _ _ _ h => h) (Or.inl ⟨by rfl, ?_⟩) (by assumption) ?_
  rotate_left
  · intro w hSw; (try dsimp only at hSw); go_simp; try with_reducible rfl
  try simp only [Act.put, List.setIfInBounds_toArray, List.set_cons_zero, List.set_cons_succ]
  refine wpAnyH_done (by kernel_rfl) (NoPanic.normal ?_) _
  clear hS4 hS0 HS c1 d0 d1 r3
  have Hw0 : Hid (wrsF (filB LD) p (Q - m) m D = wrsF (filB LD) p (Q - m) m D) := rfl
  go_wp2_with fail
  go_loopw [11] (fun v wr => ∃ (k : Nat) (E : DevT), m ≤ k ∧ k ≤ Q ∧ v = .int .i64 k ∧ Hid (WrW w wr gs g b cw cf p E tx AX) ∧ Hid (DvO n (c0 + (k : Int)) E) ∧ Hid (wrsF (filB LD) p (Q - m) m D = wrsF (filB LD) p (Q - k) k E)) (fun v _ => Q - (intOf v).toNat)
  case atStart => exact ⟨m, D, Nat.le_refl _, hmQ, rfl, W4, HD0.out.mono (by omega), rfl⟩
  case round =>
    clear W4 HD0
    obtain ⟨k, E, hk1, hk2, rfl, HW, HD, HE⟩ := hrel
    by_cases hlt : k < Q
    · have e0 : (k : Int) < (Q : Int) := by omega
      obtain ⟨v, hv⟩ : ∃ v, min (64 * k + 64) LD.size = v := ⟨_, rfl⟩
      have hQ9 := Hq.out.1
      have hmn : min (((k : Int) + 1) * 64) (LD.size : Int) = (v : Int) := by omega
      have hv1 : (k : Int) * 64 ≤ (v : Int) := by omega
      have hv2 : v ≤ LD.size := by omega
      have eB : fl18 (LD.extract (k * 64) v) = blkB (filB LD) k := by
        rw [← hv, Nat.mul_comm k 64]
        exact fl18_blk LD k (by omega)
      have CT : Hid (∀ W, W = wr → Calls Tryz.prog 66 #[.int .i64 (1 + (k : Int)), .string (LD.extract (k * 64) v), .pointer (some ⟨cw, 0, none⟩), .pointer (some ⟨cf, 0, none⟩)] W fun e w' => e = .returned (.int .i64 (writeB E (p + 1 + k) (blkB (filB LD) k)).2) ∧ WrW w w' gs g b cw cf p (writeB E (p + 1 + k) (blkB (filB LD) k)).1 tx AX) := fun W e => by
        subst e
        have h := tellw18_any cw cf p g b E n (c0 + (k : Int)) (1 + k) (LD.extract (k * 64) v) _ HW.out.t X4.out HW.out.d HD.out (by omega) (by omega) (by omega) (by rw [← hv, Nat.mul_comm k 64]; exact blk_short LD k)
        rw [eB, show p + (1 + k) = p + 1 + k by omega, show ((1 + k : Nat) : Int) = 1 + (k : Int) by omega] at h
        refine h.mono ?_
        rintro e w' ⟨h1, h2⟩
        exact ⟨h1, HW.out.to X4.out x1 x2 h2⟩
      have HD2 : Hid (DvO n (c0 + ((k + 1 : Nat) : Int)) (writeB E (p + 1 + k) (blkB (filB LD) k)).1) := (HD.out.wr (p + 1 + k) (blkB (filB LD) k)).mono (by omega)
      have HE2 : Hid (wrsF (filB LD) p (Q - m) m D = if (writeB E (p + 1 + k) (blkB (filB LD) k)).2 = 0 then wrsF (filB LD) p (Q - (k + 1)) (k + 1) (writeB E (p + 1 + k) (blkB (filB LD) k)).1 else writeB E (p + 1 + k) (blkB (filB LD) k)) := by
        show _ = _
        rw [HE.out, show Q - k = Q - (k + 1) + 1 by omega]
        exact wrsF_step _ _ _ _ _
      obtain ⟨⟨E2, z⟩, hz⟩ : ∃ z, writeB E (p + 1 + k) (blkB (filB LD) k) = z := ⟨_, rfl⟩
      rw [hz] at CT HD2 HE2
      simp only at CT
      clear hQ9 eB hz HE HD HW
      go_wp2_with fail
      refine (C5.out _).mono ?_
      rintro e W1 ⟨rfl, hW1⟩
      subst hW1
      go_wp2_with fail
      refine (CT.out _ rfl).mono ?_
      rintro e W2 ⟨rfl, hW2⟩
      have HW2 : Hid (WrW w W2 gs g b cw cf p E2 tx AX) := hW2
      clear hW2 CT
      by_cases hc0 : z = 0
      · subst hc0
        have HE3 : Hid (wrsF (filB LD) p (Q - m) m D = wrsF (filB LD) p (Q - (k + 1)) (k + 1) E2) := by
          show _ = _
          rw [HE2.out]
          exact if_pos rfl
        clear HE2
        go_wp2_with fail
        refine ⟨⟨k + 1, E2, by omega, by omega, by rfl, HW2, HD2, HE3⟩, ?_⟩
        show Q - (k + 1) < Q - k
        omega
      · have q9 : (z != 0) = true := by rw [bne_iff_ne]; exact hc0
        have E9 : Hid (R = (E2, z)) := by
          show _ = _
          have h8 : wrsF (filB LD) p (Q - m) m D = (E2, z) := by rw [HE2.out]; exact if_neg hc0
          rw [HR2.out, h8]
          exact if_neg hc0
        clear HE2 HR2
        go_wp2_with fail
        go_ret
        rw [E9.out]
        exact ⟨rfl, HW2.out.d, HW2.out.k, fun e => absurd e hc0⟩
    · have e0 : ¬ ((k : Int) < (Q : Int)) := by omega
      obtain rfl : k = Q := by omega
      have HE3 : Hid (wrsF (filB LD) p (k - m) m D = (E, 0)) := by
        show _ = _
        rw [HE.out, Nat.sub_self]; rfl
      have CH : Hid (∀ W, W = wr → Calls Tryz.prog 48 #[.int .i64 (turn : Int), .string LD] W fun e w' => e = .returned (.string (hd0 (turn : Int) LD)) ∧ WrW w w' gs g b cw cf p E tx AX) := fun W e => by
        subst e
        have hg := HG.out _ HW.out.k
        refine (head18_any (turn : Int) LD _ (by omega) (by omega) (by omega) hg.1 hg.2).mono ?_
        rintro e w' ⟨h1, h2⟩
        exact ⟨h1, HW.out.on h2⟩
      have CT : Hid (∀ W, WrW w W gs g b cw cf p E tx AX → Calls Tryz.prog 66 #[.int .i64 0, .string (hd0 (turn : Int) LD), .pointer (some ⟨cw, 0, none⟩), .pointer (some ⟨cf, 0, none⟩)] W fun e w' => e = .returned (.int .i64 (writeB E p (hdB (turn : Int) LD)).2) ∧ WrW w w' gs g b cw cf p (writeB E p (hdB (turn : Int) LD)).1 tx AX) := fun W hW => by
        have h := tellw18_any cw cf p g b E n (c0 + (k : Int)) 0 (hd0 (turn : Int) LD) W hW.t X4.out hW.d HD.out (by omega) (by omega) (by omega) (by rw [hd0_size]; decide)
        rw [hd0_fl, Nat.add_zero] at h
        refine h.mono ?_
        rintro e w' ⟨h1, h2⟩
        exact ⟨h1, hW.to X4.out x1 x2 h2⟩
      have E9 : Hid (R = writeB E p (hdB (turn : Int) LD)) := by
        show _ = _
        rw [HR2.out, HE3.out]
        exact if_pos rfl
      rw [← E9.out] at CT
      obtain ⟨HH, hHH⟩ : ∃ HH, hd0 (turn : Int) LD = HH := ⟨_, rfl⟩
      rw [hHH] at CH CT
      obtain ⟨R1, R2⟩ := R
      simp only at CT
      clear hHH E9 HE3 HE HR2
      go_wp2_with fail
      refine (C5.out _).mono ?_
      rintro e W1 ⟨rfl, hW1⟩
      subst hW1
      go_wp2_with fail
      refine (CH.out _ rfl).mono ?_
      rintro e W2 ⟨rfl, hW2⟩
      have HW2 : Hid (WrW w W2 gs g b cw cf p E tx AX) := hW2
      clear hW2 CH HW
      go_wp2_with fail
      refine (CT.out _ HW2.out).mono ?_
      rintro e W3 ⟨rfl, hW3⟩
      have HW3 : Hid (WrW w W3 gs g b cw cf p R1 tx AX) := hW3
      clear hW3 CT HW2
      by_cases hc0 : R2 = 0
      · subst hc0
        have f2 := HW3.out.s.free 2
        have f3 := HW3.out.s.free 3
        have k2 : W3.cell? ⟨gs, 2, none⟩ = some (.int .i64 tx) := HW3.out.s.cell 2
        have k3 : W3.cell? ⟨gs, 3, none⟩ = some (.string AX) := HW3.out.s.cell 3
        go_wp2_with fail
        go_ret
        have h9 := HW3.out.set x1 x2 (((Kept2.refl gs none W3).setCell ⟨gs, 2, none⟩ rfl (.int .i64 (turn : Int))).setCell ⟨gs, 3, none⟩ rfl (.string LD))
        exact ⟨rfl, h9.1, h9.2, (HW3.out.s.setAt 2 _).setAt 3 _⟩
      · have q9 : (R2 != 0) = true := by rw [bne_iff_ne]; exact hc0
        go_wp2_with fail
        go_ret
        exact ⟨rfl, HW3.out.d, HW3.out.k⟩

end Go.Proofs.YtaakmcihpdbilaaGreatDoor

/- Layer 18, the code's: Add, Lay; the store as the laws want it. -/
namespace Go.Proofs.YtaakmcihpdbilaaGreatDoor
open Go.RowKit
set_option maxRecDepth 100000
set_option linter.unusedSimpArgs false
set_option linter.unusedVariables false
set_option maxRecDepth 100000

/-- A call of write, any. -/
theorem write18_any (gs g b : Nat) (S : Nat → Prop) (X : StoT) (D : DevT) (n : Nat) (c0 : Int) (turn : Nat) (A t : ByteArray) (w : World) (h : StC w S gs g X) (hd : DevAt w g b D) (hD : DvO n c0 D) (hn2 : 2 ≤ n) (hn9 : n ≤ 2048) (hc : c0 < 576460752303423488) (hA : A.size ≤ 65536) (ht9 : turn ≤ 1099511627775) (x1 : gs ≠ g) (x2 : gs ≠ b) (hB : GlobB w) (hK : GlobK w) :
    Calls Tryz.prog 31 #[.pointer (some ⟨gs, 0, none⟩), .int .i64 (turn : Int), .string A, .string t] w fun e w' =>
      e = .returned (.int .i64 (wrP18 D turn A t).2) ∧ DevAt w' g b (wrP18 D turn A t).1 ∧ KeptS (Tri gs g b) w w' ∧
      ((wrP18 D turn A t).2 = 0 → Blk w' 72 gs #[.pointer (some ⟨gs, 0, none⟩), .pointer (some ⟨g, 0, none⟩), .int .i64 (turn : Int), .string (A ++ txB t)]) ∧ ((wrP18 D turn A t).2 = 2 → StC w' S gs g X) := by
  by_cases hf : 32768 < t.size ∨ ¬ ((A.size + (t.size + 2) + 63) / 64 + 1 ≤ n / 2)
  · have e : wrP18 D turn A t = (D, 2) := by unfold wrP18; rw [hD.len]; exact if_pos hf
    rw [e]
    refine (write18_full gs g b S X D n turn A t w h hd hD.len hn2 hn9 hA hf).mono ?_
    rintro x w' ⟨h1, h2⟩
    exact ⟨h1, hd.on h2, (KeptS.ofBelow h2).sub (fun _ e => e.elim), (fun e => by cases e), (fun _ => ⟨h.1.on h2, h.2⟩)⟩
  · have e : wrP18 D turn A t = writesP D turn (A.size / 64) (A ++ txB t) := by unfold wrP18; rw [hD.len]; exact if_neg hf
    rw [e]
    have h1 : ¬ 32768 < t.size := fun e => hf (.inl e)
    have h2 : (A.size + (t.size + 2) + 63) / 64 + 1 ≤ n / 2 := by
      rcases Nat.lt_or_ge (n / 2) ((A.size + (t.size + 2) + 63) / 64 + 1) with h' | h'
      · exact absurd (.inr (by omega)) hf
      · exact h'
    refine (write18_yes gs g b S X D n c0 turn A t w h hd hD hn2 hn9 hc hA h1 h2 ht9 x1 x2 hB hK).mono ?_
    rintro x w' ⟨a1, a2, a3, a4⟩
    refine ⟨a1, a2, a3, a4, fun e => ?_⟩
    rcases writesP_two D turn (A.size / 64) (A ++ txB t) with h' | h' <;> rw [h'] at e <;> cases e

theorem add_wr (D : DevT) (X : StoT) (t : ByteArray) (h0 : X.2.2.1 ≠ 0) : (addP D X t).1 = (wrP18 D X.2.2.1.toNat X.2.2.2 t).1 ∧ (addP D X t).2.2 = (wrP18 D X.2.2.1.toNat X.2.2.2 t).2 ∧ (addP D X t).2.1 = if (wrP18 D X.2.2.1.toNat X.2.2.2 t).2 = 0 then (X.1, X.2.1 ++ [t], X.2.2.1, X.2.2.2 ++ txB t) else X := by
  unfold addP wrP18
  by_cases hf : 32768 < t.size ∨ ¬ ((X.2.2.2.size + (t.size + 2) + 63) / 64 + 1 ≤ D.1.length / 2)
  · rw [if_pos (.inr hf), if_pos hf]; exact ⟨rfl, rfl, rfl⟩
  · rw [if_neg (fun e => e.elim h0 hf), if_neg hf]
    simp only
    by_cases hr : (writesP D X.2.2.1.toNat (X.2.2.2.size / 64) (X.2.2.2 ++ txB t)).2 = 0
    · rw [if_pos hr, if_pos hr]; exact ⟨rfl, hr.symm, rfl⟩
    · rw [if_neg hr, if_neg hr]; exact ⟨rfl, rfl, rfl⟩
theorem lay_wr (D : DevT) (X : StoT) (t : ByteArray) (h0 : ¬ 1099511627775 ≤ X.2.2.1) : (layS D X t).1 = (wrP18 D (X.2.2.1 + 1).toNat ⟨#[]⟩ t).1 ∧ (layS D X t).2.2 = (wrP18 D (X.2.2.1 + 1).toNat ⟨#[]⟩ t).2 ∧ (layS D X t).2.1 = if (wrP18 D (X.2.2.1 + 1).toNat ⟨#[]⟩ t).2 = 0 then (t, [], X.2.2.1 + 1, txB t) else X := by
  have ea : (⟨#[]⟩ : ByteArray) ++ txB t = txB t := empty_app _
  unfold layS wrP18
  rw [ea, show (⟨#[]⟩ : ByteArray).size = 0 from rfl, Nat.zero_add, Nat.zero_div]
  by_cases hf : 32768 < t.size ∨ ¬ ((t.size + 2 + 63) / 64 + 1 ≤ D.1.length / 2)
  · rw [if_pos (hf.imp id .inr), if_pos hf]; exact ⟨rfl, rfl, rfl⟩
  · rw [if_neg (fun e => by rcases e with e | e | e; · exact hf (.inl e)
                            · exact h0 e
                            · exact hf (.inr e)), if_neg hf]
    simp only
    by_cases hr : (writesP D (X.2.2.1 + 1).toNat 0 (txB t)).2 = 0
    · rw [if_pos hr, if_pos hr]; exact ⟨rfl, hr.symm, rfl⟩
    · rw [if_neg hr, if_neg hr]; exact ⟨rfl, rfl, rfl⟩

theorem stW_add (X : StoT) (t : ByteArray) (n : Nat) (h : StW X) (h0 : X.2.2.1 ≠ 0) (ht : t.size ≤ 32768) (hz : (X.2.2.2 ++ txB t).size ≤ 65536) : StW (X.1, X.2.1 ++ [t], X.2.2.1, X.2.2.2 ++ txB t) := by
  rcases h.t with e | ⟨h1, h2⟩
  · rw [e] at h0; exact absurd rfl h0
  · exact ⟨.inr ⟨h1, txs_app t ht _ _ _ (Nat.le_refl _) h2⟩, h.u, hz⟩
theorem stW_lay (X : StoT) (t : ByteArray) (h : StW X) (h0 : ¬ 1099511627775 ≤ X.2.2.1) (h1 : 0 ≤ X.2.2.1) (ht : t.size ≤ 32768) : StW (t, [], X.2.2.1 + 1, txB t) := by
  have e := txs_one t ⟨#[]⟩ ht
  rw [show txB t ++ (⟨#[]⟩ : ByteArray) = txB t from ByteArray.append_empty, txsP_none ⟨#[]⟩ rfl] at e
  refine ⟨.inr ⟨by show (1 : Int) ≤ X.2.2.1 + 1; omega, e⟩, by show X.2.2.1 + 1 ≤ 1099511627775; omega, by show (txB t).size ≤ _; rw [txB_size]; omega⟩
theorem wr_room (D : DevT) (turn : Nat) (A t : ByteArray) (h : (wrP18 D turn A t).2 = 0) : t.size ≤ 32768 ∧ (A.size + (t.size + 2) + 63) / 64 + 1 ≤ D.1.length / 2 := by
  unfold wrP18 at h
  by_cases hf : 32768 < t.size ∨ ¬ ((A.size + (t.size + 2) + 63) / 64 + 1 ≤ D.1.length / 2)
  · rw [if_pos hf] at h; cases h
  · refine ⟨?_, ?_⟩
    · rcases Nat.lt_or_ge 32768 t.size with h' | h'
      · exact absurd (.inl h') hf
      · exact h'
    · rcases Nat.lt_or_ge (D.1.length / 2) ((A.size + (t.size + 2) + 63) / 64 + 1) with h' | h'
      · exact absurd (.inr (by omega)) hf
      · exact h'


set_option maxHeartbeats 2000000 in
theorem sadd_any (gs g b : Nat) (S : Nat → Prop) (X : StoT) (D : DevT) (n : Nat) (c0 : Int) (t : ByteArray) (w : World) (h : StC w S gs g X) (hd : DevAt w g b D) (hD : DvO n c0 D) (h0' : 0 ≤ X.2.2.1) (hn2 : 2 ≤ n) (hn9 : n ≤ 2048) (hc : c0 < 576460752303423488) (x1 : gs ≠ g) (x2 : gs ≠ b) (hB : GlobB w) (hK : GlobK w) :
    Calls Tryz.prog 21 #[.pointer (some ⟨gs, 0, none⟩), .string t] w fun e w' => e = .returned (.int .i64 (addP D X t).2.2) ∧ DevAt w' g b (addP D X t).1 ∧ KeptS (Tri gs g b) w w' ∧ ((addP D X t).2.2 ≠ 170 → StC w' S gs g (addP D X t).2.1) := by
  have HC : Hid (∀ w', w' = w → Calls Tryz.prog 30 #[.pointer (some ⟨gs, 0, none⟩)] w' fun e w'' => e = .returned (.bool true) ∧ w'' = w') := fun w' e => by subst e; exact sgiven_any gs g S X _ h
  have c2 : w.cell? ⟨gs, 2, none⟩ = some (.int .i64 X.2.2.1) := h.1.cell 2
  have c3 : w.cell? ⟨gs, 3, none⟩ = some (.string X.2.2.2) := h.1.cell 3
  by_cases h0 : X.2.2.1 = 0
  · have e9 : addP D X t = (D, X, 2) := by unfold addP; exact if_pos (.inl h0)
    rw [e9]
    have H : Hid (StC w S gs g X ∧ DevAt w g b D) := ⟨h, hd⟩
    rw [h0] at c2
    clear h hd e9 hB hK
    go_enter Tryz.func21, Tryz.ntmps21
    go_wp2_with fail
    refine (HC.out _ rfl).mono ?_
    rintro e w1 ⟨rfl, hw1⟩
    subst hw1
    go_wp2
    go_ret
    exact ⟨rfl, H.out.2, KeptS.refl _ _, fun _ => H.out.1⟩
  · obtain ⟨e1, e2, e3⟩ := add_wr D X t h0
    obtain ⟨u, hu⟩ : ∃ u : Nat, X.2.2.1 = (u : Int) := ⟨X.2.2.1.toNat, by omega⟩
    have hu9 := h.2.2.u
    have hb9 := h.2.2.b
    have hW := write18_any gs g b S X D n c0 u X.2.2.2 t w.drew ⟨h.1.on (Below.refl _ _).drew, h.2⟩ (hd.on (Below.refl _ _).drew) hD hn2 hn9 hc hb9 (by omega) x1 x2 (hB.below (Below.refl _ _).drew) (hK.below (Below.refl _ _).drew)
    rw [show X.2.2.1.toNat = u by omega] at e1 e2 e3
    have HF : Hid (∀ W, DevAt W g b (wrP18 D u X.2.2.2 t).1 → KeptS (Tri gs g b) w.drew W → ((wrP18 D u X.2.2.2 t).2 = 0 → Blk W 72 gs #[.pointer (some ⟨gs, 0, none⟩), .pointer (some ⟨g, 0, none⟩), .int .i64 (u : Int), .string (X.2.2.2 ++ txB t)]) → ((wrP18 D u X.2.2.2 t).2 = 2 → StC W S gs g X) → DevAt W g b (addP D X t).1 ∧ KeptS (Tri gs g b) w W ∧ ((addP D X t).2.2 ≠ 170 → StC W S gs g (addP D X t).2.1)) := fun W a1 a2 a3 a4 => by
      refine ⟨by rw [e1]; exact a1, ((KeptS.ofBelow (Below.refl _ _).drew).sub (fun _ e => e.elim)).trans a2, fun hne => ?_⟩
      rw [e2] at hne
      rw [e3]
      by_cases hz : (wrP18 D u X.2.2.2 t).2 = 0
      · rw [if_pos hz]
        obtain ⟨r1, r2⟩ := wr_room _ _ _ _ hz
        have hl := hD.len
        refine ⟨?_, h.2.1, stW_add X t n h.2.2 h0 r1 (by rw [ByteArray.size_append, txB_size]; omega)⟩
        have := a3 hz
        rw [← hu] at this
        exact this
      · rw [if_neg hz]
        refine a4 ?_
        have h3 := add_three D X t
        rw [e2] at h3
        rcases h3 with h3 | h3 | h3
        · exact absurd h3 hz
        · exact h3
        · exact absurd h3 hne
    rw [e2] at HF ⊢
    obtain ⟨z, hz⟩ : ∃ z, (wrP18 D u X.2.2.2 t).2 = z := ⟨_, rfl⟩
    rw [hz] at hW HF ⊢
    have hS : w.drew.cell? ⟨gs, 2, none⟩ = some (.int .i64 (u : Int)) ∧ w.drew.cell? ⟨gs, 3, none⟩ = some (.string X.2.2.2) := by rw [← hu]; exact ⟨(h.1.on (Below.refl _ _).drew).cell 2, (h.1.on (Below.refl _ _).drew).cell 3⟩
    have hT : True := trivial
    rw [hu] at c2
    obtain ⟨A, hA⟩ : ∃ A, X.2.2.2 = A := ⟨_, rfl⟩
    rw [hA] at c3 hS hW HF
    have CW : Hid (Calls _ _ _ _ _) := hW
    have q0 : ((u : Int) == 0) = false := by rw [beq_eq_false_iff_ne]; omega
    clear h hd hB hK e1 e2 e3 hA hW hu9 hb9 hz hu
    go_enter Tryz.func21, Tryz.ntmps21
    go_wp2_with fail
    refine (HC.out _ rfl).mono ?_
    rintro e w1 ⟨rfl, hw1⟩
    subst hw1
    go_wp2_with fail
    refine wp_region_noPanic ?_
    refine till_begin 10 (fun W => W.cell? ⟨gs, 2, none⟩ = some (.int .i64 (u : Int)) ∧ W.cell? ⟨gs, 3, none⟩ = some (.string A)) (fun _ => True) (by kernel_rfl) ?_
    refine till_take (i := 0) (v := ?_) rfl rfl (by kernel_rfl) (by kernel_rfl) (by kernel_rfl) rfl (fun _ _ _ h => h) (Or.inl ⟨by rfl, ?_⟩) (by assumption) (fun _ => by assumption) ?_
    rotate_left
    · intro w hSw; (try dsimp only at hSw); go_simp; try with_reducible rfl
    try simp only [Act.put, List.setIfInBounds_toArray, List.set_cons_zero, List.set_cons_succ]
    refine till_take (i := 1) (v := ?_) rfl rfl (by kernel_rfl) (by kernel_rfl) (by kernel_rfl) rfl (fun _ _ _ h => h) (Or.inl ⟨by rfl, ?_⟩) (by assumption) (fun _ => by assumption) ?_
    rotate_left
    · intro w hSw; (try dsimp only at hSw); go_simp; try with_reducible rfl
    try simp only [Act.put, List.setIfInBounds_toArray, List.set_cons_zero, List.set_cons_succ]
    refine till_take (i := 2) (v := ?_) rfl rfl (by kernel_rfl) (by kernel_rfl) (by kernel_rfl) rfl (fun _ _ _ h => h) (Or.inl ⟨by rfl, ?_⟩) (by assumption) (fun _ => by assumption) ?_
    rotate_left
    · intro w hSw; (try dsimp only at hSw); go_simp; try with_reducible rfl
    try simp only [Act.put, List.setIfInBounds_toArray, List.set_cons_zero, List.set_cons_succ]
    refine till_take (i := 3) (v := ?_) rfl rfl (by kernel_rfl) (by kernel_rfl) (by kernel_rfl) rfl (fun _ _ _ h => h) (Or.inl ⟨by rfl, ?_⟩) (by assumption) (fun _ => by assumption) ?_
    rotate_left
    · intro w hSw; (try dsimp only at hSw); go_simp; try with_reducible rfl
    try simp only [Act.put, List.setIfInBounds_toArray, List.set_cons_zero, List.set_cons_succ]
    refine till_take (i := 5) (v := ?_) rfl rfl (by kernel_rfl) (by kernel_rfl) (by kernel_rfl) rfl (fun _ _ _ h => h) (Or.inl ⟨by rfl, ?_⟩) (by assumption) (fun _ => by assumption) ?_
    rotate_left
    · intro w hSw; (try dsimp only at hSw); go_simp; try with_reducible rfl
    try simp only [Act.put, List.setIfInBounds_toArray, List.set_cons_zero, List.set_cons_succ]
    refine till_take (i := 6) (v := ?_) rfl rfl (by kernel_rfl) (by kernel_rfl) (by kernel_rfl) rfl (fun _ _ _ h => h) (Or.inl ⟨by rfl, ?_⟩) (by assumption) (fun _ => by assumption) ?_
    rotate_left
    · intro w hSw; (try dsimp only at hSw); go_simp; try with_reducible rfl
    try simp only [Act.put, List.setIfInBounds_toArray, List.set_cons_zero, List.set_cons_succ]
    refine till_take (i := 7) (v := ?_) rfl rfl (by kernel_rfl) (by kernel_rfl) (by kernel_rfl) rfl (fun _ _ _ h => h) (Or.inl ⟨by rfl, ?_⟩) (by assumption) (fun _ => by assumption) ?_
    rotate_left
    · intro w hSw; (try dsimp only at hSw); go_simp; try with_reducible rfl
    try simp only [Act.put, List.setIfInBounds_toArray, List.set_cons_zero, List.set_cons_succ]
    refine till_take (i := 9) (v := ?_) rfl rfl (by kernel_rfl) (by kernel_rfl) (by kernel_rfl) rfl (fun _ _ _ h => h) (Or.inl ⟨by rfl, ?_⟩) (by assumption) (fun _ => by assumption) ?_
    rotate_left
    · intro w hSw; (try dsimp only at hSw); go_simp; try with_reducible rfl
    try simp only [Act.put, List.setIfInBounds_toArray, List.set_cons_zero, List.set_cons_succ]
    refine till_take' (i := 4) (v := ?_) rfl rfl (by kernel_rfl) (by kernel_rfl) (by kernel_rfl) rfl (by kernel_rfl) (by kernel_rfl) (fun _ _ _ h => h) (Or.inl ⟨by rfl, ?_⟩) (by assumption) (by assumption) ?_
    rotate_left
    · intro w hSw; (try dsimp only at hSw); go_simp; try with_reducible rfl
    try simp only [Act.put, List.setIfInBounds_toArray, List.set_cons_zero, List.set_cons_succ]
    refine till_take' (i := 8) (v := ?_) rfl rfl (by kernel_rfl) (by kernel_rfl) (by kernel_rfl) rfl (by kernel_rfl) (by kernel_rfl) (fun _ _ _ h => h) (Or.inl ⟨by rfl, ?_⟩) (by assumption) (by assumption) ?_
    rotate_left
    · intro w hSw; (try dsimp only at hSw); go_simp; try with_reducible rfl
    try simp only [Act.put, List.setIfInBounds_toArray, List.set_cons_zero, List.set_cons_succ]
    refine till_step (i := 10) (by kernel_rfl) rfl (fun K hK => ?_)
    go_simp
    refine CW.out.mono ?_
    rintro e w2 ⟨rfl, a1, a2, a3, a4⟩
    have HF2 : Hid _ := HF.out w2 a1 a2 a3 a4
    clear a1 a2 a3 a4 CW HF hS c2 c3
    refine hK.out _ _ (hT) (fun h => till_no (by kernel_rfl) h) ?_
    clear hK K
    refine till_take (i := 11) (v := ?_) rfl rfl (by kernel_rfl) (by kernel_rfl) (by kernel_rfl) rfl (fun _ _ _ h => h) (Or.inl ⟨by rfl, ?_⟩) (by assumption) (fun h => till_no (by kernel_rfl) h) ?_
    rotate_left
    · intro w hSw; (try dsimp only at hSw); go_simp; try with_reducible rfl
    try simp only [Act.put, List.setIfInBounds_toArray, List.set_cons_zero, List.set_cons_succ]
    refine till_done (by kernel_rfl) (NoPanic.normal ?_) _
    go_wp2_with fail
    go_ret
    exact ⟨rfl, HF2.out⟩

set_option maxHeartbeats 2000000 in
theorem slay_any (gs g b : Nat) (S : Nat → Prop) (X : StoT) (D : DevT) (n : Nat) (c0 : Int) (t : ByteArray) (w : World) (h : StC w S gs g X) (hd : DevAt w g b D) (hD : DvO n c0 D) (h0' : 0 ≤ X.2.2.1) (hn2 : 2 ≤ n) (hn9 : n ≤ 2048) (hc : c0 < 576460752303423488) (x1 : gs ≠ g) (x2 : gs ≠ b) (hB : GlobB w) (hK : GlobK w) :
    Calls Tryz.prog 12 #[.pointer (some ⟨gs, 0, none⟩), .string t] w fun e w' => e = .returned (.int .i64 (layS D X t).2.2) ∧ DevAt w' g b (layS D X t).1 ∧ KeptS (Tri gs g b) w w' ∧ ((layS D X t).2.2 ≠ 170 → StC w' S gs g (layS D X t).2.1) := by
  have HC : Hid (∀ w', w' = w → Calls Tryz.prog 30 #[.pointer (some ⟨gs, 0, none⟩)] w' fun e w'' => e = .returned (.bool true) ∧ w'' = w') := fun w' e => by subst e; exact sgiven_any gs g S X _ h
  have c2 : w.cell? ⟨gs, 2, none⟩ = some (.int .i64 X.2.2.1) := h.1.cell 2
  have hu9 := h.2.2.u
  by_cases h0 : 1099511627775 ≤ X.2.2.1
  · have e9 : layS D X t = (D, X, 2) := by unfold layS; exact if_pos (.inr (.inl h0))
    rw [e9]
    have H : Hid (StC w S gs g X ∧ DevAt w g b D) := ⟨h, hd⟩
    rw [show X.2.2.1 = 1099511627775 by omega] at c2
    clear h hd e9 hB hK
    go_enter Tryz.func12, Tryz.ntmps12
    go_wp2_with fail
    refine (HC.out _ rfl).mono ?_
    rintro e w1 ⟨rfl, hw1⟩
    subst hw1
    go_wp2
    go_ret
    exact ⟨rfl, H.out.2, KeptS.refl _ _, fun _ => H.out.1⟩
  · obtain ⟨e1, e2, e3⟩ := lay_wr D X t h0
    obtain ⟨u, hu⟩ : ∃ u : Nat, X.2.2.1 = (u : Int) := ⟨X.2.2.1.toNat, by omega⟩
    have hW := write18_any gs g b S X D n c0 (u + 1) ⟨#[]⟩ t w h hd hD hn2 hn9 hc (by show 0 ≤ 65536; decide) (by omega) x1 x2 hB hK
    rw [show (X.2.2.1 + 1).toNat = u + 1 by omega] at e1 e2 e3
    have HF : Hid (∀ W, DevAt W g b (wrP18 D (u + 1) ⟨#[]⟩ t).1 → KeptS (Tri gs g b) w W → ((wrP18 D (u + 1) ⟨#[]⟩ t).2 = 0 → Blk W 72 gs #[.pointer (some ⟨gs, 0, none⟩), .pointer (some ⟨g, 0, none⟩), .int .i64 ((u + 1 : Nat) : Int), .string (⟨#[]⟩ ++ txB t)]) → ((wrP18 D (u + 1) ⟨#[]⟩ t).2 = 2 → StC W S gs g X) → DevAt W g b (layS D X t).1 ∧ KeptS (Tri gs g b) w W ∧ ((layS D X t).2.2 ≠ 170 → StC W S gs g (layS D X t).2.1)) := fun W a1 a2 a3 a4 => by
      refine ⟨by rw [e1]; exact a1, a2, fun hne => ?_⟩
      rw [e2] at hne
      rw [e3]
      by_cases hz : (wrP18 D (u + 1) ⟨#[]⟩ t).2 = 0
      · rw [if_pos hz]
        obtain ⟨r1, r2⟩ := wr_room _ _ _ _ hz
        refine ⟨?_, h.2.1, stW_lay X t h.2.2 h0 h0' r1⟩
        have := a3 hz
        rw [show (⟨#[]⟩ : ByteArray) ++ txB t = txB t from empty_app _, show ((u + 1 : Nat) : Int) = X.2.2.1 + 1 by omega] at this
        exact this
      · rw [if_neg hz]
        refine a4 ?_
        have h3 := lay_three D X t
        rw [e2] at h3
        rcases h3 with h3 | h3 | h3
        · exact absurd h3 hz
        · exact h3
        · exact absurd h3 hne
    rw [e2] at HF ⊢
    obtain ⟨z, hz⟩ : ∃ z, (wrP18 D (u + 1) ⟨#[]⟩ t).2 = z := ⟨_, rfl⟩
    rw [hz] at hW HF ⊢
    rw [hu] at c2
    rw [show ((u + 1 : Nat) : Int) = (u : Int) + 1 by omega] at hW HF
    have CW : Hid (Calls _ _ _ _ _) := hW
    have q0 : ((u : Int) == 1099511627775) = false := by rw [beq_eq_false_iff_ne]; omega
    have hu1 : u < 1099511627775 := by omega
    clear h hd hB hK e1 e2 e3 hW hu9 hz hu
    go_enter Tryz.func12, Tryz.ntmps12
    go_wp2_with fail
    refine (HC.out _ rfl).mono ?_
    rintro e w1 ⟨rfl, hw1⟩
    subst hw1
    go_wp2_with fail
    refine CW.out.mono ?_
    rintro e w2 ⟨rfl, a1, a2, a3, a4⟩
    have HF2 : Hid _ := HF.out w2 a1 a2 a3 a4
    clear a1 a2 a3 a4 CW HF c2
    go_wp2_with fail
    go_ret
    exact ⟨rfl, HF2.out⟩

theorem stC_sto (w0 : World) (hB : GlobB w0) (hK : GlobK w0) : Sto18 StC w0 := by
  refine ⟨?_, ?_, ?_, ?_, ?_, ?_, ?_, ?_⟩
  · intro w w' S gs g X T h hk hT
    refine ⟨?_, h.2⟩
    have hgs : S gs := (h.2.1 gs).2 rfl
    unfold Blk
    rw [hk.block gs h.1.lt (hT gs hgs)]
    exact h.1
  · intro w S gs g X h k hk
    rw [(h.2.1 k).1 hk]
    exact h.1.lt
  · intro w g b D hb h h2 hl ho
    exact open18_any g b D w h h2 hl ho (hB.below hb) (hK.below hb)
  · intro w S gs g X h
    exact sbase_any gs g S X w h
  · intro w S gs g X h
    exact sbehind_any gs g S X w h
  · intro w S gs g X h
    refine (sturn_any gs g S X w h).mono ?_
    rintro e w' ⟨h1, rfl⟩
    exact ⟨h1, Below.refl _ _⟩
  · intro w S gs g b D X t n c0 hb h hd hD hM hn2 hn9 hc n1 n2
    have hgs : S gs := (h.2.1 gs).2 rfl
    refine (sadd_any gs g b S X D n c0 t w h hd hD hM.t0 hn2 hn9 hc (fun e => n1 (e ▸ hgs)) (fun e => n2 (e ▸ hgs)) (hB.below hb) (hK.below hb)).mono ?_
    rintro e w' ⟨h1, h2, h3, h4⟩
    exact ⟨h1, h2, h3.sub (fun k hk => hk.imp (fun e => (h.2.1 k).2 e) id), fun hne => ⟨S, h4 hne, fun k hk => .inl hk⟩⟩
  · intro w S gs g b D X t n c0 hb h hd hD hM hn2 hn9 hc n1 n2
    have hgs : S gs := (h.2.1 gs).2 rfl
    refine (slay_any gs g b S X D n c0 t w h hd hD hM.t0 hn2 hn9 hc (fun e => n1 (e ▸ hgs)) (fun e => n2 (e ▸ hgs)) (hB.below hb) (hK.below hb)).mono ?_
    rintro e w' ⟨h1, h2, h3, h4⟩
    exact ⟨h1, h2, h3.sub (fun k hk => hk.imp (fun e => (h.2.1 k).2 e) id), fun hne => ⟨S, h4 hne, fun k hk => .inl hk⟩⟩

end Go.Proofs.YtaakmcihpdbilaaGreatDoor