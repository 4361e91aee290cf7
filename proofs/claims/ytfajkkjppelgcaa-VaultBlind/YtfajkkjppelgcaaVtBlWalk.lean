/- VaultBlind, walked. -/
import Derived.Test.YtfajkkjppelgcaaVtG
import Derived.Test.YtfajkkjppelgcaaOpenV
namespace Go.Proofs.Ytfajkkjppelgcaa
open Go.RowKit
set_option maxRecDepth 100000
set_option linter.unusedSimpArgs false
set_option linter.unusedSectionVars false
variable [Inhabited TabZ]


set_option maxHeartbeats 4000000 in
theorem vaultBlind_heavy (S p q : ByteArray) (a : Option Addr) (len cap : Nat) (w : World) (hh : Hsh w) (h : ¬ (S.size ≤ 100 ∧ p.size = 44 ∧ q.size = 44 ∧ len ≤ 12)) :
    Calls Try.prog 3 #[.string S, .agg #[.string p, .string q], .slice a len cap] w fun e w' => e = .returned (.bool true) ∧ Below w.heap.size w w' := by
  have HC : Hid (∀ w', Below w.heap.size w w' → _) := fun w' hb => awake16_on w w' hh hb
  clear hh
  by_cases h1 : S.size ≤ 100
  · have g0 : ¬ ((100 : Int) < (S.size : Int)) := by omega
    by_cases h2 : p.size = 44
    · have g1 : ((p.size : Int) != 44) = false := by rw [bne_eq_false_iff_eq]; omega
      by_cases h3 : q.size = 44
      · have g2 : ((q.size : Int) != 44) = false := by rw [bne_eq_false_iff_eq]; omega
        have g3 : decide ((12 : Int) < (len : Int)) = true := decide_eq_true (by have : ¬ len ≤ 12 := fun h4 => h ⟨h1, h2, h3, h4⟩; omega)
        clear h
        go_enter Try.func3, Try.ntmps3
        go_wp2_with fail
        refine (HC.out _ (below_new w _)).mono ?_
        rintro e w1 ⟨rfl, hb1⟩
        go_wp2_with fail
        go_ret
        exact ⟨rfl, hb1⟩
      · have g2 : ((q.size : Int) != 44) = true := by rw [bne_iff_ne]; omega
        clear h
        go_enter Try.func3, Try.ntmps3
        go_wp2_with fail
        refine (HC.out _ (below_new w _)).mono ?_
        rintro e w1 ⟨rfl, hb1⟩
        go_wp2_with fail
        go_ret
        exact ⟨rfl, hb1⟩
    · have g1 : ((p.size : Int) != 44) = true := by rw [bne_iff_ne]; omega
      clear h
      go_enter Try.func3, Try.ntmps3
      go_wp2_with fail
      refine (HC.out _ (below_new w _)).mono ?_
      rintro e w1 ⟨rfl, hb1⟩
      go_wp2_with fail
      go_ret
      exact ⟨rfl, hb1⟩
  · have g0 : (100 : Int) < (S.size : Int) := by omega
    clear h
    go_enter Try.func3, Try.ntmps3
    go_wp2_with fail
    refine (HC.out _ (below_new w _)).mono ?_
    rintro e w1 ⟨rfl, hb1⟩
    go_wp2_with fail
    go_ret
    exact ⟨rfl, hb1⟩

/-- The loop's state: two sealers that have drawn as much as each other. -/
def BlindS (w : World) (g i t g2 i2 t2 : Nat) (S p q : ByteArray) (k : Nat) (wr : World) : Prop :=
  ∃ N T T2, N ≤ 10 * k ∧ Two w wr g i t g2 i2 t2 N N S T T2 ∧ Blk wr 22 w.heap.size #[.string p, .string q]

set_option maxHeartbeats 8000000 in
theorem vaultBlind_light (S p q : ByteArray) (a : Option Addr) (len cap : Nat) (l : List (ByteArray × ByteArray)) (w : World) (hh : Hsh w) (hA : DuosAt w a len l) (hl : ∀ i, i < len → (dL l i).1.size ≤ maxLen ∧ (dL l i).2.size ≤ maxLen) (hS : S.size ≤ 100) (hp : p.size = 44) (hq : q.size = 44) (hn : len ≤ 12) :
    Calls Try.prog 3 #[.string S, .agg #[.string p, .string q], .slice a len cap] w fun e w' => e = .returned (.bool true) ∧ Below w.heap.size w w' := by
  have HH : Hid (Hsh w) := hh
  have HA : Hid (DuosAt w a len l) := hA
  have HL : Hid (∀ i, i < len → (dL l i).1.size ≤ maxLen ∧ (dL l i).2.size ≤ maxLen) := hl
  have g0 : ¬ ((100 : Int) < (S.size : Int)) := by omega
  have g1 : ((p.size : Int) != 44) = false := by rw [bne_eq_false_iff_eq]; omega
  have g2 : ((q.size : Int) != 44) = false := by rw [bne_eq_false_iff_eq]; omega
  have g3 : decide ((12 : Int) < (len : Int)) = false := decide_eq_false (by omega)
  have HP : Hid ((p.extract 0 32).size = 32 ∧ (p.extract 32 44).size = 12 ∧ (q.extract 0 32).size = 32 ∧ (q.extract 32 44).size = 12) := ⟨by rw [ByteArray.size_extract]; omega, by rw [ByteArray.size_extract]; omega, by rw [ByteArray.size_extract]; omega, by rw [ByteArray.size_extract]; omega⟩
  obtain ⟨P1, hP1⟩ : ∃ z, p.extract 0 32 = z := ⟨_, rfl⟩
  obtain ⟨P2, hP2⟩ : ∃ z, p.extract 32 44 = z := ⟨_, rfl⟩
  obtain ⟨Q1, hQ1⟩ : ∃ z, q.extract 0 32 = z := ⟨_, rfl⟩
  obtain ⟨Q2, hQ2⟩ : ∃ z, q.extract 32 44 = z := ⟨_, rfl⟩
  rw [hP1, hP2, hQ1, hQ2] at HP
  clear hh hA hl
  go_enter Try.func3, Try.ntmps3
  go_wp2_with fail
  refine (videal_any S _).mono ?_
  rintro e w1 ⟨g, i, t, rfl, h1, l1, hb1⟩
  have e0 : (w.alloc (.cells #[.string p, .string q] 22)).heap.size = w.heap.size + 1 := by simp
  rw [e0] at l1 hb1
  have V1 : Hid (Blk w1 22 w.heap.size #[.string p, .string q]) := (Blk.new w 22 #[.string p, .string q]).below hb1 (by omega)
  have X1 : Hid (SlrAt w1 g i t S 0 [] ∧ (w.heap.size ≤ g ∧ w.heap.size < i ∧ w.heap.size < t) ∧ Below w.heap.size w w1) := ⟨h1, ⟨by omega, by omega, by omega⟩, (below_new w _).trans (hb1.mono (by omega))⟩
  clear h1 hb1 l1 e0
  go_wp2_with fail
  refine (videal_any S _).mono ?_
  rintro e w2 ⟨g2', i2, t2, rfl, h2, l2, hb2⟩
  have X2 : Hid (BlindS w g i t g2' i2 t2 S p q 0 w2 ∧ (w.heap.size < i ∧ w.heap.size < t ∧ w.heap.size < i2 ∧ w.heap.size < t2)) := by
    have hlt := V1.out.lt
    obtain ⟨y1, ⟨y2, y3, y4⟩, y5⟩ := X1.out
    exact ⟨⟨0, [], [], Nat.le_refl _, Two.made y1 ⟨y2, by omega, by omega⟩ y5 h2 l2 hb2, V1.out.on hb2⟩, ⟨y3, y4, by omega, by omega⟩⟩
  clear X1 V1 h2 hb2 l2
  go_wp2_with fail
  have HX : Hid (w.heap.size < i ∧ w.heap.size < t ∧ w.heap.size < i2 ∧ w.heap.size < t2) := X2.out.2
  go_loopw [9] (fun c wr => ∃ k : Nat, k ≤ len ∧ c = .int .i64 k ∧ Hid (BlindS w g i t g2' i2 t2 S p q k wr)) (fun c _ => len - (intOf c).toNat)
  case atStart => exact ⟨0, Nat.zero_le _, rfl, X2.out.1⟩
  case round =>
    obtain ⟨k, hk2, rfl, XR⟩ := hrel
    by_cases hlt : k < len
    · have b0 : (k : Int) < (len : Int) := by omega
      obtain ⟨b, off, rfl, hcl⟩ := HA.out.2.resolve_left (by omega)
      obtain ⟨cA0, cB0⟩ := hcl k hlt
      have hx := HL.out k hlt
      obtain ⟨N, T, T2, hN, hT, hV⟩ := XR.out
      obtain ⟨x, Hx⟩ : ∃ x, Hid (x = (dL l k).1) := ⟨_, rfl⟩
      obtain ⟨y, Hy⟩ : ∃ y, Hid (y = (dL l k).2) := ⟨_, rfl⟩
      rw [← Hx.out] at cA0 hx
      rw [← Hy.out] at cB0 hx
      have cA : wr.cell? ⟨b, off + k * 2, none⟩ = some (.string x) := by rw [hT.bel.cell (p := ⟨b, off + k * 2, none⟩) (World.block_lt_of_cell? w _ cA0)]; exact cA0
      have cB : wr.cell? ⟨b, off + k * 2 + 1, none⟩ = some (.string y) := by rw [hT.bel.cell (p := ⟨b, off + k * 2 + 1, none⟩) (World.block_lt_of_cell? w _ cB0)]; exact cB0
      have s0 : wr.drew.cell? ⟨b, off + k * 2, none⟩ = some (.string x) ∧ wr.drew.cell? ⟨b, off + k * 2 + 1, none⟩ = some (.string y) := ⟨cA, cB⟩
      have hxs : x.size ≤ 9223372036854775807 := by have := hx.1; unfold maxLen at this; omega
      have hys : y.size ≤ 9223372036854775807 := by have := hx.2; unfold maxLen at this; omega
      obtain ⟨n, hnE, hnx, hny, hn3⟩ : ∃ n : Nat, (if 300 < (if y.size < x.size then (y.size : Int) else (x.size : Int)) then (300 : Int) else if y.size < x.size then (y.size : Int) else (x.size : Int)) = (n : Int) ∧ n ≤ x.size ∧ n ≤ y.size ∧ n ≤ 300 := by
        refine ⟨min (min x.size y.size) 300, ?_, by omega, by omega, by omega⟩
        split <;> split <;> omega
      have rdA : Hid (∀ w', Below w.heap.size w w' → w'.cell? ⟨b, off + k * 2, none⟩ = some (.string x)) := fun w' hb => by rw [hb.cell (p := ⟨b, off + k * 2, none⟩) (World.block_lt_of_cell? w _ cA0)]; exact cA0
      have rdB : Hid (∀ w', Below w.heap.size w w' → w'.cell? ⟨b, off + k * 2 + 1, none⟩ = some (.string y)) := fun w' hb => by rw [hb.cell (p := ⟨b, off + k * 2 + 1, none⟩) (World.block_lt_of_cell? w _ cB0)]; exact cB0
      have XT : Hid (Two w wr g i t g2' i2 t2 N N S T T2) := hT
      have XV : Hid (Blk wr 22 w.heap.size #[.string p, .string q]) := hV
      obtain ⟨D, HD⟩ : ∃ D, Hid (D = drawV S N (n + 16)) := ⟨_, rfl⟩
      have hDs : D.size = n + 16 := by rw [HD.out]; exact drawV_size _ _ _
      have HN : Hid (N ≤ 10 * k) := hN
      have HU : Hid (N + upV (n + 16) ≤ 10 * (k + 1)) := by show _ ≤ _; unfold upV; omega
      have hxn : (x.extract 0 n).size = n := by rw [ByteArray.size_extract]; omega
      have hyn : (y.extract 0 n).size = n := by rw [ByteArray.size_extract]; omega
      have CS1 : Hid (∀ w', Below wr.heap.size wr w' → Calls Try.prog 6 #[.pointer (some ⟨g, 0, none⟩), .string P1, .string P2, .string ⟨#[97]⟩, .string (x.extract 0 n)] w' fun e w'' => e = .returned (.tuple #[.string D, .int .i64 0]) ∧ ∃ T', Two w w'' g i t g2' i2 t2 (N + upV (n + 16)) N S T' T2 ∧ Blk w'' 22 w.heap.size #[.string p, .string q]) := fun w' hb => by
        have h2 := XT.out.on hb
        have h := vseal_ideal g i t N S P1 P2 ⟨#[97]⟩ (x.extract 0 n) T w' (HH.out.below h2.bel) h2.one ⟨HP.out.1, HP.out.2.1, by rw [hxn]; show 1 + n ≤ 32768; omega⟩ (by omega) (by have := HN.out; omega)
        rw [hxn, ← HD.out] at h
        refine h.mono ?_
        rintro e w'' ⟨rfl, h3, k3⟩
        exact ⟨rfl, _, h2.first h3 k3, (XV.out.on hb).kept k3 (by have := HX.out; omega) (fun e => by have := HX.out; have := Option.some.inj e; omega)⟩
      have CS2 : Hid (∀ w' T', Two w w' g i t g2' i2 t2 (N + upV (n + 16)) N S T' T2 ∧ Blk w' 22 w.heap.size #[.string p, .string q] → Calls Try.prog 6 #[.pointer (some ⟨g2', 0, none⟩), .string Q1, .string Q2, .string ⟨#[111, 116, 104, 101, 114]⟩, .string (y.extract 0 n)] w' fun e w'' => e = .returned (.tuple #[.string D, .int .i64 0]) ∧ BlindS w g i t g2' i2 t2 S p q (k + 1) w'') := fun w' T' h2 => by
        have h := vseal_ideal g2' i2 t2 N S Q1 Q2 ⟨#[111, 116, 104, 101, 114]⟩ (y.extract 0 n) T2 w' (HH.out.below h2.1.bel) h2.1.two ⟨HP.out.2.2.1, HP.out.2.2.2, by rw [hyn]; show 5 + n ≤ 32768; omega⟩ (by omega) (by have := HN.out; omega)
        rw [hyn, ← HD.out] at h
        refine h.mono ?_
        rintro e w'' ⟨rfl, h3, k3⟩
        exact ⟨rfl, _, _, _, HU.out, h2.1.second h3 k3, h2.2.kept k3 (by have := HX.out; omega) (fun e => by have := HX.out; have := Option.some.inj e; omega)⟩
      have s1 : wr.drew.cell? ⟨w.heap.size, 0, none⟩ = some (.string p) ∧ wr.drew.cell? ⟨b, off + k * 2, none⟩ = some (.string x) := ⟨hV.cell 0, cA⟩
      have s1' : wr.drew.drew.cell? ⟨w.heap.size, 0, none⟩ = some (.string p) ∧ wr.drew.drew.cell? ⟨b, off + k * 2, none⟩ = some (.string x) := ⟨hV.cell 0, cA⟩
      have hdq : ((D.size : Int) != (n : Int) + 16) = false := by rw [bne_eq_false_iff_eq]; omega
      clear hcl hx XR hT hV hN cA0 cB0 HD hDs
      obtain ⟨x1, hx1⟩ : ∃ z, x.extract 0 n = z := ⟨_, rfl⟩
      obtain ⟨y1, hy1⟩ : ∃ z, y.extract 0 n = z := ⟨_, rfl⟩
      rw [hx1] at CS1 hxn
      rw [hy1] at CS2 hyn
      clear hxn hyn
      go_wp2_with fail
      refine wp_region_noPanic ?_
      refine wp_region_held_drew (S := fun w' => w'.cell? ⟨b, off + k * 2, none⟩ = some (.string x) ∧ w'.cell? ⟨b, off + k * 2 + 1, none⟩ = some (.string y)) (by kernel_rfl) (by first | exact trivial | assumption | exact ⟨by assumption, by assumption⟩) (fun hHeld => ?_)
      refine take_at (i := 0) (v := ?_) rfl rfl (by kernel_rfl) (by kernel_rfl) (by kernel_rfl) (fun _ _ _ h => h) (Or.inl ⟨by rfl, ?_⟩) (by assumption) ?_
      rotate_left
      · intro w hSw; (try dsimp only at hSw); go_simp; try with_reducible rfl
      try simp only [Act.put, List.setIfInBounds_toArray, List.set_cons_zero, List.set_cons_succ]
      refine take_at (i := 1) (v := ?_) rfl rfl (by kernel_rfl) (by kernel_rfl) (by kernel_rfl) (fun _ _ _ h => h) (Or.inl ⟨by rfl, ?_⟩) (by assumption) ?_
      rotate_left
      · intro w hSw; (try dsimp only at hSw); go_simp; try with_reducible rfl
      try simp only [Act.put, List.setIfInBounds_toArray, List.set_cons_zero, List.set_cons_succ]
      refine take_at (i := 2) (v := ?_) rfl rfl (by kernel_rfl) (by kernel_rfl) (by kernel_rfl) (fun _ _ _ h => h) (Or.inl ⟨by rfl, ?_⟩) (by assumption) ?_
      rotate_left
      · intro w hSw; (try dsimp only at hSw); go_simp; try with_reducible rfl
      try simp only [Act.put, List.setIfInBounds_toArray, List.set_cons_zero, List.set_cons_succ]
      refine take_at (i := 3) (v := ?_) rfl rfl (by kernel_rfl) (by kernel_rfl) (by kernel_rfl) (fun _ _ _ h => h) (Or.inl ⟨by rfl, ?_⟩) (by assumption) ?_
      rotate_left
      · intro w hSw; (try dsimp only at hSw); go_simp; try with_reducible rfl
      try simp only [Act.put, List.setIfInBounds_toArray, List.set_cons_zero, List.set_cons_succ]
      refine take_at (i := 4) (v := ?_) rfl rfl (by kernel_rfl) (by kernel_rfl) (by kernel_rfl) (fun _ _ _ h => h) (Or.inl ⟨by rfl, ?_⟩) (by assumption) ?_
      rotate_left
      · intro w hSw; (try dsimp only at hSw); go_simp; try with_reducible rfl
      try simp only [Act.put, List.setIfInBounds_toArray, List.set_cons_zero, List.set_cons_succ]
      refine take_at (i := 5) (v := ?_) rfl rfl (by kernel_rfl) (by kernel_rfl) (by kernel_rfl) (fun _ _ _ h => h) (Or.inl ⟨by rfl, ?_⟩) (by assumption) ?_
      rotate_left
      · intro w hSw; (try dsimp only at hSw); go_simp; try with_reducible rfl
      try simp only [Act.put, List.setIfInBounds_toArray, List.set_cons_zero, List.set_cons_succ]
      refine take_at (i := 6) (v := ?_) rfl rfl (by kernel_rfl) (by kernel_rfl) (by kernel_rfl) (fun _ _ _ h => h) (Or.inl ⟨by rfl, ?_⟩) (by assumption) ?_
      rotate_left
      · intro w hSw; (try dsimp only at hSw); go_simp; try with_reducible rfl
      try simp only [Act.put, List.setIfInBounds_toArray, List.set_cons_zero, List.set_cons_succ]
      refine take_at (i := 7) (v := ?_) rfl rfl (by kernel_rfl) (by kernel_rfl) (by kernel_rfl) (fun _ _ _ h => h) (Or.inl ⟨by rfl, ?_⟩) (by assumption) ?_
      rotate_left
      · intro w hSw; (try dsimp only at hSw); go_simp; try with_reducible rfl
      try simp only [Act.put, List.setIfInBounds_toArray, List.set_cons_zero, List.set_cons_succ]
      refine take_at (i := 8) (v := ?_) rfl rfl (by kernel_rfl) (by kernel_rfl) (by kernel_rfl) (fun _ _ _ h => h) (Or.inl ⟨by rfl, ?_⟩) (by assumption) ?_
      rotate_left
      · intro w hSw; (try dsimp only at hSw); go_simp; try with_reducible rfl
      try simp only [Act.put, List.setIfInBounds_toArray, List.set_cons_zero, List.set_cons_succ]
      refine take_at (i := 9) (v := ?_) rfl rfl (by kernel_rfl) (by kernel_rfl) (by kernel_rfl) (fun _ _ _ h => h) (Or.inl ⟨by rfl, ?_⟩) (by assumption) ?_
      rotate_left
      · intro w hSw; (try dsimp only at hSw); go_simp; try with_reducible rfl
      try simp only [Act.put, List.setIfInBounds_toArray, List.set_cons_zero, List.set_cons_succ]
      refine take_at (i := 10) (v := ?_) rfl rfl (by kernel_rfl) (by kernel_rfl) (by kernel_rfl) (fun _ _ _ h => h) (Or.inl ⟨by rfl, ?_⟩) (by assumption) ?_
      rotate_left
      · intro w hSw; (try dsimp only at hSw); go_simp; try with_reducible rfl
      try simp only [Act.put, List.setIfInBounds_toArray, List.set_cons_zero, List.set_cons_succ]
      refine take_at (i := 11) (v := ?_) rfl rfl (by kernel_rfl) (by kernel_rfl) (by kernel_rfl) (fun _ _ _ h => h) (Or.inl ⟨by rfl, ?_⟩) (by assumption) ?_
      rotate_left
      · intro w hSw; (try dsimp only at hSw); go_simp; try with_reducible rfl
      try simp only [Act.put, List.setIfInBounds_toArray, List.set_cons_zero, List.set_cons_succ]
      refine take_at (i := 12) (v := ?_) rfl rfl (by kernel_rfl) (by kernel_rfl) (by kernel_rfl) (fun _ _ _ h => h) (Or.inl ⟨by rfl, ?_⟩) (by assumption) ?_
      rotate_left
      · intro w hSw; (try dsimp only at hSw); go_simp; try with_reducible rfl
      try simp only [Act.put, List.setIfInBounds_toArray, List.set_cons_zero, List.set_cons_succ]
      refine take_at (i := 13) (v := ?_) rfl rfl (by kernel_rfl) (by kernel_rfl) (by kernel_rfl) (fun _ _ _ h => h) (Or.inl ⟨by rfl, ?_⟩) (by assumption) ?_
      rotate_left
      · intro w hSw; (try dsimp only at hSw); go_simp; try with_reducible rfl
      try simp only [Act.put, List.setIfInBounds_toArray, List.set_cons_zero, List.set_cons_succ]
      refine wpAnyH_done (by kernel_rfl) (NoPanic.normal ?_) _
      clear hnE s0
      go_wp2_with fail
      refine wp_region_noPanic ?_
      refine wp_region_held_drew (S := fun w' => w'.cell? ⟨w.heap.size, 0, none⟩ = some (.string p) ∧ w'.cell? ⟨b, off + k * 2, none⟩ = some (.string x)) (by kernel_rfl) (by first | exact trivial | assumption | exact ⟨by assumption, by assumption⟩) (fun hHeld => ?_)
      refine take_at (i := 0) (v := ?_) rfl rfl (by kernel_rfl) (by kernel_rfl) (by kernel_rfl) (fun _ _ _ h => h) (Or.inl ⟨by rfl, ?_⟩) (by assumption) ?_
      rotate_left
      · intro w hSw; (try dsimp only at hSw); go_simp; try with_reducible rfl
      try simp only [Act.put, List.setIfInBounds_toArray, List.set_cons_zero, List.set_cons_succ]
      refine take_at (i := 1) (v := ?_) rfl rfl (by kernel_rfl) (by kernel_rfl) (by kernel_rfl) (fun _ _ _ h => h) (Or.inl ⟨by rfl, ?_⟩) (by assumption) ?_
      rotate_left
      · intro w hSw; (try dsimp only at hSw); go_simp; try with_reducible rfl
      try simp only [Act.put, List.setIfInBounds_toArray, List.set_cons_zero, List.set_cons_succ]
      refine take_at (i := 2) (v := ?_) rfl rfl (by kernel_rfl) (by kernel_rfl) (by kernel_rfl) (fun _ _ _ h => h) (Or.inl ⟨by rfl, ?_⟩) (by assumption) ?_
      rotate_left
      · intro w hSw; (try dsimp only at hSw); go_simp; try with_reducible rfl
      try simp only [Act.put, List.setIfInBounds_toArray, List.set_cons_zero, List.set_cons_succ]
      refine take_at (i := 3) (v := ?_) rfl rfl (by kernel_rfl) (by kernel_rfl) (by kernel_rfl) (fun _ _ _ h => h) (Or.inl ⟨by rfl, ?_⟩) (by assumption) ?_
      rotate_left
      · intro w hSw; (try dsimp only at hSw); go_simp; try with_reducible rfl
      try simp only [Act.put, List.setIfInBounds_toArray, List.set_cons_zero, List.set_cons_succ]
      refine take_at (i := 4) (v := ?_) rfl rfl (by kernel_rfl) (by kernel_rfl) (by kernel_rfl) (fun _ _ _ h => h) (Or.inl ⟨by rfl, ?_⟩) (by assumption) ?_
      rotate_left
      · intro w hSw; (try dsimp only at hSw); go_simp; try with_reducible rfl
      try simp only [Act.put, List.setIfInBounds_toArray, List.set_cons_zero, List.set_cons_succ]
      refine take_at (i := 5) (v := ?_) rfl rfl (by kernel_rfl) (by kernel_rfl) (by kernel_rfl) (fun _ _ _ h => h) (Or.inl ⟨by rfl, ?_⟩) (by assumption) ?_
      rotate_left
      · intro w hSw; (try dsimp only at hSw); go_simp; try with_reducible rfl
      try simp only [Act.put, List.setIfInBounds_toArray, List.set_cons_zero, List.set_cons_succ]
      refine take_at (i := 6) (v := ?_) rfl rfl (by kernel_rfl) (by kernel_rfl) (by kernel_rfl) (fun _ _ _ h => h) (Or.inl ⟨by rfl, ?_⟩) (by assumption) ?_
      rotate_left
      · intro w hSw; (try dsimp only at hSw); go_simp; try with_reducible rfl
      try simp only [Act.put, List.setIfInBounds_toArray, List.set_cons_zero, List.set_cons_succ]
      refine take_at (i := 7) (v := ?_) rfl rfl (by kernel_rfl) (by kernel_rfl) (by kernel_rfl) (fun _ _ _ h => h) (Or.inl ⟨by rfl, ?_⟩) (by assumption) ?_
      rotate_left
      · intro w hSw; (try dsimp only at hSw); go_simp; try with_reducible rfl
      try simp only [Act.put, List.setIfInBounds_toArray, List.set_cons_zero, List.set_cons_succ]
      refine take_at (i := 8) (v := ?_) rfl rfl (by kernel_rfl) (by kernel_rfl) (by kernel_rfl) (fun _ _ _ h => h) (Or.inl ⟨by rfl, ?_⟩) (by assumption) ?_
      rotate_left
      · intro w hSw; (try dsimp only at hSw); go_simp; try with_reducible rfl
      try simp only [Act.put, List.setIfInBounds_toArray, List.set_cons_zero, List.set_cons_succ]
      refine take_at (i := 9) (v := ?_) rfl rfl (by kernel_rfl) (by kernel_rfl) (by kernel_rfl) (fun _ _ _ h => h) (Or.inl ⟨by rfl, ?_⟩) (by assumption) ?_
      rotate_left
      · intro w hSw; (try dsimp only at hSw); go_simp; try with_reducible rfl
      try simp only [Act.put, List.setIfInBounds_toArray, List.set_cons_zero, List.set_cons_succ]
      refine take_at (i := 10) (v := ?_) rfl rfl (by kernel_rfl) (by kernel_rfl) (by kernel_rfl) (fun _ _ _ h => h) (Or.inl ⟨by rfl, ?_⟩) (by assumption) ?_
      rotate_left
      · intro w hSw; (try dsimp only at hSw); go_simp; try with_reducible rfl
      try simp only [Act.put, List.setIfInBounds_toArray, List.set_cons_zero, List.set_cons_succ]
      refine take_at (i := 11) (v := ?_) rfl rfl (by kernel_rfl) (by kernel_rfl) (by kernel_rfl) (fun _ _ _ h => h) (Or.inl ⟨by rfl, ?_⟩) (by assumption) ?_
      rotate_left
      · intro w hSw; (try dsimp only at hSw); go_simp; try with_reducible rfl
      try simp only [Act.put, List.setIfInBounds_toArray, List.set_cons_zero, List.set_cons_succ]
      refine take_at (i := 12) (v := ?_) rfl rfl (by kernel_rfl) (by kernel_rfl) (by kernel_rfl) (fun _ _ _ h => h) (Or.inl ⟨by rfl, ?_⟩) (by assumption) ?_
      rotate_left
      · intro w hSw; (try dsimp only at hSw); go_simp; try with_reducible rfl
      try simp only [Act.put, List.setIfInBounds_toArray, List.set_cons_zero, List.set_cons_succ]
      refine take_at (i := 13) (v := ?_) rfl rfl (by kernel_rfl) (by kernel_rfl) (by kernel_rfl) (fun _ _ _ h => h) (Or.inl ⟨by rfl, ?_⟩) (by assumption) ?_
      rotate_left
      · intro w hSw; (try dsimp only at hSw); go_simp; try with_reducible rfl
      try simp only [Act.put, List.setIfInBounds_toArray, List.set_cons_zero, List.set_cons_succ]
      refine wpAnyH_ready (rs := [14]) (by kernel_rfl) (by simp) ?_
      refine AllReadyH.cons rfl (fun K hK => ?_) AllReadyH.nil
      go_simp
      refine (CS1.out _ (by first | exact (Below.refl _ _).drew | exact (Below.refl _ _).drew.drew)).mono ?_
      rintro e w3 ⟨rfl, T', h3, v3⟩
      have X3 : Hid (Two w w3 g i t g2' i2 t2 (N + upV (n + 16)) N S T' T2 ∧ Blk w3 22 w.heap.size #[.string p, .string q]) := ⟨h3, v3⟩
      have s3 : w3.cell? ⟨w.heap.size, 0, none⟩ = some (.string p) ∧ w3.cell? ⟨b, off + k * 2, none⟩ = some (.string x) := ⟨v3.cell 0, rdA.out _ h3.bel⟩
      have s4 : w3.drew.cell? ⟨w.heap.size, 1, none⟩ = some (.string q) ∧ w3.drew.cell? ⟨b, off + k * 2 + 1, none⟩ = some (.string y) := ⟨v3.cell 1, rdB.out _ h3.bel.drew⟩
      clear h3 v3 CS1 s1 s1' cA cB
      refine hK.out _ _ s3 (fun hHeld => ?_)
      clear hK K
      refine take_at (i := 15) (v := ?_) rfl rfl (by kernel_rfl) (by kernel_rfl) (by kernel_rfl) (fun _ _ _ h => h) (Or.inl ⟨by rfl, ?_⟩) (by assumption) ?_
      rotate_left
      · intro w hSw; (try dsimp only at hSw); go_simp; try with_reducible rfl
      try simp only [Act.put, List.setIfInBounds_toArray, List.set_cons_zero, List.set_cons_succ]
      refine take_at (i := 16) (v := ?_) rfl rfl (by kernel_rfl) (by kernel_rfl) (by kernel_rfl) (fun _ _ _ h => h) (Or.inl ⟨by rfl, ?_⟩) (by assumption) ?_
      rotate_left
      · intro w hSw; (try dsimp only at hSw); go_simp; try with_reducible rfl
      try simp only [Act.put, List.setIfInBounds_toArray, List.set_cons_zero, List.set_cons_succ]
      refine take_at (i := 17) (v := ?_) rfl rfl (by kernel_rfl) (by kernel_rfl) (by kernel_rfl) (fun _ _ _ h => h) (Or.inl ⟨by rfl, ?_⟩) (by assumption) ?_
      rotate_left
      · intro w hSw; (try dsimp only at hSw); go_simp; try with_reducible rfl
      try simp only [Act.put, List.setIfInBounds_toArray, List.set_cons_zero, List.set_cons_succ]
      refine take_at (i := 18) (v := ?_) rfl rfl (by kernel_rfl) (by kernel_rfl) (by kernel_rfl) (fun _ _ _ h => h) (Or.inl ⟨by rfl, ?_⟩) (by assumption) ?_
      rotate_left
      · intro w hSw; (try dsimp only at hSw); go_simp; try with_reducible rfl
      try simp only [Act.put, List.setIfInBounds_toArray, List.set_cons_zero, List.set_cons_succ]
      refine take_at (i := 19) (v := ?_) rfl rfl (by kernel_rfl) (by kernel_rfl) (by kernel_rfl) (fun _ _ _ h => h) (Or.inl ⟨by rfl, ?_⟩) (by assumption) ?_
      rotate_left
      · intro w hSw; (try dsimp only at hSw); go_simp; try with_reducible rfl
      try simp only [Act.put, List.setIfInBounds_toArray, List.set_cons_zero, List.set_cons_succ]
      refine wpAnyH_done (by kernel_rfl) (NoPanic.normal ?_) _
      clear s3
      go_wp2_with fail
      refine wp_region_noPanic ?_
      refine wp_region_held_drew (S := fun w' => w'.cell? ⟨w.heap.size, 1, none⟩ = some (.string q) ∧ w'.cell? ⟨b, off + k * 2 + 1, none⟩ = some (.string y)) (by kernel_rfl) (by first | exact trivial | assumption | exact ⟨by assumption, by assumption⟩) (fun hHeld => ?_)
      refine take_at (i := 0) (v := ?_) rfl rfl (by kernel_rfl) (by kernel_rfl) (by kernel_rfl) (fun _ _ _ h => h) (Or.inl ⟨by rfl, ?_⟩) (by assumption) ?_
      rotate_left
      · intro w hSw; (try dsimp only at hSw); go_simp; try with_reducible rfl
      try simp only [Act.put, List.setIfInBounds_toArray, List.set_cons_zero, List.set_cons_succ]
      refine take_at (i := 1) (v := ?_) rfl rfl (by kernel_rfl) (by kernel_rfl) (by kernel_rfl) (fun _ _ _ h => h) (Or.inl ⟨by rfl, ?_⟩) (by assumption) ?_
      rotate_left
      · intro w hSw; (try dsimp only at hSw); go_simp; try with_reducible rfl
      try simp only [Act.put, List.setIfInBounds_toArray, List.set_cons_zero, List.set_cons_succ]
      refine take_at (i := 2) (v := ?_) rfl rfl (by kernel_rfl) (by kernel_rfl) (by kernel_rfl) (fun _ _ _ h => h) (Or.inl ⟨by rfl, ?_⟩) (by assumption) ?_
      rotate_left
      · intro w hSw; (try dsimp only at hSw); go_simp; try with_reducible rfl
      try simp only [Act.put, List.setIfInBounds_toArray, List.set_cons_zero, List.set_cons_succ]
      refine take_at (i := 3) (v := ?_) rfl rfl (by kernel_rfl) (by kernel_rfl) (by kernel_rfl) (fun _ _ _ h => h) (Or.inl ⟨by rfl, ?_⟩) (by assumption) ?_
      rotate_left
      · intro w hSw; (try dsimp only at hSw); go_simp; try with_reducible rfl
      try simp only [Act.put, List.setIfInBounds_toArray, List.set_cons_zero, List.set_cons_succ]
      refine take_at (i := 4) (v := ?_) rfl rfl (by kernel_rfl) (by kernel_rfl) (by kernel_rfl) (fun _ _ _ h => h) (Or.inl ⟨by rfl, ?_⟩) (by assumption) ?_
      rotate_left
      · intro w hSw; (try dsimp only at hSw); go_simp; try with_reducible rfl
      try simp only [Act.put, List.setIfInBounds_toArray, List.set_cons_zero, List.set_cons_succ]
      refine take_at (i := 5) (v := ?_) rfl rfl (by kernel_rfl) (by kernel_rfl) (by kernel_rfl) (fun _ _ _ h => h) (Or.inl ⟨by rfl, ?_⟩) (by assumption) ?_
      rotate_left
      · intro w hSw; (try dsimp only at hSw); go_simp; try with_reducible rfl
      try simp only [Act.put, List.setIfInBounds_toArray, List.set_cons_zero, List.set_cons_succ]
      refine take_at (i := 6) (v := ?_) rfl rfl (by kernel_rfl) (by kernel_rfl) (by kernel_rfl) (fun _ _ _ h => h) (Or.inl ⟨by rfl, ?_⟩) (by assumption) ?_
      rotate_left
      · intro w hSw; (try dsimp only at hSw); go_simp; try with_reducible rfl
      try simp only [Act.put, List.setIfInBounds_toArray, List.set_cons_zero, List.set_cons_succ]
      refine take_at (i := 7) (v := ?_) rfl rfl (by kernel_rfl) (by kernel_rfl) (by kernel_rfl) (fun _ _ _ h => h) (Or.inl ⟨by rfl, ?_⟩) (by assumption) ?_
      rotate_left
      · intro w hSw; (try dsimp only at hSw); go_simp; try with_reducible rfl
      try simp only [Act.put, List.setIfInBounds_toArray, List.set_cons_zero, List.set_cons_succ]
      refine take_at (i := 8) (v := ?_) rfl rfl (by kernel_rfl) (by kernel_rfl) (by kernel_rfl) (fun _ _ _ h => h) (Or.inl ⟨by rfl, ?_⟩) (by assumption) ?_
      rotate_left
      · intro w hSw; (try dsimp only at hSw); go_simp; try with_reducible rfl
      try simp only [Act.put, List.setIfInBounds_toArray, List.set_cons_zero, List.set_cons_succ]
      refine take_at (i := 9) (v := ?_) rfl rfl (by kernel_rfl) (by kernel_rfl) (by kernel_rfl) (fun _ _ _ h => h) (Or.inl ⟨by rfl, ?_⟩) (by assumption) ?_
      rotate_left
      · intro w hSw; (try dsimp only at hSw); go_simp; try with_reducible rfl
      try simp only [Act.put, List.setIfInBounds_toArray, List.set_cons_zero, List.set_cons_succ]
      refine take_at (i := 10) (v := ?_) rfl rfl (by kernel_rfl) (by kernel_rfl) (by kernel_rfl) (fun _ _ _ h => h) (Or.inl ⟨by rfl, ?_⟩) (by assumption) ?_
      rotate_left
      · intro w hSw; (try dsimp only at hSw); go_simp; try with_reducible rfl
      try simp only [Act.put, List.setIfInBounds_toArray, List.set_cons_zero, List.set_cons_succ]
      refine take_at (i := 11) (v := ?_) rfl rfl (by kernel_rfl) (by kernel_rfl) (by kernel_rfl) (fun _ _ _ h => h) (Or.inl ⟨by rfl, ?_⟩) (by assumption) ?_
      rotate_left
      · intro w hSw; (try dsimp only at hSw); go_simp; try with_reducible rfl
      try simp only [Act.put, List.setIfInBounds_toArray, List.set_cons_zero, List.set_cons_succ]
      refine take_at (i := 12) (v := ?_) rfl rfl (by kernel_rfl) (by kernel_rfl) (by kernel_rfl) (fun _ _ _ h => h) (Or.inl ⟨by rfl, ?_⟩) (by assumption) ?_
      rotate_left
      · intro w hSw; (try dsimp only at hSw); go_simp; try with_reducible rfl
      try simp only [Act.put, List.setIfInBounds_toArray, List.set_cons_zero, List.set_cons_succ]
      refine take_at (i := 13) (v := ?_) rfl rfl (by kernel_rfl) (by kernel_rfl) (by kernel_rfl) (fun _ _ _ h => h) (Or.inl ⟨by rfl, ?_⟩) (by assumption) ?_
      rotate_left
      · intro w hSw; (try dsimp only at hSw); go_simp; try with_reducible rfl
      try simp only [Act.put, List.setIfInBounds_toArray, List.set_cons_zero, List.set_cons_succ]
      refine wpAnyH_ready (rs := [14]) (by kernel_rfl) (by simp) ?_
      refine AllReadyH.cons rfl (fun K hK => ?_) AllReadyH.nil
      go_simp
      refine (CS2.out w3.drew T' ⟨X3.out.1.on (Below.refl _ _).drew, X3.out.2.on (Below.refl _ _).drew⟩).mono ?_
      rintro e w5 ⟨rfl, h5⟩
      have X5 : Hid (BlindS w g i t g2' i2 t2 S p q (k + 1) w5) := h5
      obtain ⟨N5, T5, T6, _, h6, v6⟩ := h5
      have s5 : w5.cell? ⟨w.heap.size, 1, none⟩ = some (.string q) ∧ w5.cell? ⟨b, off + k * 2 + 1, none⟩ = some (.string y) := ⟨v6.cell 1, rdB.out _ h6.bel⟩
      clear h6 v6 CS2 s4 X3
      refine hK.out _ _ s5 (fun hHeld => ?_)
      clear hK K
      refine take_at (i := 15) (v := ?_) rfl rfl (by kernel_rfl) (by kernel_rfl) (by kernel_rfl) (fun _ _ _ h => h) (Or.inl ⟨by rfl, ?_⟩) (by assumption) ?_
      rotate_left
      · intro w hSw; (try dsimp only at hSw); go_simp; try with_reducible rfl
      try simp only [Act.put, List.setIfInBounds_toArray, List.set_cons_zero, List.set_cons_succ]
      refine take_at (i := 16) (v := ?_) rfl rfl (by kernel_rfl) (by kernel_rfl) (by kernel_rfl) (fun _ _ _ h => h) (Or.inl ⟨by rfl, ?_⟩) (by assumption) ?_
      rotate_left
      · intro w hSw; (try dsimp only at hSw); go_simp; try with_reducible rfl
      try simp only [Act.put, List.setIfInBounds_toArray, List.set_cons_zero, List.set_cons_succ]
      refine take_at (i := 17) (v := ?_) rfl rfl (by kernel_rfl) (by kernel_rfl) (by kernel_rfl) (fun _ _ _ h => h) (Or.inl ⟨by rfl, ?_⟩) (by assumption) ?_
      rotate_left
      · intro w hSw; (try dsimp only at hSw); go_simp; try with_reducible rfl
      try simp only [Act.put, List.setIfInBounds_toArray, List.set_cons_zero, List.set_cons_succ]
      refine take_at (i := 18) (v := ?_) rfl rfl (by kernel_rfl) (by kernel_rfl) (by kernel_rfl) (fun _ _ _ h => h) (Or.inl ⟨by rfl, ?_⟩) (by assumption) ?_
      rotate_left
      · intro w hSw; (try dsimp only at hSw); go_simp; try with_reducible rfl
      try simp only [Act.put, List.setIfInBounds_toArray, List.set_cons_zero, List.set_cons_succ]
      refine take_at (i := 19) (v := ?_) rfl rfl (by kernel_rfl) (by kernel_rfl) (by kernel_rfl) (fun _ _ _ h => h) (Or.inl ⟨by rfl, ?_⟩) (by assumption) ?_
      rotate_left
      · intro w hSw; (try dsimp only at hSw); go_simp; try with_reducible rfl
      try simp only [Act.put, List.setIfInBounds_toArray, List.set_cons_zero, List.set_cons_succ]
      refine wpAnyH_done (by kernel_rfl) (NoPanic.normal ?_) _
      clear s5
      go_wp2_with fail
      refine ⟨⟨k + 1, by omega, by go_num, X5⟩, ?_⟩
      simp [intOf]; omega
    · obtain rfl : k = len := by omega
      have b0 : ¬ ((k : Int) < (k : Int)) := by omega
      obtain ⟨N, T, T2, hN, hT, hV⟩ := XR.out
      go_wp2_with fail
      refine (awake16_on w _ HH.out hT.bel).mono ?_
      rintro e w3 ⟨rfl, hb3⟩
      go_wp2_with fail
      go_ret
      exact ⟨rfl, hb3⟩

theorem vaultBlind_walk (S p q : ByteArray) (a : Option Addr) (len cap : Nat) (l : List (ByteArray × ByteArray)) (w : World) (hh : Hsh w) (hA : DuosAt w a len l) (hl : ∀ i, i < len → (dL l i).1.size ≤ maxLen ∧ (dL l i).2.size ≤ maxLen) :
    Calls Try.prog 3 #[.string S, .agg #[.string p, .string q], .slice a len cap] w fun e w' => e = .returned (.bool true) ∧ Below w.heap.size w w' := by
  by_cases h : S.size ≤ 100 ∧ p.size = 44 ∧ q.size = 44 ∧ len ≤ 12
  · exact vaultBlind_light S p q a len cap l w hh hA hl h.1 h.2.1 h.2.2.1 h.2.2.2
  · exact vaultBlind_heavy S p q a len cap w hh h

end Go.Proofs.Ytfajkkjppelgcaa
