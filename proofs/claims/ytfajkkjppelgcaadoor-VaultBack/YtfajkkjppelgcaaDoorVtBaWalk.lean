/- VaultBack, walked. -/
import Derived.Test.YtfajkkjppelgcaaDoorVtG
namespace Go.Proofs.YtfajkkjppelgcaaDoor
open Go.RowKit
set_option maxRecDepth 100000
set_option linter.unusedSimpArgs false
set_option linter.unusedSectionVars false
variable [Inhabited TabZ]


/-- The state of the loop, at its round k: the two texts' box, the row of the two sealers. -/
structure BackS (w : World) (r gr gi i m : Nat) (S x y : ByteArray) (k : Nat) (wr : World) : Prop where
  box : Blk wr 22 w.heap.size #[.string x, .string y]
  row : Blk wr 24 r #[.pointer (some ⟨gr, 0, none⟩), .pointer (some ⟨gi, 0, none⟩)]
  real : RealAt wr gr
  idl : k < 2 → SlrAt wr gi i m S 0 []
  bel : Below w.heap.size w wr
  lo : w.heap.size < i ∧ w.heap.size < m ∧ i < r ∧ m < r ∧ gr < i ∧ gr < m

theorem BackS.on {w wr w' : World} {r gr gi i m k : Nat} {S x y : ByteArray} (h : BackS w r gr gi i m S x y k wr) (hb : Below wr.heap.size wr w') : BackS w r gr gi i m S x y k w' :=
  ⟨h.box.on hb, h.row.on hb, h.real.on hb, fun hk => (h.idl hk).on hb, below_step h.bel (Nat.le_refl _) hb, h.lo⟩

theorem BackS.next {w wr : World} {r gr gi i m k k' : Nat} {S x y : ByteArray} (h : BackS w r gr gi i m S x y k wr) (hk : k ≤ k') : BackS w r gr gi i m S x y k' wr :=
  ⟨h.box, h.row, h.real, fun h' => h.idl (by omega), h.bel, h.lo⟩

theorem BackS.turn {w wr w' : World} {r gr gi i m k : Nat} {S x y : ByteArray} (h : BackS w r gr gi i m S x y k wr) (kp : Kept2 i (some m) wr w') : BackS w r gr gi i m S x y 2 w' := by
  obtain ⟨l1, l2, l3, l4, l5, l6⟩ := h.lo
  refine ⟨h.box.kept kp (by omega) (fun e => by have := Option.some.inj e; omega), h.row.kept kp (by omega) (fun e => by have := Option.some.inj e; omega), Blk.kept h.real kp (by omega) (fun e => by have := Option.some.inj e; omega), fun h' => absurd h' (by omega), ?_, h.lo⟩
  exact h.bel.trans (kp.below w.heap.size h.bel.size (by omega) (fun z hz => by cases hz; omega))

/-- Behind a seal: of the real sealer, of the ideal one. -/
def BackA (w : World) (r gr gi i m : Nat) (S K N x y : ByteArray) (k : Nat) (c : ByteArray) (wr : World) : Prop :=
  (k = 0 ∧ c = sealB K N x y ∧ BackS w r gr gi i m S x y 0 wr) ∨ (k = 1 ∧ BackS w r gr gi i m S x y 2 wr ∧ ∃ M, SlrAt wr gi i m S M [(c, entV K N x y)])

theorem BackA.on {w wr w' : World} {r gr gi i m k : Nat} {S K N x y c : ByteArray} (h : BackA w r gr gi i m S K N x y k c wr) (hb : Below wr.heap.size wr w') : BackA w r gr gi i m S K N x y k c w' := by
  rcases h with ⟨h0, h1, h2⟩ | ⟨h0, h1, M, h2⟩
  · exact .inl ⟨h0, h1, h2.on hb⟩
  · exact .inr ⟨h0, h1.on hb, M, h2.on hb⟩

theorem BackA.next {w wr : World} {r gr gi i m k : Nat} {S K N x y c : ByteArray} (h : BackA w r gr gi i m S K N x y k c wr) : BackS w r gr gi i m S x y (k + 1) wr := by
  rcases h with ⟨rfl, _, h2⟩ | ⟨rfl, h1, _⟩
  · exact h2.next (by omega)
  · exact h1

theorem BackA.box {w wr : World} {r gr gi i m k : Nat} {S K N x y c : ByteArray} (h : BackA w r gr gi i m S K N x y k c wr) : Blk wr 22 w.heap.size #[.string x, .string y] := h.next.box

theorem BackA.row {w wr : World} {r gr gi i m k : Nat} {S K N x y c : ByteArray} (h : BackA w r gr gi i m S K N x y k c wr) : Blk wr 24 r #[.pointer (some ⟨gr, 0, none⟩), .pointer (some ⟨gi, 0, none⟩)] := h.next.row

theorem back_seal {w wr : World} {r gr gi i m k gs : Nat} {S K N x y : ByteArray} (hh : Hsh w) (hP : GlobP w) (hY : GlobY w) (hS : S.size ≤ 100) (hM : MayA K N x.size y.size) (hk : k < 2) (hg : gs = if k = 0 then gr else gi) (h : BackS w r gr gi i m S x y k wr) :
    Calls Tryd.prog 9 #[.pointer (some ⟨gs, 0, none⟩), .string K, .string N, .string x, .string y] wr fun e w' => ∃ c : ByteArray, c.size = y.size + 16 ∧ e = .returned (.tuple #[.string c, .int .i64 0]) ∧ BackA w r gr gi i m S K N x y k c w' := by
  by_cases h0 : k = 0
  · subst h0
    rw [if_pos rfl] at hg
    subst hg
    refine (vseal_real gs K N x y (sealB K N x y) 0 wr h.real (fun w' hb => seal_on K N x y _ rfl wr w' (hP.below h.bel) (hY.below h.bel) hb hM)).mono ?_
    rintro e w' ⟨rfl, hb⟩
    exact ⟨_, sealB_size _ _ _ _, rfl, .inl ⟨rfl, rfl, h.on hb⟩⟩
  · obtain rfl : k = 1 := by omega
    rw [if_neg (by decide)] at hg
    subst hg
    refine (vseal_ideal gs i m 0 S K N x y [] wr (hh.below h.bel) (h.idl hk) hM (by omega) (by decide)).mono ?_
    rintro e w' ⟨rfl, h1, k1⟩
    exact ⟨_, drawV_size _ _ _, rfl, .inr ⟨rfl, h.turn k1, _, h1⟩⟩

theorem back_open {w wr : World} {r gr gi i m k gs : Nat} {S K N x y c : ByteArray} (hP : GlobP w) (hY : GlobY w) (hM : MayA K N x.size y.size) (hc : c.size = y.size + 16) (hg : gs = if k = 0 then gr else gi) (h : BackA w r gr gi i m S K N x y k c wr) :
    Calls Tryd.prog 10 #[.pointer (some ⟨gs, 0, none⟩), .string K, .string N, .string x, .string c] wr fun e w' => e = .returned (.tuple #[.string y, .int .i64 0]) ∧ BackA w r gr gi i m S K N x y k c w' := by
  have hcut : cutA c = y.size := by unfold cutA; omega
  have hM2 : MayA K N x.size (cutA c) := by rw [hcut]; exact hM
  rcases h with ⟨rfl, h1, h2⟩ | ⟨rfl, h1, M, h2⟩
  · rw [if_pos rfl] at hg
    subst hg h1
    obtain ⟨o1, o2⟩ := opens_seal K N x y
    refine (vopen_real gs K N x _ y 0 wr h2.real (fun w' hb => open_on K N x _ y o2 wr w' (hP.below h2.bel) (hY.below h2.bel) hb hM2 o1)).mono ?_
    rintro e w' ⟨rfl, hb⟩
    exact ⟨rfl, .inl ⟨rfl, rfl, h2.on hb⟩⟩
  · rw [if_neg (by decide)] at hg
    subst hg
    refine (vopen_lift gs i m M S K N x c y 0 _ wr h2 (iopen_yes i m M S K N x c y _ wr h2.2 hM2 (look_one c _))).mono ?_
    rintro e w' ⟨rfl, hb⟩
    exact ⟨rfl, .inr ⟨rfl, h1.on hb, M, h2.on hb⟩⟩

set_option maxHeartbeats 8000000 in
theorem vaultBack_light (S ks x y : ByteArray) (w : World) (hh : Hsh w) (hP : GlobP w) (hY : GlobY w) (hS : S.size ≤ 100) (hk : ks.size = 44) (hx : x.size ≤ 300) (hy : y.size ≤ 300) :
    Calls Tryd.prog 3 #[.string S, .string ks, .agg #[.string x, .string y]] w fun e w' => e = .returned (.bool true) ∧ Below w.heap.size w w' := by
  have HH : Hid (Hsh w) := hh
  have HP : Hid (GlobP w) := hP
  have HY : Hid (GlobY w) := hY
  have g0 : ¬ ((100 : Int) < (S.size : Int)) := by omega
  have g1 : ((ks.size : Int) != 44) = false := by rw [bne_eq_false_iff_eq]; omega
  have g2 : ¬ ((300 : Int) < (x.size : Int)) := by omega
  have g3 : decide ((300 : Int) < (y.size : Int)) = false := decide_eq_false (by omega)
  have HM : Hid (MayA (ks.extract 0 32) (ks.extract 32 44) x.size y.size) := ⟨by rw [ByteArray.size_extract]; omega, by rw [ByteArray.size_extract]; omega, by omega⟩
  obtain ⟨KE, hK⟩ : ∃ KE, ks.extract 0 32 = KE := ⟨_, rfl⟩
  obtain ⟨N, hN⟩ : ∃ N, ks.extract 32 44 = N := ⟨_, rfl⟩
  rw [hK, hN] at HM
  clear hh hP hY
  go_enter Tryd.func3, Tryd.ntmps3
  go_wp2_with fail
  refine (vreal_any _).mono ?_
  rintro e w1 ⟨rfl, h1, hb1⟩
  have e1 : (w.alloc (.cells #[.string x, .string y] 22)).heap.size = w.heap.size + 1 := by simp
  rw [e1] at h1 hb1
  have X1 : Hid (RealAt w1 (w.heap.size + 1)) := h1
  have V1 : Hid (Blk w1 22 w.heap.size #[.string x, .string y]) := (Blk.new w 22 #[.string x, .string y]).below hb1 (by omega)
  have HB1 : Hid (Below w.heap.size w w1) := (below_new w _).trans (hb1.mono (by omega))
  clear h1 hb1 e1
  go_wp2_with fail
  refine (videal_any S _).mono ?_
  rintro e w2 ⟨gi, i, m, rfl, h2, l2, hb2⟩
  have hs1 := X1.out.lt
  have X2 : Hid (∀ T, BackS w w2.heap.size (w.heap.size + 1) gi i m S x y 0 (w2.alloc (.cells #[.pointer (some ⟨w.heap.size + 1, 0, none⟩), .pointer (some ⟨gi, 0, none⟩)] T)) ∨ T ≠ 24) := fun T => by
    by_cases hT : T = 24
    · subst hT
      have hl := h2.2.lt
      exact .inl ⟨(V1.out.on hb2).alloc _, Blk.new _ _ _, (X1.out.on hb2).on (below_new _ _), fun _ => h2.on (below_new _ _), below_step (below_step HB1.out (Nat.le_refl _) hb2) (Nat.le_refl _) (below_new _ _), ⟨by omega, by omega, hl.1, hl.2, by omega, by omega⟩⟩
    · exact .inr hT
  clear X1 V1 HB1 h2 l2 hb2
  go_wp2_with fail
  have X3 := (X2.out 24).resolve_right (fun h => h rfl)
  have HX3 : Hid (BackS w w2.heap.size (w.heap.size + 1) gi i m S x y 0 (w2.alloc (.cells #[.pointer (some ⟨w.heap.size + 1, 0, none⟩), .pointer (some ⟨gi, 0, none⟩)] 24))) := X3
  clear X2 X3
  generalize w2.heap.size = r at *
  generalize w.heap.size + 1 = gr at *
  go_loopw [8] (fun c wr => ∃ k : Nat, k ≤ 2 ∧ c = .int .i64 k ∧ Hid (BackS w r gr gi i m S x y k wr)) (fun c _ => 2 - (intOf c).toNat)
  case atStart => exact ⟨0, Nat.zero_le _, rfl, HX3⟩
  case round =>
    obtain ⟨k, hk2, rfl, XR⟩ := hrel
    by_cases hlt : k < 2
    · have b0 : (k : Int) < 2 := by omega
      obtain ⟨gs, Hgs⟩ : ∃ gs, Hid (gs = if k = 0 then gr else gi) := ⟨_, rfl⟩
      have rowc : ∀ w' : World, Blk w' 24 r #[.pointer (some ⟨gr, 0, none⟩), .pointer (some ⟨gi, 0, none⟩)] → w'.cell? ⟨r, k, none⟩ = some (.pointer (some ⟨gs, 0, none⟩)) := fun w' h => by
        rw [h.cell k, Hgs.out]
        match k, hlt with
        | 0, _ => rfl
        | 1, _ => rfl
      have HR : Hid (∀ w' : World, _) := rowc
      have c0 := HR.out wr XR.out.row
      have s0 : wr.drew.cell? ⟨r, k, none⟩ = some (.pointer (some ⟨gs, 0, none⟩)) ∧ wr.drew.cell? ⟨w.heap.size, 0, none⟩ = some (.string x) ∧ wr.drew.cell? ⟨w.heap.size, 1, none⟩ = some (.string y) := ⟨c0, XR.out.box.cell 0, XR.out.box.cell 1⟩
      have CS : Hid (Calls _ _ _ _ _) := back_seal (wr := wr.drew) (K := KE) (N := N) HH.out HP.out HY.out hS HM.out hlt Hgs.out (XR.out.on (Below.refl _ _).drew)
      clear rowc
      go_wp2_with fail
      refine wp_region_noPanic ?_
      refine wp_region_held_drew (S := fun w' => w'.cell? ⟨r, k, none⟩ = some (.pointer (some ⟨gs, 0, none⟩)) ∧ w'.cell? ⟨w.heap.size, 0, none⟩ = some (.string x) ∧ w'.cell? ⟨w.heap.size, 1, none⟩ = some (.string y)) (by kernel_rfl) (by first | exact trivial | assumption | exact ⟨by assumption, by assumption⟩) (fun hHeld => ?_)
      refine take_at (i := 0) (v := ?_) rfl rfl (by kernel_rfl) (by kernel_rfl) (by kernel_rfl) (fun _ _ _ h => h) (Or.inl ⟨by rfl, ?_⟩) (by assumption) ?_
      rotate_left
      · intro w hSw; (try dsimp only at hSw); go_simp; try with_reducible rfl
      try simp only [Act.put, List.setIfInBounds_toArray, List.set_cons_zero, List.set_cons_succ]
      refine take_at (i := 1) (v := ?_) rfl rfl (by kernel_rfl) (by kernel_rfl) (by kernel_rfl) (fun _ _ _ h => h) (Or.inl ⟨by rfl, ?_⟩) (by assumption) ?_
      rotate_left
      · intro w hSw; (try dsimp only at hSw); go_simp; try with_reducible rfl
      try simp only [Act.put, List.setIfInBounds_toArray, List.set_cons_zero, List.set_cons_succ]
      refine take_at (i := 2) (v := ?_) rfl rfl (by kernel_rfl) (by kernel_rfl) (by kernel_rfl) (fun _ _ _ h => h) (Or.inl ⟨by rfl, ?_⟩) (by assumption) ?_
      rotate_left
      · intro w hSw; (try dsimp only at hSw); go_simp; try with_reducible rfl
      try simp only [Act.put, List.setIfInBounds_toArray, List.set_cons_zero, List.set_cons_succ]
      refine take_at (i := 3) (v := ?_) rfl rfl (by kernel_rfl) (by kernel_rfl) (by kernel_rfl) (fun _ _ _ h => h) (Or.inl ⟨by rfl, ?_⟩) (by assumption) ?_
      rotate_left
      · intro w hSw; (try dsimp only at hSw); go_simp; try with_reducible rfl
      try simp only [Act.put, List.setIfInBounds_toArray, List.set_cons_zero, List.set_cons_succ]
      refine take_at (i := 4) (v := ?_) rfl rfl (by kernel_rfl) (by kernel_rfl) (by kernel_rfl) (fun _ _ _ h => h) (Or.inl ⟨by rfl, ?_⟩) (by assumption) ?_
      rotate_left
      · intro w hSw; (try dsimp only at hSw); go_simp; try with_reducible rfl
      try simp only [Act.put, List.setIfInBounds_toArray, List.set_cons_zero, List.set_cons_succ]
      refine take_at (i := 5) (v := ?_) rfl rfl (by kernel_rfl) (by kernel_rfl) (by kernel_rfl) (fun _ _ _ h => h) (Or.inl ⟨by rfl, ?_⟩) (by assumption) ?_
      rotate_left
      · intro w hSw; (try dsimp only at hSw); go_simp; try with_reducible rfl
      try simp only [Act.put, List.setIfInBounds_toArray, List.set_cons_zero, List.set_cons_succ]
      refine take_at (i := 6) (v := ?_) rfl rfl (by kernel_rfl) (by kernel_rfl) (by kernel_rfl) (fun _ _ _ h => h) (Or.inl ⟨by rfl, ?_⟩) (by assumption) ?_
      rotate_left
      · intro w hSw; (try dsimp only at hSw); go_simp; try with_reducible rfl
      try simp only [Act.put, List.setIfInBounds_toArray, List.set_cons_zero, List.set_cons_succ]
      refine take_at (i := 7) (v := ?_) rfl rfl (by kernel_rfl) (by kernel_rfl) (by kernel_rfl) (fun _ _ _ h => h) (Or.inl ⟨by rfl, ?_⟩) (by assumption) ?_
      rotate_left
      · intro w hSw; (try dsimp only at hSw); go_simp; try with_reducible rfl
      try simp only [Act.put, List.setIfInBounds_toArray, List.set_cons_zero, List.set_cons_succ]
      refine take_at (i := 8) (v := ?_) rfl rfl (by kernel_rfl) (by kernel_rfl) (by kernel_rfl) (fun _ _ _ h => h) (Or.inl ⟨by rfl, ?_⟩) (by assumption) ?_
      rotate_left
      · intro w hSw; (try dsimp only at hSw); go_simp; try with_reducible rfl
      try simp only [Act.put, List.setIfInBounds_toArray, List.set_cons_zero, List.set_cons_succ]
      refine take_at (i := 9) (v := ?_) rfl rfl (by kernel_rfl) (by kernel_rfl) (by kernel_rfl) (fun _ _ _ h => h) (Or.inl ⟨by rfl, ?_⟩) (by assumption) ?_
      rotate_left
      · intro w hSw; (try dsimp only at hSw); go_simp; try with_reducible rfl
      try simp only [Act.put, List.setIfInBounds_toArray, List.set_cons_zero, List.set_cons_succ]
      refine take_at (i := 10) (v := ?_) rfl rfl (by kernel_rfl) (by kernel_rfl) (by kernel_rfl) (fun _ _ _ h => h) (Or.inl ⟨by rfl, ?_⟩) (by assumption) ?_
      rotate_left
      · intro w hSw; (try dsimp only at hSw); go_simp; try with_reducible rfl
      try simp only [Act.put, List.setIfInBounds_toArray, List.set_cons_zero, List.set_cons_succ]
      refine take_at (i := 11) (v := ?_) rfl rfl (by kernel_rfl) (by kernel_rfl) (by kernel_rfl) (fun _ _ _ h => h) (Or.inl ⟨by rfl, ?_⟩) (by assumption) ?_
      rotate_left
      · intro w hSw; (try dsimp only at hSw); go_simp; try with_reducible rfl
      try simp only [Act.put, List.setIfInBounds_toArray, List.set_cons_zero, List.set_cons_succ]
      refine wpAnyH_ready (rs := [12]) (by kernel_rfl) (by simp) ?_
      refine AllReadyH.cons rfl (fun K hK => ?_) AllReadyH.nil
      go_simp
      refine CS.out.mono ?_
      rintro e w4 ⟨c, hcs, rfl, h4⟩
      have XA : Hid (BackA w r gr gi i m S KE N x y k c w4) := h4
      have s4 : w4.cell? ⟨r, k, none⟩ = some (.pointer (some ⟨gs, 0, none⟩)) ∧ w4.cell? ⟨w.heap.size, 0, none⟩ = some (.string x) ∧ w4.cell? ⟨w.heap.size, 1, none⟩ = some (.string y) := ⟨HR.out w4 h4.row, h4.box.cell 0, h4.box.cell 1⟩
      clear h4 CS XR s0 c0
      refine hK.out _ _ s4 (fun hHeld => ?_)
      clear hK K
      refine take_at (i := 13) (v := ?_) rfl rfl (by kernel_rfl) (by kernel_rfl) (by kernel_rfl) (fun _ _ _ h => h) (Or.inl ⟨by rfl, ?_⟩) (by assumption) ?_
      rotate_left
      · intro w hSw; (try dsimp only at hSw); go_simp; try with_reducible rfl
      try simp only [Act.put, List.setIfInBounds_toArray, List.set_cons_zero, List.set_cons_succ]
      refine take_at (i := 14) (v := ?_) rfl rfl (by kernel_rfl) (by kernel_rfl) (by kernel_rfl) (fun _ _ _ h => h) (Or.inl ⟨by rfl, ?_⟩) (by assumption) ?_
      rotate_left
      · intro w hSw; (try dsimp only at hSw); go_simp; try with_reducible rfl
      try simp only [Act.put, List.setIfInBounds_toArray, List.set_cons_zero, List.set_cons_succ]
      refine take_at (i := 15) (v := ?_) rfl rfl (by kernel_rfl) (by kernel_rfl) (by kernel_rfl) (fun _ _ _ h => h) (Or.inl ⟨by rfl, ?_⟩) (by assumption) ?_
      rotate_left
      · intro w hSw; (try dsimp only at hSw); go_simp; try with_reducible rfl
      try simp only [Act.put, List.setIfInBounds_toArray, List.set_cons_zero, List.set_cons_succ]
      refine take_at (i := 16) (v := ?_) rfl rfl (by kernel_rfl) (by kernel_rfl) (by kernel_rfl) (fun _ _ _ h => h) (Or.inl ⟨by rfl, ?_⟩) (by assumption) ?_
      rotate_left
      · intro w hSw; (try dsimp only at hSw); go_simp; try with_reducible rfl
      try simp only [Act.put, List.setIfInBounds_toArray, List.set_cons_zero, List.set_cons_succ]
      refine take_at (i := 17) (v := ?_) rfl rfl (by kernel_rfl) (by kernel_rfl) (by kernel_rfl) (fun _ _ _ h => h) (Or.inl ⟨by rfl, ?_⟩) (by assumption) ?_
      rotate_left
      · intro w hSw; (try dsimp only at hSw); go_simp; try with_reducible rfl
      try simp only [Act.put, List.setIfInBounds_toArray, List.set_cons_zero, List.set_cons_succ]
      refine wpAnyH_done (by kernel_rfl) (NoPanic.normal ?_) _
      have s5 : w4.drew.cell? ⟨r, k, none⟩ = some (.pointer (some ⟨gs, 0, none⟩)) ∧ w4.drew.cell? ⟨w.heap.size, 0, none⟩ = some (.string x) := ⟨s4.1, s4.2.1⟩
      have CO : Hid (Calls _ _ _ _ _) := back_open (wr := w4.drew) (K := KE) (N := N) HP.out HY.out HM.out hcs Hgs.out (XA.out.on (Below.refl _ _).drew)
      clear s4 XA
      go_wp2_with fail
      refine wp_region_noPanic ?_
      refine wp_region_held_drew (S := fun w' => w'.cell? ⟨r, k, none⟩ = some (.pointer (some ⟨gs, 0, none⟩)) ∧ w'.cell? ⟨w.heap.size, 0, none⟩ = some (.string x)) (by kernel_rfl) (by first | exact trivial | assumption | exact ⟨by assumption, by assumption⟩) (fun hHeld => ?_)
      refine take_at (i := 0) (v := ?_) rfl rfl (by kernel_rfl) (by kernel_rfl) (by kernel_rfl) (fun _ _ _ h => h) (Or.inl ⟨by rfl, ?_⟩) (by assumption) ?_
      rotate_left
      · intro w hSw; (try dsimp only at hSw); go_simp; try with_reducible rfl
      try simp only [Act.put, List.setIfInBounds_toArray, List.set_cons_zero, List.set_cons_succ]
      refine take_at (i := 1) (v := ?_) rfl rfl (by kernel_rfl) (by kernel_rfl) (by kernel_rfl) (fun _ _ _ h => h) (Or.inl ⟨by rfl, ?_⟩) (by assumption) ?_
      rotate_left
      · intro w hSw; (try dsimp only at hSw); go_simp; try with_reducible rfl
      try simp only [Act.put, List.setIfInBounds_toArray, List.set_cons_zero, List.set_cons_succ]
      refine take_at (i := 2) (v := ?_) rfl rfl (by kernel_rfl) (by kernel_rfl) (by kernel_rfl) (fun _ _ _ h => h) (Or.inl ⟨by rfl, ?_⟩) (by assumption) ?_
      rotate_left
      · intro w hSw; (try dsimp only at hSw); go_simp; try with_reducible rfl
      try simp only [Act.put, List.setIfInBounds_toArray, List.set_cons_zero, List.set_cons_succ]
      refine take_at (i := 3) (v := ?_) rfl rfl (by kernel_rfl) (by kernel_rfl) (by kernel_rfl) (fun _ _ _ h => h) (Or.inl ⟨by rfl, ?_⟩) (by assumption) ?_
      rotate_left
      · intro w hSw; (try dsimp only at hSw); go_simp; try with_reducible rfl
      try simp only [Act.put, List.setIfInBounds_toArray, List.set_cons_zero, List.set_cons_succ]
      refine take_at (i := 4) (v := ?_) rfl rfl (by kernel_rfl) (by kernel_rfl) (by kernel_rfl) (fun _ _ _ h => h) (Or.inl ⟨by rfl, ?_⟩) (by assumption) ?_
      rotate_left
      · intro w hSw; (try dsimp only at hSw); go_simp; try with_reducible rfl
      try simp only [Act.put, List.setIfInBounds_toArray, List.set_cons_zero, List.set_cons_succ]
      refine take_at (i := 5) (v := ?_) rfl rfl (by kernel_rfl) (by kernel_rfl) (by kernel_rfl) (fun _ _ _ h => h) (Or.inl ⟨by rfl, ?_⟩) (by assumption) ?_
      rotate_left
      · intro w hSw; (try dsimp only at hSw); go_simp; try with_reducible rfl
      try simp only [Act.put, List.setIfInBounds_toArray, List.set_cons_zero, List.set_cons_succ]
      refine take_at (i := 6) (v := ?_) rfl rfl (by kernel_rfl) (by kernel_rfl) (by kernel_rfl) (fun _ _ _ h => h) (Or.inl ⟨by rfl, ?_⟩) (by assumption) ?_
      rotate_left
      · intro w hSw; (try dsimp only at hSw); go_simp; try with_reducible rfl
      try simp only [Act.put, List.setIfInBounds_toArray, List.set_cons_zero, List.set_cons_succ]
      refine take_at (i := 7) (v := ?_) rfl rfl (by kernel_rfl) (by kernel_rfl) (by kernel_rfl) (fun _ _ _ h => h) (Or.inl ⟨by rfl, ?_⟩) (by assumption) ?_
      rotate_left
      · intro w hSw; (try dsimp only at hSw); go_simp; try with_reducible rfl
      try simp only [Act.put, List.setIfInBounds_toArray, List.set_cons_zero, List.set_cons_succ]
      refine take_at (i := 8) (v := ?_) rfl rfl (by kernel_rfl) (by kernel_rfl) (by kernel_rfl) (fun _ _ _ h => h) (Or.inl ⟨by rfl, ?_⟩) (by assumption) ?_
      rotate_left
      · intro w hSw; (try dsimp only at hSw); go_simp; try with_reducible rfl
      try simp only [Act.put, List.setIfInBounds_toArray, List.set_cons_zero, List.set_cons_succ]
      refine take_at (i := 9) (v := ?_) rfl rfl (by kernel_rfl) (by kernel_rfl) (by kernel_rfl) (fun _ _ _ h => h) (Or.inl ⟨by rfl, ?_⟩) (by assumption) ?_
      rotate_left
      · intro w hSw; (try dsimp only at hSw); go_simp; try with_reducible rfl
      try simp only [Act.put, List.setIfInBounds_toArray, List.set_cons_zero, List.set_cons_succ]
      refine take_at (i := 10) (v := ?_) rfl rfl (by kernel_rfl) (by kernel_rfl) (by kernel_rfl) (fun _ _ _ h => h) (Or.inl ⟨by rfl, ?_⟩) (by assumption) ?_
      rotate_left
      · intro w hSw; (try dsimp only at hSw); go_simp; try with_reducible rfl
      try simp only [Act.put, List.setIfInBounds_toArray, List.set_cons_zero, List.set_cons_succ]
      refine wpAnyH_ready (rs := [11]) (by kernel_rfl) (by simp) ?_
      refine AllReadyH.cons rfl (fun K hK => ?_) AllReadyH.nil
      go_simp
      refine CO.out.mono ?_
      rintro e w5 ⟨rfl, h5⟩
      have XB : Hid (BackA w r gr gi i m S KE N x y k c w5) := h5
      have s6 : w5.cell? ⟨r, k, none⟩ = some (.pointer (some ⟨gs, 0, none⟩)) ∧ w5.cell? ⟨w.heap.size, 0, none⟩ = some (.string x) := ⟨HR.out w5 h5.row, h5.box.cell 0⟩
      have d0 : w5.cell? ⟨w.heap.size, 0, none⟩ = some (.string x) := h5.box.cell 0
      have d1 : w5.cell? ⟨w.heap.size, 1, none⟩ = some (.string y) := h5.box.cell 1
      clear h5 CO s5
      refine hK.out _ _ s6 (fun hHeld => ?_)
      clear hK K
      refine take_at (i := 12) (v := ?_) rfl rfl (by kernel_rfl) (by kernel_rfl) (by kernel_rfl) (fun _ _ _ h => h) (Or.inl ⟨by rfl, ?_⟩) (by assumption) ?_
      rotate_left
      · intro w hSw; (try dsimp only at hSw); go_simp; try with_reducible rfl
      try simp only [Act.put, List.setIfInBounds_toArray, List.set_cons_zero, List.set_cons_succ]
      refine take_at (i := 13) (v := ?_) rfl rfl (by kernel_rfl) (by kernel_rfl) (by kernel_rfl) (fun _ _ _ h => h) (Or.inl ⟨by rfl, ?_⟩) (by assumption) ?_
      rotate_left
      · intro w hSw; (try dsimp only at hSw); go_simp; try with_reducible rfl
      try simp only [Act.put, List.setIfInBounds_toArray, List.set_cons_zero, List.set_cons_succ]
      refine take_at (i := 14) (v := ?_) rfl rfl (by kernel_rfl) (by kernel_rfl) (by kernel_rfl) (fun _ _ _ h => h) (Or.inl ⟨by rfl, ?_⟩) (by assumption) ?_
      rotate_left
      · intro w hSw; (try dsimp only at hSw); go_simp; try with_reducible rfl
      try simp only [Act.put, List.setIfInBounds_toArray, List.set_cons_zero, List.set_cons_succ]
      refine take_at (i := 15) (v := ?_) rfl rfl (by kernel_rfl) (by kernel_rfl) (by kernel_rfl) (fun _ _ _ h => h) (Or.inl ⟨by rfl, ?_⟩) (by assumption) ?_
      rotate_left
      · intro w hSw; (try dsimp only at hSw); go_simp; try with_reducible rfl
      try simp only [Act.put, List.setIfInBounds_toArray, List.set_cons_zero, List.set_cons_succ]
      refine take_at (i := 16) (v := ?_) rfl rfl (by kernel_rfl) (by kernel_rfl) (by kernel_rfl) (fun _ _ _ h => h) (Or.inl ⟨by rfl, ?_⟩) (by assumption) ?_
      rotate_left
      · intro w hSw; (try dsimp only at hSw); go_simp; try with_reducible rfl
      try simp only [Act.put, List.setIfInBounds_toArray, List.set_cons_zero, List.set_cons_succ]
      refine wpAnyH_done (by kernel_rfl) (NoPanic.normal ?_) _
      have hcq : ((c.size : Int) != (y.size : Int) + 16) = false := by rw [bne_eq_false_iff_eq]; omega
      clear s6
      by_cases hk0 : k = 0
      · have q0 : ((k : Int) == 0) = true := by rw [hk0]; rfl
        have CA : Hid (Calls Tryd.prog 11 #[.string KE, .string N, .string x, .string y] w5.drew fun e w'' => e = .returned (.tuple #[.string c, .int .i64 0]) ∧ Below w5.heap.size w5.drew w'') := by
          rcases XB.out with ⟨_, hc, hbs⟩ | ⟨h1, _⟩
          · have hb5 : Below w.heap.size w w5.drew := hbs.bel.drew
            have := aseal_yes KE N x y w5.drew HM.out (HP.out.below hb5) (HY.out.below hb5)
            rw [hc]; exact this
          · omega
        have s7 : w5.drew.cell? ⟨w.heap.size, 0, none⟩ = some (.string x) ∧ w5.drew.cell? ⟨w.heap.size, 1, none⟩ = some (.string y) := ⟨d0, d1⟩
        go_wp2_with fail
        refine wp_region_noPanic ?_
        refine wp_region_held_drew (S := fun w' => w'.cell? ⟨w.heap.size, 0, none⟩ = some (.string x) ∧ w'.cell? ⟨w.heap.size, 1, none⟩ = some (.string y)) (by kernel_rfl) (by first | exact trivial | assumption | exact ⟨by assumption, by assumption⟩) (fun hHeld => ?_)
        refine take_at (i := 0) (v := ?_) rfl rfl (by kernel_rfl) (by kernel_rfl) (by kernel_rfl) (fun _ _ _ h => h) (Or.inl ⟨by rfl, ?_⟩) (by assumption) ?_
        rotate_left
        · intro w hSw; (try dsimp only at hSw); go_simp; try with_reducible rfl
        try simp only [Act.put, List.setIfInBounds_toArray, List.set_cons_zero, List.set_cons_succ]
        refine take_at (i := 1) (v := ?_) rfl rfl (by kernel_rfl) (by kernel_rfl) (by kernel_rfl) (fun _ _ _ h => h) (Or.inl ⟨by rfl, ?_⟩) (by assumption) ?_
        rotate_left
        · intro w hSw; (try dsimp only at hSw); go_simp; try with_reducible rfl
        try simp only [Act.put, List.setIfInBounds_toArray, List.set_cons_zero, List.set_cons_succ]
        refine take_at (i := 2) (v := ?_) rfl rfl (by kernel_rfl) (by kernel_rfl) (by kernel_rfl) (fun _ _ _ h => h) (Or.inl ⟨by rfl, ?_⟩) (by assumption) ?_
        rotate_left
        · intro w hSw; (try dsimp only at hSw); go_simp; try with_reducible rfl
        try simp only [Act.put, List.setIfInBounds_toArray, List.set_cons_zero, List.set_cons_succ]
        refine take_at (i := 3) (v := ?_) rfl rfl (by kernel_rfl) (by kernel_rfl) (by kernel_rfl) (fun _ _ _ h => h) (Or.inl ⟨by rfl, ?_⟩) (by assumption) ?_
        rotate_left
        · intro w hSw; (try dsimp only at hSw); go_simp; try with_reducible rfl
        try simp only [Act.put, List.setIfInBounds_toArray, List.set_cons_zero, List.set_cons_succ]
        refine take_at (i := 4) (v := ?_) rfl rfl (by kernel_rfl) (by kernel_rfl) (by kernel_rfl) (fun _ _ _ h => h) (Or.inl ⟨by rfl, ?_⟩) (by assumption) ?_
        rotate_left
        · intro w hSw; (try dsimp only at hSw); go_simp; try with_reducible rfl
        try simp only [Act.put, List.setIfInBounds_toArray, List.set_cons_zero, List.set_cons_succ]
        refine take_at (i := 5) (v := ?_) rfl rfl (by kernel_rfl) (by kernel_rfl) (by kernel_rfl) (fun _ _ _ h => h) (Or.inl ⟨by rfl, ?_⟩) (by assumption) ?_
        rotate_left
        · intro w hSw; (try dsimp only at hSw); go_simp; try with_reducible rfl
        try simp only [Act.put, List.setIfInBounds_toArray, List.set_cons_zero, List.set_cons_succ]
        refine take_at (i := 6) (v := ?_) rfl rfl (by kernel_rfl) (by kernel_rfl) (by kernel_rfl) (fun _ _ _ h => h) (Or.inl ⟨by rfl, ?_⟩) (by assumption) ?_
        rotate_left
        · intro w hSw; (try dsimp only at hSw); go_simp; try with_reducible rfl
        try simp only [Act.put, List.setIfInBounds_toArray, List.set_cons_zero, List.set_cons_succ]
        refine take_at (i := 7) (v := ?_) rfl rfl (by kernel_rfl) (by kernel_rfl) (by kernel_rfl) (fun _ _ _ h => h) (Or.inl ⟨by rfl, ?_⟩) (by assumption) ?_
        rotate_left
        · intro w hSw; (try dsimp only at hSw); go_simp; try with_reducible rfl
        try simp only [Act.put, List.setIfInBounds_toArray, List.set_cons_zero, List.set_cons_succ]
        refine wpAnyH_ready (rs := [8]) (by kernel_rfl) (by simp) ?_
        refine AllReadyH.cons rfl (fun K hK => ?_) AllReadyH.nil
        go_simp
        refine CA.out.mono ?_
        rintro e w6 ⟨rfl, hb6⟩
        have hb6' : Below w5.heap.size w5 w6 := (Below.refl _ _).drew.trans hb6
        have XC : Hid (BackA w r gr gi i m S KE N x y k c w6) := XB.out.on hb6'
        have s8 : w6.cell? ⟨w.heap.size, 0, none⟩ = some (.string x) ∧ w6.cell? ⟨w.heap.size, 1, none⟩ = some (.string y) := ⟨XC.out.box.cell 0, XC.out.box.cell 1⟩
        clear hb6 hb6' CA XB s7 d0 d1
        refine hK.out _ _ s8 (fun hHeld => ?_)
        clear hK K
        refine take_at (i := 9) (v := ?_) rfl rfl (by kernel_rfl) (by kernel_rfl) (by kernel_rfl) (fun _ _ _ h => h) (Or.inl ⟨by rfl, ?_⟩) (by assumption) ?_
        rotate_left
        · intro w hSw; (try dsimp only at hSw); go_simp; try with_reducible rfl
        try simp only [Act.put, List.setIfInBounds_toArray, List.set_cons_zero, List.set_cons_succ]
        refine take_at (i := 10) (v := ?_) rfl rfl (by kernel_rfl) (by kernel_rfl) (by kernel_rfl) (fun _ _ _ h => h) (Or.inl ⟨by rfl, ?_⟩) (by assumption) ?_
        rotate_left
        · intro w hSw; (try dsimp only at hSw); go_simp; try with_reducible rfl
        try simp only [Act.put, List.setIfInBounds_toArray, List.set_cons_zero, List.set_cons_succ]
        refine take_at (i := 11) (v := ?_) rfl rfl (by kernel_rfl) (by kernel_rfl) (by kernel_rfl) (fun _ _ _ h => h) (Or.inl ⟨by rfl, ?_⟩) (by assumption) ?_
        rotate_left
        · intro w hSw; (try dsimp only at hSw); go_simp; try with_reducible rfl
        try simp only [Act.put, List.setIfInBounds_toArray, List.set_cons_zero, List.set_cons_succ]
        refine take_at (i := 12) (v := ?_) rfl rfl (by kernel_rfl) (by kernel_rfl) (by kernel_rfl) (fun _ _ _ h => h) (Or.inl ⟨by rfl, ?_⟩) (by assumption) ?_
        rotate_left
        · intro w hSw; (try dsimp only at hSw); go_simp; try with_reducible rfl
        try simp only [Act.put, List.setIfInBounds_toArray, List.set_cons_zero, List.set_cons_succ]
        refine take_at (i := 13) (v := ?_) rfl rfl (by kernel_rfl) (by kernel_rfl) (by kernel_rfl) (fun _ _ _ h => h) (Or.inl ⟨by rfl, ?_⟩) (by assumption) ?_
        rotate_left
        · intro w hSw; (try dsimp only at hSw); go_simp; try with_reducible rfl
        try simp only [Act.put, List.setIfInBounds_toArray, List.set_cons_zero, List.set_cons_succ]
        refine wpAnyH_done (by kernel_rfl) (NoPanic.normal ?_) _
        clear s8
        go_wp2_with fail
        refine ⟨⟨k + 1, by omega, by first | go_num | (rw [hk0]; rfl), XC.out.next⟩, ?_⟩
        first | (simp [intOf]; omega) | (simp [intOf, hk0])
      · have q0 : ((k : Int) == 0) = false := by rw [beq_eq_false_iff_ne]; omega
        go_wp2_with fail
        refine ⟨⟨k + 1, by omega, by go_num, XB.out.next⟩, ?_⟩
        simp [intOf]; omega
    · obtain rfl : k = 2 := by omega
      go_wp2_with fail
      refine (awake16_on w _ HH.out XR.out.bel).mono ?_
      rintro e w3 ⟨rfl, hb3⟩
      go_wp2_with fail
      go_ret
      exact ⟨rfl, hb3⟩

set_option maxHeartbeats 4000000 in
theorem vaultBack_heavy (S ks x y : ByteArray) (w : World) (hh : Hsh w) (h : ¬ (S.size ≤ 100 ∧ ks.size = 44 ∧ x.size ≤ 300 ∧ y.size ≤ 300)) :
    Calls Tryd.prog 3 #[.string S, .string ks, .agg #[.string x, .string y]] w fun e w' => e = .returned (.bool true) ∧ Below w.heap.size w w' := by
  have HC : Hid (∀ w', Below w.heap.size w w' → _) := fun w' hb => awake16_on w w' hh hb
  clear hh
  by_cases h1 : S.size ≤ 100
  · have g0 : ¬ ((100 : Int) < (S.size : Int)) := by omega
    by_cases h2 : ks.size = 44
    · have g1 : ((ks.size : Int) != 44) = false := by rw [bne_eq_false_iff_eq]; omega
      by_cases h3 : x.size ≤ 300
      · have g2 : ¬ ((300 : Int) < (x.size : Int)) := by omega
        have g3 : decide ((300 : Int) < (y.size : Int)) = true := decide_eq_true (by have : ¬ y.size ≤ 300 := fun h4 => h ⟨h1, h2, h3, h4⟩; omega)
        clear h
        go_enter Tryd.func3, Tryd.ntmps3
        go_wp2_with fail
        refine (HC.out _ (below_new w _)).mono ?_
        rintro e w1 ⟨rfl, hb1⟩
        go_wp2_with fail
        go_ret
        exact ⟨rfl, hb1⟩
      · have g2 : (300 : Int) < (x.size : Int) := by omega
        clear h
        go_enter Tryd.func3, Tryd.ntmps3
        go_wp2_with fail
        refine (HC.out _ (below_new w _)).mono ?_
        rintro e w1 ⟨rfl, hb1⟩
        go_wp2_with fail
        go_ret
        exact ⟨rfl, hb1⟩
    · have g1 : ((ks.size : Int) != 44) = true := by rw [bne_iff_ne]; omega
      clear h
      go_enter Tryd.func3, Tryd.ntmps3
      go_wp2_with fail
      refine (HC.out _ (below_new w _)).mono ?_
      rintro e w1 ⟨rfl, hb1⟩
      go_wp2_with fail
      go_ret
      exact ⟨rfl, hb1⟩
  · have g0 : (100 : Int) < (S.size : Int) := by omega
    clear h
    go_enter Tryd.func3, Tryd.ntmps3
    go_wp2_with fail
    refine (HC.out _ (below_new w _)).mono ?_
    rintro e w1 ⟨rfl, hb1⟩
    go_wp2_with fail
    go_ret
    exact ⟨rfl, hb1⟩

theorem vaultBack_walk (S ks x y : ByteArray) (w : World) (hh : Hsh w) (hP : GlobP w) (hY : GlobY w) :
    Calls Tryd.prog 3 #[.string S, .string ks, .agg #[.string x, .string y]] w fun e w' => e = .returned (.bool true) ∧ Below w.heap.size w w' := by
  by_cases h : S.size ≤ 100 ∧ ks.size = 44 ∧ x.size ≤ 300 ∧ y.size ≤ 300
  · exact vaultBack_light S ks x y w hh hP hY h.1 h.2.1 h.2.2.1 h.2.2.2
  · exact vaultBack_heavy S ks x y w hh h

end Go.Proofs.YtfajkkjppelgcaaDoor
