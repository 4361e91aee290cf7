/- Layer 9's laws: a part read on both sides, of an empty In on the document's. -/
import Derived.Test.YtmpjhflbmngajaaCdM
import Derived.Test.YtmpjhflbmngajaaRecEq
namespace Go.Proofs.Ytmpjhflbmngajaa
open Go.RowKit
set_option linter.unusedSimpArgs false

/-- What a part leaves, a text of so many bytes at the most as the part tells. -/
def nextT (i : ByteArray × Int) (p : Int × Int × Int × ByteArray) : ByteArray × Int :=
  if kd p = 1 then (numberP i 1).1 else if kd p = 2 then (inNumP i).1 else if kd p = 3 then (inStampC i).1 else (inTextC i (pn p)).1
theorem zero1 : numberP (⟨#[]⟩, 0) 1 = ((⟨#[]⟩, 90), 0) := rfl
theorem zero2 : inNumP (⟨#[]⟩, 0) = ((⟨#[]⟩, 90), 0) := rfl
theorem zero3 : inStampP (⟨#[]⟩, 0) = ((⟨#[]⟩, 90), (0, 0)) := rfl
theorem zero4 (m : Int) : inTextP (⟨#[]⟩, 0) m = ((⟨#[]⟩, 90), ⟨#[]⟩) := rfl

theorem InTo.setRowNew {w w' : World} {g : Nat} {i : ByteArray × Int} (h : InTo w g i w') (c : Nat) (hc : w.heap.size ≤ c) (hg : g ≠ c) (cs : Array Value) : InTo w g i (w'.setRow c cs) :=
  ⟨⟨h.1.1.setRowOther c hg cs, h.1.2⟩, h.2.setRowNew c hc cs⟩
set_option maxHeartbeats 8000000 in
set_option maxRecDepth 100000 in
theorem reads_any (g : Nat) (i : ByteArray × Int) (p : Int × Int × Int × ByteArray) (w : World) (h : InAt w g i) :
    Calls Try.prog 21 #[.pointer (some ⟨g, 0, none⟩), .agg #[.string ⟨#[]⟩, .int .i64 0], partV p] w fun e w' => ∃ q : Bool, e = .returned (.tuple #[.agg #[.string ⟨#[]⟩, .int .i64 90], .bool q]) ∧ InTo w g (nextT i p) w' := by
  have hlt := h.1.lt
  have hI : Hid (InAt w g i) := h
  clear h
  obtain ⟨i', hi'⟩ : ∃ i', nextT i p = i' := ⟨_, rfl⟩
  rw [hi']
  unfold nextT at hi'
  have hR1 := fun w => rinByte_any (⟨#[]⟩, 0) w (by decide)
  have hR2 := fun w => rinNum_any (⟨#[]⟩, 0) w (by decide)
  have hR3 := fun w => rinStamp_any (⟨#[]⟩, 0) w (by decide)
  have hR4 := fun w => rinText_any (⟨#[]⟩, 0) (pn p) w (by decide)
  rw [zero1] at hR1
  rw [zero2] at hR2
  rw [zero3] at hR3
  rw [zero4] at hR4
  unfold inV at hR1 hR2 hR3 hR4
  unfold partV
  generalize kd p = K at *
  generalize pn p = N at *
  generalize pm p = M at *
  generalize ps p = X at *
  have HA : Hid (Blk (((w.alloc (.cells #[.string ⟨#[]⟩, .int .i64 0] 45)).alloc (.cells #[.int .i64 K, .int .i64 N, .int .i64 M, .string X] 31)).alloc (.cells #[.string ⟨#[]⟩, .int .i64 0] 45)) 45 w.heap.size #[.string ⟨#[]⟩, .int .i64 0]) := ((Blk.new w _ _).alloc _).alloc _
  have HB : Hid (Blk (((w.alloc (.cells #[.string ⟨#[]⟩, .int .i64 0] 45)).alloc (.cells #[.int .i64 K, .int .i64 N, .int .i64 M, .string X] 31)).alloc (.cells #[.string ⟨#[]⟩, .int .i64 0] 45)) 31 (w.heap.size + 1) #[.int .i64 K, .int .i64 N, .int .i64 M, .string X]) := (Blk.new' _ _ _ _ (by simp)).alloc _
  have HC : Hid (Blk (((w.alloc (.cells #[.string ⟨#[]⟩, .int .i64 0] 45)).alloc (.cells #[.int .i64 K, .int .i64 N, .int .i64 M, .string X] 31)).alloc (.cells #[.string ⟨#[]⟩, .int .i64 0] 45)) 45 (w.heap.size + 2) #[.string ⟨#[]⟩, .int .i64 0]) := Blk.new' _ _ _ _ (by simp)
  have HW : Hid (Below w.heap.size w (((w.alloc (.cells #[.string ⟨#[]⟩, .int .i64 0] 45)).alloc (.cells #[.int .i64 K, .int .i64 N, .int .i64 M, .string X] 31)).alloc (.cells #[.string ⟨#[]⟩, .int .i64 0] 45))) := ((below_new w _).alloc (by simp) _).alloc (by simp; omega) _
  by_cases h1 : K = 1
  · rw [if_pos h1] at hi'
    have HR : Hid (∀ w, Calls Try.prog 36 #[.agg #[.string ⟨#[]⟩, .int .i64 0]] w fun e w' => e = .returned (.tuple #[.agg #[.string ⟨#[]⟩, .int .i64 90], .int .i64 0]) ∧ Below w.heap.size w w') := hR1
    obtain ⟨V, hV⟩ : ∃ V : Int, ((numberP i 1).2 : Int) = V := ⟨_, rfl⟩
    have HO : Hid (∀ w', InAt w' g i → Calls Try.prog 15 #[.pointer (some ⟨g, 0, none⟩)] w' fun e w'' => e = .returned (.int .i64 V) ∧ InTo w' g i' w'') := fun w' h => by
      have := ibyte_any g i w' h
      rw [hV, hi'] at this
      exact this
    clear hR1 hR2 hR3 hR4 hV hi'
    subst h1
    go_enter Try.func21, Try.ntmps21
    go_wp2_with fail
    refine (HR.out _).mono ?_
    rintro e w1 ⟨rfl, hb1⟩
    have A1 := HA.out.on hb1
    have C1 : Hid (Blk w1 31 (w.heap.size + 1) #[_, .int .i64 N, .int .i64 M, .string X]) := HB.out.on hb1
    have D1 := HC.out.on hb1
    have B1 : Hid (Below w.heap.size w w1) := below_step HW.out (Nat.le_refl _) hb1
    have l1 := hb1.size
    have l0 : w.heap.size + 3 ≤ w1.heap.size := by have := D1.lt; omega
    clear hb1 HA HB HC HW A1 l1
    obtain ⟨c8, hc8⟩ : ∃ c8, w1.heap.size = c8 := ⟨_, rfl⟩
    have E8 : Hid (Blk (w1.alloc (.cells #[.string ⟨#[]⟩, .int .i64 90] 45)) 45 c8 #[.string ⟨#[]⟩, .int .i64 90]) := Blk.new' _ _ _ _ hc8
    have D8 : Hid (Blk (w1.alloc (.cells #[.string ⟨#[]⟩, .int .i64 90] 45)) 45 (w.heap.size + 2) #[.string ⟨#[]⟩, .int .i64 0]) := D1.alloc _
    have B8 : Hid (Below w.heap.size w (w1.alloc (.cells #[.string ⟨#[]⟩, .int .i64 90] 45)).drew) := (B1.out.alloc (by omega) _).drew
    have l8 : w.heap.size + 2 < c8 := by omega
    clear D1 C1 l0
    go_wp2_with fail
    have hS0 : (w1.alloc (.cells #[.string ⟨#[]⟩, .int .i64 90] 45)).cell? ⟨c8, 0, none⟩ = some (.string ⟨#[]⟩) ∧ (w1.alloc (.cells #[.string ⟨#[]⟩, .int .i64 90] 45)).cell? ⟨c8, 1, none⟩ = some (.int .i64 90) := ⟨E8.out.cell 0, E8.out.cell 1⟩
    refine wp_region_noPanic ?_
    refine wp_region_held_drew (S := fun W' => W'.cell? ⟨c8, 0, none⟩ = some (.string ⟨#[]⟩) ∧ W'.cell? ⟨c8, 1, none⟩ = some (.int .i64 90)) (by kernel_rfl) (by first | exact trivial | assumption | exact ⟨by assumption, by assumption⟩) (fun hHeld => ?_)
    refine take_at (i := 0) (v := ?_) rfl rfl (by kernel_rfl) (by kernel_rfl) (by kernel_rfl) (fun _ _ _ h => h) (Or.inl ⟨by rfl, ?_⟩) (by assumption) ?_
    rotate_left
    · intro w hSw; (try dsimp only at hSw); go_simp; try with_reducible rfl
    try simp only [Act.put, List.setIfInBounds_toArray, List.set_cons_zero, List.set_cons_succ]
    refine take_at (i := 1) (v := ?_) rfl rfl (by kernel_rfl) (by kernel_rfl) (by kernel_rfl) (fun _ _ _ h => h) (Or.inl ⟨by rfl, ?_⟩) (by assumption) ?_
    rotate_left
    · intro w hSw; (try dsimp only at hSw); go_simp; try with_reducible rfl
    try simp only [Act.put, List.setIfInBounds_toArray, List.set_cons_zero, List.set_cons_succ]
    refine take_at (i := 3) (v := ?_) rfl rfl (by kernel_rfl) (by kernel_rfl) (by kernel_rfl) (fun _ _ _ h => h) (Or.inl ⟨by rfl, ?_⟩) (by assumption) ?_
    rotate_left
    · intro w hSw; (try dsimp only at hSw); go_simp; try with_reducible rfl
    try simp only [Act.put, List.setIfInBounds_toArray, List.set_cons_zero, List.set_cons_succ]
    refine wpAnyH_ready (rs := [2]) (by kernel_rfl) (by simp) ?_
    refine AllReadyH.cons rfl (fun K hK => ?_) AllReadyH.nil
    go_simp
    refine (HO.out _ (hI.out.on B8.out)).mono ?_
    rintro e w2 ⟨rfl, h2⟩
    have E2 : Hid (Blk w2 45 c8 #[.string ⟨#[]⟩, .int .i64 90]) := (E8.out.on (Below.refl _ _).drew).kept h2.2 (by omega) (by simp)
    have D2 : Hid (Blk w2 45 (w.heap.size + 2) #[.string ⟨#[]⟩, .int .i64 0]) := (D8.out.on (Below.refl _ _).drew).kept h2.2 (by omega) (by simp)
    have H2 : Hid (InTo w g i' w2) := InTo.behind B8.out h2
    have hS2 : w2.cell? ⟨c8, 0, none⟩ = some (.string ⟨#[]⟩) ∧ w2.cell? ⟨c8, 1, none⟩ = some (.int .i64 90) := ⟨E2.out.cell 0, E2.out.cell 1⟩
    clear h2 E8 D8 B8
    refine hK.out _ _ hS2 (fun hHeld => ?_)
    clear hK K
    refine take_at (i := 4) (v := ?_) rfl rfl (by kernel_rfl) (by kernel_rfl) (by kernel_rfl) (fun _ _ _ h => h) (Or.inl ⟨by rfl, ?_⟩) (by assumption) ?_
    rotate_left
    · intro w hSw; (try dsimp only at hSw); go_simp; try with_reducible rfl
    try simp only [Act.put, List.setIfInBounds_toArray, List.set_cons_zero, List.set_cons_succ]
    refine wpAnyH_ready (rs := [5]) (by kernel_rfl) (by simp) ?_
    refine AllReadyH.cons rfl (fun K hK => ?_) AllReadyH.nil
    refine step_storeRow rfl rfl 45 _ _ rfl (w.heap.size + 2) #[.string ⟨#[]⟩, .int .i64 0] #[.string ⟨#[]⟩, .int .i64 90] rfl rfl D2.out rfl (by kernel_rfl) (by simp [Value.oneCell']) ?_
    have E3 := E2.out.setRowOther (w.heap.size + 2) (by omega) #[.string ⟨#[]⟩, .int .i64 90]
    refine hK.out _ _ (show _ ∧ _ from ⟨E3.cell 0, E3.cell 1⟩) (fun hHeld => ?_)
    clear hK K
    refine take_at (i := 6) (v := ?_) rfl rfl (by kernel_rfl) (by kernel_rfl) (by kernel_rfl) (fun _ _ _ h => h) (Or.inl ⟨by rfl, ?_⟩) (by assumption) ?_
    rotate_left
    · intro w hSw; (try dsimp only at hSw); go_simp; try with_reducible rfl
    try simp only [Act.put, List.setIfInBounds_toArray, List.set_cons_zero, List.set_cons_succ]
    refine wpAnyH_done (by kernel_rfl) (NoPanic.normal ?_) _
    go_wp2_with fail
    exact bodyPost_rowTmp rfl (w.heap.size + 2) #[.string ⟨#[]⟩, .int .i64 90] _ rfl rfl rfl (D2.out.setRow _) _ Try.underlying45 rfl (by kernel_rfl) ⟨_, rfl, H2.out.setRowNew _ (by omega) (by omega) _⟩
  · rw [if_neg h1] at hi'
    by_cases h2 : K = 2
    · rw [if_pos h2] at hi'
      have HR : Hid (∀ w, Calls Try.prog 37 #[.agg #[.string ⟨#[]⟩, .int .i64 0]] w fun e w' => e = .returned (.tuple #[.agg #[.string ⟨#[]⟩, .int .i64 90], .int .i64 0]) ∧ Below w.heap.size w w') := hR2
      obtain ⟨V, hV⟩ : ∃ V : Int, ((inNumP i).2 : Int) = V := ⟨_, rfl⟩
      have HO : Hid (∀ w', InAt w' g i → Calls Try.prog 16 #[.pointer (some ⟨g, 0, none⟩)] w' fun e w'' => e = .returned (.int .i64 V) ∧ InTo w' g i' w'') := fun w' h => by
        have := inum_any g i w' h
        rw [hV, hi'] at this
        exact this
      clear hR1 hR2 hR3 hR4 hV hi' h1
      subst h2
      go_enter Try.func21, Try.ntmps21
      go_wp2_with fail
      refine (HR.out _).mono ?_
      rintro e w1 ⟨rfl, hb1⟩
      have A1 := HA.out.on hb1
      have C1 : Hid (Blk w1 31 (w.heap.size + 1) #[_, .int .i64 N, .int .i64 M, .string X]) := HB.out.on hb1
      have D1 := HC.out.on hb1
      have B1 : Hid (Below w.heap.size w w1) := below_step HW.out (Nat.le_refl _) hb1
      have l1 := hb1.size
      have l0 : w.heap.size + 3 ≤ w1.heap.size := by have := D1.lt; omega
      clear hb1 HA HB HC HW A1 l1
      obtain ⟨c8, hc8⟩ : ∃ c8, w1.heap.size = c8 := ⟨_, rfl⟩
      have E8 : Hid (Blk (w1.alloc (.cells #[.string ⟨#[]⟩, .int .i64 90] 45)) 45 c8 #[.string ⟨#[]⟩, .int .i64 90]) := Blk.new' _ _ _ _ hc8
      have D8 : Hid (Blk (w1.alloc (.cells #[.string ⟨#[]⟩, .int .i64 90] 45)) 45 (w.heap.size + 2) #[.string ⟨#[]⟩, .int .i64 0]) := D1.alloc _
      have B8 : Hid (Below w.heap.size w (w1.alloc (.cells #[.string ⟨#[]⟩, .int .i64 90] 45)).drew) := (B1.out.alloc (by omega) _).drew
      have l8 : w.heap.size + 2 < c8 := by omega
      clear D1 C1 l0
      go_wp2_with fail
      have hS0 : (w1.alloc (.cells #[.string ⟨#[]⟩, .int .i64 90] 45)).cell? ⟨c8, 0, none⟩ = some (.string ⟨#[]⟩) ∧ (w1.alloc (.cells #[.string ⟨#[]⟩, .int .i64 90] 45)).cell? ⟨c8, 1, none⟩ = some (.int .i64 90) := ⟨E8.out.cell 0, E8.out.cell 1⟩
      refine wp_region_noPanic ?_
      refine wp_region_held_drew (S := fun W' => W'.cell? ⟨c8, 0, none⟩ = some (.string ⟨#[]⟩) ∧ W'.cell? ⟨c8, 1, none⟩ = some (.int .i64 90)) (by kernel_rfl) (by first | exact trivial | assumption | exact ⟨by assumption, by assumption⟩) (fun hHeld => ?_)
      refine take_at (i := 0) (v := ?_) rfl rfl (by kernel_rfl) (by kernel_rfl) (by kernel_rfl) (fun _ _ _ h => h) (Or.inl ⟨by rfl, ?_⟩) (by assumption) ?_
      rotate_left
      · intro w hSw; (try dsimp only at hSw); go_simp; try with_reducible rfl
      try simp only [Act.put, List.setIfInBounds_toArray, List.set_cons_zero, List.set_cons_succ]
      refine take_at (i := 1) (v := ?_) rfl rfl (by kernel_rfl) (by kernel_rfl) (by kernel_rfl) (fun _ _ _ h => h) (Or.inl ⟨by rfl, ?_⟩) (by assumption) ?_
      rotate_left
      · intro w hSw; (try dsimp only at hSw); go_simp; try with_reducible rfl
      try simp only [Act.put, List.setIfInBounds_toArray, List.set_cons_zero, List.set_cons_succ]
      refine take_at (i := 3) (v := ?_) rfl rfl (by kernel_rfl) (by kernel_rfl) (by kernel_rfl) (fun _ _ _ h => h) (Or.inl ⟨by rfl, ?_⟩) (by assumption) ?_
      rotate_left
      · intro w hSw; (try dsimp only at hSw); go_simp; try with_reducible rfl
      try simp only [Act.put, List.setIfInBounds_toArray, List.set_cons_zero, List.set_cons_succ]
      refine wpAnyH_ready (rs := [2]) (by kernel_rfl) (by simp) ?_
      refine AllReadyH.cons rfl (fun K hK => ?_) AllReadyH.nil
      go_simp
      refine (HO.out _ (hI.out.on B8.out)).mono ?_
      rintro e w2 ⟨rfl, h2⟩
      have E2 : Hid (Blk w2 45 c8 #[.string ⟨#[]⟩, .int .i64 90]) := (E8.out.on (Below.refl _ _).drew).kept h2.2 (by omega) (by simp)
      have D2 : Hid (Blk w2 45 (w.heap.size + 2) #[.string ⟨#[]⟩, .int .i64 0]) := (D8.out.on (Below.refl _ _).drew).kept h2.2 (by omega) (by simp)
      have H2 : Hid (InTo w g i' w2) := InTo.behind B8.out h2
      have hS2 : w2.cell? ⟨c8, 0, none⟩ = some (.string ⟨#[]⟩) ∧ w2.cell? ⟨c8, 1, none⟩ = some (.int .i64 90) := ⟨E2.out.cell 0, E2.out.cell 1⟩
      clear h2 E8 D8 B8
      refine hK.out _ _ hS2 (fun hHeld => ?_)
      clear hK K
      refine take_at (i := 4) (v := ?_) rfl rfl (by kernel_rfl) (by kernel_rfl) (by kernel_rfl) (fun _ _ _ h => h) (Or.inl ⟨by rfl, ?_⟩) (by assumption) ?_
      rotate_left
      · intro w hSw; (try dsimp only at hSw); go_simp; try with_reducible rfl
      try simp only [Act.put, List.setIfInBounds_toArray, List.set_cons_zero, List.set_cons_succ]
      refine wpAnyH_ready (rs := [5]) (by kernel_rfl) (by simp) ?_
      refine AllReadyH.cons rfl (fun K hK => ?_) AllReadyH.nil
      refine step_storeRow rfl rfl 45 _ _ rfl (w.heap.size + 2) #[.string ⟨#[]⟩, .int .i64 0] #[.string ⟨#[]⟩, .int .i64 90] rfl rfl D2.out rfl (by kernel_rfl) (by simp [Value.oneCell']) ?_
      have E3 := E2.out.setRowOther (w.heap.size + 2) (by omega) #[.string ⟨#[]⟩, .int .i64 90]
      refine hK.out _ _ (show _ ∧ _ from ⟨E3.cell 0, E3.cell 1⟩) (fun hHeld => ?_)
      clear hK K
      refine take_at (i := 6) (v := ?_) rfl rfl (by kernel_rfl) (by kernel_rfl) (by kernel_rfl) (fun _ _ _ h => h) (Or.inl ⟨by rfl, ?_⟩) (by assumption) ?_
      rotate_left
      · intro w hSw; (try dsimp only at hSw); go_simp; try with_reducible rfl
      try simp only [Act.put, List.setIfInBounds_toArray, List.set_cons_zero, List.set_cons_succ]
      refine wpAnyH_done (by kernel_rfl) (NoPanic.normal ?_) _
      go_wp2_with fail
      exact bodyPost_rowTmp rfl (w.heap.size + 2) #[.string ⟨#[]⟩, .int .i64 90] _ rfl rfl rfl (D2.out.setRow _) _ Try.underlying45 rfl (by kernel_rfl) ⟨_, rfl, H2.out.setRowNew _ (by omega) (by omega) _⟩
    · rw [if_neg h2] at hi'
      by_cases h3 : K = 3
      · rw [if_pos h3] at hi'
        have HR : Hid (∀ w, Calls Try.prog 38 #[.agg #[.string ⟨#[]⟩, .int .i64 0]] w fun e w' => e = .returned (.tuple #[.agg #[.string ⟨#[]⟩, .int .i64 90], .agg #[.int .i64 0, .int .i64 0]]) ∧ Below w.heap.size w w') := hR3
        obtain ⟨V, hV⟩ : ∃ V : Int, (inStampC i).2.1 = V := ⟨_, rfl⟩
        obtain ⟨U, hU⟩ : ∃ U : Int, (inStampC i).2.2 = U := ⟨_, rfl⟩
        have HO : Hid (∀ w', InAt w' g i → Calls Try.prog 17 #[.pointer (some ⟨g, 0, none⟩)] w' fun e w'' => e = .returned (.agg #[.int .i64 V, .int .i64 U]) ∧ InTo w' g i' w'') := fun w' h => by
          have := istamp_any g i w' h
          rw [hV, hU, hi'] at this
          exact this
        clear hR1 hR2 hR3 hR4 hV hU hi' h1 h2
        subst h3
        have heq := stampEq V U 0 0
        generalize decide ((V, U) = ((0 : Int), (0 : Int))) = dq at heq
        go_enter Try.func21, Try.ntmps21
        go_wp2_with fail
        refine (HR.out _).mono ?_
        rintro e w1 ⟨rfl, hb1⟩
        have A1 := HA.out.on hb1
        have C1 : Hid (Blk w1 31 (w.heap.size + 1) #[_, .int .i64 N, .int .i64 M, .string X]) := HB.out.on hb1
        have D1 := HC.out.on hb1
        have B1 : Hid (Below w.heap.size w w1) := below_step HW.out (Nat.le_refl _) hb1
        have l1 := hb1.size
        have l0 : w.heap.size + 3 ≤ w1.heap.size := by have := D1.lt; omega
        clear hb1 HA HB HC HW A1 l1
        obtain ⟨c8, hc8⟩ : ∃ c8, w1.heap.size = c8 := ⟨_, rfl⟩
        have E8 : Hid (Blk ((w1.alloc (.cells #[.string ⟨#[]⟩, .int .i64 90] 45)).alloc (.cells #[.int .i64 0, .int .i64 0] 40)) 45 c8 #[.string ⟨#[]⟩, .int .i64 90]) := (Blk.new' _ _ _ _ hc8).alloc _
        have F8 : Hid (Blk ((w1.alloc (.cells #[.string ⟨#[]⟩, .int .i64 90] 45)).alloc (.cells #[.int .i64 0, .int .i64 0] 40)) 40 (c8 + 1) #[.int .i64 0, .int .i64 0]) := Blk.new' _ _ _ _ (by simp; omega)
        have D8 : Hid (Blk ((w1.alloc (.cells #[.string ⟨#[]⟩, .int .i64 90] 45)).alloc (.cells #[.int .i64 0, .int .i64 0] 40)) 45 (w.heap.size + 2) #[.string ⟨#[]⟩, .int .i64 0]) := (D1.alloc _).alloc _
        have B8 : Hid (Below w.heap.size w ((w1.alloc (.cells #[.string ⟨#[]⟩, .int .i64 90] 45)).alloc (.cells #[.int .i64 0, .int .i64 0] 40)).drew) := ((B1.out.alloc (by omega) _).alloc (by simp; omega) _).drew
        have l8 : w.heap.size + 2 < c8 := by omega
        clear D1 C1 l0
        go_wp2_with fail
        have hS0 : (((w1.alloc (.cells #[.string ⟨#[]⟩, .int .i64 90] 45)).alloc (.cells #[.int .i64 0, .int .i64 0] 40)).cell? ⟨c8, 0, none⟩ = some (.string ⟨#[]⟩) ∧ ((w1.alloc (.cells #[.string ⟨#[]⟩, .int .i64 90] 45)).alloc (.cells #[.int .i64 0, .int .i64 0] 40)).cell? ⟨c8, 1, none⟩ = some (.int .i64 90)) ∧ (((w1.alloc (.cells #[.string ⟨#[]⟩, .int .i64 90] 45)).alloc (.cells #[.int .i64 0, .int .i64 0] 40)).cell? ⟨c8 + 1, 0, none⟩ = some (.int .i64 0) ∧ ((w1.alloc (.cells #[.string ⟨#[]⟩, .int .i64 90] 45)).alloc (.cells #[.int .i64 0, .int .i64 0] 40)).cell? ⟨c8 + 1, 1, none⟩ = some (.int .i64 0)) := ⟨⟨E8.out.cell 0, E8.out.cell 1⟩, F8.out.cell 0, F8.out.cell 1⟩
        refine wp_region_noPanic ?_
        refine wp_region_held_drew (S := fun W' => (W'.cell? ⟨c8, 0, none⟩ = some (.string ⟨#[]⟩) ∧ W'.cell? ⟨c8, 1, none⟩ = some (.int .i64 90)) ∧ (W'.cell? ⟨c8 + 1, 0, none⟩ = some (.int .i64 0) ∧ W'.cell? ⟨c8 + 1, 1, none⟩ = some (.int .i64 0))) (by kernel_rfl) (by first | exact trivial | assumption | exact ⟨by assumption, by assumption⟩) (fun hHeld => ?_)
        refine take_at (i := 0) (v := ?_) rfl rfl (by kernel_rfl) (by kernel_rfl) (by kernel_rfl) (fun _ _ _ h => h) (Or.inl ⟨by rfl, ?_⟩) (by assumption) ?_
        rotate_left
        · intro w hSw; (try dsimp only at hSw); go_simp; try with_reducible rfl
        try simp only [Act.put, List.setIfInBounds_toArray, List.set_cons_zero, List.set_cons_succ]
        refine take_at (i := 1) (v := ?_) rfl rfl (by kernel_rfl) (by kernel_rfl) (by kernel_rfl) (fun _ _ _ h => h) (Or.inl ⟨by rfl, ?_⟩) (by assumption) ?_
        rotate_left
        · intro w hSw; (try dsimp only at hSw); go_simp; try with_reducible rfl
        try simp only [Act.put, List.setIfInBounds_toArray, List.set_cons_zero, List.set_cons_succ]
        refine take_at (i := 3) (v := ?_) rfl rfl (by kernel_rfl) (by kernel_rfl) (by kernel_rfl) (fun _ _ _ h => h) (Or.inl ⟨by rfl, ?_⟩) (by assumption) ?_
        rotate_left
        · intro w hSw; (try dsimp only at hSw); go_simp; try with_reducible rfl
        try simp only [Act.put, List.setIfInBounds_toArray, List.set_cons_zero, List.set_cons_succ]
        refine wpAnyH_ready (rs := [2]) (by kernel_rfl) (by simp) ?_
        refine AllReadyH.cons rfl (fun K hK => ?_) AllReadyH.nil
        go_simp
        refine (HO.out _ (hI.out.on B8.out)).mono ?_
        rintro e w2 ⟨rfl, h2⟩
        have E2 : Hid (Blk w2 45 c8 #[.string ⟨#[]⟩, .int .i64 90]) := (E8.out.on (Below.refl _ _).drew).kept h2.2 (by omega) (by simp)
        have F2 : Hid (Blk w2 40 (c8 + 1) #[.int .i64 0, .int .i64 0]) := (F8.out.on (Below.refl _ _).drew).kept h2.2 (by omega) (by simp)
        have D2 : Hid (Blk w2 45 (w.heap.size + 2) #[.string ⟨#[]⟩, .int .i64 0]) := (D8.out.on (Below.refl _ _).drew).kept h2.2 (by omega) (by simp)
        have H2 : Hid (InTo w g i' w2) := InTo.behind B8.out h2
        have hS2 : (w2.cell? ⟨c8, 0, none⟩ = some (.string ⟨#[]⟩) ∧ w2.cell? ⟨c8, 1, none⟩ = some (.int .i64 90)) ∧ (w2.cell? ⟨c8 + 1, 0, none⟩ = some (.int .i64 0) ∧ w2.cell? ⟨c8 + 1, 1, none⟩ = some (.int .i64 0)) := ⟨⟨E2.out.cell 0, E2.out.cell 1⟩, F2.out.cell 0, F2.out.cell 1⟩
        clear h2 E8 D8 B8 F8
        refine hK.out _ _ hS2 (fun hHeld => ?_)
        clear hK K
        refine take_at (i := 4) (v := ?_) rfl rfl (by kernel_rfl) (by kernel_rfl) (by kernel_rfl) (fun _ _ _ h => h) (Or.inl ⟨by rfl, ?_⟩) (by assumption) ?_
        rotate_left
        · intro w hSw; (try dsimp only at hSw); go_simp; try with_reducible rfl
        try simp only [Act.put, List.setIfInBounds_toArray, List.set_cons_zero, List.set_cons_succ]
        refine wpAnyH_ready (rs := [5]) (by kernel_rfl) (by simp) ?_
        refine AllReadyH.cons rfl (fun K hK => ?_) AllReadyH.nil
        refine step_storeRow rfl rfl 45 _ _ rfl (w.heap.size + 2) #[.string ⟨#[]⟩, .int .i64 0] #[.string ⟨#[]⟩, .int .i64 90] rfl rfl D2.out rfl (by kernel_rfl) (by simp [Value.oneCell']) ?_
        have E3 := E2.out.setRowOther (w.heap.size + 2) (by omega) #[.string ⟨#[]⟩, .int .i64 90]
        have F3 := F2.out.setRowOther (w.heap.size + 2) (by omega) #[.string ⟨#[]⟩, .int .i64 90]
        refine hK.out _ _ (show (_ ∧ _) ∧ _ ∧ _ from ⟨⟨E3.cell 0, E3.cell 1⟩, F3.cell 0, F3.cell 1⟩) (fun hHeld => ?_)
        clear hK K
        refine take_at (i := 6) (v := ?_) rfl rfl (by kernel_rfl) (by kernel_rfl) (by kernel_rfl) (fun _ _ _ h => h) (Or.inl ⟨by rfl, ?_⟩) (by assumption) ?_
        rotate_left
        · intro w hSw; (try dsimp only at hSw); go_simp; try with_reducible rfl
        try simp only [Act.put, List.setIfInBounds_toArray, List.set_cons_zero, List.set_cons_succ]
        refine wpAnyH_done (by kernel_rfl) (NoPanic.normal ?_) _
        go_wp2_with fail
        exact bodyPost_rowTmp rfl (w.heap.size + 2) #[.string ⟨#[]⟩, .int .i64 90] _ rfl rfl rfl (D2.out.setRow _) _ Try.underlying45 rfl (by kernel_rfl) ⟨_, rfl, H2.out.setRowNew _ (by omega) (by omega) _⟩
      · rw [if_neg h3] at hi'
        have HR : Hid (∀ w, Calls Try.prog 39 #[.agg #[.string ⟨#[]⟩, .int .i64 0], .int .i64 N] w fun e w' => e = .returned (.tuple #[.agg #[.string ⟨#[]⟩, .int .i64 90], .string ⟨#[]⟩]) ∧ Below w.heap.size w w') := hR4
        obtain ⟨V, hV⟩ : ∃ V, (inTextC i N).2 = V := ⟨_, rfl⟩
        have HO : Hid (∀ w', InAt w' g i → Calls Try.prog 18 #[.pointer (some ⟨g, 0, none⟩), .int .i64 N] w' fun e w'' => e = .returned (.string V) ∧ InTo w' g i' w'') := fun w' h => by
          have := itext_any g i N w' h
          rw [hV, hi'] at this
          exact this
        clear hR1 hR2 hR3 hR4 hV hi'
        go_enter Try.func21, Try.ntmps21
        go_wp2_with fail
        refine (HR.out _).mono ?_
        rintro e w1 ⟨rfl, hb1⟩
        have A1 := HA.out.on hb1
        have C1 : Hid (Blk w1 31 (w.heap.size + 1) #[_, .int .i64 N, .int .i64 M, .string X]) := HB.out.on hb1
        have D1 := HC.out.on hb1
        have B1 : Hid (Below w.heap.size w w1) := below_step HW.out (Nat.le_refl _) hb1
        have l1 := hb1.size
        have l0 : w.heap.size + 3 ≤ w1.heap.size := by have := D1.lt; omega
        clear hb1 HA HB HC HW A1 l1
        obtain ⟨c8, hc8⟩ : ∃ c8, w1.heap.size = c8 := ⟨_, rfl⟩
        have E8 : Hid (Blk (w1.alloc (.cells #[.string ⟨#[]⟩, .int .i64 90] 45)) 45 c8 #[.string ⟨#[]⟩, .int .i64 90]) := Blk.new' _ _ _ _ hc8
        have F8 : Hid (Blk (w1.alloc (.cells #[.string ⟨#[]⟩, .int .i64 90] 45)) 31 (w.heap.size + 1) #[_, .int .i64 N, .int .i64 M, .string X]) := C1.out.alloc _
        have D8 : Hid (Blk (w1.alloc (.cells #[.string ⟨#[]⟩, .int .i64 90] 45)) 45 (w.heap.size + 2) #[.string ⟨#[]⟩, .int .i64 0]) := D1.alloc _
        have B8 : Hid (Below w.heap.size w (w1.alloc (.cells #[.string ⟨#[]⟩, .int .i64 90] 45)).drew) := (B1.out.alloc (by omega) _).drew
        have l8 : w.heap.size + 2 < c8 := by omega
        clear D1 C1 l0
        go_wp2_with fail
        have hS0 : ((w1.alloc (.cells #[.string ⟨#[]⟩, .int .i64 90] 45)).cell? ⟨c8, 0, none⟩ = some (.string ⟨#[]⟩) ∧ (w1.alloc (.cells #[.string ⟨#[]⟩, .int .i64 90] 45)).cell? ⟨c8, 1, none⟩ = some (.int .i64 90)) ∧ (w1.alloc (.cells #[.string ⟨#[]⟩, .int .i64 90] 45)).cell? ⟨w.heap.size + 1, 1, none⟩ = some (.int .i64 N) := ⟨⟨E8.out.cell 0, E8.out.cell 1⟩, F8.out.cell 1⟩
        refine wp_region_noPanic ?_
        refine wp_region_held_drew (S := fun W' => (W'.cell? ⟨c8, 0, none⟩ = some (.string ⟨#[]⟩) ∧ W'.cell? ⟨c8, 1, none⟩ = some (.int .i64 90)) ∧ W'.cell? ⟨w.heap.size + 1, 1, none⟩ = some (.int .i64 N)) (by kernel_rfl) (by first | exact trivial | assumption | exact ⟨by assumption, by assumption⟩) (fun hHeld => ?_)
        refine take_at (i := 0) (v := ?_) rfl rfl (by kernel_rfl) (by kernel_rfl) (by kernel_rfl) (fun _ _ _ h => h) (Or.inl ⟨by rfl, ?_⟩) (by assumption) ?_
        rotate_left
        · intro w hSw; (try dsimp only at hSw); go_simp; try with_reducible rfl
        try simp only [Act.put, List.setIfInBounds_toArray, List.set_cons_zero, List.set_cons_succ]
        refine take_at (i := 1) (v := ?_) rfl rfl (by kernel_rfl) (by kernel_rfl) (by kernel_rfl) (fun _ _ _ h => h) (Or.inl ⟨by rfl, ?_⟩) (by assumption) ?_
        rotate_left
        · intro w hSw; (try dsimp only at hSw); go_simp; try with_reducible rfl
        try simp only [Act.put, List.setIfInBounds_toArray, List.set_cons_zero, List.set_cons_succ]
        refine take_at (i := 2) (v := ?_) rfl rfl (by kernel_rfl) (by kernel_rfl) (by kernel_rfl) (fun _ _ _ h => h) (Or.inl ⟨by rfl, ?_⟩) (by assumption) ?_
        rotate_left
        · intro w hSw; (try dsimp only at hSw); go_simp; try with_reducible rfl
        try simp only [Act.put, List.setIfInBounds_toArray, List.set_cons_zero, List.set_cons_succ]
        refine take_at (i := 3) (v := ?_) rfl rfl (by kernel_rfl) (by kernel_rfl) (by kernel_rfl) (fun _ _ _ h => h) (Or.inl ⟨by rfl, ?_⟩) (by assumption) ?_
        rotate_left
        · intro w hSw; (try dsimp only at hSw); go_simp; try with_reducible rfl
        try simp only [Act.put, List.setIfInBounds_toArray, List.set_cons_zero, List.set_cons_succ]
        refine take_at (i := 5) (v := ?_) rfl rfl (by kernel_rfl) (by kernel_rfl) (by kernel_rfl) (fun _ _ _ h => h) (Or.inl ⟨by rfl, ?_⟩) (by assumption) ?_
        rotate_left
        · intro w hSw; (try dsimp only at hSw); go_simp; try with_reducible rfl
        try simp only [Act.put, List.setIfInBounds_toArray, List.set_cons_zero, List.set_cons_succ]
        refine wpAnyH_ready (rs := [4]) (by kernel_rfl) (by simp) ?_
        refine AllReadyH.cons rfl (fun K hK => ?_) AllReadyH.nil
        go_simp
        refine (HO.out _ (hI.out.on B8.out)).mono ?_
        rintro e w2 ⟨rfl, h2⟩
        have E2 : Hid (Blk w2 45 c8 #[.string ⟨#[]⟩, .int .i64 90]) := (E8.out.on (Below.refl _ _).drew).kept h2.2 (by omega) (by simp)
        have F2 : Hid (Blk w2 31 (w.heap.size + 1) #[_, .int .i64 N, .int .i64 M, .string X]) := (F8.out.on (Below.refl _ _).drew).kept h2.2 (by omega) (by simp)
        have D2 : Hid (Blk w2 45 (w.heap.size + 2) #[.string ⟨#[]⟩, .int .i64 0]) := (D8.out.on (Below.refl _ _).drew).kept h2.2 (by omega) (by simp)
        have H2 : Hid (InTo w g i' w2) := InTo.behind B8.out h2
        have hS2 : (w2.cell? ⟨c8, 0, none⟩ = some (.string ⟨#[]⟩) ∧ w2.cell? ⟨c8, 1, none⟩ = some (.int .i64 90)) ∧ w2.cell? ⟨w.heap.size + 1, 1, none⟩ = some (.int .i64 N) := ⟨⟨E2.out.cell 0, E2.out.cell 1⟩, F2.out.cell 1⟩
        clear h2 E8 D8 B8 F8
        refine hK.out _ _ hS2 (fun hHeld => ?_)
        clear hK K
        refine take_at (i := 6) (v := ?_) rfl rfl (by kernel_rfl) (by kernel_rfl) (by kernel_rfl) (fun _ _ _ h => h) (Or.inl ⟨by rfl, ?_⟩) (by assumption) ?_
        rotate_left
        · intro w hSw; (try dsimp only at hSw); go_simp; try with_reducible rfl
        try simp only [Act.put, List.setIfInBounds_toArray, List.set_cons_zero, List.set_cons_succ]
        refine wpAnyH_ready (rs := [7]) (by kernel_rfl) (by simp) ?_
        refine AllReadyH.cons rfl (fun K hK => ?_) AllReadyH.nil
        refine step_storeRow rfl rfl 45 _ _ rfl (w.heap.size + 2) #[.string ⟨#[]⟩, .int .i64 0] #[.string ⟨#[]⟩, .int .i64 90] rfl rfl D2.out rfl (by kernel_rfl) (by simp [Value.oneCell']) ?_
        have E3 := E2.out.setRowOther (w.heap.size + 2) (by omega) #[.string ⟨#[]⟩, .int .i64 90]
        have F3 := F2.out.setRowOther (w.heap.size + 2) (by omega) #[.string ⟨#[]⟩, .int .i64 90]
        refine hK.out _ _ (show (_ ∧ _) ∧ _ from ⟨⟨E3.cell 0, E3.cell 1⟩, F3.cell 1⟩) (fun hHeld => ?_)
        clear hK K
        refine take_at (i := 8) (v := ?_) rfl rfl (by kernel_rfl) (by kernel_rfl) (by kernel_rfl) (fun _ _ _ h => h) (Or.inl ⟨by rfl, ?_⟩) (by assumption) ?_
        rotate_left
        · intro w hSw; (try dsimp only at hSw); go_simp; try with_reducible rfl
        try simp only [Act.put, List.setIfInBounds_toArray, List.set_cons_zero, List.set_cons_succ]
        refine wpAnyH_done (by kernel_rfl) (NoPanic.normal ?_) _
        go_wp2_with fail
        exact bodyPost_rowTmp rfl (w.heap.size + 2) #[.string ⟨#[]⟩, .int .i64 90] _ rfl rfl rfl (D2.out.setRow _) _ Try.underlying45 rfl (by kernel_rfl) ⟨_, rfl, H2.out.setRowNew _ (by omega) (by omega) _⟩
end Go.Proofs.Ytmpjhflbmngajaa
