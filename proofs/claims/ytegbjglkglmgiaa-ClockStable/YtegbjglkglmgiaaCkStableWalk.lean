/- The walk of ClockStable. -/
import Derived.Test.YtegbjglkglmgiaaCkG
import Derived.Test.YtegbjglkglmgiaaRowW
namespace Go.Proofs.Ytegbjglkglmgiaa
open Go.RowKit
set_option linter.unusedSimpArgs false

set_option maxHeartbeats 4000000 in
set_option maxRecDepth 100000 in
theorem clockStable_far (a a2 : Option Addr) (n m c c2 : Nat) (t u : Int) (W : World) (h : ¬ (n ≤ 40 ∧ m ≤ 40)) :
    Calls Try.prog 6 #[.slice a n c, .slice a2 m c2, .agg #[.int .i64 t, .int .i64 u]] W fun e w' => e = .returned (.bool true) ∧ Below W.heap.size W w' := by
  by_cases h1 : 40 < n
  · have g1 : decide ((40 : Int) < (n : Int)) = true := by simp; omega
    go_enter Try.func6, Try.ntmps6
    go_wp2_with fail
    refine (awake10 _).mono ?_
    rintro e w1 ⟨rfl, hb1⟩
    have HB1 : Hid (Below W.heap.size W w1) := below_step (below_new W _) (Nat.le_refl _) hb1
    clear hb1
    go_wp2
    go_ret
    exact ⟨rfl, HB1.out⟩
  · have g1 : decide ((40 : Int) < (n : Int)) = false := by simp; omega
    have g2 : decide ((40 : Int) < (m : Int)) = true := by simp; omega
    go_enter Try.func6, Try.ntmps6
    go_wp2_with fail
    refine (awake10 _).mono ?_
    rintro e w1 ⟨rfl, hb1⟩
    have HB1 : Hid (Below W.heap.size W w1) := below_step (below_new W _) (Nat.le_refl _) hb1
    clear hb1
    go_wp2
    go_ret
    exact ⟨rfl, HB1.out⟩

theorem ints_one (l : List Int) : ∀ u ∈ l.map (Value.int .i64), u.oneCell' = true := by
  intro u hu
  obtain ⟨z, _, rfl⟩ := List.mem_map.1 hu
  rfl
set_option maxHeartbeats 4000000 in
set_option maxRecDepth 100000 in
theorem clockStable_walk (a a2 : Option Addr) (n m c c2 : Nat) (t u : Int) (l : List (Int × Int)) (who : List Int) (W : World) (hl : StampsAt W a n l) (hw : IntsAt W .i64 a2 m who) (hk : SliceOk a n c) (hk2 : SliceOk a2 m c2) (hn : n ≤ 40) (hm : m ≤ 40) :
    Calls Try.prog 6 #[.slice a n c, .slice a2 m c2, .agg #[.int .i64 t, .int .i64 u]] W fun e w' => e = .returned (.bool true) ∧ Below W.heap.size W w' := by
  obtain ⟨i0, hi, hz0, hz1, hz2⟩ := info_parts Try.infoStamp
  obtain ⟨j0, hj, hy0, hy1, hy2⟩ := info_parts Try.infoInt
  have hln : l.length = n := hl.1
  have hwn : who.length = m := hw.1
  have HLN : Hid (l.length = n) := hln
  have HWN : Hid (who.length = m) := hwn
  clear hln hwn
  obtain ⟨g, hg⟩ : ∃ g, g = W.heap.size := ⟨_, rfl⟩
  obtain ⟨W0, hW0⟩ : ∃ W0, W0 = W.alloc (.cells #[.int .i64 t, .int .i64 u] 23) := ⟨_, rfl⟩
  have HB0 : Hid (Below W.heap.size W W0) := by rw [hW0]; exact below_new _ _
  have HM0 : Hid (Blk W0 23 g #[.int .i64 t, .int .i64 u]) := by show Blk _ _ _ _; rw [hW0]; exact Blk.new' _ _ _ _ hg.symm
  have HL : Hid (∀ w', Below W0.heap.size W0 w' → StampsAt w' a n l) := fun w' hb => hl.below (below_step HB0.out (Nat.le_refl _) hb)
  have HW : Hid (∀ w', Below W0.heap.size W0 w' → IntsAt w' .i64 a2 m who) := fun w' hb => hw.below (below_step HB0.out (Nat.le_refl _) hb)
  have HM : Hid (∀ w', Below W0.heap.size W0 w' → w'.cell? ⟨g, 0, none⟩ = some (.int .i64 t) ∧ w'.cell? ⟨g, 1, none⟩ = some (.int .i64 u)) := fun w' hb => ⟨(HM0.out.on hb).cell 0, (HM0.out.on hb).cell 1⟩
  have HK : Hid (SliceOk a n c) := hk
  have HK2 : Hid (SliceOk a2 m c2) := hk2
  have hcap : Hid (m ≤ c2) := hk2.cap
  clear hl hw hk hk2
  have g1 : decide ((40 : Int) < (n : Int)) = false := by simp; omega
  have g2 : decide ((40 : Int) < (m : Int)) = false := by simp; omega
  obtain ⟨S, HS⟩ : ∃ S, Hid (S = leastT l who m) := ⟨_, rfl⟩
  have CA := fun w' hb => stable_any l who a a2 n m c c2 w' (by omega) (by omega) hcap.out (HL.out w' hb) (HW.out w' hb)
  have CB := fun w' hb => rstable_any l who a a2 n m c c2 w' (by omega) (by omega) (HL.out w' hb) (HW.out w' hb)
  rw [← HS.out] at CA CB
  have HCA : Hid (∀ w', Below W0.heap.size W0 w' → Calls Try.prog 20 #[.slice a n c, .slice a2 m c2] w' fun e w'' => e = .returned (.int .i64 S) ∧ Below w'.heap.size w' w'') := CA
  have HCB : Hid (∀ w', Below W0.heap.size W0 w' → Calls Try.prog 21 #[.slice a n c, .slice a2 m c2] w' fun e w'' => e = .returned (.int .i64 S) ∧ Below w'.heap.size w' w'') := CB
  clear CA CB
  go_enter Try.func6, Try.ntmps6
  go_wp2_with fail
  rw [← hg, ← hW0]
  clear hg hW0
  refine (HCA.out _ (Below.refl _ _)).mono ?_
  rintro e w1 ⟨rfl, hb1⟩
  have B1 : Hid (Below W0.heap.size W0 w1) := hb1
  clear hb1
  go_wp2_with fail
  refine (HCB.out _ B1.out).mono ?_
  rintro e w2 ⟨rfl, hb2⟩
  have B2 : Hid (Below W0.heap.size W0 w2) := below_step B1.out (Nat.le_refl _) hb2
  clear hb2 B1
  go_wp2_with (at_builtin; refine wpList_appW (by rfl) (.tmp 27) (.tmp 28) 29 rfl w2.heap.size 23 i0 _ 2 16 Try.underlying29 hi hz0 hz1 hz2 rfl (by decide) (.slice none 0 0) 0 [] rfl (World.ownsRow_nil _ _ _ _) (.slice a n c) n (cellsS l) rfl (stamps_src HK.out (HL.out _ B2.out)) (by rw [cellsS_len, HLN.out]) (cellsS_one l) (by unfold maxLen; omega) (by omega) (Nat.le_refl _) ?_)
  intro v8 w3 hown3 hgr3
  have O3 : Hid (OwnS w3 w2.heap.size v8 l) := by
    show World.ownsRow _ _ _ _ _ _ _
    rw [HLN.out]
    simpa using hown3
  have B3 : Hid (Below W0.heap.size W0 w3) := B2.out.grown hgr3 B2.out.size (fun k hk => by cases hk)
  have LB : Hid (W0.heap.size ≤ w2.heap.size ∧ w2.heap.size ≤ w3.heap.size) := ⟨B2.out.size, hgr3.size⟩
  clear hown3 hgr3 B2
  go_wp2_with (at_builtin; refine wpList_appW (by rfl) (.tmp 30) (.tmp 31) 44 rfl w3.heap.size 3 j0 _ 1 8 Try.underlying44 hj hy0 hy1 hy2 rfl (by decide) (.slice none 0 0) 0 [] rfl (World.ownsRow_nil _ _ _ _) (.slice a2 m c2) m (who.map (Value.int .i64)) rfl (ints_src HK2.out (HW.out _ B3.out)) (by rw [List.length_map, HWN.out, Nat.mul_one]) (ints_one who) (by unfold maxLen; omega) (by omega) (Nat.le_refl _) ?_)
  intro v9 w4 hown4 hgr4
  have P4 : Hid (OwnV w4 w3.heap.size 3 .i64 v9 m who) := by
    show World.ownsRow _ _ _ _ _ _ _
    simpa using hown4
  have O4 : Hid (OwnS w4 w2.heap.size v8 l) := owns_same O3.out (fun k hk => hgr4.block k (World.ownsRow.lt O3.out k hk).2 (by simp [Value.ownBlock]))
  have O4l : Hid (∀ k, v8.ownBlock = some k → w2.heap.size ≤ k ∧ k < w3.heap.size) := fun k hk => World.ownsRow.lt O3.out k hk
  have B4 : Hid (Below W0.heap.size W0 w4) := B3.out.grown hgr4 B3.out.size (fun k hk => by cases hk)
  have LB4 : Hid (w3.heap.size ≤ w4.heap.size) := hgr4.size
  clear hown4 hgr4 B3 O3
  obtain ⟨m0, m1⟩ := HM.out _ B4.out
  go_wp2_with (at_builtin; refine wpList_appW (by rfl) (.tmp 33) (.tmp 35) 29 rfl w2.heap.size 23 i0 _ 2 16 Try.underlying29 hi hz0 hz1 hz2 rfl (by decide) v8 l.length (cellsS l) rfl (show World.ownsRow _ _ _ _ _ _ _ from owns_on O4.out (below_new _ _)) (.slice (some ⟨w4.heap.size, 0, none⟩) 1 1) 1 (stampA (t, u)).toList rfl (new_src (Blk.new w4 23 (stampA (t, u))) 1) rfl (stampA_one (t, u)) (by have := HLN.out; unfold maxLen; omega) (by have := HLN.out; omega) (by have a := LB.out; have b := LB4.out; simp; omega) ?_)
  intro v10 w5 hown5 hgr5
  have O5 : Hid (OwnS w5 w2.heap.size v10 (l ++ [(t, u)])) := by
    show World.ownsRow _ _ _ _ _ _ _
    rw [cellsS_snoc, List.length_append]; exact hown5
  have hb45 : Hid (Below W0.heap.size W0 (w4.alloc (.cells (stampA (t, u)) 23))) := below_step B4.out (Nat.le_refl _) (below_new _ _)
  have B5 : Hid (Below W0.heap.size W0 w5) := hb45.out.grown hgr5 hb45.out.size (fun k hk => by have a := (O4l.out k hk).1; have b := LB.out; omega)
  have P5 : Hid (OwnV w5 w3.heap.size 3 .i64 v9 m who) := by
    have p : World.ownsRow (w4.alloc (.cells (stampA (t, u)) 23)) w3.heap.size 3 1 v9 m (who.map (Value.int .i64)) := owns_on P4.out (below_new _ _)
    refine owns_same p (fun k hk => hgr5.block k (World.ownsRow.lt p k hk).2 (fun e => ?_))
    have a := (O4l.out k e.symm).2
    have b := (World.ownsRow.lt p k hk).1
    omega
  have LB5 : Hid (w3.heap.size ≤ w5.heap.size) := Nat.le_trans (Nat.le_trans LB4.out (below_new w4 _).size) hgr5.size
  clear hown5 hgr5 hb45 B4 P4 O4 m0 m1 O4l LB4
  obtain ⟨a10, cap10, rfl, hs10⟩ := OwnS.stamps O5.out
  have hll : (l ++ [(t, u)]).length = n + 1 := by rw [List.length_append, HLN.out]; rfl
  rw [hll] at hs10 ⊢
  have C5 := stable_any (l ++ [(t, u)]) who a10 a2 (n + 1) m cap10 c2 w5 (by omega) (by omega) hcap.out hs10 (HW.out _ B5.out)
  obtain ⟨S1, HS1⟩ : ∃ S1, Hid (S1 = leastT (l ++ [(t, u)]) who m) := ⟨_, rfl⟩
  rw [← HS1.out] at C5
  have HC5 : Hid (Calls Try.prog 20 #[.slice a10 (n + 1) cap10, .slice a2 m c2] w5 fun e w' => e = .returned (.int .i64 S1) ∧ Below w5.heap.size w5 w') := C5
  have hSS : S ≤ S1 := by rw [HS.out, HS1.out]; exact leastT_more l (t, u) who m
  have g3 : decide (S ≤ S1) = true := decide_eq_true hSS
  clear C5 hs10 hll HS1 O5
  go_wp2_with fail
  refine Calls.mono HC5.out ?_
  rintro e w6 ⟨rfl, hb6⟩
  have B6 : Hid (Below W0.heap.size W0 w6) := below_step B5.out (Nat.le_refl _) hb6
  have P6 : Hid (OwnV w6 w3.heap.size 3 .i64 v9 m who) := owns_on P5.out hb6
  have LB6 : Hid (w3.heap.size ≤ w6.heap.size) := Nat.le_trans LB5.out hb6.size
  clear hb6 HC5 B5 P5 LB5
  by_cases hm0 : m = 0
  · subst hm0
    go_wp2_with fail
    refine (awake10 _).mono ?_
    rintro e w9 ⟨rfl, hb9⟩
    have B9 : Hid (Below W.heap.size W w9) := below_step HB0.out (Nat.le_refl _) (below_step B6.out (Nat.le_refl _) hb9)
    clear hb9
    go_wp2
    go_ret
    exact ⟨rfl, B9.out⟩
  · have g4 : ((m : Int) == 0) = false := by rw [beq_eq_false_iff_ne]; omega
    obtain ⟨m0, m1⟩ := HM.out _ B6.out
    go_wp2_with (at_builtin; refine wpList_appW (by kernel_rfl) (.tmp 47) (.tmp 50) 44 rfl w3.heap.size 3 j0 _ 1 8 Try.underlying44 hj hy0 hy1 hy2 rfl (by decide) v9 m (who.map (Value.int .i64)) rfl (show World.ownsRow _ _ _ _ _ _ _ from owns_on P6.out (below_new _ _)) (.slice (some ⟨w6.heap.size, 0, none⟩) 1 1) 1 [.int .i64 u] rfl (new_src (Blk.new w6 3 #[.int .i64 u]) 1) rfl (ints_one [u]) (by unfold maxLen; omega) (by omega) (by have b := LB6.out; simp; omega) ?_)
    intro v11 w7 hown7 hgr7
    have P7 : Hid (OwnV w7 w3.heap.size 3 .i64 v11 (m + 1) (who ++ [u])) := by
      show World.ownsRow _ _ _ _ _ _ _
      rw [List.map_append]; exact hown7
    have hb67 : Hid (Below W0.heap.size W0 (w6.alloc (.cells #[.int .i64 u] 3))) := below_step B6.out (Nat.le_refl _) (below_new _ _)
    have B7 : Hid (Below W0.heap.size W0 w7) := hb67.out.grown hgr7 hb67.out.size (fun k hk => by have a := (World.ownsRow.lt P6.out k hk).1; have b := LB.out; omega)
    clear hown7 hgr7 hb67 B6 P6 m0 m1
    obtain ⟨a11, cap11, rfl, hs11, hcap11⟩ := ints_own P7.out
    have C7 := stable_any l (who ++ [u]) a a11 n (m + 1) c cap11 w7 (by omega) (by omega) hcap11 (HL.out _ B7.out) hs11
    obtain ⟨S2, HS2⟩ : ∃ S2, Hid (S2 = leastT l (who ++ [u]) (m + 1)) := ⟨_, rfl⟩
    rw [← HS2.out] at C7
    have HC7 : Hid (Calls Try.prog 20 #[.slice a n c, .slice a11 (m + 1) cap11] w7 fun e w' => e = .returned (.int .i64 S2) ∧ Below w7.heap.size w7 w') := C7
    have hS2 : S2 ≤ S := by
      have h := leastT_less l who u (by rw [HWN.out]; omega)
      rw [HWN.out] at h
      rw [HS.out, HS2.out]; exact h
    have g5 : decide (S2 ≤ S) = true := decide_eq_true hS2
    clear C7 hs11 HS2 P7 hcap11
    go_wp2_with fail
    refine Calls.mono HC7.out ?_
    rintro e w8 ⟨rfl, hb8⟩
    have B6 : Hid (Below W0.heap.size W0 w8) := below_step B7.out (Nat.le_refl _) hb8
    clear hb8 HC7 B7
    go_wp2_with fail
    refine (awake10 _).mono ?_
    rintro e w9 ⟨rfl, hb9⟩
    have B9 : Hid (Below W.heap.size W w9) := below_step HB0.out (Nat.le_refl _) (below_step B6.out (Nat.le_refl _) hb9)
    clear hb9
    go_wp2
    go_ret
    exact ⟨rfl, B9.out⟩

theorem clockStable_law (a a2 : Option Addr) (n m c c2 : Nat) (v : Value) (W : World) (z0 : (∃ l, StampsAt W a n l ∧ n ≤ maxLen ∧ ∀ q ∈ l, (Lit.int .i64 q.1).wf = true ∧ (Lit.int .i64 q.2).wf = true) ∧ SliceOk a n c) (z1 : (∃ l, IntsAt W .i64 a2 m l ∧ m ≤ maxLen ∧ ∀ q ∈ l, (Lit.int .i64 q).wf = true) ∧ SliceOk a2 m c2) (z2 : IsStamp v) :
    Calls Try.prog 6 #[.slice a n c, .slice a2 m c2, v] W fun e w' => e = .returned (.bool true) ∧ Below W.heap.size W w' := by
  obtain ⟨⟨l, hl, _⟩, hk⟩ := z0
  obtain ⟨⟨who, hw, _⟩, hk2⟩ := z1
  obtain ⟨t, u, rfl, _⟩ := z2
  by_cases h : n ≤ 40 ∧ m ≤ 40
  · exact clockStable_walk a a2 n m c c2 t u l who W hl hw hk hk2 h.1 h.2
  · exact clockStable_far a a2 n m c c2 t u W h

theorem stamps_ok {H : Type} {enc : TypeId × Value → H} {w : World} {base : Nat} {held : Bool} {a : Option Addr} {len cap : Nat} {d : DataW H} {p : List MemPlace} (h : DataW.Trod enc Try.prog w base (fun _ => true) held 29 (.slice a len cap) d p) :
    (∃ l, StampsAt w a len l ∧ len ≤ maxLen ∧ ∀ q ∈ l, (Lit.int .i64 q.1).wf = true ∧ (Lit.int .i64 q.2).wf = true) ∧ SliceOk a len cap := ⟨stamps_of h, slice_of Try.underlying29 h⟩
theorem ints_ok {H : Type} {enc : TypeId × Value → H} {w : World} {base : Nat} {held : Bool} {a : Option Addr} {len cap : Nat} {d : DataW H} {p : List MemPlace} (h : DataW.Trod enc Try.prog w base (fun _ => true) held 44 (.slice a len cap) d p) :
    (∃ l, IntsAt w .i64 a len l ∧ len ≤ maxLen ∧ ∀ q ∈ l, (Lit.int .i64 q).wf = true) ∧ SliceOk a len cap := ⟨ints_of h, slice_of Try.underlying44 h⟩
end Go.Proofs.Ytegbjglkglmgiaa
