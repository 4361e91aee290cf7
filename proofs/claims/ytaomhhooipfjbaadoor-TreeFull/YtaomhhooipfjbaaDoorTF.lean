import Derived.Test.YtaomhhooipfjbaaDoorT11
/- Layer 11 on plain data: as many operations as may be (TreeFull). -/
namespace Go.Proofs.YtaomhhooipfjbaaDoor
open Go.RowKit
set_option linter.unusedSimpArgs false

def fuO (b : Bool) (i : Nat) : OpT := if b = true then (1, ((i : Int), 1), ((i : Int), 1), (0, 0), ⟨#[110]⟩, ⟨#[]⟩) else (4, ((i : Int), 1), (1, 1), (0, 0), ⟨#[]⟩, ⟨#[118]⟩)

def fuW : OpT := (4, (2000, 1), (1, 1), (0, 0), ⟨#[]⟩, ⟨#[119]⟩)

def fuL (b : Bool) : Nat → List OpT
  | 0 => []
  | n + 1 => fuL b n ++ [fuO b (n + 1)]

theorem fuO_at (b : Bool) (i : Nat) : (fuO b i).2.1 = ((i : Int), 1) := by cases b <;> rfl

theorem fuL_mem (b : Bool) (n : Nat) (o : OpT) (h : o ∈ fuL b n) : ∃ i, 1 ≤ i ∧ i ≤ n ∧ o = fuO b i := by
  induction n with
  | zero => cases h
  | succ n ih =>
    rcases List.mem_append.1 h with h | h
    · obtain ⟨i, h1, h2, h3⟩ := ih h
      exact ⟨i, h1, by omega, h3⟩
    · rw [List.mem_singleton] at h
      exact ⟨n + 1, by omega, by omega, h⟩

theorem fuL_len (b : Bool) (n : Nat) : (fuL b n).length = n := by
  induction n with
  | zero => rfl
  | succ n ih => show (fuL b n ++ _).length = _; rw [List.length_append, ih]; rfl

theorem n_count : countR ⟨#[110]⟩ = 1 := by decide +kernel

theorem n_name : NameP ⟨#[110]⟩ := by
  refine ⟨⟨?_, ?_, by decide, by decide +kernel, by decide +kernel⟩, fun k hk => ?_, by rw [n_count]; decide⟩
  · rw [toList_data]; decide
  · rw [toList_data]; decide
  · rw [n_count] at hk
    unfold goodX
    match k, hk with
    | 0, _ => decide +kernel

theorem fuO_may (b : Bool) (i : Nat) (h1 : 1 ≤ i) (h2 : i ≤ 1000) : MayO (fuO b i) := by
  have hs : MayS ((i : Int), 1) := ⟨by show (1 : Int) ≤ i; omega, by show (i : Int) ≤ _; omega, (by decide : (1 : Int) ≤ 1), (by decide : (1 : Int) ≤ 6)⟩
  cases b with
  | true => exact ⟨hs, hs, .inl ⟨rfl, rfl, .inr ⟨rfl, .inl rfl⟩, n_name, rfl⟩⟩
  | false => exact ⟨hs, (by decide : MayS (1, 1)), .inr (.inr (.inr (.inl ⟨rfl, rfl, rfl, (by decide : (⟨#[118]⟩ : ByteArray).size ≤ 64)⟩)))⟩

theorem fuO_few (b : Bool) (i : Nat) : (fuO b i).2.2.2.2.1.size ≤ 1048576 ∧ (fuO b i).2.2.2.2.2.size ≤ 9223372036854775807 := by
  cases b with
  | false => exact ⟨(by decide : (⟨#[]⟩ : ByteArray).size ≤ 1048576), (by decide : (⟨#[118]⟩ : ByteArray).size ≤ 9223372036854775807)⟩
  | true => exact ⟨(by decide : (⟨#[110]⟩ : ByteArray).size ≤ 1048576), (by decide : (⟨#[]⟩ : ByteArray).size ≤ 9223372036854775807)⟩

theorem fuW_may : MayO fuW := ⟨by decide, by decide, .inr (.inr (.inr (.inl ⟨rfl, rfl, rfl, by decide⟩)))⟩

theorem fuL_pos (b : Bool) (n : Nat) (t : Int) (h : (n : Int) < t) : posO (t, 1) (fuL b n) = n := by
  have : posO (t, 1) (fuL b n) = (fuL b n).length := by
    unfold posO
    rw [List.findIdx_eq_length]
    intro o ho
    obtain ⟨i, h1, h2, rfl⟩ := fuL_mem b n o ho
    rw [fuO_at]
    refine decide_eq_false (fun hl => ?_)
    rcases hl with hl | ⟨_, hl⟩
    · simp only at hl; omega
    · exact absurd hl (by decide : ¬ (1 : Int) < 1)
  rw [this, fuL_len]

theorem fuL_dup (b : Bool) (n : Nat) (t : Int) (h : (n : Int) < t) (l : List OpT) (hl : ∀ o ∈ l, o ∈ fuL b n) : dupO (t, 1) l = false := by
  unfold dupO
  rw [List.any_eq_false]
  intro o ho
  obtain ⟨i, h1, h2, rfl⟩ := fuL_mem b n o (hl o ho)
  rw [fuO_at]
  simp only [Prod.mk.injEq, decide_eq_true_eq, not_and]
  intro e; omega

theorem fu_step (M : OpT → Bool) (hM : ∀ o, M o = true ↔ MayO o) (b : Bool) (n : Nat) (h : n < 512) : applyP M ([], fuL b n, (0, 0)) (fuO b (n + 1)) = (([], fuL b (n + 1), (0, 0)), 0) := by
  have hat := fuO_at b (n + 1)
  have hp := fuL_pos b n ((n + 1 : Nat) : Int) (by omega)
  have hc := creO_le (fuL b n)
  rw [fuL_len] at hc
  rw [ap_ok M _ _ ((hM _).2 (fuO_may b (n + 1) (by omega) (by omega))) (by rw [hat]; exact .inl (by show (0 : Int) < ((n + 1 : Nat) : Int); omega)) (by rw [hat]; exact fuL_dup b n _ (by omega) _ (fun _ h => h)) (by
    intro hf
    rcases hf with hf | ⟨_, hf⟩
    · simp only [fuL_len] at hf; omega
    · simp only [List.length_nil] at hf; omega)]
  simp only
  unfold putO
  rw [hat, hp]
  rw [List.take_of_length_le (by rw [fuL_len]; omega), List.drop_of_length_le (by rw [fuL_len]; omega)]
  rfl

theorem ap_full (M : OpT → Bool) (T : TreeT) (o : OpT) (h : M o = true) (hl : LessS T.2.2 o.2.1) (hd : dupO o.2.1 T.2.1 = false) (hf : 512 ≤ T.2.1.length) : applyP M T o = (T, 2) := by
  unfold applyP
  rw [if_neg (fun hh => by
    rcases hh with hh | hh
    · rw [h] at hh; cases hh
    · exact hh hl), if_neg (by rw [hd]; decide), if_pos (.inl hf)]

theorem fu_full (M : OpT → Bool) (hM : ∀ o, M o = true ↔ MayO o) (b : Bool) : applyP M ([], fuL b 512, (0, 0)) (fuO b 513) = (([], fuL b 512, (0, 0)), 2) := by
  have hat := fuO_at b 513
  exact ap_full M _ _ ((hM _).2 (fuO_may b 513 (by omega) (by omega))) (by rw [hat]; exact .inl (by decide : (0 : Int) < ((513 : Nat) : Int))) (by rw [hat]; exact fuL_dup b 512 _ (by decide) _ (fun _ h => h)) (by rw [fuL_len]; exact Nat.le_refl _)

theorem fu_more (M : OpT → Bool) (hM : ∀ o, M o = true ↔ MayO o) (b : Bool) : applyP M ([], fuL b 512, (0, 0)) fuW = (([], fuL b 512, (0, 0)), 2) :=
  ap_full M _ _ ((hM _).2 fuW_may) (by decide : LessS (0, 0) (2000, 1)) (fuL_dup b 512 2000 (by decide) _ (fun _ h => h)) (by rw [fuL_len]; exact Nat.le_refl _)

theorem fu_ten (b : Bool) : posO (10, 6) (fuL b 512) = 10 := by cases b <;> decide +kernel

theorem fu_comp (b : Bool) : compactP ([], fuL b 512, (0, 0)) (10, 6) = ((nodesP [] ((fuL b 512).take 10), (fuL b 512).drop 10, (10, 6)), 10) := by
  unfold compactP
  rw [if_pos (by decide)]
  simp only [fu_ten]
  rw [if_pos (by decide)]

theorem fu_last (M : OpT → Bool) (hM : ∀ o, M o = true ↔ MayO o) (b : Bool) : (applyP M (nodesP [] ((fuL b 512).take 10), (fuL b 512).drop 10, (10, 6)) fuW).2 = 0 := by
  rw [ap_ok M _ _ ((hM _).2 fuW_may) (by decide : LessS (10, 6) (2000, 1)) (fuL_dup b 512 2000 (by decide) _ (fun _ h => List.mem_of_mem_drop h)) (by
    intro hf
    rcases hf with hf | ⟨hf, _⟩
    · simp only [List.length_drop, fuL_len] at hf; omega
    · exact absurd hf (by decide))]
end Go.Proofs.YtaomhhooipfjbaaDoor

/- The law TreeFull, walked. -/
namespace Go.Proofs.YtaomhhooipfjbaaDoor
open Go.RowKit
set_option linter.unusedSimpArgs false



set_option maxRecDepth 100000 in
set_option maxHeartbeats 4000000 in
theorem treeFull_walk (b : Bool) (more : Int) (w : World) (hG : Glob8 w) : Calls Tryd.prog 6 #[.bool b, .int .i64 more] w fun e w' => e = .returned (.bool true) ∧ Below w.heap.size w w' := by
  obtain ⟨M, hM⟩ := mayM_ex
  have CA : Hid (∀ t u w, _) := at_any
  have CN : Hid (Calls _ _ _ _ _) := new_any w
  have HG : Hid (Glob8 w) := hG
  have HM : Hid (∀ o, M o = true ↔ MayO o) := hM
  clear hG hM
  go_enter Tryd.func6, Tryd.ntmps6
  go_wp2_with fail
  refine CN.out.mono ?_
  rintro e w1 ⟨g, f, m, rfl, hT, hF, hB⟩
  have HT : Hid (TreeIn w1 g f m none ([], fuL b 0, (0, 0))) := hT
  have HF : Hid (∀ k, tfoot g f m none k → w.heap.size ≤ k) := hF
  have HB : Hid (Below w.heap.size w w1) := hB
  clear CN hT hF hB
  go_wp2_with fail
  have hM := HM.out
  have CAPf : Hid (∀ (k : Nat) (r : Option Nat) (W : World), k ≤ 512 → TreeIn W g f m r ([], fuL false (min k 512), (0, 0)) → Glob8 W → Calls Tryd.prog 10 #[.pointer (some ⟨g, 0, none⟩), .agg #[.int .i64 4, .int .i64 ((k : Int) + 1), .int .i64 1, .int .i64 1, .int .i64 1, .int .i64 0, .int .i64 0, .string ⟨#[]⟩, .string ⟨#[118]⟩]] W fun e w' => e = .returned (.int .i64 (if k < 512 then 0 else 2)) ∧ ∃ r', TreeIn w' g f m r' ([], fuL false (min (k + 1) 512), (0, 0)) ∧ KeptF (tfoot g f m r) W w' ∧ Nx W r r') := fun k r W hk hT hG => by
    by_cases h5 : k < 512
    · have h := apply_any M hM g f m r _ (fuO false (k + 1)) W hT hG (by simp only [fuL_len, List.length_nil]; omega) (fuO_few _ _).1 (fuO_few _ _).2
      rw [Nat.min_eq_left (by omega)] at h
      rw [fu_step M hM false k h5] at h
      rw [if_pos h5, Nat.min_eq_left (show k + 1 ≤ 512 by omega)]
      exact h
    · obtain rfl : k = 512 := by omega
      have h := apply_any M hM g f m r _ (fuO false 513) W hT hG (by simp only [fuL_len, List.length_nil]; omega) (fuO_few _ _).1 (fuO_few _ _).2
      rw [Nat.min_eq_left (Nat.le_refl 512)] at h
      rw [fu_full M hM false] at h
      exact h
  have CAPt : Hid (∀ (k : Nat) (r : Option Nat) (W : World), k ≤ 512 → TreeIn W g f m r ([], fuL true (min k 512), (0, 0)) → Glob8 W → Calls Tryd.prog 10 #[.pointer (some ⟨g, 0, none⟩), .agg #[.int .i64 1, .int .i64 ((k : Int) + 1), .int .i64 1, .int .i64 ((k : Int) + 1), .int .i64 1, .int .i64 0, .int .i64 0, .string ⟨#[110]⟩, .string ⟨#[]⟩]] W fun e w' => e = .returned (.int .i64 (if k < 512 then 0 else 2)) ∧ ∃ r', TreeIn w' g f m r' ([], fuL true (min (k + 1) 512), (0, 0)) ∧ KeptF (tfoot g f m r) W w' ∧ Nx W r r') := fun k r W hk hT hG => by
    by_cases h5 : k < 512
    · have h := apply_any M hM g f m r _ (fuO true (k + 1)) W hT hG (by simp only [fuL_len, List.length_nil]; omega) (fuO_few _ _).1 (fuO_few _ _).2
      rw [Nat.min_eq_left (by omega)] at h
      rw [fu_step M hM true k h5] at h
      rw [if_pos h5, Nat.min_eq_left (show k + 1 ≤ 512 by omega)]
      exact h
    · obtain rfl : k = 512 := by omega
      have h := apply_any M hM g f m r _ (fuO true 513) W hT hG (by simp only [fuL_len, List.length_nil]; omega) (fuO_few _ _).1 (fuO_few _ _).2
      rw [Nat.min_eq_left (Nat.le_refl 512)] at h
      rw [fu_full M hM true] at h
      exact h
  clear hM
  obtain ⟨p, hp, hbits⟩ : ∃ p : Nat, p ≤ 1 ∧ bits .and .i64 more 1 = (p : Int) := by
    have h1 := i64_mask more 1 (by decide) 1 (by decide)
    refine ⟨(more % 2).toNat, by omega, ?_⟩
    rw [h1]
    show more % 2 = _
    omega
  go_loopw [7] (fun i wr => ∃ (k : Nat) (r : Option Nat), k ≤ 512 + p ∧ i = .int .i64 ((k : Int) + 1) ∧ Hid (TreeIn wr g f m r ([], fuL b (min k 512), (0, 0))) ∧ Hid (Below w.heap.size w wr) ∧ Hid (∀ k, tfoot g f m r k → w.heap.size ≤ k)) (fun i _ => 515 - (intOf i).toNat)
  case atStart => exact ⟨0, none, by omega, rfl, HT, HB, HF⟩
  case round =>
    clear HT HB HF
    obtain ⟨k, r, hk, rfl, HT, HB, HF⟩ := hrel
    by_cases hlt : k < 512 + p
    · have b0 : (k : Int) + 1 ≤ 512 + (p : Int) := by omega
      cases b with
      | false =>
        go_wp2_with fail
        refine (CA.out _ _ _).mono ?_
        rintro e w2 ⟨rfl, hb2⟩
        go_wp2_with fail
        refine (CA.out _ _ _).mono ?_
        rintro e w3 ⟨rfl, hb3⟩
        have hB3 := below_step hb2 (Nat.le_refl _) hb3
        clear hb2 hb3
        go_wp2_with fail
        have hBW : Below wr.heap.size wr (w3.alloc (.cells #[.int .i64 4, .int .i64 ((k : Int) + 1), .int .i64 1, .int .i64 1, .int .i64 1, .int .i64 0, .int .i64 0, .string ⟨#[]⟩, .string ⟨#[118]⟩] 30)) := below_step hB3 (Nat.le_refl _) (below_new _ _)
        refine (CAPf.out k r _ (by omega) (HT.out.on hBW) (HG.out.below (below_step HB.out (Nat.le_refl _) hBW))).mono ?_
        rintro e w7 ⟨rfl, r', hT7, hK7, hN7⟩
        have HT7 : Hid (TreeIn w7 g f m r' ([], fuL false (min (k + 1) 512), (0, 0))) := hT7
        have hBx := below_step HB.out (Nat.le_refl _) hBW
        have HB7 : Hid (Below w.heap.size w w7) := hBx.trans (hK7.below w.heap.size hBx.size (fun k h => HF.out k h))
        have HF7 : Hid (∀ k, tfoot g f m r' k → w.heap.size ≤ k) := fun j hj => by
          rcases hj with h | h | h | h
          · exact HF.out j (.inl h)
          · exact HF.out j (.inr (.inl h))
          · exact HF.out j (.inr (.inr (.inl h)))
          · rcases hN7 j h.symm with h' | h'
            · exact HF.out j (.inr (.inr (.inr h'.symm)))
            · have := hBx.size; omega
        clear hT7 hBx hK7 hN7 HT HB HF hBW CAPf CAPt
        by_cases h5 : k < 512
        · rw [if_pos h5]
          have b1 : (k : Int) + 1 ≤ 512 := by omega
          go_wp2_with fail
          refine ⟨⟨k + 1, r', by omega, by go_num, HT7, HB7, HF7⟩, ?_⟩
          simp [intOf]; omega
        · rw [if_neg h5]
          have b1 : ¬ (k : Int) + 1 ≤ 512 := by omega
          go_wp2_with fail
          refine ⟨⟨k + 1, r', by omega, by go_num, HT7, HB7, HF7⟩, ?_⟩
          simp [intOf]; omega
      | true =>
        go_wp2_with fail
        refine (CA.out _ _ _).mono ?_
        rintro e w2 ⟨rfl, hb2⟩
        go_wp2_with fail
        refine (CA.out _ _ _).mono ?_
        rintro e w3 ⟨rfl, hb3⟩
        have hB3 := below_step hb2 (Nat.le_refl _) hb3
        clear hb2 hb3
        go_wp2_with fail
        refine (CA.out _ _ _).mono ?_
        rintro e w4 ⟨rfl, hb4⟩
        have KX := (Blk.new w3 30 #[.int .i64 4, .int .i64 ((k : Int) + 1), .int .i64 1, .int .i64 1, .int .i64 1, .int .i64 0, .int .i64 0, .string ⟨#[]⟩, .string ⟨#[118]⟩]).on hb4
        have hB4 := below_step (below_step hB3 (Nat.le_refl _) (below_new _ _)) (Nat.le_refl _) hb4
        clear hb4
        go_wp2_with fail
        refine (CA.out _ _ _).mono ?_
        rintro e w5 ⟨rfl, hb5⟩
        replace KX := KX.on hb5
        replace hB4 := below_step hB4 (Nat.le_refl _) hb5
        have HKX : Hid (Blk w5 30 w3.heap.size #[.int .i64 4, .int .i64 ((k : Int) + 1), .int .i64 1, .int .i64 1, .int .i64 1, .int .i64 0, .int .i64 0, .string ⟨#[]⟩, .string ⟨#[118]⟩]) := KX
        have HS3 : Hid (wr.heap.size ≤ w3.heap.size) := hB3.size
        clear hb5 KX hB3
        go_wp2_with (with_reducible refine wpList_storeBlkH rfl 30 _ _ rfl w3.heap.size #[.int .i64 4, .int .i64 ((k : Int) + 1), .int .i64 1, .int .i64 1, .int .i64 1, .int .i64 0, .int .i64 0, .string ⟨#[]⟩, .string ⟨#[118]⟩] #[.int .i64 1, .int .i64 ((k : Int) + 1), .int .i64 1, .int .i64 ((k : Int) + 1), .int .i64 1, .int .i64 0, .int .i64 0, .string ⟨#[110]⟩, .string ⟨#[]⟩] ?hx ?hy HKX.out rfl ?hi ?h1 ?_)
        try (case hx => rfl)
        try (case hy => rfl)
        try (case hi => first | kernel_rfl | (refine Option.map_eq_some_iff.1 (?_ : (Tryd.prog.info? 30).map (·.size) = some 9); kernel_rfl))
        try (case h1 => simp [Value.oneCell'])
        unfold Hid
        have KY := HKX.out.setRow #[.int .i64 1, .int .i64 ((k : Int) + 1), .int .i64 1, .int .i64 ((k : Int) + 1), .int .i64 1, .int .i64 0, .int .i64 0, .string ⟨#[110]⟩, .string ⟨#[]⟩]
        have hBW : Below wr.heap.size wr (w5.setRow w3.heap.size #[.int .i64 1, .int .i64 ((k : Int) + 1), .int .i64 1, .int .i64 ((k : Int) + 1), .int .i64 1, .int .i64 0, .int .i64 0, .string ⟨#[110]⟩, .string ⟨#[]⟩]) := below_setRow hB4 HS3.out _
        obtain ⟨W6, hW6⟩ : ∃ W6, w5.setRow w3.heap.size #[.int .i64 1, .int .i64 ((k : Int) + 1), .int .i64 1, .int .i64 ((k : Int) + 1), .int .i64 1, .int .i64 0, .int .i64 0, .string ⟨#[110]⟩, .string ⟨#[]⟩] = W6 := ⟨_, rfl⟩
        rw [hW6] at KY hBW ⊢
        have d0 : W6.cell? ⟨w3.heap.size, 0, none⟩ = some (.int .i64 1) := KY.cell 0
        have d1 : W6.cell? ⟨w3.heap.size, 1, none⟩ = some (.int .i64 ((k : Int) + 1)) := KY.cell 1
        have d2 : W6.cell? ⟨w3.heap.size, 2, none⟩ = some (.int .i64 1) := KY.cell 2
        have d3 : W6.cell? ⟨w3.heap.size, 3, none⟩ = some (.int .i64 ((k : Int) + 1)) := KY.cell 3
        have d4 : W6.cell? ⟨w3.heap.size, 4, none⟩ = some (.int .i64 1) := KY.cell 4
        have d5 : W6.cell? ⟨w3.heap.size, 5, none⟩ = some (.int .i64 0) := KY.cell 5
        have d6 : W6.cell? ⟨w3.heap.size, 6, none⟩ = some (.int .i64 0) := KY.cell 6
        have d7 : W6.cell? ⟨w3.heap.size, 7, none⟩ = some (.string ⟨#[110]⟩) := KY.cell 7
        have d8 : W6.cell? ⟨w3.heap.size, 8, none⟩ = some (.string ⟨#[]⟩) := KY.cell 8
        clear KY hB4 HKX hW6
        go_wp2_with fail
        refine (CAPt.out k r _ (by omega) (HT.out.on hBW) (HG.out.below (below_step HB.out (Nat.le_refl _) hBW))).mono ?_
        rintro e w7 ⟨rfl, r', hT7, hK7, hN7⟩
        have HT7 : Hid (TreeIn w7 g f m r' ([], fuL true (min (k + 1) 512), (0, 0))) := hT7
        have hBx := below_step HB.out (Nat.le_refl _) hBW
        have HB7 : Hid (Below w.heap.size w w7) := hBx.trans (hK7.below w.heap.size hBx.size (fun k h => HF.out k h))
        have HF7 : Hid (∀ k, tfoot g f m r' k → w.heap.size ≤ k) := fun j hj => by
          rcases hj with h | h | h | h
          · exact HF.out j (.inl h)
          · exact HF.out j (.inr (.inl h))
          · exact HF.out j (.inr (.inr (.inl h)))
          · rcases hN7 j h.symm with h' | h'
            · exact HF.out j (.inr (.inr (.inr h'.symm)))
            · have := hBx.size; omega
        clear hT7 hBx hK7 hN7 HT HB HF hBW CAPf CAPt
        by_cases h5 : k < 512
        · rw [if_pos h5]
          have b1 : (k : Int) + 1 ≤ 512 := by omega
          go_wp2_with fail
          refine ⟨⟨k + 1, r', by omega, by go_num, HT7, HB7, HF7⟩, ?_⟩
          simp [intOf]; omega
        · rw [if_neg h5]
          have b1 : ¬ (k : Int) + 1 ≤ 512 := by omega
          go_wp2_with fail
          refine ⟨⟨k + 1, r', by omega, by go_num, HT7, HB7, HF7⟩, ?_⟩
          simp [intOf]; omega
    · obtain rfl : k = 512 + p := by omega
      have b0 : ¬ (((512 + p : Nat) : Int) + 1 ≤ 512 + (p : Int)) := by omega
      have HT5 : Hid (TreeIn wr g f m r ([], fuL b 512, (0, 0))) := by show TreeIn _ _ _ _ _ _; rw [← Nat.min_eq_right (show 512 ≤ 512 + p by omega)]; exact HT.out
      clear HT hk hlt CAPf CAPt
      have CC : Hid (∀ (r : Option Nat) (W : World), TreeIn W g f m r ([], fuL b 512, (0, 0)) → Calls Tryd.prog 17 #[.pointer (some ⟨g, 0, none⟩), .agg #[.int .i64 10, .int .i64 6]] W fun e w' => e = .returned (.int .i64 10) ∧ ∃ r', TreeIn w' g f m r' (nodesP [] ((fuL b 512).take 10), (fuL b 512).drop 10, (10, 6)) ∧ KeptF (tfoot g f m r) W w' ∧ Nx W r r') := fun r W hT => by
        have h := compact_any g f m r _ (10, 6) W hT (by simp only [fuL_len, List.length_nil]; omega)
        rw [fu_comp b] at h
        exact h
      have hM := HM.out
      have CL : Hid (∀ (r : Option Nat) (W : World), TreeIn W g f m r (nodesP [] ((fuL b 512).take 10), (fuL b 512).drop 10, (10, 6)) → Glob8 W → Calls Tryd.prog 10 #[.pointer (some ⟨g, 0, none⟩), .agg #[.int .i64 4, .int .i64 2000, .int .i64 1, .int .i64 1, .int .i64 1, .int .i64 0, .int .i64 0, .string ⟨#[]⟩, .string ⟨#[119]⟩]] W fun e w' => e = .returned (.int .i64 0) ∧ KeptF (tfoot g f m r) W w') := fun r W hT hG => by
        have hl := nodesP_len [] ((fuL b 512).take 10)
        have h := apply_any M hM g f m r _ fuW W hT hG (by simp only [List.length_take, List.length_drop, fuL_len, List.length_nil] at hl ⊢; omega) (by decide) (by decide)
        rw [fu_last M hM b] at h
        exact h.mono fun _ _ t => ⟨t.1, t.2.choose_spec.2.1⟩
      have CM : Hid (∀ (r : Option Nat) (W : World), TreeIn W g f m r ([], fuL b 512, (0, 0)) → Glob8 W → Calls Tryd.prog 10 #[.pointer (some ⟨g, 0, none⟩), .agg #[.int .i64 4, .int .i64 2000, .int .i64 1, .int .i64 1, .int .i64 1, .int .i64 0, .int .i64 0, .string ⟨#[]⟩, .string ⟨#[119]⟩]] W fun e w' => e = .returned (.int .i64 2) ∧ ∃ r', TreeIn w' g f m r' ([], fuL b 512, (0, 0)) ∧ KeptF (tfoot g f m r) W w' ∧ Nx W r r') := fun r W hT hG => by
        have h := apply_any M hM g f m r _ fuW W hT hG (by simp only [fuL_len, List.length_nil]; omega) (by decide) (by decide)
        rw [fu_more M hM b] at h
        exact h
      clear hM
      go_wp2_with fail
      refine (CA.out _ _ _).mono ?_
      rintro e w2 ⟨rfl, hb2⟩
      go_wp2_with fail
      refine (CA.out _ _ _).mono ?_
      rintro e w3 ⟨rfl, hb3⟩
      have hB3 := below_step hb2 (Nat.le_refl _) hb3
      clear hb2 hb3
      cases b with
      | false =>
        go_wp2_with fail
        obtain ⟨h, hh⟩ : ∃ h, w3.heap.size = h := ⟨_, rfl⟩
        obtain ⟨W4, hW4⟩ : ∃ W4, w3.alloc (.cells #[.int .i64 4, .int .i64 2000, .int .i64 1, .int .i64 1, .int .i64 1, .int .i64 0, .int .i64 0, .string ⟨#[]⟩, .string ⟨#[119]⟩] 30) = W4 := ⟨_, rfl⟩
        have k4 : Blk W4 30 h #[.int .i64 4, .int .i64 2000, .int .i64 1, .int .i64 1, .int .i64 1, .int .i64 0, .int .i64 0, .string ⟨#[]⟩, .string ⟨#[119]⟩] := by rw [← hW4, ← hh]; exact Blk.new _ _ _
        have hB4 : Below wr.heap.size wr W4 := by rw [← hW4]; exact below_step hB3 (Nat.le_refl _) (below_new _ _)
        have hhl : wr.heap.size ≤ h := by rw [← hh]; exact hB3.size
        have hT4 := HT5.out.on hB4
        have hBw := below_step HB.out (Nat.le_refl _) hB4
        have hHh : ∀ k, tfoot g f m r k → k ≠ h := fun k t => by have := HT5.out.lt t; omega
        rw [hW4, hh]
        refine (CM.out _ _ hT4 (HG.out.below hBw)).mono ?_
        rintro e w5 ⟨rfl, r5, hT5, hK5, hN5⟩
        have HKc : Hid (Blk w5 30 h #[.int .i64 4, .int .i64 2000, .int .i64 1, .int .i64 1, .int .i64 1, .int .i64 0, .int .i64 0, .string ⟨#[]⟩, .string ⟨#[119]⟩]) := by show Blk _ _ _ _; unfold Blk; rw [hK5.block _ k4.lt (fun t => hHh _ t rfl)]; exact k4
        have HBc : Hid (Below w.heap.size w w5) := hBw.trans (hK5.below w.heap.size hBw.size (fun k t => HF.out k t))
        have HTc : Hid (TreeIn w5 g f m r5 ([], fuL false 512, (0, 0))) := hT5
        have HFc : Hid (∀ k, tfoot g f m r5 k → w.heap.size ≤ k) := fun j hj => by
          rcases hj with t | t | t | t
          · exact HF.out j (.inl t)
          · exact HF.out j (.inr (.inl t))
          · exact HF.out j (.inr (.inr (.inl t)))
          · rcases hN5 j t.symm with t' | t'
            · exact HF.out j (.inr (.inr (.inr t'.symm)))
            · have := hBw.size; omega
        have HHc : Hid (∀ k, tfoot g f m r5 k → k ≠ h) := fun j hj => by
          rcases hj with t | t | t | t
          · exact hHh j (.inl t)
          · exact hHh j (.inr (.inl t))
          · exact hHh j (.inr (.inr (.inl t)))
          · rcases hN5 j t.symm with t' | t'
            · exact hHh j (.inr (.inr (.inr t'.symm)))
            · have := k4.lt; omega
        clear hW4 hh k4 hB4 hhl hT4 hBw hHh hT5 hK5 hN5 HB HF HT5 hB3 CM
        go_wp2_with fail
        refine (CA.out _ _ _).mono ?_
        rintro e v1 ⟨rfl, hb1⟩
        have k1 := HKc.out.on hb1
        have hB1 := below_step HBc.out (Nat.le_refl _) hb1
        have hT1 := HTc.out.on hb1
        clear hb1 HTc HBc
        go_wp2_with fail
        refine (CC.out _ _ hT1).mono ?_
        rintro e v2 ⟨rfl, r2, hT2, hK2, hN2⟩
        have k2 : Blk v2 30 h #[.int .i64 4, .int .i64 2000, .int .i64 1, .int .i64 1, .int .i64 1, .int .i64 0, .int .i64 0, .string ⟨#[]⟩, .string ⟨#[119]⟩] := by unfold Blk; rw [hK2.block _ k1.lt (fun t => HHc.out _ t rfl)]; exact k1
        have hB2 : Below w.heap.size w v2 := hB1.trans (hK2.below w.heap.size hB1.size (fun k t => HFc.out k t))
        have hF2 : ∀ k, tfoot g f m r2 k → w.heap.size ≤ k := fun j hj => by
          rcases hj with t | t | t | t
          · exact HFc.out j (.inl t)
          · exact HFc.out j (.inr (.inl t))
          · exact HFc.out j (.inr (.inr (.inl t)))
          · rcases hN2 j t.symm with t' | t'
            · exact HFc.out j (.inr (.inr (.inr t'.symm)))
            · have := hB1.size; omega
        have d0 : v2.cell? ⟨h, 0, none⟩ = some (.int .i64 4) := k2.cell 0
        have d1 : v2.cell? ⟨h, 1, none⟩ = some (.int .i64 2000) := k2.cell 1
        have d2 : v2.cell? ⟨h, 2, none⟩ = some (.int .i64 1) := k2.cell 2
        have d3 : v2.cell? ⟨h, 3, none⟩ = some (.int .i64 1) := k2.cell 3
        have d4 : v2.cell? ⟨h, 4, none⟩ = some (.int .i64 1) := k2.cell 4
        have d5 : v2.cell? ⟨h, 5, none⟩ = some (.int .i64 0) := k2.cell 5
        have d6 : v2.cell? ⟨h, 6, none⟩ = some (.int .i64 0) := k2.cell 6
        have d7 : v2.cell? ⟨h, 7, none⟩ = some (.string ⟨#[]⟩) := k2.cell 7
        have d8 : v2.cell? ⟨h, 8, none⟩ = some (.string ⟨#[119]⟩) := k2.cell 8
        have HB2 : Hid (Below w.heap.size w v2) := hB2
        have HF2 : Hid (∀ k, tfoot g f m r2 k → w.heap.size ≤ k) := hF2
        have HT2 : Hid (TreeIn v2 g f m r2 (nodesP [] ((fuL false 512).take 10), (fuL false 512).drop 10, (10, 6))) := hT2
        clear k1 k2 hT1 hT2 hK2 hN2 hF2 hB2 hB1 HKc
        go_wp2_with fail
        refine (CL.out _ _ HT2.out (HG.out.below HB2.out)).mono ?_
        rintro e v3 ⟨rfl, hK3⟩
        have hB3 : Below w.heap.size w v3 := HB2.out.trans (hK3.below w.heap.size HB2.out.size (fun k t => HF2.out k t))
        have CW : Hid (Calls _ _ _ _ _) := awake11 v3 (HG.out.below hB3)
        have HB3 : Hid (Below w.heap.size w v3) := hB3
        clear hB3 hK3 HT2 HB2 HF2 d0 d1 d2 d3 d4 d5 d6 d7 d8
        go_wp2_with fail
        refine CW.out.mono ?_
        rintro e v4 ⟨rfl, hb4⟩
        have hB4 := below_step HB3.out (Nat.le_refl _) hb4
        clear hb4
        go_wp2_with fail
        go_ret
        exact ⟨rfl, hB4⟩
      | true =>
        go_wp2_with fail
        obtain ⟨h, hh⟩ : ∃ h, w3.heap.size = h := ⟨_, rfl⟩
        obtain ⟨W4, hW4⟩ : ∃ W4, w3.alloc (.cells #[.int .i64 4, .int .i64 2000, .int .i64 1, .int .i64 1, .int .i64 1, .int .i64 0, .int .i64 0, .string ⟨#[]⟩, .string ⟨#[119]⟩] 30) = W4 := ⟨_, rfl⟩
        have HKc : Hid (Blk W4 30 h #[.int .i64 4, .int .i64 2000, .int .i64 1, .int .i64 1, .int .i64 1, .int .i64 0, .int .i64 0, .string ⟨#[]⟩, .string ⟨#[119]⟩]) := by show Blk _ _ _ _; rw [← hW4, ← hh]; exact Blk.new _ _ _
        have hB4 : Below wr.heap.size wr W4 := by rw [← hW4]; exact below_step hB3 (Nat.le_refl _) (below_new _ _)
        have hhl : wr.heap.size ≤ h := by rw [← hh]; exact hB3.size
        have HTc : Hid (TreeIn W4 g f m r ([], fuL true 512, (0, 0))) := HT5.out.on hB4
        have HBc : Hid (Below w.heap.size w W4) := below_step HB.out (Nat.le_refl _) hB4
        have HHc : Hid (∀ k, tfoot g f m r k → k ≠ h) := fun k t => by have := HT5.out.lt t; omega
        have HFc := HF
        rw [hW4, hh]
        clear hW4 hh hB4 hhl HB HF HT5 hB3 CM
        refine (CA.out _ _ _).mono ?_
        rintro e v1 ⟨rfl, hb1⟩
        have k1 := HKc.out.on hb1
        have hB1 := below_step HBc.out (Nat.le_refl _) hb1
        have hT1 := HTc.out.on hb1
        clear hb1 HTc HBc
        go_wp2_with fail
        refine (CC.out _ _ hT1).mono ?_
        rintro e v2 ⟨rfl, r2, hT2, hK2, hN2⟩
        have k2 : Blk v2 30 h #[.int .i64 4, .int .i64 2000, .int .i64 1, .int .i64 1, .int .i64 1, .int .i64 0, .int .i64 0, .string ⟨#[]⟩, .string ⟨#[119]⟩] := by unfold Blk; rw [hK2.block _ k1.lt (fun t => HHc.out _ t rfl)]; exact k1
        have hB2 : Below w.heap.size w v2 := hB1.trans (hK2.below w.heap.size hB1.size (fun k t => HFc.out k t))
        have hF2 : ∀ k, tfoot g f m r2 k → w.heap.size ≤ k := fun j hj => by
          rcases hj with t | t | t | t
          · exact HFc.out j (.inl t)
          · exact HFc.out j (.inr (.inl t))
          · exact HFc.out j (.inr (.inr (.inl t)))
          · rcases hN2 j t.symm with t' | t'
            · exact HFc.out j (.inr (.inr (.inr t'.symm)))
            · have := hB1.size; omega
        have d0 : v2.cell? ⟨h, 0, none⟩ = some (.int .i64 4) := k2.cell 0
        have d1 : v2.cell? ⟨h, 1, none⟩ = some (.int .i64 2000) := k2.cell 1
        have d2 : v2.cell? ⟨h, 2, none⟩ = some (.int .i64 1) := k2.cell 2
        have d3 : v2.cell? ⟨h, 3, none⟩ = some (.int .i64 1) := k2.cell 3
        have d4 : v2.cell? ⟨h, 4, none⟩ = some (.int .i64 1) := k2.cell 4
        have d5 : v2.cell? ⟨h, 5, none⟩ = some (.int .i64 0) := k2.cell 5
        have d6 : v2.cell? ⟨h, 6, none⟩ = some (.int .i64 0) := k2.cell 6
        have d7 : v2.cell? ⟨h, 7, none⟩ = some (.string ⟨#[]⟩) := k2.cell 7
        have d8 : v2.cell? ⟨h, 8, none⟩ = some (.string ⟨#[119]⟩) := k2.cell 8
        have HB2 : Hid (Below w.heap.size w v2) := hB2
        have HF2 : Hid (∀ k, tfoot g f m r2 k → w.heap.size ≤ k) := hF2
        have HT2 : Hid (TreeIn v2 g f m r2 (nodesP [] ((fuL true 512).take 10), (fuL true 512).drop 10, (10, 6))) := hT2
        clear k1 k2 hT1 hT2 hK2 hN2 hF2 hB2 hB1 HKc
        go_wp2_with fail
        refine (CL.out _ _ HT2.out (HG.out.below HB2.out)).mono ?_
        rintro e v3 ⟨rfl, hK3⟩
        have hB3 : Below w.heap.size w v3 := HB2.out.trans (hK3.below w.heap.size HB2.out.size (fun k t => HF2.out k t))
        have CW : Hid (Calls _ _ _ _ _) := awake11 v3 (HG.out.below hB3)
        have HB3 : Hid (Below w.heap.size w v3) := hB3
        clear hB3 hK3 HT2 HB2 HF2 d0 d1 d2 d3 d4 d5 d6 d7 d8
        go_wp2_with fail
        refine CW.out.mono ?_
        rintro e v4 ⟨rfl, hb4⟩
        have hB4 := below_step HB3.out (Nat.le_refl _) hb4
        clear hb4
        go_wp2_with fail
        go_ret
        exact ⟨rfl, hB4⟩
end Go.Proofs.YtaomhhooipfjbaaDoor
