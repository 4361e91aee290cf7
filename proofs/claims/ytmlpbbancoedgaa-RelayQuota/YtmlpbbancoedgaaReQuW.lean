/- RelayQuota's walk. -/
import Derived.Test.YtmlpbbancoedgaaReQuWalk
namespace Go.Proofs.Ytmlpbbancoedgaa
open Go.RowKit
set_option maxRecDepth 100000
set_option linter.unusedSimpArgs false
set_option linter.unusedVariables false




set_option maxHeartbeats 20000000 in
theorem relayQuota_walk (quota : Int) (a : Option Addr) (len cap : Nat) (w : World) (hz : ∃ l, IntsAt w .i64 a len l ∧ len ≤ maxLen ∧ ∀ q ∈ l, (Lit.int .i64 q).wf = true) :
    Calls Try.prog 6 #[.int .i64 quota, .slice a len cap] w fun e w' => e = .returned (.bool true) ∧ Below w.heap.size w w' := by
  obtain ⟨la, hI, hml, _⟩ := hz
  obtain ⟨q, hq, hq2⟩ := mask1024r quota
  have HI : Hid (IntsAt w .i64 a len la) := hI
  have hlen : len ≤ 9223372036854775807 := by unfold maxLen at hml; omega
  have HQ2 : Hid (q < 1024) := hq2
  have CN : Hid (Calls _ _ _ _ _) := new_any 1 (q : Int) w (by decide) (by decide) (by omega) (by omega)
  have HP0 : Hid (QuP q 0 (newR 1 (q : Int))) := ⟨rfl, rfl, newR_ok (by decide) (by decide) (by omega) (by omega), newR_ep _ _, Nat.le_refl _, fun j hj => by cases hj⟩
  clear hI hml hq2
  go_enter Try.func6, Try.ntmps6
  go_wp2_with fail
  refine CN.out.mono ?_
  rintro e w1 ⟨rfl, hr1, hb1⟩
  have HS1 : Hid (RlV w w.heap.size (newR 1 (q : Int)) w1) := ⟨hb1, Nat.le_refl _, _, hr1, fun k hk => by cases hk⟩
  clear hr1 hb1 CN
  go_wp2_with fail
  go_loopw [8] (fun v wr => ∃ k : Nat, k ≤ len ∧ k ≤ 60 ∧ v = .int .i64 k ∧ Hid (∃ X, QuP q k X ∧ RlV w w.heap.size X wr)) (fun v _ => 61 - (intOf v).toNat)
  case atStart => exact ⟨0, Nat.zero_le _, by omega, rfl, _, HP0.out, HS1.out⟩
  case round =>
    clear HS1 HP0
    obtain ⟨k, hk, hk60, rfl, HX⟩ := hrel
    obtain ⟨X, hP, hS⟩ := HX.out
    have HQ : Hid (QuP q k X) := hP
    have HS : Hid (RlV w w.heap.size X wr) := hS
    clear hP hS HX
    by_cases hlt : k < len
    · by_cases hlt2 : k < 60
      · have b0 : (k : Int) < (len : Int) := by omega
        have b1 : (k : Int) < 60 := by omega
        obtain ⟨lb, off, rfl, hcl⟩ := (HI.out.below HS.out.bel).2.resolve_left (by omega)
        have c0 := hcl k hlt
        obtain ⟨z, hzz⟩ : ∃ z, la.getD k 0 = z := ⟨_, rfl⟩
        rw [hzz] at c0
        obtain ⟨n, hn, hn2⟩ := mask256r z
        have hw1 : IntKind.i64.wrap (1 + (k : Int)) = 1 + (k : Int) := by rw [IntKind.wrap_i64]; omega
        have hmk := make_zeros n (n : Int) rfl (by omega) wr
        have hcv := conv_zeros (row_zeros n wr)
        have HN2 : Hid (n < 256) := hn2
        have hF1 : Blk ((wr.alloc (.cells (zcells n) 5)).alloc (.cells #[.int .i64 1, .int .i64 1, .int .i64 0, .int .i64 (1 + (k : Int)), .int .i64 0, .string (zeroB n), .slice none 0 0, .int .i64 0] 39)) 39 (wr.heap.size + 1) #[.int .i64 1, .int .i64 1, .int .i64 0, .int .i64 (1 + (k : Int)), .int .i64 0, .string (zeroB n), .slice none 0 0, .int .i64 0] := Blk.new' _ _ _ _ (by simp)
        have hB1 : Below wr.heap.size wr ((wr.alloc (.cells (zcells n) 5)).alloc (.cells #[.int .i64 1, .int .i64 1, .int .i64 0, .int .i64 (1 + (k : Int)), .int .i64 0, .string (zeroB n), .slice none 0 0, .int .i64 0] 39)) := (below_new wr _).alloc (by simp) _
        by_cases hn0 : n = 0
        · subst hn0
          have hn' : bits .and .i64 z 255 = 0 := hn
          have hmk0 := make_zeros 0 0 rfl (by omega) wr
          clear hcl hzz hn2 hlt hlt2 hmk hn
          go_wp2_with fail
          obtain ⟨V1, hV1⟩ : ∃ V1, (wr.alloc (.cells (zcells 0) 5)).alloc (.cells #[.int .i64 1, .int .i64 1, .int .i64 0, .int .i64 (1 + (k : Int)), .int .i64 0, .string (zeroB 0), .slice none 0 0, .int .i64 0] 39) = V1 := ⟨_, rfl⟩
          obtain ⟨h10, hh10⟩ : ∃ h10, wr.heap.size + 1 = h10 := ⟨_, rfl⟩
          rw [hV1] at hF1 hB1 ⊢
          rw [hh10] at hF1 ⊢
          have HS1 : Hid (RlV w w.heap.size X V1) := HS.out.on hB1
          have HF1 : Hid (Blk V1 39 h10 _) := hF1
          have HL10 : Hid (w.heap.size ≤ h10) := by have := HS.out.bel.size; show _ ≤ _; omega
          clear hF1 hB1 hV1 hh10 hmk0 hcv HS c0 hn'
          obtain ⟨v1, hr1, hv1⟩ := HS1.out.rel
          refine (rlast_any w.heap.size v1 X k (by omega) HQ.out.ok V1 hr1).mono ?_
          rintro e u2 ⟨rfl, hb2⟩
          have HS2 : Hid (RlV w w.heap.size X u2) := HS1.out.on hb2
          have HF2 : Hid (Blk u2 39 h10 _) := HF1.out.on hb2
          have hX2 := HF2.out
          obtain ⟨La, hLa⟩ : ∃ La, lastL X = La := ⟨_, rfl⟩
          rw [hLa]
          have HLA : Hid (lastL X = La) := hLa
          clear hr1 hv1 hb2 HS1 HF1 hLa
          go_wp2_with (with_reducible refine wpList_storeBlk rfl 39 _ _ rfl h10 #[.int .i64 1, .int .i64 1, .int .i64 0, .int .i64 (1 + (k : Int)), .int .i64 0, .string (zeroB 0), .slice none 0 0, .int .i64 0] #[.int .i64 5, .int .i64 1, .int .i64 La, .int .i64 1, .int .i64 0, .string ⟨#[115, 110, 97, 112]⟩, .slice none 0 0, .int .i64 0] ?hx ?hy hX2 rfl ?hi ?h1 ?_)
          try (case hx => rfl)
          try (case hy => rfl)
          try (case hi => first | kernel_rfl | exact Option.map_eq_some_iff.1 (by kernel_rfl))
          try (case h1 => simp [Value.oneCell'])
          have HS2b : Hid (RlV w w.heap.size X (u2.setRow h10 #[.int .i64 5, .int .i64 1, .int .i64 La, .int .i64 1, .int .i64 0, .string ⟨#[115, 110, 97, 112]⟩, .slice none 0 0, .int .i64 0])) := HS2.out.setRow HF2.out (by decide) (by decide) HL10.out _
          have HF2b : Hid (Blk (u2.setRow h10 #[.int .i64 5, .int .i64 1, .int .i64 La, .int .i64 1, .int .i64 0, .string ⟨#[115, 110, 97, 112]⟩, .slice none 0 0, .int .i64 0]) 39 h10 #[.int .i64 5, .int .i64 1, .int .i64 La, .int .i64 1, .int .i64 0, .string ⟨#[115, 110, 97, 112]⟩, .slice none 0 0, .int .i64 0]) := HF2.out.setRow _
          obtain ⟨V2, hV2⟩ : ∃ V2, u2.setRow h10 #[.int .i64 5, .int .i64 1, .int .i64 La, .int .i64 1, .int .i64 0, .string ⟨#[115, 110, 97, 112]⟩, .slice none 0 0, .int .i64 0] = V2 := ⟨_, rfl⟩
          rw [hV2] at HS2b HF2b ⊢
          clear HS2 HF2 hX2 hV2
          obtain ⟨v2, hr2, hv2⟩ := HS2b.out.rel
          refine (rbytes_any w.heap.size v2 X k HQ.out.ok V2 hr2).mono ?_
          rintro e u3 ⟨rfl, hb3⟩
          have HS2c : Hid (RlV w w.heap.size X u3) := HS2b.out.on hb3
          have HF2c : Hid (Blk u3 39 h10 _) := HF2b.out.on hb3
          clear hr2 hv2 hb3 HS2b HF2b
          go_wp2_with fail
          obtain ⟨v3, hr3, hv3⟩ := HS2c.out.rel
          refine (rlast_any w.heap.size v3 X k (by omega) HQ.out.ok u3 hr3).mono ?_
          rintro e w3 ⟨rfl, hb4⟩
          have HS3 : Hid (RlV w w.heap.size X w3) := HS2c.out.on hb4
          have HF3 : Hid (Blk w3 39 h10 _) := HF2c.out.on hb4
          clear hr3 hv3 hb4 HS2c HF2c
          obtain ⟨X', hd1, hq'⟩ := qu_kep HQ.out (by omega)
          have HQ' : Hid (QuP q (k + 1) X') := hq'
          obtain ⟨A, hA⟩ : ∃ A, (doR X (kepF 1 (lastL X) 1 ⟨#[115, 110, 97, 112]⟩)).2 = A := ⟨_, rfl⟩
          have hla1 := HQ.out.ok.last
          have hla2 := HQ.out.ok.b0
          have hla3 : 0 ≤ lastL X := by unfold lastL; omega
          have CA' := ask_gen w w.heap.size X k HQ.out.ok HQ.out.ep (by omega) _ (kepF_fit (g := 1) (s := lastL X) (E := 1) (b := ⟨#[115, 110, 97, 112]⟩) ⟨by decide, by decide⟩ ⟨hla3, by omega⟩ ⟨by decide, by decide⟩ (by decide)) rfl X' A (Prod.ext hd1 hA) w3 HS3.out
          obtain ⟨A1, A2, A3, A4, A5, A6, A7, A8⟩ := A
          simp only [frmA, kepF, withG] at CA'
          rw [HLA.out, HQ.out.g] at CA'
          clear hd1 hA hq' hla1 hla2 hla3
          have d0 : w3.cell? ⟨h10, 0, none⟩ = some (.int .i64 5) := HF3.out.cell 0
          have d1 : w3.cell? ⟨h10, 1, none⟩ = some (.int .i64 1) := HF3.out.cell 1
          have d2 : w3.cell? ⟨h10, 2, none⟩ = some (.int .i64 La) := HF3.out.cell 2
          have d3 : w3.cell? ⟨h10, 3, none⟩ = some (.int .i64 1) := HF3.out.cell 3
          have d4 : w3.cell? ⟨h10, 4, none⟩ = some (.int .i64 0) := HF3.out.cell 4
          have d5 : w3.cell? ⟨h10, 5, none⟩ = some (.string ⟨#[115, 110, 97, 112]⟩) := HF3.out.cell 5
          have d6 : w3.cell? ⟨h10, 6, none⟩ = some (.slice none 0 0) := HF3.out.cell 6
          have d7 : w3.cell? ⟨h10, 7, none⟩ = some (.int .i64 0) := HF3.out.cell 7
          have CA : Hid (Calls _ _ _ _ _) := CA'
          clear CA'
          go_wp2_with fail
          refine CA.out.mono ?_
          rintro e w4 ⟨a4, c4, rfl, _, _, hs4, ho4⟩
          clear d0 d1 d2 d3 d4 d5 d6 d7 CA HF3 HS3 ho4
          go_wp2_with fail
          have hb5 : Below w4.heap.size w4 (w4.alloc (.cells #[.int .i64 A1, .int .i64 1, .int .i64 A3, .int .i64 A4, .int .i64 A5, .string A6, .slice a4 A7.length c4, .int .i64 A8] 39)) := below_new _ _
          have HS5 : Hid (RlV w w.heap.size X' (w4.alloc (.cells #[.int .i64 A1, .int .i64 1, .int .i64 A3, .int .i64 A4, .int .i64 A5, .string A6, .slice a4 A7.length c4, .int .i64 A8] 39))) := hs4.on hb5
          obtain ⟨v5, hr5, hv5⟩ := HS5.out.rel
          refine (rbytes_any w.heap.size v5 X' (k + 1) HQ'.out.ok _ hr5).mono ?_
          rintro e w6 ⟨rfl, hb6⟩
          have HS6 : Hid (RlV w w.heap.size X' w6) := HS5.out.on hb6
          have hbq2 : ¬ ((q : Int) < ((bytesL X' : Nat) : Int)) := by have h1 := HQ'.out.ok.bytes; have h2 := HQ'.out.q; omega
          obtain ⟨T2, hT2⟩ : ∃ T2, ((bytesL X' : Nat) : Int) = T2 := ⟨_, rfl⟩
          rw [hT2] at hbq2 ⊢
          clear hr5 hv5 hT2 hb5 hb6 hs4 HS5
          go_wp2_with fail
          refine wp_region_noPanic ?_
          refine wp_region_held_drew (S := fun _ => True) (by kernel_rfl) (by first | exact trivial | assumption | exact ⟨by assumption, by assumption⟩) (fun hHeld => ?_)
          refine take_at (i := 0) (v := ?_) rfl rfl (by kernel_rfl) (by kernel_rfl) (by kernel_rfl) (fun _ _ _ h => h) (Or.inl ⟨by rfl, ?_⟩) (by assumption) ?_
          rotate_left
          · intro w hSw; (try dsimp only at hSw); go_simp; try with_reducible rfl
          try simp only [Act.put, List.setIfInBounds_toArray, List.set_cons_zero, List.set_cons_succ]
          refine take_at (i := 1) (v := ?_) rfl rfl (by kernel_rfl) (by kernel_rfl) (by kernel_rfl) (fun _ _ _ h => h) (Or.inl ⟨by rfl, ?_⟩) (by assumption) ?_
          rotate_left
          · intro w hSw; (try dsimp only at hSw); go_simp; try with_reducible rfl
          try simp only [Act.put, List.setIfInBounds_toArray, List.set_cons_zero, List.set_cons_succ]
          refine take_at (i := 2) (v := ?_) rfl rfl (by kernel_rfl) (by kernel_rfl) (by kernel_rfl) (fun _ _ _ h => h) (Or.inl ⟨by rfl, ?_⟩) (by assumption) ?_
          rotate_left
          · intro w hSw; (try dsimp only at hSw); go_simp; try with_reducible rfl
          try simp only [Act.put, List.setIfInBounds_toArray, List.set_cons_zero, List.set_cons_succ]
          refine take_at (i := 3) (v := undef) rfl rfl (by kernel_rfl) (by kernel_rfl) (by kernel_rfl) (fun _ _ _ h => h) (Or.inr ⟨by rfl, rfl⟩) (by assumption) ?_
          try simp only [Act.put, List.setIfInBounds_toArray, List.set_cons_zero, List.set_cons_succ]
          refine take_at (i := 4) (v := undef) rfl rfl (by kernel_rfl) (by kernel_rfl) (by kernel_rfl) (fun _ _ _ h => h) (Or.inr ⟨by rfl, rfl⟩) (by assumption) ?_
          try simp only [Act.put, List.setIfInBounds_toArray, List.set_cons_zero, List.set_cons_succ]
          refine take_at (i := 5) (v := undef) rfl rfl (by kernel_rfl) (by kernel_rfl) (by kernel_rfl) (fun _ _ _ h => h) (Or.inr ⟨by rfl, rfl⟩) (by assumption) ?_
          try simp only [Act.put, List.setIfInBounds_toArray, List.set_cons_zero, List.set_cons_succ]
          refine take_at (i := 6) (v := undef) rfl rfl (by kernel_rfl) (by kernel_rfl) (by kernel_rfl) (fun _ _ _ h => h) (Or.inr ⟨by rfl, rfl⟩) (by assumption) ?_
          try simp only [Act.put, List.setIfInBounds_toArray, List.set_cons_zero, List.set_cons_succ]
          refine take_at (i := 7) (v := undef) rfl rfl (by kernel_rfl) (by kernel_rfl) (by kernel_rfl) (fun _ _ _ h => h) (Or.inr ⟨by rfl, rfl⟩) (by assumption) ?_
          try simp only [Act.put, List.setIfInBounds_toArray, List.set_cons_zero, List.set_cons_succ]
          refine take_at (i := 8) (v := undef) rfl rfl (by kernel_rfl) (by kernel_rfl) (by kernel_rfl) (fun _ _ _ h => h) (Or.inr ⟨by rfl, rfl⟩) (by assumption) ?_
          try simp only [Act.put, List.setIfInBounds_toArray, List.set_cons_zero, List.set_cons_succ]
          refine take_at (i := 9) (v := undef) rfl rfl (by kernel_rfl) (by kernel_rfl) (by kernel_rfl) (fun _ _ _ h => h) (Or.inr ⟨by rfl, rfl⟩) (by assumption) ?_
          try simp only [Act.put, List.setIfInBounds_toArray, List.set_cons_zero, List.set_cons_succ]
          refine take_at (i := 10) (v := undef) rfl rfl (by kernel_rfl) (by kernel_rfl) (by kernel_rfl) (fun _ _ _ h => h) (Or.inr ⟨by rfl, rfl⟩) (by assumption) ?_
          try simp only [Act.put, List.setIfInBounds_toArray, List.set_cons_zero, List.set_cons_succ]
          refine take_at (i := 11) (v := undef) rfl rfl (by kernel_rfl) (by kernel_rfl) (by kernel_rfl) (fun _ _ _ h => h) (Or.inr ⟨by rfl, rfl⟩) (by assumption) ?_
          try simp only [Act.put, List.setIfInBounds_toArray, List.set_cons_zero, List.set_cons_succ]
          refine take_at (i := 12) (v := ?_) rfl rfl (by kernel_rfl) (by kernel_rfl) (by kernel_rfl) (fun _ _ _ h => h) (Or.inl ⟨by rfl, ?_⟩) (by assumption) ?_
          rotate_left
          · intro w hSw; (try dsimp only at hSw); go_simp; try with_reducible rfl
          try simp only [Act.put, List.setIfInBounds_toArray, List.set_cons_zero, List.set_cons_succ]
          refine take_at (i := 13) (v := ?_) rfl rfl (by kernel_rfl) (by kernel_rfl) (by kernel_rfl) (fun _ _ _ h => h) (Or.inl ⟨by rfl, ?_⟩) (by assumption) ?_
          rotate_left
          · intro w hSw; (try dsimp only at hSw); go_simp; try with_reducible rfl
          try simp only [Act.put, List.setIfInBounds_toArray, List.set_cons_zero, List.set_cons_succ]
          refine take_at (i := 14) (v := ?_) rfl rfl (by kernel_rfl) (by kernel_rfl) (by kernel_rfl) (fun _ _ _ h => h) (Or.inl ⟨by rfl, ?_⟩) (by assumption) ?_
          rotate_left
          · intro w hSw; (try dsimp only at hSw); go_simp; try with_reducible rfl
          try simp only [Act.put, List.setIfInBounds_toArray, List.set_cons_zero, List.set_cons_succ]
          refine take_at (i := 15) (v := ?_) rfl rfl (by kernel_rfl) (by kernel_rfl) (by kernel_rfl) (fun _ _ _ h => h) (Or.inl ⟨by rfl, ?_⟩) (by assumption) ?_
          rotate_left
          · intro w hSw; (try dsimp only at hSw); go_simp; try with_reducible rfl
          try simp only [Act.put, List.setIfInBounds_toArray, List.set_cons_zero, List.set_cons_succ]
          refine take_at (i := 16) (v := ?_) rfl rfl (by kernel_rfl) (by kernel_rfl) (by kernel_rfl) (fun _ _ _ h => h) (Or.inl ⟨by rfl, ?_⟩) (by assumption) ?_
          rotate_left
          · intro w hSw; (try dsimp only at hSw); go_simp; try with_reducible rfl
          try simp only [Act.put, List.setIfInBounds_toArray, List.set_cons_zero, List.set_cons_succ]
          refine take_at (i := 17) (v := undef) rfl rfl (by kernel_rfl) (by kernel_rfl) (by kernel_rfl) (fun _ _ _ h => h) (Or.inr ⟨by rfl, rfl⟩) (by assumption) ?_
          try simp only [Act.put, List.setIfInBounds_toArray, List.set_cons_zero, List.set_cons_succ]
          refine take_at (i := 18) (v := undef) rfl rfl (by kernel_rfl) (by kernel_rfl) (by kernel_rfl) (fun _ _ _ h => h) (Or.inr ⟨by rfl, rfl⟩) (by assumption) ?_
          try simp only [Act.put, List.setIfInBounds_toArray, List.set_cons_zero, List.set_cons_succ]
          refine take_at (i := 19) (v := undef) rfl rfl (by kernel_rfl) (by kernel_rfl) (by kernel_rfl) (fun _ _ _ h => h) (Or.inr ⟨by rfl, rfl⟩) (by assumption) ?_
          try simp only [Act.put, List.setIfInBounds_toArray, List.set_cons_zero, List.set_cons_succ]
          refine take_at (i := 20) (v := undef) rfl rfl (by kernel_rfl) (by kernel_rfl) (by kernel_rfl) (fun _ _ _ h => h) (Or.inr ⟨by rfl, rfl⟩) (by assumption) ?_
          try simp only [Act.put, List.setIfInBounds_toArray, List.set_cons_zero, List.set_cons_succ]
          refine take_at (i := 21) (v := undef) rfl rfl (by kernel_rfl) (by kernel_rfl) (by kernel_rfl) (fun _ _ _ h => h) (Or.inr ⟨by rfl, rfl⟩) (by assumption) ?_
          try simp only [Act.put, List.setIfInBounds_toArray, List.set_cons_zero, List.set_cons_succ]
          refine take_at (i := 22) (v := undef) rfl rfl (by kernel_rfl) (by kernel_rfl) (by kernel_rfl) (fun _ _ _ h => h) (Or.inr ⟨by rfl, rfl⟩) (by assumption) ?_
          try simp only [Act.put, List.setIfInBounds_toArray, List.set_cons_zero, List.set_cons_succ]
          refine take_at (i := 23) (v := undef) rfl rfl (by kernel_rfl) (by kernel_rfl) (by kernel_rfl) (fun _ _ _ h => h) (Or.inr ⟨by rfl, rfl⟩) (by assumption) ?_
          try simp only [Act.put, List.setIfInBounds_toArray, List.set_cons_zero, List.set_cons_succ]
          refine take_at (i := 24) (v := undef) rfl rfl (by kernel_rfl) (by kernel_rfl) (by kernel_rfl) (fun _ _ _ h => h) (Or.inr ⟨by rfl, rfl⟩) (by assumption) ?_
          try simp only [Act.put, List.setIfInBounds_toArray, List.set_cons_zero, List.set_cons_succ]
          refine take_at (i := 25) (v := undef) rfl rfl (by kernel_rfl) (by kernel_rfl) (by kernel_rfl) (fun _ _ _ h => h) (Or.inr ⟨by rfl, rfl⟩) (by assumption) ?_
          try simp only [Act.put, List.setIfInBounds_toArray, List.set_cons_zero, List.set_cons_succ]
          refine take_at (i := 26) (v := ?_) rfl rfl (by kernel_rfl) (by kernel_rfl) (by kernel_rfl) (fun _ _ _ h => h) (Or.inl ⟨by rfl, ?_⟩) (by assumption) ?_
          rotate_left
          · intro w hSw; (try dsimp only at hSw); go_simp; try with_reducible rfl
          try simp only [Act.put, List.setIfInBounds_toArray, List.set_cons_zero, List.set_cons_succ]
          refine take_at (i := 27) (v := ?_) rfl rfl (by kernel_rfl) (by kernel_rfl) (by kernel_rfl) (fun _ _ _ h => h) (Or.inl ⟨by rfl, ?_⟩) (by assumption) ?_
          rotate_left
          · intro w hSw; (try dsimp only at hSw); go_simp; try with_reducible rfl
          try simp only [Act.put, List.setIfInBounds_toArray, List.set_cons_zero, List.set_cons_succ]
          refine wpAnyH_done (by kernel_rfl) (NoPanic.normal ?_) _
          have HSE : Hid (RlV w w.heap.size X' w6.drew) := HS6.out.on (Below.refl _ _).drew
          clear HS6
          go_wp2_with fail
          refine ⟨?_, ?_⟩
          · first
            | exact ⟨k + 1, by omega, by omega, by go_num, _, HQ'.out, HSE.out⟩
            | ((repeat apply Exists.intro); refine ⟨?_, rfl⟩; exact ⟨k + 1, by omega, by omega, by go_num, _, HQ'.out, HSE.out⟩)
          · simp [intOf] <;> omega
        · have hnz : ((n : Int) == 0) = false := by rw [beq_eq_false_iff_ne]; omega
          have hnp : (0 : Int) < (n : Int) := by omega
          have hne : ¬ ((n : Int) = 0) := by omega
          have hnn : ¬ (n = 0) := hn0
          have hnN : 0 < n := by omega
          clear hcl hzz hlt hlt2
          go_wp2_with fail
          obtain ⟨V1, hV1⟩ : ∃ V1, (wr.alloc (.cells (zcells n) 5)).alloc (.cells #[.int .i64 1, .int .i64 1, .int .i64 0, .int .i64 (1 + (k : Int)), .int .i64 0, .string (zeroB n), .slice none 0 0, .int .i64 0] 39) = V1 := ⟨_, rfl⟩
          obtain ⟨h10, hh10⟩ : ∃ h10, wr.heap.size + 1 = h10 := ⟨_, rfl⟩
          rw [hV1] at hF1 hB1 ⊢
          rw [hh10] at hF1 ⊢
          have HS1 : Hid (RlV w w.heap.size X V1) := HS.out.on hB1
          have HF1 : Hid (Blk V1 39 h10 _) := hF1
          clear hF1 hB1 hV1 hh10 hmk hcv HS c0 hn
          obtain ⟨v1, hr1, hv1⟩ := HS1.out.rel
          refine (rbytes_any w.heap.size v1 X k HQ.out.ok V1 hr1).mono ?_
          rintro e w2 ⟨rfl, hb2⟩
          have HS2 : Hid (RlV w w.heap.size X w2) := HS1.out.on hb2
          have HF2 : Hid (Blk w2 39 h10 _) := HF1.out.on hb2
          clear hr1 hv1 hb2 HS1 HF1
          go_wp2_with fail
          obtain ⟨v2, hr2, hv2⟩ := HS2.out.rel
          refine (rlast_any w.heap.size v2 X k (by omega) HQ.out.ok w2 hr2).mono ?_
          rintro e w3 ⟨rfl, hb3⟩
          have HS3 : Hid (RlV w w.heap.size X w3) := HS2.out.on hb3
          have HF3 : Hid (Blk w3 39 h10 _) := HF2.out.on hb3
          clear hr2 hv2 hb3 HS2 HF2
          rcases qu_add HQ.out (by omega) n HN2.out with ⟨hqq, hd⟩ | ⟨hqq, X', hd, hq', hl'⟩
          · have HQ' : Hid (QuP q (k + 1) X) := HQ.out.same
            have CA' := ask_gen w w.heap.size X k HQ.out.ok HQ.out.ep (by omega) _ (appF_fit (g := 1) (E := 1 + (k : Int)) (b := zeroB n) ⟨by decide, by decide⟩ ⟨by omega, by omega⟩ (by rw [zeroB_sz]; have := HN2.out; omega)) rfl (X) (errF 211) hd w3 HS3.out
            simp only [frmA, appF, withG, takF, errF, List.length_nil] at CA'
            rw [HQ.out.g] at CA'
            clear hd
            have d0 : w3.cell? ⟨h10, 0, none⟩ = some (.int .i64 1) := HF3.out.cell 0
            have d1 : w3.cell? ⟨h10, 1, none⟩ = some (.int .i64 1) := HF3.out.cell 1
            have d2 : w3.cell? ⟨h10, 2, none⟩ = some (.int .i64 0) := HF3.out.cell 2
            have d3 : w3.cell? ⟨h10, 3, none⟩ = some (.int .i64 (1 + (k : Int))) := HF3.out.cell 3
            have d4 : w3.cell? ⟨h10, 4, none⟩ = some (.int .i64 0) := HF3.out.cell 4
            have d5 : w3.cell? ⟨h10, 5, none⟩ = some (.string (zeroB n)) := HF3.out.cell 5
            have d6 : w3.cell? ⟨h10, 6, none⟩ = some (.slice none 0 0) := HF3.out.cell 6
            have d7 : w3.cell? ⟨h10, 7, none⟩ = some (.int .i64 0) := HF3.out.cell 7
            have CA : Hid (Calls _ _ _ _ _) := CA'
            clear CA'
            go_wp2_with fail
            refine CA.out.mono ?_
            rintro e w4 ⟨a4, c4, rfl, _, _, hs4, ho4⟩
            clear d0 d1 d2 d3 d4 d5 d6 d7 CA HF3 HS3 ho4
            go_wp2_with fail
            have hb5 : Below w4.heap.size w4 (w4.alloc (.cells #[.int .i64 9, .int .i64 1, .int .i64 0, .int .i64 0, .int .i64 0, .string ⟨#[]⟩, .slice a4 0 c4, .int .i64 211] 39)) := below_new _ _
            have HS5 : Hid (RlV w w.heap.size X (w4.alloc (.cells #[.int .i64 9, .int .i64 1, .int .i64 0, .int .i64 0, .int .i64 0, .string ⟨#[]⟩, .slice a4 0 c4, .int .i64 211] 39))) := hs4.on hb5
            have HB5 : Hid (Blk (w4.alloc (.cells #[.int .i64 9, .int .i64 1, .int .i64 0, .int .i64 0, .int .i64 0, .string ⟨#[]⟩, .slice a4 0 c4, .int .i64 211] 39)) 39 w4.heap.size #[.int .i64 9, .int .i64 1, .int .i64 0, .int .i64 0, .int .i64 0, .string ⟨#[]⟩, .slice a4 0 c4, .int .i64 211]) := Blk.new _ _ _
            obtain ⟨v5, hr5, hv5⟩ := HS5.out.rel
            refine (rbytes_any w.heap.size v5 X (k + 1) HQ'.out.ok _ hr5).mono ?_
            rintro e w6 ⟨rfl, hb6⟩
            have HS6 : Hid (RlV w w.heap.size X w6) := HS5.out.on hb6
            have HB6 : Hid (Blk w6 39 w4.heap.size #[.int .i64 9, .int .i64 1, .int .i64 0, .int .i64 0, .int .i64 0, .string ⟨#[]⟩, .slice a4 0 c4, .int .i64 211]) := HB5.out.on hb6
            have hbq2 : ¬ ((q : Int) < ((bytesL (X) : Nat) : Int)) := by have h1 := HQ'.out.ok.bytes; have h2 := HQ'.out.q; omega
            obtain ⟨h13, hh13⟩ : ∃ h13, w4.heap.size = h13 := ⟨_, rfl⟩
            rw [hh13] at HB6 ⊢
            clear hr5 hv5 hb5 hb6 hs4 HS5 HB5 hh13
            go_wp2_with fail
            have eK : ∀ p : Beh w6, p.w'.cell? ⟨h13, 0, none⟩ = some (.int .i64 9) := fun p => p.cell (HB6.out.cell 0)
            obtain ⟨v6, hr6, hv6⟩ := HS6.out.rel
            have CL6 : Hid (∀ p : Beh w6, Calls Try.prog 15 #[.pointer (some ⟨w.heap.size, 0, none⟩)] p.w' fun e w' => e = .returned (.int .i64 (lastL X)) ∧ Below p.w'.heap.size p.w' w') := fun p => by
              have hh := rlast_any w.heap.size v6 (X) (k + 1) (by omega) HQ'.out.ok p.w' (hr6.on p.h)
              exact hh
            have CO6 : Hid (∀ p : Beh w6, Calls Try.prog 22 #[.bool false] p.w' fun e w' => e = .returned (.int .i64 0) ∧ Below p.w'.heap.size p.w' w') := fun p => one_any false p.w'
            obtain ⟨T, hT⟩ : ∃ T, bytesL X = T := ⟨_, rfl⟩
            rw [hT] at hqq hbq2 ⊢
            obtain ⟨La, hLa⟩ : ∃ La, lastL X = La := ⟨_, rfl⟩
            have hla1 := HQ.out.ok.last
            have hla2 := HQ.out.ok.b0
            have hla3 : 0 ≤ lastL X := by unfold lastL; omega
            rw [hLa] at CL6 hla1 hla3 ⊢
            have hn2 := HN2.out
            have hqx := HQ2.out
            have hqT : T ≤ q := by have h1 := HQ.out.ok.bytes; have h2 := HQ.out.q; rw [hT] at h1; omega
            have hwq : IntKind.i64.wrap ((q : Int) - (T : Int)) = (q : Int) - (T : Int) := by rw [IntKind.wrap_i64]; omega
            have hwl : IntKind.i64.wrap (La - La) = 0 := by rw [IntKind.wrap_i64]; omega
            have hleq : ¬ ((n : Int) ≤ (q : Int) - (T : Int)) := by omega
            clear hT hLa hr6 hv6 hla1 hla2 hla3 hn2 hqx hqT hqq
            have hne_ : Nonempty (Beh w6) := ⟨⟨_, Below.refl _ _⟩⟩
            refine wp_region_quiet_beh (by kernel_rfl) (by kernel_rfl) ?_
            repeat (quiet_step (first | (go_at_call 15; refine Calls.beh_of (CL6.out _)) | (go_at_call 22; refine Calls.beh_of (CO6.out _))))
            refine wpQuiet_nil ?_
            intro wq hw_
            obtain ⟨⟨wz_, hbq⟩, hw_⟩ := hw_
            subst hw_
            try dsimp only
            clear hne_
            have HSE : Hid (RlV w w.heap.size (X) wq) := HS6.out.on hbq
            clear hbq HS6 HB6 eK CL6 CO6
            go_wp2_with fail
            refine ⟨?_, ?_⟩
            · first
              | exact ⟨k + 1, by omega, by omega, by go_num, _, HQ'.out, HSE.out⟩
              | ((repeat apply Exists.intro); refine ⟨?_, rfl⟩; exact ⟨k + 1, by omega, by omega, by go_num, _, HQ'.out, HSE.out⟩)
            · simp [intOf] <;> omega
          · have HQ' : Hid (QuP q (k + 1) X') := hq'
            have HLX : Hid (lastL X' = lastL X + 1) := hl'
            clear hq' hl'
            have CA' := ask_gen w w.heap.size X k HQ.out.ok HQ.out.ep (by omega) _ (appF_fit (g := 1) (E := 1 + (k : Int)) (b := zeroB n) ⟨by decide, by decide⟩ ⟨by omega, by omega⟩ (by rw [zeroB_sz]; have := HN2.out; omega)) rfl (X') (takF (lastL X + 1)) hd w3 HS3.out
            simp only [frmA, appF, withG, takF, errF, List.length_nil] at CA'
            rw [HQ.out.g] at CA'
            clear hd
            have d0 : w3.cell? ⟨h10, 0, none⟩ = some (.int .i64 1) := HF3.out.cell 0
            have d1 : w3.cell? ⟨h10, 1, none⟩ = some (.int .i64 1) := HF3.out.cell 1
            have d2 : w3.cell? ⟨h10, 2, none⟩ = some (.int .i64 0) := HF3.out.cell 2
            have d3 : w3.cell? ⟨h10, 3, none⟩ = some (.int .i64 (1 + (k : Int))) := HF3.out.cell 3
            have d4 : w3.cell? ⟨h10, 4, none⟩ = some (.int .i64 0) := HF3.out.cell 4
            have d5 : w3.cell? ⟨h10, 5, none⟩ = some (.string (zeroB n)) := HF3.out.cell 5
            have d6 : w3.cell? ⟨h10, 6, none⟩ = some (.slice none 0 0) := HF3.out.cell 6
            have d7 : w3.cell? ⟨h10, 7, none⟩ = some (.int .i64 0) := HF3.out.cell 7
            have CA : Hid (Calls _ _ _ _ _) := CA'
            clear CA'
            go_wp2_with fail
            refine CA.out.mono ?_
            rintro e w4 ⟨a4, c4, rfl, _, _, hs4, ho4⟩
            clear d0 d1 d2 d3 d4 d5 d6 d7 CA HF3 HS3 ho4
            go_wp2_with fail
            have hb5 : Below w4.heap.size w4 (w4.alloc (.cells #[.int .i64 2, .int .i64 1, .int .i64 (lastL X + 1), .int .i64 0, .int .i64 0, .string ⟨#[]⟩, .slice a4 0 c4, .int .i64 0] 39)) := below_new _ _
            have HS5 : Hid (RlV w w.heap.size X' (w4.alloc (.cells #[.int .i64 2, .int .i64 1, .int .i64 (lastL X + 1), .int .i64 0, .int .i64 0, .string ⟨#[]⟩, .slice a4 0 c4, .int .i64 0] 39))) := hs4.on hb5
            have HB5 : Hid (Blk (w4.alloc (.cells #[.int .i64 2, .int .i64 1, .int .i64 (lastL X + 1), .int .i64 0, .int .i64 0, .string ⟨#[]⟩, .slice a4 0 c4, .int .i64 0] 39)) 39 w4.heap.size #[.int .i64 2, .int .i64 1, .int .i64 (lastL X + 1), .int .i64 0, .int .i64 0, .string ⟨#[]⟩, .slice a4 0 c4, .int .i64 0]) := Blk.new _ _ _
            obtain ⟨v5, hr5, hv5⟩ := HS5.out.rel
            refine (rbytes_any w.heap.size v5 X' (k + 1) HQ'.out.ok _ hr5).mono ?_
            rintro e w6 ⟨rfl, hb6⟩
            have HS6 : Hid (RlV w w.heap.size X' w6) := HS5.out.on hb6
            have HB6 : Hid (Blk w6 39 w4.heap.size #[.int .i64 2, .int .i64 1, .int .i64 (lastL X + 1), .int .i64 0, .int .i64 0, .string ⟨#[]⟩, .slice a4 0 c4, .int .i64 0]) := HB5.out.on hb6
            have hbq2 : ¬ ((q : Int) < ((bytesL (X') : Nat) : Int)) := by have h1 := HQ'.out.ok.bytes; have h2 := HQ'.out.q; omega
            obtain ⟨T2, hT2⟩ : ∃ T2, ((bytesL (X') : Nat) : Int) = T2 := ⟨_, rfl⟩
            rw [hT2] at hbq2 ⊢
            obtain ⟨h13, hh13⟩ : ∃ h13, w4.heap.size = h13 := ⟨_, rfl⟩
            rw [hh13] at HB6 ⊢
            clear hr5 hv5 hT2 hb5 hb6 hs4 HS5 HB5 hh13
            go_wp2_with fail
            have eK : ∀ p : Beh w6, p.w'.cell? ⟨h13, 0, none⟩ = some (.int .i64 2) := fun p => p.cell (HB6.out.cell 0)
            obtain ⟨v6, hr6, hv6⟩ := HS6.out.rel
            have CL6 : Hid (∀ p : Beh w6, Calls Try.prog 15 #[.pointer (some ⟨w.heap.size, 0, none⟩)] p.w' fun e w' => e = .returned (.int .i64 (lastL X + 1)) ∧ Below p.w'.heap.size p.w' w') := fun p => by
              have hh := rlast_any w.heap.size v6 (X') (k + 1) (by omega) HQ'.out.ok p.w' (hr6.on p.h)
              rw [HLX.out] at hh
              exact hh
            have CO6 : Hid (∀ p : Beh w6, Calls Try.prog 22 #[.bool true] p.w' fun e w' => e = .returned (.int .i64 1) ∧ Below p.w'.heap.size p.w' w') := fun p => one_any true p.w'
            obtain ⟨T, hT⟩ : ∃ T, bytesL X = T := ⟨_, rfl⟩
            rw [hT] at hqq ⊢
            obtain ⟨La, hLa⟩ : ∃ La, lastL X = La := ⟨_, rfl⟩
            have hla1 := HQ.out.ok.last
            have hla2 := HQ.out.ok.b0
            have hla3 : 0 ≤ lastL X := by unfold lastL; omega
            rw [hLa] at CL6 hla1 hla3 ⊢
            have hn2 := HN2.out
            have hqx := HQ2.out
            have hqT : T ≤ q := by have h1 := HQ.out.ok.bytes; have h2 := HQ.out.q; rw [hT] at h1; omega
            have hwq : IntKind.i64.wrap ((q : Int) - (T : Int)) = (q : Int) - (T : Int) := by rw [IntKind.wrap_i64]; omega
            have hwl : IntKind.i64.wrap (La + 1 - La) = 1 := by rw [IntKind.wrap_i64]; omega
            have hleq : (n : Int) ≤ (q : Int) - (T : Int) := by omega
            clear hT hLa hr6 hv6 hla1 hla2 hla3 hn2 hqx hqT hqq
            have hne_ : Nonempty (Beh w6) := ⟨⟨_, Below.refl _ _⟩⟩
            refine wp_region_quiet_beh (by kernel_rfl) (by kernel_rfl) ?_
            repeat (quiet_step (first | (go_at_call 15; refine Calls.beh_of (CL6.out _)) | (go_at_call 22; refine Calls.beh_of (CO6.out _))))
            refine wpQuiet_nil ?_
            intro wq hw_
            obtain ⟨⟨wz_, hbq⟩, hw_⟩ := hw_
            subst hw_
            try dsimp only
            clear hne_
            have HSE : Hid (RlV w w.heap.size (X') wq) := HS6.out.on hbq
            clear hbq HS6 HB6 eK CL6 CO6
            go_wp2_with fail
            refine ⟨?_, ?_⟩
            · first
              | exact ⟨k + 1, by omega, by omega, by go_num, _, HQ'.out, HSE.out⟩
              | ((repeat apply Exists.intro); refine ⟨?_, rfl⟩; exact ⟨k + 1, by omega, by omega, by go_num, _, HQ'.out, HSE.out⟩)
            · simp [intOf] <;> omega
      · have b1 : ¬ ((k : Int) < 60) := by omega
        have b0 : (k : Int) < (len : Int) := by omega
        clear hlt hlt2
        go_wp2_with fail
        refine (awake21_any wr).mono ?_
        rintro e w2 ⟨rfl, hb2⟩
        have HF : Hid (Below w.heap.size w w2) := below_step HS.out.bel (Nat.le_refl _) hb2
        clear hb2
        go_wp2_with fail
        go_ret
        exact ⟨rfl, HF.out⟩
    · have b0 : ¬ ((k : Int) < (len : Int)) := by omega
      clear hlt
      go_wp2_with fail
      refine (awake21_any wr).mono ?_
      rintro e w2 ⟨rfl, hb2⟩
      have HF : Hid (Below w.heap.size w w2) := below_step HS.out.bel (Nat.le_refl _) hb2
      clear hb2
      go_wp2_with fail
      go_ret
      exact ⟨rfl, HF.out⟩
end Go.Proofs.Ytmlpbbancoedgaa
