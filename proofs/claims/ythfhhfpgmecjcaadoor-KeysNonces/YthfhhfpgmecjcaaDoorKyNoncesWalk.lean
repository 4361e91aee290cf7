/- The walk of KeysNonces. -/
import Derived.Test.YthfhhfpgmecjcaaDoorKyE
import Derived.Test.YthfhhfpgmecjcaaDoorRKyA
import Derived.Test.YthfhhfpgmecjcaaDoorR9
import Derived.Test.YthfhhfpgmecjcaaDoorOpen2
namespace Go.Proofs.YthfhhfpgmecjcaaDoor
open Go.RowKit
set_option maxRecDepth 100000
set_option linter.unusedSimpArgs false

theorem bigB_inj (n m : Int) (many : Nat) (h0 : 0 ≤ n) (h1 : 0 ≤ m) (hn : n < 256 ^ many) (hm : m < 256 ^ many) (h : bigB n many = bigB m many) : n = m := by
  obtain ⟨N, rfl⟩ : ∃ N : Nat, n = (N : Int) := ⟨n.toNat, by omega⟩
  obtain ⟨M, rfl⟩ : ∃ M : Nat, m = (M : Int) := ⟨m.toNat, by omega⟩
  have e1 := accB_big N many (by exact_mod_cast hn)
  have e2 := accB_big M many (by exact_mod_cast hm)
  rw [h, e2] at e1
  rw [e1]

theorem nonceB_inj (a b c d : Int) (ha : 0 ≤ a ∧ a ≤ 6) (hb : 0 ≤ b ∧ b ≤ 1099511627775) (hc : 0 ≤ c ∧ c ≤ 6) (hd : 0 ≤ d ∧ d ≤ 1099511627775) (h : nonceB a b = nonceB c d) : a = c ∧ b = d := by
  unfold nonceB at h
  have e1 : (bigB a 1 ++ nought5 ++ bigB b 6).extract 0 1 = (bigB c 1 ++ nought5 ++ bigB d 6).extract 0 1 := by rw [h]
  have e2 : (bigB a 1 ++ nought5 ++ bigB b 6).extract 6 12 = (bigB c 1 ++ nought5 ++ bigB d 6).extract 6 12 := by rw [h]
  have s6 : ∀ x : Int, (bigB x 1 ++ nought5).size = 6 := fun x => by rw [ByteArray.size_append, bigB_size]; rfl
  rw [extract_back _ _ 6 12 (s6 a) (by rw [bigB_size]), extract_back _ _ 6 12 (s6 c) (by rw [bigB_size])] at e2
  rw [ByteArray.append_assoc, ByteArray.append_assoc, extract_front _ _ 1 (bigB_size _ _), extract_front _ _ 1 (bigB_size _ _)] at e1
  exact ⟨bigB_inj a c 1 ha.1 hc.1 (by omega) (by omega) e1, bigB_inj b d 6 hb.1 hd.1 (by omega) (by omega) e2⟩

theorem eq2 (a b c d : Int) (w : World) (q : Bool) (hq : q = decide (a = c ∧ b = d)) : (Op.equalIn 10000 22 (.agg #[.int .i64 a, .int .i64 b]) (.agg #[.int .i64 c, .int .i64 d])).run Tryd.prog w = .ok q w := by
  have u3 := Tryd.underlying3
  have a3 := Tryd.isAgg3
  have z3 := Tryd.sizeOf3
  rw [show (10000 : Nat) = 9999 + 1 from rfl, Op.equalIn]
  simp only [Sem.run_bind, run_underlying Tryd.underlying22, Result.andThen_ok]
  simp only [Std.Legacy.Range.forIn_eq_forIn_range', Std.Legacy.Range.size, Nat.sub_zero, Nat.add_sub_cancel, Nat.div_one, List.range'_succ, List.range'_zero, List.forIn_cons, List.forIn_nil]
  by_cases h1 : a = c
  · by_cases h2 : b = d
    · obtain rfl : q = true := by rw [hq]; simp [h1, h2]
      have g1 : (a == c) = true := by simp [h1]
      have g2 : (b == d) = true := by simp [h2]
      clear hq
      go_simp
    · obtain rfl : q = false := by rw [hq]; simp [h2]
      have g1 : (a == c) = true := by simp [h1]
      have g2 : (b == d) = false := by simp [h2]
      clear hq
      go_simp
  · obtain rfl : q = false := by rw [hq]; simp [h1]
    have g1 : (a == c) = false := by simp [h1]
    clear hq
    go_simp

theorem nonceP_cases (a b : Int) : ((0 ≤ a ∧ a ≤ 6) ∧ (0 ≤ b ∧ b ≤ 1099511627775) ∧ nonceP a b = (nonceB a b, 0)) ∨ ∃ e : Int, e ≠ 0 ∧ nonceP a b = (⟨#[]⟩, e) := by
  by_cases h : 0 ≤ a ∧ a ≤ 6 ∧ 0 ≤ b
  · by_cases hc : b ≤ 1099511627775
    · exact .inl ⟨⟨h.1, h.2.1⟩, ⟨h.2.2, hc⟩, nonceP_yes _ _ h hc⟩
    · exact .inr ⟨150, by decide, nonceP_spent _ _ h hc⟩
  · exact .inr ⟨1, by decide, nonceP_not _ _ h⟩

theorem on_world3 {f : Nat} {args : Array Value} {v : Value} (h : ∀ w, Calls Tryd.prog f args w fun e w' => e = .returned v ∧ Below w.heap.size w w') (w : World) :
    ∀ w', Below w.heap.size w w' → Calls Tryd.prog f args w' fun e w'' => e = .returned v ∧ Below w.heap.size w w'' := fun w' hb => by
  refine (h w').mono ?_
  rintro e w'' ⟨rfl, hb2⟩
  exact ⟨rfl, below_step hb (Nat.le_refl _) hb2⟩

theorem bytes_beq15 (a b : ByteArray) : (a.toList == b.toList) = decide (a = b) := by
  by_cases h : a = b
  · subst h; simp
  · have : ¬ a.toList = b.toList := fun e => h (bytes_ext (by rw [toList_data, toList_data] at e; exact e))
    simp [h, this]


set_option maxHeartbeats 4000000 in
set_option maxRecDepth 100000 in
theorem keysNonces_walk (a b c d : Int) (w : World) (hT : Tabs w) :
    Calls Tryd.prog 3 #[.agg #[.int .i64 a, .int .i64 b], .agg #[.int .i64 c, .int .i64 d]] w fun e w' => e = .returned (.bool true) ∧ Below w.heap.size w w' := by
  obtain ⟨w0, hq⟩ : ∃ w0, (w.alloc (.cells #[.int .i64 a, .int .i64 b] 22)).alloc (.cells #[.int .i64 c, .int .i64 d] 22) = w0 := ⟨_, rfl⟩
  have hb0 : Below w.heap.size w w0 := by rw [← hq]; exact (below_new w _).alloc (by simp) _
  have c0 : ∀ w', Below w0.heap.size w0 w' → w'.cell? ⟨w.heap.size, 0, none⟩ = some (.int .i64 a) := fun w' hb => by rw [hb.cell (p := ⟨w.heap.size, 0, none⟩) (by rw [← hq]; simp; omega), ← hq]; simp
  have c1 : ∀ w', Below w0.heap.size w0 w' → w'.cell? ⟨w.heap.size, 1, none⟩ = some (.int .i64 b) := fun w' hb => by rw [hb.cell (p := ⟨w.heap.size, 1, none⟩) (by rw [← hq]; simp; omega), ← hq]; simp
  have d0 : ∀ w', Below w0.heap.size w0 w' → w'.cell? ⟨w.heap.size + 1, 0, none⟩ = some (.int .i64 c) := fun w' hb => by rw [hb.cell (p := ⟨w.heap.size + 1, 0, none⟩) (by rw [← hq]; simp), ← hq]; simp
  have d1 : ∀ w', Below w0.heap.size w0 w' → w'.cell? ⟨w.heap.size + 1, 1, none⟩ = some (.int .i64 d) := fun w' hb => by rw [hb.cell (p := ⟨w.heap.size + 1, 1, none⟩) (by rw [← hq]; simp), ← hq]; simp
  have hT0 : Tabs w0 := hT.below hb0
  have CW : Hid (∀ w', Below w0.heap.size w0 w' → _) := fun w' hb => awake15_on w0 w' hT0 hb
  have HQ : Hid (Below w.heap.size w w0) := hb0
  have hr0 : Below w0.heap.size w0 w0 := Below.refl _ _
  have C1' := on_world3 (knonce_any a b) w0
  have C2' := on_world3 (rnonce_any a b) w0
  have C3' := on_world3 (knonce_any c d) w0
  obtain ⟨q, hq2⟩ : ∃ q, q = decide (a = c ∧ b = d) := ⟨_, rfl⟩
  have e2 : ∀ w, (Op.equalIn 10000 22 (.agg #[.int .i64 a, .int .i64 b]) (.agg #[.int .i64 c, .int .i64 d])).run Tryd.prog w = .ok q w := fun w => eq2 a b c d w q hq2
  rcases nonceP_cases a b with ⟨ha, hb, hN⟩ | ⟨ea, hea, hN⟩
  · rcases nonceP_cases c d with ⟨hc, hd, hM⟩ | ⟨ec, hec, hM⟩
    · rw [hN] at C1' C2'
      rw [hM] at C3'
      obtain ⟨N, eN⟩ : ∃ N, N = nonceB a b := ⟨_, rfl⟩
      obtain ⟨M, eM⟩ : ∃ M, M = nonceB c d := ⟨_, rfl⟩
      have hNs : N.size = 12 := by rw [eN]; exact nonceB_size _ _
      have hNM : (N.toList == M.toList) = q := by
        rw [bytes_beq15, hq2]
        by_cases h : a = c ∧ b = d
        · have : N = M := by rw [eN, eM, h.1, h.2]
          simp [h, this]
        · have : ¬ N = M := fun e => h (nonceB_inj a b c d ha hb hc hd (by rw [← eN, ← eM, e]))
          simp [h, this]
      rw [← eN] at C1' C2'
      rw [← eM] at C3'
      have C1 : Hid (∀ w', Below w0.heap.size w0 w' → Calls Tryd.prog 4 #[.int .i64 a, .int .i64 b] w' fun e w'' => e = .returned (.tuple #[.string N, .int .i64 0]) ∧ Below w0.heap.size w0 w'') := C1'
      have C2 : Hid (∀ w', Below w0.heap.size w0 w' → Calls Tryd.prog 5 #[.int .i64 a, .int .i64 b] w' fun e w'' => e = .returned (.tuple #[.string N, .int .i64 0]) ∧ Below w0.heap.size w0 w'') := C2'
      have C3 : Hid (∀ w', Below w0.heap.size w0 w' → Calls Tryd.prog 4 #[.int .i64 c, .int .i64 d] w' fun e w'' => e = .returned (.tuple #[.string M, .int .i64 0]) ∧ Below w0.heap.size w0 w'') := C3'
      clear C1' C2' C3' hN hM eN eM ha hb hc hd hT hT0 hb0 hq2
      cases q with
      | false =>
        go_enter Tryd.func3, Tryd.ntmps3
        go_wp2_with fail
        (try rw [hq])
        refine (C1.out w0 hr0).mono ?_
        rintro e w1 ⟨rfl, hb1⟩
        go_wp2_with fail
        refine (C2.out w1 hb1).mono ?_
        rintro e w2 ⟨rfl, hb2⟩
        clear hb1
        go_wp2_with fail
        refine (C3.out w2 hb2).mono ?_
        rintro e w3 ⟨rfl, hb3⟩
        clear hb2
        go_wp2_with fail
        refine (CW.out w3 hb3).mono ?_
        rintro e w6 ⟨rfl, hb6⟩
        go_wp2_with fail
        go_ret
        exact ⟨rfl, below_step HQ.out (Nat.le_refl _) hb6⟩
      | true =>
        go_enter Tryd.func3, Tryd.ntmps3
        go_wp2_with fail
        (try rw [hq])
        refine (C1.out w0 hr0).mono ?_
        rintro e w1 ⟨rfl, hb1⟩
        go_wp2_with fail
        refine (C2.out w1 hb1).mono ?_
        rintro e w2 ⟨rfl, hb2⟩
        clear hb1
        go_wp2_with fail
        refine (C3.out w2 hb2).mono ?_
        rintro e w3 ⟨rfl, hb3⟩
        clear hb2
        go_wp2_with fail
        refine (CW.out w3 hb3).mono ?_
        rintro e w6 ⟨rfl, hb6⟩
        go_wp2_with fail
        go_ret
        exact ⟨rfl, below_step HQ.out (Nat.le_refl _) hb6⟩
    · rw [hN] at C1' C2'
      rw [hM] at C3'
      obtain ⟨N, eN⟩ : ∃ N, N = nonceB a b := ⟨_, rfl⟩
      rw [← eN] at C1' C2'
      have C1 : Hid (∀ w', Below w0.heap.size w0 w' → Calls Tryd.prog 4 #[.int .i64 a, .int .i64 b] w' fun e w'' => e = .returned (.tuple #[.string N, .int .i64 0]) ∧ Below w0.heap.size w0 w'') := C1'
      have C2 : Hid (∀ w', Below w0.heap.size w0 w' → Calls Tryd.prog 5 #[.int .i64 a, .int .i64 b] w' fun e w'' => e = .returned (.tuple #[.string N, .int .i64 0]) ∧ Below w0.heap.size w0 w'') := C2'
      have C3 : Hid (∀ w', Below w0.heap.size w0 w' → Calls Tryd.prog 4 #[.int .i64 c, .int .i64 d] w' fun e w'' => e = .returned (.tuple #[.string ⟨#[]⟩, .int .i64 ec]) ∧ Below w0.heap.size w0 w'') := C3'
      have g1 : (ec == 0) = false := by simp [hec]
      clear C1' C2' C3' hN hM eN ha hb hT hT0 hb0 hq2
      go_enter Tryd.func3, Tryd.ntmps3
      go_wp2_with fail
      (try rw [hq])
      refine (C1.out w0 hr0).mono ?_
      rintro e w1 ⟨rfl, hb1⟩
      go_wp2_with fail
      refine (C2.out w1 hb1).mono ?_
      rintro e w2 ⟨rfl, hb2⟩
      clear hb1
      go_wp2_with fail
      refine (C3.out w2 hb2).mono ?_
      rintro e w3 ⟨rfl, hb3⟩
      clear hb2
      go_wp2_with fail
      refine (CW.out w3 hb3).mono ?_
      rintro e w6 ⟨rfl, hb6⟩
      go_wp2_with fail
      go_ret
      exact ⟨rfl, below_step HQ.out (Nat.le_refl _) hb6⟩
  · rw [hN] at C1' C2'
    obtain ⟨M, ec, hM⟩ : ∃ M ec, nonceP c d = (M, ec) := ⟨_, _, rfl⟩
    rw [hM] at C3'
    have C1 : Hid (∀ w', Below w0.heap.size w0 w' → Calls Tryd.prog 4 #[.int .i64 a, .int .i64 b] w' fun e w'' => e = .returned (.tuple #[.string ⟨#[]⟩, .int .i64 ea]) ∧ Below w0.heap.size w0 w'') := C1'
    have C2 : Hid (∀ w', Below w0.heap.size w0 w' → Calls Tryd.prog 5 #[.int .i64 a, .int .i64 b] w' fun e w'' => e = .returned (.tuple #[.string ⟨#[]⟩, .int .i64 ea]) ∧ Below w0.heap.size w0 w'') := C2'
    have C3 : Hid (∀ w', Below w0.heap.size w0 w' → Calls Tryd.prog 4 #[.int .i64 c, .int .i64 d] w' fun e w'' => e = .returned (.tuple #[.string M, .int .i64 ec]) ∧ Below w0.heap.size w0 w'') := C3'
    have g1 : (ea == 0) = false := by simp [hea]
    clear C1' C2' C3' hN hM hT hT0 hb0 hq2
    go_enter Tryd.func3, Tryd.ntmps3
    go_wp2_with fail
    (try rw [hq])
    refine (C1.out w0 hr0).mono ?_
    rintro e w1 ⟨rfl, hb1⟩
    go_wp2_with fail
    refine (C2.out w1 hb1).mono ?_
    rintro e w2 ⟨rfl, hb2⟩
    clear hb1
    go_wp2_with fail
    refine (C3.out w2 hb2).mono ?_
    rintro e w3 ⟨rfl, hb3⟩
    clear hb2
    go_wp2_with fail
    refine (CW.out w3 hb3).mono ?_
    rintro e w6 ⟨rfl, hb6⟩
    go_wp2_with fail
    go_ret
    exact ⟨rfl, below_step HQ.out (Nat.le_refl _) hb6⟩
end Go.Proofs.YthfhhfpgmecjcaaDoor
