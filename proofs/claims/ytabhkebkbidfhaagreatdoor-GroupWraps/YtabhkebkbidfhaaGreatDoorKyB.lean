import Derived.Test.YtabhkebkbidfhaaGreatDoorC9
import Derived.Test.YtabhkebkbidfhaaGreatDoorShelfJ
namespace Go.Proofs.YtabhkebkbidfhaaGreatDoor
open Go.RowKit
set_option maxRecDepth 100000
set_option linter.unusedSimpArgs false
theorem join_none (l : List (List UInt8)) : Lib.join l [] = l.flatten := by
  cases l with
  | nil => rfl
  | cons x r =>
    rw [Lib.join_cons, List.flatten_cons]
    congr 1
    unfold Lib.joinTail
    simp
set_option maxHeartbeats 1000000 in
set_option maxRecDepth 100000 in
theorem together_any (bk c : Nat) (xs : List ByteArray) (T : ByteArray) (w : World) (hcells : ∀ (j : Nat) x, xs[j]? = some x → w.cell? ⟨bk, 0 + j, none⟩ = some (.string x)) (hbk : bk < w.heap.size) (hn : xs.length ≤ 3) (hc : xs.length ≤ c)
    (hT : (xs.map (·.data.toList)).flatten = T.data.toList) (hs : T.size ≤ 1048576) :
    Calls Tryz.prog 50 #[.slice (some ⟨bk, 0, none⟩) xs.length c] w fun e w' => e = .returned (.string T) ∧ Below w.heap.size w w' := by
  have e0 : Lib.join (xs.map (·.data.toList)) (ByteArray.mk #[]).data.toList = T.data.toList := by rw [← hT]; exact join_none _
  have hl : T.data.toList.length ≤ 140737488355328 := by
    have e1 : T.data.toList.length = T.size := Array.length_toList
    omega
  have C' := Tryz.strings_Join bk 0 c xs ⟨#[]⟩ w hcells hbk (by omega) hc (by rw [e0]; exact hl)
  rw [e0] at C'
  have C : Hid (Calls _ _ _ _ _) := C'
  clear C' e0 hT hcells hl
  generalize xs.length = n at *
  go_enter Tryz.func50, Tryz.ntmps50
  go_wp2_with fail
  refine C.out.mono ?_
  rintro e w1 ⟨rfl, hb1⟩
  go_wp2
  go_ret
  exact ⟨rfl, hb1⟩
theorem tog1 (x : ByteArray) (w : World) (hx : x.size ≤ 1000) :
    Calls Tryz.prog 50 #[.slice (some ⟨w.heap.size, 0, none⟩) 1 1] (w.alloc (.cells #[.string x] 9)) fun e w' => e = .returned (.string x) ∧ Below w.heap.size w w' := by
  refine (together_any w.heap.size 1 [x] x _ ?_ (by simp) (by simp) (by simp) (by simp) (by omega)).mono ?_
  · intro j y hy
    match j, hy with
    | 0, h => cases h; simp
  · rintro e w1 ⟨rfl, hb⟩
    exact ⟨rfl, below_step (below_new w _) (Nat.le_refl _) hb⟩
theorem tog3 (x y z : ByteArray) (w : World) (hx : x.size ≤ 1000) (hy : y.size ≤ 1000) (hz : z.size ≤ 1000) :
    Calls Tryz.prog 50 #[.slice (some ⟨w.heap.size, 0, none⟩) 3 3] (w.alloc (.cells #[.string x, .string y, .string z] 9)) fun e w' => e = .returned (.string (x ++ y ++ z)) ∧ Below w.heap.size w w' := by
  refine (together_any w.heap.size 3 [x, y, z] (x ++ y ++ z) _ ?_ (by simp) (by simp) (by simp) (by simp) (by rw [ByteArray.size_append, ByteArray.size_append]; omega)).mono ?_
  · intro j u hu
    match j, hu with
    | 0, h => cases h; simp
    | 1, h => cases h; simp
    | 2, h => cases h; simp
  · rintro e w1 ⟨rfl, hb⟩
    exact ⟨rfl, below_step (below_new w _) (Nat.le_refl _) hb⟩
theorem numP_new (n : Int) (many : Nat) (most : Int) (h0 : 0 ≤ n) (h1 : n ≤ most) (hm : many ≤ 6) : numP (ByteArray.empty, false) n many most = (bigB n many, false) := by
  unfold numP layP oneOk
  have hs : (ByteArray.empty : ByteArray).size = 0 := rfl
  rw [if_pos ⟨by simp [h0, h1], rfl, by rw [bigB_size, hs]; omega⟩]
  have e : ByteArray.empty ++ bigB n many = bigB n many := by apply bytes_ext; rw [ByteArray.data_append, Array.toList_append]; rfl
  rw [e]
set_option maxHeartbeats 1000000 in
set_option maxRecDepth 100000 in
theorem koneByte_any (n : Int) (w : World) (h0 : 0 ≤ n) (h1 : n ≤ 255) :
    Calls Tryz.prog 74 #[.int .i64 n] w fun e w' => e = .returned (.string (bigB n 1)) ∧ Below w.heap.size w w' := by
  have hq := numP_new n 1 255 h0 h1 (by decide)
  have CB : Hid (∀ w1, OutAt w1 w.heap.size (.slice none 0 0) (ByteArray.empty, false) → _) := fun w1 h => obyte_any w.heap.size (.slice none 0 0) (ByteArray.empty, false) n w1 h
  obtain ⟨M, hM⟩ : ∃ M, M = bigB n 1 := ⟨_, rfl⟩
  rw [← hM] at hq ⊢
  clear hM
  go_enter Tryz.func74, Tryz.ntmps74
  go_wp2_with fail
  refine (newOut_any w).mono ?_
  rintro e w1 ⟨rfl, h1, hb1⟩
  have H1 : Hid (OutAt w1 w.heap.size (.slice none 0 0) (ByteArray.empty, false)) := OutAt.ok.2 h1
  have HB1 : Hid (Below w.heap.size w w1) := hb1
  clear h1 hb1
  go_wp2_with fail
  refine (CB.out w1 H1.out).mono ?_
  rintro e w2 ⟨rfl, h2⟩
  have H2 : Hid _ := h2
  clear h2
  rw [hq] at H2
  obtain ⟨v', h3, k3, _⟩ := H2.out
  have hb3 : Below w.heap.size w w2 := HB1.out.trans (k3.below w.heap.size HB1.out.size (Nat.le_refl _) (fun k hk => by simp [Value.ownBlock] at hk))
  have HB3 : Hid (Below w.heap.size w w2) := hb3
  have C3 : Hid (Calls _ _ _ _ _) := odone_any _ v' _ w2 h3
  clear h3 k3 hb3 H2 CB
  go_wp2_with fail
  refine C3.out.mono ?_
  rintro e w3 ⟨rfl, rfl⟩
  have ed : doneP (M, false) = .tuple #[.string M, .int .i64 0] := rfl
  rw [ed]
  go_wp2
  go_ret
  exact ⟨rfl, HB3.out⟩
set_option maxHeartbeats 1000000 in
set_option maxRecDepth 100000 in
theorem knumber_any (n : Int) (w : World) (h0 : 0 ≤ n) (h1 : n ≤ 1099511627775) :
    Calls Tryz.prog 75 #[.int .i64 n] w fun e w' => e = .returned (.string (bigB n 6)) ∧ Below w.heap.size w w' := by
  have hq := numP_new n 6 1099511627775 h0 h1 (by decide)
  have CB : Hid (∀ w1, OutAt w1 w.heap.size (.slice none 0 0) (ByteArray.empty, false) → _) := fun w1 h => onum_any w.heap.size (.slice none 0 0) (ByteArray.empty, false) n w1 h
  obtain ⟨M, hM⟩ : ∃ M, M = bigB n 6 := ⟨_, rfl⟩
  rw [← hM] at hq ⊢
  clear hM
  go_enter Tryz.func75, Tryz.ntmps75
  go_wp2_with fail
  refine (newOut_any w).mono ?_
  rintro e w1 ⟨rfl, h1, hb1⟩
  have H1 : Hid (OutAt w1 w.heap.size (.slice none 0 0) (ByteArray.empty, false)) := OutAt.ok.2 h1
  have HB1 : Hid (Below w.heap.size w w1) := hb1
  clear h1 hb1
  go_wp2_with fail
  refine (CB.out w1 H1.out).mono ?_
  rintro e w2 ⟨rfl, h2⟩
  have H2 : Hid _ := h2
  clear h2
  rw [hq] at H2
  obtain ⟨v', h3, k3, _⟩ := H2.out
  have hb3 : Below w.heap.size w w2 := HB1.out.trans (k3.below w.heap.size HB1.out.size (Nat.le_refl _) (fun k hk => by simp [Value.ownBlock] at hk))
  have HB3 : Hid (Below w.heap.size w w2) := hb3
  have C3 : Hid (Calls _ _ _ _ _) := odone_any _ v' _ w2 h3
  clear h3 k3 hb3 H2 CB
  go_wp2_with fail
  refine C3.out.mono ?_
  rintro e w3 ⟨rfl, rfl⟩
  have ed : doneP (M, false) = .tuple #[.string M, .int .i64 0] := rfl
  rw [ed]
  go_wp2
  go_ret
  exact ⟨rfl, HB3.out⟩
set_option maxHeartbeats 1000000 in
theorem isKey_any (s : ByteArray) (w : World) (b : Bool) (h : b = decide (s.size = 32)) :
    Calls Tryz.prog 23 #[.string s] w fun e w' => e = .returned (.bool b) ∧ w' = w := by
  go_enter Tryz.func23, Tryz.ntmps23
  by_cases hk : s.size = 32
  · have hb : b = true := by rw [h]; simp [hk]
    subst hb
    clear h
    go_wp2
    go_ret
    exact ⟨rfl, rfl⟩
  · have hb : b = false := by rw [h]; simp [hk]
    subst hb
    clear h
    have g : ((s.size : Int) == 32) = false := by simp; omega
    go_wp2
    go_ret
    exact ⟨rfl, rfl⟩
set_option maxHeartbeats 1000000 in
theorem isMember_any (n : Int) (w : World) (b : Bool) (h : b = decide (1 ≤ n ∧ n ≤ 6)) :
    Calls Tryz.prog 47 #[.int .i64 n] w fun e w' => e = .returned (.bool b) ∧ w' = w := by
  by_cases h1 : 1 ≤ n
  · by_cases h6 : n ≤ 6
    · have hb : b = true := by rw [h]; simp [h1, h6]
      subst hb
      clear h
      go_enter Tryz.func47, Tryz.ntmps47
      go_wp2
      go_ret
      exact ⟨rfl, rfl⟩
    · have hb : b = false := by rw [h]; simp [h6]
      subst hb
      clear h
      go_enter Tryz.func47, Tryz.ntmps47
      go_wp2
      go_ret
      exact ⟨rfl, rfl⟩
  · have hb : b = false := by rw [h]; simp [h1]
    subst hb
    clear h
    go_enter Tryz.func47, Tryz.ntmps47
    go_wp2
    go_ret
    exact ⟨rfl, rfl⟩
set_option maxHeartbeats 1000000 in
theorem isEpoch_any (n : Int) (w : World) (b : Bool) (h : b = decide (1 ≤ n ∧ n ≤ 1099511627775)) :
    Calls Tryz.prog 48 #[.int .i64 n] w fun e w' => e = .returned (.bool b) ∧ w' = w := by
  by_cases h1 : 1 ≤ n
  · by_cases h6 : n ≤ 1099511627775
    · have hb : b = true := by rw [h]; simp [h1, h6]
      subst hb
      clear h
      go_enter Tryz.func48, Tryz.ntmps48
      go_wp2
      go_ret
      exact ⟨rfl, rfl⟩
    · have hb : b = false := by rw [h]; simp [h6]
      subst hb
      clear h
      go_enter Tryz.func48, Tryz.ntmps48
      go_wp2
      go_ret
      exact ⟨rfl, rfl⟩
  · have hb : b = false := by rw [h]; simp [h1]
    subst hb
    clear h
    go_enter Tryz.func48, Tryz.ntmps48
    go_wp2
    go_ret
    exact ⟨rfl, rfl⟩
set_option maxHeartbeats 1000000 in
theorem mayWrap_any (own : ByteArray) (who epoch : Int) (w : World) (b : Bool) (h : b = decide (own.size = 32 ∧ (1 ≤ who ∧ who ≤ 6) ∧ 1 ≤ epoch ∧ epoch ≤ 1099511627775)) :
    Calls Tryz.prog 20 #[.string own, .int .i64 who, .int .i64 epoch] w fun e w' => e = .returned (.bool b) ∧ w' = w := by
  obtain ⟨b1, h1⟩ : ∃ b1, b1 = decide (own.size = 32) := ⟨_, rfl⟩
  obtain ⟨b2, h2⟩ : ∃ b2, b2 = decide (1 ≤ who ∧ who ≤ 6) := ⟨_, rfl⟩
  obtain ⟨b3, h3⟩ : ∃ b3, b3 = decide (1 ≤ epoch ∧ epoch ≤ 1099511627775) := ⟨_, rfl⟩
  have hb : b = (b1 && (b2 && b3)) := by rw [h, h1, h2, h3]; simp [Bool.decide_and]
  have C1 : Hid (∀ w, _) := fun w => isKey_any own w b1 h1
  have C2 : Hid (∀ w, _) := fun w => isMember_any who w b2 h2
  have C3 : Hid (∀ w, _) := fun w => isEpoch_any epoch w b3 h3
  subst hb
  clear h h1 h2 h3
  cases b1 with
  | false =>
    go_enter Tryz.func20, Tryz.ntmps20
    go_wp2_with fail
    refine (C1.out w).mono ?_
    rintro e w1 ⟨rfl, rfl⟩
    go_wp2_with fail
    go_ret
    exact ⟨rfl, rfl⟩
  | true =>
    cases b2 with
    | false =>
      go_enter Tryz.func20, Tryz.ntmps20
      go_wp2_with fail
      refine (C1.out w).mono ?_
      rintro e w1 ⟨rfl, rfl⟩
      go_wp2_with fail
      refine (C2.out w1).mono ?_
      rintro e w2 ⟨rfl, rfl⟩
      go_wp2_with fail
      go_ret
      exact ⟨rfl, rfl⟩
    | true =>
      go_enter Tryz.func20, Tryz.ntmps20
      go_wp2_with fail
      refine (C1.out w).mono ?_
      rintro e w1 ⟨rfl, rfl⟩
      go_wp2_with fail
      refine (C2.out w1).mono ?_
      rintro e w2 ⟨rfl, rfl⟩
      go_wp2_with fail
      refine (C3.out w2).mono ?_
      rintro e w3 ⟨rfl, rfl⟩
      go_wp2_with fail
      go_ret
      exact ⟨rfl, rfl⟩
end Go.Proofs.YtabhkebkbidfhaaGreatDoor

namespace Go.Proofs.YtabhkebkbidfhaaGreatDoor
open Go.RowKit
set_option maxRecDepth 100000
set_option linter.unusedSimpArgs false
def nought5 : ByteArray := ⟨#[0, 0, 0, 0, 0]⟩
def nonceB (who count : Int) : ByteArray := bigB who 1 ++ nought5 ++ bigB count 6
theorem nonceB_size (who count : Int) : (nonceB who count).size = 12 := by
  unfold nonceB; rw [ByteArray.size_append, ByteArray.size_append, bigB_size, bigB_size]; rfl
set_option maxHeartbeats 2000000 in
set_option maxRecDepth 100000 in
theorem knonce_yes (who count : Int) (w : World) (h : 0 ≤ who ∧ who ≤ 6 ∧ 0 ≤ count) (hc : count ≤ 1099511627775) :
    Calls Tryz.prog 51 #[.int .i64 who, .int .i64 count] w fun e w' => e = .returned (.tuple #[.string (nonceB who count), .int .i64 0]) ∧ Below w.heap.size w w' := by
  obtain ⟨A, hA⟩ : ∃ A, A = bigB who 1 := ⟨_, rfl⟩
  obtain ⟨B, hB⟩ : ∃ B, B = bigB count 6 := ⟨_, rfl⟩
  obtain ⟨N, hN⟩ : ∃ N, N = nonceB who count := ⟨_, rfl⟩
  have CO' := fun w => koneByte_any who w h.1 (by omega)
  have CN' := fun w => knumber_any count w h.2.2 hc
  have CT' := fun w => tog3 A ⟨#[0, 0, 0, 0, 0]⟩ B w (by rw [hA, bigB_size]; decide) (by decide) (by rw [hB, bigB_size]; decide)
  have eN : A ++ ⟨#[0, 0, 0, 0, 0]⟩ ++ B = N := by rw [hN, hA, hB]; rfl
  rw [eN] at CT'
  rw [← hA] at CO'
  rw [← hB] at CN'
  rw [← hN]
  have CO : Hid (∀ w, _) := CO'
  have CN : Hid (∀ w, _) := CN'
  have CT : Hid (∀ w, _) := CT'
  have g1 : decide (count < 0) = false := by simp; omega
  have g2 : decide (1099511627775 < count) = false := by simp; omega
  by_cases h0 : who = 0
  · subst h0
    clear CO' CN' CT' eN hN hA hB h hc
    go_enter Tryz.func51, Tryz.ntmps51
    go_wp2_with fail
    refine (CO.out w).mono ?_
    rintro e w1 ⟨rfl, hb1⟩
    go_wp2_with fail
    refine (CN.out w1).mono ?_
    rintro e w2 ⟨rfl, hb2⟩
    have HB2 : Hid (Below w.heap.size w w2) := below_step hb1 (Nat.le_refl _) hb2
    clear hb1 hb2
    go_wp2_with fail
    refine (CT.out w2).mono ?_
    rintro e w3 ⟨rfl, hb3⟩
    have HB3 : Hid (Below w.heap.size w w3) := below_step HB2.out (Nat.le_refl _) hb3
    clear hb3
    go_wp2_with fail
    go_ret2
    exact ⟨rfl, HB3.out⟩
  · have C1 : Hid (∀ w, _) := fun w => isMember_any who w true (by rw [decide_eq_true (show 1 ≤ who ∧ who ≤ 6 by omega)])
    clear CO' CN' CT' eN hN hA hB h hc
    go_enter Tryz.func51, Tryz.ntmps51
    go_wp2_with fail
    refine (C1.out w).mono ?_
    rintro e w0 ⟨rfl, hw0⟩
    rw [hw0]
    clear hw0 w0
    go_wp2_with fail
    refine (CO.out w).mono ?_
    rintro e w1 ⟨rfl, hb1⟩
    go_wp2_with fail
    refine (CN.out w1).mono ?_
    rintro e w2 ⟨rfl, hb2⟩
    have HB2 : Hid (Below w.heap.size w w2) := below_step hb1 (Nat.le_refl _) hb2
    clear hb1 hb2
    go_wp2_with fail
    refine (CT.out w2).mono ?_
    rintro e w3 ⟨rfl, hb3⟩
    have HB3 : Hid (Below w.heap.size w w3) := below_step HB2.out (Nat.le_refl _) hb3
    clear hb3
    go_wp2_with fail
    go_ret2
    exact ⟨rfl, HB3.out⟩
end Go.Proofs.YtabhkebkbidfhaaGreatDoor
