/- The walks of few, NameDistinct. -/
import Derived.Test.YtpabafkgcofhdaaDoorNmChecksWalk
namespace Go.Proofs.YtpabafkgcofhdaaDoor
open Go.RowKit
set_option linter.unusedSimpArgs false

/-- Few texts, of few bytes. -/
def FewS (l : List ByteArray) (n : Nat) : Prop := n ≤ 40 ∧ ∀ i, i < n → (strL l i).size ≤ 200
set_option maxHeartbeats 2000000 in
theorem few8 (l : List ByteArray) (a : Option Addr) (n c : Nat) (w : World) (hm : n ≤ maxLen) (hI : StrsAt w a n l) (hz : ∀ i, (strL l i).size ≤ maxLen) (D : Bool) (hD : D = true ↔ FewS l n) :
    Calls Tryd.prog 18 #[.slice a n c] w fun e w' => e = .returned (.bool D) ∧ w' = w := by
  have HD : Hid (D = true ↔ FewS l n) := hD
  clear hD
  have HI : Hid (StrsAt w a n l) := hI
  have HZ : Hid (∀ i, (strL l i).size ≤ maxLen) := hz
  have hm' : n ≤ 9223372036854775807 := hm
  clear hI hz hm
  go_enter Tryd.func18, Tryd.ntmps18
  go_wp2_with fail
  go_loopw [3] (fun i wr => ∃ k : Nat, k ≤ n ∧ k ≤ 40 ∧ i = .int .i64 k ∧ Hid (∀ j, j < k → (strL l j).size ≤ 200) ∧ wr = w) (fun i _ => n - (intOf i).toNat)
  case atStart => exact ⟨0, Nat.zero_le _, Nat.zero_le _, rfl, fun j hj => absurd hj (Nat.not_lt_zero _), rfl⟩
  case round =>
    obtain ⟨k, hk, hk40, rfl, HN, rfl⟩ := hrel
    by_cases hlt : k < n
    · have b0 : (k : Int) < (n : Int) := by omega
      by_cases h40 : k < 40
      · have b1 : (k : Int) < 40 := by omega
        obtain ⟨b, off, rfl, hcl⟩ := HI.out.some (by omega)
        have c0 := hcl k hlt
        have hXs : (strL l k).size ≤ 9223372036854775807 := HZ.out k
        clear hcl
        by_cases he : (strL l k).size ≤ 200
        · have q0 : decide ((200 : Int) < ((strL l k).size : Int)) = false := by simp; omega
          have HN' : Hid (∀ j, j < k + 1 → (strL l j).size ≤ 200) := by
            show ∀ j, _
            intro j hj
            by_cases e : j = k
            · subst e; exact he
            · exact HN.out j (by omega)
          clear he HN
          generalize strL l k = X at *
          go_wp2
          refine ⟨⟨k + 1, by omega, by omega, by go_num, HN', by first | rfl | trivial⟩, ?_⟩
          simp [intOf]; omega
        · have q0 : decide ((200 : Int) < ((strL l k).size : Int)) = true := by simp; omega
          obtain rfl : D = false := by
            cases D with
            | false => rfl
            | true => exact absurd ((HD.out.1 rfl).2 k hlt) he
          clear he HN
          generalize strL l k = X at *
          go_wp2
          go_ret
          exact ⟨rfl, rfl⟩
      · have b1 : ¬ ((k : Int) < 40) := by omega
        have b2 : decide ((n : Int) ≤ 40) = false := by simp; omega
        obtain rfl : D = false := by
          cases D with
          | false => rfl
          | true => have := (HD.out.1 rfl).1; omega
        go_wp2
        go_ret
        exact ⟨rfl, rfl⟩
    · have hk' : k = n := by omega
      subst hk'
      have b2 : decide ((k : Int) ≤ 40) = true := by simp; omega
      obtain rfl : D = true := HD.out.2 ⟨hk40, HN.out⟩
      go_wp2
      go_ret
      exact ⟨rfl, rfl⟩
theorem few8_yes (l : List ByteArray) (a : Option Addr) (n c : Nat) (w : World) (hm : n ≤ maxLen) (hI : StrsAt w a n l) (hz : ∀ i, (strL l i).size ≤ maxLen) (h : FewS l n) :
    Calls Tryd.prog 18 #[.slice a n c] w fun e w' => e = .returned (.bool true) ∧ w' = w := few8 l a n c w hm hI hz true ⟨fun _ => h, fun _ => rfl⟩
theorem few8_no (l : List ByteArray) (a : Option Addr) (n c : Nat) (w : World) (hm : n ≤ maxLen) (hI : StrsAt w a n l) (hz : ∀ i, (strL l i).size ≤ maxLen) (h : ¬ FewS l n) :
    Calls Tryd.prog 18 #[.slice a n c] w fun e w' => e = .returned (.bool false) ∧ w' = w := few8 l a n c w hm hI hz false ⟨fun h' => (by cases h'), fun h' => absurd h' h⟩
theorem strL_max (l : List ByteArray) (h : ∀ s ∈ l, s.size ≤ maxLen) (i : Nat) : (strL l i).size ≤ maxLen := by
  unfold strL
  by_cases hi : i < l.length
  · rw [List.getD_eq_getElem?_getD, List.getElem?_eq_getElem hi]
    exact h _ (List.getElem_mem hi)
  · rw [List.getD_eq_getElem?_getD, List.getElem?_eq_none (by omega)]
    exact Nat.zero_le _

set_option maxHeartbeats 2000000 in
theorem nameDistinct_walk (a : Option Addr) (n c : Nat) (w : World) (hG : Glob8 w) (h : ∃ l, StrsAt w a n l ∧ n ≤ maxLen ∧ ∀ s ∈ l, s.size ≤ maxLen) :
    Calls Tryd.prog 6 #[.slice a n c] w fun e w' => e = .returned (.bool true) ∧ Below w.heap.size w w' := by
  obtain ⟨l, hI, hm, hz'⟩ := h
  have hz := strL_max l hz'
  have C : Hid (∀ w', Below w.heap.size w w' → _) := fun w' hb => awake8_on w w' hG hb
  by_cases hf : FewS l n
  · have C0 : Hid (Calls _ _ _ _ _) := few8_yes l a n c w hm hI hz hf
    have C1 : Hid (∀ w', Below w.heap.size w w' → Calls Tryd.prog 20 #[.slice a n c] w' fun e w'' => ∃ a' c', e = .returned (.slice a' n c') ∧ StrsAt w'' a' n (distF l n) ∧ Below w'.heap.size w' w'') := fun w' hb => ndistinct_any l a n c w' (by have := hf.1; omega) (fun i hi => by have := hf.2 i hi; omega) (hI.below hb)
    have C2 : Hid (∀ w', Below w.heap.size w w' → Calls Tryd.prog 21 #[.slice a n c] w' fun e w'' => ∃ v, e = .returned v ∧ OwnS w'' w'.heap.size v n (distF l n) ∧ Below w'.heap.size w' w'') := fun w' hb => rdistinct_any l a n c w' (by have := hf.1; omega) (fun i hi => by have := hf.2 i hi; omega) (hI.below hb)
    have hn40 := hf.1
    clear hI hz hz' hf hG
    go_enter Tryd.func6, Tryd.ntmps6
    go_wp2_with fail
    refine C0.out.mono ?_
    rintro e w0 ⟨rfl, rfl⟩
    clear C0
    go_wp2_with fail
    refine (C1.out _ (Below.refl _ _)).mono ?_
    rintro e w1 ⟨a1, c1, rfl, hS1, hb1⟩
    clear C1
    go_wp2_with fail
    refine (C2.out _ hb1).mono ?_
    rintro e w2 ⟨v2, rfl, hO2, hb2⟩
    obtain ⟨a2, c2, rfl, hS2⟩ := hO2.strs
    have hS3 := hS1.below hb2
    have hB2 := below_step hb1 (Nat.le_refl _) hb2
    have C3' := rsame_any (distF l n) (distF l n) a1 a2 n n c1 c2 w2 (by omega) (by omega) hS3 hS2
    rw [decide_eq_true rfl] at C3'
    have C3 : Hid (Calls _ _ _ _ _) := C3'
    clear C2 hO2 hS1 hS2 hS3 hb1 hb2 C3'
    go_wp2_with fail
    refine C3.out.mono ?_
    rintro e w3 ⟨rfl, hb3⟩
    have hB3 := below_step hB2 (Nat.le_refl _) hb3
    clear C3 hb3 hB2
    go_wp2_with fail
    refine (C.out _ hB3).mono ?_
    rintro e w4 ⟨rfl, hb4⟩
    go_wp2_with fail
    go_ret
    exact ⟨rfl, hb4⟩
  · have C0 : Hid (Calls _ _ _ _ _) := few8_no l a n c w hm hI hz hf
    clear hI hz hz' hf hG
    go_enter Tryd.func6, Tryd.ntmps6
    go_wp2_with fail
    refine C0.out.mono ?_
    rintro e w0 ⟨rfl, rfl⟩
    clear C0
    go_wp2_with fail
    refine (C.out _ (Below.refl _ _)).mono ?_
    rintro e w4 ⟨rfl, hb4⟩
    go_wp2_with fail
    go_ret
    exact ⟨rfl, hb4⟩
end Go.Proofs.YtpabafkgcofhdaaDoor
