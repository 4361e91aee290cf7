/- The document's Same (layer 8), for layer 18's laws. -/
import Derived.Test.YtaakmcihpdbilaaDoorStrs
import Derived.BigQuiet
namespace Go.Proofs.YtaakmcihpdbilaaDoor
open Go.RowKit
set_option maxRecDepth 100000
set_option linter.unusedSimpArgs false
set_option maxRecDepth 100000

set_option maxHeartbeats 1000000 in
theorem rsame18_any (l m : List ByteArray) (a a' : Option Addr) (n n' c c' : Nat) (w : World) (hn : n ≤ 1048576) (hn' : n' ≤ 1048576) (hI : StrsAt w a n l) (hI' : StrsAt w a' n' m) :
    Calls Tryd.prog 14 #[.slice a n c, .slice a' n' c'] w fun e w' => e = .returned (.bool (decide (l = m))) ∧ Below w.heap.size w w' := by
  have HI : Hid (StrsAt w a n l) := hI
  have HI' : Hid (StrsAt w a' n' m) := hI'
  obtain ⟨B, HB⟩ : ∃ B, Hid (B = decide (l = m)) := ⟨_, rfl⟩
  rw [← HB.out]
  clear hI hI'
  by_cases hnn : n = n'
  · subst hnn
    go_enter Tryd.func14, Tryd.ntmps14
    go_wp2_with fail
    go_loopw [5] (fun i wr => ∃ k : Nat, k ≤ n ∧ i = .int .i64 k ∧ Hid (∀ j, j < k → strL l j = strL m j) ∧ Below w.heap.size w wr) (fun i _ => n - (intOf i).toNat)
    case atStart => exact ⟨0, Nat.zero_le _, rfl, fun j hj => absurd hj (Nat.not_lt_zero _), Below.refl _ _⟩
    case round =>
      obtain ⟨k, hk, rfl, HN, hbl⟩ := hrel
      by_cases hlt : k < n
      · obtain ⟨b, off, rfl, hcl⟩ := (HI.out.below hbl).some (by omega)
        obtain ⟨b', off', rfl, hcl'⟩ := (HI'.out.below hbl).some (by omega)
        have c0 := hcl k hlt
        have c1 := hcl' k hlt
        have b0 : (k : Int) < (n : Int) := by omega
        have hlen := HI.out.1
        have hlen' := HI'.out.1
        clear hcl hcl'
        by_cases he : strL l k = strL m k
        · have q0 : ((strL l k).toList != (strL m k).toList) = false := by rw [he]; simp
          have q1 : ((strL l k).toList == (strL m k).toList) = true := by rw [he]; simp
          have q2 : (strL l k).toList = (strL m k).toList := by rw [he]
          have HN' : Hid (∀ j, j < k + 1 → strL l j = strL m j) := by
            show ∀ j, _
            intro j hj
            by_cases e : j = k
            · subst e; exact he
            · exact HN.out j (by omega)
          clear he HN hlen hlen'
          generalize strL l k = X at *
          generalize strL m k = Y at *
          go_wp2_with fail
          go_quiet (fail)
          go_wp2
          refine ⟨⟨k + 1, by omega, by go_num, HN', below_drewN hbl _⟩, ?_⟩
          simp [intOf]; omega
        · have q0 : ((strL l k).toList != (strL m k).toList) = true := by
            rw [bne_iff_ne]
            intro e
            have := beq_texts (strL l k) (strL m k)
            rw [e] at this
            simp at this
            exact he this
          have q1 : ((strL l k).toList == (strL m k).toList) = false := by rw [beq_texts]; exact decide_eq_false he
          have hB : B = false := by
            rw [HB.out]
            refine decide_eq_false (fun h => he ?_)
            rw [h]
          clear he HN hlen hlen'
          generalize strL l k = X at *
          generalize strL m k = Y at *
          go_wp2_with fail
          go_quiet (fail)
          go_wp2
          go_ret
          rw [hB]
          exact ⟨rfl, below_drewN hbl _⟩
      · have hk' : k = n := by omega
        subst hk'
        have hB : B = true := by
          rw [HB.out]
          refine decide_eq_true ?_
          have h1 := HI.out.1
          have h2 := HI'.out.1
          apply List.ext_getElem (by omega)
          intro i hi1 hi2
          have := HN.out i (by omega)
          unfold strL at this
          rw [List.getD_eq_getElem?_getD, List.getD_eq_getElem?_getD, List.getElem?_eq_getElem hi1, List.getElem?_eq_getElem hi2] at this
          exact this
        go_wp2
        go_ret
        rw [hB]
        exact ⟨rfl, hbl⟩
  · have g0 : (((n : Int) != (n' : Int))) = true := by rw [bne_iff_ne]; omega
    have hB : B = false := by
      rw [HB.out]
      refine decide_eq_false (fun h => hnn ?_)
      have h1 := HI.out.1
      have h2 := HI'.out.1
      rw [h] at h1; omega
    clear hnn
    go_enter Tryd.func14, Tryd.ntmps14
    go_wp2
    go_ret
    rw [hB]
    exact ⟨rfl, Below.refl _ _⟩

end Go.Proofs.YtaakmcihpdbilaaDoor
