import Derived.Test.YtabhkebkbidfhaaGreatDoorKyD
import Derived.Test.YtabhkebkbidfhaaGreatDoorRKyA
/- Layer 15, the document's: Send, Keep, Fresh, may, Wrap, Unwrap. -/
namespace Go.Proofs.YtabhkebkbidfhaaGreatDoor
open Go.RowKit
set_option maxRecDepth 100000
set_option linter.unusedSimpArgs false

set_option maxHeartbeats 2000000 in
theorem rmay15 (own : ByteArray) (who epoch : Int) (w : World) (b : Bool) (h : b = decide (own.size = 32 ∧ (1 ≤ who ∧ who ≤ 6) ∧ 1 ≤ epoch ∧ epoch ≤ 1099511627775)) :
    Calls Tryz.prog 43 #[.string own, .int .i64 who, .int .i64 epoch] w fun e w' => e = .returned (.bool b) ∧ w' = w := by
  by_cases h1 : own.size = 32
  · by_cases h2 : 1 ≤ who
    · by_cases h3 : who ≤ 6
      · by_cases h4 : 1 ≤ epoch
        · by_cases h5 : epoch ≤ 1099511627775
          · obtain rfl : b = true := by rw [h]; simp [h1, h2, h3, h4, h5]
            clear h
            go_enter Tryz.func43, Tryz.ntmps43
            go_wp2
            go_ret
            exact ⟨rfl, rfl⟩
          · obtain rfl : b = false := by rw [h]; simp [h5]
            clear h
            go_enter Tryz.func43, Tryz.ntmps43
            go_wp2
            go_ret
            exact ⟨rfl, rfl⟩
        · obtain rfl : b = false := by rw [h]; simp [h4]
          clear h
          go_enter Tryz.func43, Tryz.ntmps43
          go_wp2
          go_ret
          exact ⟨rfl, rfl⟩
      · obtain rfl : b = false := by rw [h]; simp [h3]
        clear h
        go_enter Tryz.func43, Tryz.ntmps43
        go_wp2
        go_ret
        exact ⟨rfl, rfl⟩
    · obtain rfl : b = false := by rw [h]; simp [h2]
      clear h
      go_enter Tryz.func43, Tryz.ntmps43
      go_wp2
      go_ret
      exact ⟨rfl, rfl⟩
  · obtain rfl : b = false := by rw [h]; simp [h1]
    clear h
    have g0 : ((own.size : Int) == 32) = false := by simp; omega
    have g0' : ¬ (own.size : Int) = 32 := by omega
    go_enter Tryz.func43, Tryz.ntmps43
    go_wp2
    go_ret
    exact ⟨rfl, rfl⟩

set_option maxHeartbeats 2000000 in
theorem rwrap_yes (own key : ByteArray) (who epoch : Int) (w : World) (h : MayWk own who epoch) (hk : key.size = 32) :
    Calls Tryz.prog 19 #[.string own, .int .i64 who, .int .i64 epoch, .string key] w fun e w' => e = .returned (.tuple #[.string (wrapB own who epoch key), .int .i64 0]) ∧ Below w.heap.size w w' := by
  have C1 : Hid (∀ w, _) := fun w => rmay15 own who epoch w true (by rw [decide_eq_true]; exact h)
  obtain ⟨U, hU⟩ : ∃ U, U = underB own := ⟨_, rfl⟩
  obtain ⟨N, hN⟩ : ∃ N, N = nonceB who epoch := ⟨_, rfl⟩
  have CE' := fun w => rexpand_ok own wrapT 32 w (by have := h.1; omega) (by decide) (by decide)
  rw [show expandB own wrapT 32 = U from hU.symm] at CE'
  have CE : Hid (∀ w, Calls Tryz.prog 44 #[.string own, .string ⟨#[119, 114, 97, 112]⟩, .int .i64 32] w fun e w' => e = .returned (.tuple #[.string U, .int .i64 0]) ∧ Below w.heap.size w w') := CE'
  have CN' := fun w => rnonce_yes who epoch w (by have := h.2; omega) (by have := h.2; omega)
  rw [← hN] at CN'
  have CN : Hid (∀ w, _) := CN'
  obtain ⟨S, hS⟩ : ∃ S, S = wrapB own who epoch key := ⟨_, rfl⟩
  have CS' := fun w => rseal_yes (underB own) (nonceB who epoch) wrapT key w (mayA_wrap own who epoch key.size (by omega))
  rw [show sealB (underB own) (nonceB who epoch) wrapT key = S from hS.symm, ← hU, ← hN] at CS'
  rw [← hS]
  have CO : Hid (∀ w, Calls Tryz.prog 46 #[.string U, .string N, .string ⟨#[119, 114, 97, 112]⟩, .string key] w fun e w' => e = .returned (.tuple #[.string S, .int .i64 0]) ∧ Below w.heap.size w w') := CS'
  clear CE' CN' CS' hU hN hS h
  go_enter Tryz.func19, Tryz.ntmps19
  go_wp2_with fail
  refine (C1.out w).mono ?_
  rintro e w0 ⟨rfl, hw0⟩
  rw [hw0]
  clear hw0 w0
  go_wp2_with fail
  refine (CE.out w).mono ?_
  rintro e w1 ⟨rfl, hb1⟩
  go_wp2_with fail
  refine (CN.out w1).mono ?_
  rintro e w2 ⟨rfl, hb2⟩
  have hB2 := below_step hb1 (Nat.le_refl _) hb2
  clear hb1 hb2
  go_wp2_with fail
  refine (CO.out w2).mono ?_
  rintro e w3 ⟨rfl, hb3⟩
  have hB3 := below_step hB2 (Nat.le_refl _) hb3
  clear hB2 hb3
  go_wp2_with fail
  go_ret2
  exact ⟨rfl, hB3⟩

end Go.Proofs.YtabhkebkbidfhaaGreatDoor
