import Derived.Test.YtabhkebkbidfhaaGreatDoorKyC
/- Layer 15, the code: Wrap, Unwrap. -/
namespace Go.Proofs.YtabhkebkbidfhaaGreatDoor
open Go.RowKit
set_option maxRecDepth 100000
set_option linter.unusedSimpArgs false

/-- What Wrap and Unwrap answer, on plain bytes. -/
def wrapB (own : ByteArray) (who epoch : Int) (key : ByteArray) : ByteArray := sealB (underB own) (nonceB who epoch) wrapT key
def opensW (own : ByteArray) (who epoch : Int) (s : ByteArray) : Prop := OpensA (underB own) (nonceB who epoch) wrapT s
def textW (own : ByteArray) (who epoch : Int) (s : ByteArray) : ByteArray := streamB (underB own) (nonceB who epoch) 1 (s.extract 0 (cutA s))
theorem mayA_wrap (own : ByteArray) (who epoch : Int) (n : Nat) (hn : n ≤ 32764) : MayA (underB own) (nonceB who epoch) wrapT.size n := ⟨underB_size _, nonceB_size _ _, by show 4 + n ≤ 32768; omega⟩

set_option maxHeartbeats 2000000 in
theorem kwrap_yes (own key : ByteArray) (who epoch : Int) (w : World) (hT : Tabs w) (h : MayWk own who epoch) (hk : key.size = 32) :
    Calls Tryz.prog 17 #[.string own, .int .i64 who, .int .i64 epoch, .string key] w fun e w' => e = .returned (.tuple #[.string (wrapB own who epoch key), .int .i64 0]) ∧ Below w.heap.size w w' := by
  have C1 : Hid (∀ w, _) := fun w => mayWrap_any own who epoch w true (by rw [decide_eq_true]; exact h)
  have C2 : Hid (∀ w, _) := fun w => isKey_any key w true (by rw [hk]; rfl)
  have CW' := fun w (h' : Tabs w) => wrapping_any own who epoch w h' h
  have CS' := fun w (h' : Tabs w) => aseal_yes (underB own) (nonceB who epoch) wrapT key w (mayA_wrap own who epoch key.size (by omega)) h'.2.1 h'.2.2
  obtain ⟨S, hS⟩ : ∃ S, S = wrapB own who epoch key := ⟨_, rfl⟩
  rw [show sealB (underB own) (nonceB who epoch) wrapT key = S from hS.symm] at CS'
  rw [← hS]
  obtain ⟨U, hU⟩ : ∃ U, U = underB own := ⟨_, rfl⟩
  obtain ⟨N, hN⟩ : ∃ N, N = nonceB who epoch := ⟨_, rfl⟩
  rw [← hU, ← hN] at CW' CS'
  have CW : Hid (Calls _ _ _ _ _) := CW' w hT
  have CS : Hid (∀ w, Tabs w → Calls Tryz.prog 42 #[.string U, .string N, .string ⟨#[119, 114, 97, 112]⟩, .string key] w fun e w' => e = .returned (.tuple #[.string S, .int .i64 0]) ∧ Below w.heap.size w w') := CS'
  have HT : Hid (Tabs w) := hT
  clear CW' CS' hU hN hS hT h hk
  go_enter Tryz.func17, Tryz.ntmps17
  go_wp2_with fail
  refine (C1.out w).mono ?_
  rintro e w0 ⟨rfl, hw0⟩
  rw [hw0]
  clear hw0 w0
  go_wp2_with fail
  refine (C2.out w).mono ?_
  rintro e w0 ⟨rfl, hw0⟩
  rw [hw0]
  clear hw0 w0
  go_wp2_with fail
  refine CW.out.mono ?_
  rintro e w1 ⟨rfl, hb1⟩
  go_wp2_with fail
  refine (CS.out w1 (HT.out.below hb1)).mono ?_
  rintro e w2 ⟨rfl, hb2⟩
  have hB2 := below_step hb1 (Nat.le_refl _) hb2
  clear hb1 hb2
  go_wp2_with fail
  go_ret2
  exact ⟨rfl, hB2⟩

set_option maxHeartbeats 2000000 in
theorem kwrap_not (own key : ByteArray) (who epoch : Int) (w : World) (h : ¬ (MayWk own who epoch ∧ key.size = 32)) :
    Calls Tryz.prog 17 #[.string own, .int .i64 who, .int .i64 epoch, .string key] w fun e w' => e = .returned (.tuple #[.string ⟨#[]⟩, .int .i64 1]) ∧ Below w.heap.size w w' := by
  by_cases hm : MayWk own who epoch
  · have hk : ¬ key.size = 32 := fun e => h ⟨hm, e⟩
    have C1 : Hid (∀ w, _) := fun w => mayWrap_any own who epoch w true (by rw [decide_eq_true]; exact hm)
    have C2 : Hid (∀ w, _) := fun w => isKey_any key w false (by rw [decide_eq_false hk])
    clear h hm hk
    go_enter Tryz.func17, Tryz.ntmps17
    go_wp2_with fail
    refine (C1.out w).mono ?_
    rintro e w0 ⟨rfl, hw0⟩
    rw [hw0]
    clear hw0 w0
    go_wp2_with fail
    refine (C2.out w).mono ?_
    rintro e w0 ⟨rfl, hw0⟩
    rw [hw0]
    clear hw0 w0
    go_wp2_with fail
    go_ret2
    exact ⟨rfl, Below.refl _ _⟩
  · have C1 : Hid (∀ w, _) := fun w => mayWrap_any own who epoch w false (by rw [decide_eq_false]; exact hm)
    clear h hm
    go_enter Tryz.func17, Tryz.ntmps17
    go_wp2_with fail
    refine (C1.out w).mono ?_
    rintro e w0 ⟨rfl, hw0⟩
    rw [hw0]
    clear hw0 w0
    go_wp2_with fail
    go_ret2
    exact ⟨rfl, Below.refl _ _⟩

set_option maxHeartbeats 2000000 in
theorem kunwrap_yes (own s : ByteArray) (who epoch : Int) (w : World) (hT : Tabs w) (h : MayWk own who epoch) (hs : cutA s ≤ 32764) (ho : opensW own who epoch s) (hk : (textW own who epoch s).size = 32) :
    Calls Tryz.prog 8 #[.string own, .int .i64 who, .int .i64 epoch, .string s] w fun e w' => e = .returned (.tuple #[.string (textW own who epoch s), .int .i64 0]) ∧ Below w.heap.size w w' := by
  obtain ⟨T, hTx⟩ : ∃ T, T = textW own who epoch s := ⟨_, rfl⟩
  rw [← hTx] at hk ⊢
  have C2 : Hid (∀ w, _) := fun w => isKey_any T w true (by rw [hk]; rfl)
  have C1 : Hid (∀ w, _) := fun w => mayWrap_any own who epoch w true (by rw [decide_eq_true]; exact h)
  have CW' := fun w (h' : Tabs w) => wrapping_any own who epoch w h' h
  obtain ⟨U, hU⟩ : ∃ U, U = underB own := ⟨_, rfl⟩
  obtain ⟨N, hN⟩ : ∃ N, N = nonceB who epoch := ⟨_, rfl⟩
  rw [← hU, ← hN] at CW'
  have CW : Hid (Calls _ _ _ _ _) := CW' w hT
  have HT : Hid (Tabs w) := hT
  have CO' := fun w (h' : Tabs w) => open_on (underB own) (nonceB who epoch) wrapT s T hTx.symm w w h'.2.1 h'.2.2 (Below.refl _ _) (mayA_wrap own who epoch (cutA s) hs) ho
  rw [← hU, ← hN] at CO'
  have CO : Hid (∀ w, Tabs w → Calls Tryz.prog 22 #[.string U, .string N, .string ⟨#[119, 114, 97, 112]⟩, .string s] w fun e w' => e = .returned (.tuple #[.string T, .int .i64 0]) ∧ Below w.heap.size w w') := CO'
  clear CW' CO' hU hN hT h hs ho hTx hk
  go_enter Tryz.func8, Tryz.ntmps8
  go_wp2_with fail
  refine (C1.out w).mono ?_
  rintro e w0 ⟨rfl, hw0⟩
  rw [hw0]
  clear hw0 w0
  go_wp2_with fail
  refine CW.out.mono ?_
  rintro e w1 ⟨rfl, hb1⟩
  go_wp2_with fail
  refine (CO.out w1 (HT.out.below hb1)).mono ?_
  rintro e w2 ⟨rfl, hb2⟩
  have hB2 := below_step hb1 (Nat.le_refl _) hb2
  clear hb1 hb2
  go_wp2_with fail
  refine (C2.out w2).mono ?_
  rintro e w3 ⟨rfl, hw3⟩
  rw [hw3]
  clear hw3 w3
  go_wp2_with fail
  go_ret2
  exact ⟨rfl, hB2⟩

theorem unwrap_back (own key : ByteArray) (who epoch : Int) : opensW own who epoch (wrapB own who epoch key) ∧ textW own who epoch (wrapB own who epoch key) = key := opens_seal _ _ _ _
theorem wrapB_size (own key : ByteArray) (who epoch : Int) : (wrapB own who epoch key).size = key.size + 16 := sealB_size _ _ _ _
theorem wrapB_cut (own key : ByteArray) (who epoch : Int) : cutA (wrapB own who epoch key) = key.size := by unfold cutA; rw [wrapB_size]; omega
end Go.Proofs.YtabhkebkbidfhaaGreatDoor
