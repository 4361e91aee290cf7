import Derived.Test.YtabhkebkbidfhaaGreatDoorKyB
import Derived.Test.YtabhkebkbidfhaaGreatDoorL4
import Derived.Test.YtabhkebkbidfhaaGreatDoorTabs
import Derived.Maps.RangeWalk
import Derived.Test.YtabhkebkbidfhaaGreatDoorR9
import Derived.Test.YtabhkebkbidfhaaGreatDoorZer
namespace Go.Proofs.YtabhkebkbidfhaaGreatDoor
open Go.RowKit
set_option maxRecDepth 100000
set_option linter.unusedSimpArgs false
def wrapT : ByteArray := ⟨#[119, 114, 97, 112]⟩
def underB (own : ByteArray) : ByteArray := expandB own wrapT 32
theorem underB_size (own : ByteArray) : (underB own).size = 32 := expandB_size _ _ _
def MayWk (own : ByteArray) (who epoch : Int) : Prop := own.size = 32 ∧ (1 ≤ who ∧ who ≤ 6) ∧ 1 ≤ epoch ∧ epoch ≤ 1099511627775
set_option maxHeartbeats 2000000 in
theorem wrapping_any (own : ByteArray) (who epoch : Int) (w : World) (hT : Tabs w) (h : MayWk own who epoch) :
    Calls Tryz.prog 21 #[.string own, .int .i64 who, .int .i64 epoch] w fun e w' => e = .returned (.tuple #[.string (underB own), .string (nonceB who epoch)]) ∧ Below w.heap.size w w' := by
  obtain ⟨U, hU⟩ : ∃ U, U = underB own := ⟨_, rfl⟩
  obtain ⟨N, hN⟩ : ∃ N, N = nonceB who epoch := ⟨_, rfl⟩
  have CE' := fun w (h' : Tabs w) => expand_ok own wrapT 32 w (by have := h.1; omega) (by decide) (by decide) h'.1.1 h'.1.2
  have CN' := fun w => knonce_yes who epoch w (by have := h.2; omega) (by have := h.2; omega)
  rw [← hN] at CN' ⊢
  rw [show expandB own wrapT 32 = U from hU.symm] at CE'
  rw [← hU]
  have CT : Hid (∀ w : World, Calls Tryz.prog 50 #[.slice (some ⟨w.heap.size, 0, none⟩) 1 1] (w.alloc (.cells #[.string ⟨#[119, 114, 97, 112]⟩] 9)) fun e w' => e = .returned (.string ⟨#[119, 114, 97, 112]⟩) ∧ Below w.heap.size w w') := fun w => tog1 wrapT w (by decide)
  have CE : Hid (∀ w, Tabs w → Calls Tryz.prog 49 #[.string own, .string ⟨#[119, 114, 97, 112]⟩, .int .i64 32] w fun e w' => e = .returned (.tuple #[.string U, .int .i64 0]) ∧ Below w.heap.size w w') := CE'
  have CN : Hid (∀ w, _) := CN'
  have HT : Hid (Tabs w) := hT
  clear CE' CN' hU hN hT h
  go_enter Tryz.func21, Tryz.ntmps21
  go_wp2_with fail
  refine (CT.out w).mono ?_
  rintro e w2 ⟨rfl, hb2⟩
  go_wp2_with fail
  refine (CE.out w2 (HT.out.below hb2)).mono ?_
  rintro e w3 ⟨rfl, hb3⟩
  have hB3 := below_step hb2 (Nat.le_refl _) hb3
  clear hb2 hb3
  go_wp2_with fail
  refine (CN.out w3).mono ?_
  rintro e w4 ⟨rfl, hb4⟩
  have hB4 := below_step hB3 (Nat.le_refl _) hb4
  clear hB3 hb4
  go_wp2_with fail
  go_ret2
  exact ⟨rfl, hB4⟩
end Go.Proofs.YtabhkebkbidfhaaGreatDoor

namespace Go.Proofs.YtabhkebkbidfhaaGreatDoor
open Go.RowKit
set_option maxRecDepth 100000
set_option linter.unusedSimpArgs false
def wrapB (own : ByteArray) (who epoch : Int) (key : ByteArray) : ByteArray := sealB (underB own) (nonceB who epoch) wrapT key
def opensW (own : ByteArray) (who epoch : Int) (s : ByteArray) : Prop := OpensA (underB own) (nonceB who epoch) wrapT s
def textW (own : ByteArray) (who epoch : Int) (s : ByteArray) : ByteArray := streamB (underB own) (nonceB who epoch) 1 (s.extract 0 (cutA s))
theorem mayA_wrap (own : ByteArray) (who epoch : Int) (n : Nat) (hn : n ≤ 32764) : MayA (underB own) (nonceB who epoch) wrapT.size n := ⟨underB_size _, nonceB_size _ _, by show 4 + n ≤ 32768; omega⟩
set_option maxHeartbeats 2000000 in
theorem kwrap_yes (own key : ByteArray) (who epoch : Int) (w : World) (hT : Tabs w) (h : MayWk own who epoch) (hk : key.size = 32) :
    Calls Tryz.prog 17 #[.string own, .int .i64 who, .int .i64 epoch, .string key] w fun e w' => e = .returned (.tuple #[.string (wrapB own who epoch key), .int .i64 0]) ∧ Below w.heap.size w w' := by
  have C1 : Hid (∀ w, _) := fun w => mayWrap_any own who epoch w true (by rw [decide_eq_true]; exact h)
  have C2 : Hid (∀ w, _) := fun w => isKey_any key w true (by rw [hk]; rfl)
  have CW' := fun w (h' : Tabs w) => wrapping_any own who epoch w h' h
  have CS' := fun w (h' : Tabs w) => aseal_yes (underB own) (nonceB who epoch) wrapT key w (mayA_wrap own who epoch key.size (by omega)) h'.2.1 h'.2.2
  obtain ⟨S, hS⟩ : ∃ S, S = wrapB own who epoch key := ⟨_, rfl⟩
  rw [show sealB (underB own) (nonceB who epoch) wrapT key = S from hS.symm] at CS'
  rw [← hS]
  obtain ⟨U, hU⟩ : ∃ U, U = underB own := ⟨_, rfl⟩
  obtain ⟨N, hN⟩ : ∃ N, N = nonceB who epoch := ⟨_, rfl⟩
  rw [← hU, ← hN] at CW' CS'
  have CW : Hid (Calls _ _ _ _ _) := CW' w hT
  have CS : Hid (∀ w, Tabs w → Calls Tryz.prog 42 #[.string U, .string N, .string ⟨#[119, 114, 97, 112]⟩, .string key] w fun e w' => e = .returned (.tuple #[.string S, .int .i64 0]) ∧ Below w.heap.size w w') := CS'
  have HT : Hid (Tabs w) := hT
  clear CW' CS' hU hN hS hT h hk
  go_enter Tryz.func17, Tryz.ntmps17
  go_wp2_with fail
  refine (C1.out w).mono ?_
  rintro e w0 ⟨rfl, hw0⟩
  rw [hw0]
  clear hw0 w0
  go_wp2_with fail
  refine (C2.out w).mono ?_
  rintro e w0 ⟨rfl, hw0⟩
  rw [hw0]
  clear hw0 w0
  go_wp2_with fail
  refine CW.out.mono ?_
  rintro e w1 ⟨rfl, hb1⟩
  go_wp2_with fail
  refine (CS.out w1 (HT.out.below hb1)).mono ?_
  rintro e w2 ⟨rfl, hb2⟩
  have hB2 := below_step hb1 (Nat.le_refl _) hb2
  clear hb1 hb2
  go_wp2_with fail
  go_ret2
  exact ⟨rfl, hB2⟩
set_option maxHeartbeats 2000000 in
theorem kwrap_not (own key : ByteArray) (who epoch : Int) (w : World) (h : ¬ (MayWk own who epoch ∧ key.size = 32)) :
    Calls Tryz.prog 17 #[.string own, .int .i64 who, .int .i64 epoch, .string key] w fun e w' => e = .returned (.tuple #[.string ⟨#[]⟩, .int .i64 1]) ∧ Below w.heap.size w w' := by
  by_cases hm : MayWk own who epoch
  · have hk : ¬ key.size = 32 := fun e => h ⟨hm, e⟩
    have C1 : Hid (∀ w, _) := fun w => mayWrap_any own who epoch w true (by rw [decide_eq_true]; exact hm)
    have C2 : Hid (∀ w, _) := fun w => isKey_any key w false (by rw [decide_eq_false hk])
    clear h hm hk
    go_enter Tryz.func17, Tryz.ntmps17
    go_wp2_with fail
    refine (C1.out w).mono ?_
    rintro e w0 ⟨rfl, hw0⟩
    rw [hw0]
    clear hw0 w0
    go_wp2_with fail
    refine (C2.out w).mono ?_
    rintro e w0 ⟨rfl, hw0⟩
    rw [hw0]
    clear hw0 w0
    go_wp2_with fail
    go_ret2
    exact ⟨rfl, Below.refl _ _⟩
  · have C1 : Hid (∀ w, _) := fun w => mayWrap_any own who epoch w false (by rw [decide_eq_false]; exact hm)
    clear h hm
    go_enter Tryz.func17, Tryz.ntmps17
    go_wp2_with fail
    refine (C1.out w).mono ?_
    rintro e w0 ⟨rfl, hw0⟩
    rw [hw0]
    clear hw0 w0
    go_wp2_with fail
    go_ret2
    exact ⟨rfl, Below.refl _ _⟩
set_option maxHeartbeats 2000000 in
theorem kunwrap_yes (own s : ByteArray) (who epoch : Int) (w : World) (hT : Tabs w) (h : MayWk own who epoch) (hs : cutA s ≤ 32764) (ho : opensW own who epoch s) (hk : (textW own who epoch s).size = 32) :
    Calls Tryz.prog 8 #[.string own, .int .i64 who, .int .i64 epoch, .string s] w fun e w' => e = .returned (.tuple #[.string (textW own who epoch s), .int .i64 0]) ∧ Below w.heap.size w w' := by
  obtain ⟨T, hTx⟩ : ∃ T, T = textW own who epoch s := ⟨_, rfl⟩
  rw [← hTx] at hk ⊢
  have C2 : Hid (∀ w, _) := fun w => isKey_any T w true (by rw [hk]; rfl)
  have C1 : Hid (∀ w, _) := fun w => mayWrap_any own who epoch w true (by rw [decide_eq_true]; exact h)
  have CW' := fun w (h' : Tabs w) => wrapping_any own who epoch w h' h
  obtain ⟨U, hU⟩ : ∃ U, U = underB own := ⟨_, rfl⟩
  obtain ⟨N, hN⟩ : ∃ N, N = nonceB who epoch := ⟨_, rfl⟩
  rw [← hU, ← hN] at CW'
  have CW : Hid (Calls _ _ _ _ _) := CW' w hT
  have HT : Hid (Tabs w) := hT
  have CO' := fun w (h' : Tabs w) => open_on (underB own) (nonceB who epoch) wrapT s T hTx.symm w w h'.2.1 h'.2.2 (Below.refl _ _) (mayA_wrap own who epoch (cutA s) hs) ho
  rw [← hU, ← hN] at CO'
  have CO : Hid (∀ w, Tabs w → Calls Tryz.prog 22 #[.string U, .string N, .string ⟨#[119, 114, 97, 112]⟩, .string s] w fun e w' => e = .returned (.tuple #[.string T, .int .i64 0]) ∧ Below w.heap.size w w') := CO'
  clear CW' CO' hU hN hT h hs ho hTx hk
  go_enter Tryz.func8, Tryz.ntmps8
  go_wp2_with fail
  refine (C1.out w).mono ?_
  rintro e w0 ⟨rfl, hw0⟩
  rw [hw0]
  clear hw0 w0
  go_wp2_with fail
  refine CW.out.mono ?_
  rintro e w1 ⟨rfl, hb1⟩
  go_wp2_with fail
  refine (CO.out w1 (HT.out.below hb1)).mono ?_
  rintro e w2 ⟨rfl, hb2⟩
  have hB2 := below_step hb1 (Nat.le_refl _) hb2
  clear hb1 hb2
  go_wp2_with fail
  refine (C2.out w2).mono ?_
  rintro e w3 ⟨rfl, hw3⟩
  rw [hw3]
  clear hw3 w3
  go_wp2_with fail
  go_ret2
  exact ⟨rfl, hB2⟩
theorem unwrap_back (own key : ByteArray) (who epoch : Int) : opensW own who epoch (wrapB own who epoch key) ∧ textW own who epoch (wrapB own who epoch key) = key := opens_seal _ _ _ _
theorem wrapB_size (own key : ByteArray) (who epoch : Int) : (wrapB own who epoch key).size = key.size + 16 := sealB_size _ _ _ _
theorem wrapB_cut (own key : ByteArray) (who epoch : Int) : cutA (wrapB own who epoch key) = key.size := by unfold cutA; rw [wrapB_size]; omega
end Go.Proofs.YtabhkebkbidfhaaGreatDoor

namespace Go.Proofs.YtabhkebkbidfhaaGreatDoor
open Go.RowKit
set_option maxRecDepth 100000
set_option linter.unusedSimpArgs false
set_option maxHeartbeats 1000000 in
set_option maxRecDepth 100000 in
theorem rnumber15 (n : Int) (w : World) (h0 : 0 ≤ n) (h1 : n ≤ 1099511627775) :
    Calls Tryz.prog 68 #[.int .i64 n] w fun e w' => e = .returned (.string (bigB n 6)) ∧ Below w.heap.size w w' := by
  obtain ⟨M, hM⟩ : ∃ M, M = bigB n 6 := ⟨_, rfl⟩
  have hq := numP_new n 6 1099511627775 h0 h1 (by decide)
  rw [← hM] at hq ⊢
  have CN' := fun w => rnum_any (ByteArray.empty, false) n w (by decide)
  rw [hq] at CN'
  have CN : Hid (∀ w, Calls Tryz.prog 96 #[.agg #[.string ⟨#[]⟩, .bool false], .int .i64 n] w fun e w' => e = .returned (.agg #[.string M, .bool false]) ∧ Below w.heap.size w w') := CN'
  have CD : Hid (∀ w, Calls Tryz.prog 95 #[.agg #[.string M, .bool false]] w fun e w' => e = .returned (.tuple #[.string M, .int .i64 0]) ∧ Below w.heap.size w w') := fun w => rdone_any (M, false) w
  clear CN' hq hM h0 h1
  go_enter Tryz.func68, Tryz.ntmps68
  go_wp2_with fail
  refine (CN.out w).mono ?_
  rintro e w1 ⟨rfl, hb1⟩
  go_wp2_with fail
  refine (CD.out w1).mono ?_
  rintro e w2 ⟨rfl, hb2⟩
  have hB2 := below_step hb1 (Nat.le_refl _) hb2
  clear hb1 hb2
  go_wp2_with fail
  go_ret
  exact ⟨rfl, hB2⟩
theorem row_one (W : World) (k : Nat) : Row8 (W.alloc (.cells #[.int .u8 (k : Int)] 5)) W.heap.size 1 (fun _ => k) := by
  refine ⟨_, _, _, heap_alloc_last W _, Or.inr rfl, fun j hj => ?_⟩
  obtain rfl : j = 0 := by omega
  rfl
theorem bigB_one (k : Nat) (h : k < 256) : bigB (k : Int) 1 = ⟨(bytesOf 1 (fun _ => k)).toArray⟩ := by
  unfold bigB
  congr 2
  unfold bytesOf
  apply List.map_congr_left
  intro j hj
  have hj0 : j = 0 := by simp at hj; exact hj
  subst hj0
  unfold bigF
  have e : ((k : Int) / 2 ^ (8 * (1 - 1 - 0)) % 256).toNat = k := by
    show ((k : Int) / 1 % 256).toNat = k
    omega
  rw [e]
theorem conv_one {W : World} {g k : Nat} (h : Row8 W g 1 (fun _ => k)) (hk : k ≤ 6) : (convert 68 9 (.slice (some ⟨g, 0, none⟩) 1 1)).run Tryz.prog W = .ok (.string (bigB (k : Int) 1)) W := by
  have := Row8.conv (P := Tryz.prog) h (fun _ => by show k < 256; omega) 1 1 (Nat.le_refl _) 68 9 Tryz.underlying68 Tryz.underlying5 Tryz.underlying9
  rw [this, bigB_one k (by omega)]
theorem conv_zero5 {W : World} {g : Nat} (h : Row8 W g 5 (fun _ => 0)) : (convert 68 9 (.slice (some ⟨g, 0, none⟩) 5 5)).run Tryz.prog W = .ok (.string nought5) W := by
  rw [conv_zeros h]; rfl
set_option maxHeartbeats 8000000 in
set_option maxRecDepth 100000 in
theorem rnonce_yes (who count : Int) (w : World) (h : 0 ≤ who ∧ who ≤ 6 ∧ 0 ≤ count) (hc : count ≤ 1099511627775) :
    Calls Tryz.prog 45 #[.int .i64 who, .int .i64 count] w fun e w' => e = .returned (.tuple #[.string (nonceB who count), .int .i64 0]) ∧ Below w.heap.size w w' := by
  obtain ⟨k, rfl⟩ : ∃ k : Nat, who = (k : Int) := ⟨who.toNat, by omega⟩
  have hk6 : k ≤ 6 := by omega
  obtain ⟨A, hA⟩ : ∃ A, bigB (k : Int) 1 = A := ⟨_, rfl⟩
  obtain ⟨Z, hZ⟩ : ∃ Z, nought5 = Z := ⟨_, rfl⟩
  obtain ⟨B, hBe⟩ : ∃ B, bigB count 6 = B := ⟨_, rfl⟩
  obtain ⟨N, hN⟩ : ∃ N, nonceB (k : Int) count = N := ⟨_, rfl⟩
  have CN' := fun w => rnumber15 count w h.2.2 hc
  rw [hBe] at CN'
  have CN : Hid (∀ w, _) := CN'
  have conv_one : ∀ {W : World} {g : Nat}, Row8 W g 1 (fun _ => k) → k ≤ 6 → (convert 68 9 (.slice (some ⟨g, 0, none⟩) 1 1)).run Tryz.prog W = .ok (.string A) W := fun {W g} h1 h2 => by rw [← hA]; exact conv_one h1 h2
  have conv_zero5 : ∀ {W : World} {g : Nat}, Row8 W g 5 (fun _ => 0) → (convert 68 9 (.slice (some ⟨g, 0, none⟩) 5 5)).run Tryz.prog W = .ok (.string Z) W := fun {W g} h1 => by rw [← hZ]; exact conv_zero5 h1
  obtain ⟨X, hX⟩ : ∃ X, A ++ Z = X := ⟨_, rfl⟩
  have hXN : X ++ B = N := by rw [← hX, ← hN, ← hA, ← hZ, ← hBe]; rfl
  have sA : A.size = 1 := by rw [← hA]; exact bigB_size _ _
  have sZ : Z.size = 5 := by rw [← hZ]; rfl
  have sB : B.size = 6 := by rw [← hBe]; exact bigB_size _ _
  have sX : X.size = 6 := by rw [← hX, ByteArray.size_append, sA, sZ]
  have hw8 : IntKind.u8.wrap (k : Int) = (k : Int) := by rw [IntKind.wrap_u8']; omega
  have s1 : ¬ (9223372036854775807 < A.size + Z.size) := by omega
  have s2 : ¬ (9223372036854775807 < X.size + B.size) := by omega
  have g0 : decide ((k : Int) < 0) = false := by simp
  have g1 : decide ((6 : Int) < (k : Int)) = false := by simp; omega
  have g2 : decide (count < 0) = false := by simp; omega
  have g3 : decide (1099511627775 < count) = false := by simp; omega
  rw [hN]
  clear CN' hA hZ hBe hN sA sZ sB sX h hc
  go_enter Tryz.func45, Tryz.ntmps45
  go_wp2_with fail
  refine wp_region_noPanic ?_
  refine wp_region_held_drew (S := fun _ => True) (by kernel_rfl) (by first | exact trivial | assumption | exact ⟨by assumption, by assumption⟩) (fun hHeld => ?_)
  refine take_at (i := 0) (v := ?_) rfl rfl (by kernel_rfl) (by kernel_rfl) (by kernel_rfl) (fun _ _ _ h => h) (Or.inl ⟨by rfl, ?_⟩) (by assumption) ?_
  rotate_left
  · intro w hSw; (try dsimp only at hSw); go_simp; try with_reducible rfl
  try go_frame
  refine take_at (i := 1) (v := ?_) rfl rfl (by kernel_rfl) (by kernel_rfl) (by kernel_rfl) (fun _ _ _ h => h) (Or.inl ⟨by rfl, ?_⟩) (by assumption) ?_
  rotate_left
  · intro w hSw; (try dsimp only at hSw); go_simp; try with_reducible rfl
  try go_frame
  refine take_at (i := 7) (v := ?_) rfl rfl (by kernel_rfl) (by kernel_rfl) (by kernel_rfl) (fun _ _ _ h => h) (Or.inl ⟨by rfl, ?_⟩) (by assumption) ?_
  rotate_left
  · intro w hSw; (try dsimp only at hSw); go_simp; try with_reducible rfl
  try go_frame
  have hB : Below w.heap.size w w.drew := (Below.refl _ _).drew
  generalize w.drew = v0 at *
  refine wpAnyH_ready (rs := [2, 4, 8]) (by kernel_rfl) (by simp) ?_
  refine AllReadyH.cons rfl (fun K hK => ?_) (AllReadyH.cons rfl (fun K hK => ?_) (AllReadyH.cons rfl (fun K hK => ?_) AllReadyH.nil))
  · go_simp
    refine hK.out _ _ trivial (fun hHeld => ?_)
    clear hK K
    have hB2 : Below w.heap.size w (v0.alloc (.cells #[.int .u8 (k : Int)] 5)) := hB.alloc hB.size _
    have KR : Row8 (v0.alloc (.cells #[.int .u8 (k : Int)] 5)) v0.heap.size 1 (fun _ => k) := row_one v0 k
    clear hB
    generalize v0.alloc (.cells #[.int .u8 (k : Int)] 5) = v1 at *
    have hB := hB2
    clear hB2
    refine wpAnyH_ready (rs := [3, 4, 8]) (by kernel_rfl) (by simp) ?_
    refine AllReadyH.cons rfl (fun K hK => ?_) (AllReadyH.cons rfl (fun K hK => ?_) (AllReadyH.cons rfl (fun K hK => ?_) AllReadyH.nil))
    · have hcv := conv_one KR hk6
      go_simp
      refine hK.out _ _ trivial (fun hHeld => ?_)
      clear hK K
      clear hcv
      refine wpAnyH_ready (rs := [4, 8]) (by kernel_rfl) (by simp) ?_
      refine AllReadyH.cons rfl (fun K hK => ?_) (AllReadyH.cons rfl (fun K hK => ?_) AllReadyH.nil)
      · have hmk := make_zeros 5 5 rfl (by decide) v1
        go_simp
        refine hK.out _ _ trivial (fun hHeld => ?_)
        clear hK K
        clear hmk
        have hB2 : Below w.heap.size w (v1.alloc (.cells (zcells 5) 5)) := hB.alloc hB.size _
        have KZ : Row8 (v1.alloc (.cells (zcells 5) 5)) v1.heap.size 5 (fun _ => 0) := row_zeros 5 v1
        have KR := KR.alloc (.cells (zcells 5) 5)
        clear hB
        generalize v1.alloc (.cells (zcells 5) 5) = v2 at *
        have hB := hB2
        clear hB2
        refine wpAnyH_ready (rs := [5, 8]) (by kernel_rfl) (by simp) ?_
        refine AllReadyH.cons rfl (fun K hK => ?_) (AllReadyH.cons rfl (fun K hK => ?_) AllReadyH.nil)
        · have hcv := conv_zero5 KZ
          go_simp
          refine hK.out _ _ trivial (fun hHeld => ?_)
          clear hK K
          clear hcv
          refine take_at (i := 6) (v := ?_) rfl rfl (by kernel_rfl) (by kernel_rfl) (by kernel_rfl) (fun _ _ _ h => h) (Or.inl ⟨by rfl, ?_⟩) (by assumption) ?_
          rotate_left
          · intro w hSw; (try dsimp only at hSw); go_simp; try with_reducible rfl
          try go_frame
          refine wpAnyH_ready (rs := [8]) (by kernel_rfl) (by simp) ?_
          refine AllReadyH.cons rfl (fun K hK => ?_) AllReadyH.nil
          go_simp
          refine (CN.out v2).mono ?_
          rintro e v3 ⟨rfl, hb1⟩
          refine hK.out _ _ trivial (fun hHeld => ?_)
          clear hK K
          have hB := below_step hB (Nat.le_refl _) hb1
          have KR := KR.below hb1 KR.lt
          have KZ := KZ.below hb1 KZ.lt
          clear hb1
          refine take_at (i := 9) (v := ?_) rfl rfl (by kernel_rfl) (by kernel_rfl) (by kernel_rfl) (fun _ _ _ h => h) (Or.inl ⟨by rfl, ?_⟩) (by assumption) ?_
          rotate_left
          · intro w hSw; (try dsimp only at hSw); go_simp; try with_reducible rfl
          try go_frame
          refine take_at (i := 10) (v := ?_) rfl rfl (by kernel_rfl) (by kernel_rfl) (by kernel_rfl) (fun _ _ _ h => h) (Or.inl ⟨by rfl, ?_⟩) (by assumption) ?_
          rotate_left
          · intro w hSw; (try dsimp only at hSw); go_simp; try with_reducible rfl
          try go_frame
          refine take_at (i := 11) (v := ?_) rfl rfl (by kernel_rfl) (by kernel_rfl) (by kernel_rfl) (fun _ _ _ h => h) (Or.inl ⟨by rfl, ?_⟩) (by assumption) ?_
          rotate_left
          · intro w hSw; (try dsimp only at hSw); go_simp; try with_reducible rfl
          try go_frame
          refine wpAnyH_done (by kernel_rfl) (NoPanic.normal ?_) _
          go_wp2_with fail
          go_ret2
          exact ⟨rfl, hB⟩
        · go_simp
          refine (CN.out v2).mono ?_
          rintro e v4 ⟨rfl, hb1⟩
          refine hK.out _ _ trivial (fun hHeld => ?_)
          clear hK K
          have hB := below_step hB (Nat.le_refl _) hb1
          have KR := KR.below hb1 KR.lt
          have KZ := KZ.below hb1 KZ.lt
          clear hb1
          refine wpAnyH_ready (rs := [5]) (by kernel_rfl) (by simp) ?_
          refine AllReadyH.cons rfl (fun K hK => ?_) AllReadyH.nil
          have hcv := conv_zero5 KZ
          go_simp
          refine hK.out _ _ trivial (fun hHeld => ?_)
          clear hK K
          clear hcv
          refine take_at (i := 6) (v := ?_) rfl rfl (by kernel_rfl) (by kernel_rfl) (by kernel_rfl) (fun _ _ _ h => h) (Or.inl ⟨by rfl, ?_⟩) (by assumption) ?_
          rotate_left
          · intro w hSw; (try dsimp only at hSw); go_simp; try with_reducible rfl
          try go_frame
          refine take_at (i := 9) (v := ?_) rfl rfl (by kernel_rfl) (by kernel_rfl) (by kernel_rfl) (fun _ _ _ h => h) (Or.inl ⟨by rfl, ?_⟩) (by assumption) ?_
          rotate_left
          · intro w hSw; (try dsimp only at hSw); go_simp; try with_reducible rfl
          try go_frame
          refine take_at (i := 10) (v := ?_) rfl rfl (by kernel_rfl) (by kernel_rfl) (by kernel_rfl) (fun _ _ _ h => h) (Or.inl ⟨by rfl, ?_⟩) (by assumption) ?_
          rotate_left
          · intro w hSw; (try dsimp only at hSw); go_simp; try with_reducible rfl
          try go_frame
          refine take_at (i := 11) (v := ?_) rfl rfl (by kernel_rfl) (by kernel_rfl) (by kernel_rfl) (fun _ _ _ h => h) (Or.inl ⟨by rfl, ?_⟩) (by assumption) ?_
          rotate_left
          · intro w hSw; (try dsimp only at hSw); go_simp; try with_reducible rfl
          try go_frame
          refine wpAnyH_done (by kernel_rfl) (NoPanic.normal ?_) _
          go_wp2_with fail
          go_ret2
          exact ⟨rfl, hB⟩
      · go_simp
        refine (CN.out v1).mono ?_
        rintro e v5 ⟨rfl, hb1⟩
        refine hK.out _ _ trivial (fun hHeld => ?_)
        clear hK K
        have hB := below_step hB (Nat.le_refl _) hb1
        have KR := KR.below hb1 KR.lt
        clear hb1
        refine wpAnyH_ready (rs := [4]) (by kernel_rfl) (by simp) ?_
        refine AllReadyH.cons rfl (fun K hK => ?_) AllReadyH.nil
        have hmk := make_zeros 5 5 rfl (by decide) v5
        go_simp
        refine hK.out _ _ trivial (fun hHeld => ?_)
        clear hK K
        clear hmk
        have hB2 : Below w.heap.size w (v5.alloc (.cells (zcells 5) 5)) := hB.alloc hB.size _
        have KZ : Row8 (v5.alloc (.cells (zcells 5) 5)) v5.heap.size 5 (fun _ => 0) := row_zeros 5 v5
        have KR := KR.alloc (.cells (zcells 5) 5)
        clear hB
        generalize v5.alloc (.cells (zcells 5) 5) = v6 at *
        have hB := hB2
        clear hB2
        refine wpAnyH_ready (rs := [5]) (by kernel_rfl) (by simp) ?_
        refine AllReadyH.cons rfl (fun K hK => ?_) AllReadyH.nil
        have hcv := conv_zero5 KZ
        go_simp
        refine hK.out _ _ trivial (fun hHeld => ?_)
        clear hK K
        clear hcv
        refine take_at (i := 6) (v := ?_) rfl rfl (by kernel_rfl) (by kernel_rfl) (by kernel_rfl) (fun _ _ _ h => h) (Or.inl ⟨by rfl, ?_⟩) (by assumption) ?_
        rotate_left
        · intro w hSw; (try dsimp only at hSw); go_simp; try with_reducible rfl
        try go_frame
        refine take_at (i := 9) (v := ?_) rfl rfl (by kernel_rfl) (by kernel_rfl) (by kernel_rfl) (fun _ _ _ h => h) (Or.inl ⟨by rfl, ?_⟩) (by assumption) ?_
        rotate_left
        · intro w hSw; (try dsimp only at hSw); go_simp; try with_reducible rfl
        try go_frame
        refine take_at (i := 10) (v := ?_) rfl rfl (by kernel_rfl) (by kernel_rfl) (by kernel_rfl) (fun _ _ _ h => h) (Or.inl ⟨by rfl, ?_⟩) (by assumption) ?_
        rotate_left
        · intro w hSw; (try dsimp only at hSw); go_simp; try with_reducible rfl
        try go_frame
        refine take_at (i := 11) (v := ?_) rfl rfl (by kernel_rfl) (by kernel_rfl) (by kernel_rfl) (fun _ _ _ h => h) (Or.inl ⟨by rfl, ?_⟩) (by assumption) ?_
        rotate_left
        · intro w hSw; (try dsimp only at hSw); go_simp; try with_reducible rfl
        try go_frame
        refine wpAnyH_done (by kernel_rfl) (NoPanic.normal ?_) _
        go_wp2_with fail
        go_ret2
        exact ⟨rfl, hB⟩
    · have hmk := make_zeros 5 5 rfl (by decide) v1
      go_simp
      refine hK.out _ _ trivial (fun hHeld => ?_)
      clear hK K
      clear hmk
      have hB2 : Below w.heap.size w (v1.alloc (.cells (zcells 5) 5)) := hB.alloc hB.size _
      have KZ : Row8 (v1.alloc (.cells (zcells 5) 5)) v1.heap.size 5 (fun _ => 0) := row_zeros 5 v1
      have KR := KR.alloc (.cells (zcells 5) 5)
      clear hB
      generalize v1.alloc (.cells (zcells 5) 5) = v7 at *
      have hB := hB2
      clear hB2
      refine wpAnyH_ready (rs := [3, 5, 8]) (by kernel_rfl) (by simp) ?_
      refine AllReadyH.cons rfl (fun K hK => ?_) (AllReadyH.cons rfl (fun K hK => ?_) (AllReadyH.cons rfl (fun K hK => ?_) AllReadyH.nil))
      · have hcv := conv_one KR hk6
        go_simp
        refine hK.out _ _ trivial (fun hHeld => ?_)
        clear hK K
        clear hcv
        refine wpAnyH_ready (rs := [5, 8]) (by kernel_rfl) (by simp) ?_
        refine AllReadyH.cons rfl (fun K hK => ?_) (AllReadyH.cons rfl (fun K hK => ?_) AllReadyH.nil)
        · have hcv := conv_zero5 KZ
          go_simp
          refine hK.out _ _ trivial (fun hHeld => ?_)
          clear hK K
          clear hcv
          refine take_at (i := 6) (v := ?_) rfl rfl (by kernel_rfl) (by kernel_rfl) (by kernel_rfl) (fun _ _ _ h => h) (Or.inl ⟨by rfl, ?_⟩) (by assumption) ?_
          rotate_left
          · intro w hSw; (try dsimp only at hSw); go_simp; try with_reducible rfl
          try go_frame
          refine wpAnyH_ready (rs := [8]) (by kernel_rfl) (by simp) ?_
          refine AllReadyH.cons rfl (fun K hK => ?_) AllReadyH.nil
          go_simp
          refine (CN.out v7).mono ?_
          rintro e v8 ⟨rfl, hb1⟩
          refine hK.out _ _ trivial (fun hHeld => ?_)
          clear hK K
          have hB := below_step hB (Nat.le_refl _) hb1
          have KR := KR.below hb1 KR.lt
          have KZ := KZ.below hb1 KZ.lt
          clear hb1
          refine take_at (i := 9) (v := ?_) rfl rfl (by kernel_rfl) (by kernel_rfl) (by kernel_rfl) (fun _ _ _ h => h) (Or.inl ⟨by rfl, ?_⟩) (by assumption) ?_
          rotate_left
          · intro w hSw; (try dsimp only at hSw); go_simp; try with_reducible rfl
          try go_frame
          refine take_at (i := 10) (v := ?_) rfl rfl (by kernel_rfl) (by kernel_rfl) (by kernel_rfl) (fun _ _ _ h => h) (Or.inl ⟨by rfl, ?_⟩) (by assumption) ?_
          rotate_left
          · intro w hSw; (try dsimp only at hSw); go_simp; try with_reducible rfl
          try go_frame
          refine take_at (i := 11) (v := ?_) rfl rfl (by kernel_rfl) (by kernel_rfl) (by kernel_rfl) (fun _ _ _ h => h) (Or.inl ⟨by rfl, ?_⟩) (by assumption) ?_
          rotate_left
          · intro w hSw; (try dsimp only at hSw); go_simp; try with_reducible rfl
          try go_frame
          refine wpAnyH_done (by kernel_rfl) (NoPanic.normal ?_) _
          go_wp2_with fail
          go_ret2
          exact ⟨rfl, hB⟩
        · go_simp
          refine (CN.out v7).mono ?_
          rintro e v9 ⟨rfl, hb1⟩
          refine hK.out _ _ trivial (fun hHeld => ?_)
          clear hK K
          have hB := below_step hB (Nat.le_refl _) hb1
          have KR := KR.below hb1 KR.lt
          have KZ := KZ.below hb1 KZ.lt
          clear hb1
          refine wpAnyH_ready (rs := [5]) (by kernel_rfl) (by simp) ?_
          refine AllReadyH.cons rfl (fun K hK => ?_) AllReadyH.nil
          have hcv := conv_zero5 KZ
          go_simp
          refine hK.out _ _ trivial (fun hHeld => ?_)
          clear hK K
          clear hcv
          refine take_at (i := 6) (v := ?_) rfl rfl (by kernel_rfl) (by kernel_rfl) (by kernel_rfl) (fun _ _ _ h => h) (Or.inl ⟨by rfl, ?_⟩) (by assumption) ?_
          rotate_left
          · intro w hSw; (try dsimp only at hSw); go_simp; try with_reducible rfl
          try go_frame
          refine take_at (i := 9) (v := ?_) rfl rfl (by kernel_rfl) (by kernel_rfl) (by kernel_rfl) (fun _ _ _ h => h) (Or.inl ⟨by rfl, ?_⟩) (by assumption) ?_
          rotate_left
          · intro w hSw; (try dsimp only at hSw); go_simp; try with_reducible rfl
          try go_frame
          refine take_at (i := 10) (v := ?_) rfl rfl (by kernel_rfl) (by kernel_rfl) (by kernel_rfl) (fun _ _ _ h => h) (Or.inl ⟨by rfl, ?_⟩) (by assumption) ?_
          rotate_left
          · intro w hSw; (try dsimp only at hSw); go_simp; try with_reducible rfl
          try go_frame
          refine take_at (i := 11) (v := ?_) rfl rfl (by kernel_rfl) (by kernel_rfl) (by kernel_rfl) (fun _ _ _ h => h) (Or.inl ⟨by rfl, ?_⟩) (by assumption) ?_
          rotate_left
          · intro w hSw; (try dsimp only at hSw); go_simp; try with_reducible rfl
          try go_frame
          refine wpAnyH_done (by kernel_rfl) (NoPanic.normal ?_) _
          go_wp2_with fail
          go_ret2
          exact ⟨rfl, hB⟩
      · have hcv := conv_zero5 KZ
        go_simp
        refine hK.out _ _ trivial (fun hHeld => ?_)
        clear hK K
        clear hcv
        refine wpAnyH_ready (rs := [3, 8]) (by kernel_rfl) (by simp) ?_
        refine AllReadyH.cons rfl (fun K hK => ?_) (AllReadyH.cons rfl (fun K hK => ?_) AllReadyH.nil)
        · have hcv := conv_one KR hk6
          go_simp
          refine hK.out _ _ trivial (fun hHeld => ?_)
          clear hK K
          clear hcv
          refine take_at (i := 6) (v := ?_) rfl rfl (by kernel_rfl) (by kernel_rfl) (by kernel_rfl) (fun _ _ _ h => h) (Or.inl ⟨by rfl, ?_⟩) (by assumption) ?_
          rotate_left
          · intro w hSw; (try dsimp only at hSw); go_simp; try with_reducible rfl
          try go_frame
          refine wpAnyH_ready (rs := [8]) (by kernel_rfl) (by simp) ?_
          refine AllReadyH.cons rfl (fun K hK => ?_) AllReadyH.nil
          go_simp
          refine (CN.out v7).mono ?_
          rintro e v10 ⟨rfl, hb1⟩
          refine hK.out _ _ trivial (fun hHeld => ?_)
          clear hK K
          have hB := below_step hB (Nat.le_refl _) hb1
          have KR := KR.below hb1 KR.lt
          have KZ := KZ.below hb1 KZ.lt
          clear hb1
          refine take_at (i := 9) (v := ?_) rfl rfl (by kernel_rfl) (by kernel_rfl) (by kernel_rfl) (fun _ _ _ h => h) (Or.inl ⟨by rfl, ?_⟩) (by assumption) ?_
          rotate_left
          · intro w hSw; (try dsimp only at hSw); go_simp; try with_reducible rfl
          try go_frame
          refine take_at (i := 10) (v := ?_) rfl rfl (by kernel_rfl) (by kernel_rfl) (by kernel_rfl) (fun _ _ _ h => h) (Or.inl ⟨by rfl, ?_⟩) (by assumption) ?_
          rotate_left
          · intro w hSw; (try dsimp only at hSw); go_simp; try with_reducible rfl
          try go_frame
          refine take_at (i := 11) (v := ?_) rfl rfl (by kernel_rfl) (by kernel_rfl) (by kernel_rfl) (fun _ _ _ h => h) (Or.inl ⟨by rfl, ?_⟩) (by assumption) ?_
          rotate_left
          · intro w hSw; (try dsimp only at hSw); go_simp; try with_reducible rfl
          try go_frame
          refine wpAnyH_done (by kernel_rfl) (NoPanic.normal ?_) _
          go_wp2_with fail
          go_ret2
          exact ⟨rfl, hB⟩
        · go_simp
          refine (CN.out v7).mono ?_
          rintro e v11 ⟨rfl, hb1⟩
          refine hK.out _ _ trivial (fun hHeld => ?_)
          clear hK K
          have hB := below_step hB (Nat.le_refl _) hb1
          have KR := KR.below hb1 KR.lt
          have KZ := KZ.below hb1 KZ.lt
          clear hb1
          refine wpAnyH_ready (rs := [3]) (by kernel_rfl) (by simp) ?_
          refine AllReadyH.cons rfl (fun K hK => ?_) AllReadyH.nil
          have hcv := conv_one KR hk6
          go_simp
          refine hK.out _ _ trivial (fun hHeld => ?_)
          clear hK K
          clear hcv
          refine take_at (i := 6) (v := ?_) rfl rfl (by kernel_rfl) (by kernel_rfl) (by kernel_rfl) (fun _ _ _ h => h) (Or.inl ⟨by rfl, ?_⟩) (by assumption) ?_
          rotate_left
          · intro w hSw; (try dsimp only at hSw); go_simp; try with_reducible rfl
          try go_frame
          refine take_at (i := 9) (v := ?_) rfl rfl (by kernel_rfl) (by kernel_rfl) (by kernel_rfl) (fun _ _ _ h => h) (Or.inl ⟨by rfl, ?_⟩) (by assumption) ?_
          rotate_left
          · intro w hSw; (try dsimp only at hSw); go_simp; try with_reducible rfl
          try go_frame
          refine take_at (i := 10) (v := ?_) rfl rfl (by kernel_rfl) (by kernel_rfl) (by kernel_rfl) (fun _ _ _ h => h) (Or.inl ⟨by rfl, ?_⟩) (by assumption) ?_
          rotate_left
          · intro w hSw; (try dsimp only at hSw); go_simp; try with_reducible rfl
          try go_frame
          refine take_at (i := 11) (v := ?_) rfl rfl (by kernel_rfl) (by kernel_rfl) (by kernel_rfl) (fun _ _ _ h => h) (Or.inl ⟨by rfl, ?_⟩) (by assumption) ?_
          rotate_left
          · intro w hSw; (try dsimp only at hSw); go_simp; try with_reducible rfl
          try go_frame
          refine wpAnyH_done (by kernel_rfl) (NoPanic.normal ?_) _
          go_wp2_with fail
          go_ret2
          exact ⟨rfl, hB⟩
      · go_simp
        refine (CN.out v7).mono ?_
        rintro e v12 ⟨rfl, hb1⟩
        refine hK.out _ _ trivial (fun hHeld => ?_)
        clear hK K
        have hB := below_step hB (Nat.le_refl _) hb1
        have KR := KR.below hb1 KR.lt
        have KZ := KZ.below hb1 KZ.lt
        clear hb1
        refine wpAnyH_ready (rs := [3, 5]) (by kernel_rfl) (by simp) ?_
        refine AllReadyH.cons rfl (fun K hK => ?_) (AllReadyH.cons rfl (fun K hK => ?_) AllReadyH.nil)
        · have hcv := conv_one KR hk6
          go_simp
          refine hK.out _ _ trivial (fun hHeld => ?_)
          clear hK K
          clear hcv
          refine wpAnyH_ready (rs := [5]) (by kernel_rfl) (by simp) ?_
          refine AllReadyH.cons rfl (fun K hK => ?_) AllReadyH.nil
          have hcv := conv_zero5 KZ
          go_simp
          refine hK.out _ _ trivial (fun hHeld => ?_)
          clear hK K
          clear hcv
          refine take_at (i := 6) (v := ?_) rfl rfl (by kernel_rfl) (by kernel_rfl) (by kernel_rfl) (fun _ _ _ h => h) (Or.inl ⟨by rfl, ?_⟩) (by assumption) ?_
          rotate_left
          · intro w hSw; (try dsimp only at hSw); go_simp; try with_reducible rfl
          try go_frame
          refine take_at (i := 9) (v := ?_) rfl rfl (by kernel_rfl) (by kernel_rfl) (by kernel_rfl) (fun _ _ _ h => h) (Or.inl ⟨by rfl, ?_⟩) (by assumption) ?_
          rotate_left
          · intro w hSw; (try dsimp only at hSw); go_simp; try with_reducible rfl
          try go_frame
          refine take_at (i := 10) (v := ?_) rfl rfl (by kernel_rfl) (by kernel_rfl) (by kernel_rfl) (fun _ _ _ h => h) (Or.inl ⟨by rfl, ?_⟩) (by assumption) ?_
          rotate_left
          · intro w hSw; (try dsimp only at hSw); go_simp; try with_reducible rfl
          try go_frame
          refine take_at (i := 11) (v := ?_) rfl rfl (by kernel_rfl) (by kernel_rfl) (by kernel_rfl) (fun _ _ _ h => h) (Or.inl ⟨by rfl, ?_⟩) (by assumption) ?_
          rotate_left
          · intro w hSw; (try dsimp only at hSw); go_simp; try with_reducible rfl
          try go_frame
          refine wpAnyH_done (by kernel_rfl) (NoPanic.normal ?_) _
          go_wp2_with fail
          go_ret2
          exact ⟨rfl, hB⟩
        · have hcv := conv_zero5 KZ
          go_simp
          refine hK.out _ _ trivial (fun hHeld => ?_)
          clear hK K
          clear hcv
          refine wpAnyH_ready (rs := [3]) (by kernel_rfl) (by simp) ?_
          refine AllReadyH.cons rfl (fun K hK => ?_) AllReadyH.nil
          have hcv := conv_one KR hk6
          go_simp
          refine hK.out _ _ trivial (fun hHeld => ?_)
          clear hK K
          clear hcv
          refine take_at (i := 6) (v := ?_) rfl rfl (by kernel_rfl) (by kernel_rfl) (by kernel_rfl) (fun _ _ _ h => h) (Or.inl ⟨by rfl, ?_⟩) (by assumption) ?_
          rotate_left
          · intro w hSw; (try dsimp only at hSw); go_simp; try with_reducible rfl
          try go_frame
          refine take_at (i := 9) (v := ?_) rfl rfl (by kernel_rfl) (by kernel_rfl) (by kernel_rfl) (fun _ _ _ h => h) (Or.inl ⟨by rfl, ?_⟩) (by assumption) ?_
          rotate_left
          · intro w hSw; (try dsimp only at hSw); go_simp; try with_reducible rfl
          try go_frame
          refine take_at (i := 10) (v := ?_) rfl rfl (by kernel_rfl) (by kernel_rfl) (by kernel_rfl) (fun _ _ _ h => h) (Or.inl ⟨by rfl, ?_⟩) (by assumption) ?_
          rotate_left
          · intro w hSw; (try dsimp only at hSw); go_simp; try with_reducible rfl
          try go_frame
          refine take_at (i := 11) (v := ?_) rfl rfl (by kernel_rfl) (by kernel_rfl) (by kernel_rfl) (fun _ _ _ h => h) (Or.inl ⟨by rfl, ?_⟩) (by assumption) ?_
          rotate_left
          · intro w hSw; (try dsimp only at hSw); go_simp; try with_reducible rfl
          try go_frame
          refine wpAnyH_done (by kernel_rfl) (NoPanic.normal ?_) _
          go_wp2_with fail
          go_ret2
          exact ⟨rfl, hB⟩
    · go_simp
      refine (CN.out v1).mono ?_
      rintro e v13 ⟨rfl, hb1⟩
      refine hK.out _ _ trivial (fun hHeld => ?_)
      clear hK K
      have hB := below_step hB (Nat.le_refl _) hb1
      have KR := KR.below hb1 KR.lt
      clear hb1
      refine wpAnyH_ready (rs := [3, 4]) (by kernel_rfl) (by simp) ?_
      refine AllReadyH.cons rfl (fun K hK => ?_) (AllReadyH.cons rfl (fun K hK => ?_) AllReadyH.nil)
      · have hcv := conv_one KR hk6
        go_simp
        refine hK.out _ _ trivial (fun hHeld => ?_)
        clear hK K
        clear hcv
        refine wpAnyH_ready (rs := [4]) (by kernel_rfl) (by simp) ?_
        refine AllReadyH.cons rfl (fun K hK => ?_) AllReadyH.nil
        have hmk := make_zeros 5 5 rfl (by decide) v13
        go_simp
        refine hK.out _ _ trivial (fun hHeld => ?_)
        clear hK K
        clear hmk
        have hB2 : Below w.heap.size w (v13.alloc (.cells (zcells 5) 5)) := hB.alloc hB.size _
        have KZ : Row8 (v13.alloc (.cells (zcells 5) 5)) v13.heap.size 5 (fun _ => 0) := row_zeros 5 v13
        have KR := KR.alloc (.cells (zcells 5) 5)
        clear hB
        generalize v13.alloc (.cells (zcells 5) 5) = v14 at *
        have hB := hB2
        clear hB2
        refine wpAnyH_ready (rs := [5]) (by kernel_rfl) (by simp) ?_
        refine AllReadyH.cons rfl (fun K hK => ?_) AllReadyH.nil
        have hcv := conv_zero5 KZ
        go_simp
        refine hK.out _ _ trivial (fun hHeld => ?_)
        clear hK K
        clear hcv
        refine take_at (i := 6) (v := ?_) rfl rfl (by kernel_rfl) (by kernel_rfl) (by kernel_rfl) (fun _ _ _ h => h) (Or.inl ⟨by rfl, ?_⟩) (by assumption) ?_
        rotate_left
        · intro w hSw; (try dsimp only at hSw); go_simp; try with_reducible rfl
        try go_frame
        refine take_at (i := 9) (v := ?_) rfl rfl (by kernel_rfl) (by kernel_rfl) (by kernel_rfl) (fun _ _ _ h => h) (Or.inl ⟨by rfl, ?_⟩) (by assumption) ?_
        rotate_left
        · intro w hSw; (try dsimp only at hSw); go_simp; try with_reducible rfl
        try go_frame
        refine take_at (i := 10) (v := ?_) rfl rfl (by kernel_rfl) (by kernel_rfl) (by kernel_rfl) (fun _ _ _ h => h) (Or.inl ⟨by rfl, ?_⟩) (by assumption) ?_
        rotate_left
        · intro w hSw; (try dsimp only at hSw); go_simp; try with_reducible rfl
        try go_frame
        refine take_at (i := 11) (v := ?_) rfl rfl (by kernel_rfl) (by kernel_rfl) (by kernel_rfl) (fun _ _ _ h => h) (Or.inl ⟨by rfl, ?_⟩) (by assumption) ?_
        rotate_left
        · intro w hSw; (try dsimp only at hSw); go_simp; try with_reducible rfl
        try go_frame
        refine wpAnyH_done (by kernel_rfl) (NoPanic.normal ?_) _
        go_wp2_with fail
        go_ret2
        exact ⟨rfl, hB⟩
      · have hmk := make_zeros 5 5 rfl (by decide) v13
        go_simp
        refine hK.out _ _ trivial (fun hHeld => ?_)
        clear hK K
        clear hmk
        have hB2 : Below w.heap.size w (v13.alloc (.cells (zcells 5) 5)) := hB.alloc hB.size _
        have KZ : Row8 (v13.alloc (.cells (zcells 5) 5)) v13.heap.size 5 (fun _ => 0) := row_zeros 5 v13
        have KR := KR.alloc (.cells (zcells 5) 5)
        clear hB
        generalize v13.alloc (.cells (zcells 5) 5) = v15 at *
        have hB := hB2
        clear hB2
        refine wpAnyH_ready (rs := [3, 5]) (by kernel_rfl) (by simp) ?_
        refine AllReadyH.cons rfl (fun K hK => ?_) (AllReadyH.cons rfl (fun K hK => ?_) AllReadyH.nil)
        · have hcv := conv_one KR hk6
          go_simp
          refine hK.out _ _ trivial (fun hHeld => ?_)
          clear hK K
          clear hcv
          refine wpAnyH_ready (rs := [5]) (by kernel_rfl) (by simp) ?_
          refine AllReadyH.cons rfl (fun K hK => ?_) AllReadyH.nil
          have hcv := conv_zero5 KZ
          go_simp
          refine hK.out _ _ trivial (fun hHeld => ?_)
          clear hK K
          clear hcv
          refine take_at (i := 6) (v := ?_) rfl rfl (by kernel_rfl) (by kernel_rfl) (by kernel_rfl) (fun _ _ _ h => h) (Or.inl ⟨by rfl, ?_⟩) (by assumption) ?_
          rotate_left
          · intro w hSw; (try dsimp only at hSw); go_simp; try with_reducible rfl
          try go_frame
          refine take_at (i := 9) (v := ?_) rfl rfl (by kernel_rfl) (by kernel_rfl) (by kernel_rfl) (fun _ _ _ h => h) (Or.inl ⟨by rfl, ?_⟩) (by assumption) ?_
          rotate_left
          · intro w hSw; (try dsimp only at hSw); go_simp; try with_reducible rfl
          try go_frame
          refine take_at (i := 10) (v := ?_) rfl rfl (by kernel_rfl) (by kernel_rfl) (by kernel_rfl) (fun _ _ _ h => h) (Or.inl ⟨by rfl, ?_⟩) (by assumption) ?_
          rotate_left
          · intro w hSw; (try dsimp only at hSw); go_simp; try with_reducible rfl
          try go_frame
          refine take_at (i := 11) (v := ?_) rfl rfl (by kernel_rfl) (by kernel_rfl) (by kernel_rfl) (fun _ _ _ h => h) (Or.inl ⟨by rfl, ?_⟩) (by assumption) ?_
          rotate_left
          · intro w hSw; (try dsimp only at hSw); go_simp; try with_reducible rfl
          try go_frame
          refine wpAnyH_done (by kernel_rfl) (NoPanic.normal ?_) _
          go_wp2_with fail
          go_ret2
          exact ⟨rfl, hB⟩
        · have hcv := conv_zero5 KZ
          go_simp
          refine hK.out _ _ trivial (fun hHeld => ?_)
          clear hK K
          clear hcv
          refine wpAnyH_ready (rs := [3]) (by kernel_rfl) (by simp) ?_
          refine AllReadyH.cons rfl (fun K hK => ?_) AllReadyH.nil
          have hcv := conv_one KR hk6
          go_simp
          refine hK.out _ _ trivial (fun hHeld => ?_)
          clear hK K
          clear hcv
          refine take_at (i := 6) (v := ?_) rfl rfl (by kernel_rfl) (by kernel_rfl) (by kernel_rfl) (fun _ _ _ h => h) (Or.inl ⟨by rfl, ?_⟩) (by assumption) ?_
          rotate_left
          · intro w hSw; (try dsimp only at hSw); go_simp; try with_reducible rfl
          try go_frame
          refine take_at (i := 9) (v := ?_) rfl rfl (by kernel_rfl) (by kernel_rfl) (by kernel_rfl) (fun _ _ _ h => h) (Or.inl ⟨by rfl, ?_⟩) (by assumption) ?_
          rotate_left
          · intro w hSw; (try dsimp only at hSw); go_simp; try with_reducible rfl
          try go_frame
          refine take_at (i := 10) (v := ?_) rfl rfl (by kernel_rfl) (by kernel_rfl) (by kernel_rfl) (fun _ _ _ h => h) (Or.inl ⟨by rfl, ?_⟩) (by assumption) ?_
          rotate_left
          · intro w hSw; (try dsimp only at hSw); go_simp; try with_reducible rfl
          try go_frame
          refine take_at (i := 11) (v := ?_) rfl rfl (by kernel_rfl) (by kernel_rfl) (by kernel_rfl) (fun _ _ _ h => h) (Or.inl ⟨by rfl, ?_⟩) (by assumption) ?_
          rotate_left
          · intro w hSw; (try dsimp only at hSw); go_simp; try with_reducible rfl
          try go_frame
          refine wpAnyH_done (by kernel_rfl) (NoPanic.normal ?_) _
          go_wp2_with fail
          go_ret2
          exact ⟨rfl, hB⟩
  · have hmk := make_zeros 5 5 rfl (by decide) v0
    go_simp
    refine hK.out _ _ trivial (fun hHeld => ?_)
    clear hK K
    clear hmk
    have hB2 : Below w.heap.size w (v0.alloc (.cells (zcells 5) 5)) := hB.alloc hB.size _
    have KZ : Row8 (v0.alloc (.cells (zcells 5) 5)) v0.heap.size 5 (fun _ => 0) := row_zeros 5 v0
    clear hB
    generalize v0.alloc (.cells (zcells 5) 5) = v16 at *
    have hB := hB2
    clear hB2
    refine wpAnyH_ready (rs := [2, 5, 8]) (by kernel_rfl) (by simp) ?_
    refine AllReadyH.cons rfl (fun K hK => ?_) (AllReadyH.cons rfl (fun K hK => ?_) (AllReadyH.cons rfl (fun K hK => ?_) AllReadyH.nil))
    · go_simp
      refine hK.out _ _ trivial (fun hHeld => ?_)
      clear hK K
      have hB2 : Below w.heap.size w (v16.alloc (.cells #[.int .u8 (k : Int)] 5)) := hB.alloc hB.size _
      have KR : Row8 (v16.alloc (.cells #[.int .u8 (k : Int)] 5)) v16.heap.size 1 (fun _ => k) := row_one v16 k
      have KZ := KZ.alloc (.cells #[.int .u8 (k : Int)] 5)
      clear hB
      generalize v16.alloc (.cells #[.int .u8 (k : Int)] 5) = v17 at *
      have hB := hB2
      clear hB2
      refine wpAnyH_ready (rs := [3, 5, 8]) (by kernel_rfl) (by simp) ?_
      refine AllReadyH.cons rfl (fun K hK => ?_) (AllReadyH.cons rfl (fun K hK => ?_) (AllReadyH.cons rfl (fun K hK => ?_) AllReadyH.nil))
      · have hcv := conv_one KR hk6
        go_simp
        refine hK.out _ _ trivial (fun hHeld => ?_)
        clear hK K
        clear hcv
        refine wpAnyH_ready (rs := [5, 8]) (by kernel_rfl) (by simp) ?_
        refine AllReadyH.cons rfl (fun K hK => ?_) (AllReadyH.cons rfl (fun K hK => ?_) AllReadyH.nil)
        · have hcv := conv_zero5 KZ
          go_simp
          refine hK.out _ _ trivial (fun hHeld => ?_)
          clear hK K
          clear hcv
          refine take_at (i := 6) (v := ?_) rfl rfl (by kernel_rfl) (by kernel_rfl) (by kernel_rfl) (fun _ _ _ h => h) (Or.inl ⟨by rfl, ?_⟩) (by assumption) ?_
          rotate_left
          · intro w hSw; (try dsimp only at hSw); go_simp; try with_reducible rfl
          try go_frame
          refine wpAnyH_ready (rs := [8]) (by kernel_rfl) (by simp) ?_
          refine AllReadyH.cons rfl (fun K hK => ?_) AllReadyH.nil
          go_simp
          refine (CN.out v17).mono ?_
          rintro e v18 ⟨rfl, hb1⟩
          refine hK.out _ _ trivial (fun hHeld => ?_)
          clear hK K
          have hB := below_step hB (Nat.le_refl _) hb1
          have KR := KR.below hb1 KR.lt
          have KZ := KZ.below hb1 KZ.lt
          clear hb1
          refine take_at (i := 9) (v := ?_) rfl rfl (by kernel_rfl) (by kernel_rfl) (by kernel_rfl) (fun _ _ _ h => h) (Or.inl ⟨by rfl, ?_⟩) (by assumption) ?_
          rotate_left
          · intro w hSw; (try dsimp only at hSw); go_simp; try with_reducible rfl
          try go_frame
          refine take_at (i := 10) (v := ?_) rfl rfl (by kernel_rfl) (by kernel_rfl) (by kernel_rfl) (fun _ _ _ h => h) (Or.inl ⟨by rfl, ?_⟩) (by assumption) ?_
          rotate_left
          · intro w hSw; (try dsimp only at hSw); go_simp; try with_reducible rfl
          try go_frame
          refine take_at (i := 11) (v := ?_) rfl rfl (by kernel_rfl) (by kernel_rfl) (by kernel_rfl) (fun _ _ _ h => h) (Or.inl ⟨by rfl, ?_⟩) (by assumption) ?_
          rotate_left
          · intro w hSw; (try dsimp only at hSw); go_simp; try with_reducible rfl
          try go_frame
          refine wpAnyH_done (by kernel_rfl) (NoPanic.normal ?_) _
          go_wp2_with fail
          go_ret2
          exact ⟨rfl, hB⟩
        · go_simp
          refine (CN.out v17).mono ?_
          rintro e v19 ⟨rfl, hb1⟩
          refine hK.out _ _ trivial (fun hHeld => ?_)
          clear hK K
          have hB := below_step hB (Nat.le_refl _) hb1
          have KR := KR.below hb1 KR.lt
          have KZ := KZ.below hb1 KZ.lt
          clear hb1
          refine wpAnyH_ready (rs := [5]) (by kernel_rfl) (by simp) ?_
          refine AllReadyH.cons rfl (fun K hK => ?_) AllReadyH.nil
          have hcv := conv_zero5 KZ
          go_simp
          refine hK.out _ _ trivial (fun hHeld => ?_)
          clear hK K
          clear hcv
          refine take_at (i := 6) (v := ?_) rfl rfl (by kernel_rfl) (by kernel_rfl) (by kernel_rfl) (fun _ _ _ h => h) (Or.inl ⟨by rfl, ?_⟩) (by assumption) ?_
          rotate_left
          · intro w hSw; (try dsimp only at hSw); go_simp; try with_reducible rfl
          try go_frame
          refine take_at (i := 9) (v := ?_) rfl rfl (by kernel_rfl) (by kernel_rfl) (by kernel_rfl) (fun _ _ _ h => h) (Or.inl ⟨by rfl, ?_⟩) (by assumption) ?_
          rotate_left
          · intro w hSw; (try dsimp only at hSw); go_simp; try with_reducible rfl
          try go_frame
          refine take_at (i := 10) (v := ?_) rfl rfl (by kernel_rfl) (by kernel_rfl) (by kernel_rfl) (fun _ _ _ h => h) (Or.inl ⟨by rfl, ?_⟩) (by assumption) ?_
          rotate_left
          · intro w hSw; (try dsimp only at hSw); go_simp; try with_reducible rfl
          try go_frame
          refine take_at (i := 11) (v := ?_) rfl rfl (by kernel_rfl) (by kernel_rfl) (by kernel_rfl) (fun _ _ _ h => h) (Or.inl ⟨by rfl, ?_⟩) (by assumption) ?_
          rotate_left
          · intro w hSw; (try dsimp only at hSw); go_simp; try with_reducible rfl
          try go_frame
          refine wpAnyH_done (by kernel_rfl) (NoPanic.normal ?_) _
          go_wp2_with fail
          go_ret2
          exact ⟨rfl, hB⟩
      · have hcv := conv_zero5 KZ
        go_simp
        refine hK.out _ _ trivial (fun hHeld => ?_)
        clear hK K
        clear hcv
        refine wpAnyH_ready (rs := [3, 8]) (by kernel_rfl) (by simp) ?_
        refine AllReadyH.cons rfl (fun K hK => ?_) (AllReadyH.cons rfl (fun K hK => ?_) AllReadyH.nil)
        · have hcv := conv_one KR hk6
          go_simp
          refine hK.out _ _ trivial (fun hHeld => ?_)
          clear hK K
          clear hcv
          refine take_at (i := 6) (v := ?_) rfl rfl (by kernel_rfl) (by kernel_rfl) (by kernel_rfl) (fun _ _ _ h => h) (Or.inl ⟨by rfl, ?_⟩) (by assumption) ?_
          rotate_left
          · intro w hSw; (try dsimp only at hSw); go_simp; try with_reducible rfl
          try go_frame
          refine wpAnyH_ready (rs := [8]) (by kernel_rfl) (by simp) ?_
          refine AllReadyH.cons rfl (fun K hK => ?_) AllReadyH.nil
          go_simp
          refine (CN.out v17).mono ?_
          rintro e v20 ⟨rfl, hb1⟩
          refine hK.out _ _ trivial (fun hHeld => ?_)
          clear hK K
          have hB := below_step hB (Nat.le_refl _) hb1
          have KR := KR.below hb1 KR.lt
          have KZ := KZ.below hb1 KZ.lt
          clear hb1
          refine take_at (i := 9) (v := ?_) rfl rfl (by kernel_rfl) (by kernel_rfl) (by kernel_rfl) (fun _ _ _ h => h) (Or.inl ⟨by rfl, ?_⟩) (by assumption) ?_
          rotate_left
          · intro w hSw; (try dsimp only at hSw); go_simp; try with_reducible rfl
          try go_frame
          refine take_at (i := 10) (v := ?_) rfl rfl (by kernel_rfl) (by kernel_rfl) (by kernel_rfl) (fun _ _ _ h => h) (Or.inl ⟨by rfl, ?_⟩) (by assumption) ?_
          rotate_left
          · intro w hSw; (try dsimp only at hSw); go_simp; try with_reducible rfl
          try go_frame
          refine take_at (i := 11) (v := ?_) rfl rfl (by kernel_rfl) (by kernel_rfl) (by kernel_rfl) (fun _ _ _ h => h) (Or.inl ⟨by rfl, ?_⟩) (by assumption) ?_
          rotate_left
          · intro w hSw; (try dsimp only at hSw); go_simp; try with_reducible rfl
          try go_frame
          refine wpAnyH_done (by kernel_rfl) (NoPanic.normal ?_) _
          go_wp2_with fail
          go_ret2
          exact ⟨rfl, hB⟩
        · go_simp
          refine (CN.out v17).mono ?_
          rintro e v21 ⟨rfl, hb1⟩
          refine hK.out _ _ trivial (fun hHeld => ?_)
          clear hK K
          have hB := below_step hB (Nat.le_refl _) hb1
          have KR := KR.below hb1 KR.lt
          have KZ := KZ.below hb1 KZ.lt
          clear hb1
          refine wpAnyH_ready (rs := [3]) (by kernel_rfl) (by simp) ?_
          refine AllReadyH.cons rfl (fun K hK => ?_) AllReadyH.nil
          have hcv := conv_one KR hk6
          go_simp
          refine hK.out _ _ trivial (fun hHeld => ?_)
          clear hK K
          clear hcv
          refine take_at (i := 6) (v := ?_) rfl rfl (by kernel_rfl) (by kernel_rfl) (by kernel_rfl) (fun _ _ _ h => h) (Or.inl ⟨by rfl, ?_⟩) (by assumption) ?_
          rotate_left
          · intro w hSw; (try dsimp only at hSw); go_simp; try with_reducible rfl
          try go_frame
          refine take_at (i := 9) (v := ?_) rfl rfl (by kernel_rfl) (by kernel_rfl) (by kernel_rfl) (fun _ _ _ h => h) (Or.inl ⟨by rfl, ?_⟩) (by assumption) ?_
          rotate_left
          · intro w hSw; (try dsimp only at hSw); go_simp; try with_reducible rfl
          try go_frame
          refine take_at (i := 10) (v := ?_) rfl rfl (by kernel_rfl) (by kernel_rfl) (by kernel_rfl) (fun _ _ _ h => h) (Or.inl ⟨by rfl, ?_⟩) (by assumption) ?_
          rotate_left
          · intro w hSw; (try dsimp only at hSw); go_simp; try with_reducible rfl
          try go_frame
          refine take_at (i := 11) (v := ?_) rfl rfl (by kernel_rfl) (by kernel_rfl) (by kernel_rfl) (fun _ _ _ h => h) (Or.inl ⟨by rfl, ?_⟩) (by assumption) ?_
          rotate_left
          · intro w hSw; (try dsimp only at hSw); go_simp; try with_reducible rfl
          try go_frame
          refine wpAnyH_done (by kernel_rfl) (NoPanic.normal ?_) _
          go_wp2_with fail
          go_ret2
          exact ⟨rfl, hB⟩
      · go_simp
        refine (CN.out v17).mono ?_
        rintro e v22 ⟨rfl, hb1⟩
        refine hK.out _ _ trivial (fun hHeld => ?_)
        clear hK K
        have hB := below_step hB (Nat.le_refl _) hb1
        have KR := KR.below hb1 KR.lt
        have KZ := KZ.below hb1 KZ.lt
        clear hb1
        refine wpAnyH_ready (rs := [3, 5]) (by kernel_rfl) (by simp) ?_
        refine AllReadyH.cons rfl (fun K hK => ?_) (AllReadyH.cons rfl (fun K hK => ?_) AllReadyH.nil)
        · have hcv := conv_one KR hk6
          go_simp
          refine hK.out _ _ trivial (fun hHeld => ?_)
          clear hK K
          clear hcv
          refine wpAnyH_ready (rs := [5]) (by kernel_rfl) (by simp) ?_
          refine AllReadyH.cons rfl (fun K hK => ?_) AllReadyH.nil
          have hcv := conv_zero5 KZ
          go_simp
          refine hK.out _ _ trivial (fun hHeld => ?_)
          clear hK K
          clear hcv
          refine take_at (i := 6) (v := ?_) rfl rfl (by kernel_rfl) (by kernel_rfl) (by kernel_rfl) (fun _ _ _ h => h) (Or.inl ⟨by rfl, ?_⟩) (by assumption) ?_
          rotate_left
          · intro w hSw; (try dsimp only at hSw); go_simp; try with_reducible rfl
          try go_frame
          refine take_at (i := 9) (v := ?_) rfl rfl (by kernel_rfl) (by kernel_rfl) (by kernel_rfl) (fun _ _ _ h => h) (Or.inl ⟨by rfl, ?_⟩) (by assumption) ?_
          rotate_left
          · intro w hSw; (try dsimp only at hSw); go_simp; try with_reducible rfl
          try go_frame
          refine take_at (i := 10) (v := ?_) rfl rfl (by kernel_rfl) (by kernel_rfl) (by kernel_rfl) (fun _ _ _ h => h) (Or.inl ⟨by rfl, ?_⟩) (by assumption) ?_
          rotate_left
          · intro w hSw; (try dsimp only at hSw); go_simp; try with_reducible rfl
          try go_frame
          refine take_at (i := 11) (v := ?_) rfl rfl (by kernel_rfl) (by kernel_rfl) (by kernel_rfl) (fun _ _ _ h => h) (Or.inl ⟨by rfl, ?_⟩) (by assumption) ?_
          rotate_left
          · intro w hSw; (try dsimp only at hSw); go_simp; try with_reducible rfl
          try go_frame
          refine wpAnyH_done (by kernel_rfl) (NoPanic.normal ?_) _
          go_wp2_with fail
          go_ret2
          exact ⟨rfl, hB⟩
        · have hcv := conv_zero5 KZ
          go_simp
          refine hK.out _ _ trivial (fun hHeld => ?_)
          clear hK K
          clear hcv
          refine wpAnyH_ready (rs := [3]) (by kernel_rfl) (by simp) ?_
          refine AllReadyH.cons rfl (fun K hK => ?_) AllReadyH.nil
          have hcv := conv_one KR hk6
          go_simp
          refine hK.out _ _ trivial (fun hHeld => ?_)
          clear hK K
          clear hcv
          refine take_at (i := 6) (v := ?_) rfl rfl (by kernel_rfl) (by kernel_rfl) (by kernel_rfl) (fun _ _ _ h => h) (Or.inl ⟨by rfl, ?_⟩) (by assumption) ?_
          rotate_left
          · intro w hSw; (try dsimp only at hSw); go_simp; try with_reducible rfl
          try go_frame
          refine take_at (i := 9) (v := ?_) rfl rfl (by kernel_rfl) (by kernel_rfl) (by kernel_rfl) (fun _ _ _ h => h) (Or.inl ⟨by rfl, ?_⟩) (by assumption) ?_
          rotate_left
          · intro w hSw; (try dsimp only at hSw); go_simp; try with_reducible rfl
          try go_frame
          refine take_at (i := 10) (v := ?_) rfl rfl (by kernel_rfl) (by kernel_rfl) (by kernel_rfl) (fun _ _ _ h => h) (Or.inl ⟨by rfl, ?_⟩) (by assumption) ?_
          rotate_left
          · intro w hSw; (try dsimp only at hSw); go_simp; try with_reducible rfl
          try go_frame
          refine take_at (i := 11) (v := ?_) rfl rfl (by kernel_rfl) (by kernel_rfl) (by kernel_rfl) (fun _ _ _ h => h) (Or.inl ⟨by rfl, ?_⟩) (by assumption) ?_
          rotate_left
          · intro w hSw; (try dsimp only at hSw); go_simp; try with_reducible rfl
          try go_frame
          refine wpAnyH_done (by kernel_rfl) (NoPanic.normal ?_) _
          go_wp2_with fail
          go_ret2
          exact ⟨rfl, hB⟩
    · have hcv := conv_zero5 KZ
      go_simp
      refine hK.out _ _ trivial (fun hHeld => ?_)
      clear hK K
      clear hcv
      refine wpAnyH_ready (rs := [2, 8]) (by kernel_rfl) (by simp) ?_
      refine AllReadyH.cons rfl (fun K hK => ?_) (AllReadyH.cons rfl (fun K hK => ?_) AllReadyH.nil)
      · go_simp
        refine hK.out _ _ trivial (fun hHeld => ?_)
        clear hK K
        have hB2 : Below w.heap.size w (v16.alloc (.cells #[.int .u8 (k : Int)] 5)) := hB.alloc hB.size _
        have KR : Row8 (v16.alloc (.cells #[.int .u8 (k : Int)] 5)) v16.heap.size 1 (fun _ => k) := row_one v16 k
        have KZ := KZ.alloc (.cells #[.int .u8 (k : Int)] 5)
        clear hB
        generalize v16.alloc (.cells #[.int .u8 (k : Int)] 5) = v23 at *
        have hB := hB2
        clear hB2
        refine wpAnyH_ready (rs := [3, 8]) (by kernel_rfl) (by simp) ?_
        refine AllReadyH.cons rfl (fun K hK => ?_) (AllReadyH.cons rfl (fun K hK => ?_) AllReadyH.nil)
        · have hcv := conv_one KR hk6
          go_simp
          refine hK.out _ _ trivial (fun hHeld => ?_)
          clear hK K
          clear hcv
          refine take_at (i := 6) (v := ?_) rfl rfl (by kernel_rfl) (by kernel_rfl) (by kernel_rfl) (fun _ _ _ h => h) (Or.inl ⟨by rfl, ?_⟩) (by assumption) ?_
          rotate_left
          · intro w hSw; (try dsimp only at hSw); go_simp; try with_reducible rfl
          try go_frame
          refine wpAnyH_ready (rs := [8]) (by kernel_rfl) (by simp) ?_
          refine AllReadyH.cons rfl (fun K hK => ?_) AllReadyH.nil
          go_simp
          refine (CN.out v23).mono ?_
          rintro e v24 ⟨rfl, hb1⟩
          refine hK.out _ _ trivial (fun hHeld => ?_)
          clear hK K
          have hB := below_step hB (Nat.le_refl _) hb1
          have KR := KR.below hb1 KR.lt
          have KZ := KZ.below hb1 KZ.lt
          clear hb1
          refine take_at (i := 9) (v := ?_) rfl rfl (by kernel_rfl) (by kernel_rfl) (by kernel_rfl) (fun _ _ _ h => h) (Or.inl ⟨by rfl, ?_⟩) (by assumption) ?_
          rotate_left
          · intro w hSw; (try dsimp only at hSw); go_simp; try with_reducible rfl
          try go_frame
          refine take_at (i := 10) (v := ?_) rfl rfl (by kernel_rfl) (by kernel_rfl) (by kernel_rfl) (fun _ _ _ h => h) (Or.inl ⟨by rfl, ?_⟩) (by assumption) ?_
          rotate_left
          · intro w hSw; (try dsimp only at hSw); go_simp; try with_reducible rfl
          try go_frame
          refine take_at (i := 11) (v := ?_) rfl rfl (by kernel_rfl) (by kernel_rfl) (by kernel_rfl) (fun _ _ _ h => h) (Or.inl ⟨by rfl, ?_⟩) (by assumption) ?_
          rotate_left
          · intro w hSw; (try dsimp only at hSw); go_simp; try with_reducible rfl
          try go_frame
          refine wpAnyH_done (by kernel_rfl) (NoPanic.normal ?_) _
          go_wp2_with fail
          go_ret2
          exact ⟨rfl, hB⟩
        · go_simp
          refine (CN.out v23).mono ?_
          rintro e v25 ⟨rfl, hb1⟩
          refine hK.out _ _ trivial (fun hHeld => ?_)
          clear hK K
          have hB := below_step hB (Nat.le_refl _) hb1
          have KR := KR.below hb1 KR.lt
          have KZ := KZ.below hb1 KZ.lt
          clear hb1
          refine wpAnyH_ready (rs := [3]) (by kernel_rfl) (by simp) ?_
          refine AllReadyH.cons rfl (fun K hK => ?_) AllReadyH.nil
          have hcv := conv_one KR hk6
          go_simp
          refine hK.out _ _ trivial (fun hHeld => ?_)
          clear hK K
          clear hcv
          refine take_at (i := 6) (v := ?_) rfl rfl (by kernel_rfl) (by kernel_rfl) (by kernel_rfl) (fun _ _ _ h => h) (Or.inl ⟨by rfl, ?_⟩) (by assumption) ?_
          rotate_left
          · intro w hSw; (try dsimp only at hSw); go_simp; try with_reducible rfl
          try go_frame
          refine take_at (i := 9) (v := ?_) rfl rfl (by kernel_rfl) (by kernel_rfl) (by kernel_rfl) (fun _ _ _ h => h) (Or.inl ⟨by rfl, ?_⟩) (by assumption) ?_
          rotate_left
          · intro w hSw; (try dsimp only at hSw); go_simp; try with_reducible rfl
          try go_frame
          refine take_at (i := 10) (v := ?_) rfl rfl (by kernel_rfl) (by kernel_rfl) (by kernel_rfl) (fun _ _ _ h => h) (Or.inl ⟨by rfl, ?_⟩) (by assumption) ?_
          rotate_left
          · intro w hSw; (try dsimp only at hSw); go_simp; try with_reducible rfl
          try go_frame
          refine take_at (i := 11) (v := ?_) rfl rfl (by kernel_rfl) (by kernel_rfl) (by kernel_rfl) (fun _ _ _ h => h) (Or.inl ⟨by rfl, ?_⟩) (by assumption) ?_
          rotate_left
          · intro w hSw; (try dsimp only at hSw); go_simp; try with_reducible rfl
          try go_frame
          refine wpAnyH_done (by kernel_rfl) (NoPanic.normal ?_) _
          go_wp2_with fail
          go_ret2
          exact ⟨rfl, hB⟩
      · go_simp
        refine (CN.out v16).mono ?_
        rintro e v26 ⟨rfl, hb1⟩
        refine hK.out _ _ trivial (fun hHeld => ?_)
        clear hK K
        have hB := below_step hB (Nat.le_refl _) hb1
        have KZ := KZ.below hb1 KZ.lt
        clear hb1
        refine wpAnyH_ready (rs := [2]) (by kernel_rfl) (by simp) ?_
        refine AllReadyH.cons rfl (fun K hK => ?_) AllReadyH.nil
        go_simp
        refine hK.out _ _ trivial (fun hHeld => ?_)
        clear hK K
        have hB2 : Below w.heap.size w (v26.alloc (.cells #[.int .u8 (k : Int)] 5)) := hB.alloc hB.size _
        have KR : Row8 (v26.alloc (.cells #[.int .u8 (k : Int)] 5)) v26.heap.size 1 (fun _ => k) := row_one v26 k
        have KZ := KZ.alloc (.cells #[.int .u8 (k : Int)] 5)
        clear hB
        generalize v26.alloc (.cells #[.int .u8 (k : Int)] 5) = v27 at *
        have hB := hB2
        clear hB2
        refine wpAnyH_ready (rs := [3]) (by kernel_rfl) (by simp) ?_
        refine AllReadyH.cons rfl (fun K hK => ?_) AllReadyH.nil
        have hcv := conv_one KR hk6
        go_simp
        refine hK.out _ _ trivial (fun hHeld => ?_)
        clear hK K
        clear hcv
        refine take_at (i := 6) (v := ?_) rfl rfl (by kernel_rfl) (by kernel_rfl) (by kernel_rfl) (fun _ _ _ h => h) (Or.inl ⟨by rfl, ?_⟩) (by assumption) ?_
        rotate_left
        · intro w hSw; (try dsimp only at hSw); go_simp; try with_reducible rfl
        try go_frame
        refine take_at (i := 9) (v := ?_) rfl rfl (by kernel_rfl) (by kernel_rfl) (by kernel_rfl) (fun _ _ _ h => h) (Or.inl ⟨by rfl, ?_⟩) (by assumption) ?_
        rotate_left
        · intro w hSw; (try dsimp only at hSw); go_simp; try with_reducible rfl
        try go_frame
        refine take_at (i := 10) (v := ?_) rfl rfl (by kernel_rfl) (by kernel_rfl) (by kernel_rfl) (fun _ _ _ h => h) (Or.inl ⟨by rfl, ?_⟩) (by assumption) ?_
        rotate_left
        · intro w hSw; (try dsimp only at hSw); go_simp; try with_reducible rfl
        try go_frame
        refine take_at (i := 11) (v := ?_) rfl rfl (by kernel_rfl) (by kernel_rfl) (by kernel_rfl) (fun _ _ _ h => h) (Or.inl ⟨by rfl, ?_⟩) (by assumption) ?_
        rotate_left
        · intro w hSw; (try dsimp only at hSw); go_simp; try with_reducible rfl
        try go_frame
        refine wpAnyH_done (by kernel_rfl) (NoPanic.normal ?_) _
        go_wp2_with fail
        go_ret2
        exact ⟨rfl, hB⟩
    · go_simp
      refine (CN.out v16).mono ?_
      rintro e v28 ⟨rfl, hb1⟩
      refine hK.out _ _ trivial (fun hHeld => ?_)
      clear hK K
      have hB := below_step hB (Nat.le_refl _) hb1
      have KZ := KZ.below hb1 KZ.lt
      clear hb1
      refine wpAnyH_ready (rs := [2, 5]) (by kernel_rfl) (by simp) ?_
      refine AllReadyH.cons rfl (fun K hK => ?_) (AllReadyH.cons rfl (fun K hK => ?_) AllReadyH.nil)
      · go_simp
        refine hK.out _ _ trivial (fun hHeld => ?_)
        clear hK K
        have hB2 : Below w.heap.size w (v28.alloc (.cells #[.int .u8 (k : Int)] 5)) := hB.alloc hB.size _
        have KR : Row8 (v28.alloc (.cells #[.int .u8 (k : Int)] 5)) v28.heap.size 1 (fun _ => k) := row_one v28 k
        have KZ := KZ.alloc (.cells #[.int .u8 (k : Int)] 5)
        clear hB
        generalize v28.alloc (.cells #[.int .u8 (k : Int)] 5) = v29 at *
        have hB := hB2
        clear hB2
        refine wpAnyH_ready (rs := [3, 5]) (by kernel_rfl) (by simp) ?_
        refine AllReadyH.cons rfl (fun K hK => ?_) (AllReadyH.cons rfl (fun K hK => ?_) AllReadyH.nil)
        · have hcv := conv_one KR hk6
          go_simp
          refine hK.out _ _ trivial (fun hHeld => ?_)
          clear hK K
          clear hcv
          refine wpAnyH_ready (rs := [5]) (by kernel_rfl) (by simp) ?_
          refine AllReadyH.cons rfl (fun K hK => ?_) AllReadyH.nil
          have hcv := conv_zero5 KZ
          go_simp
          refine hK.out _ _ trivial (fun hHeld => ?_)
          clear hK K
          clear hcv
          refine take_at (i := 6) (v := ?_) rfl rfl (by kernel_rfl) (by kernel_rfl) (by kernel_rfl) (fun _ _ _ h => h) (Or.inl ⟨by rfl, ?_⟩) (by assumption) ?_
          rotate_left
          · intro w hSw; (try dsimp only at hSw); go_simp; try with_reducible rfl
          try go_frame
          refine take_at (i := 9) (v := ?_) rfl rfl (by kernel_rfl) (by kernel_rfl) (by kernel_rfl) (fun _ _ _ h => h) (Or.inl ⟨by rfl, ?_⟩) (by assumption) ?_
          rotate_left
          · intro w hSw; (try dsimp only at hSw); go_simp; try with_reducible rfl
          try go_frame
          refine take_at (i := 10) (v := ?_) rfl rfl (by kernel_rfl) (by kernel_rfl) (by kernel_rfl) (fun _ _ _ h => h) (Or.inl ⟨by rfl, ?_⟩) (by assumption) ?_
          rotate_left
          · intro w hSw; (try dsimp only at hSw); go_simp; try with_reducible rfl
          try go_frame
          refine take_at (i := 11) (v := ?_) rfl rfl (by kernel_rfl) (by kernel_rfl) (by kernel_rfl) (fun _ _ _ h => h) (Or.inl ⟨by rfl, ?_⟩) (by assumption) ?_
          rotate_left
          · intro w hSw; (try dsimp only at hSw); go_simp; try with_reducible rfl
          try go_frame
          refine wpAnyH_done (by kernel_rfl) (NoPanic.normal ?_) _
          go_wp2_with fail
          go_ret2
          exact ⟨rfl, hB⟩
        · have hcv := conv_zero5 KZ
          go_simp
          refine hK.out _ _ trivial (fun hHeld => ?_)
          clear hK K
          clear hcv
          refine wpAnyH_ready (rs := [3]) (by kernel_rfl) (by simp) ?_
          refine AllReadyH.cons rfl (fun K hK => ?_) AllReadyH.nil
          have hcv := conv_one KR hk6
          go_simp
          refine hK.out _ _ trivial (fun hHeld => ?_)
          clear hK K
          clear hcv
          refine take_at (i := 6) (v := ?_) rfl rfl (by kernel_rfl) (by kernel_rfl) (by kernel_rfl) (fun _ _ _ h => h) (Or.inl ⟨by rfl, ?_⟩) (by assumption) ?_
          rotate_left
          · intro w hSw; (try dsimp only at hSw); go_simp; try with_reducible rfl
          try go_frame
          refine take_at (i := 9) (v := ?_) rfl rfl (by kernel_rfl) (by kernel_rfl) (by kernel_rfl) (fun _ _ _ h => h) (Or.inl ⟨by rfl, ?_⟩) (by assumption) ?_
          rotate_left
          · intro w hSw; (try dsimp only at hSw); go_simp; try with_reducible rfl
          try go_frame
          refine take_at (i := 10) (v := ?_) rfl rfl (by kernel_rfl) (by kernel_rfl) (by kernel_rfl) (fun _ _ _ h => h) (Or.inl ⟨by rfl, ?_⟩) (by assumption) ?_
          rotate_left
          · intro w hSw; (try dsimp only at hSw); go_simp; try with_reducible rfl
          try go_frame
          refine take_at (i := 11) (v := ?_) rfl rfl (by kernel_rfl) (by kernel_rfl) (by kernel_rfl) (fun _ _ _ h => h) (Or.inl ⟨by rfl, ?_⟩) (by assumption) ?_
          rotate_left
          · intro w hSw; (try dsimp only at hSw); go_simp; try with_reducible rfl
          try go_frame
          refine wpAnyH_done (by kernel_rfl) (NoPanic.normal ?_) _
          go_wp2_with fail
          go_ret2
          exact ⟨rfl, hB⟩
      · have hcv := conv_zero5 KZ
        go_simp
        refine hK.out _ _ trivial (fun hHeld => ?_)
        clear hK K
        clear hcv
        refine wpAnyH_ready (rs := [2]) (by kernel_rfl) (by simp) ?_
        refine AllReadyH.cons rfl (fun K hK => ?_) AllReadyH.nil
        go_simp
        refine hK.out _ _ trivial (fun hHeld => ?_)
        clear hK K
        have hB2 : Below w.heap.size w (v28.alloc (.cells #[.int .u8 (k : Int)] 5)) := hB.alloc hB.size _
        have KR : Row8 (v28.alloc (.cells #[.int .u8 (k : Int)] 5)) v28.heap.size 1 (fun _ => k) := row_one v28 k
        have KZ := KZ.alloc (.cells #[.int .u8 (k : Int)] 5)
        clear hB
        generalize v28.alloc (.cells #[.int .u8 (k : Int)] 5) = v30 at *
        have hB := hB2
        clear hB2
        refine wpAnyH_ready (rs := [3]) (by kernel_rfl) (by simp) ?_
        refine AllReadyH.cons rfl (fun K hK => ?_) AllReadyH.nil
        have hcv := conv_one KR hk6
        go_simp
        refine hK.out _ _ trivial (fun hHeld => ?_)
        clear hK K
        clear hcv
        refine take_at (i := 6) (v := ?_) rfl rfl (by kernel_rfl) (by kernel_rfl) (by kernel_rfl) (fun _ _ _ h => h) (Or.inl ⟨by rfl, ?_⟩) (by assumption) ?_
        rotate_left
        · intro w hSw; (try dsimp only at hSw); go_simp; try with_reducible rfl
        try go_frame
        refine take_at (i := 9) (v := ?_) rfl rfl (by kernel_rfl) (by kernel_rfl) (by kernel_rfl) (fun _ _ _ h => h) (Or.inl ⟨by rfl, ?_⟩) (by assumption) ?_
        rotate_left
        · intro w hSw; (try dsimp only at hSw); go_simp; try with_reducible rfl
        try go_frame
        refine take_at (i := 10) (v := ?_) rfl rfl (by kernel_rfl) (by kernel_rfl) (by kernel_rfl) (fun _ _ _ h => h) (Or.inl ⟨by rfl, ?_⟩) (by assumption) ?_
        rotate_left
        · intro w hSw; (try dsimp only at hSw); go_simp; try with_reducible rfl
        try go_frame
        refine take_at (i := 11) (v := ?_) rfl rfl (by kernel_rfl) (by kernel_rfl) (by kernel_rfl) (fun _ _ _ h => h) (Or.inl ⟨by rfl, ?_⟩) (by assumption) ?_
        rotate_left
        · intro w hSw; (try dsimp only at hSw); go_simp; try with_reducible rfl
        try go_frame
        refine wpAnyH_done (by kernel_rfl) (NoPanic.normal ?_) _
        go_wp2_with fail
        go_ret2
        exact ⟨rfl, hB⟩
  · go_simp
    refine (CN.out v0).mono ?_
    rintro e v31 ⟨rfl, hb1⟩
    refine hK.out _ _ trivial (fun hHeld => ?_)
    clear hK K
    have hB := below_step hB (Nat.le_refl _) hb1
    clear hb1
    refine wpAnyH_ready (rs := [2, 4]) (by kernel_rfl) (by simp) ?_
    refine AllReadyH.cons rfl (fun K hK => ?_) (AllReadyH.cons rfl (fun K hK => ?_) AllReadyH.nil)
    · go_simp
      refine hK.out _ _ trivial (fun hHeld => ?_)
      clear hK K
      have hB2 : Below w.heap.size w (v31.alloc (.cells #[.int .u8 (k : Int)] 5)) := hB.alloc hB.size _
      have KR : Row8 (v31.alloc (.cells #[.int .u8 (k : Int)] 5)) v31.heap.size 1 (fun _ => k) := row_one v31 k
      clear hB
      generalize v31.alloc (.cells #[.int .u8 (k : Int)] 5) = v32 at *
      have hB := hB2
      clear hB2
      refine wpAnyH_ready (rs := [3, 4]) (by kernel_rfl) (by simp) ?_
      refine AllReadyH.cons rfl (fun K hK => ?_) (AllReadyH.cons rfl (fun K hK => ?_) AllReadyH.nil)
      · have hcv := conv_one KR hk6
        go_simp
        refine hK.out _ _ trivial (fun hHeld => ?_)
        clear hK K
        clear hcv
        refine wpAnyH_ready (rs := [4]) (by kernel_rfl) (by simp) ?_
        refine AllReadyH.cons rfl (fun K hK => ?_) AllReadyH.nil
        have hmk := make_zeros 5 5 rfl (by decide) v32
        go_simp
        refine hK.out _ _ trivial (fun hHeld => ?_)
        clear hK K
        clear hmk
        have hB2 : Below w.heap.size w (v32.alloc (.cells (zcells 5) 5)) := hB.alloc hB.size _
        have KZ : Row8 (v32.alloc (.cells (zcells 5) 5)) v32.heap.size 5 (fun _ => 0) := row_zeros 5 v32
        have KR := KR.alloc (.cells (zcells 5) 5)
        clear hB
        generalize v32.alloc (.cells (zcells 5) 5) = v33 at *
        have hB := hB2
        clear hB2
        refine wpAnyH_ready (rs := [5]) (by kernel_rfl) (by simp) ?_
        refine AllReadyH.cons rfl (fun K hK => ?_) AllReadyH.nil
        have hcv := conv_zero5 KZ
        go_simp
        refine hK.out _ _ trivial (fun hHeld => ?_)
        clear hK K
        clear hcv
        refine take_at (i := 6) (v := ?_) rfl rfl (by kernel_rfl) (by kernel_rfl) (by kernel_rfl) (fun _ _ _ h => h) (Or.inl ⟨by rfl, ?_⟩) (by assumption) ?_
        rotate_left
        · intro w hSw; (try dsimp only at hSw); go_simp; try with_reducible rfl
        try go_frame
        refine take_at (i := 9) (v := ?_) rfl rfl (by kernel_rfl) (by kernel_rfl) (by kernel_rfl) (fun _ _ _ h => h) (Or.inl ⟨by rfl, ?_⟩) (by assumption) ?_
        rotate_left
        · intro w hSw; (try dsimp only at hSw); go_simp; try with_reducible rfl
        try go_frame
        refine take_at (i := 10) (v := ?_) rfl rfl (by kernel_rfl) (by kernel_rfl) (by kernel_rfl) (fun _ _ _ h => h) (Or.inl ⟨by rfl, ?_⟩) (by assumption) ?_
        rotate_left
        · intro w hSw; (try dsimp only at hSw); go_simp; try with_reducible rfl
        try go_frame
        refine take_at (i := 11) (v := ?_) rfl rfl (by kernel_rfl) (by kernel_rfl) (by kernel_rfl) (fun _ _ _ h => h) (Or.inl ⟨by rfl, ?_⟩) (by assumption) ?_
        rotate_left
        · intro w hSw; (try dsimp only at hSw); go_simp; try with_reducible rfl
        try go_frame
        refine wpAnyH_done (by kernel_rfl) (NoPanic.normal ?_) _
        go_wp2_with fail
        go_ret2
        exact ⟨rfl, hB⟩
      · have hmk := make_zeros 5 5 rfl (by decide) v32
        go_simp
        refine hK.out _ _ trivial (fun hHeld => ?_)
        clear hK K
        clear hmk
        have hB2 : Below w.heap.size w (v32.alloc (.cells (zcells 5) 5)) := hB.alloc hB.size _
        have KZ : Row8 (v32.alloc (.cells (zcells 5) 5)) v32.heap.size 5 (fun _ => 0) := row_zeros 5 v32
        have KR := KR.alloc (.cells (zcells 5) 5)
        clear hB
        generalize v32.alloc (.cells (zcells 5) 5) = v34 at *
        have hB := hB2
        clear hB2
        refine wpAnyH_ready (rs := [3, 5]) (by kernel_rfl) (by simp) ?_
        refine AllReadyH.cons rfl (fun K hK => ?_) (AllReadyH.cons rfl (fun K hK => ?_) AllReadyH.nil)
        · have hcv := conv_one KR hk6
          go_simp
          refine hK.out _ _ trivial (fun hHeld => ?_)
          clear hK K
          clear hcv
          refine wpAnyH_ready (rs := [5]) (by kernel_rfl) (by simp) ?_
          refine AllReadyH.cons rfl (fun K hK => ?_) AllReadyH.nil
          have hcv := conv_zero5 KZ
          go_simp
          refine hK.out _ _ trivial (fun hHeld => ?_)
          clear hK K
          clear hcv
          refine take_at (i := 6) (v := ?_) rfl rfl (by kernel_rfl) (by kernel_rfl) (by kernel_rfl) (fun _ _ _ h => h) (Or.inl ⟨by rfl, ?_⟩) (by assumption) ?_
          rotate_left
          · intro w hSw; (try dsimp only at hSw); go_simp; try with_reducible rfl
          try go_frame
          refine take_at (i := 9) (v := ?_) rfl rfl (by kernel_rfl) (by kernel_rfl) (by kernel_rfl) (fun _ _ _ h => h) (Or.inl ⟨by rfl, ?_⟩) (by assumption) ?_
          rotate_left
          · intro w hSw; (try dsimp only at hSw); go_simp; try with_reducible rfl
          try go_frame
          refine take_at (i := 10) (v := ?_) rfl rfl (by kernel_rfl) (by kernel_rfl) (by kernel_rfl) (fun _ _ _ h => h) (Or.inl ⟨by rfl, ?_⟩) (by assumption) ?_
          rotate_left
          · intro w hSw; (try dsimp only at hSw); go_simp; try with_reducible rfl
          try go_frame
          refine take_at (i := 11) (v := ?_) rfl rfl (by kernel_rfl) (by kernel_rfl) (by kernel_rfl) (fun _ _ _ h => h) (Or.inl ⟨by rfl, ?_⟩) (by assumption) ?_
          rotate_left
          · intro w hSw; (try dsimp only at hSw); go_simp; try with_reducible rfl
          try go_frame
          refine wpAnyH_done (by kernel_rfl) (NoPanic.normal ?_) _
          go_wp2_with fail
          go_ret2
          exact ⟨rfl, hB⟩
        · have hcv := conv_zero5 KZ
          go_simp
          refine hK.out _ _ trivial (fun hHeld => ?_)
          clear hK K
          clear hcv
          refine wpAnyH_ready (rs := [3]) (by kernel_rfl) (by simp) ?_
          refine AllReadyH.cons rfl (fun K hK => ?_) AllReadyH.nil
          have hcv := conv_one KR hk6
          go_simp
          refine hK.out _ _ trivial (fun hHeld => ?_)
          clear hK K
          clear hcv
          refine take_at (i := 6) (v := ?_) rfl rfl (by kernel_rfl) (by kernel_rfl) (by kernel_rfl) (fun _ _ _ h => h) (Or.inl ⟨by rfl, ?_⟩) (by assumption) ?_
          rotate_left
          · intro w hSw; (try dsimp only at hSw); go_simp; try with_reducible rfl
          try go_frame
          refine take_at (i := 9) (v := ?_) rfl rfl (by kernel_rfl) (by kernel_rfl) (by kernel_rfl) (fun _ _ _ h => h) (Or.inl ⟨by rfl, ?_⟩) (by assumption) ?_
          rotate_left
          · intro w hSw; (try dsimp only at hSw); go_simp; try with_reducible rfl
          try go_frame
          refine take_at (i := 10) (v := ?_) rfl rfl (by kernel_rfl) (by kernel_rfl) (by kernel_rfl) (fun _ _ _ h => h) (Or.inl ⟨by rfl, ?_⟩) (by assumption) ?_
          rotate_left
          · intro w hSw; (try dsimp only at hSw); go_simp; try with_reducible rfl
          try go_frame
          refine take_at (i := 11) (v := ?_) rfl rfl (by kernel_rfl) (by kernel_rfl) (by kernel_rfl) (fun _ _ _ h => h) (Or.inl ⟨by rfl, ?_⟩) (by assumption) ?_
          rotate_left
          · intro w hSw; (try dsimp only at hSw); go_simp; try with_reducible rfl
          try go_frame
          refine wpAnyH_done (by kernel_rfl) (NoPanic.normal ?_) _
          go_wp2_with fail
          go_ret2
          exact ⟨rfl, hB⟩
    · have hmk := make_zeros 5 5 rfl (by decide) v31
      go_simp
      refine hK.out _ _ trivial (fun hHeld => ?_)
      clear hK K
      clear hmk
      have hB2 : Below w.heap.size w (v31.alloc (.cells (zcells 5) 5)) := hB.alloc hB.size _
      have KZ : Row8 (v31.alloc (.cells (zcells 5) 5)) v31.heap.size 5 (fun _ => 0) := row_zeros 5 v31
      clear hB
      generalize v31.alloc (.cells (zcells 5) 5) = v35 at *
      have hB := hB2
      clear hB2
      refine wpAnyH_ready (rs := [2, 5]) (by kernel_rfl) (by simp) ?_
      refine AllReadyH.cons rfl (fun K hK => ?_) (AllReadyH.cons rfl (fun K hK => ?_) AllReadyH.nil)
      · go_simp
        refine hK.out _ _ trivial (fun hHeld => ?_)
        clear hK K
        have hB2 : Below w.heap.size w (v35.alloc (.cells #[.int .u8 (k : Int)] 5)) := hB.alloc hB.size _
        have KR : Row8 (v35.alloc (.cells #[.int .u8 (k : Int)] 5)) v35.heap.size 1 (fun _ => k) := row_one v35 k
        have KZ := KZ.alloc (.cells #[.int .u8 (k : Int)] 5)
        clear hB
        generalize v35.alloc (.cells #[.int .u8 (k : Int)] 5) = v36 at *
        have hB := hB2
        clear hB2
        refine wpAnyH_ready (rs := [3, 5]) (by kernel_rfl) (by simp) ?_
        refine AllReadyH.cons rfl (fun K hK => ?_) (AllReadyH.cons rfl (fun K hK => ?_) AllReadyH.nil)
        · have hcv := conv_one KR hk6
          go_simp
          refine hK.out _ _ trivial (fun hHeld => ?_)
          clear hK K
          clear hcv
          refine wpAnyH_ready (rs := [5]) (by kernel_rfl) (by simp) ?_
          refine AllReadyH.cons rfl (fun K hK => ?_) AllReadyH.nil
          have hcv := conv_zero5 KZ
          go_simp
          refine hK.out _ _ trivial (fun hHeld => ?_)
          clear hK K
          clear hcv
          refine take_at (i := 6) (v := ?_) rfl rfl (by kernel_rfl) (by kernel_rfl) (by kernel_rfl) (fun _ _ _ h => h) (Or.inl ⟨by rfl, ?_⟩) (by assumption) ?_
          rotate_left
          · intro w hSw; (try dsimp only at hSw); go_simp; try with_reducible rfl
          try go_frame
          refine take_at (i := 9) (v := ?_) rfl rfl (by kernel_rfl) (by kernel_rfl) (by kernel_rfl) (fun _ _ _ h => h) (Or.inl ⟨by rfl, ?_⟩) (by assumption) ?_
          rotate_left
          · intro w hSw; (try dsimp only at hSw); go_simp; try with_reducible rfl
          try go_frame
          refine take_at (i := 10) (v := ?_) rfl rfl (by kernel_rfl) (by kernel_rfl) (by kernel_rfl) (fun _ _ _ h => h) (Or.inl ⟨by rfl, ?_⟩) (by assumption) ?_
          rotate_left
          · intro w hSw; (try dsimp only at hSw); go_simp; try with_reducible rfl
          try go_frame
          refine take_at (i := 11) (v := ?_) rfl rfl (by kernel_rfl) (by kernel_rfl) (by kernel_rfl) (fun _ _ _ h => h) (Or.inl ⟨by rfl, ?_⟩) (by assumption) ?_
          rotate_left
          · intro w hSw; (try dsimp only at hSw); go_simp; try with_reducible rfl
          try go_frame
          refine wpAnyH_done (by kernel_rfl) (NoPanic.normal ?_) _
          go_wp2_with fail
          go_ret2
          exact ⟨rfl, hB⟩
        · have hcv := conv_zero5 KZ
          go_simp
          refine hK.out _ _ trivial (fun hHeld => ?_)
          clear hK K
          clear hcv
          refine wpAnyH_ready (rs := [3]) (by kernel_rfl) (by simp) ?_
          refine AllReadyH.cons rfl (fun K hK => ?_) AllReadyH.nil
          have hcv := conv_one KR hk6
          go_simp
          refine hK.out _ _ trivial (fun hHeld => ?_)
          clear hK K
          clear hcv
          refine take_at (i := 6) (v := ?_) rfl rfl (by kernel_rfl) (by kernel_rfl) (by kernel_rfl) (fun _ _ _ h => h) (Or.inl ⟨by rfl, ?_⟩) (by assumption) ?_
          rotate_left
          · intro w hSw; (try dsimp only at hSw); go_simp; try with_reducible rfl
          try go_frame
          refine take_at (i := 9) (v := ?_) rfl rfl (by kernel_rfl) (by kernel_rfl) (by kernel_rfl) (fun _ _ _ h => h) (Or.inl ⟨by rfl, ?_⟩) (by assumption) ?_
          rotate_left
          · intro w hSw; (try dsimp only at hSw); go_simp; try with_reducible rfl
          try go_frame
          refine take_at (i := 10) (v := ?_) rfl rfl (by kernel_rfl) (by kernel_rfl) (by kernel_rfl) (fun _ _ _ h => h) (Or.inl ⟨by rfl, ?_⟩) (by assumption) ?_
          rotate_left
          · intro w hSw; (try dsimp only at hSw); go_simp; try with_reducible rfl
          try go_frame
          refine take_at (i := 11) (v := ?_) rfl rfl (by kernel_rfl) (by kernel_rfl) (by kernel_rfl) (fun _ _ _ h => h) (Or.inl ⟨by rfl, ?_⟩) (by assumption) ?_
          rotate_left
          · intro w hSw; (try dsimp only at hSw); go_simp; try with_reducible rfl
          try go_frame
          refine wpAnyH_done (by kernel_rfl) (NoPanic.normal ?_) _
          go_wp2_with fail
          go_ret2
          exact ⟨rfl, hB⟩
      · have hcv := conv_zero5 KZ
        go_simp
        refine hK.out _ _ trivial (fun hHeld => ?_)
        clear hK K
        clear hcv
        refine wpAnyH_ready (rs := [2]) (by kernel_rfl) (by simp) ?_
        refine AllReadyH.cons rfl (fun K hK => ?_) AllReadyH.nil
        go_simp
        refine hK.out _ _ trivial (fun hHeld => ?_)
        clear hK K
        have hB2 : Below w.heap.size w (v35.alloc (.cells #[.int .u8 (k : Int)] 5)) := hB.alloc hB.size _
        have KR : Row8 (v35.alloc (.cells #[.int .u8 (k : Int)] 5)) v35.heap.size 1 (fun _ => k) := row_one v35 k
        have KZ := KZ.alloc (.cells #[.int .u8 (k : Int)] 5)
        clear hB
        generalize v35.alloc (.cells #[.int .u8 (k : Int)] 5) = v37 at *
        have hB := hB2
        clear hB2
        refine wpAnyH_ready (rs := [3]) (by kernel_rfl) (by simp) ?_
        refine AllReadyH.cons rfl (fun K hK => ?_) AllReadyH.nil
        have hcv := conv_one KR hk6
        go_simp
        refine hK.out _ _ trivial (fun hHeld => ?_)
        clear hK K
        clear hcv
        refine take_at (i := 6) (v := ?_) rfl rfl (by kernel_rfl) (by kernel_rfl) (by kernel_rfl) (fun _ _ _ h => h) (Or.inl ⟨by rfl, ?_⟩) (by assumption) ?_
        rotate_left
        · intro w hSw; (try dsimp only at hSw); go_simp; try with_reducible rfl
        try go_frame
        refine take_at (i := 9) (v := ?_) rfl rfl (by kernel_rfl) (by kernel_rfl) (by kernel_rfl) (fun _ _ _ h => h) (Or.inl ⟨by rfl, ?_⟩) (by assumption) ?_
        rotate_left
        · intro w hSw; (try dsimp only at hSw); go_simp; try with_reducible rfl
        try go_frame
        refine take_at (i := 10) (v := ?_) rfl rfl (by kernel_rfl) (by kernel_rfl) (by kernel_rfl) (fun _ _ _ h => h) (Or.inl ⟨by rfl, ?_⟩) (by assumption) ?_
        rotate_left
        · intro w hSw; (try dsimp only at hSw); go_simp; try with_reducible rfl
        try go_frame
        refine take_at (i := 11) (v := ?_) rfl rfl (by kernel_rfl) (by kernel_rfl) (by kernel_rfl) (fun _ _ _ h => h) (Or.inl ⟨by rfl, ?_⟩) (by assumption) ?_
        rotate_left
        · intro w hSw; (try dsimp only at hSw); go_simp; try with_reducible rfl
        try go_frame
        refine wpAnyH_done (by kernel_rfl) (NoPanic.normal ?_) _
        go_wp2_with fail
        go_ret2
        exact ⟨rfl, hB⟩
end Go.Proofs.YtabhkebkbidfhaaGreatDoor

namespace Go.Proofs.YtabhkebkbidfhaaGreatDoor
open Go.RowKit
set_option maxRecDepth 100000
set_option linter.unusedSimpArgs false
set_option maxHeartbeats 2000000 in
theorem rmay15 (own : ByteArray) (who epoch : Int) (w : World) (b : Bool) (h : b = decide (own.size = 32 ∧ (1 ≤ who ∧ who ≤ 6) ∧ 1 ≤ epoch ∧ epoch ≤ 1099511627775)) :
    Calls Tryz.prog 43 #[.string own, .int .i64 who, .int .i64 epoch] w fun e w' => e = .returned (.bool b) ∧ w' = w := by
  by_cases h1 : own.size = 32
  · by_cases h2 : 1 ≤ who
    · by_cases h3 : who ≤ 6
      · by_cases h4 : 1 ≤ epoch
        · by_cases h5 : epoch ≤ 1099511627775
          · obtain rfl : b = true := by rw [h]; simp [h1, h2, h3, h4, h5]
            clear h
            go_enter Tryz.func43, Tryz.ntmps43
            go_wp2
            go_ret
            exact ⟨rfl, rfl⟩
          · obtain rfl : b = false := by rw [h]; simp [h5]
            clear h
            go_enter Tryz.func43, Tryz.ntmps43
            go_wp2
            go_ret
            exact ⟨rfl, rfl⟩
        · obtain rfl : b = false := by rw [h]; simp [h4]
          clear h
          go_enter Tryz.func43, Tryz.ntmps43
          go_wp2
          go_ret
          exact ⟨rfl, rfl⟩
      · obtain rfl : b = false := by rw [h]; simp [h3]
        clear h
        go_enter Tryz.func43, Tryz.ntmps43
        go_wp2
        go_ret
        exact ⟨rfl, rfl⟩
    · obtain rfl : b = false := by rw [h]; simp [h2]
      clear h
      go_enter Tryz.func43, Tryz.ntmps43
      go_wp2
      go_ret
      exact ⟨rfl, rfl⟩
  · obtain rfl : b = false := by rw [h]; simp [h1]
    clear h
    have g0 : ((own.size : Int) == 32) = false := by simp; omega
    have g0' : ¬ (own.size : Int) = 32 := by omega
    go_enter Tryz.func43, Tryz.ntmps43
    go_wp2
    go_ret
    exact ⟨rfl, rfl⟩
set_option maxHeartbeats 2000000 in
theorem rwrap_yes (own key : ByteArray) (who epoch : Int) (w : World) (h : MayWk own who epoch) (hk : key.size = 32) :
    Calls Tryz.prog 19 #[.string own, .int .i64 who, .int .i64 epoch, .string key] w fun e w' => e = .returned (.tuple #[.string (wrapB own who epoch key), .int .i64 0]) ∧ Below w.heap.size w w' := by
  have C1 : Hid (∀ w, _) := fun w => rmay15 own who epoch w true (by rw [decide_eq_true]; exact h)
  obtain ⟨U, hU⟩ : ∃ U, U = underB own := ⟨_, rfl⟩
  obtain ⟨N, hN⟩ : ∃ N, N = nonceB who epoch := ⟨_, rfl⟩
  have CE' := fun w => rexpand_ok own wrapT 32 w (by have := h.1; omega) (by decide) (by decide)
  rw [show expandB own wrapT 32 = U from hU.symm] at CE'
  have CE : Hid (∀ w, Calls Tryz.prog 44 #[.string own, .string ⟨#[119, 114, 97, 112]⟩, .int .i64 32] w fun e w' => e = .returned (.tuple #[.string U, .int .i64 0]) ∧ Below w.heap.size w w') := CE'
  have CN' := fun w => rnonce_yes who epoch w (by have := h.2; omega) (by have := h.2; omega)
  rw [← hN] at CN'
  have CN : Hid (∀ w, _) := CN'
  obtain ⟨S, hS⟩ : ∃ S, S = wrapB own who epoch key := ⟨_, rfl⟩
  have CS' := fun w => rseal_yes (underB own) (nonceB who epoch) wrapT key w (mayA_wrap own who epoch key.size (by omega))
  rw [show sealB (underB own) (nonceB who epoch) wrapT key = S from hS.symm, ← hU, ← hN] at CS'
  rw [← hS]
  have CO : Hid (∀ w, Calls Tryz.prog 46 #[.string U, .string N, .string ⟨#[119, 114, 97, 112]⟩, .string key] w fun e w' => e = .returned (.tuple #[.string S, .int .i64 0]) ∧ Below w.heap.size w w') := CS'
  clear CE' CN' CS' hU hN hS h
  go_enter Tryz.func19, Tryz.ntmps19
  go_wp2_with fail
  refine (C1.out w).mono ?_
  rintro e w0 ⟨rfl, hw0⟩
  rw [hw0]
  clear hw0 w0
  go_wp2_with fail
  refine (CE.out w).mono ?_
  rintro e w1 ⟨rfl, hb1⟩
  go_wp2_with fail
  refine (CN.out w1).mono ?_
  rintro e w2 ⟨rfl, hb2⟩
  have hB2 := below_step hb1 (Nat.le_refl _) hb2
  clear hb1 hb2
  go_wp2_with fail
  refine (CO.out w2).mono ?_
  rintro e w3 ⟨rfl, hb3⟩
  have hB3 := below_step hB2 (Nat.le_refl _) hb3
  clear hB2 hb3
  go_wp2_with fail
  go_ret2
  exact ⟨rfl, hB3⟩
end Go.Proofs.YtabhkebkbidfhaaGreatDoor
