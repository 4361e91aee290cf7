/- Layer 15, the code: Send, Keep, Fresh, wrapping, Wrap, Unwrap. -/
import Derived.Test.YthfhhfpgmecjcaaGreatDoorKyB
import Derived.Test.YthfhhfpgmecjcaaGreatDoorL4
import Derived.Test.YthfhhfpgmecjcaaGreatDoorL7
namespace Go.Proofs.YthfhhfpgmecjcaaGreatDoor
open Go.RowKit
set_option maxRecDepth 100000
set_option linter.unusedSimpArgs false

/-- What is for good while all this goes on: the four tables. -/
def Tabs (w : World) : Prop := (GlobB w ∧ GlobK w) ∧ GlobP w ∧ GlobY w
theorem Tabs.below {w w' : World} (h : Tabs w) (hb : Below w.heap.size w w') : Tabs w' := ⟨⟨h.1.1.below hb, h.1.2.below hb⟩, h.2.1.below hb, h.2.2.below hb⟩

def sendT : ByteArray := ⟨#[115, 101, 110, 100]⟩
def keepT : ByteArray := ⟨#[107, 101, 101, 112]⟩
def wrapT : ByteArray := ⟨#[119, 114, 97, 112]⟩
def epochT : ByteArray := ⟨#[101, 112, 111, 99, 104]⟩
def saltT : ByteArray := ⟨#[115, 97, 109, 112, 104, 105, 114, 101]⟩
/-- What Send, Keep, Fresh answer, on plain bytes. -/
def sendP (key : ByteArray) (who : Int) : ByteArray × Int := if key.size = 32 ∧ 1 ≤ who ∧ who ≤ 6 then (expandB key (sendT ++ bigB who 1) 32, 0) else (⟨#[]⟩, 1)
def keepP (key : ByteArray) : ByteArray × Int := if key.size = 32 then (expandB key keepT 32, 0) else (⟨#[]⟩, 1)
def freshP (seed : ByteArray) (n : Int) : ByteArray × Int := if seed.size ≤ 64 ∧ 1 ≤ n ∧ n ≤ 1099511627775 then (expandB (macB saltT seed) (epochT ++ bigB n 6) 32, 0) else (⟨#[]⟩, 1)



set_option maxHeartbeats 2000000 in
theorem ksend_any (key : ByteArray) (who : Int) (w : World) (hT : Tabs w) :
    Calls Tryz.prog 9 #[.string key, .int .i64 who] w fun e w' => e = .returned (retP (sendP key who)) ∧ Below w.heap.size w w' := by
  by_cases hk : key.size = 32
  · have C1 : Hid (∀ w, _) := fun w => isKey_any key w true (by rw [hk]; rfl)
    by_cases hm : 1 ≤ who ∧ who ≤ 6
    · have C2 : Hid (∀ w, _) := fun w => isMember_any who w true (by rw [decide_eq_true hm])
      have eR : sendP key who = (expandB key (sendT ++ bigB who 1) 32, 0) := by unfold sendP; rw [if_pos ⟨hk, hm⟩]
      rw [eR]
      obtain ⟨A, hA⟩ : ∃ A, A = bigB who 1 := ⟨_, rfl⟩
      obtain ⟨P, hP⟩ : ∃ P, P = sendT ++ A := ⟨_, rfl⟩
      rw [← hA, ← hP]
      obtain ⟨E, hE⟩ : ∃ E, E = expandB key P 32 := ⟨_, rfl⟩
      have hPs : P.size ≤ 65000 := by rw [hP, hA, ByteArray.size_append, bigB_size]; decide
      have CO' := fun w => koneByte_any who w (by omega) (by omega)
      have CT' := fun w => tog2 sendT A w (by decide) (by rw [hA, bigB_size]; decide)
      have CE' := fun w (h : Tabs w) => expand_ok key P 32 w (by omega) hPs (by decide) h.1.1 h.1.2
      rw [← hA] at CO'
      rw [← hP] at CT'
      rw [← hE] at CE' ⊢
      have CO : Hid (∀ w, _) := CO'
      have CT : Hid (∀ w : World, Calls Tryz.prog 23 #[.slice (some ⟨w.heap.size, 0, none⟩) 2 2] (w.alloc (.cells #[.string ⟨#[115, 101, 110, 100]⟩, .string A] 9)) fun e w' => e = .returned (.string P) ∧ Below w.heap.size w w') := CT'
      have CE : Hid (∀ w, Tabs w → Calls Tryz.prog 22 #[.string key, .string P, .int .i64 32] w fun e w' => e = .returned (.tuple #[.string E, .int .i64 0]) ∧ Below w.heap.size w w') := CE'
      have HT : Hid (Tabs w) := hT
      clear CO' CT' CE' hE hP hA hPs hm hk eR hT
      go_enter Tryz.func9, Tryz.ntmps9
      go_wp2_with fail
      refine (C1.out w).mono ?_
      rintro e w0 ⟨rfl, hw0⟩
      rw [hw0]
      clear hw0 w0
      go_wp2_with fail
      refine (C2.out w).mono ?_
      rintro e w0 ⟨rfl, hw0⟩
      rw [hw0]
      clear hw0 w0
      go_wp2_with fail
      refine (CO.out w).mono ?_
      rintro e w1 ⟨rfl, hb1⟩
      go_wp2_with fail
      refine (CT.out w1).mono ?_
      rintro e w2 ⟨rfl, hb2⟩
      have hB2 := below_step hb1 (Nat.le_refl _) hb2
      clear hb1 hb2
      go_wp2_with fail
      refine (CE.out w2 (HT.out.below hB2)).mono ?_
      rintro e w3 ⟨rfl, hb3⟩
      have hB3 := below_step hB2 (Nat.le_refl _) hb3
      clear hB2 hb3
      go_wp2_with fail
      go_ret2
      exact ⟨rfl, hB3⟩
    · have C2 : Hid (∀ w, _) := fun w => isMember_any who w false (by rw [decide_eq_false hm])
      have eR : sendP key who = (⟨#[]⟩, 1) := by unfold sendP; rw [if_neg (fun h => hm h.2)]
      rw [eR]
      clear eR hm hk hT
      go_enter Tryz.func9, Tryz.ntmps9
      go_wp2_with fail
      refine (C1.out w).mono ?_
      rintro e w0 ⟨rfl, hw0⟩
      rw [hw0]
      clear hw0 w0
      go_wp2_with fail
      refine (C2.out w).mono ?_
      rintro e w0 ⟨rfl, hw0⟩
      rw [hw0]
      clear hw0 w0
      go_wp2_with fail
      go_ret2
      exact ⟨rfl, Below.refl _ _⟩
  · have C1 : Hid (∀ w, _) := fun w => isKey_any key w false (by rw [decide_eq_false hk])
    have eR : sendP key who = (⟨#[]⟩, 1) := by unfold sendP; rw [if_neg (fun h => hk h.1)]
    rw [eR]
    clear eR hk hT
    go_enter Tryz.func9, Tryz.ntmps9
    go_wp2_with fail
    refine (C1.out w).mono ?_
    rintro e w0 ⟨rfl, hw0⟩
    rw [hw0]
    clear hw0 w0
    go_wp2_with fail
    go_ret2
    exact ⟨rfl, Below.refl _ _⟩

set_option maxHeartbeats 2000000 in
theorem kkeep_any (key : ByteArray) (w : World) (hT : Tabs w) :
    Calls Tryz.prog 11 #[.string key] w fun e w' => e = .returned (retP (keepP key)) ∧ Below w.heap.size w w' := by
  by_cases hk : key.size = 32
  · have C1 : Hid (∀ w, _) := fun w => isKey_any key w true (by rw [hk]; rfl)
    have eR : keepP key = (expandB key keepT 32, 0) := by unfold keepP; rw [if_pos hk]
    rw [eR]
    obtain ⟨E, hE⟩ : ∃ E, E = expandB key keepT 32 := ⟨_, rfl⟩
    have CE' := fun w (h : Tabs w) => expand_ok key keepT 32 w (by omega) (by decide) (by decide) h.1.1 h.1.2
    rw [← hE] at CE' ⊢
    have CT : Hid (∀ w : World, Calls Tryz.prog 23 #[.slice (some ⟨w.heap.size, 0, none⟩) 1 1] (w.alloc (.cells #[.string ⟨#[107, 101, 101, 112]⟩] 9)) fun e w' => e = .returned (.string ⟨#[107, 101, 101, 112]⟩) ∧ Below w.heap.size w w') := fun w => tog1 keepT w (by decide)
    have CE : Hid (∀ w, Tabs w → Calls Tryz.prog 22 #[.string key, .string ⟨#[107, 101, 101, 112]⟩, .int .i64 32] w fun e w' => e = .returned (.tuple #[.string E, .int .i64 0]) ∧ Below w.heap.size w w') := CE'
    have HT : Hid (Tabs w) := hT
    clear CE' hE hk eR hT
    go_enter Tryz.func11, Tryz.ntmps11
    go_wp2_with fail
    refine (C1.out w).mono ?_
    rintro e w0 ⟨rfl, hw0⟩
    rw [hw0]
    clear hw0 w0
    go_wp2_with fail
    refine (CT.out w).mono ?_
    rintro e w2 ⟨rfl, hb2⟩
    go_wp2_with fail
    refine (CE.out w2 (HT.out.below hb2)).mono ?_
    rintro e w3 ⟨rfl, hb3⟩
    have hB3 := below_step hb2 (Nat.le_refl _) hb3
    clear hb2 hb3
    go_wp2_with fail
    go_ret2
    exact ⟨rfl, hB3⟩
  · have C1 : Hid (∀ w, _) := fun w => isKey_any key w false (by rw [decide_eq_false hk])
    have eR : keepP key = (⟨#[]⟩, 1) := by unfold keepP; rw [if_neg hk]
    rw [eR]
    clear eR hk hT
    go_enter Tryz.func11, Tryz.ntmps11
    go_wp2_with fail
    refine (C1.out w).mono ?_
    rintro e w0 ⟨rfl, hw0⟩
    rw [hw0]
    clear hw0 w0
    go_wp2_with fail
    go_ret2
    exact ⟨rfl, Below.refl _ _⟩

set_option maxHeartbeats 2000000 in
theorem kfresh_any (seed : ByteArray) (n : Int) (w : World) (hT : Tabs w) :
    Calls Tryz.prog 17 #[.string seed, .int .i64 n] w fun e w' => e = .returned (retP (freshP seed n)) ∧ Below w.heap.size w w' := by
  by_cases hs : seed.size ≤ 64
  · have g0 : decide ((64 : Int) < (seed.size : Int)) = false := by simp; omega
    by_cases hm : 1 ≤ n ∧ n ≤ 1099511627775
    · have C2 : Hid (∀ w, _) := fun w => isEpoch_any n w true (by rw [decide_eq_true hm])
      have eR : freshP seed n = (expandB (macB saltT seed) (epochT ++ bigB n 6) 32, 0) := by unfold freshP; rw [if_pos ⟨hs, hm⟩]
      rw [eR]
      obtain ⟨A, hA⟩ : ∃ A, A = bigB n 6 := ⟨_, rfl⟩
      obtain ⟨P, hP⟩ : ∃ P, P = epochT ++ A := ⟨_, rfl⟩
      rw [← hA, ← hP]
      obtain ⟨E, hE⟩ : ∃ E, E = expandB (macB saltT seed) P 32 := ⟨_, rfl⟩
      have hPs : P.size ≤ 65000 := by rw [hP, hA, ByteArray.size_append, bigB_size]; decide
      have CO' := fun w => knumber_any n w (by omega) (by omega)
      have CT' := fun w => tog2 epochT A w (by decide) (by rw [hA, bigB_size]; decide)
      have CE' := fun w (h : Tabs w) => derive_ok saltT seed P 32 w (by decide) (by omega) hPs (by decide) h.1.1 h.1.2
      rw [← hA] at CO'
      rw [← hP] at CT'
      rw [← hE] at CE' ⊢
      have CO : Hid (∀ w, _) := CO'
      have CT : Hid (∀ w : World, Calls Tryz.prog 23 #[.slice (some ⟨w.heap.size, 0, none⟩) 2 2] (w.alloc (.cells #[.string ⟨#[101, 112, 111, 99, 104]⟩, .string A] 9)) fun e w' => e = .returned (.string P) ∧ Below w.heap.size w w') := CT'
      have CE : Hid (∀ w, Tabs w → Calls Tryz.prog 35 #[.string ⟨#[115, 97, 109, 112, 104, 105, 114, 101]⟩, .string seed, .string P, .int .i64 32] w fun e w' => e = .returned (.tuple #[.string E, .int .i64 0]) ∧ Below w.heap.size w w') := CE'
      have HT : Hid (Tabs w) := hT
      clear CO' CT' CE' hE hP hA hPs hm hs eR hT
      go_enter Tryz.func17, Tryz.ntmps17
      go_wp2_with fail
      refine (C2.out w).mono ?_
      rintro e w0 ⟨rfl, hw0⟩
      rw [hw0]
      clear hw0 w0
      go_wp2_with fail
      refine (CO.out w).mono ?_
      rintro e w1 ⟨rfl, hb1⟩
      go_wp2_with fail
      refine (CT.out w1).mono ?_
      rintro e w2 ⟨rfl, hb2⟩
      have hB2 := below_step hb1 (Nat.le_refl _) hb2
      clear hb1 hb2
      go_wp2_with fail
      refine (CE.out w2 (HT.out.below hB2)).mono ?_
      rintro e w3 ⟨rfl, hb3⟩
      have hB3 := below_step hB2 (Nat.le_refl _) hb3
      clear hB2 hb3
      go_wp2_with fail
      go_ret2
      exact ⟨rfl, hB3⟩
    · have C2 : Hid (∀ w, _) := fun w => isEpoch_any n w false (by rw [decide_eq_false hm])
      have eR : freshP seed n = (⟨#[]⟩, 1) := by unfold freshP; rw [if_neg (fun h => hm h.2)]
      rw [eR]
      clear eR hm hs hT
      go_enter Tryz.func17, Tryz.ntmps17
      go_wp2_with fail
      refine (C2.out w).mono ?_
      rintro e w0 ⟨rfl, hw0⟩
      rw [hw0]
      clear hw0 w0
      go_wp2_with fail
      go_ret2
      exact ⟨rfl, Below.refl _ _⟩
  · have g0 : decide ((64 : Int) < (seed.size : Int)) = true := by simp; omega
    have eR : freshP seed n = (⟨#[]⟩, 1) := by unfold freshP; rw [if_neg (fun h => hs h.1)]
    rw [eR]
    clear eR hs hT
    go_enter Tryz.func17, Tryz.ntmps17
    go_wp2_with fail
    go_ret2
    exact ⟨rfl, Below.refl _ _⟩

/-- The key by which a member's keys are wrapped. -/
def underB (own : ByteArray) : ByteArray := expandB own wrapT 32
theorem underB_size (own : ByteArray) : (underB own).size = 32 := expandB_size _ _ _
def MayW (own : ByteArray) (who epoch : Int) : Prop := own.size = 32 ∧ (1 ≤ who ∧ who ≤ 6) ∧ 1 ≤ epoch ∧ epoch ≤ 1099511627775

set_option maxHeartbeats 2000000 in
theorem wrapping_any (own : ByteArray) (who epoch : Int) (w : World) (hT : Tabs w) (h : MayW own who epoch) :
    Calls Tryz.prog 27 #[.string own, .int .i64 who, .int .i64 epoch] w fun e w' => e = .returned (.tuple #[.string (underB own), .string (nonceB who epoch)]) ∧ Below w.heap.size w w' := by
  obtain ⟨U, hU⟩ : ∃ U, U = underB own := ⟨_, rfl⟩
  obtain ⟨N, hN⟩ : ∃ N, N = nonceB who epoch := ⟨_, rfl⟩
  have CE' := fun w (h' : Tabs w) => expand_ok own wrapT 32 w (by have := h.1; omega) (by decide) (by decide) h'.1.1 h'.1.2
  have CN' := fun w => knonce_yes who epoch w (by have := h.2; omega) (by have := h.2; omega)
  rw [← hN] at CN' ⊢
  rw [show expandB own wrapT 32 = U from hU.symm] at CE'
  rw [← hU]
  have CT : Hid (∀ w : World, Calls Tryz.prog 23 #[.slice (some ⟨w.heap.size, 0, none⟩) 1 1] (w.alloc (.cells #[.string ⟨#[119, 114, 97, 112]⟩] 9)) fun e w' => e = .returned (.string ⟨#[119, 114, 97, 112]⟩) ∧ Below w.heap.size w w') := fun w => tog1 wrapT w (by decide)
  have CE : Hid (∀ w, Tabs w → Calls Tryz.prog 22 #[.string own, .string ⟨#[119, 114, 97, 112]⟩, .int .i64 32] w fun e w' => e = .returned (.tuple #[.string U, .int .i64 0]) ∧ Below w.heap.size w w') := CE'
  have CN : Hid (∀ w, _) := CN'
  have HT : Hid (Tabs w) := hT
  clear CE' CN' hU hN hT h
  go_enter Tryz.func27, Tryz.ntmps27
  go_wp2_with fail
  refine (CT.out w).mono ?_
  rintro e w2 ⟨rfl, hb2⟩
  go_wp2_with fail
  refine (CE.out w2 (HT.out.below hb2)).mono ?_
  rintro e w3 ⟨rfl, hb3⟩
  have hB3 := below_step hb2 (Nat.le_refl _) hb3
  clear hb2 hb3
  go_wp2_with fail
  refine (CN.out w3).mono ?_
  rintro e w4 ⟨rfl, hb4⟩
  have hB4 := below_step hB3 (Nat.le_refl _) hb4
  clear hB3 hb4
  go_wp2_with fail
  go_ret2
  exact ⟨rfl, hB4⟩
end Go.Proofs.YthfhhfpgmecjcaaGreatDoor
