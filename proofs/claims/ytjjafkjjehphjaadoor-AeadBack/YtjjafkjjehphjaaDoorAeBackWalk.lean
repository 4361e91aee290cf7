/- The walk of AeadBack. -/
import Derived.Test.YtjjafkjjehphjaaDoorL7
namespace Go.Proofs.YtjjafkjjehphjaaDoor
open Go.RowKit
set_option linter.unusedSimpArgs false

set_option maxRecDepth 100000 in
set_option maxHeartbeats 4000000 in
theorem aeadBack_yes (keys b s : ByteArray) (w : World) (hk : keys.size = 44) (hb : b.size ≤ 512) (hs : s.size ≤ 512) (hP : GlobP w) (hY : GlobY w) :
    Calls Tryd.prog 5 #[.string keys, .string b, .string s] w fun e w' => e = .returned (.bool true) ∧ Below w.heap.size w w' := by
  obtain ⟨K, hK⟩ : ∃ K, keys.extract 0 32 = K := ⟨_, rfl⟩
  obtain ⟨N, hN⟩ : ∃ N, keys.extract 32 44 = N := ⟨_, rfl⟩
  have hKs : K.size = 32 := by rw [← hK, ByteArray.size_extract, hk]; rfl
  have hNs : N.size = 12 := by rw [← hN, ByteArray.size_extract, hk]; rfl
  obtain ⟨S, HS⟩ : ∃ S, Hid (sealB K N b s = S) := ⟨_, rfl⟩
  have hSs : S.size = s.size + 16 := by rw [← HS.out, sealB_size]
  have ho := opens_seal K N b s
  rw [HS.out] at ho
  have hcut : cutA S = s.size := by unfold cutA; omega
  have C0 : Hid (∀ w, _) := fun w => light7_yes b s ⟨#[]⟩ w ⟨hb, hs, by decide⟩
  have C1 : Hid (∀ w', Below w.heap.size w w' → _) := fun w' hbl => seal_on K N b s S HS.out w w' hP hY hbl ⟨hKs, hNs, by omega⟩
  have C2 : Hid (∀ w', Below w.heap.size w w' → _) := fun w' hbl => open_on K N b S s ho.2 w w' hP hY hbl ⟨hKs, hNs, by omega⟩ ho.1
  have C3 : Hid (∀ w', Below w.heap.size w w' → _) := fun w' hbl => awake7_on w w' hP hY hbl
  have g0 : (((keys.size : Int) != 44)) = false := by rw [bne_eq_false_iff_eq]; omega
  clear hP hY ho HS hcut
  go_enter Tryd.func5, Tryd.ntmps5
  go_wp2_with fail
  refine (C0.out _).mono ?_
  rintro e w0 ⟨rfl, rfl⟩
  clear C0
  go_wp2_with fail
  go_region_with (go_at_call 10; refine (C1.out _ (Below.refl _ _).drew).mono ?_; rintro e w1 ⟨rfl, hb1⟩)
  clear C1
  go_wp2_with fail
  go_region_with (go_at_call 12; refine (C2.out _ hb1.drew).mono ?_; rintro e w2 ⟨rfl, hb2⟩)
  clear C2
  go_wp2_with fail
  refine (C3.out _ hb2).mono ?_
  rintro e w3 ⟨rfl, hb3⟩
  go_wp2_with fail
  go_ret
  exact ⟨rfl, hb3⟩

set_option maxHeartbeats 1000000 in
theorem aeadBack_walk (keys b s : ByteArray) (w : World) (hG : GlobP w ∧ GlobY w) :
    Calls Tryd.prog 5 #[.string keys, .string b, .string s] w fun e w' => e = .returned (.bool true) ∧ Below w.heap.size w w' := by
  have C : Hid (Calls _ _ _ _ _) := awake7 w hG.1 hG.2
  by_cases hk : keys.size = 44
  · by_cases h : b.size ≤ 512 ∧ s.size ≤ 512
    · exact aeadBack_yes keys b s w hk h.1 h.2 hG.1 hG.2
    · have C0 : Hid (∀ w, _) := fun w => light7_no b s ⟨#[]⟩ w (fun h' => h ⟨h'.1, h'.2.1⟩)
      have g0 : (((keys.size : Int) != 44)) = false := by rw [bne_eq_false_iff_eq]; omega
      clear hG h
      go_enter Tryd.func5, Tryd.ntmps5
      go_wp2_with fail
      refine (C0.out _).mono ?_
      rintro e w0 ⟨rfl, rfl⟩
      clear C0
      go_wp2_with fail
      refine (C.out).mono ?_
      rintro e w1 ⟨rfl, hb1⟩
      go_wp2_with fail
      go_ret
      exact ⟨rfl, hb1⟩
  · have g0 : (((keys.size : Int) != 44)) = true := by rw [bne_iff_ne]; omega
    clear hG hk
    go_enter Tryd.func5, Tryd.ntmps5
    go_wp2_with fail
    refine (C.out).mono ?_
    rintro e w1 ⟨rfl, hb1⟩
    go_wp2_with fail
    go_ret
    exact ⟨rfl, hb1⟩
end Go.Proofs.YtjjafkjjehphjaaDoor
