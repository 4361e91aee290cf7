import Derived.Test.YthnaohobedpejaaDoorCcAwake
namespace Go.Proofs.YthnaohobedpejaaDoor
open Go.RowKit
set_option linter.unusedSimpArgs false

set_option maxRecDepth 100000 in
set_option maxHeartbeats 4000000 in
theorem chachaBack_yes (keys s : ByteArray) (counter : Int) (w : World) (hk : keys.size = 44) (hs : s.size ≤ 512) (hP : GlobP w) :
    Calls Tryd.prog 5 #[.string keys, .int .i64 counter, .string s] w fun e w' => e = .returned (.bool true) ∧ Below w.heap.size w w' := by
  obtain ⟨a, ha, ea⟩ : ∃ a : Nat, a < 65536 ∧ counter % 65536 = (a : Int) := ⟨(counter % 65536).toNat, by omega, by omega⟩
  have hand : bits .and .i64 counter 65535 = (a : Int) := by rw [i64_and16, ea]
  obtain ⟨K, hK⟩ : ∃ K, keys.extract 0 32 = K := ⟨_, rfl⟩
  obtain ⟨N, hN⟩ : ∃ N, keys.extract 32 44 = N := ⟨_, rfl⟩
  have hKs : K.size = 32 := by rw [← hK, ByteArray.size_extract, hk]; rfl
  have hNs : N.size = 12 := by rw [← hN, ByteArray.size_extract, hk]; rfl
  obtain ⟨S, HS⟩ : ∃ S, Hid (streamB K N a s = S) := ⟨_, rfl⟩
  have hSs : S.size = s.size := by rw [← HS.out, streamB_size]
  have hSb : streamB K N a S = s := by rw [← HS.out, streamB_back]
  have C1 : Hid (∀ w', Below w.heap.size w w' → _) := fun w' hb => stream_on K N a s S HS.out w w' hP hb hKs hNs (by omega) (by omega) (by omega)
  have C2 : Hid (∀ w', Below w.heap.size w w' → _) := fun w' hb => stream_on K N a S s hSb w w' hP hb hKs hNs (by omega) (by omega) (by omega)
  have C3 : Hid (∀ w', Below w.heap.size w w' → _) := fun w' hb => awake_on w w' hP hb
  have g0 : (((keys.size : Int) != 44)) = false := by rw [bne_eq_false_iff_eq]; omega
  have g1 : decide ((512 : Int) < (s.size : Int)) = false := by simp; omega
  clear hP hSb ea
  go_enter Tryd.func5, Tryd.ntmps5
  go_wp2_with fail
  go_region_with (go_at_call 11; refine (C1.out _ (Below.refl _ _).drew).mono ?_; rintro e w1 ⟨rfl, hb1⟩)
  go_wp2_with fail
  go_region_with (go_at_call 11; refine (C2.out _ hb1.drew).mono ?_; rintro e w2 ⟨rfl, hb2⟩)
  go_wp2_with fail
  refine (C3.out _ hb2).mono ?_
  rintro e w3 ⟨rfl, hb3⟩
  go_wp2_with fail
  go_ret
  exact ⟨rfl, hb3⟩

set_option maxHeartbeats 1000000 in
theorem chachaBack_no (keys s : ByteArray) (counter : Int) (w : World) (h : ¬ (keys.size = 44 ∧ s.size ≤ 512)) (hP : GlobP w) :
    Calls Tryd.prog 5 #[.string keys, .int .i64 counter, .string s] w fun e w' => e = .returned (.bool true) ∧ Below w.heap.size w w' := by
  have C : Hid (Calls _ _ _ _ _) := awake_any w hP
  by_cases h1 : keys.size = 44
  · have g0 : (((keys.size : Int) != 44)) = false := by rw [bne_eq_false_iff_eq]; omega
    have g1 : decide ((512 : Int) < (s.size : Int)) = true := by simp; omega
    clear h h1 hP
    go_enter Tryd.func5, Tryd.ntmps5
    go_wp2_with fail
    refine C.out.mono ?_
    rintro e w1 ⟨rfl, hb1⟩
    go_wp2_with fail
    go_ret
    exact ⟨rfl, hb1⟩
  · have g0 : (((keys.size : Int) != 44)) = true := by rw [bne_iff_ne]; omega
    clear h h1 hP
    go_enter Tryd.func5, Tryd.ntmps5
    go_wp2_with fail
    refine C.out.mono ?_
    rintro e w1 ⟨rfl, hb1⟩
    go_wp2_with fail
    go_ret
    exact ⟨rfl, hb1⟩

theorem chachaBack_walk (keys : ByteArray) (counter : Int) (s : ByteArray) (w : World) (hP : GlobP w) :
    Calls Tryd.prog 5 #[.string keys, .int .i64 counter, .string s] w fun e w' => e = .returned (.bool true) ∧ Below w.heap.size w w' := by
  by_cases h : keys.size = 44 ∧ s.size ≤ 512
  · exact chachaBack_yes keys s counter w h.1 h.2 hP
  · exact chachaBack_no keys s counter w h hP
end Go.Proofs.YthnaohobedpejaaDoor
