/- Layer 18, the code's: filled, first, room, blocks, part, head. -/
import Derived.Test.YtaakmcihpdbilaaDoorStD
import Derived.Test.YtaakmcihpdbilaaDoorBkC
import Derived.Test.YtaakmcihpdbilaaDoorC9
import Derived.Test.YtaakmcihpdbilaaDoorShelf
namespace Go.Proofs.YtaakmcihpdbilaaDoor
open Go.RowKit
set_option maxRecDepth 100000
set_option linter.unusedSimpArgs false
set_option linter.unusedVariables false
set_option maxRecDepth 100000

theorem noughts18_any (c : Nat) (w : World) (hc : c ≤ 16384) :
    Calls Tryd.prog 46 #[.string ⟨#[0]⟩, .int .i64 c] w fun e w' => e = .returned (.string (zeroB c)) ∧ Below w.heap.size w w' := by
  refine (Tryd.strings_Repeat ⟨#[0]⟩ c w (by omega) (by show 1 * c ≤ _; omega)).mono ?_
  rintro e w' ⟨rfl, hb⟩
  refine ⟨?_, hb⟩
  have := Lib.repeatL_replicate 0 1 c
  simp at this
  show Ending.returned (.string ⟨(Lib.repeatL [0] c).toArray⟩) = _
  rw [this]
  rfl

/-- A block that begins so. -/
def fl18 (s : ByteArray) : ByteArray := s ++ zeroB (64 - s.size)
theorem fl18_size (s : ByteArray) (h : s.size ≤ 64) : (fl18 s).size = 64 := by unfold fl18; rw [ByteArray.size_append, zeroB_size]; omega
/-- What a head begins with. -/
def hd0 (turn : Int) (s : ByteArray) : ByteArray := bigB turn 6 ++ bigB (s.size : Int) 6 ++ (ofN (sumN s)).extract 0 8
theorem hd0_size (turn : Int) (s : ByteArray) : (hd0 turn s).size = 20 := by
  unfold hd0
  rw [ByteArray.size_append, ByteArray.size_append, bigB_size, bigB_size, ByteArray.size_extract, sum32]; rfl
theorem hd0_fl (turn : Int) (s : ByteArray) : fl18 (hd0 turn s) = hdB turn s := by
  unfold fl18 hdB filB
  rw [hd0_size]
  have h := hd0_size turn s
  unfold hd0 at h ⊢
  rw [h]; rfl

set_option maxHeartbeats 1000000 in
theorem filled18_any (s : ByteArray) (w : World) (hs : s.size ≤ 64) :
    Calls Tryd.prog 30 #[.string s] w fun e w' => e = .returned (.string (fl18 s)) ∧ Below w.heap.size w w' := by
  obtain ⟨c, hc⟩ : ∃ c, 64 - s.size = c := ⟨_, rfl⟩
  have CN : Hid (∀ w, _) := fun w => noughts18_any c w (by omega)
  have e1 : (64 : Int) - (s.size : Int) = (c : Int) := by omega
  have e2 : s ++ zeroB c = fl18 s := by unfold fl18; rw [hc]
  have hz : (zeroB c).size = c := zeroB_size c
  obtain ⟨R, hR⟩ : ∃ R, R = fl18 s := ⟨_, rfl⟩
  obtain ⟨Z, hZ⟩ : ∃ Z, zeroB c = Z := ⟨_, rfl⟩
  rw [hZ] at CN e2 hz
  rw [← hR] at e2 ⊢
  have hsum : ¬ (9223372036854775807 < s.size + Z.size) := by omega
  clear hc hR hZ
  go_enter Tryd.func30, Tryd.ntmps30
  go_wp2_with fail
  refine (CN.out _).mono ?_
  rintro e w1 ⟨rfl, hb⟩
  go_wp2
  go_ret
  exact ⟨rfl, hb⟩

set_option maxHeartbeats 1000000 in
theorem first18_any (g b : Nat) (D : DevT) (half : Nat) (w : World) (h : DevAt w g b D) (hl : D.1.length ≤ 4096) (hh : half < 2) :
    Calls Tryd.prog 26 #[.pointer (some ⟨g, 0, none⟩), .int .i64 (half : Int)] w fun e w' => e = .returned (.int .i64 ((half * (D.1.length / 2) : Nat) : Int)) ∧ w' = w := by
  have CN : Hid (∀ w', w' = w → Calls Tryd.prog 17 #[.pointer (some ⟨g, 0, none⟩)] w' fun e w'' => e = .returned (.int .i64 (D.1.length : Int)) ∧ w'' = w') := fun w' e => by subst e; exact dsize_any g b D _ h
  obtain ⟨n, hn⟩ : ∃ n, D.1.length = n := ⟨_, rfl⟩
  rw [hn] at CN hl ⊢
  have e1 : Int.tdiv (n : Int) 2 = ((n / 2 : Nat) : Int) := by rw [show (2 : Int) = ((2 : Nat) : Int) from rfl, ← Int.ofNat_tdiv]
  obtain ⟨q, hq⟩ : ∃ q, n / 2 = q := ⟨_, rfl⟩
  rw [hq] at e1 ⊢
  have h1 : half * q ≤ 4096 := by
    have : half * q ≤ 1 * q := Nat.mul_le_mul_right q (by omega)
    omega
  obtain ⟨p, hp⟩ : ∃ p, half * q = p := ⟨_, rfl⟩
  have e2 : (half : Int) * (q : Int) = (p : Int) := by rw [← hp]; rfl
  rw [hp] at h1 ⊢
  have hq4 : q ≤ 4096 := by omega
  clear hp hq hn h
  go_enter Tryd.func26, Tryd.ntmps26
  go_wp2_with fail
  refine (CN.out _ rfl).mono ?_
  rintro e w1 ⟨rfl, hw1⟩
  subst hw1
  go_wp2
  go_ret
  exact ⟨rfl, rfl⟩

set_option maxHeartbeats 1000000 in
theorem room18_any (g b : Nat) (D : DevT) (w : World) (h : DevAt w g b D) (hl : D.1.length ≤ 4096) (h2 : 2 ≤ D.1.length) :
    Calls Tryd.prog 29 #[.pointer (some ⟨g, 0, none⟩)] w fun e w' => e = .returned (.int .i64 ((64 * (D.1.length / 2 - 1) : Nat) : Int)) ∧ w' = w := by
  have CN : Hid (∀ w', w' = w → Calls Tryd.prog 17 #[.pointer (some ⟨g, 0, none⟩)] w' fun e w'' => e = .returned (.int .i64 (D.1.length : Int)) ∧ w'' = w') := fun w' e => by subst e; exact dsize_any g b D _ h
  obtain ⟨n, hn⟩ : ∃ n, D.1.length = n := ⟨_, rfl⟩
  rw [hn] at CN hl h2 ⊢
  have e1 : Int.tdiv (n : Int) 2 = ((n / 2 : Nat) : Int) := by rw [show (2 : Int) = ((2 : Nat) : Int) from rfl, ← Int.ofNat_tdiv]
  obtain ⟨q, hq⟩ : ∃ q, n / 2 - 1 = q := ⟨_, rfl⟩
  have e2 : ((n / 2 : Nat) : Int) = (q : Int) + 1 := by omega
  rw [hq]
  rw [e2] at e1
  have h1 : q ≤ 4096 := by omega
  have e3 : (q : Int) + 1 - 1 = (q : Int) := by omega
  obtain ⟨p, hp⟩ : ∃ p, 64 * q = p := ⟨_, rfl⟩
  have e4 : (q : Int) * 64 = (p : Int) := by omega
  have h3 : p ≤ 1048576 := by omega
  rw [hp]
  clear hp hq hn h e2
  go_enter Tryd.func29, Tryd.ntmps29
  go_wp2_with fail
  refine (CN.out _ rfl).mono ?_
  rintro e w1 ⟨rfl, hw1⟩
  subst hw1
  go_wp2
  go_ret
  exact ⟨rfl, rfl⟩

set_option maxHeartbeats 1000000 in
theorem blocks18_any (m : Nat) (w : World) (hm : m ≤ 1048576) :
    Calls Tryd.prog 35 #[.int .i64 (m : Int)] w fun e w' => e = .returned (.int .i64 (((m + 63) / 64 : Nat) : Int)) ∧ w' = w := by
  have e1 : Int.tdiv ((m : Int) + 64 - 1) 64 = (((m + 63) / 64 : Nat) : Int) := by
    rw [show (m : Int) + 64 - 1 = ((m + 63 : Nat) : Int) by omega, show (64 : Int) = ((64 : Nat) : Int) from rfl, ← Int.ofNat_tdiv]
  obtain ⟨q, hq⟩ : ∃ q, (m + 63) / 64 = q := ⟨_, rfl⟩
  rw [hq] at e1 ⊢
  have h1 : q ≤ 1048576 := by omega
  clear hq
  go_enter Tryd.func35, Tryd.ntmps35
  go_wp2
  go_ret
  exact ⟨rfl, rfl⟩

/-- An Out of the call's own. -/
structure OuS (w W : World) (g : Nat) (v : Value) (o : ByteArray × Bool) : Prop where
  a : OutAt W g v o
  b : Below w.heap.size w W
  g : w.heap.size ≤ g
  v : ∀ k, v.ownBlock = some k → w.heap.size ≤ k
theorem OuS.step {w W W' : World} {g : Nat} {v : Value} {o o' : ByteArray × Bool} (h : OuS w W g v o) (h2 : OutTo W g v o' W') : ∃ v', OuS w W' g v' o' := by
  obtain ⟨v', k1, k2, k3⟩ := h2
  refine ⟨v', k1, h.b.trans (k2.below _ h.b.size h.g h.v), h.g, fun k hk => ?_⟩
  rcases k3 k hk with e | hn
  · exact h.v k e
  · have := h.b.size; omega
theorem OuS.new {w w1 : World} (h : OutOk w1 w.heap.size (.slice none 0 0) ByteArray.empty) (hb : Below w.heap.size w w1) : OuS w w1 w.heap.size (.slice none 0 0) (ByteArray.empty, false) :=
  ⟨OutAt.ok.2 h, hb, Nat.le_refl _, fun k hk => by cases hk⟩

theorem odone18 (g : Nat) (v : Value) (T : ByteArray) (w : World) (h : OutAt w g v (T, false)) :
    Calls Tryd.prog 49 #[.pointer (some ⟨g, 0, none⟩)] w fun e w' => e = .returned (.tuple #[.string T, .int .i64 0]) ∧ w' = w := odone_any g v (T, false) w h

set_option maxHeartbeats 2000000 in
theorem part18_any (s : ByteArray) (w : World) (hs : s.size ≤ 32768) :
    Calls Tryd.prog 32 #[.string s] w fun e w' => e = .returned (.string (txB s)) ∧ Below w.heap.size w w' := by
  have et := textP_new s hs
  obtain ⟨T, HT⟩ : ∃ T, Hid (T = txB s) := ⟨_, rfl⟩
  rw [← HT.out] at et ⊢
  go_enter Tryd.func32, Tryd.ntmps32
  go_wp2_with fail
  refine (newOut_any w).mono ?_
  rintro e w1 ⟨rfl, ho, hb⟩
  obtain ⟨g, hg⟩ : ∃ g, w.heap.size = g := ⟨_, rfl⟩
  have H1 : Hid (OuS w w1 g (.slice none 0 0) (ByteArray.empty, false)) := hg ▸ OuS.new ho hb
  rw [hg]
  clear ho hb hg
  go_wp2_with fail
  refine (otext_any g _ _ s _ H1.out.a).mono ?_
  rintro e w2 ⟨rfl, h2⟩
  rw [et] at h2
  obtain ⟨v2, h2⟩ := H1.out.step h2
  have H2 : Hid (OuS w w2 g v2 (T, false)) := h2
  clear H1 h2
  go_wp2_with fail
  refine (odone18 g v2 T _ H2.out.a).mono ?_
  rintro e w3 ⟨rfl, hw3⟩
  subst hw3
  have hB := H2.out.b
  clear H2
  go_wp2_with fail
  go_ret
  exact ⟨rfl, hB⟩

set_option maxHeartbeats 2000000 in
theorem head18_any (turn : Int) (s : ByteArray) (w : World) (hs : s.size ≤ 65536) (h0 : 0 ≤ turn) (h1 : turn ≤ 1099511627775) (hB : GlobB w) (hK : GlobK w) :
    Calls Tryd.prog 31 #[.int .i64 turn, .string s] w fun e w' => e = .returned (.string (hd0 turn s)) ∧ Below w.heap.size w w' := by
  have en := numP_ok ByteArray.empty turn (by show 0 + 6 ≤ _; omega) h0 h1
  rw [empty_app] at en
  have en2 := numP_ok (bigB turn 6) (s.size : Int) (by rw [bigB_size]; omega) (by omega) (by omega)
  obtain ⟨A, HA⟩ : ∃ A, Hid (A = bigB turn 6) := ⟨_, rfl⟩
  obtain ⟨A2, HA2⟩ : ∃ A2, Hid (A2 = A ++ bigB (s.size : Int) 6) := ⟨_, rfl⟩
  rw [← HA.out] at en en2
  rw [← HA2.out] at en2
  obtain ⟨M, HM⟩ : ∃ M, Hid (M = ofN (sumN s)) := ⟨_, rfl⟩
  have hM : M.size = 32 := by rw [HM.out]; exact sum32 s
  have hA2 : A2.size = 12 := by rw [HA2.out, HA.out, ByteArray.size_append, bigB_size, bigB_size]
  have CS : Hid (∀ w, GlobB w → GlobK w → Calls Tryd.prog 50 #[.string s] w fun e w' => e = .returned (.string M) ∧ Below w.heap.size w w') := fun w b k => by rw [HM.out]; exact sum_any s w hs b k
  have er : hd0 turn s = A2 ++ M.extract 0 8 := by unfold hd0; rw [HM.out, HA2.out, HA.out]
  obtain ⟨R, hR⟩ : ∃ R, R = hd0 turn s := ⟨_, rfl⟩
  rw [← hR] at er ⊢
  have Hr : Hid (R = A2 ++ M.extract 0 8) := er
  have HB : Hid (GlobB w) := hB
  have HK : Hid (GlobK w) := hK
  have hsum : ¬ (9223372036854775807 < A2.size + (M.extract 0 8).size) := by rw [ByteArray.size_extract]; omega
  clear hR er hB hK
  go_enter Tryd.func31, Tryd.ntmps31
  go_wp2_with fail
  refine (newOut_any w).mono ?_
  rintro e w1 ⟨rfl, ho, hb⟩
  obtain ⟨g, hg⟩ : ∃ g, w.heap.size = g := ⟨_, rfl⟩
  have H1 : Hid (OuS w w1 g (.slice none 0 0) (ByteArray.empty, false)) := hg ▸ OuS.new ho hb
  rw [hg]
  clear ho hb hg
  go_wp2_with fail
  refine (onum_any g _ _ turn _ H1.out.a).mono ?_
  rintro e w2 ⟨rfl, h2⟩
  rw [en] at h2
  obtain ⟨v2, h2⟩ := H1.out.step h2
  have H2 : Hid (OuS w w2 g v2 (A, false)) := h2
  clear H1 h2
  go_wp2_with fail
  refine (onum_any g _ _ (s.size : Int) _ H2.out.a).mono ?_
  rintro e w3 ⟨rfl, h3⟩
  rw [en2] at h3
  obtain ⟨v3, h3⟩ := H2.out.step h3
  have H3 : Hid (OuS w w3 g v3 (A2, false)) := h3
  clear H2 h3
  go_wp2_with fail
  refine (odone18 g v3 A2 _ H3.out.a).mono ?_
  rintro e w4 ⟨rfl, hw4⟩
  subst hw4
  go_wp2_with fail
  refine (CS.out _ (HB.out.below H3.out.b) (HK.out.below H3.out.b)).mono ?_
  rintro e w5 ⟨rfl, hb5⟩
  have hB := below_step H3.out.b (Nat.le_refl _) hb5
  clear H3 hb5
  go_wp2
  go_ret
  exact ⟨by rw [Hr.out]; rfl, hB⟩

end Go.Proofs.YtaakmcihpdbilaaDoor
