import Derived.Test.YtaakmcihpdbilaaGreatDoorSP
import Derived.Test.YtaakmcihpdbilaaGreatDoorBK
import Derived.Test.YtaakmcihpdbilaaGreatDoorC9
import Derived.Test.YtaakmcihpdbilaaGreatDoorShelf
import Derived.Test.YtaakmcihpdbilaaGreatDoorBld
import Derived.LaidEqlPtr
/- Layer 18, the code's: filled, first, room, blocks, part, head. -/
namespace Go.Proofs.YtaakmcihpdbilaaGreatDoor
open Go.RowKit
set_option maxRecDepth 100000
set_option linter.unusedSimpArgs false
set_option linter.unusedVariables false
set_option maxRecDepth 100000

theorem noughts18_any (c : Nat) (w : World) (hc : c ≤ 16384) :
    Calls Tryz.prog 73 #[.string ⟨#[0]⟩, .int .i64 c] w fun e w' => e = .returned (.string (zeroB c)) ∧ Below w.heap.size w w' := by
  refine (Tryz.strings_Repeat ⟨#[0]⟩ c w (by omega) (by show 1 * c ≤ _; omega)).mono ?_
  rintro e w' ⟨rfl, hb⟩
  refine ⟨?_, hb⟩
  have := Lib.repeatL_replicate 0 1 c
  simp at this
  show Ending.returned (.string ⟨(Lib.repeatL [0] c).toArray⟩) = _
  rw [this]
  rfl

/-- A block that begins so. -/
def fl18 (s : ByteArray) : ByteArray := s ++ zeroB (64 - s.size)
theorem fl18_size (s : ByteArray) (h : s.size ≤ 64) : (fl18 s).size = 64 := by unfold fl18; rw [ByteArray.size_append, zeroB_size]; omega
/-- What a head begins with. -/
def hd0 (turn : Int) (s : ByteArray) : ByteArray := bigB turn 6 ++ bigB (s.size : Int) 6 ++ (ofN (sumN s)).extract 0 8
theorem hd0_size (turn : Int) (s : ByteArray) : (hd0 turn s).size = 20 := by
  unfold hd0
  rw [ByteArray.size_append, ByteArray.size_append, bigB_size, bigB_size, ByteArray.size_extract, sum32]; rfl
theorem hd0_fl (turn : Int) (s : ByteArray) : fl18 (hd0 turn s) = hdB turn s := by
  unfold fl18 hdB filB
  rw [hd0_size]
  have h := hd0_size turn s
  unfold hd0 at h ⊢
  rw [h]; rfl

set_option maxHeartbeats 1000000 in
theorem filled18_any (s : ByteArray) (w : World) (hs : s.size ≤ 64) :
    Calls Tryz.prog 51 #[.string s] w fun e w' => e = .returned (.string (fl18 s)) ∧ Below w.heap.size w w' := by
  obtain ⟨c, hc⟩ : ∃ c, 64 - s.size = c := ⟨_, rfl⟩
  have CN : Hid (∀ w, _) := fun w => noughts18_any c w (by omega)
  have e1 : (64 : Int) - (s.size : Int) = (c : Int) := by omega
  have e2 : s ++ zeroB c = fl18 s := by unfold fl18; rw [hc]
  have hz : (zeroB c).size = c := zeroB_size c
  obtain ⟨R, hR⟩ : ∃ R, R = fl18 s := ⟨_, rfl⟩
  obtain ⟨Z, hZ⟩ : ∃ Z, zeroB c = Z := ⟨_, rfl⟩
  rw [hZ] at CN e2 hz
  rw [← hR] at e2 ⊢
  have hsum : ¬ (9223372036854775807 < s.size + Z.size) := by omega
  clear hc hR hZ
  go_enter Tryz.func51, Tryz.ntmps51
  go_wp2_with fail
  refine (CN.out _).mono ?_
  rintro e w1 ⟨rfl, hb⟩
  go_wp2
  go_ret
  exact ⟨rfl, hb⟩

set_option maxHeartbeats 1000000 in
theorem first18_any (g b : Nat) (D : DevT) (half : Nat) (w : World) (h : DevAt w g b D) (hl : D.1.length ≤ 4096) (hh : half < 2) :
    Calls Tryz.prog 46 #[.pointer (some ⟨g, 0, none⟩), .int .i64 (half : Int)] w fun e w' => e = .returned (.int .i64 ((half * (D.1.length / 2) : Nat) : Int)) ∧ w' = w := by
  have CN : Hid (∀ w', w' = w → Calls Tryz.prog 32 #[.pointer (some ⟨g, 0, none⟩)] w' fun e w'' => e = .returned (.int .i64 (D.1.length : Int)) ∧ w'' = w') := fun w' e => by subst e; exact dsize_any g b D _ h
  obtain ⟨n, hn⟩ : ∃ n, D.1.length = n := ⟨_, rfl⟩
  rw [hn] at CN hl ⊢
  have e1 : Int.tdiv (n : Int) 2 = ((n / 2 : Nat) : Int) := by rw [show (2 : Int) = ((2 : Nat) : Int) from rfl, ← Int.ofNat_tdiv]
  obtain ⟨q, hq⟩ : ∃ q, n / 2 = q := ⟨_, rfl⟩
  rw [hq] at e1 ⊢
  have h1 : half * q ≤ 4096 := by
    have : half * q ≤ 1 * q := Nat.mul_le_mul_right q (by omega)
    omega
  obtain ⟨p, hp⟩ : ∃ p, half * q = p := ⟨_, rfl⟩
  have e2 : (half : Int) * (q : Int) = (p : Int) := by rw [← hp]; rfl
  rw [hp] at h1 ⊢
  have hq4 : q ≤ 4096 := by omega
  clear hp hq hn h
  go_enter Tryz.func46, Tryz.ntmps46
  go_wp2_with fail
  refine (CN.out _ rfl).mono ?_
  rintro e w1 ⟨rfl, hw1⟩
  subst hw1
  go_wp2
  go_ret
  exact ⟨rfl, rfl⟩

set_option maxHeartbeats 1000000 in
theorem room18_any (g b : Nat) (D : DevT) (w : World) (h : DevAt w g b D) (hl : D.1.length ≤ 4096) (h2 : 2 ≤ D.1.length) :
    Calls Tryz.prog 44 #[.pointer (some ⟨g, 0, none⟩)] w fun e w' => e = .returned (.int .i64 ((64 * (D.1.length / 2 - 1) : Nat) : Int)) ∧ w' = w := by
  have CN : Hid (∀ w', w' = w → Calls Tryz.prog 32 #[.pointer (some ⟨g, 0, none⟩)] w' fun e w'' => e = .returned (.int .i64 (D.1.length : Int)) ∧ w'' = w') := fun w' e => by subst e; exact dsize_any g b D _ h
  obtain ⟨n, hn⟩ : ∃ n, D.1.length = n := ⟨_, rfl⟩
  rw [hn] at CN hl h2 ⊢
  have e1 : Int.tdiv (n : Int) 2 = ((n / 2 : Nat) : Int) := by rw [show (2 : Int) = ((2 : Nat) : Int) from rfl, ← Int.ofNat_tdiv]
  obtain ⟨q, hq⟩ : ∃ q, n / 2 - 1 = q := ⟨_, rfl⟩
  have e2 : ((n / 2 : Nat) : Int) = (q : Int) + 1 := by omega
  rw [hq]
  rw [e2] at e1
  have h1 : q ≤ 4096 := by omega
  have e3 : (q : Int) + 1 - 1 = (q : Int) := by omega
  obtain ⟨p, hp⟩ : ∃ p, 64 * q = p := ⟨_, rfl⟩
  have e4 : (q : Int) * 64 = (p : Int) := by omega
  have h3 : p ≤ 1048576 := by omega
  rw [hp]
  clear hp hq hn h e2
  go_enter Tryz.func44, Tryz.ntmps44
  go_wp2_with fail
  refine (CN.out _ rfl).mono ?_
  rintro e w1 ⟨rfl, hw1⟩
  subst hw1
  go_wp2
  go_ret
  exact ⟨rfl, rfl⟩

set_option maxHeartbeats 1000000 in
theorem blocks18_any (m : Nat) (w : World) (hm : m ≤ 1048576) :
    Calls Tryz.prog 47 #[.int .i64 (m : Int)] w fun e w' => e = .returned (.int .i64 (((m + 63) / 64 : Nat) : Int)) ∧ w' = w := by
  have e1 : Int.tdiv ((m : Int) + 64 - 1) 64 = (((m + 63) / 64 : Nat) : Int) := by
    rw [show (m : Int) + 64 - 1 = ((m + 63 : Nat) : Int) by omega, show (64 : Int) = ((64 : Nat) : Int) from rfl, ← Int.ofNat_tdiv]
  obtain ⟨q, hq⟩ : ∃ q, (m + 63) / 64 = q := ⟨_, rfl⟩
  rw [hq] at e1 ⊢
  have h1 : q ≤ 1048576 := by omega
  clear hq
  go_enter Tryz.func47, Tryz.ntmps47
  go_wp2
  go_ret
  exact ⟨rfl, rfl⟩

/-- An Out of the call's own. -/
structure OuS (w W : World) (g : Nat) (v : Value) (o : ByteArray × Bool) : Prop where
  a : OutAt W g v o
  b : Below w.heap.size w W
  g : w.heap.size ≤ g
  v : ∀ k, v.ownBlock = some k → w.heap.size ≤ k
theorem OuS.step {w W W' : World} {g : Nat} {v : Value} {o o' : ByteArray × Bool} (h : OuS w W g v o) (h2 : OutTo W g v o' W') : ∃ v', OuS w W' g v' o' := by
  obtain ⟨v', k1, k2, k3⟩ := h2
  refine ⟨v', k1, h.b.trans (k2.below _ h.b.size h.g h.v), h.g, fun k hk => ?_⟩
  rcases k3 k hk with e | hn
  · exact h.v k e
  · have := h.b.size; omega
theorem OuS.new {w w1 : World} (h : OutOk w1 w.heap.size (.slice none 0 0) ByteArray.empty) (hb : Below w.heap.size w w1) : OuS w w1 w.heap.size (.slice none 0 0) (ByteArray.empty, false) :=
  ⟨OutAt.ok.2 h, hb, Nat.le_refl _, fun k hk => by cases hk⟩

theorem odone18 (g : Nat) (v : Value) (T : ByteArray) (w : World) (h : OutAt w g v (T, false)) :
    Calls Tryz.prog 65 #[.pointer (some ⟨g, 0, none⟩)] w fun e w' => e = .returned (.tuple #[.string T, .int .i64 0]) ∧ w' = w := odone_any g v (T, false) w h

set_option maxHeartbeats 2000000 in
theorem part18_any (s : ByteArray) (w : World) (hs : s.size ≤ 32768) :
    Calls Tryz.prog 43 #[.string s] w fun e w' => e = .returned (.string (txB s)) ∧ Below w.heap.size w w' := by
  have et := textP_new s hs
  obtain ⟨T, HT⟩ : ∃ T, Hid (T = txB s) := ⟨_, rfl⟩
  rw [← HT.out] at et ⊢
  go_enter Tryz.func43, Tryz.ntmps43
  go_wp2_with fail
  refine (newOut_any w).mono ?_
  rintro e w1 ⟨rfl, ho, hb⟩
  obtain ⟨g, hg⟩ : ∃ g, w.heap.size = g := ⟨_, rfl⟩
  have H1 : Hid (OuS w w1 g (.slice none 0 0) (ByteArray.empty, false)) := hg ▸ OuS.new ho hb
  rw [hg]
  clear ho hb hg
  go_wp2_with fail
  refine (otext_any g _ _ s _ H1.out.a).mono ?_
  rintro e w2 ⟨rfl, h2⟩
  rw [et] at h2
  obtain ⟨v2, h2⟩ := H1.out.step h2
  have H2 : Hid (OuS w w2 g v2 (T, false)) := h2
  clear H1 h2
  go_wp2_with fail
  refine (odone18 g v2 T _ H2.out.a).mono ?_
  rintro e w3 ⟨rfl, hw3⟩
  subst hw3
  have hB := H2.out.b
  clear H2
  go_wp2_with fail
  go_ret
  exact ⟨rfl, hB⟩

set_option maxHeartbeats 2000000 in
theorem head18_any (turn : Int) (s : ByteArray) (w : World) (hs : s.size ≤ 65536) (h0 : 0 ≤ turn) (h1 : turn ≤ 1099511627775) (hB : GlobB w) (hK : GlobK w) :
    Calls Tryz.prog 48 #[.int .i64 turn, .string s] w fun e w' => e = .returned (.string (hd0 turn s)) ∧ Below w.heap.size w w' := by
  have en := numP_ok ByteArray.empty turn (by show 0 + 6 ≤ _; omega) h0 h1
  rw [empty_app] at en
  have en2 := numP_ok (bigB turn 6) (s.size : Int) (by rw [bigB_size]; omega) (by omega) (by omega)
  obtain ⟨A, HA⟩ : ∃ A, Hid (A = bigB turn 6) := ⟨_, rfl⟩
  obtain ⟨A2, HA2⟩ : ∃ A2, Hid (A2 = A ++ bigB (s.size : Int) 6) := ⟨_, rfl⟩
  rw [← HA.out] at en en2
  rw [← HA2.out] at en2
  obtain ⟨M, HM⟩ : ∃ M, Hid (M = ofN (sumN s)) := ⟨_, rfl⟩
  have hM : M.size = 32 := by rw [HM.out]; exact sum32 s
  have hA2 : A2.size = 12 := by rw [HA2.out, HA.out, ByteArray.size_append, bigB_size, bigB_size]
  have CS : Hid (∀ w, GlobB w → GlobK w → Calls Tryz.prog 68 #[.string s] w fun e w' => e = .returned (.string M) ∧ Below w.heap.size w w') := fun w b k => by rw [HM.out]; exact sum_any s w hs b k
  have er : hd0 turn s = A2 ++ M.extract 0 8 := by unfold hd0; rw [HM.out, HA2.out, HA.out]
  obtain ⟨R, hR⟩ : ∃ R, R = hd0 turn s := ⟨_, rfl⟩
  rw [← hR] at er ⊢
  have Hr : Hid (R = A2 ++ M.extract 0 8) := er
  have HB : Hid (GlobB w) := hB
  have HK : Hid (GlobK w) := hK
  have hsum : ¬ (9223372036854775807 < A2.size + (M.extract 0 8).size) := by rw [ByteArray.size_extract]; omega
  clear hR er hB hK
  go_enter Tryz.func48, Tryz.ntmps48
  go_wp2_with fail
  refine (newOut_any w).mono ?_
  rintro e w1 ⟨rfl, ho, hb⟩
  obtain ⟨g, hg⟩ : ∃ g, w.heap.size = g := ⟨_, rfl⟩
  have H1 : Hid (OuS w w1 g (.slice none 0 0) (ByteArray.empty, false)) := hg ▸ OuS.new ho hb
  rw [hg]
  clear ho hb hg
  go_wp2_with fail
  refine (onum_any g _ _ turn _ H1.out.a).mono ?_
  rintro e w2 ⟨rfl, h2⟩
  rw [en] at h2
  obtain ⟨v2, h2⟩ := H1.out.step h2
  have H2 : Hid (OuS w w2 g v2 (A, false)) := h2
  clear H1 h2
  go_wp2_with fail
  refine (onum_any g _ _ (s.size : Int) _ H2.out.a).mono ?_
  rintro e w3 ⟨rfl, h3⟩
  rw [en2] at h3
  obtain ⟨v3, h3⟩ := H2.out.step h3
  have H3 : Hid (OuS w w3 g v3 (A2, false)) := h3
  clear H2 h3
  go_wp2_with fail
  refine (odone18 g v3 A2 _ H3.out.a).mono ?_
  rintro e w4 ⟨rfl, hw4⟩
  subst hw4
  go_wp2_with fail
  refine (CS.out _ (HB.out.below H3.out.b) (HK.out.below H3.out.b)).mono ?_
  rintro e w5 ⟨rfl, hb5⟩
  have hB := below_step H3.out.b (Nat.le_refl _) hb5
  clear H3 hb5
  go_wp2
  go_ret
  exact ⟨by rw [Hr.out]; rfl, hB⟩

end Go.Proofs.YtaakmcihpdbilaaGreatDoor

/- Layer 18, the code's: texts. -/
namespace Go.Proofs.YtaakmcihpdbilaaGreatDoor
open Go.RowKit
set_option maxRecDepth 100000
set_option linter.unusedSimpArgs false
set_option linter.unusedVariables false
set_option maxRecDepth 100000

theorem text_same18 (S : ByteArray) (most : Int) : inTextC (S, 0) most = inTextP (S, 0) most := by
  refine text_same _ _ (fun e h => ?_)
  by_cases hc : (S, (0 : Int)).2 ≠ 0 ∨ (S, (0 : Int)).1.size < 2
  · unfold numberP at h ⊢
    rw [if_pos hc] at h ⊢
    unfold wrongP at h ⊢
    simp only at h ⊢
    rw [if_neg h]
  · unfold numberP at h
    rw [if_neg hc] at h
    exact absurd rfl h
theorem inText_bad18 (S : ByteArray) (most : Int) (h : (inTextP (S, 0) most).1.2 ≠ 0) : (inTextP (S, 0) most).1.1 = ⟨#[]⟩ := by
  unfold inTextP at h ⊢
  by_cases h1 : (numberP (S, 0) 2).1.2 ≠ 0
  · rw [if_pos h1]
    unfold numberP at h1 ⊢
    by_cases hc : (S, (0 : Int)).2 ≠ 0 ∨ (S, (0 : Int)).1.size < 2
    · rw [if_pos hc]; rfl
    · rw [if_neg hc] at h1; exact absurd rfl h1
  · rw [if_neg h1] at h ⊢
    split
    · rfl
    · rename_i h2
      rw [if_neg h2] at h
      split
      · rfl
      · rename_i h3
        rw [if_neg h3] at h
        exact absurd h h1

set_option maxHeartbeats 4000000 in
theorem texts18_any (s : ByteArray) (w : World) (hs : s.size ≤ 1048576) :
    Calls Tryz.prog 39 #[.string s] w fun e w' => ∃ v, e = .returned v ∧ Below w.heap.size w w' ∧
      ((txsP s = none ∧ v = .slice none 0 0) ∨ ∃ l, txsP s = some l ∧ OwnTx w' (w.heap.size + 1) v l.length l) := by
  obtain ⟨i0, hi, hz0, hz1, hz2⟩ := info_parts Tryz.infoStr18
  go_enter Tryz.func39, Tryz.ntmps39
  go_wp2_with fail
  refine (newIn_any s w hs).mono ?_
  rintro e w1 ⟨rfl, hI, hb⟩
  have HI0 : Hid (InAt w1 w.heap.size (s, 0)) := hI
  have HB0 : Hid (Below w.heap.size w w1) := hb
  clear hI hb
  go_wp2_with fail
  go_loopw [3] (fun v wr => ∃ (lk : List ByteArray) (S : ByteArray) (c : Int), Hid (c = 0 → txsP s = (txsP S).map (lk ++ ·)) ∧ Hid (c ≠ 0 → txsP s = none ∧ S.size = 0) ∧ S.size + lk.length ≤ s.size ∧ Hid (OwnTx wr (w.heap.size + 1) v lk.length lk) ∧ Hid (InAt wr w.heap.size (S, c)) ∧ Hid (Below w.heap.size w wr)) (fun v _ => s.size - lnV v)
  case atStart => exact ⟨[], s, 0, fun _ => by simp, fun h => absurd rfl h, by simp, OwnTx.nil _ _, HI0, HB0⟩
  case round =>
    clear HI0 HB0
    obtain ⟨lk, S, c, HT, HN, hz, HO, HI, HB⟩ := hrel
    obtain ⟨a4, c4, rfl, _⟩ := HO.out.strs
    have CR : Hid (∀ W, W = wr → Calls Tryz.prog 58 #[.pointer (some ⟨w.heap.size, 0, none⟩)] W fun e w' => e = .returned (.int .i64 (S.size : Int)) ∧ w' = W) := fun W e => by subst e; exact irest_any _ _ _ HI.out
    by_cases h0 : S.size = 0
    · have q0 : ¬ ((0 : Int) < (S.size : Int)) := by omega
      have CD : Hid (∀ W, W = wr → Calls Tryz.prog 59 #[.pointer (some ⟨w.heap.size, 0, none⟩)] W fun e w' => e = .returned (.int .i64 c) ∧ w' = W) := fun W e => by
        subst e
        have h := idone_any _ _ _ HI.out
        rw [show inDoneP (S, c) = c from by unfold inDoneP; rw [if_neg (fun h => h.2 h0)]] at h
        exact h
      go_wp2_with fail
      refine (CR.out _ rfl).mono ?_
      rintro e W0 ⟨rfl, hW0⟩
      subst hW0
      go_wp2_with fail
      refine (CD.out _ rfl).mono ?_
      rintro e W0 ⟨rfl, hW0⟩
      subst hW0
      by_cases hc : c = 0
      · have HR : Hid (txsP s = some lk) := by show _ = _; rw [HT.out hc, txsP_none S h0]; simp
        have q1 : (c != 0) = false := by rw [hc]; rfl
        clear HT HN CR CD
        go_wp2_with fail
        go_ret
        exact ⟨_, rfl, HB.out, .inr ⟨lk, HR.out, HO.out⟩⟩
      · have HR : Hid (txsP s = none) := (HN.out hc).1
        have q1 : (c != 0) = true := by rw [bne_iff_ne]; exact hc
        clear HT HN CR CD
        go_wp2_with fail
        go_ret
        exact ⟨_, rfl, HB.out, .inl ⟨HR.out, rfl⟩⟩
    · have q0 : (0 : Int) < (S.size : Int) := by omega
      have hc : c = 0 := by
        by_cases hc : c = 0
        · exact hc
        · exact absurd (HN.out hc).2 h0
      subst hc
      have HT' : Hid (txsP s = (txsP S).map (lk ++ ·)) := HT.out rfl
      clear HT HN
      obtain ⟨⟨⟨S1, e1⟩, T⟩, r1⟩ : ∃ p, inTextP (S, 0) 32768 = p := ⟨_, rfl⟩
      have CX : Hid (∀ W, W = wr → Calls Tryz.prog 36 #[.pointer (some ⟨w.heap.size, 0, none⟩), .int .i64 32768] W fun e w' => e = .returned (.string T) ∧ InTo W w.heap.size (S1, e1) w') := fun W e => by
        subst e
        have h := itext_any w.heap.size (S, 0) 32768 _ HI.out
        rw [text_same18, r1] at h
        exact h
      have HR1 : Hid (inTextP (S, 0) 32768 = ((S1, e1), T)) := r1
      clear r1
      go_wp2_with fail
      refine (CR.out _ rfl).mono ?_
      rintro e W0 ⟨rfl, hW0⟩
      subst hW0
      go_wp2_with fail
      refine (CX.out _ rfl).mono ?_
      rintro e W1 ⟨rfl, h1, h1k⟩
      have HI1 : Hid (InAt W1 w.heap.size (S1, e1)) := h1
      have hw1 := HB.out.size
      have HO1 : Hid (OwnTx W1 (w.heap.size + 1) (.slice a4 lk.length c4) lk.length lk) := owns_same HO.out (fun j hj => by
        have hl := World.ownsRow.lt HO.out j hj
        exact h1k.block j hl.2 (by omega) (fun e => by cases e))
      have HB1 : Hid (Below w.heap.size w W1) := HB.out.trans (h1k.below _ HB.out.size (Nat.le_refl _) (fun k hk => by cases hk))
      have hs1 := HB1.out.size
      have hI1 := HI1.out.1.lt
      clear h1 h1k HI HO HB CR CX hw1
      have hll : lk.length ≤ 1048576 := by omega
      go_wp2_with (at_builtin; refine wpList_appR2 rfl (.tmp 10) (.tmp 13) 26 rfl (w.heap.size + 1) 9 i0 _ 1 16 Tryz.underlying26 hi hz0 hz1 hz2 rfl (by decide) W1 (.slice a4 lk.length c4) lk.length (lk.map Value.string) rfl HO1.out #[.string T] rfl (by simp [Value.oneCell']) rfl (by omega) (by unfold maxLen; omega) (by omega) ?_)
      intro v4 w4 hown4 hg4
      have HO4 : Hid (OwnTx w4 (w.heap.size + 1) v4 (lk.length + 1) (lk ++ [T])) := by
        show World.ownsRow _ _ _ _ _ _ _
        rw [List.map_append]; exact hown4
      have bx := below_new W1 (.cells #[.string T] 9)
      have HI4 : Hid (InAt w4 w.heap.size (S1, e1)) := ⟨(HI1.out.1.on bx).grown hg4 (fun e => by have := (World.ownsRow.lt HO1.out _ e.symm).1; omega), HI1.out.2⟩
      have HB4 : Hid (Below w.heap.size w w4) := (below_step HB1.out (Nat.le_refl _) bx).grown hg4 (by have := bx.size; omega) (fun j hj => by have := (World.ownsRow.lt HO1.out _ hj).1; omega)
      obtain ⟨a5, c5, rfl, _⟩ := HO4.out.strs
      clear hown4 hg4 bx HO1 HI1 HB1
      go_wp2_with fail
      have hl1 : (lk ++ [T]).length = lk.length + 1 := by simp
      refine ⟨⟨lk ++ [T], S1, e1, ?_, ?_, ?_, by rw [hl1]; exact HO4, HI4, HB4⟩, ?_⟩
      · intro he
        subst he
        show _ = _
        rw [HT'.out, txsP_next S S1 T h0 HR1.out]
        cases txsP S1 with
        | none => rfl
        | some l => simp
      · intro he
        refine ⟨?_, ?_⟩
        · rw [HT'.out, txsP_bad S h0 (by rw [HR1.out]; exact he)]; rfl
        · have h := inText_bad18 S 32768 (by rw [HR1.out]; exact he)
          rw [HR1.out] at h
          have h' : S1 = ⟨#[]⟩ := h
          rw [h']; rfl
      · rw [hl1]
        by_cases he : e1 = 0
        · have h := inTextP_less S 32768 (by rw [HR1.out]; exact he)
          rw [HR1.out] at h
          have h' : S1.size + 2 ≤ S.size := h
          omega
        · have h := inText_bad18 S 32768 (by rw [HR1.out]; exact he)
          rw [HR1.out] at h
          have h' : S1 = ⟨#[]⟩ := h
          have h'' : S1.size = 0 := by rw [h']; rfl
          omega
      · show s.size - (lk.length + 1) < s.size - lk.length
        omega

end Go.Proofs.YtaakmcihpdbilaaGreatDoor

/- Layer 18, the code's: each, span. -/
namespace Go.Proofs.YtaakmcihpdbilaaGreatDoor
open Go.RowKit
set_option maxRecDepth 100000
set_option linter.unusedSimpArgs false
set_option linter.unusedVariables false
set_option maxRecDepth 100000

/-- So many blocks, from one on, one behind the other. -/
def catB (L : List ByteArray) (p : Nat) : Nat → ByteArray
  | 0 => ⟨#[]⟩
  | k + 1 => catB L p k ++ strL L (p + k)
theorem catB_all (L : List ByteArray) (p : Nat) : ∀ k, catB L (p + 1) k = allB L p k
  | 0 => rfl
  | k + 1 => by
    show catB L (p + 1) k ++ strL L (p + 1 + k) = allB L p k ++ strL L (p + (k + 1))
    rw [catB_all L p k, show p + 1 + k = p + (k + 1) by omega]
theorem catB_size (L : List ByteArray) (p : Nat) (h : AllB L) : ∀ k, p + k ≤ L.length → (catB L p k).size = 64 * k
  | 0, _ => rfl
  | k + 1, hk => by
    show (catB L p k ++ strL L (p + k)).size = _
    rw [ByteArray.size_append, catB_size L p h k (by omega), h _ (by omega)]; omega

set_option maxHeartbeats 1000000 in
/-- The closure that a block is told to. -/
theorem tell18_any (B b : Nat) (a s : ByteArray) (w : World) (h : Bld B b a w) (hlen : a.size + s.size ≤ 140737488355328) (hBw : B ≤ w.heap.size) :
    Calls Tryz.prog 70 #[.string s, .pointer (some ⟨b, 0, none⟩)] w fun e w' => e = .returned (.tuple #[]) ∧ Bld B b (a ++ s) w' ∧ Below B w w' := by
  go_enter Tryz.func70, Tryz.ntmps70
  go_wp2_with fail
  refine (bwrite_any B b a s _ h hlen hBw).mono ?_
  rintro e w1 ⟨rfl, h1, hb1⟩
  go_wp2
  go_end0
  exact ⟨rfl, h1, hb1⟩

set_option maxHeartbeats 2000000 in
theorem each18_any (B : Nat) (g b c : Nat) (D : DevT) (p m : Nat) (w : World) (h : DevAt w g b D) (ho : D.2.2.1 = false) (hp : p + m ≤ D.1.length) (hl : D.1.length ≤ 4096) (hg : g < B) (hb : b < B) (hB : B ≤ w.heap.size) (hc : Bld B c ⟨#[]⟩ w) :
    Calls Tryz.prog 69 #[.int .i64 (p : Int), .int .i64 (m : Int), .func (.func 14) #[.pointer (some ⟨g, 0, none⟩)] #[], .func (.func 70) #[] #[.pointer (some ⟨c, 0, none⟩)]] w fun e w' => e = .returned (.tuple #[]) ∧ Bld B c (catB D.1 p m) w' ∧ Below B w w' := by
  have HD : Hid (∀ W, Below B w W → DevAt W g b D) := fun W hW => by
    obtain ⟨F, h1, ⟨cs, h2, h3⟩, h4⟩ := h
    exact ⟨F, h1.below hW hg, ⟨cs, h2.below hW hb, h3⟩, h4⟩
  have HA : Hid (AllB D.1) := by obtain ⟨F, _, _, _, h4, _⟩ := h; exact h4
  have HC0 : Hid (Bld B c (catB D.1 p 0) w) := hc
  have HR : Hid (∀ k, readB D k = (strL D.1 k, 0)) := fun k => by unfold readB; rw [ho]; rfl
  clear h hc
  go_enter Tryz.func69, Tryz.ntmps69
  go_wp2_with fail
  go_loopw [12] (fun i wr => ∃ k : Nat, k ≤ m ∧ i = .int .i64 k ∧ Hid (Bld B c (catB D.1 p k) wr) ∧ Hid (Below B w wr)) (fun i _ => m - (intOf i).toNat)
  case atStart => exact ⟨0, Nat.zero_le _, rfl, HC0, Below.refl _ _⟩
  case round =>
    clear HC0
    obtain ⟨k, hk, rfl, HC, HB⟩ := hrel
    by_cases hlt : k < m
    · have d0 : (k : Int) < (m : Int) := by omega
      have d2 : p + k < 4096 := by omega
      have CR : Hid (∀ W, W = wr → Calls Tryz.prog 14 #[.pointer (some ⟨g, 0, none⟩), .int .i64 ((p : Int) + (k : Int))] W fun e w' => e = .returned (.tuple #[.string (strL D.1 (p + k)), .int .i64 0]) ∧ w' = W) := fun W e => by
        subst e
        rw [show (p : Int) + (k : Int) = ((p + k : Nat) : Int) by omega]
        have h := dread_any g b D (p + k) _ (HD.out _ HB.out) (by omega)
        rw [HR.out] at h
        exact h
      have hs : (catB D.1 p k).size = 64 * k := catB_size D.1 p HA.out k (by omega)
      have hs2 : (strL D.1 (p + k)).size = 64 := HA.out _ (by omega)
      have hBB := HB.out.size
      have CT : Hid (∀ W, W = wr → Calls Tryz.prog 70 #[.string (strL D.1 (p + k)), .pointer (some ⟨c, 0, none⟩)] W fun e w' => e = .returned (.tuple #[]) ∧ Bld B c (catB D.1 p (k + 1)) w' ∧ Below B W w') := fun W e => by
        subst e
        exact tell18_any B c (catB D.1 p k) (strL D.1 (p + k)) _ HC.out (by omega) (by omega)
      clear hs hs2 HC
      go_wp2_with fail
      refine (CR.out _ rfl).mono ?_
      rintro e W1 ⟨rfl, hW1⟩
      subst hW1
      go_wp2_with fail
      refine (CT.out _ rfl).mono ?_
      rintro e W2 ⟨rfl, hc2, hb2⟩
      have HB2 : Hid (Below B w W2) := HB.out.trans hb2
      have HC2 : Hid (Bld B c (catB D.1 p (k + 1)) W2) := hc2
      clear HB hb2 hc2 CR CT
      go_wp2_with fail
      refine ⟨⟨k + 1, by omega, by rfl, HC2, HB2⟩, ?_⟩
      show m - (k + 1) < m - k
      omega
    · have d0 : ¬ ((k : Int) < (m : Int)) := by omega
      obtain rfl : k = m := by omega
      go_wp2_with fail
      go_end0
      exact ⟨rfl, HC.out, HB.out⟩

set_option maxHeartbeats 2000000 in
theorem span18_any (g b : Nat) (D : DevT) (p m : Nat) (w : World) (h : DevAt w g b D) (ho : D.2.2.1 = false) (hp : p + (m + 63) / 64 ≤ D.1.length) (hl : D.1.length ≤ 4096) :
    Calls Tryz.prog 49 #[.pointer (some ⟨g, 0, none⟩), .int .i64 (p : Int), .int .i64 (m : Int)] w fun e w' => e = .returned (.string ((catB D.1 p ((m + 63) / 64)).extract 0 m)) ∧ Below w.heap.size w w' := by
  have hmf : ∀ (fn : Fn) (first cap : Array Value) (w : World), (Instr.makeFunc fn first cap).run Tryz.prog w = .ok (.func fn first cap) w := fun _ _ _ _ => rfl
  obtain ⟨q, hq⟩ : ∃ q, (m + 63) / 64 = q := ⟨_, rfl⟩
  rw [hq] at hp ⊢
  have hm : m ≤ 64 * q := by omega
  have CB : Hid (∀ W, Calls Tryz.prog 47 #[.int .i64 (m : Int)] W fun e w' => e = .returned (.int .i64 (q : Int)) ∧ w' = W) := fun W => by rw [← hq]; exact blocks18_any m W (by omega)
  have hz : (catB D.1 p q).size = 64 * q := catB_size D.1 p (by obtain ⟨F, _, _, _, h4, _⟩ := h; exact h4) q hp
  have hlt := h.lt
  have HC : Hid (Bld w.heap.size w.heap.size ⟨#[]⟩ (w.alloc (.cells #[.pointer none, .slice none 0 0] 112))) := bld_new w
  have HB1 : Hid (Below w.heap.size w (w.alloc (.cells #[.pointer none, .slice none 0 0] 112))) := below_new w _
  have HD : Hid (DevAt (w.alloc (.cells #[.pointer none, .slice none 0 0] 112)) g b D) := h.on (below_new w _)
  obtain ⟨A, HA⟩ : ∃ A, Hid (A = catB D.1 p q) := ⟨_, rfl⟩
  rw [← HA.out] at hz ⊢
  clear h hq
  go_enter Tryz.func49, Tryz.ntmps49
  go_wp2_with fail
  refine (CB.out _).mono ?_
  rintro e w1 ⟨rfl, hw1⟩
  subst hw1
  go_wp2_with fail
  refine (each18_any w.heap.size g b w.heap.size D p q _ HD.out ho hp hl hlt.1 hlt.2 HB1.out.size HC.out).mono ?_
  rintro e w2 ⟨rfl, hc2, hb2⟩
  rw [← HA.out] at hc2
  have HB2 : Hid (Below w.heap.size w w2) := HB1.out.trans hb2
  have HC2 : Hid (Bld w.heap.size w.heap.size A w2) := hc2
  clear HC HB1 HD hb2 hc2 CB
  go_wp2_with fail
  refine (bstring_any w.heap.size w.heap.size A w2 HC2.out HB2.out.size).mono ?_
  rintro e w3 ⟨rfl, hb3⟩
  have hB := HB2.out.trans hb3
  clear HB2 HC2 hb3
  have hmz : m ≤ A.size := by omega
  go_wp2
  go_ret
  exact ⟨rfl, hB⟩

end Go.Proofs.YtaakmcihpdbilaaGreatDoor

/- Layer 18, the code's: whole. -/
namespace Go.Proofs.YtaakmcihpdbilaaGreatDoor
open Go.RowKit
set_option maxRecDepth 100000
set_option linter.unusedSimpArgs false
set_option linter.unusedVariables false
set_option maxRecDepth 100000

theorem allB_cut (L : List ByteArray) (p n : Nat) (h : AllB L) : ∀ k d, n ≤ 64 * k → p + (k + d) < L.length → (allB L p (k + d)).extract 0 n = (allB L p k).extract 0 n
  | k, 0, _, _ => rfl
  | k, d + 1, hn, hp => by
    show (allB L p (k + d) ++ strL L (p + (k + d + 1))).extract 0 n = _
    rw [ext_head _ _ _ (by rw [allB_size L p (k + d) h (by omega)]; omega)]
    exact allB_cut L p n h k d hn (by omega)

theorem inNum_err (i : ByteArray × Int) (h : (inNumP i).1.2 ≠ 0) : (inNumP i).2 = 0 := by
  unfold inNumP at h ⊢
  split
  · rfl
  · rename_i hc
    rw [if_neg hc] at h
    exact number_wrong i 6 h
/-- What the code takes of a half. -/
def wholeC (L : List ByteArray) (wh : Nat) : Int × ByteArray :=
  let p := wh * (L.length / 2)
  if (hf1 L p).2 < 1 ∨ (hf1 L p).2 % 2 ≠ wh ∨ 64 * (L.length / 2 - 1) < (hf2 L p).2 then (0, ⟨#[]⟩)
  else
    let laid := (catB L (p + 1) (((hf2 L p).2 + 63) / 64)).extract 0 (hf2 L p).2
    if strL L p ≠ hdB ((hf1 L p).2 : Int) laid ∨ txsP laid = none ∨ txsP laid = some [] then (0, ⟨#[]⟩) else ((hf1 L p).2, laid)
/-- The half of the document. -/
def wholeP (L : List ByteArray) (wh : Nat) : Int × ByteArray := match halfP L wh with
  | some X => (X.2.2.1, X.2.2.2)
  | none => (0, ⟨#[]⟩)
theorem whole_none {L : List ByteArray} {wh : Nat} (h : halfP L wh = none) : wholeP L wh = (0, ⟨#[]⟩) := by unfold wholeP; rw [h]
theorem whole_some {L : List ByteArray} {wh : Nat} {X : StoT} (h : halfP L wh = some X) : wholeP L wh = (X.2.2.1, X.2.2.2) := by unfold wholeP; rw [h]
theorem whole_is (L : List ByteArray) (wh : Nat) (h2 : 2 ≤ L.length) (h64 : AllB L) (hw : wh < 2) : wholeC L wh = wholeP L wh := by
  obtain ⟨p, hp⟩ : ∃ p, wh * (L.length / 2) = p := ⟨_, rfl⟩
  have hp2 : p + (L.length / 2 - 1) < L.length := by
    rw [← hp]
    have : wh * (L.length / 2) ≤ 1 * (L.length / 2) := Nat.mul_le_mul_right _ (by omega)
    omega
  by_cases hA : (hf1 L p).2 < 1 ∨ (hf1 L p).2 % 2 ≠ wh ∨ 64 * (L.length / 2 - 1) < (hf2 L p).2
  · have e1 : wholeC L wh = (0, ⟨#[]⟩) := by
      unfold wholeC
      simp only
      rw [hp]
      exact if_pos hA
    have e2 : halfP L wh = none := by
      unfold halfP
      simp only
      rw [hp]
      exact if_pos (.inr hA)
    rw [e1, whole_none e2]
  · have hm : (hf2 L p).2 ≤ 64 * (L.length / 2 - 1) := by
      rcases Nat.lt_or_ge (64 * (L.length / 2 - 1)) (hf2 L p).2 with h | h
      · exact absurd (.inr (.inr h)) hA
      · exact h
    have eL : (catB L (p + 1) (((hf2 L p).2 + 63) / 64)).extract 0 (hf2 L p).2 = hfB L p := by
      unfold hfB
      rw [catB_all]
      obtain ⟨d, hd⟩ : ∃ d, L.length / 2 - 1 = ((hf2 L p).2 + 63) / 64 + d := ⟨L.length / 2 - 1 - ((hf2 L p).2 + 63) / 64, by omega⟩
      rw [hd]
      exact (allB_cut L p _ h64 _ d (by omega) (by omega)).symm
    have e1 : wholeC L wh = if strL L p ≠ hdB ((hf1 L p).2 : Int) (hfB L p) ∨ txsP (hfB L p) = none ∨ txsP (hfB L p) = some [] then (0, ⟨#[]⟩) else (((hf1 L p).2 : Int), hfB L p) := by
      unfold wholeC
      simp only
      rw [hp, eL]
      exact if_neg hA
    rw [e1]
    by_cases he : (hf2 L p).1.2 ≠ 0
    · have e2 : halfP L wh = none := by
        unfold halfP
        simp only
        rw [hp]
        exact if_pos (.inl he)
      have h0 : (hf2 L p).2 = 0 := inNum_err _ he
      have hs : (hfB L p).size = 0 := by unfold hfB; rw [h0, ByteArray.size_extract]; omega
      rw [whole_none e2]
      exact if_pos (.inr (.inr (txsP_none _ hs)))
    · have hc : ¬ ((hf2 L p).1.2 ≠ 0 ∨ (hf1 L p).2 < 1 ∨ (hf1 L p).2 % 2 ≠ wh ∨ 64 * (L.length / 2 - 1) < (hf2 L p).2) := fun h => h.elim he hA
      cases hx : txsP (hfB L p) with
      | none =>
        have e2 : halfP L wh = none := by
          unfold halfP
          simp only
          rw [hp, if_neg hc, hx]
        rw [whole_none e2]
        exact if_pos (.inr (.inl rfl))
      | some l =>
        cases l with
        | nil =>
          have e2 : halfP L wh = none := by
            unfold halfP
            simp only
            rw [hp, if_neg hc, hx]
          rw [whole_none e2]
          exact if_pos (.inr (.inr rfl))
        | cons x l =>
          have e2 : halfP L wh = if hdB ((hf1 L p).2 : Int) (hfB L p) = strL L p then some (x, l, ((hf1 L p).2 : Int), hfB L p) else none := by
            unfold halfP
            simp only
            rw [hp, if_neg hc, hx]
          by_cases hh : strL L p = hdB ((hf1 L p).2 : Int) (hfB L p)
          · rw [if_pos hh.symm] at e2
            rw [whole_some e2]
            exact if_neg (fun h => by
              rcases h with h | h | h
              · exact h hh
              · cases h
              · cases h)
          · rw [if_neg (fun e => hh e.symm)] at e2
            rw [whole_none e2]
            exact if_pos (.inl hh)

end Go.Proofs.YtaakmcihpdbilaaGreatDoor

/- Layer 18, the code's: whole, walked. -/
namespace Go.Proofs.YtaakmcihpdbilaaGreatDoor
open Go.RowKit
set_option maxRecDepth 100000
set_option linter.unusedSimpArgs false
set_option linter.unusedVariables false
set_option maxRecDepth 100000

theorem catB_one (L : List ByteArray) (p : Nat) (h : (strL L p).size = 64) : (catB L p ((64 + 63) / 64)).extract 0 64 = strL L p := by
  show ((⟨#[]⟩ : ByteArray) ++ strL L (p + 0)).extract 0 64 = _
  rw [Nat.add_zero, show (⟨#[]⟩ : ByteArray) = ByteArray.empty from rfl, empty_app]
  refine bt_ext _ _ (by rw [ByteArray.size_extract]; omega) (fun i hi => ?_)
  rw [ByteArray.size_extract] at hi
  rw [bt_extract _ _ _ _ (by omega) (by omega), Nat.zero_add]

theorem text_neq18 {a b : ByteArray} (h : ¬ a = b) : (a.toList != b.toList) = true := by
  have := beq_texts a b
  rw [bne, this, decide_eq_false h]; rfl
theorem text_neq18' {a b : ByteArray} (h : a = b) : (a.toList != b.toList) = false := by rw [h]; simp

/-- The In of a head, of the call's own. -/
structure IwS (w W : World) (k : Nat) (i : ByteArray × Int) : Prop where
  a : InAt W k i
  b : Below w.heap.size w W
  k : w.heap.size ≤ k
theorem IwS.step {w W W' : World} {k : Nat} {i i' : ByteArray × Int} (h : IwS w W k i) (h2 : InTo W k i' W') : IwS w W' k i' :=
  ⟨h2.1, h.b.trans (h2.2.below _ h.b.size h.k (fun _ e => by cases e)), h.k⟩

set_option maxHeartbeats 4000000 in
theorem whole18_any (g b : Nat) (D : DevT) (wh : Nat) (w : World) (h : DevAt w g b D) (ho : D.2.2.1 = false) (h2 : 2 ≤ D.1.length) (hl : D.1.length ≤ 2048) (hw : wh < 2) (hB : GlobB w) (hK : GlobK w) :
    Calls Tryz.prog 34 #[.pointer (some ⟨g, 0, none⟩), .int .i64 (wh : Int)] w fun e w' => e = .returned (.tuple #[.int .i64 (wholeC D.1 wh).1, .string (wholeC D.1 wh).2]) ∧ Below w.heap.size w w' := by
  have hA : AllB D.1 := by obtain ⟨F, _, _, _, h4, _⟩ := h; exact h4
  obtain ⟨p, hp⟩ : ∃ p, wh * (D.1.length / 2) = p := ⟨_, rfl⟩
  have hp2 : p + (D.1.length / 2 - 1) < D.1.length := by
    rw [← hp]
    have : wh * (D.1.length / 2) ≤ 1 * (D.1.length / 2) := Nat.mul_le_mul_right _ (by omega)
    omega
  obtain ⟨H, hH⟩ : ∃ H, strL D.1 p = H := ⟨_, rfl⟩
  have hHs : H.size = 64 := by rw [← hH]; exact hA _ (by omega)
  obtain ⟨⟨⟨S1, e1⟩, t⟩, r1⟩ : ∃ z, hf1 D.1 p = z := ⟨_, rfl⟩
  obtain ⟨⟨⟨S2, e2⟩, m⟩, r2⟩ : ∃ z, hf2 D.1 p = z := ⟨_, rfl⟩
  have ht9 : t ≤ 1099511627775 := by have := inNumP_small (strL D.1 p, 0); unfold hf1 at r1; rw [r1] at this; exact this
  have hm9 : m ≤ 1099511627775 := by have := inNumP_small (hf1 D.1 p).1; unfold hf2 at r2; rw [r2] at this; exact this
  have eW : wholeC D.1 wh = if t < 1 ∨ t % 2 ≠ wh ∨ 64 * (D.1.length / 2 - 1) < m then (0, ⟨#[]⟩)
      else if strL D.1 p ≠ hdB (t : Int) ((catB D.1 (p + 1) ((m + 63) / 64)).extract 0 m) ∨ txsP ((catB D.1 (p + 1) ((m + 63) / 64)).extract 0 m) = none ∨ txsP ((catB D.1 (p + 1) ((m + 63) / 64)).extract 0 m) = some [] then (0, ⟨#[]⟩) else ((t : Int), (catB D.1 (p + 1) ((m + 63) / 64)).extract 0 m) := by
    unfold wholeC
    simp only
    rw [hp, r1, r2]
  rw [eW]
  clear eW
  have C1 : Hid (∀ W, W = w → Calls Tryz.prog 46 #[.pointer (some ⟨g, 0, none⟩), .int .i64 (wh : Int)] W fun e w' => e = .returned (.int .i64 (p : Int)) ∧ w' = W) := fun W e => by
    subst e
    have := first18_any g b D wh _ h (by omega) hw
    rw [hp] at this
    exact this
  have HD : Hid (∀ W, Below w.heap.size w W → DevAt W g b D) := fun W e => h.on e
  have HGB : Hid (GlobB w) := hB
  have HGK : Hid (GlobK w) := hK
  have C2 : Hid (∀ W, W = w → Calls Tryz.prog 49 #[.pointer (some ⟨g, 0, none⟩), .int .i64 (p : Int), .int .i64 64] W fun e w' => e = .returned (.string H) ∧ Below W.heap.size W w') := fun W e => by
    subst e
    have := span18_any g b D p 64 _ h ho (by show p + 1 ≤ _; omega) (by omega)
    rw [catB_one D.1 p (hA _ (by omega)), hH] at this
    exact this
  have C3 : Hid (∀ W k, IwS w W k (H, 0) → Calls Tryz.prog 50 #[.pointer (some ⟨k, 0, none⟩)] W fun e w' => e = .returned (.int .i64 (t : Int)) ∧ IwS w w' k (S1, e1)) := fun W k hi => by
    refine (inum_any k (H, 0) W hi.a).mono ?_
    have r1' : inNumP (H, 0) = ((S1, e1), t) := by rw [← hH]; exact r1
    rw [r1']
    rintro e w' ⟨he, h3⟩
    exact ⟨he, hi.step h3⟩
  have C4 : Hid (∀ W k, IwS w W k (S1, e1) → Calls Tryz.prog 50 #[.pointer (some ⟨k, 0, none⟩)] W fun e w' => e = .returned (.int .i64 (m : Int)) ∧ Below w.heap.size w w') := fun W k hi => by
    refine (inum_any k (S1, e1) W hi.a).mono ?_
    have r2' : inNumP (S1, e1) = ((S2, e2), m) := by unfold hf2 at r2; rw [r1] at r2; exact r2
    rw [r2']
    rintro e w' ⟨he, h3⟩
    exact ⟨he, (hi.step h3).b⟩
  obtain ⟨q, hq⟩ : ∃ q, 64 * (D.1.length / 2 - 1) = q := ⟨_, rfl⟩
  have hq9 : q ≤ 1048576 := by omega
  have C5 : Hid (∀ W, Below w.heap.size w W → Calls Tryz.prog 44 #[.pointer (some ⟨g, 0, none⟩)] W fun e w' => e = .returned (.int .i64 (q : Int)) ∧ w' = W) := fun W e => by
    have := room18_any g b D W (HD.out W e) (by omega) h2
    rw [hq] at this
    exact this
  obtain ⟨T, hT⟩ : ∃ T, (catB D.1 (p + 1) ((m + 63) / 64)).extract 0 m = T := ⟨_, rfl⟩
  have C6 : Hid (m ≤ q → ∀ W, Below w.heap.size w W → Calls Tryz.prog 49 #[.pointer (some ⟨g, 0, none⟩), .int .i64 ((p : Int) + 1), .int .i64 (m : Int)] W fun e w' => e = .returned (.string T) ∧ Below W.heap.size W w') := fun hm W e => by
    have := span18_any g b D (p + 1) m W (HD.out W e) ho (by omega) (by omega)
    rw [hT] at this
    exact this
  have C7 : Hid (m ≤ q → ∀ W, Below w.heap.size w W → Calls Tryz.prog 48 #[.int .i64 (t : Int), .string T] W fun e w' => e = .returned (.string (hd0 (t : Int) T)) ∧ Below W.heap.size W w') := fun hm W e => head18_any (t : Int) T W (by rw [← hT, ByteArray.size_extract]; omega) (by omega) (by omega) (HGB.out.below e) (HGK.out.below e)
  have C8 : Hid (∀ W, Calls Tryz.prog 51 #[.string (hd0 (t : Int) T)] W fun e w' => e = .returned (.string (hdB (t : Int) T)) ∧ Below W.heap.size W w') := fun W => by
    rw [← hd0_fl]
    exact filled18_any _ W (by rw [hd0_size]; decide)
  have hTs : m ≤ q → T.size ≤ 1048576 := fun hm => by rw [← hT, ByteArray.size_extract]; omega
  rw [hT, hq, hH]
  have hp9 : p ≤ 2048 := by omega
  have r3 : Int.tmod (t : Int) 2 = ((t % 2 : Nat) : Int) := by rw [show (2 : Int) = ((2 : Nat) : Int) from rfl, ← Int.ofNat_tmod]
  obtain ⟨u, hu⟩ : ∃ u, t % 2 = u := ⟨_, rfl⟩
  have hu2 : u < 2 := by omega
  rw [hu] at r3 ⊢
  obtain ⟨Z, HZ⟩ : ∃ Z : Int × ByteArray, Hid (Z = if t < 1 ∨ u ≠ wh ∨ q < m then (0, ⟨#[]⟩) else if H ≠ hdB (t : Int) T ∨ txsP T = none ∨ txsP T = some [] then (0, ⟨#[]⟩) else ((t : Int), T)) := ⟨_, rfl⟩
  rw [← HZ.out]
  clear h hA hp hp2 hH r1 r2 HGB HGK hB hK hu HD hT hq
  go_enter Tryz.func34, Tryz.ntmps34
  go_wp2_with fail
  refine (C1.out _ rfl).mono ?_
  rintro e w1 ⟨rfl, hw1⟩
  subst hw1
  go_wp2_with fail
  refine (C2.out _ rfl).mono ?_
  rintro e w2 ⟨rfl, hb2⟩
  have B2 : Hid (Below w1.heap.size w1 w2) := hb2
  clear hb2
  go_wp2_with fail
  refine (newIn_any H w2 (by omega)).mono ?_
  rintro e w3 ⟨rfl, hI, hb⟩
  obtain ⟨k, hk⟩ : ∃ k, w2.heap.size = k := ⟨_, rfl⟩
  have I3 : Hid (IwS w1 w3 k (H, 0)) := hk ▸ ⟨hI, below_step B2.out (Nat.le_refl _) hb, B2.out.size⟩
  rw [hk]
  clear hI hb hk B2
  go_wp2_with fail
  refine (C3.out _ _ I3.out).mono ?_
  rintro e w4 ⟨rfl, hi4⟩
  have I4 : Hid (IwS w1 w4 k (S1, e1)) := hi4
  clear hi4 I3
  go_wp2_with fail
  refine (C4.out _ _ I4.out).mono ?_
  rintro e w5 ⟨rfl, hb5⟩
  have B5 : Hid (Below w1.heap.size w1 w5) := hb5
  clear hb5 I4 C1 C2 C3 C4
  by_cases c1 : t < 1
  · have d1 : (t : Int) < 1 := by omega
    have E9 : Hid (Z = (0, ⟨#[]⟩)) := by show _ = _; rw [HZ.out]; exact if_pos (.inl c1)
    clear HZ
    clear C5 C6 C7 C8 hTs
    go_wp2_with fail
    go_ret2
    exact ⟨by rw [E9.out]; rfl, B5.out⟩
  have d1 : ¬ ((t : Int) < 1) := by omega
  by_cases c2 : u = wh
  · have d2 : ((u : Int) != (wh : Int)) = false := by rw [c2]; simp
    have d2' : ((u : Int) == (wh : Int)) = true := by rw [c2]; simp
    go_wp2_with fail
    refine (C5.out _ B5.out).mono ?_
    rintro e w6 ⟨rfl, hw6⟩
    subst hw6
    by_cases c3 : q < m
    · have d3 : (q : Int) < (m : Int) := by omega
      have E9 : Hid (Z = (0, ⟨#[]⟩)) := by show _ = _; rw [HZ.out]; exact if_pos (.inr (.inr c3))
      clear HZ
      clear C5 C6 C7 C8 hTs
      go_wp2_with fail
      go_ret2
      exact ⟨by rw [E9.out]; rfl, B5.out⟩
    · have d3 : ¬ ((q : Int) < (m : Int)) := by omega
      have c3' : m ≤ q := by omega
      have E8 : Hid (Z = if H ≠ hdB (t : Int) T ∨ txsP T = none ∨ txsP T = some [] then (0, ⟨#[]⟩) else ((t : Int), T)) := by
        show _ = _
        rw [HZ.out]
        refine if_neg (fun h => ?_)
        rcases h with h | h | h
        · exact c1 h
        · exact h c2
        · exact c3 h
      clear HZ
      have C6' : Hid (∀ W, _) := C6.out c3'
      have C7' : Hid (∀ W, _) := C7.out c3'
      have hTs' := hTs c3'
      clear C5 C6 C7 hTs
      go_wp2_with fail
      refine (C6'.out _ B5.out).mono ?_
      rintro e w7 ⟨rfl, hb7⟩
      have B7 : Hid (Below w1.heap.size w1 w7) := below_step B5.out (Nat.le_refl _) hb7
      clear B5 hb7 C6'
      go_wp2_with fail
      refine (C7'.out _ B7.out).mono ?_
      rintro e w8 ⟨rfl, hb8⟩
      have B8 : Hid (Below w1.heap.size w1 w8) := below_step B7.out (Nat.le_refl _) hb8
      clear B7 hb8 C7'
      go_wp2_with fail
      refine (C8.out _).mono ?_
      rintro e w9 ⟨rfl, hb9⟩
      have B9 : Hid (Below w1.heap.size w1 w9) := below_step B8.out (Nat.le_refl _) hb9
      clear B8 hb9 C8
      obtain ⟨K9, hK9⟩ : ∃ K9, hdB (t : Int) T = K9 := ⟨_, rfl⟩
      rw [hK9] at E8 ⊢
      clear hK9
      by_cases c4 : H = K9
      · have x0 := text_neq18' c4
        have x1 : (H.toList == K9.toList) = true := by rw [c4]; simp
        go_wp2_with fail
        refine (texts18_any T _ hTs').mono ?_
        rintro e w10 ⟨v, rfl, hb10, hv⟩
        have B10 : Hid (Below w1.heap.size w1 w10) := below_step B9.out (Nat.le_refl _) hb10
        clear B9 hb10
        rcases hv with ⟨hv1, rfl⟩ | ⟨l, hv1, hv2⟩
        · have E9 : Hid (Z = (0, ⟨#[]⟩)) := by show _ = _; rw [E8.out]; exact if_pos (.inr (.inl hv1))
          clear E8 hv1
          go_wp2_with fail
          go_ret2
          exact ⟨by rw [E9.out]; rfl, B10.out⟩
        · obtain ⟨a, c, rfl, _⟩ := hv2.strs
          clear hv2
          cases l with
          | nil =>
            have E9 : Hid (Z = (0, ⟨#[]⟩)) := by show _ = _; rw [E8.out]; exact if_pos (.inr (.inr hv1))
            clear E8 hv1
            go_wp2_with fail
            go_ret2
            exact ⟨by rw [E9.out]; rfl, B10.out⟩
          | cons x l =>
            have E9 : Hid (Z = ((t : Int), T)) := by
              show _ = _
              rw [E8.out]
              refine if_neg (fun h => ?_)
              rw [hv1] at h
              rcases h with h | h | h
              · exact h c4
              · cases h
              · cases h
            obtain ⟨n, hn⟩ : ∃ n, (x :: l).length = n := ⟨_, rfl⟩
            have hn0 : n ≠ 0 := by rw [← hn]; simp
            rw [hn]
            have x3 : ((n : Int) == 0) = false := by rw [beq_eq_false_iff_ne]; omega
            clear E8 hv1 hn
            go_wp2_with fail
            go_ret2
            exact ⟨by rw [E9.out]; rfl, B10.out⟩
      · have x0 := text_neq18 c4
        have x1 : (H.toList == K9.toList) = false := by rw [beq_texts]; exact decide_eq_false c4
        have E9 : Hid (Z = (0, ⟨#[]⟩)) := by show _ = _; rw [E8.out]; exact if_pos (.inl c4)
        clear E8
        go_wp2_with fail
        go_ret2
        exact ⟨by rw [E9.out]; rfl, B9.out⟩
  · have d2 : ((u : Int) != (wh : Int)) = true := by rw [bne_iff_ne]; omega
    have d2' : ((u : Int) == (wh : Int)) = false := by rw [beq_eq_false_iff_ne]; omega
    have E9 : Hid (Z = (0, ⟨#[]⟩)) := by show _ = _; rw [HZ.out]; exact if_pos (.inr (.inl c2))
    clear HZ
    clear C5 C6 C7 C8 hTs
    go_wp2_with fail
    go_ret2
    exact ⟨by rw [E9.out]; rfl, B5.out⟩

end Go.Proofs.YtaakmcihpdbilaaGreatDoor

/- Layer 18, the code's store: what it is; given, Base, Behind, Turn. -/
namespace Go.Proofs.YtaakmcihpdbilaaGreatDoor
open Go.RowKit
set_option maxRecDepth 100000
set_option linter.unusedSimpArgs false
set_option linter.unusedVariables false
set_option maxRecDepth 100000

/-- What a store holds is of a piece. -/
structure StW (X : StoT) : Prop where
  t : (X = zeroT) ∨ (1 ≤ X.2.2.1 ∧ txsP X.2.2.2 = some (X.1 :: X.2.1))
  u : X.2.2.1 ≤ 1099511627775
  b : X.2.2.2.size ≤ 65536
/-- The code's store at gs, on the device at g. -/
def StC (w : World) (S : Nat → Prop) (gs g : Nat) (X : StoT) : Prop :=
  Blk w 72 gs #[.pointer (some ⟨gs, 0, none⟩), .pointer (some ⟨g, 0, none⟩), .int .i64 X.2.2.1, .string X.2.2.2] ∧ (∀ k, S k ↔ k = gs) ∧ StW X
def StBad (w : World) (gs : Nat) : Prop := Blk w 72 gs #[.pointer none, .pointer none, .int .i64 0, .string ⟨#[]⟩]
def NoSto (w : World) (p : Value) : Prop := p = .pointer none ∨ ∃ g, p = .pointer (some ⟨g, 0, none⟩) ∧ StBad w g
theorem NoSto.on {w w' : World} {p : Value} (h : NoSto w p) (hb : Below w.heap.size w w') : NoSto w' p := h.imp id (fun ⟨g, e, h⟩ => ⟨g, e, Blk.on h hb⟩)

theorem Tryz.stoInfo : (Tryz.prog.info? 72).map (·.size) = some 4 := by kernel_rfl

set_option maxHeartbeats 1000000 in
theorem sgiven_any (gs g : Nat) (S : Nat → Prop) (X : StoT) (w : World) (h : StC w S gs g X) :
    Calls Tryz.prog 30 #[.pointer (some ⟨gs, 0, none⟩)] w fun e w' => e = .returned (.bool true) ∧ w' = w := by
  obtain ⟨h, _⟩ := h
  obtain ⟨j, hj, _⟩ := Option.map_eq_some_iff.1 Tryz.stoInfo
  have c0 : w.cell? ⟨gs, 0, none⟩ = some (.pointer (some ⟨gs, 0, none⟩)) := h.cell 0
  have hq := run_eql_ptr_same (P := Tryz.prog) w ⟨gs, 0, none⟩ Tryz.underlying25 hj
  clear h
  go_enter Tryz.func30, Tryz.ntmps30
  go_wp2
  go_ret
  exact ⟨rfl, rfl⟩

set_option maxHeartbeats 1000000 in
theorem sgiven_no (p : Value) (w : World) (h : NoSto w p) :
    Calls Tryz.prog 30 #[p] w fun e w' => e = .returned (.bool false) ∧ w' = w := by
  rcases h with rfl | ⟨g, rfl, h⟩
  · go_enter Tryz.func30, Tryz.ntmps30
    go_wp2
    go_ret
    exact ⟨rfl, rfl⟩
  · have c0 : w.cell? ⟨g, 0, none⟩ = some (.pointer none) := Blk.cell h 0
    have hq := eql_nil_ptr17 (P := Tryz.prog) w ⟨g, 0, none⟩ Tryz.underlying25
    go_enter Tryz.func30, Tryz.ntmps30
    go_wp2
    go_ret
    exact ⟨rfl, rfl⟩


set_option maxHeartbeats 1000000 in
theorem sturn_any (gs g : Nat) (S : Nat → Prop) (X : StoT) (w : World) (h : StC w S gs g X) :
    Calls Tryz.prog 13 #[.pointer (some ⟨gs, 0, none⟩)] w fun e w' => e = .returned (.int .i64 X.2.2.1) ∧ w' = w := by
  have HC : Hid (∀ w', w' = w → Calls Tryz.prog 30 #[.pointer (some ⟨gs, 0, none⟩)] w' fun e w'' => e = .returned (.bool true) ∧ w'' = w') := fun w' e => by subst e; exact sgiven_any gs g S X _ h
  obtain ⟨h, _⟩ := h
  have c1 : w.cell? ⟨gs, 2, none⟩ = some (.int .i64 X.2.2.1) := h.cell 2
  clear h
  go_enter Tryz.func13, Tryz.ntmps13
  go_wp2_with fail
  refine (HC.out _ rfl).mono ?_
  rintro e w1 ⟨rfl, hw1⟩
  subst hw1
  go_wp2
  go_ret
  exact ⟨rfl, rfl⟩

set_option maxHeartbeats 1000000 in
theorem sturn_no (p : Value) (w : World) (h : NoSto w p) :
    Calls Tryz.prog 13 #[p] w fun e w' => e = .returned (.int .i64 0) ∧ w' = w := by
  have HC : Hid (∀ w', w' = w → Calls Tryz.prog 30 #[p] w' fun e w'' => e = .returned (.bool false) ∧ w'' = w') := fun w' e => by subst e; exact sgiven_no p _ h
  clear h
  go_enter Tryz.func13, Tryz.ntmps13
  go_wp2_with fail
  refine (HC.out _ rfl).mono ?_
  rintro e w1 ⟨rfl, hw1⟩
  subst hw1
  go_wp2
  go_ret
  exact ⟨rfl, rfl⟩

theorem txs_head (S x : ByteArray) (l : List ByteArray) (h : txsP S = some (x :: l)) : (inTextP (S, 0) 32768).2 = x := by
  by_cases h0 : S.size = 0
  · rw [txsP_none S h0] at h; cases h
  · by_cases he : (inTextP (S, 0) 32768).1.2 = 0
    · obtain ⟨⟨⟨S1, e1⟩, T⟩, r1⟩ : ∃ p, inTextP (S, 0) 32768 = p := ⟨_, rfl⟩
      rw [r1] at he
      have he' : e1 = 0 := he
      subst he'
      rw [txsP_next S S1 T h0 r1] at h
      rw [r1]
      cases hx : txsP S1 with
      | none => rw [hx] at h; cases h
      | some l2 =>
        rw [hx] at h
        simp only [Option.map_some, Option.some.injEq, List.cons.injEq] at h
        exact h.1
    · rw [txsP_bad S h0 he] at h; cases h
theorem base_is (X : StoT) (h : StW X) : (inTextC (X.2.2.2, 0) 32768).2 = X.1 := by
  rw [text_same18]
  rcases h.t with rfl | ⟨_, h⟩
  · decide +kernel
  · exact txs_head _ _ _ h

set_option maxHeartbeats 1000000 in
theorem sbase_any (gs g : Nat) (S : Nat → Prop) (X : StoT) (w : World) (h : StC w S gs g X) :
    Calls Tryz.prog 16 #[.pointer (some ⟨gs, 0, none⟩)] w fun e w' => e = .returned (.string X.1) ∧ Below w.heap.size w w' := by
  have HC : Hid (∀ w', w' = w → Calls Tryz.prog 30 #[.pointer (some ⟨gs, 0, none⟩)] w' fun e w'' => e = .returned (.bool true) ∧ w'' = w') := fun w' e => by subst e; exact sgiven_any gs g S X _ h
  obtain ⟨h, _, hW⟩ := h
  have c1 : w.cell? ⟨gs, 3, none⟩ = some (.string X.2.2.2) := h.cell 3
  have e9 := base_is X hW
  have hb9 := hW.b
  obtain ⟨T, hT⟩ : ∃ T, X.1 = T := ⟨_, rfl⟩
  obtain ⟨A, hA⟩ : ∃ A, X.2.2.2 = A := ⟨_, rfl⟩
  rw [hA] at c1 hb9 e9
  rw [hT] at e9 ⊢
  clear h hT hA hW
  go_enter Tryz.func16, Tryz.ntmps16
  go_wp2_with fail
  refine (HC.out _ rfl).mono ?_
  rintro e w1 ⟨rfl, hw1⟩
  subst hw1
  go_wp2_with fail
  refine (newIn_any A w1 (by omega)).mono ?_
  rintro e w2 ⟨rfl, hI, hb⟩
  go_wp2_with fail
  refine (itext_any _ _ 32768 _ hI).mono ?_
  rintro e w3 ⟨rfl, h3, hk3⟩
  rw [e9]
  have hB : Below w1.heap.size w1 w3 := hb.trans (hk3.below _ hb.size (Nat.le_refl _) (fun _ e => by cases e))
  clear hI hb h3 hk3
  go_wp2
  go_ret
  exact ⟨rfl, hB⟩

set_option maxHeartbeats 1000000 in
theorem sbase_no (p : Value) (w : World) (h : NoSto w p) :
    Calls Tryz.prog 16 #[p] w fun e w' => e = .returned (.string ⟨#[]⟩) ∧ w' = w := by
  have HC : Hid (∀ w', w' = w → Calls Tryz.prog 30 #[p] w' fun e w'' => e = .returned (.bool false) ∧ w'' = w') := fun w' e => by subst e; exact sgiven_no p _ h
  clear h
  go_enter Tryz.func16, Tryz.ntmps16
  go_wp2_with fail
  refine (HC.out _ rfl).mono ?_
  rintro e w1 ⟨rfl, hw1⟩
  subst hw1
  go_wp2
  go_ret
  exact ⟨rfl, rfl⟩

set_option maxHeartbeats 1000000 in
theorem sbehind_no (p : Value) (w : World) (h : NoSto w p) :
    Calls Tryz.prog 23 #[p] w fun e w' => e = .returned (.slice none 0 0) ∧ w' = w := by
  have HC : Hid (∀ w', w' = w → Calls Tryz.prog 30 #[p] w' fun e w'' => e = .returned (.bool false) ∧ w'' = w') := fun w' e => by subst e; exact sgiven_no p _ h
  clear h
  go_enter Tryz.func23, Tryz.ntmps23
  go_wp2_with fail
  refine (HC.out _ rfl).mono ?_
  rintro e w1 ⟨rfl, hw1⟩
  subst hw1
  go_wp2
  go_ret
  exact ⟨rfl, rfl⟩

set_option maxHeartbeats 1000000 in
theorem sadd_no (p : Value) (t : ByteArray) (w : World) (h : NoSto w p) :
    Calls Tryz.prog 21 #[p, .string t] w fun e w' => e = .returned (.int .i64 1) ∧ w' = w := by
  have HC : Hid (∀ w', w' = w → Calls Tryz.prog 30 #[p] w' fun e w'' => e = .returned (.bool false) ∧ w'' = w') := fun w' e => by subst e; exact sgiven_no p _ h
  clear h
  go_enter Tryz.func21, Tryz.ntmps21
  go_wp2_with fail
  refine (HC.out _ rfl).mono ?_
  rintro e w1 ⟨rfl, hw1⟩
  subst hw1
  go_wp2
  go_ret
  exact ⟨rfl, rfl⟩

set_option maxHeartbeats 1000000 in
theorem slay_no (p : Value) (t : ByteArray) (w : World) (h : NoSto w p) :
    Calls Tryz.prog 12 #[p, .string t] w fun e w' => e = .returned (.int .i64 1) ∧ w' = w := by
  have HC : Hid (∀ w', w' = w → Calls Tryz.prog 30 #[p] w' fun e w'' => e = .returned (.bool false) ∧ w'' = w') := fun w' e => by subst e; exact sgiven_no p _ h
  clear h
  go_enter Tryz.func12, Tryz.ntmps12
  go_wp2_with fail
  refine (HC.out _ rfl).mono ?_
  rintro e w1 ⟨rfl, hw1⟩
  subst hw1
  go_wp2
  go_ret
  exact ⟨rfl, rfl⟩

set_option maxHeartbeats 2000000 in
theorem sbehind_any (gs g : Nat) (S : Nat → Prop) (X : StoT) (w : World) (h : StC w S gs g X) :
    Calls Tryz.prog 23 #[.pointer (some ⟨gs, 0, none⟩)] w fun e w' => ∃ a c, e = .returned (.slice a X.2.1.length c) ∧ StrsAt w' a X.2.1.length X.2.1 ∧ (∀ x, a = some x → X.2.1.length = 0 ∨ w.heap.size ≤ x.block) ∧ Below w.heap.size w w' := by
  have HC : Hid (∀ w', w' = w → Calls Tryz.prog 30 #[.pointer (some ⟨gs, 0, none⟩)] w' fun e w'' => e = .returned (.bool true) ∧ w'' = w') := fun w' e => by subst e; exact sgiven_any gs g S X _ h
  obtain ⟨h, _, hW⟩ := h
  have c1 : w.cell? ⟨gs, 3, none⟩ = some (.string X.2.2.2) := h.cell 3
  have c2 : w.cell? ⟨gs, 2, none⟩ = some (.int .i64 X.2.2.1) := h.cell 2
  have hb9 := hW.b
  obtain ⟨B, l, t, A⟩ := X
  simp only at c1 c2 hb9 ⊢
  rcases hW.t with e | ⟨h1, h2⟩
  · cases e
    clear h hW
    go_enter Tryz.func23, Tryz.ntmps23
    go_wp2_with fail
    refine (HC.out _ rfl).mono ?_
    rintro e w1 ⟨rfl, hw1⟩
    subst hw1
    go_wp2
    go_ret
    exact ⟨none, 0, rfl, ⟨rfl, .inl rfl⟩, (fun _ e => by cases e), Below.refl _ _⟩
  · have h1' : (1 : Int) ≤ t := h1
    have h2' : txsP A = some (B :: l) := h2
    have q0 : (t == 0) = false := by rw [beq_eq_false_iff_ne]; omega
    clear h hW h1 h2
    go_enter Tryz.func23, Tryz.ntmps23
    go_wp2_with fail
    refine (HC.out _ rfl).mono ?_
    rintro e w1 ⟨rfl, hw1⟩
    subst hw1
    go_wp2_with fail
    refine (texts18_any A w1 (by omega)).mono ?_
    rintro e w2 ⟨v, rfl, hb2, hv⟩
    rcases hv with ⟨hv1, _⟩ | ⟨l', hv1, hv2⟩
    · rw [h2'] at hv1; cases hv1
    rw [h2'] at hv1
    cases hv1
    obtain ⟨a13, c13, rfl, hst⟩ := hv2.strs
    obtain ⟨b13, o13, rfl, hc13⟩ := hst.some (by simp)
    have hl13 : (B :: l).length = l.length + 1 := rfl
    have hb13 : w1.heap.size ≤ b13 := by have := (World.ownsRow.lt hv2 b13 rfl).1; omega
    have hcap13 : l.length + 1 ≤ c13 := owns_cap hv2
    obtain ⟨Aq, hA⟩ : ∃ A : Option Addr, (if c13 = 1 then some ⟨b13, o13, none⟩ else some ⟨b13, o13 + 1, none⟩) = A := ⟨_, rfl⟩
    have HA : Hid (StrsAt w2 Aq l.length l) := by
      have hc := own_cells hv2
      refine ⟨rfl, ?_⟩
      by_cases hl0 : l.length = 0
      · exact .inl hl0
      · refine .inr ⟨b13, o13 + 1, ?_, fun i hi => ?_⟩
        · rw [← hA, if_neg (by omega)]
        · have h := hc (i + 1) (by rw [hl13]; omega)
          rw [show o13 + 1 + i = o13 + (i + 1) by omega, h]
          rfl
    have HAb : Hid (∀ z, Aq = some z → w1.heap.size ≤ z.block) := by
      intro z hz
      rw [← hA] at hz
      split at hz <;> cases hz <;> exact hb13
    have z1 : (1 : Int) ≤ ((l.length + 1 : Nat) : Int) := by omega
    have z2 : ((l.length + 1 : Nat) : Int) ≤ (c13 : Int) := by omega
    have z3 : (1 : Int) ≤ (l.length : Int) + 1 := by omega
    rw [hl13]
    clear hst hc13 hv2 h2' HC
    go_wp2
    go_ret
    exact ⟨Aq, c13 - 1, rfl, HA.out, fun x hx => .inr (HAb.out x hx), hb2⟩

end Go.Proofs.YtaakmcihpdbilaaGreatDoor

/- Layer 18, the code's: Open. -/
namespace Go.Proofs.YtaakmcihpdbilaaGreatDoor
open Go.RowKit
set_option maxRecDepth 100000
set_option linter.unusedSimpArgs false
set_option linter.unusedVariables false
set_option maxRecDepth 100000

/-- What Open has behind so many halves. -/
def opS (L : List ByteArray) : Nat → Int × ByteArray
  | 0 => (0, ⟨#[]⟩)
  | k + 1 => if (opS L k).1 < (wholeC L k).1 then wholeC L k else opS L k
theorem opS_two (L : List ByteArray) (h2 : 2 ≤ L.length) (h64 : AllB L) : opS L 2 = ((openP L).2.2.1, (openP L).2.2.2) := by
  have e0 := whole_is L 0 h2 h64 (by decide)
  have e1 := whole_is L 1 h2 h64 (by decide)
  show (if (opS L 1).1 < (wholeC L 1).1 then wholeC L 1 else opS L 1) = _
  rw [show opS L 1 = if (0 : Int) < (wholeC L 0).1 then wholeC L 0 else (0, ⟨#[]⟩) from rfl, e0, e1]
  unfold openP
  cases h0 : halfP L 0 with
  | none =>
    rw [whole_none h0, if_neg (show ¬ ((0 : Int) < 0) by decide)]
    cases h1 : halfP L 1 with
    | none => rw [whole_none h1]; rfl
    | some Y =>
      obtain ⟨a1, a2, _⟩ := half_some h1
      rw [whole_some h1, if_pos (show (0 : Int) < Y.2.2.1 by omega), if_pos ⟨rfl, .inl rfl⟩]; rfl
  | some X =>
    obtain ⟨a1, a2, _⟩ := half_some h0
    rw [whole_some h0, if_pos (show (0 : Int) < X.2.2.1 by omega)]
    cases h1 : halfP L 1 with
    | none =>
      rw [whole_none h1, if_neg (show ¬ (X.2.2.1 < 0) by omega), if_neg (fun h => by cases h.1)]; rfl
    | some Y =>
      rw [whole_some h1]
      simp only [Option.isSome_some, Option.getD_some, Bool.true_eq_false, false_or, true_and]
      by_cases hc : X.2.2.1 < Y.2.2.1
      · rw [if_pos hc, if_pos hc]
      · rw [if_neg hc, if_neg hc]
theorem wholeC_small (L : List ByteArray) (wh : Nat) : 0 ≤ (wholeC L wh).1 ∧ (wholeC L wh).1 ≤ 1099511627775 := by
  unfold wholeC
  simp only
  split
  · exact ⟨Int.le_refl _, by decide⟩
  · split
    · exact ⟨Int.le_refl _, by decide⟩
    · refine ⟨Int.natCast_nonneg _, ?_⟩
      have := inNumP_small (strL L (wh * (L.length / 2)), 0)
      unfold hf1
      show ((inNumP (strL L (wh * (L.length / 2)), 0)).2 : Int) ≤ _
      omega
theorem stW_open (L : List ByteArray) (h2 : 2 ≤ L.length) (h3 : L.length ≤ 2048) (h64 : AllB L) : StW (openP L) := by
  have hM := stM_open L h2 h64
  refine ⟨?_, hM.t1, by have := hM.b; omega⟩
  have hh : ∀ wh X, halfP L wh = some X → 1 ≤ X.2.2.1 ∧ txsP X.2.2.2 = some (X.1 :: X.2.1) := fun wh X h => by
    obtain ⟨a1, a2, _, _, _, a6, _⟩ := half_some h
    exact ⟨by rw [a1]; omega, a6⟩
  unfold openP
  split
  · rename_i hc
    cases h1 : halfP L 1 with
    | none => rw [h1] at hc; cases hc.1
    | some Y => exact .inr (hh 1 Y h1)
  · cases h0 : halfP L 0 with
    | none => exact .inl rfl
    | some Y => exact .inr (hh 0 Y h0)

/-- The store while it is opened, of the call's own. -/
structure OpS (w W : World) (gs g : Nat) (Z : Int × ByteArray) : Prop where
  a : Blk W 72 gs #[.pointer (some ⟨gs, 0, none⟩), .pointer (some ⟨g, 0, none⟩), .int .i64 Z.1, .string Z.2]
  b : Below w.heap.size w W
  k : w.heap.size ≤ gs
theorem OpS.on {w W W' : World} {gs g : Nat} {Z : Int × ByteArray} (h : OpS w W gs g Z) (hb : Below W.heap.size W W') : OpS w W' gs g Z := ⟨h.a.on hb, below_step h.b (Nat.le_refl _) hb, h.k⟩

set_option maxHeartbeats 400000 in
theorem open18_any (g b : Nat) (D : DevT) (w : World) (h : DevAt w g b D) (h2 : 2 ≤ D.1.length) (hl : D.1.length ≤ 2048) (ho : D.2.2.1 = false) (hB : GlobB w) (hK : GlobK w) :
    Calls Tryz.prog 15 #[.pointer (some ⟨g, 0, none⟩)] w fun e w' => ∃ gs S, e = .returned (.tuple #[.pointer (some ⟨gs, 0, none⟩), .int .i64 0]) ∧ StC w' S gs g (openP D.1) ∧ (∀ k, S k → w.heap.size ≤ k) ∧ Below w.heap.size w w' := by
  have hA : AllB D.1 := by obtain ⟨F, _, _, _, h4, _⟩ := h; exact h4
  have E9 : Hid (opS D.1 2 = ((openP D.1).2.2.1, (openP D.1).2.2.2)) := opS_two D.1 h2 hA
  have W9 : Hid (StW (openP D.1)) := stW_open D.1 h2 hl hA
  have C1 : Hid (∀ W, W = w → Calls Tryz.prog 32 #[.pointer (some ⟨g, 0, none⟩)] W fun e w'' => e = .returned (.int .i64 (D.1.length : Int)) ∧ w'' = W) := fun W e => by subst e; exact dsize_any g b D _ h
  have C2 : Hid (∀ W, W = w → Calls Tryz.prog 33 #[.pointer (some ⟨g, 0, none⟩)] W fun e w'' => e = .returned (.bool false) ∧ w'' = W) := fun W e => by
    subst e
    have := doff_any g b D _ h
    rw [ho] at this
    exact this
  have C3 : Hid (∀ W (k : Nat), k < 2 → Below w.heap.size w W → Calls Tryz.prog 34 #[.pointer (some ⟨g, 0, none⟩), .int .i64 (k : Int)] W fun e w' => e = .returned (.tuple #[.int .i64 (wholeC D.1 k).1, .string (wholeC D.1 k).2]) ∧ Below W.heap.size W w') := fun W k hk e => whole18_any g b D k W (h.on e) ho h2 hl hk (hB.below e) (hK.below e)
  obtain ⟨X, hX⟩ : ∃ X, openP D.1 = X := ⟨_, rfl⟩
  rw [hX] at E9 W9 ⊢
  clear hX
  obtain ⟨n, hn⟩ : ∃ n, D.1.length = n := ⟨_, rfl⟩
  rw [hn] at C1 h2 hl
  have q0 : ¬ ((n : Int) < 2) := by omega
  have A0 : Hid (OpS w (w.alloc (.cells #[.pointer (some ⟨w.heap.size, 0, none⟩), .pointer (some ⟨g, 0, none⟩), .int .i64 0, .string ⟨#[]⟩] 72)) w.heap.size g (opS D.1 0)) := ⟨Blk.new _ _ _, below_new w _, Nat.le_refl _⟩
  have A1 : Blk (w.alloc (.cells #[.pointer none, .pointer (some ⟨g, 0, none⟩), .int .i64 0, .string ⟨#[]⟩] 72)) 72 w.heap.size #[.pointer none, .pointer (some ⟨g, 0, none⟩), .int .i64 0, .string ⟨#[]⟩] := Blk.new _ _ _
  have c0 : (w.alloc (.cells #[.pointer none, .pointer (some ⟨g, 0, none⟩), .int .i64 0, .string ⟨#[]⟩] 72)).cell? ⟨w.heap.size, 0, none⟩ = some (.pointer none) := A1.cell 0
  have f0 := A1.free 0
  clear A1 h hA hn hB hK
  go_enter Tryz.func15, Tryz.ntmps15
  go_wp2_with fail
  refine (C1.out _ rfl).mono ?_
  rintro e w1 ⟨rfl, hw1⟩
  subst hw1
  go_wp2_with fail
  refine (C2.out _ rfl).mono ?_
  rintro e w2 ⟨rfl, hw2⟩
  subst hw2
  go_wp2_with fail
  obtain ⟨gs, hgs⟩ : ∃ gs, w2.heap.size = gs := ⟨_, rfl⟩
  obtain ⟨W0, hW0⟩ : ∃ W0, w2.alloc (.cells #[.pointer (some ⟨w2.heap.size, 0, none⟩), .pointer (some ⟨g, 0, none⟩), .int .i64 0, .string ⟨#[]⟩] 72) = W0 := ⟨_, rfl⟩
  rw [hW0] at A0 ⊢
  rw [hgs] at A0 ⊢
  have HG : Hid (w2.heap.size = gs) := hgs
  clear hgs hW0 C1 C2
  go_loopw [20] (fun i wr => ∃ k : Nat, k ≤ 2 ∧ i = .int .i64 k ∧ Hid (OpS w2 wr gs g (opS D.1 k))) (fun i _ => 2 - (intOf i).toNat)
  case atStart => exact ⟨0, by decide, rfl, A0⟩
  case round =>
    clear A0
    obtain ⟨k, hk, rfl, HO⟩ := hrel
    by_cases hlt : k < 2
    · have d0 : (k : Int) < 2 := by omega
      have C3' : Hid (∀ W, Below w2.heap.size w2 W → _) := fun W e => C3.out W k hlt e
      have Hs : Hid (opS D.1 (k + 1) = if (opS D.1 k).1 < (wholeC D.1 k).1 then wholeC D.1 k else opS D.1 k) := rfl
      obtain ⟨⟨t, T⟩, hq⟩ : ∃ z, wholeC D.1 k = z := ⟨_, rfl⟩
      obtain ⟨⟨u, U⟩, hr⟩ : ∃ z, opS D.1 k = z := ⟨_, rfl⟩
      rw [hq] at C3' Hs
      rw [hr] at HO Hs
      simp only at C3'
      clear hq hr C3
      go_wp2_with fail
      refine (C3'.out _ HO.out.b).mono ?_
      rintro e W1 ⟨rfl, hb1⟩
      have HO1 : Hid (OpS w2 W1 gs g (u, U)) := HO.out.on hb1
      have k2 : W1.cell? ⟨gs, 2, none⟩ = some (.int .i64 u) := HO1.out.a.cell 2
      have f2 := HO1.out.a.free 2
      have f3 := HO1.out.a.free 3
      have k3 : W1.cell? ⟨gs, 3, none⟩ = some (.string U) := HO1.out.a.cell 3
      clear HO hb1 C3'
      by_cases hc : u < t
      · have HO2 : Hid (OpS w2 ((W1.setCell ⟨gs, 2, none⟩ (.int .i64 t)).setCell ⟨gs, 3, none⟩ (.string T)) gs g (opS D.1 (k + 1))) := by
          show OpS _ _ _ _ _
          rw [Hs.out, if_pos hc]
          exact ⟨(HO1.out.a.setAt 2 _).setAt 3 _, (HO1.out.b.setCell (p := ⟨gs, 2, none⟩) HO1.out.k _).setCell (p := ⟨gs, 3, none⟩) HO1.out.k _, HO1.out.k⟩
        clear HO1 Hs
        go_wp2_with fail
        refine ⟨⟨k + 1, by omega, by rfl, HO2⟩, ?_⟩
        show 2 - (k + 1) < 2 - k
        omega
      · have HO2 : Hid (OpS w2 W1 gs g (opS D.1 (k + 1))) := by
          show OpS _ _ _ _ _
          rw [Hs.out, if_neg hc]
          exact HO1.out
        clear HO1 Hs
        go_wp2_with fail
        refine ⟨⟨k + 1, by omega, by rfl, HO2⟩, ?_⟩
        show 2 - (k + 1) < 2 - k
        omega
    · have d0 : ¬ ((k : Int) < 2) := by omega
      obtain rfl : k = 2 := by omega
      rw [E9.out] at HO
      go_wp2_with fail
      go_ret2
      exact ⟨gs, rfl, fun j => j = gs, ⟨HO.out.a, fun _ => Iff.rfl, W9.out⟩, fun j hj => by cases hj; exact HO.out.k, HO.out.b⟩

end Go.Proofs.YtaakmcihpdbilaaGreatDoor

/- Layer 18, the code's: into, and the closure that blocks are told to. -/
namespace Go.Proofs.YtaakmcihpdbilaaGreatDoor
open Go.RowKit
set_option maxRecDepth 100000
set_option linter.unusedSimpArgs false
set_option linter.unusedVariables false
set_option maxRecDepth 100000

theorem dwriteB_any (g b : Nat) (D : DevT) (n : Nat) (c : Int) (k : Nat) (s : ByteArray) (w : World) (h : DevAt w g b D) (hD : DvO n c D) (hc : c < 1152921504606846976) (hk : k < n) (hs : s.size = 64) :
    Calls Tryz.prog 11 #[.pointer (some ⟨g, 0, none⟩), .int .i64 (k : Int), .string s] w fun e w' => e = .returned (.int .i64 (writeB D k s).2) ∧ DevTo w g b (writeB D k s).1 w' := by
  have hk2 : k < D.1.length := by rw [hD.len]; exact hk
  by_cases ho : D.2.2.1 = true ∨ D.2.1 = 0
  · have e : writeB D k s = (offB D, 170) := by unfold writeB; rw [if_pos ho]
    rw [e]
    exact dwrite_off g b D k s w h hk2 hs ho
  · have h1 : D.2.2.1 = false := Bool.eq_false_iff.2 (fun e => ho (.inl e))
    have h2 : D.2.1 ≠ 0 := fun e => ho (.inr e)
    have e : (writeB D k s).2 = 0 := by
      unfold writeB
      rw [if_neg ho]
    rw [e]
    exact dwrite_yes g b D k s w h hk2 hs h1 h2 ⟨hD.n0, by have := hD.n1; omega⟩

/-- The variables that the closure holds. -/
structure TelS (W : World) (cw cf g p : Nat) : Prop where
  w : Blk W 45 cw #[.func (.func 11) #[.pointer (some ⟨g, 0, none⟩)] #[]]
  f : Blk W 3 cf #[.int .i64 (p : Int)]
theorem TelS.on {W W' : World} {cw cf g p : Nat} (h : TelS W cw cf g p) (hb : Below W.heap.size W W') : TelS W' cw cf g p := ⟨h.w.on hb, h.f.on hb⟩
theorem TelS.kept {W W' : World} {cw cf g p g' b' : Nat} (h : TelS W cw cf g p) (hk : Kept2 g' (some b') W W') (h1 : cw ≠ g') (h2 : cw ≠ b') (h3 : cf ≠ g') (h4 : cf ≠ b') : TelS W' cw cf g p :=
  ⟨h.w.kept hk h1 (fun e => h2 (by cases e; rfl)), h.f.kept hk h3 (fun e => h4 (by cases e; rfl))⟩

set_option maxHeartbeats 2000000 in
theorem into18_any (p g : Nat) (w : World) :
    Calls Tryz.prog 45 #[.int .i64 (p : Int), .func (.func 11) #[.pointer (some ⟨g, 0, none⟩)] #[]] w fun e w' => ∃ cw cf, e = .returned (.func (.func 66) #[] #[.pointer (some ⟨cw, 0, none⟩), .pointer (some ⟨cf, 0, none⟩)]) ∧ TelS w' cw cf g p ∧ w.heap.size ≤ cw ∧ w.heap.size ≤ cf ∧ Below w.heap.size w w' := by
  have hmf : ∀ (fn : Fn) (first cap : Array Value) (w : World), (Instr.makeFunc fn first cap).run Tryz.prog w = .ok (.func fn first cap) w := fun _ _ _ _ => rfl
  go_enter Tryz.func45, Tryz.ntmps45
  go_wp2
  go_ret
  exact ⟨_, _, rfl, ⟨Blk.new' _ _ _ _ (by simp), (Blk.new w _ _).alloc _⟩, by omega, Nat.le_refl _, (below_new w _).alloc (by simp) _⟩

set_option maxHeartbeats 400000 in
theorem tellw18_any (cw cf p g b : Nat) (D : DevT) (n : Nat) (c : Int) (k : Nat) (s : ByteArray) (w : World) (ht : TelS w cw cf g p) (hx : cw ≠ g ∧ cw ≠ b ∧ cf ≠ g ∧ cf ≠ b) (h : DevAt w g b D) (hD : DvO n c D) (hn : n ≤ 4096) (hc : c < 1152921504606846976) (hk : p + k < n) (hs : s.size ≤ 64) :
    Calls Tryz.prog 66 #[.int .i64 (k : Int), .string s, .pointer (some ⟨cw, 0, none⟩), .pointer (some ⟨cf, 0, none⟩)] w fun e w' => e = .returned (.int .i64 (writeB D (p + k) (fl18 s)).2) ∧ DevTo w g b (writeB D (p + k) (fl18 s)).1 w' := by
  have hS0 : w.drew.cell? ⟨cw, 0, none⟩ = some (.func (.func 11) #[.pointer (some ⟨g, 0, none⟩)] #[]) ∧ w.drew.cell? ⟨cf, 0, none⟩ = some (.int .i64 (p : Int)) := ⟨(ht.on (Below.refl _ _).drew).w.cell 0, (ht.on (Below.refl _ _).drew).f.cell 0⟩
  have C1 : Hid (∀ W, Calls Tryz.prog 51 #[.string s] W fun e w' => e = .returned (.string (fl18 s)) ∧ Below W.heap.size W w') := fun W => filled18_any s W hs
  have C2 : Hid (∀ W, Below w.heap.size w W → Calls Tryz.prog 11 #[.pointer (some ⟨g, 0, none⟩), .int .i64 (IntKind.i64.wrap ((p : Int) + (k : Int))), .string (fl18 s)] W fun e w' => e = .returned (.int .i64 (writeB D (p + k) (fl18 s)).2) ∧ DevTo w g b (writeB D (p + k) (fl18 s)).1 w') := fun W e => by
    rw [show IntKind.i64.wrap ((p : Int) + (k : Int)) = ((p + k : Nat) : Int) by rw [IntKind.wrap_i64]; omega]
    refine (dwriteB_any g b D n c (p + k) (fl18 s) W (h.on e) hD hc hk (fl18_size s hs)).mono ?_
    rintro x w' ⟨h1, h2⟩
    exact ⟨h1, h2.1, Kept2.behind e h2.2⟩
  have HT : Hid (∀ W, DevTo w g b (writeB D (p + k) (fl18 s)).1 W → W.cell? ⟨cw, 0, none⟩ = some (.func (.func 11) #[.pointer (some ⟨g, 0, none⟩)] #[]) ∧ W.cell? ⟨cf, 0, none⟩ = some (.int .i64 (p : Int))) := fun W e => ⟨(ht.kept e.2 hx.1 hx.2.1 hx.2.2.1 hx.2.2.2).w.cell 0, (ht.kept e.2 hx.1 hx.2.1 hx.2.2.1 hx.2.2.2).f.cell 0⟩
  have HT1 : Hid (∀ W, Below w.heap.size w W → W.cell? ⟨cw, 0, none⟩ = some (.func (.func 11) #[.pointer (some ⟨g, 0, none⟩)] #[]) ∧ W.cell? ⟨cf, 0, none⟩ = some (.int .i64 (p : Int))) := fun W e => ⟨(ht.on e).w.cell 0, (ht.on e).f.cell 0⟩
  obtain ⟨R, hR⟩ : ∃ R, writeB D (p + k) (fl18 s) = R := ⟨_, rfl⟩
  obtain ⟨F, hF⟩ : ∃ F, fl18 s = F := ⟨_, rfl⟩
  rw [hF] at C1
  rw [hR] at C2 HT ⊢
  rw [hF] at C2
  have hpk : p + k < 4096 := by omega
  clear ht h hD hR hF hx
  go_enter Tryz.func66, Tryz.ntmps66
  go_wp2_with fail
  refine wp_region_noPanic ?_
  refine wp_region_held_drew (S := fun W => W.cell? ⟨cw, 0, none⟩ = some (.func (.func 11) #[.pointer (some ⟨g, 0, none⟩)] #[]) ∧ W.cell? ⟨cf, 0, none⟩ = some (.int .i64 (p : Int))) (by kernel_rfl) (by first | exact trivial | assumption | exact ⟨by assumption, by assumption⟩) (fun hHeld => ?_)
  refine take_at (i := 0) (v := ?_) rfl rfl (by kernel_rfl) (by kernel_rfl) (by kernel_rfl) (fun _ _ _ h => h) (Or.inl ⟨by rfl, ?_⟩) (by assumption) ?_
  rotate_left
  · intro w hSw; (try dsimp only at hSw); go_simp; try with_reducible rfl
  try simp only [Act.put, List.setIfInBounds_toArray, List.set_cons_zero, List.set_cons_succ]
  refine take_at (i := 1) (v := ?_) rfl rfl (by kernel_rfl) (by kernel_rfl) (by kernel_rfl) (fun _ _ _ h => h) (Or.inl ⟨by rfl, ?_⟩) (by assumption) ?_
  rotate_left
  · intro w hSw; (try dsimp only at hSw); go_simp; try with_reducible rfl
  try simp only [Act.put, List.setIfInBounds_toArray, List.set_cons_zero, List.set_cons_succ]
  refine take_at (i := 2) (v := ?_) rfl rfl (by kernel_rfl) (by kernel_rfl) (by kernel_rfl) (fun _ _ _ h => h) (Or.inl ⟨by rfl, ?_⟩) (by assumption) ?_
  rotate_left
  · intro w hSw; (try dsimp only at hSw); go_simp; try with_reducible rfl
  try simp only [Act.put, List.setIfInBounds_toArray, List.set_cons_zero, List.set_cons_succ]
  refine take_at (i := 3) (v := ?_) rfl rfl (by kernel_rfl) (by kernel_rfl) (by kernel_rfl) (fun _ _ _ h => h) (Or.inl ⟨by rfl, ?_⟩) (by assumption) ?_
  rotate_left
  · intro w hSw; (try dsimp only at hSw); go_simp; try with_reducible rfl
  try simp only [Act.put, List.setIfInBounds_toArray, List.set_cons_zero, List.set_cons_succ]
  refine take_at (i := 4) (v := ?_) rfl rfl (by kernel_rfl) (by kernel_rfl) (by kernel_rfl) (fun _ _ _ h => h) (Or.inl ⟨by rfl, ?_⟩) (by assumption) ?_
  rotate_left
  · intro w hSw; (try dsimp only at hSw); go_simp; try with_reducible rfl
  try simp only [Act.put, List.setIfInBounds_toArray, List.set_cons_zero, List.set_cons_succ]
  refine wpAnyH_ready (rs := [5]) (by kernel_rfl) (by simp) ?_
  refine AllReadyH.cons rfl (fun K hK => ?_) AllReadyH.nil
  go_simp
  refine (C1.out _).mono ?_
  rintro e w1 ⟨rfl, hb1⟩
  have HB1 : Hid (Below w.heap.size w w1) := below_step (Below.refl _ _).drew (Nat.le_refl _) hb1
  clear hb1
  refine hK.out _ _ (HT1.out _ HB1.out) (fun hHeld => ?_)
  clear hK K
  refine wpAnyH_ready (rs := [6]) (by kernel_rfl) (by simp) ?_
  refine AllReadyH.cons rfl (fun K hK => ?_) AllReadyH.nil
  go_simp
  refine (C2.out _ HB1.out).mono ?_
  rintro e w2 ⟨rfl, h2⟩
  have H2 : Hid (DevTo w g b R.1 w2) := h2
  have hS2 : w2.cell? ⟨cw, 0, none⟩ = some (.func (.func 11) #[.pointer (some ⟨g, 0, none⟩)] #[]) ∧ w2.cell? ⟨cf, 0, none⟩ = some (.int .i64 (p : Int)) := HT.out w2 h2
  clear h2 HB1
  refine hK.out _ _ hS2 (fun hHeld => ?_)
  clear hK K
  refine take_at (i := 7) (v := ?_) rfl rfl (by kernel_rfl) (by kernel_rfl) (by kernel_rfl) (fun _ _ _ h => h) (Or.inl ⟨by rfl, ?_⟩) (by assumption) ?_
  rotate_left
  · intro w hSw; (try dsimp only at hSw); go_simp; try with_reducible rfl
  try simp only [Act.put, List.setIfInBounds_toArray, List.set_cons_zero, List.set_cons_succ]
  refine wpAnyH_done (by kernel_rfl) (NoPanic.normal ?_) _
  go_wp2_with fail
  go_ret
  exact ⟨rfl, H2.out⟩

end Go.Proofs.YtaakmcihpdbilaaGreatDoor
