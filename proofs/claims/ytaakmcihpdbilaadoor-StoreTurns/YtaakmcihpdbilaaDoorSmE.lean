/- Layer 18, the code's: whole, walked. -/
import Derived.Test.YtaakmcihpdbilaaDoorSmD
namespace Go.Proofs.YtaakmcihpdbilaaDoor
open Go.RowKit
set_option maxRecDepth 100000
set_option linter.unusedSimpArgs false
set_option linter.unusedVariables false
set_option maxRecDepth 100000

theorem catB_one (L : List ByteArray) (p : Nat) (h : (strL L p).size = 64) : (catB L p ((64 + 63) / 64)).extract 0 64 = strL L p := by
  show ((⟨#[]⟩ : ByteArray) ++ strL L (p + 0)).extract 0 64 = _
  rw [Nat.add_zero, show (⟨#[]⟩ : ByteArray) = ByteArray.empty from rfl, empty_app]
  refine bt_ext _ _ (by rw [ByteArray.size_extract]; omega) (fun i hi => ?_)
  rw [ByteArray.size_extract] at hi
  rw [bt_extract _ _ _ _ (by omega) (by omega), Nat.zero_add]

theorem text_neq18 {a b : ByteArray} (h : ¬ a = b) : (a.toList != b.toList) = true := by
  have := beq_texts a b
  rw [bne, this, decide_eq_false h]; rfl
theorem text_neq18' {a b : ByteArray} (h : a = b) : (a.toList != b.toList) = false := by rw [h]; simp

/-- The In of a head, of the call's own. -/
structure IwS (w W : World) (k : Nat) (i : ByteArray × Int) : Prop where
  a : InAt W k i
  b : Below w.heap.size w W
  k : w.heap.size ≤ k
theorem IwS.step {w W W' : World} {k : Nat} {i i' : ByteArray × Int} (h : IwS w W k i) (h2 : InTo W k i' W') : IwS w W' k i' :=
  ⟨h2.1, h.b.trans (h2.2.below _ h.b.size h.k (fun _ e => by cases e)), h.k⟩

set_option maxHeartbeats 4000000 in
theorem whole18_any (g b : Nat) (D : DevT) (wh : Nat) (w : World) (h : DevAt w g b D) (ho : D.2.2.1 = false) (h2 : 2 ≤ D.1.length) (hl : D.1.length ≤ 2048) (hw : wh < 2) (hB : GlobB w) (hK : GlobK w) :
    Calls Tryd.prog 19 #[.pointer (some ⟨g, 0, none⟩), .int .i64 (wh : Int)] w fun e w' => e = .returned (.tuple #[.int .i64 (wholeC D.1 wh).1, .string (wholeC D.1 wh).2]) ∧ Below w.heap.size w w' := by
  have hA : AllB D.1 := by obtain ⟨F, _, _, _, h4, _⟩ := h; exact h4
  obtain ⟨p, hp⟩ : ∃ p, wh * (D.1.length / 2) = p := ⟨_, rfl⟩
  have hp2 : p + (D.1.length / 2 - 1) < D.1.length := by
    rw [← hp]
    have : wh * (D.1.length / 2) ≤ 1 * (D.1.length / 2) := Nat.mul_le_mul_right _ (by omega)
    omega
  obtain ⟨H, hH⟩ : ∃ H, strL D.1 p = H := ⟨_, rfl⟩
  have hHs : H.size = 64 := by rw [← hH]; exact hA _ (by omega)
  obtain ⟨⟨⟨S1, e1⟩, t⟩, r1⟩ : ∃ z, hf1 D.1 p = z := ⟨_, rfl⟩
  obtain ⟨⟨⟨S2, e2⟩, m⟩, r2⟩ : ∃ z, hf2 D.1 p = z := ⟨_, rfl⟩
  have ht9 : t ≤ 1099511627775 := by have := inNumP_small (strL D.1 p, 0); unfold hf1 at r1; rw [r1] at this; exact this
  have hm9 : m ≤ 1099511627775 := by have := inNumP_small (hf1 D.1 p).1; unfold hf2 at r2; rw [r2] at this; exact this
  have eW : wholeC D.1 wh = if t < 1 ∨ t % 2 ≠ wh ∨ 64 * (D.1.length / 2 - 1) < m then (0, ⟨#[]⟩)
      else if strL D.1 p ≠ hdB (t : Int) ((catB D.1 (p + 1) ((m + 63) / 64)).extract 0 m) ∨ txsP ((catB D.1 (p + 1) ((m + 63) / 64)).extract 0 m) = none ∨ txsP ((catB D.1 (p + 1) ((m + 63) / 64)).extract 0 m) = some [] then (0, ⟨#[]⟩) else ((t : Int), (catB D.1 (p + 1) ((m + 63) / 64)).extract 0 m) := by
    unfold wholeC
    simp only
    rw [hp, r1, r2]
  rw [eW]
  clear eW
  have C1 : Hid (∀ W, W = w → Calls Tryd.prog 26 #[.pointer (some ⟨g, 0, none⟩), .int .i64 (wh : Int)] W fun e w' => e = .returned (.int .i64 (p : Int)) ∧ w' = W) := fun W e => by
    subst e
    have := first18_any g b D wh _ h (by omega) hw
    rw [hp] at this
    exact this
  have HD : Hid (∀ W, Below w.heap.size w W → DevAt W g b D) := fun W e => h.on e
  have HGB : Hid (GlobB w) := hB
  have HGK : Hid (GlobK w) := hK
  have C2 : Hid (∀ W, W = w → Calls Tryd.prog 27 #[.pointer (some ⟨g, 0, none⟩), .int .i64 (p : Int), .int .i64 64] W fun e w' => e = .returned (.string H) ∧ Below W.heap.size W w') := fun W e => by
    subst e
    have := span18_any g b D p 64 _ h ho (by show p + 1 ≤ _; omega) (by omega)
    rw [catB_one D.1 p (hA _ (by omega)), hH] at this
    exact this
  have C3 : Hid (∀ W k, IwS w W k (H, 0) → Calls Tryd.prog 28 #[.pointer (some ⟨k, 0, none⟩)] W fun e w' => e = .returned (.int .i64 (t : Int)) ∧ IwS w w' k (S1, e1)) := fun W k hi => by
    refine (inum_any k (H, 0) W hi.a).mono ?_
    have r1' : inNumP (H, 0) = ((S1, e1), t) := by rw [← hH]; exact r1
    rw [r1']
    rintro e w' ⟨he, h3⟩
    exact ⟨he, hi.step h3⟩
  have C4 : Hid (∀ W k, IwS w W k (S1, e1) → Calls Tryd.prog 28 #[.pointer (some ⟨k, 0, none⟩)] W fun e w' => e = .returned (.int .i64 (m : Int)) ∧ Below w.heap.size w w') := fun W k hi => by
    refine (inum_any k (S1, e1) W hi.a).mono ?_
    have r2' : inNumP (S1, e1) = ((S2, e2), m) := by unfold hf2 at r2; rw [r1] at r2; exact r2
    rw [r2']
    rintro e w' ⟨he, h3⟩
    exact ⟨he, (hi.step h3).b⟩
  obtain ⟨q, hq⟩ : ∃ q, 64 * (D.1.length / 2 - 1) = q := ⟨_, rfl⟩
  have hq9 : q ≤ 1048576 := by omega
  have C5 : Hid (∀ W, Below w.heap.size w W → Calls Tryd.prog 29 #[.pointer (some ⟨g, 0, none⟩)] W fun e w' => e = .returned (.int .i64 (q : Int)) ∧ w' = W) := fun W e => by
    have := room18_any g b D W (HD.out W e) (by omega) h2
    rw [hq] at this
    exact this
  obtain ⟨T, hT⟩ : ∃ T, (catB D.1 (p + 1) ((m + 63) / 64)).extract 0 m = T := ⟨_, rfl⟩
  have C6 : Hid (m ≤ q → ∀ W, Below w.heap.size w W → Calls Tryd.prog 27 #[.pointer (some ⟨g, 0, none⟩), .int .i64 ((p : Int) + 1), .int .i64 (m : Int)] W fun e w' => e = .returned (.string T) ∧ Below W.heap.size W w') := fun hm W e => by
    have := span18_any g b D (p + 1) m W (HD.out W e) ho (by omega) (by omega)
    rw [hT] at this
    exact this
  have C7 : Hid (m ≤ q → ∀ W, Below w.heap.size w W → Calls Tryd.prog 31 #[.int .i64 (t : Int), .string T] W fun e w' => e = .returned (.string (hd0 (t : Int) T)) ∧ Below W.heap.size W w') := fun hm W e => head18_any (t : Int) T W (by rw [← hT, ByteArray.size_extract]; omega) (by omega) (by omega) (HGB.out.below e) (HGK.out.below e)
  have C8 : Hid (∀ W, Calls Tryd.prog 30 #[.string (hd0 (t : Int) T)] W fun e w' => e = .returned (.string (hdB (t : Int) T)) ∧ Below W.heap.size W w') := fun W => by
    rw [← hd0_fl]
    exact filled18_any _ W (by rw [hd0_size]; decide)
  have hTs : m ≤ q → T.size ≤ 1048576 := fun hm => by rw [← hT, ByteArray.size_extract]; omega
  rw [hT, hq, hH]
  have hp9 : p ≤ 2048 := by omega
  have r3 : Int.tmod (t : Int) 2 = ((t % 2 : Nat) : Int) := by rw [show (2 : Int) = ((2 : Nat) : Int) from rfl, ← Int.ofNat_tmod]
  obtain ⟨u, hu⟩ : ∃ u, t % 2 = u := ⟨_, rfl⟩
  have hu2 : u < 2 := by omega
  rw [hu] at r3 ⊢
  obtain ⟨Z, HZ⟩ : ∃ Z : Int × ByteArray, Hid (Z = if t < 1 ∨ u ≠ wh ∨ q < m then (0, ⟨#[]⟩) else if H ≠ hdB (t : Int) T ∨ txsP T = none ∨ txsP T = some [] then (0, ⟨#[]⟩) else ((t : Int), T)) := ⟨_, rfl⟩
  rw [← HZ.out]
  clear h hA hp hp2 hH r1 r2 HGB HGK hB hK hu HD hT hq
  go_enter Tryd.func19, Tryd.ntmps19
  go_wp2_with fail
  refine (C1.out _ rfl).mono ?_
  rintro e w1 ⟨rfl, hw1⟩
  subst hw1
  go_wp2_with fail
  refine (C2.out _ rfl).mono ?_
  rintro e w2 ⟨rfl, hb2⟩
  have B2 : Hid (Below w1.heap.size w1 w2) := hb2
  clear hb2
  go_wp2_with fail
  refine (newIn_any H w2 (by omega)).mono ?_
  rintro e w3 ⟨rfl, hI, hb⟩
  obtain ⟨k, hk⟩ : ∃ k, w2.heap.size = k := ⟨_, rfl⟩
  have I3 : Hid (IwS w1 w3 k (H, 0)) := hk ▸ ⟨hI, below_step B2.out (Nat.le_refl _) hb, B2.out.size⟩
  rw [hk]
  clear hI hb hk B2
  go_wp2_with fail
  refine (C3.out _ _ I3.out).mono ?_
  rintro e w4 ⟨rfl, hi4⟩
  have I4 : Hid (IwS w1 w4 k (S1, e1)) := hi4
  clear hi4 I3
  go_wp2_with fail
  refine (C4.out _ _ I4.out).mono ?_
  rintro e w5 ⟨rfl, hb5⟩
  have B5 : Hid (Below w1.heap.size w1 w5) := hb5
  clear hb5 I4 C1 C2 C3 C4
  by_cases c1 : t < 1
  · have d1 : (t : Int) < 1 := by omega
    have E9 : Hid (Z = (0, ⟨#[]⟩)) := by show _ = _; rw [HZ.out]; exact if_pos (.inl c1)
    clear HZ
    clear C5 C6 C7 C8 hTs
    go_wp2_with fail
    go_ret2
    exact ⟨by rw [E9.out]; rfl, B5.out⟩
  have d1 : ¬ ((t : Int) < 1) := by omega
  by_cases c2 : u = wh
  · have d2 : ((u : Int) != (wh : Int)) = false := by rw [c2]; simp
    have d2' : ((u : Int) == (wh : Int)) = true := by rw [c2]; simp
    go_wp2_with fail
    refine (C5.out _ B5.out).mono ?_
    rintro e w6 ⟨rfl, hw6⟩
    subst hw6
    by_cases c3 : q < m
    · have d3 : (q : Int) < (m : Int) := by omega
      have E9 : Hid (Z = (0, ⟨#[]⟩)) := by show _ = _; rw [HZ.out]; exact if_pos (.inr (.inr c3))
      clear HZ
      clear C5 C6 C7 C8 hTs
      go_wp2_with fail
      go_ret2
      exact ⟨by rw [E9.out]; rfl, B5.out⟩
    · have d3 : ¬ ((q : Int) < (m : Int)) := by omega
      have c3' : m ≤ q := by omega
      have E8 : Hid (Z = if H ≠ hdB (t : Int) T ∨ txsP T = none ∨ txsP T = some [] then (0, ⟨#[]⟩) else ((t : Int), T)) := by
        show _ = _
        rw [HZ.out]
        refine if_neg (fun h => ?_)
        rcases h with h | h | h
        · exact c1 h
        · exact h c2
        · exact c3 h
      clear HZ
      have C6' : Hid (∀ W, _) := C6.out c3'
      have C7' : Hid (∀ W, _) := C7.out c3'
      have hTs' := hTs c3'
      clear C5 C6 C7 hTs
      go_wp2_with fail
      refine (C6'.out _ B5.out).mono ?_
      rintro e w7 ⟨rfl, hb7⟩
      have B7 : Hid (Below w1.heap.size w1 w7) := below_step B5.out (Nat.le_refl _) hb7
      clear B5 hb7 C6'
      go_wp2_with fail
      refine (C7'.out _ B7.out).mono ?_
      rintro e w8 ⟨rfl, hb8⟩
      have B8 : Hid (Below w1.heap.size w1 w8) := below_step B7.out (Nat.le_refl _) hb8
      clear B7 hb8 C7'
      go_wp2_with fail
      refine (C8.out _).mono ?_
      rintro e w9 ⟨rfl, hb9⟩
      have B9 : Hid (Below w1.heap.size w1 w9) := below_step B8.out (Nat.le_refl _) hb9
      clear B8 hb9 C8
      obtain ⟨K9, hK9⟩ : ∃ K9, hdB (t : Int) T = K9 := ⟨_, rfl⟩
      rw [hK9] at E8 ⊢
      clear hK9
      by_cases c4 : H = K9
      · have x0 := text_neq18' c4
        have x1 : (H.toList == K9.toList) = true := by rw [c4]; simp
        go_wp2_with fail
        refine (texts18_any T _ hTs').mono ?_
        rintro e w10 ⟨v, rfl, hb10, hv⟩
        have B10 : Hid (Below w1.heap.size w1 w10) := below_step B9.out (Nat.le_refl _) hb10
        clear B9 hb10
        rcases hv with ⟨hv1, rfl⟩ | ⟨l, hv1, hv2⟩
        · have E9 : Hid (Z = (0, ⟨#[]⟩)) := by show _ = _; rw [E8.out]; exact if_pos (.inr (.inl hv1))
          clear E8 hv1
          go_wp2_with fail
          go_ret2
          exact ⟨by rw [E9.out]; rfl, B10.out⟩
        · obtain ⟨a, c, rfl, _⟩ := hv2.strs
          clear hv2
          cases l with
          | nil =>
            have E9 : Hid (Z = (0, ⟨#[]⟩)) := by show _ = _; rw [E8.out]; exact if_pos (.inr (.inr hv1))
            clear E8 hv1
            go_wp2_with fail
            go_ret2
            exact ⟨by rw [E9.out]; rfl, B10.out⟩
          | cons x l =>
            have E9 : Hid (Z = ((t : Int), T)) := by
              show _ = _
              rw [E8.out]
              refine if_neg (fun h => ?_)
              rw [hv1] at h
              rcases h with h | h | h
              · exact h c4
              · cases h
              · cases h
            obtain ⟨n, hn⟩ : ∃ n, (x :: l).length = n := ⟨_, rfl⟩
            have hn0 : n ≠ 0 := by rw [← hn]; simp
            rw [hn]
            have x3 : ((n : Int) == 0) = false := by rw [beq_eq_false_iff_ne]; omega
            clear E8 hv1 hn
            go_wp2_with fail
            go_ret2
            exact ⟨by rw [E9.out]; rfl, B10.out⟩
      · have x0 := text_neq18 c4
        have x1 : (H.toList == K9.toList) = false := by rw [beq_texts]; exact decide_eq_false c4
        have E9 : Hid (Z = (0, ⟨#[]⟩)) := by show _ = _; rw [E8.out]; exact if_pos (.inl c4)
        clear E8
        go_wp2_with fail
        go_ret2
        exact ⟨by rw [E9.out]; rfl, B9.out⟩
  · have d2 : ((u : Int) != (wh : Int)) = true := by rw [bne_iff_ne]; omega
    have d2' : ((u : Int) == (wh : Int)) = false := by rw [beq_eq_false_iff_ne]; omega
    have E9 : Hid (Z = (0, ⟨#[]⟩)) := by show _ = _; rw [HZ.out]; exact if_pos (.inr (.inl c2))
    clear HZ
    clear C5 C6 C7 C8 hTs
    go_wp2_with fail
    go_ret2
    exact ⟨by rw [E9.out]; rfl, B5.out⟩

end Go.Proofs.YtaakmcihpdbilaaDoor
