import Derived.Test.YtaakmcihpdbilaaGreatDoorBA
import Derived.BigQuiet
import Derived.Test.YtaakmcihpdbilaaGreatDoorSP
import Derived.Test.YtaakmcihpdbilaaGreatDoorBK
/- The document's Same (layer 8), for layer 18's laws. -/
namespace Go.Proofs.YtaakmcihpdbilaaGreatDoor
open Go.RowKit
set_option maxRecDepth 100000
set_option linter.unusedSimpArgs false
set_option maxRecDepth 100000

set_option maxHeartbeats 1000000 in
theorem rsame18_any (l m : List ByteArray) (a a' : Option Addr) (n n' c c' : Nat) (w : World) (hn : n ≤ 1048576) (hn' : n' ≤ 1048576) (hI : StrsAt w a n l) (hI' : StrsAt w a' n' m) :
    Calls Tryz.prog 22 #[.slice a n c, .slice a' n' c'] w fun e w' => e = .returned (.bool (decide (l = m))) ∧ Below w.heap.size w w' := by
  have HI : Hid (StrsAt w a n l) := hI
  have HI' : Hid (StrsAt w a' n' m) := hI'
  obtain ⟨B, HB⟩ : ∃ B, Hid (B = decide (l = m)) := ⟨_, rfl⟩
  rw [← HB.out]
  clear hI hI'
  by_cases hnn : n = n'
  · subst hnn
    go_enter Tryz.func22, Tryz.ntmps22
    go_wp2_with fail
    go_loopw [5] (fun i wr => ∃ k : Nat, k ≤ n ∧ i = .int .i64 k ∧ Hid (∀ j, j < k → strL l j = strL m j) ∧ Below w.heap.size w wr) (fun i _ => n - (intOf i).toNat)
    case atStart => exact ⟨0, Nat.zero_le _, rfl, fun j hj => absurd hj (Nat.not_lt_zero _), Below.refl _ _⟩
    case round =>
      obtain ⟨k, hk, rfl, HN, hbl⟩ := hrel
      by_cases hlt : k < n
      · obtain ⟨b, off, rfl, hcl⟩ := (HI.out.below hbl).some (by omega)
        obtain ⟨b', off', rfl, hcl'⟩ := (HI'.out.below hbl).some (by omega)
        have c0 := hcl k hlt
        have c1 := hcl' k hlt
        have b0 : (k : Int) < (n : Int) := by omega
        have hlen := HI.out.1
        have hlen' := HI'.out.1
        clear hcl hcl'
        by_cases he : strL l k = strL m k
        · have q0 : ((strL l k).toList != (strL m k).toList) = false := by rw [he]; simp
          have q1 : ((strL l k).toList == (strL m k).toList) = true := by rw [he]; simp
          have q2 : (strL l k).toList = (strL m k).toList := by rw [he]
          have HN' : Hid (∀ j, j < k + 1 → strL l j = strL m j) := by
            show ∀ j, _
            intro j hj
            by_cases e : j = k
            · subst e; exact he
            · exact HN.out j (by omega)
          clear he HN hlen hlen'
          generalize strL l k = X at *
          generalize strL m k = Y at *
          go_wp2_with fail
          go_quiet (fail)
          go_wp2
          refine ⟨⟨k + 1, by omega, by go_num, HN', below_drewN hbl _⟩, ?_⟩
          simp [intOf]; omega
        · have q0 : ((strL l k).toList != (strL m k).toList) = true := by
            rw [bne_iff_ne]
            intro e
            have := beq_texts (strL l k) (strL m k)
            rw [e] at this
            simp at this
            exact he this
          have q1 : ((strL l k).toList == (strL m k).toList) = false := by rw [beq_texts]; exact decide_eq_false he
          have hB : B = false := by
            rw [HB.out]
            refine decide_eq_false (fun h => he ?_)
            rw [h]
          clear he HN hlen hlen'
          generalize strL l k = X at *
          generalize strL m k = Y at *
          go_wp2_with fail
          go_quiet (fail)
          go_wp2
          go_ret
          rw [hB]
          exact ⟨rfl, below_drewN hbl _⟩
      · have hk' : k = n := by omega
        subst hk'
        have hB : B = true := by
          rw [HB.out]
          refine decide_eq_true ?_
          have h1 := HI.out.1
          have h2 := HI'.out.1
          apply List.ext_getElem (by omega)
          intro i hi1 hi2
          have := HN.out i (by omega)
          unfold strL at this
          rw [List.getD_eq_getElem?_getD, List.getD_eq_getElem?_getD, List.getElem?_eq_getElem hi1, List.getElem?_eq_getElem hi2] at this
          exact this
        go_wp2
        go_ret
        rw [hB]
        exact ⟨rfl, hbl⟩
  · have g0 : (((n : Int) != (n' : Int))) = true := by rw [bne_iff_ne]; omega
    have hB : B = false := by
      rw [HB.out]
      refine decide_eq_false (fun h => hnn ?_)
      have h1 := HI.out.1
      have h2 := HI'.out.1
      rw [h] at h1; omega
    clear hnn
    go_enter Tryz.func22, Tryz.ntmps22
    go_wp2
    go_ret
    rw [hB]
    exact ⟨rfl, Below.refl _ _⟩

end Go.Proofs.YtaakmcihpdbilaaGreatDoor

/- Layer 18: what the laws want of the code's store, whatever it is made of. -/
namespace Go.Proofs.YtaakmcihpdbilaaGreatDoor
open Go.RowKit
set_option maxRecDepth 100000
set_option linter.unusedSimpArgs false
set_option maxRecDepth 100000

/-- Of what was there only blocks of T may have turned. -/
structure KeptS (T : Nat → Prop) (w w' : World) : Prop where
  os : w'.os = w.os
  tape : w'.tape = w.tape
  output : w'.output = w.output
  size : w.heap.size ≤ w'.heap.size
  block : ∀ k, k < w.heap.size → ¬ T k → w'.heap[k]? = w.heap[k]?
theorem KeptS.ofBelow {w w' : World} (h : Below w.heap.size w w') : KeptS (fun _ => False) w w' := ⟨h.os, h.tape, h.output, h.size, fun k hk _ => h.block k hk⟩
theorem KeptS.ofDev {w w' : World} {g b : Nat} {D : DevT} (h : DevTo w g b D w') : KeptS (fun k => k = g ∨ k = b) w w' := ⟨h.2.os, h.2.tape, h.2.output, h.2.size, fun k hk hn => h.2.block k hk (fun e => hn (.inl e)) (fun e => hn (.inr (by cases e; rfl)))⟩
theorem KeptS.below {T : Nat → Prop} {w w' : World} (h : KeptS T w w') (B : Nat) (hB : B ≤ w.heap.size) (hT : ∀ k, T k → B ≤ k) : Below B w w' := ⟨h.os, h.tape, h.output, h.size, fun k hk => h.block k (by omega) (fun e => by have := hT k e; omega)⟩

/-- The code's store, in worlds that came out of w0: at gs, on the device at g; S: the blocks that are its own. -/
structure Sto18 (StAt : World → (Nat → Prop) → Nat → Nat → StoT → Prop) (w0 : World) : Prop where
  keep : ∀ w w' S gs g X T, StAt w S gs g X → KeptS T w w' → (∀ k, S k → ¬ T k) → StAt w' S gs g X
  lt : ∀ w S gs g X, StAt w S gs g X → ∀ k, S k → k < w.heap.size
  opens : ∀ w g b D, Below w0.heap.size w0 w → DevAt w g b D → 2 ≤ D.1.length → D.1.length ≤ 2048 → D.2.2.1 = false →
    Calls Tryz.prog 15 #[.pointer (some ⟨g, 0, none⟩)] w fun e w' => ∃ gs S, e = .returned (.tuple #[.pointer (some ⟨gs, 0, none⟩), .int .i64 0]) ∧ StAt w' S gs g (openP D.1) ∧ (∀ k, S k → w.heap.size ≤ k) ∧ Below w.heap.size w w'
  base : ∀ w S gs g X, StAt w S gs g X → Calls Tryz.prog 16 #[.pointer (some ⟨gs, 0, none⟩)] w fun e w' => e = .returned (.string X.1) ∧ Below w.heap.size w w'
  behind : ∀ w S gs g X, StAt w S gs g X → Calls Tryz.prog 23 #[.pointer (some ⟨gs, 0, none⟩)] w fun e w' => ∃ a c, e = .returned (.slice a X.2.1.length c) ∧ StrsAt w' a X.2.1.length X.2.1 ∧ (∀ x, a = some x → X.2.1.length = 0 ∨ w.heap.size ≤ x.block) ∧ Below w.heap.size w w'
  turn : ∀ w S gs g X, StAt w S gs g X → Calls Tryz.prog 13 #[.pointer (some ⟨gs, 0, none⟩)] w fun e w' => e = .returned (.int .i64 X.2.2.1) ∧ Below w.heap.size w w'
  add : ∀ w S gs g b D X t n c0, Below w0.heap.size w0 w → StAt w S gs g X → DevAt w g b D → DvO n c0 D → StM n X → 2 ≤ n → n ≤ 2048 → c0 < 576460752303423488 → ¬ S g → ¬ S b →
    Calls Tryz.prog 21 #[.pointer (some ⟨gs, 0, none⟩), .string t] w fun e w' => e = .returned (.int .i64 (addP D X t).2.2) ∧ DevAt w' g b (addP D X t).1 ∧ KeptS (fun k => S k ∨ k = g ∨ k = b) w w' ∧ ((addP D X t).2.2 ≠ 170 → ∃ S', StAt w' S' gs g (addP D X t).2.1 ∧ ∀ k, S' k → S k ∨ w.heap.size ≤ k)
  lay : ∀ w S gs g b D X t n c0, Below w0.heap.size w0 w → StAt w S gs g X → DevAt w g b D → DvO n c0 D → StM n X → 2 ≤ n → n ≤ 2048 → c0 < 576460752303423488 → ¬ S g → ¬ S b →
    Calls Tryz.prog 12 #[.pointer (some ⟨gs, 0, none⟩), .string t] w fun e w' => e = .returned (.int .i64 (layS D X t).2.2) ∧ DevAt w' g b (layS D X t).1 ∧ KeptS (fun k => S k ∨ k = g ∨ k = b) w w' ∧ ((layS D X t).2.2 ≠ 170 → ∃ S', StAt w' S' gs g (layS D X t).2.1 ∧ ∀ k, S' k → S k ∨ w.heap.size ≤ k)

/-- A store and its device, both of the call's own. -/
structure LwS (StAt : World → (Nat → Prop) → Nat → Nat → StoT → Prop) (w wr : World) (S : Nat → Prop) (gs g b : Nat) (D : DevT) (X : StoT) : Prop where
  d : DevB w wr g b D
  s : StAt wr S gs g X
  ng : ¬ S g
  nb : ¬ S b
  lo : ∀ k, S k → w.heap.size ≤ k
variable {StAt : World → (Nat → Prop) → Nat → Nat → StoT → Prop}
theorem Sto18.move {w wr : World} (C : Sto18 StAt w) (h : Below w.heap.size w wr) : Sto18 StAt wr :=
  ⟨C.keep, C.lt, fun w' g b D hb => C.opens w' g b D (below_step h (Nat.le_refl _) hb), C.base, C.behind, C.turn, fun w' S gs g b D X t n c0 hb => C.add w' S gs g b D X t n c0 (below_step h (Nat.le_refl _) hb), fun w' S gs g b D X t n c0 hb => C.lay w' S gs g b D X t n c0 (below_step h (Nat.le_refl _) hb)⟩
theorem LwS.on {w0 : World} (C : Sto18 StAt w0) {w wr w' : World} {S : Nat → Prop} {gs g b : Nat} {D : DevT} {X : StoT} (h : LwS StAt w wr S gs g b D X) (hb : Below wr.heap.size wr w') : LwS StAt w w' S gs g b D X :=
  ⟨h.d.on hb, C.keep _ _ _ _ _ _ _ h.s (KeptS.ofBelow hb) (fun _ _ e => e), h.ng, h.nb, h.lo⟩
theorem LwS.dev {w0 : World} (C : Sto18 StAt w0) {w wr w' : World} {S : Nat → Prop} {gs g b : Nat} {D D' : DevT} {X : StoT} (h : LwS StAt w wr S gs g b D X) (hd : DevTo wr g b D' w') : LwS StAt w w' S gs g b D' X :=
  ⟨h.d.to hd, C.keep _ _ _ _ _ _ _ h.s (KeptS.ofDev hd) (fun k hk e => by rcases e with rfl | rfl; · exact h.ng hk
                                                                          · exact h.nb hk), h.ng, h.nb, h.lo⟩
/-- Behind a call that keeps all but the store's and the device's blocks. -/
theorem LwS.call {w wr w' : World} {S : Nat → Prop} {gs g b : Nat} {D D' : DevT} {X : StoT} (h : LwS StAt w wr S gs g b D X) (hd : DevAt w' g b D') (hk : KeptS (fun k => S k ∨ k = g ∨ k = b) wr w') : DevB w w' g b D' :=
  ⟨hd, h.d.2.1, h.d.2.2.1, h.d.2.2.2.trans (hk.below _ h.d.2.2.2.size (fun k hk => by
    rcases hk with hk | rfl | rfl
    · exact h.lo k hk
    · exact h.d.2.1
    · exact h.d.2.2.1))⟩
theorem LwS.next {w wr w' : World} {S S' : Nat → Prop} {gs g b : Nat} {D D' : DevT} {X X' : StoT} (h : LwS StAt w wr S gs g b D X) (hd : DevAt w' g b D') (hk : KeptS (fun k => S k ∨ k = g ∨ k = b) wr w') (hs : StAt w' S' gs g X') (hn : ∀ k, S' k → S k ∨ wr.heap.size ≤ k) : LwS StAt w w' S' gs g b D' X' := by
  obtain ⟨l1, l2⟩ := h.d.1.lt
  have hz := h.d.2.2.2.size
  exact ⟨h.call hd hk, hs, fun e => by rcases hn _ e with e | e; · exact h.ng e
                                       · omega, fun e => by rcases hn _ e with e | e; · exact h.nb e
                                                            · omega, fun k e => by rcases hn _ e with e | e; · exact h.lo k e
                                                                                   · omega⟩
/-- Opened anew. -/
theorem LwS.anew {w wr w' : World} {S : Nat → Prop} {gs g b : Nat} {D : DevT} {X : StoT} (h : DevB w wr g b D) (hs : StAt w' S gs g X) (hn : ∀ k, S k → wr.heap.size ≤ k) (hb : Below wr.heap.size wr w') : LwS StAt w w' S gs g b D X := by
  obtain ⟨l1, l2⟩ := h.1.lt
  have hz := h.2.2.2.size
  exact ⟨h.on hb, hs, fun e => by have := hn _ e; omega, fun e => by have := hn _ e; omega, fun k e => by have := hn _ e; omega⟩

theorem newB_noughts (n i : Nat) (h : i < (newB n).1.length) : strL (newB n).1 i = zeroB 64 := by
  unfold newB at h ⊢
  simp only [List.length_replicate] at h
  unfold strL
  rw [List.getD_eq_getElem?_getD, List.getElem?_replicate, if_pos h]; rfl
theorem newB_len (n : Nat) : (newB n).1.length = n := by unfold newB; simp
theorem newB_dv (n : Nat) : DvO n 0 (newB n) := ⟨newB_len n, Int.le_refl _, Int.le_refl _, by show (-1 : Int) ≤ -1; omega, by show (-1 : Int) ≤ _; omega⟩
theorem newB_on (n : Nat) : OnD (newB n) := ⟨rfl, rfl⟩

end Go.Proofs.YtaakmcihpdbilaaGreatDoor

/- Layer 18: awake. -/
namespace Go.Proofs.YtaakmcihpdbilaaGreatDoor
open Go.RowKit
set_option maxRecDepth 100000
set_option linter.unusedSimpArgs false
set_option maxRecDepth 100000
variable {StAt : World → (Nat → Prop) → Nat → Nat → StoT → Prop}

theorem addP_none (D : DevT) (t : ByteArray) : addP D zeroT t = (D, zeroT, 2) := by
  unfold addP
  rw [if_pos (.inl rfl)]
theorem open_new (n : Nat) (h : 2 ≤ n) : openP (newB n).1 = zeroT := open_noughts _ (by rw [newB_len]; exact h) (newB_noughts n)

theorem stM_zero (n : Nat) : StM n zeroT := ⟨Int.le_refl _, by decide, Nat.zero_le _, Nat.le_refl _⟩

/-- What awake does, on plain data. -/
theorem awake18_plain : ∃ D1 X1 D2 Z, layS (newB 8) zeroT ⟨#[97]⟩ = (D1, X1, 0) ∧ addP D1 X1 ⟨#[98]⟩ = (D2, (⟨#[97]⟩, [⟨#[98]⟩], 1, Z), 0) ∧ openP D2.1 = (⟨#[97]⟩, [⟨#[98]⟩], 1, Z) ∧ DvO 8 1024 D1 ∧ StM 8 X1 ∧ D2.2.2.1 = false ∧ D2.1.length = 8 := by
  obtain ⟨l1, l2⟩ := lay_on (newB 8) zeroT ⟨#[97]⟩ (newB_on 8) (by decide) (by decide) (by rw [newB_len]; decide)
  obtain ⟨f1, f2⟩ := lay_first (newB 8) ⟨#[97]⟩ (by rw [newB_len]; decide) (by rw [newB_len]; decide) (newB_noughts 8) l1
  have d1 := (newB_dv 8).lay zeroT ⟨#[97]⟩ (by decide)
  have s1 := stM_lay (newB 8) zeroT ⟨#[97]⟩ (by rw [newB_len]; exact stM_zero 8)
  rw [newB_len] at s1
  obtain ⟨⟨D1, X1, e1⟩, hq⟩ : ∃ z, layS (newB 8) zeroT ⟨#[97]⟩ = z := ⟨_, rfl⟩
  rw [hq] at l1 l2 f1 f2 d1 s1
  simp only at l1 l2 f1 f2 d1 s1
  subst l1
  have hX : X1.2.2.1 = 1 := by rw [f1]
  have hB : X1.2.2.2.size = 3 := by rw [f1]; rfl
  obtain ⟨a1, a2⟩ := add_on D1 X1 ⟨#[98]⟩ l2 (by decide) (by rw [hX]; decide) (by rw [hB, d1.len]; decide)
  obtain ⟨b1, b2⟩ := (before_add D1 X1 ⟨#[98]⟩ 1 f2).1 a1
  have d2 := d1.add X1 ⟨#[98]⟩ (by decide)
  obtain ⟨⟨D2, X2, e2⟩, hq2⟩ : ∃ z, addP D1 X1 ⟨#[98]⟩ = z := ⟨_, rfl⟩
  rw [hq2] at a1 a2 b1 b2 d2
  simp only at a1 a2 b1 b2 d2
  subst a1
  have e3 := b2.open
  rw [b1] at e3
  subst b1
  rw [f1] at e3 hq2
  exact ⟨D1, X1, D2, _, hq, by rw [f1]; exact hq2, e3, d1.mono (by decide), s1, a2.1, d2.len⟩

set_option maxHeartbeats 4000000 in
theorem awake18_any (w : World) (C : Sto18 StAt w) : Calls Tryz.prog 8 #[] w fun e w' => e = .returned (.bool true) ∧ Below w.heap.size w w' := by
  obtain ⟨D1, X1, D2, Z, p1, p2, p3, p4, p5, p6, p7⟩ := awake18_plain
  have CN := dnew_any 8 w ⟨by decide, by decide⟩
  go_enter Tryz.func8, Tryz.ntmps8
  go_wp2_with fail
  refine CN.mono ?_
  rintro e w1 ⟨g, b, rfl, hd, hg, hb, hB⟩
  have A1 : Hid (DevB w w1 g b (newB 8)) := ⟨hd, hg, hb, hB⟩
  clear CN hd hg hb hB
  go_wp2_with fail
  refine (C.opens _ g b _ A1.out.2.2.2 A1.out.1 (by rw [newB_len]; decide) (by rw [newB_len]; decide) rfl).mono ?_
  rintro e w2 ⟨gs, S, rfl, hs, hn, hb⟩
  rw [open_new 8 (by decide)] at hs
  have L2 : Hid (LwS StAt w w2 S gs g b (newB 8) zeroT) := LwS.anew A1.out hs hn hb
  clear A1 hs hn hb
  go_wp2_with fail
  refine (C.add _ S gs g b _ _ ⟨#[120]⟩ 8 0 L2.out.d.2.2.2 L2.out.s L2.out.d.1 (newB_dv 8) (stM_zero 8) (by decide) (by decide) (by decide) L2.out.ng L2.out.nb).mono ?_
  rintro e w3 ⟨rfl, hd, hk, hs⟩
  rw [addP_none] at hd hs ⊢
  obtain ⟨S3, hs3, hn3⟩ := hs (show (2 : Int) ≠ 170 by decide)
  have L3 : Hid (LwS StAt w w3 S3 gs g b (newB 8) zeroT) := L2.out.next hd hk hs3 hn3
  clear L2 hd hk hs hs3 hn3
  go_wp2_with fail
  refine (C.lay _ S3 gs g b _ _ ⟨#[97]⟩ 8 0 L3.out.d.2.2.2 L3.out.s L3.out.d.1 (newB_dv 8) (stM_zero 8) (by decide) (by decide) (by decide) L3.out.ng L3.out.nb).mono ?_
  rintro e w4 ⟨rfl, hd, hk, hs⟩
  rw [p1] at hd hs ⊢
  obtain ⟨S4, hs4, hn4⟩ := hs (show (0 : Int) ≠ 170 by decide)
  have L4 : Hid (LwS StAt w w4 S4 gs g b D1 X1) := L3.out.next hd hk hs4 hn4
  clear L3 hd hk hs hs4 hn4
  go_wp2_with fail
  refine (C.add _ S4 gs g b _ _ ⟨#[98]⟩ 8 1024 L4.out.d.2.2.2 L4.out.s L4.out.d.1 p4 p5 (by decide) (by decide) (by decide) L4.out.ng L4.out.nb).mono ?_
  rintro e w5 ⟨rfl, hd, hk, hs⟩
  rw [p2] at hd ⊢
  have A5 : Hid (DevB w w5 g b D2) := L4.out.call hd hk
  clear L4 hd hk hs
  go_wp2_with fail
  refine (C.opens _ g b _ A5.out.2.2.2 A5.out.1 (by rw [p7]; decide) (by rw [p7]; decide) p6).mono ?_
  rintro e w6 ⟨gt, S6, rfl, hs, hn, hb⟩
  rw [p3] at hs
  have L6 : Hid (LwS StAt w w6 S6 gt g b D2 (⟨#[97]⟩, [⟨#[98]⟩], 1, Z)) := LwS.anew A5.out hs hn hb
  clear A5 hs hn hb
  go_wp2_with fail
  refine (C.base _ _ _ _ _ L6.out.s).mono ?_
  rintro e w7 ⟨rfl, hb⟩
  have L7 : Hid (LwS StAt w w7 S6 gt g b D2 (⟨#[97]⟩, [⟨#[98]⟩], 1, Z)) := L6.out.on C hb
  clear L6 hb
  go_wp2_with fail
  refine (C.behind _ _ _ _ _ L7.out.s).mono ?_
  rintro e w8 ⟨a, c, rfl, hst, _, hb⟩
  have L8 : Hid (LwS StAt w w8 S6 gt g b D2 (⟨#[97]⟩, [⟨#[98]⟩], 1, Z)) := L7.out.on C hb
  have T8 : Hid (StrsAt w8 a 1 [⟨#[98]⟩]) := hst
  clear L7 hb hst
  have T9 : StrsAt (w8.alloc (.cells #[.string ⟨#[98]⟩] 9)) (some ⟨w8.heap.size, 0, none⟩) 1 [⟨#[98]⟩] := ⟨rfl, .inr ⟨w8.heap.size, 0, rfl, fun i hi => by
    obtain rfl : i = 0 := by omega
    exact (Blk.new w8 9 #[.string ⟨#[98]⟩]).cell 0⟩⟩
  have CS := rsame18_any [⟨#[98]⟩] [⟨#[98]⟩] a (some ⟨w8.heap.size, 0, none⟩) 1 1 c 1 (w8.alloc (.cells #[.string ⟨#[98]⟩] 9)) (by decide) (by decide) (T8.out.below (below_new w8 _)) T9
  rw [decide_eq_true rfl] at CS
  have L9 : Hid (LwS StAt w (w8.alloc (.cells #[.string ⟨#[98]⟩] 9)) S6 gt g b D2 (⟨#[97]⟩, [⟨#[98]⟩], 1, Z)) := L8.out.on C (below_new w8 _)
  clear L8 T9 T8
  go_wp2_with fail
  refine CS.mono ?_
  rintro e w9 ⟨rfl, hb9⟩
  have L10 : Hid (LwS StAt w w9 S6 gt g b D2 (⟨#[97]⟩, [⟨#[98]⟩], 1, Z)) := L9.out.on C hb9
  clear L9 CS hb9
  go_wp2_with fail
  refine (C.turn _ _ _ _ _ L10.out.s).mono ?_
  rintro e w10 ⟨rfl, hb10⟩
  have hB := below_step L10.out.d.2.2.2 (Nat.le_refl _) hb10
  clear L10 hb10
  go_wp2
  go_ret
  exact ⟨rfl, hB⟩

end Go.Proofs.YtaakmcihpdbilaaGreatDoor
