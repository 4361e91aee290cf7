/- StoreBefore, walked over the contracts of the code's store. -/
import Derived.Test.YtaakmcihpdbilaaDoorSI
import Derived.Test.YtaakmcihpdbilaaDoorSP
import Derived.Test.YtaakmcihpdbilaaDoorBA
import Derived.Deep.DeepCutAuto
namespace Go.Proofs.YtaakmcihpdbilaaDoor
open Go.RowKit
set_option maxRecDepth 100000
set_option linter.unusedSimpArgs false
set_option maxRecDepth 100000
variable {StAt : World → (Nat → Prop) → Nat → Nat → StoT → Prop}

/-- A row of texts that lies apart from the store's and the device's blocks. -/
def RowK (wr : World) (S : Nat → Prop) (g b : Nat) (v : Value) (l : List ByteArray) : Prop := ∃ a c, v = .slice a l.length c ∧ StrsAt wr a l.length l ∧ ∀ x, a = some x → l.length = 0 ∨ (¬ S x.block ∧ x.block ≠ g ∧ x.block ≠ b)
theorem strs_keptS {w w' : World} {T : Nat → Prop} {a : Option Addr} {n : Nat} {l : List ByteArray} (h : StrsAt w a n l) (hk : KeptS T w w') (hx : ∀ x, a = some x → n = 0 ∨ ¬ T x.block) : StrsAt w' a n l := by
  refine ⟨h.1, ?_⟩
  rcases h.2 with h0 | ⟨b, off, rfl, hc⟩
  · exact .inl h0
  · rcases hx _ rfl with h0 | h0
    · exact .inl h0
    · refine .inr ⟨b, off, rfl, fun i hi => ?_⟩
      have h1 := hc i hi
      have hlt := World.block_lt_of_cell? w _ h1
      rw [← h1]
      unfold World.cell?
      simp only [hk.block b hlt h0]
theorem RowK.kept {w w' : World} {T S : Nat → Prop} {g b : Nat} {v : Value} {l : List ByteArray} (h : RowK w S g b v l) (hk : KeptS T w w') (hT : ∀ k, T k → S k ∨ k = g ∨ k = b) : RowK w' S g b v l := by
  obtain ⟨a, c, rfl, h1, h2⟩ := h
  refine ⟨a, c, rfl, strs_keptS h1 hk (fun x hx => ?_), h2⟩
  rcases h2 x hx with h | ⟨h3, h4, h5⟩
  · exact .inl h
  · exact .inr (fun e => by rcases hT _ e with e | e | e; · exact h3 e
                            · exact h4 e
                            · exact h5 e)
theorem RowK.on {w w' : World} {S : Nat → Prop} {g b : Nat} {v : Value} {l : List ByteArray} (h : RowK w S g b v l) (hb : Below w.heap.size w w') : RowK w' S g b v l := h.kept (KeptS.ofBelow hb) (fun _ e => e.elim)
theorem RowK.anew {w w' : World} {S S' : Nat → Prop} {g b : Nat} {v : Value} {l : List ByteArray} (h : RowK w S g b v l) (hb : Below w.heap.size w w') (hS : ∀ k, S' k → w.heap.size ≤ k) : RowK w' S' g b v l := by
  obtain ⟨a, c, rfl, h1, h2⟩ := h
  refine ⟨a, c, rfl, h1.below hb, fun x hx => ?_⟩
  rcases h2 x hx with h | ⟨_, h4, h5⟩
  · exact .inl h
  · rcases h1.2 with h0 | ⟨b', off, rfl, hc⟩
    · exact .inl h0
    · cases hx
      by_cases hn : l.length = 0
      · exact .inl hn
      · exact .inr ⟨fun e => by have h6 : w.heap.size ≤ b' := hS _ e; have h7 : b' < w.heap.size := World.block_lt_of_cell? w _ (hc 0 (by omega)); omega, h4, h5⟩
theorem RowK.nil (w : World) (S : Nat → Prop) (g b : Nat) : RowK w S g b (.slice none 0 0) [] := ⟨none, 0, rfl, ⟨rfl, .inl rfl⟩, fun _ h => by cases h⟩

theorem RowK.strs {w : World} {S : Nat → Prop} {g b n c : Nat} {a : Option Addr} {l : List ByteArray} (h : RowK w S g b (.slice a n c) l) : n = l.length ∧ StrsAt w a l.length l := by
  obtain ⟨a', c', e, h1, _⟩ := h
  injection e with e1 e2 e3
  subst e1
  exact ⟨e2, h1⟩

theorem before_first : ∃ D1 Z, layS (newB 40) zeroT ⟨#[]⟩ = (D1, (⟨#[]⟩, [], 1, Z), 0) ∧ BeP 1024 0 D1 (⟨#[]⟩, [], 1, Z) := by
  obtain ⟨l1, l2⟩ := lay_on (newB 40) zeroT ⟨#[]⟩ (newB_on 40) (by decide) (by decide) (by rw [newB_len]; decide)
  obtain ⟨f1, f2⟩ := lay_first (newB 40) ⟨#[]⟩ (by rw [newB_len]; decide) (by rw [newB_len]; decide) (newB_noughts 40) l1
  have d1 := (newB_dv 40).lay zeroT ⟨#[]⟩ (by decide)
  have s1 := stM_lay (newB 40) zeroT ⟨#[]⟩ (by rw [newB_len]; exact stM_zero 40)
  rw [newB_len] at s1
  obtain ⟨⟨D1, X1, e1⟩, hq⟩ : ∃ z, layS (newB 40) zeroT ⟨#[]⟩ = z := ⟨_, rfl⟩
  rw [hq] at l1 l2 f1 f2 d1 s1
  simp only at l1 l2 f1 f2 d1 s1
  subst l1
  subst f1
  exact ⟨D1, _, hq, ⟨d1.mono (by decide), s1, ⟨1, f2⟩, by decide⟩⟩

set_option maxHeartbeats 8000000 in
theorem storeBefore_walk (w : World) (C : Sto18 StAt w) (a : Option Addr) (len cap : Nat) (l : List ByteArray) (y : Int) (fa : Option Addr) (flen fcap : Nat) (fl : List Int) (hl : StrsAt w a len l) (hlen : len ≤ maxLen) (hsz : ∀ i, (strL l i).size ≤ maxLen) (hf : IntsAt w .i64 fa flen fl) (hflen : flen ≤ maxLen) :
    Calls Tryd.prog 3 #[.slice a len cap, .int .i64 y, .slice fa flen fcap] w fun e w' => e = .returned (.bool true) ∧ Below w.heap.size w w' := by
  have HL : Hid (StrsAt w a len l) := hl
  have HLen : Hid (len ≤ maxLen) := hlen
  have HSz : Hid (∀ i, (strL l i).size ≤ maxLen) := hsz
  have HFL : Hid (IntsAt w .i64 fa flen fl) := hf
  have HFn : Hid (flen ≤ maxLen) := hflen
  clear hl hlen hsz hf hflen
  obtain ⟨D1, Z, p1, p2⟩ := before_first
  have HP1 : Hid (BeP 1024 0 D1 (⟨#[]⟩, [], 1, Z)) := p2
  have CN := dnew_any 40 w ⟨by decide, by decide⟩
  go_enter Tryd.func3, Tryd.ntmps3
  go_wp2_with fail
  refine CN.mono ?_
  rintro e w1 ⟨g, b, rfl, hd, hg, hb, hB⟩
  have A1 : Hid (DevB w w1 g b (newB 40)) := ⟨hd, hg, hb, hB⟩
  clear CN hd hg hb hB p2
  go_wp2_with fail
  refine (C.opens _ g b _ A1.out.2.2.2 A1.out.1 (by rw [newB_len]; decide) (by rw [newB_len]; decide) rfl).mono ?_
  rintro e w2 ⟨gs, S, rfl, hs, hn, hb⟩
  rw [open_new 40 (by decide)] at hs
  have L2 : Hid (LwS StAt w w2 S gs g b (newB 40) zeroT) := LwS.anew A1.out hs hn hb
  clear A1 hs hn hb
  have CL := C.lay _ S gs g b _ _ ⟨#[]⟩ 40 0 L2.out.d.2.2.2 L2.out.s L2.out.d.1 (newB_dv 40) (stM_zero 40) (by decide) (by decide) (by decide) L2.out.ng L2.out.nb
  rw [p1] at CL
  go_wp2_with fail
  refine CL.mono ?_
  clear CL
  rintro e w3 ⟨rfl, hd, hk, hs⟩
  obtain ⟨S3, hs3, hn3⟩ := hs (show (0 : Int) ≠ 170 by decide)
  have L3 : Hid (LwS StAt w w3 S3 gs g b D1 (⟨#[]⟩, [], 1, Z)) := L2.out.next hd hk hs3 hn3
  clear L2 hd hk hs hs3 hn3 p1
  by_cases h30 : 30 < len
  · have q0 : (30 : Int) < (len : Int) := by omega
    go_wp2_with fail
    refine (awake18_any _ (C.move L3.out.d.2.2.2)).mono ?_
    rintro e w4 ⟨rfl, hb4⟩
    have hB := below_step L3.out.d.2.2.2 (Nat.le_refl _) hb4
    go_wp2
    go_ret
    exact ⟨rfl, hB⟩
  · have q0 : ¬ ((30 : Int) < (len : Int)) := by omega
    go_wp2_with fail
    go_loopw [9, 11, 12, 13, 14] (fun cs cb ct cv c wr => ∃ (k gs : Nat) (S : Nat → Prop) (D : DevT) (X : StoT), k ≤ len ∧ cs = .pointer (some ⟨gs, 0, none⟩) ∧ cb = .string X.1 ∧ ct = .int .i64 X.2.2.1 ∧ c = .int .i64 k ∧ Hid (LwS StAt w wr S gs g b D X) ∧ Hid (BeP (1024 * ((k + 1 : Nat) : Int)) k D X) ∧ Hid (RowK wr S g b cv X.2.1)) (fun _ _ _ _ c _ => len - (intOf c).toNat)
    case atStart => exact ⟨0, gs, S3, D1, _, Nat.zero_le _, rfl, rfl, rfl, rfl, L3, HP1, RowK.nil _ _ _ _⟩
    case round =>
      clear L3 HP1
      obtain ⟨k, gs, S, D, X, hk, rfl, rfl, rfl, rfl, HS, HP, HR⟩ := hrel
      by_cases hlt : k < len
      · have d0 : (k : Int) < (len : Int) := by omega
        obtain ⟨lb, off, rfl, hcl⟩ : ∃ lb off, a = some ⟨lb, off, none⟩ ∧ ∀ i, i < len → w.cell? ⟨lb, off + i, none⟩ = some (.string (strL l i)) := by
          rcases HL.out.2 with h | h
          · omega
          · exact h
        have q1 := hcl k hlt
        obtain ⟨t, ht⟩ : ∃ t, strL l k = t := ⟨_, rfl⟩
        have hts := HSz.out k
        rw [ht] at q1 hts
        have HC : Hid (∀ w', Below w.heap.size w w' → w'.cell? ⟨lb, off + k, none⟩ = some (.string t)) := fun w' hb => by rw [hb.cell (World.block_lt_of_cell? w _ q1)]; exact q1
        have c0 := HC.out _ HS.out.d.2.2.2
        clear hcl q1 ht
        by_cases h200 : 200 < t.size
        · have s0 : (200 : Int) < (t.size : Int) := by omega
          go_wp2_with fail
          refine (awake18_any _ (C.move HS.out.d.2.2.2)).mono ?_
          rintro e w4 ⟨rfl, hb4⟩
          have hB := below_step HS.out.d.2.2.2 (Nat.le_refl _) hb4
          go_wp2
          go_ret
          exact ⟨rfl, hB⟩
        · have s0 : ¬ ((200 : Int) < (t.size : Int)) := by omega
          obtain ⟨ra, rc, rfl, hst0, hst1⟩ := HR.out
          have HR0 : Hid (RowK wr S g b (.slice ra X.2.1.length rc) X.2.1) := ⟨ra, rc, rfl, hst0, hst1⟩
          clear HR hst0 hst1
          go_upto_region 12 with fail
          go_cut [90] (fun v wx => v = .bool false ∧ ∃ D1, Hid (LwS StAt w wx S gs g b D1 X) ∧ Hid (BeP (1024 * ((k + 1 : Nat) : Int)) k D1 X) ∧ Hid (RowK wx S g b (.slice ra X.2.1.length rc) X.2.1))
          case first => as_aux_lemma =>
            by_cases hfk : k < flen
            · have e1 : (k : Int) < (flen : Int) := by omega
              obtain ⟨fb, foff, rfl, hcf⟩ : ∃ fb foff, fa = some ⟨fb, foff, none⟩ ∧ ∀ i, i < flen → w.cell? ⟨fb, foff + i, none⟩ = some (.int .i64 (fl.getD i 0)) := by
                rcases HFL.out.2 with h | h
                · omega
                · exact h
              have z1 := hcf k hfk
              obtain ⟨z, hz⟩ : ∃ z, fl.getD k 0 = z := ⟨_, rfl⟩
              rw [hz] at z1
              have z2 : wr.cell? ⟨fb, foff + k, none⟩ = some (.int .i64 z) := by rw [HS.out.d.2.2.2.cell (World.block_lt_of_cell? w _ z1)]; exact z1
              obtain ⟨q, hq, hq8⟩ : ∃ q : Nat, bits .and .i64 z 7 = (q : Int) ∧ q < 8 := ⟨(z % 8).toNat, by rw [i64_mask z 3 (by decide) 7 (by decide)]; omega, by omega⟩
              clear hcf z1 hz
              go_wp2_with fail
              refine (dfuse_any g b D _ _ HS.out.d.1 (by omega)).mono ?_
              rintro e w4 ⟨rfl, hd⟩
              have L4 : Hid (LwS StAt w w4 S gs g b (fuseB D (q : Int)) X) := HS.out.dev C hd
              have P4 : Hid (BeP (1024 * ((k + 1 : Nat) : Int)) k (fuseB D (q : Int)) X) := HP.out.fuse _ (by omega) (by omega)
              have R4 : Hid (RowK w4 S g b (.slice ra X.2.1.length rc) X.2.1) := HR0.out.kept (KeptS.ofDev hd) (fun _ e => .inr e)
              clear HS HP HR0 hd
              go_wp2_with fail
              go_meet
              case rel => exact ⟨rfl, _, L4, P4, R4⟩
            · have e1 : ¬ ((k : Int) < (flen : Int)) := by omega
              go_wp2_with fail
              go_meet
              case rel => exact ⟨rfl, D, HS, HP, HR0⟩
          case rest => as_aux_lemma =>
            obtain ⟨rfl, D1, HS1, HP1, HR1⟩ := hcut
            clear HS HP HR0 c0
            have c1 := HC.out _ HS1.out.d.2.2.2
            obtain ⟨q5, hq5, hq6⟩ : ∃ q : Nat, bits .and .i64 (k : Int) 31 = (q : Int) ∧ q < 32 := ⟨((k : Int) % 32).toNat, by rw [i64_mask (k : Int) 5 (by decide) 31 (by decide)]; omega, by omega⟩
            obtain ⟨m1, hm1, hm2⟩ : ∃ q : Nat, bits .and .i64 (y / 2 ^ q5) 1 = (q : Int) ∧ q < 2 := ⟨((y / 2 ^ q5) % 2).toNat, by rw [i64_mask (y / 2 ^ q5) 1 (by decide) 1 (by decide)]; omega, by omega⟩
            obtain ⟨LB, hLB⟩ : ∃ LB, ((m1 : Int) == 1) = LB := ⟨_, rfl⟩
            go_upto_if 97 with fail
            go_cut [16] (fun v wx => ∃ (D2 : DevT) (X2 : StoT) (E : Int) (BA : ByteArray) (BL : List ByteArray) (TU : Int), v = .int .i64 E ∧ Hid (DevB w wx g b D2) ∧ Hid (RowK wx S g b (.slice ra X.2.1.length rc) X.2.1) ∧ Hid (BeP (1024 * ((k + 1 : Nat) : Int) + 1024) (k + 1) D2 X2) ∧ Hid (E = 0 → X2.1 = BA ∧ X2.2.1 = BL ∧ X2.2.2.1 = TU) ∧ Hid (¬ E = 0 → X2 = X) ∧ Hid (E = 0 ∨ E = 2 ∨ E = 170) ∧ Hid (BL.length ≤ 65536) ∧ Hid (if LB = true then BA = t ∧ BL = [] ∧ TU = X.2.2.1 + 1 else BA = X.1 ∧ BL = X.2.1 ++ [t] ∧ TU = X.2.2.1))
            case first => as_aux_lemma =>
              cases LB with
              | true =>
                have CL := C.lay _ S gs g b D1 X t 40 _ HS1.out.d.2.2.2 HS1.out.s HS1.out.d.1 HP1.out.d HP1.out.m (by decide) (by decide) (by omega) HS1.out.ng HS1.out.nb
                obtain ⟨b1, b2, b3⟩ := HP1.out.lay t
                have b4 := lay_three D1 X t
                obtain ⟨⟨D2, X2, E⟩, hq⟩ : ∃ z, layS D1 X t = z := ⟨_, rfl⟩
                rw [hq] at CL b1 b2 b3 b4
                simp only at CL b1 b2 b3 b4
                have HB1 : Hid (BeP (1024 * ((k + 1 : Nat) : Int) + 1024) (k + 1) D2 X2) := b1
                have F0 : Hid (E = 0 → _) := b2
                have F1 : Hid (¬ E = 0 → X2 = X) := b3
                have F3 : Hid (E = 0 ∨ E = 2 ∨ E = 170) := b4
                clear b1 b2 b3 b4 hq
                go_wp2_with fail
                refine CL.mono ?_
                clear CL
                rintro e w3 ⟨rfl, hd, hk3, _⟩
                have A3 : Hid (DevB w w3 g b D2) := HS1.out.call hd hk3
                have R3 : Hid (RowK w3 S g b (.slice ra X.2.1.length rc) X.2.1) := HR1.out.kept hk3 (fun _ e => e)
                go_wp2_with fail
                go_meet
                case rel => exact ⟨D2, X2, E, t, [], X.2.2.1 + 1, rfl, A3, R3, HB1, F0, F1, F3, Nat.zero_le _, by first | exact ⟨rfl, rfl, rfl⟩ | (rw [if_pos rfl]; exact ⟨rfl, rfl, rfl⟩) | (rw [if_pos trivial]; exact ⟨rfl, rfl, rfl⟩) | simp⟩
              | false =>
                have CL := C.add _ S gs g b D1 X t 40 _ HS1.out.d.2.2.2 HS1.out.s HS1.out.d.1 HP1.out.d HP1.out.m (by decide) (by decide) (by omega) HS1.out.ng HS1.out.nb
                obtain ⟨b1, b2, b3⟩ := HP1.out.add t
                have b4 := add_three D1 X t
                obtain ⟨⟨D2, X2, E⟩, hq⟩ : ∃ z, addP D1 X t = z := ⟨_, rfl⟩
                rw [hq] at CL b1 b2 b3 b4
                simp only at CL b1 b2 b3 b4
                have HB1 : Hid (BeP (1024 * ((k + 1 : Nat) : Int) + 1024) (k + 1) D2 X2) := b1
                have F0 : Hid (E = 0 → _) := b2
                have F1 : Hid (¬ E = 0 → X2 = X) := b3
                have F3 : Hid (E = 0 ∨ E = 2 ∨ E = 170) := b4
                clear b1 b2 b3 b4 hq
                go_wp2_with fail
                refine CL.mono ?_
                clear CL
                rintro e w3 ⟨rfl, hd, hk3, _⟩
                have A3 : Hid (DevB w w3 g b D2) := HS1.out.call hd hk3
                have R3 : Hid (RowK w3 S g b (.slice ra X.2.1.length rc) X.2.1) := HR1.out.kept hk3 (fun _ e => e)
                go_wp2_with fail
                go_meet
                case rel => exact ⟨D2, X2, E, X.1, X.2.1 ++ [t], X.2.2.1, rfl, A3, R3, HB1, F0, F1, F3, by show (X.2.1 ++ [t]).length ≤ _; rw [List.length_append, List.length_singleton]; have := HP1.out.m.b; have := HP1.out.m.l; omega, by first | exact ⟨rfl, rfl, rfl⟩ | (rw [if_neg (by decide)]; exact ⟨rfl, rfl, rfl⟩) | simp⟩
            case rest => as_aux_lemma =>
              obtain ⟨D2, X2, E, BA, BL, TU, rfl, A3, R3, HB1, F0, F1, F3, HBL, HIF⟩ := hcut
              clear HS1 HR1 c1
              have HB2 : Hid (BeP (1024 * ((k + 1 + 1 : Nat) : Int)) (k + 1) (onB D2) X2) := by
                have e : 1024 * ((k + 1 + 1 : Nat) : Int) = 1024 * ((k + 1 : Nat) : Int) + 1024 := by omega
                rw [e]; exact HB1.out.on
              go_wp2_with fail
              refine (don_any g b D2 _ A3.out.1).mono ?_
              rintro e w4 ⟨rfl, hd⟩
              have A4 : Hid (DevB w w4 g b (onB D2)) := A3.out.to hd
              have R4 : Hid (RowK w4 S g b (.slice ra X.2.1.length rc) X.2.1) := R3.out.kept (KeptS.ofDev hd) (fun _ e => .inr e)
              clear A3 R3 hd
              go_wp2_with fail
              refine (C.opens _ g b _ A4.out.2.2.2 A4.out.1 (by rw [HB2.out.d.len]; decide) (by rw [HB2.out.d.len]; decide) rfl).mono ?_
              rintro e w5 ⟨gt, S5, rfl, hs, hn, hb⟩
              rw [HB2.out.open] at hs
              have LX : Hid (LwS StAt w w5 S5 gt g b (onB D2) X2) := LwS.anew A4.out hs hn hb
              have RX : Hid (RowK w5 S5 g b (.slice ra X.2.1.length rc) X.2.1) := R4.out.anew hb hn
              clear A4 R4 hs hn hb
              go_upto_region 25 with fail
              go_cut [19] (fun v wx => ∃ W : Bool, v = .bool W ∧ (¬ E = 0 → W = true) ∧ Hid (LwS StAt w wx S5 gt g b (onB D2) X2) ∧ Hid (RowK wx S5 g b (.slice ra X.2.1.length rc) X.2.1))
              case first => as_aux_lemma =>
                go_wp2_with fail
                refine (C.base _ _ _ _ _ LX.out.s).mono ?_
                rintro e v1 ⟨rfl, hb1⟩
                have LX1 : Hid (LwS StAt w v1 S5 gt g b (onB D2) X2) := LX.out.on C hb1
                have RX1 : Hid (RowK v1 S5 g b (.slice ra (X.2.1).length rc) (X.2.1)) := RX.out.on hb1
                clear LX RX hb1
                by_cases h1 : X2.1 = X.1
                · have q1 : (X2.1.toList == (X.1).toList) = true := by rw [h1]; exact beq_self_eq_true _
                  have H1 : Hid (X2.1 = X.1) := h1
                  clear h1
                  go_wp2_with fail
                  refine (C.behind _ _ _ _ _ LX1.out.s).mono ?_
                  rintro e v2 ⟨a2, c2, rfl, hst, _, hb2⟩
                  have LX2 : Hid (LwS StAt w v2 S5 gt g b (onB D2) X2) := LX1.out.on C hb2
                  have RX2 : Hid (RowK v2 S5 g b (.slice ra (X.2.1).length rc) (X.2.1)) := RX1.out.on hb2
                  have CS := rsame18_any X2.2.1 (X.2.1) a2 ra X2.2.1.length (X.2.1).length c2 rc v2 (by have := HB1.out.m.b; have := HB1.out.m.l; omega) (by have := HP1.out.m.b; have := HP1.out.m.l; omega) hst RX2.out.strs.2
                  clear LX1 RX1 hb2 hst
                  go_wp2_with fail
                  refine CS.mono ?_
                  clear CS
                  rintro e v3 ⟨rfl, hb3⟩
                  have LX3 : Hid (LwS StAt w v3 S5 gt g b (onB D2) X2) := LX2.out.on C hb3
                  have RX3 : Hid (RowK v3 S5 g b (.slice ra (X.2.1).length rc) (X.2.1)) := RX2.out.on hb3
                  clear LX2 RX2 hb3
                  by_cases h2 : X2.2.1 = X.2.1
                  · rw [decide_eq_true h2]
                    have H2 : Hid (X2.2.1 = X.2.1) := h2
                    clear h2
                    go_wp2_with fail
                    refine (C.turn _ _ _ _ _ LX3.out.s).mono ?_
                    rintro e v4 ⟨rfl, hb4⟩
                    have LX4 : Hid (LwS StAt w v4 S5 gt g b (onB D2) X2) := LX3.out.on C hb4
                    have RX4 : Hid (RowK v4 S5 g b (.slice ra (X.2.1).length rc) (X.2.1)) := RX3.out.on hb4
                    clear LX3 RX3 hb4
                    by_cases h3 : X2.2.2.1 = X.2.2.1
                    · have q3 : (X2.2.2.1 == X.2.2.1) = true := by rw [h3]; exact beq_self_eq_true _
                      have H3 : Hid (X2.2.2.1 = X.2.2.1) := h3
                      clear h3
                      go_wp2_with fail
                      go_meet
                      case rel => exact ⟨true, rfl, fun _ => rfl, LX4, RX4⟩
                    · have q3 : (X2.2.2.1 == X.2.2.1) = false := by rw [beq_eq_false_iff_ne]; exact h3
                      have H3 : Hid (¬ X2.2.2.1 = X.2.2.1) := h3
                      clear h3
                      go_wp2_with fail
                      go_meet
                      case rel => exact ⟨false, rfl, fun h => absurd (by rw [F1.out h]) H3.out, LX4, RX4⟩
                  · rw [decide_eq_false h2]
                    have H2 : Hid (¬ X2.2.1 = X.2.1) := h2
                    clear h2
                    go_wp2_with fail
                    go_meet
                    case rel => exact ⟨false, rfl, fun h => absurd (by rw [F1.out h]) H2.out, LX3, RX3⟩
                · have q1 : (X2.1.toList == (X.1).toList) = false := by rw [beq_texts]; exact decide_eq_false h1
                  have H1 : Hid (¬ X2.1 = X.1) := h1
                  clear h1
                  go_wp2_with fail
                  go_meet
                  case rel => exact ⟨false, rfl, fun h => absurd (by rw [F1.out h]) H1.out, LX1, RX1⟩
              case rest => as_aux_lemma =>
                obtain ⟨W, rfl, hW, L6, R6⟩ := hcut
                clear LX RX
                have c2 := HC.out _ L6.out.d.2.2.2
                go_upto_if 141 with fail
                go_cut [11, 12, 13] (fun v11 v12 v13 wx => v11 = .string BA ∧ v12 = .int .i64 TU ∧ Hid (LwS StAt w wx S5 gt g b (onB D2) X2) ∧ Hid (RowK wx S5 g b v13 BL))
                case first => as_aux_lemma =>
                  cases LB with
                  | true =>
                    obtain ⟨rfl, rfl, rfl⟩ : BA = t ∧ BL = [] ∧ TU = X.2.2.1 + 1 := by have h := HIF.out; simpa using h
                    have wt : IntKind.i64.wrap (X.2.2.1 + 1) = X.2.2.1 + 1 := by have h1 := HP1.out.m.t0; have h2 := HP1.out.t; rw [IntKind.wrap_i64]; omega
                    go_wp2_with fail
                    go_meet
                    case rel => exact ⟨rfl, rfl, L6, RowK.nil _ _ _ _⟩
                  | false =>
                    obtain ⟨rfl, rfl, rfl⟩ : BA = X.1 ∧ BL = X.2.1 ++ [t] ∧ TU = X.2.2.1 := by have h := HIF.out; simpa using h
                    obtain ⟨v7, w7, happ, ho7, hb7⟩ := app18 wc ra X.2.1.length rc X.2.1 R6.out.strs.2 (by have := HP1.out.m.b; have := HP1.out.m.l; omega)
                    obtain ⟨g8, c8, w8, happ8, ho8, hb8, hg8⟩ := app18b w7 wc.heap.size hb7.size v7 X.2.1.length X.2.1 t ho7 (by have := HP1.out.m.b; have := HP1.out.m.l; omega)
                    have c3 := HC.out w7 (below_step L6.out.d.2.2.2 (Nat.le_refl _) hb7)
                    have hB8 : Below wc.heap.size wc w8 := (hb7.alloc hb7.size _).trans hb8
                    have LX : Hid (LwS StAt w w8 S5 gt g b (onB D2) X2) := L6.out.on C hB8
                    have RX : Hid (RowK w8 S5 g b (.slice (some ⟨g8, 0, none⟩) (X.2.1.length + 1) c8) (X.2.1 ++ [t])) := by
                      have e : X.2.1.length + 1 = (X.2.1 ++ [t]).length := by rw [List.length_append]; rfl
                      rw [e]
                      refine ⟨some ⟨g8, 0, none⟩, c8, rfl, ?_, fun x hx => ?_⟩
                      · rw [← e]
                        exact ⟨by rw [List.length_append]; rfl, .inr ⟨g8, 0, rfl, own_cells ho8⟩⟩
                      · cases hx
                        have h1 := L6.out.d.1.lt
                        exact .inr ⟨fun e => by have h2 : g8 < wc.heap.size := C.lt _ _ _ _ _ L6.out.s _ e; omega, by show g8 ≠ g; omega, by show g8 ≠ b; omega⟩
                    clear L6 R6 ho7 hb7 ho8 hb8 hB8
                    go_wp2_with (first | (at_builtin; refine wpList_runApp rfl (.tmp 148) (.tmp 149) 22 rfl _ _ rfl rfl happ ?_; dsimp only [Act.put]) | (at_builtin; refine wpList_runApp rfl (.tmp 151) (.tmp 156) 22 rfl _ _ rfl rfl happ8 ?_; dsimp only [Act.put]))
                    go_meet
                    case rel => exact ⟨rfl, rfl, LX, RX⟩
                case rest => as_aux_lemma =>
                  obtain ⟨rfl, rfl, LX, RX0⟩ := hcut
                  obtain ⟨va, vc, rfl, hst0, hst1⟩ := RX0.out
                  have RX : Hid (RowK _ S5 g b (.slice va BL.length vc) BL) := ⟨va, vc, rfl, hst0, hst1⟩
                  clear L6 R6 c2 RX0 hst0 hst1 HIF
                  go_upto_region 31 with fail
                  go_cut [21] (fun v wx => ∃ N : Bool, v = .bool N ∧ (E = 0 → N = true) ∧ (N = true → X2.1 = BA ∧ X2.2.1 = BL ∧ X2.2.2.1 = TU) ∧ Hid (LwS StAt w wx S5 gt g b (onB D2) X2) ∧ Hid (RowK wx S5 g b (.slice va BL.length vc) BL))
                  case first => as_aux_lemma =>
                    go_wp2_with fail
                    refine (C.base _ _ _ _ _ LX.out.s).mono ?_
                    rintro e v1 ⟨rfl, hb1⟩
                    have LX1 : Hid (LwS StAt w v1 S5 gt g b (onB D2) X2) := LX.out.on C hb1
                    have RX1 : Hid (RowK v1 S5 g b (.slice va (BL).length vc) (BL)) := RX.out.on hb1
                    clear LX RX hb1
                    by_cases h1 : X2.1 = BA
                    · have q1 : (X2.1.toList == (BA).toList) = true := by rw [h1]; exact beq_self_eq_true _
                      have H1 : Hid (X2.1 = BA) := h1
                      clear h1
                      go_wp2_with fail
                      refine (C.behind _ _ _ _ _ LX1.out.s).mono ?_
                      rintro e v2 ⟨a2, c2, rfl, hst, _, hb2⟩
                      have LX2 : Hid (LwS StAt w v2 S5 gt g b (onB D2) X2) := LX1.out.on C hb2
                      have RX2 : Hid (RowK v2 S5 g b (.slice va (BL).length vc) (BL)) := RX1.out.on hb2
                      have CS := rsame18_any X2.2.1 (BL) a2 va X2.2.1.length (BL).length c2 vc v2 (by have := HB1.out.m.b; have := HB1.out.m.l; omega) (by have := HBL.out; omega) hst RX2.out.strs.2
                      clear LX1 RX1 hb2 hst
                      go_wp2_with fail
                      refine CS.mono ?_
                      clear CS
                      rintro e v3 ⟨rfl, hb3⟩
                      have LX3 : Hid (LwS StAt w v3 S5 gt g b (onB D2) X2) := LX2.out.on C hb3
                      have RX3 : Hid (RowK v3 S5 g b (.slice va (BL).length vc) (BL)) := RX2.out.on hb3
                      clear LX2 RX2 hb3
                      by_cases h2 : X2.2.1 = BL
                      · rw [decide_eq_true h2]
                        have H2 : Hid (X2.2.1 = BL) := h2
                        clear h2
                        go_wp2_with fail
                        refine (C.turn _ _ _ _ _ LX3.out.s).mono ?_
                        rintro e v4 ⟨rfl, hb4⟩
                        have LX4 : Hid (LwS StAt w v4 S5 gt g b (onB D2) X2) := LX3.out.on C hb4
                        have RX4 : Hid (RowK v4 S5 g b (.slice va (BL).length vc) (BL)) := RX3.out.on hb4
                        clear LX3 RX3 hb4
                        by_cases h3 : X2.2.2.1 = TU
                        · have q3 : (X2.2.2.1 == TU) = true := by rw [h3]; exact beq_self_eq_true _
                          have H3 : Hid (X2.2.2.1 = TU) := h3
                          clear h3
                          go_wp2_with fail
                          go_meet
                          case rel => exact ⟨true, rfl, fun _ => rfl, fun _ => ⟨H1.out, H2.out, H3.out⟩, LX4, RX4⟩
                        · have q3 : (X2.2.2.1 == TU) = false := by rw [beq_eq_false_iff_ne]; exact h3
                          have H3 : Hid (¬ X2.2.2.1 = TU) := h3
                          clear h3
                          go_wp2_with fail
                          go_meet
                          case rel => exact ⟨false, rfl, fun h => absurd (by first | exact (F0.out h).1 | exact (F0.out h).2.1 | exact (F0.out h).2.2) H3.out, fun h => (by cases h), LX4, RX4⟩
                      · rw [decide_eq_false h2]
                        have H2 : Hid (¬ X2.2.1 = BL) := h2
                        clear h2
                        go_wp2_with fail
                        go_meet
                        case rel => exact ⟨false, rfl, fun h => absurd (by first | exact (F0.out h).1 | exact (F0.out h).2.1 | exact (F0.out h).2.2) H2.out, fun h => (by cases h), LX3, RX3⟩
                    · have q1 : (X2.1.toList == (BA).toList) = false := by rw [beq_texts]; exact decide_eq_false h1
                      have H1 : Hid (¬ X2.1 = BA) := h1
                      clear h1
                      go_wp2_with fail
                      go_meet
                      case rel => exact ⟨false, rfl, fun h => absurd (by first | exact (F0.out h).1 | exact (F0.out h).2.1 | exact (F0.out h).2.2) H1.out, fun h => (by cases h), LX1, RX1⟩
                  case rest => as_aux_lemma =>
                    obtain ⟨N, rfl, hN1, hN2, L7, R7⟩ := hcut
                    have HN2 : Hid (N = true → X2.1 = BA ∧ X2.2.1 = BL ∧ X2.2.2.1 = TU) := hN2
                    clear hN2 LX RX
                    rcases F3.out with h0 | h0 | h0
                    · subst h0
                      obtain rfl : N = true := hN1 rfl
                      go_wp2_with fail
                      obtain ⟨h1, h2, h3⟩ := HN2.out rfl
                      refine ⟨⟨k + 1, gt, S5, onB D2, X2, by omega, rfl, by rw [h1], by rw [h3], by go_num, L7, HB2, by rw [h2]; exact R7⟩, ?_⟩
                      simp [intOf]; omega
                    · subst h0
                      obtain rfl : W = true := hW (by decide)
                      cases N with
                      | true =>
                        go_wp2_with fail
                        obtain ⟨h1, h2, h3⟩ := HN2.out rfl
                        refine ⟨⟨k + 1, gt, S5, onB D2, X2, by omega, rfl, by rw [h1], by rw [h3], by go_num, L7, HB2, by rw [h2]; exact R7⟩, ?_⟩
                        simp [intOf]; omega
                      | false =>
                        go_wp2_with fail
                        refine (C.base _ _ _ _ _ L7.out.s).mono ?_
                        rintro e v1 ⟨rfl, hb1⟩
                        have L8 : Hid (LwS StAt w v1 S5 gt g b (onB D2) X2) := L7.out.on C hb1
                        clear L7 R7 hb1
                        go_wp2_with fail
                        refine (C.turn _ _ _ _ _ L8.out.s).mono ?_
                        rintro e v2 ⟨rfl, hb2⟩
                        have L9 : Hid (LwS StAt w v2 S5 gt g b (onB D2) X2) := L8.out.on C hb2
                        clear L8 hb2
                        go_wp2_with fail
                        refine (C.behind _ _ _ _ _ L9.out.s).mono ?_
                        rintro e v3 ⟨a2, c2, rfl, hst, hx, hb3⟩
                        have RK : Hid (RowK v3 S5 g b (.slice a2 X2.2.1.length c2) X2.2.1) := ⟨a2, c2, rfl, hst, fun x hx2 => by
                          rcases hx x hx2 with h | h
                          · exact .inl h
                          · have h1 := L9.out.d.1.lt
                            exact .inr ⟨fun e => by have := C.lt _ _ _ _ _ L9.out.s _ e; omega, by omega, by omega⟩⟩
                        have L10 : Hid (LwS StAt w v3 S5 gt g b (onB D2) X2) := L9.out.on C hb3
                        clear L9 hb3 hst hx
                        go_wp2_with fail
                        refine ⟨⟨k + 1, gt, S5, onB D2, X2, by omega, rfl, rfl, rfl, by go_num, L10, HB2, RK⟩, ?_⟩
                        simp [intOf]; omega
                    · subst h0
                      obtain rfl : W = true := hW (by decide)
                      cases N with
                      | true =>
                        go_wp2_with fail
                        obtain ⟨h1, h2, h3⟩ := HN2.out rfl
                        refine ⟨⟨k + 1, gt, S5, onB D2, X2, by omega, rfl, by rw [h1], by rw [h3], by go_num, L7, HB2, by rw [h2]; exact R7⟩, ?_⟩
                        simp [intOf]; omega
                      | false =>
                        go_wp2_with fail
                        refine (C.base _ _ _ _ _ L7.out.s).mono ?_
                        rintro e v1 ⟨rfl, hb1⟩
                        have L8 : Hid (LwS StAt w v1 S5 gt g b (onB D2) X2) := L7.out.on C hb1
                        clear L7 R7 hb1
                        go_wp2_with fail
                        refine (C.turn _ _ _ _ _ L8.out.s).mono ?_
                        rintro e v2 ⟨rfl, hb2⟩
                        have L9 : Hid (LwS StAt w v2 S5 gt g b (onB D2) X2) := L8.out.on C hb2
                        clear L8 hb2
                        go_wp2_with fail
                        refine (C.behind _ _ _ _ _ L9.out.s).mono ?_
                        rintro e v3 ⟨a2, c2, rfl, hst, hx, hb3⟩
                        have RK : Hid (RowK v3 S5 g b (.slice a2 X2.2.1.length c2) X2.2.1) := ⟨a2, c2, rfl, hst, fun x hx2 => by
                          rcases hx x hx2 with h | h
                          · exact .inl h
                          · have h1 := L9.out.d.1.lt
                            exact .inr ⟨fun e => by have := C.lt _ _ _ _ _ L9.out.s _ e; omega, by omega, by omega⟩⟩
                        have L10 : Hid (LwS StAt w v3 S5 gt g b (onB D2) X2) := L9.out.on C hb3
                        clear L9 hb3 hst hx
                        go_wp2_with fail
                        refine ⟨⟨k + 1, gt, S5, onB D2, X2, by omega, rfl, rfl, rfl, by go_num, L10, HB2, RK⟩, ?_⟩
                        simp [intOf]; omega
      · have d0 : ¬ ((k : Int) < (len : Int)) := by omega
        go_wp2_with fail
        refine (awake18_any _ (C.move HS.out.d.2.2.2)).mono ?_
        rintro e w4 ⟨rfl, hb4⟩
        have hB := below_step HS.out.d.2.2.2 (Nat.le_refl _) hb4
        go_wp2
        go_ret
        exact ⟨rfl, hB⟩

end Go.Proofs.YtaakmcihpdbilaaDoor
