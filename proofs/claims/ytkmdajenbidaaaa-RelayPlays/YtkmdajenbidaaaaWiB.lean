/- Layer 19, the code: Put of frames: its closure, writeList, Put. -/
import Derived.Test.YtkmdajenbidaaaaWiA
import Derived.Test.YtkmdajenbidaaaaWiS
namespace Go.Proofs.Ytkmdajenbidaaaa
open Go.RowKit
set_option maxRecDepth 100000
set_option linter.unusedSimpArgs false
set_option linter.unusedVariables false

theorem writeA_itPs (st : ByteArray × Bool) (x : Int × Int × ByteArray) : writeA st (itPs x) = textP (numP (numP st x.1 6 1099511627775) x.2.1 6 1099511627775) x.2.2 := by
  simp [writeA, itPs, writeP, kd, pn, pm, ps]

set_option maxHeartbeats 2000000 in
theorem put19i_any (x : Int × Int × ByteArray) (w0 : World) (g hc : Nat) (v : Value) (st : ByteArray × Bool) (w : World) (h : PutS w0 g hc v st w) :
    Calls Try.prog 52 #[.agg #[.int .i64 x.1, .int .i64 x.2.1, .string x.2.2], .pointer (some ⟨hc, 0, none⟩)] w fun e w' => e = .returned (.tuple #[]) ∧ ∃ v', PutS w0 g hc v' (writeA st (itPs x)) w' := by
  rw [writeA_itPs]
  obtain ⟨k0, k1, s2⟩ := x
  simp only
  have HP : Hid (PutS w0 g hc v st w) := h
  have HS : Hid (WrS _ g v 31 w.heap.size #[.int .i64 k0, .int .i64 k1, .string s2] st _ v) := WrS.new h.out
  have HB' : Hid (Below w.heap.size w (w.alloc (.cells #[.int .i64 k0, .int .i64 k1, .string s2] 31))) := below_new _ _
  have HC : Hid (Blk (w.alloc (.cells #[.int .i64 k0, .int .i64 k1, .string s2] 31)) 86 hc #[.pointer (some ⟨g, 0, none⟩)]) := h.cap.on (below_new _ _)
  have a0 : (w.alloc (.cells #[.int .i64 k0, .int .i64 k1, .string s2] 31)).cell? ⟨hc, 0, none⟩ = some (.pointer (some ⟨g, 0, none⟩)) := HC.out.cell 0
  clear h
  go_enter Try.func52, Try.ntmps52
  go_wp2_with fail
  clear a0
  obtain ⟨w1, hw1⟩ : ∃ w1, w.alloc (.cells #[.int .i64 k0, .int .i64 k1, .string s2] 31) = w1 := ⟨_, rfl⟩
  obtain ⟨gb, hgb⟩ : ∃ gb, w.heap.size = gb := ⟨_, rfl⟩
  rw [hw1] at HS HB' HC
  rw [hgb] at HS
  try rw [hw1]
  try rw [hgb]
  clear hw1 hgb
  refine (onum_any g _ _ k0 _ HS.out.out).mono ?_
  rintro e w2 ⟨rfl, h0⟩
  obtain ⟨v0, h0⟩ := HS.out.step h0
  have H0 : Hid (WrS _ _ _ _ _ _ _ w2 v0) := h0
  have a1 : w2.cell? ⟨hc, 0, none⟩ = some (.pointer (some ⟨g, 0, none⟩)) := (HC.out.kept h0.kept HP.out.ne HP.out.nv).cell 0
  have c1 : w2.cell? ⟨gb, 1, none⟩ = some (.int .i64 k1) := h0.blk.cell 1
  clear HS h0 
  go_wp2_with fail
  refine (onum_any g _ _ k1 _ H0.out.out).mono ?_
  rintro e w3 ⟨rfl, h1⟩
  obtain ⟨v1, h1⟩ := H0.out.step h1
  have H1 : Hid (WrS _ _ _ _ _ _ _ w3 v1) := h1
  have a2 : w3.cell? ⟨hc, 0, none⟩ = some (.pointer (some ⟨g, 0, none⟩)) := (HC.out.kept h1.kept HP.out.ne HP.out.nv).cell 0
  have c2 : w3.cell? ⟨gb, 2, none⟩ = some (.string s2) := h1.blk.cell 2
  clear H0 h1 a1 c1
  go_wp2_with fail
  refine (otext_any g _ _ s2 _ H1.out.out).mono ?_
  rintro e w4 ⟨rfl, h2⟩
  obtain ⟨v2, h2⟩ := H1.out.step h2
  clear H1 a2 c2
  go_wp2
  go_end0
  exact ⟨rfl, HP.out.step (OutTo.behind HB'.out h2.to)⟩

theorem wlistI_take (l : List (Int × Int × ByteArray)) (k : Nat) (h : k < l.length) : (l.take (k + 1)).flatMap itPs = (l.take k).flatMap itPs ++ itPs (itL l k) := by
  have e : itL l k = l[k] := by unfold itL; rw [List.getD_eq_getElem?_getD, List.getElem?_eq_getElem h]; rfl
  rw [List.take_succ_eq_append_getElem h, List.flatMap_append, e]
  simp

set_option maxHeartbeats 4000000 in
theorem wlistI_any (l : List (Int × Int × ByteArray)) (a : Option Addr) (n c : Nat) (w0 : World) (g hc : Nat) (v : Value) (st : ByteArray × Bool) (w : World) (hn : n ≤ 1048576) (hI : ItsAt w0 a n l) (h : PutS w0 g hc v st w) :
    Calls Try.prog 51 #[.pointer (some ⟨g, 0, none⟩), .slice a n c, .func (.func 52) #[] #[.pointer (some ⟨hc, 0, none⟩)]] w fun e w' => e = .returned (.tuple #[]) ∧ ∃ v', PutS w0 g hc v' (writeA (numP st (n : Int) 1 255) (l.flatMap itPs)) w' := by
  have HI : Hid (ItsAt w0 a n l) := hI
  have HN : Hid (l.length = n) := hI.1
  have HP : Hid (PutS w0 g hc v st w) := h
  have CN' := obyte_any g v st (n : Int) w h.out
  obtain ⟨st1, hst1⟩ : ∃ st1, numP st (n : Int) 1 255 = st1 := ⟨_, rfl⟩
  rw [hst1] at CN' ⊢
  have CN : Hid (Calls _ _ _ _ _) := CN'
  clear hI h hst1 CN'
  go_enter Try.func51, Try.ntmps51
  go_wp2_with fail
  refine CN.out.mono ?_
  rintro e w1 ⟨rfl, h1⟩
  have HX : Hid (∃ v', PutS w0 g hc v' (writeA st1 ((l.take 0).flatMap itPs)) w1) := HP.out.step h1
  clear h1 CN HP
  go_wp2_with fail
  go_loopw [14] (fun i wr => ∃ k : Nat, k ≤ n ∧ i = .int .i64 k ∧ Hid (∃ v', PutS w0 g hc v' (writeA st1 ((l.take k).flatMap itPs)) wr)) (fun i _ => n - (intOf i).toNat)
  case atStart => exact ⟨0, Nat.zero_le _, rfl, HX⟩
  case round =>
    clear HX
    obtain ⟨k, hk, rfl, HX⟩ := hrel
    by_cases hlt : k < n
    · have b0 : (k : Int) < (n : Int) := by omega
      obtain ⟨v1, hv1⟩ := HX.out
      obtain ⟨b, off, rfl, hcl⟩ := (HI.out.below hv1.bel).2.resolve_left (by omega)
      obtain ⟨x0, x1, x2⟩ := hcl k hlt
      have hnx := wlistI_take l k (by rw [HN.out]; exact hlt)
      have CP' : ∀ W v, PutS w0 g hc v (writeA st1 ((l.take k).flatMap itPs)) W → _ := fun W v hW => put19i_any (itL l k) w0 g hc v _ W hW
      simp only [← writeA_app19, ← hnx] at CP'
      obtain ⟨⟨k0, k1, s2⟩, hkk⟩ : ∃ s, s = itL l k := ⟨_, rfl⟩
      simp only [← hkk] at CP'
      rw [← hkk] at x0 x1 x2
      simp only at x0 x1 x2
      have CP : Hid (∀ W v, PutS w0 g hc v (writeA st1 ((l.take k).flatMap itPs)) W → _) := CP'
      have HV : Hid (PutS w0 g hc v1 (writeA st1 ((l.take k).flatMap itPs)) wr) := hv1
      have X1 : Blk (wr.alloc (.cells #[.int .i64 0, .int .i64 0, .string ⟨#[]⟩] 31)) 31 wr.heap.size #[.int .i64 0, .int .i64 0, .string ⟨#[]⟩] := Blk.new _ _ _
      have HW : Hid (PutS w0 g hc v1 (writeA st1 ((l.take k).flatMap itPs)) ((wr.alloc (.cells #[.int .i64 0, .int .i64 0, .string ⟨#[]⟩] 31)).setRow wr.heap.size #[.int .i64 k0, .int .i64 k1, .string s2])) := hv1.on (below_setRow (below_new _ _) (Nat.le_refl _) _)
      have HY : Hid (Blk ((wr.alloc (.cells #[.int .i64 0, .int .i64 0, .string ⟨#[]⟩] 31)).setRow wr.heap.size #[.int .i64 k0, .int .i64 k1, .string s2]) 31 wr.heap.size #[.int .i64 k0, .int .i64 k1, .string s2]) := X1.setRow _
      obtain ⟨W2, hW2⟩ : ∃ W2, (wr.alloc (.cells #[.int .i64 0, .int .i64 0, .string ⟨#[]⟩] 31)).setRow wr.heap.size #[.int .i64 k0, .int .i64 k1, .string s2] = W2 := ⟨_, rfl⟩
      rw [hW2] at HW HY
      have y0 : W2.cell? ⟨wr.heap.size, 0, none⟩ = some (.int .i64 k0) := HY.out.cell 0
      have y1 : W2.cell? ⟨wr.heap.size, 1, none⟩ = some (.int .i64 k1) := HY.out.cell 1
      have y2 : W2.cell? ⟨wr.heap.size, 2, none⟩ = some (.string s2) := HY.out.cell 2
      clear CP' hkk hnx HX hv1 hcl
      go_wp2_with (with_reducible refine wpList_storeBlk rfl 31 _ _ rfl wr.heap.size #[.int .i64 0, .int .i64 0, .string ⟨#[]⟩] #[.int .i64 k0, .int .i64 k1, .string s2] ?hx ?hy X1 rfl ?hi ?h1 ?_)
      try (case hx => rfl)
      try (case hy => rfl)
      try (case hi => kernel_rfl)
      try (case h1 => simp [Value.oneCell'])
      try rw [hW2]
      refine (CP.out W2 v1 HW.out).mono ?_
      rintro e w3 ⟨rfl, h3⟩
      have HX : Hid (∃ v', PutS w0 g hc v' (writeA st1 ((l.take (k + 1)).flatMap itPs)) w3) := h3
      clear h3 hW2 HW HY X1 CP HV x0 x1 x2 y0 y1 y2
      go_wp2_with fail
      refine ⟨?_, ?_⟩
      · first
        | exact ⟨k + 1, by omega, by go_num, HX⟩
        | ((repeat apply Exists.intro); refine ⟨?_, rfl⟩; exact ⟨k + 1, by omega, by go_num, HX⟩)
      · simp [intOf] <;> omega
    · obtain rfl : k = n := by omega
      have b0 : ¬ ((k : Int) < (k : Int)) := by omega
      have hX := HX.out
      rw [List.take_of_length_le (by rw [HN.out]; exact Nat.le_refl _)] at hX
      go_wp2_with fail
      go_end0
      exact ⟨rfl, hX⟩

theorem writeA_frPs (st : ByteArray × Bool) (K G S E M er : Int) (bl : ByteArray) (it : List (Int × Int × ByteArray)) : writeA st (frPs (K, G, S, E, M, bl, it, er)) = writeA (numP (textP (numP (numP (numP (numP (numP (numP st K 1 255) G 6 1099511627775) S 6 1099511627775) E 6 1099511627775) M 6 1099511627775) er 6 1099511627775) bl) (it.length : Int) 1 255) (it.flatMap itPs) := by
  unfold frPs
  rw [writeA_app19]
  simp [frHd, writeA, writeP, kd, pn, pm, ps]


set_option maxHeartbeats 8000000 in
theorem putF_any (F : FrmT) (a : Option Addr) (c : Nat) (w : World) (hn : F.2.2.2.2.2.2.1.length ≤ 1048576) (hI : ItsAt w a F.2.2.2.2.2.2.1.length F.2.2.2.2.2.2.1) (hz : ∀ i, (itL F.2.2.2.2.2.2.1 i).2.2.size ≤ 9223372036854775807) (hb : F.2.2.2.2.2.1.size ≤ 9223372036854775807) :
    Calls Try.prog 31 #[.agg (frmA F a c)] w fun e w' => e = .returned (.tuple #[.string (putFC F).1, .int .i64 (putFC F).2]) ∧ Below w.heap.size w w' := by
  have hmf : ∀ (fn : Fn) (first cap : Array Value) (w : World), (Instr.makeFunc fn first cap).run Try.prog w = .ok (.func fn first cap) w := fun _ _ _ _ => rfl
  obtain ⟨p, hp⟩ : ∃ p, putFC F = p := ⟨_, rfl⟩
  rw [hp]
  have CO' : ∀ W, _ := fun W => frOwn_any F a c W
  obtain ⟨Y, hY⟩ : ∃ Y : Bool, ownB F = Y := ⟨_, rfl⟩
  simp only [hY] at CO'
  have CI' : ∀ W, Below w.heap.size w W → _ := fun W hW => areItems_any F.2.2.2.2.2.2.1 a F.2.2.2.2.2.2.1.length c W (mayIb F.2.2.2.2.2.2.1) (mayIb_iff _) (hI.below hW) hz
  obtain ⟨X, hX⟩ : ∃ X : Bool, mayIb F.2.2.2.2.2.2.1 = X := ⟨_, rfl⟩
  simp only [hX] at CI'
  have hp2 : putB (decide (F.2.2.2.2.2.2.2 ≤ 999) && decide (F.2.2.2.2.2.1.size ≤ 20000) && X && Y) (frPs F) = p := by
    rw [← hp]; unfold putFC mayCb; rw [hX, hY]
  have CW' : ∀ (w0 : World) (g hc : Nat) (v : Value) (st : ByteArray × Bool) (W : World), Below w.heap.size w w0 → PutS w0 g hc v st W → _ := fun w0 g hc v st W hb hP => wlistI_any F.2.2.2.2.2.2.1 a F.2.2.2.2.2.2.1.length c w0 g hc v st W hn (hI.below hb) hP
  obtain ⟨K, G, S, E, M, bl, it, er⟩ := F
  unfold putB at hp2
  rw [writeA_frPs] at hp2
  simp only [frmA] at CO' CI' CW' hp2 hb hn ⊢
  clear hI hz hp hX hY
  obtain ⟨n, hnn⟩ : ∃ n, it.length = n := ⟨_, rfl⟩
  simp only [hnn] at CO' CI' CW' hp2 hn ⊢
  clear hnn
  have CO : Hid (∀ W, _) := CO'
  have CI : Hid (∀ W, Below w.heap.size w W → _) := CI'
  have CW : Hid (∀ (w0 : World) (g hc : Nat) (v : Value) (st : ByteArray × Bool) (W : World), Below w.heap.size w w0 → PutS w0 g hc v st W → _) := CW'
  have HP : Hid (_ = p) := hp2
  clear CO' CI' CW' hp2
  have HB0 : Hid (Below w.heap.size w (w.alloc (.cells #[.int .i64 K, .int .i64 G, .int .i64 S, .int .i64 E, .int .i64 M, .string bl, .slice a n c, .int .i64 er] 39))) := below_new _ _
  have HK0 : Hid (Blk (w.alloc (.cells #[.int .i64 K, .int .i64 G, .int .i64 S, .int .i64 E, .int .i64 M, .string bl, .slice a n c, .int .i64 er] 39)) 39 w.heap.size #[.int .i64 K, .int .i64 G, .int .i64 S, .int .i64 E, .int .i64 M, .string bl, .slice a n c, .int .i64 er]) := Blk.new _ _ _
  by_cases h1 : er ≤ 999
  · have t1 : ¬ ((999 : Int) < er) := by omega
    by_cases h2 : bl.size ≤ 20000
    · have t2 : ¬ ((20000 : Int) < (bl.size : Int)) := by omega
      rw [decide_eq_true h1, decide_eq_true h2] at HP
      go_enter Try.func31, Try.ntmps31
      go_wp2_with fail
      obtain ⟨w0, hw0⟩ : ∃ w0, w.alloc (.cells #[.int .i64 K, .int .i64 G, .int .i64 S, .int .i64 E, .int .i64 M, .string bl, .slice a n c, .int .i64 er] 39) = w0 := ⟨_, rfl⟩
      obtain ⟨h0, hh0⟩ : ∃ h0, w.heap.size = h0 := ⟨_, rfl⟩
      rw [hw0] at HB0 HK0
      rw [hh0] at HK0
      try rw [hw0]
      try rw [hh0]
      clear hw0 hh0
      refine (CI.out w0 HB0.out).mono ?_
      rintro e w1 ⟨rfl, hb1⟩
      have HB1 : Hid (Below w.heap.size w w1) := below_step HB0.out (Nat.le_refl _) hb1
      have HK1 : Hid (Blk w1 39 h0 #[.int .i64 K, .int .i64 G, .int .i64 S, .int .i64 E, .int .i64 M, .string bl, .slice a n c, .int .i64 er]) := HK0.out.on hb1
      have d0 : w1.cell? ⟨h0, 0, none⟩ = some (.int .i64 K) := HK1.out.cell 0
      have d1 : w1.cell? ⟨h0, 1, none⟩ = some (.int .i64 G) := HK1.out.cell 1
      have d2 : w1.cell? ⟨h0, 2, none⟩ = some (.int .i64 S) := HK1.out.cell 2
      have d3 : w1.cell? ⟨h0, 3, none⟩ = some (.int .i64 E) := HK1.out.cell 3
      have d4 : w1.cell? ⟨h0, 4, none⟩ = some (.int .i64 M) := HK1.out.cell 4
      have d5 : w1.cell? ⟨h0, 5, none⟩ = some (.string bl) := HK1.out.cell 5
      have d6 : w1.cell? ⟨h0, 6, none⟩ = some (.slice a n c) := HK1.out.cell 6
      have d7 : w1.cell? ⟨h0, 7, none⟩ = some (.int .i64 er) := HK1.out.cell 7
      clear CI hb1 HB0 HK0
      cases X with
      | false =>
        obtain rfl : (⟨#[]⟩, 1) = p := by have h := HP.out; rwa [if_neg (by simp)] at h
        go_wp2
        go_ret2
        exact ⟨rfl, HB1.out⟩
      | true =>
        go_wp2_with fail
        refine (CO.out w1).mono ?_
        rintro e w2 ⟨rfl, hb2⟩
        have HB2 : Hid (Below w.heap.size w w2) := below_step HB1.out (Nat.le_refl _) hb2
        have HK2 : Hid (Blk w2 39 h0 #[.int .i64 K, .int .i64 G, .int .i64 S, .int .i64 E, .int .i64 M, .string bl, .slice a n c, .int .i64 er]) := HK1.out.on hb2
        clear CO hb2 HB1 HK1 d0 d1 d2 d3 d4 d5 d6 d7
        cases Y with
        | false =>
          obtain rfl : (⟨#[]⟩, 1) = p := by have h := HP.out; rwa [if_neg (by simp)] at h
          go_wp2
          go_ret2
          exact ⟨rfl, HB2.out⟩
        | true =>
          have hpp := HP.out
          rw [if_pos (by simp)] at hpp
          have HPP : Hid (_ = p) := hpp
          clear HP hpp
          go_wp2_with fail
          refine (newOut_any w2).mono ?_
          rintro e w3 ⟨rfl, hO, hb3⟩
          have HO3 : Hid (OutAt w3 w2.heap.size (.slice none 0 0) (⟨#[]⟩, false)) := OutAt.ok.2 hO
          have HB3 : Hid (Below w2.heap.size w2 w3) := hb3
          have HG3 : Hid (w2.heap.size < w3.heap.size) := HO3.out.lt.1
          clear hO hb3
          have HS4 : Hid (PutS w2 w2.heap.size w3.heap.size (.slice none 0 0) (⟨#[]⟩, false) (w3.alloc (.cells #[.pointer (some ⟨w2.heap.size, 0, none⟩)] 86))) := by
            have h1 := HG3.out
            exact ⟨HO3.out.on (below_new _ _), Blk.new _ _ _, below_step HB3.out (Nat.le_refl _) (below_new _ _), Nat.le_refl _, (by omega), (fun k hk => by cases hk), (by omega), (fun e => by cases e)⟩
          have hK4 := HK2.out.on HS4.out.bel
          have q0 : (w3.alloc (.cells #[.pointer (some ⟨w2.heap.size, 0, none⟩)] 86)).cell? ⟨h0, 0, none⟩ = some (.int .i64 K) := hK4.cell 0
          clear hK4 HO3 HB3 HG3
          go_wp2_with fail
          clear q0
          obtain ⟨w4, hw4⟩ : ∃ w4, (w3.alloc (.cells #[.pointer (some ⟨w2.heap.size, 0, none⟩)] 86)) = w4 := ⟨_, rfl⟩
          obtain ⟨g, hg⟩ : ∃ g, w2.heap.size = g := ⟨_, rfl⟩
          obtain ⟨hc, hhc⟩ : ∃ hc, w3.heap.size = hc := ⟨_, rfl⟩
          rw [hw4, hg, hhc] at HS4
          try rw [hw4]
          try rw [hg]
          try rw [hhc]
          clear hw4 hg hhc
          refine (obyte_any g _ _ K w4 HS4.out.out).mono ?_
          rintro e w5 ⟨rfl, h5⟩
          obtain ⟨v5, h5⟩ := HS4.out.step h5
          have HS5 : Hid (PutS w2 g hc v5 _ w5) := h5
          have hK5 := HK2.out.on h5.bel
          have q00 : w5.cell? ⟨hc, 0, none⟩ = some (.pointer (some ⟨g, 0, none⟩)) := h5.cap.cell 0
          have q01 : w5.cell? ⟨h0, 1, none⟩ = some (.int .i64 G) := hK5.cell 1
          clear h5 HS4 hK5 
          go_wp2_with fail
          refine (onum_any g _ _ G w5 HS5.out.out).mono ?_
          rintro e w6 ⟨rfl, h5⟩
          obtain ⟨v6, h5⟩ := HS5.out.step h5
          have HS6 : Hid (PutS w2 g hc v6 _ w6) := h5
          have hK5 := HK2.out.on h5.bel
          have q10 : w6.cell? ⟨hc, 0, none⟩ = some (.pointer (some ⟨g, 0, none⟩)) := h5.cap.cell 0
          have q11 : w6.cell? ⟨h0, 2, none⟩ = some (.int .i64 S) := hK5.cell 2
          clear h5 HS5 hK5 q00 q01
          go_wp2_with fail
          refine (onum_any g _ _ S w6 HS6.out.out).mono ?_
          rintro e w7 ⟨rfl, h5⟩
          obtain ⟨v7, h5⟩ := HS6.out.step h5
          have HS7 : Hid (PutS w2 g hc v7 _ w7) := h5
          have hK5 := HK2.out.on h5.bel
          have q20 : w7.cell? ⟨hc, 0, none⟩ = some (.pointer (some ⟨g, 0, none⟩)) := h5.cap.cell 0
          have q21 : w7.cell? ⟨h0, 3, none⟩ = some (.int .i64 E) := hK5.cell 3
          clear h5 HS6 hK5 q10 q11
          go_wp2_with fail
          refine (onum_any g _ _ E w7 HS7.out.out).mono ?_
          rintro e w8 ⟨rfl, h5⟩
          obtain ⟨v8, h5⟩ := HS7.out.step h5
          have HS8 : Hid (PutS w2 g hc v8 _ w8) := h5
          have hK5 := HK2.out.on h5.bel
          have q30 : w8.cell? ⟨hc, 0, none⟩ = some (.pointer (some ⟨g, 0, none⟩)) := h5.cap.cell 0
          have q31 : w8.cell? ⟨h0, 4, none⟩ = some (.int .i64 M) := hK5.cell 4
          clear h5 HS7 hK5 q20 q21
          go_wp2_with fail
          refine (onum_any g _ _ M w8 HS8.out.out).mono ?_
          rintro e w9 ⟨rfl, h5⟩
          obtain ⟨v9, h5⟩ := HS8.out.step h5
          have HS9 : Hid (PutS w2 g hc v9 _ w9) := h5
          have hK5 := HK2.out.on h5.bel
          have q40 : w9.cell? ⟨hc, 0, none⟩ = some (.pointer (some ⟨g, 0, none⟩)) := h5.cap.cell 0
          have q41 : w9.cell? ⟨h0, 7, none⟩ = some (.int .i64 er) := hK5.cell 7
          clear h5 HS8 hK5 q30 q31
          go_wp2_with fail
          refine (onum_any g _ _ er w9 HS9.out.out).mono ?_
          rintro e w10 ⟨rfl, h5⟩
          obtain ⟨v10, h5⟩ := HS9.out.step h5
          have HS10 : Hid (PutS w2 g hc v10 _ w10) := h5
          have hK5 := HK2.out.on h5.bel
          have q50 : w10.cell? ⟨hc, 0, none⟩ = some (.pointer (some ⟨g, 0, none⟩)) := h5.cap.cell 0
          have q51 : w10.cell? ⟨h0, 5, none⟩ = some (.string bl) := hK5.cell 5
          clear h5 HS9 hK5 q40 q41
          go_wp2_with fail
          refine (otext_any g _ _ bl w10 HS10.out.out).mono ?_
          rintro e w11 ⟨rfl, h5⟩
          obtain ⟨v11, h5⟩ := HS10.out.step h5
          have HS11 : Hid (PutS w2 g hc v11 _ w11) := h5
          have hK5 := HK2.out.on h5.bel
          have q60 : w11.cell? ⟨hc, 0, none⟩ = some (.pointer (some ⟨g, 0, none⟩)) := h5.cap.cell 0
          have q61 : w11.cell? ⟨h0, 6, none⟩ = some (.slice a n c) := hK5.cell 6
          clear h5 HS10 hK5 q50 q51
          go_wp2_with fail
          refine (CW.out w2 g hc v11 _ w11 HB2.out HS11.out).mono ?_
          rintro e w12 ⟨rfl, v12, h12⟩
          have HS12 : Hid (PutS w2 g hc v12 _ w12) := h12
          have r0 : w12.cell? ⟨hc, 0, none⟩ = some (.pointer (some ⟨g, 0, none⟩)) := h12.cap.cell 0
          clear h12 HS11 q60 q61 CW
          go_wp2_with fail
          refine (odone_any g v12 _ w12 HS12.out.out).mono ?_
          rintro e w13 ⟨rfl, rfl⟩
          rw [doneP_Q, HPP.out]
          go_wp2
          go_ret2
          exact ⟨rfl, HB2.out.trans (HS12.out.bel.mono HB2.out.size)⟩
    · have t2 : (20000 : Int) < (bl.size : Int) := by omega
      obtain rfl : (⟨#[]⟩, 1) = p := by have h := HP.out; rw [decide_eq_true h1, decide_eq_false h2] at h; rwa [if_neg (by simp)] at h
      go_enter Try.func31, Try.ntmps31
      go_wp2_with fail
      go_ret2
      exact ⟨rfl, HB0.out⟩
  · have t1 : (999 : Int) < er := by omega
    obtain rfl : (⟨#[]⟩, 1) = p := by have h := HP.out; rw [decide_eq_false h1] at h; rwa [if_neg (by simp)] at h
    go_enter Try.func31, Try.ntmps31
    go_wp2_with fail
    go_ret2
    exact ⟨rfl, HB0.out⟩

end Go.Proofs.Ytkmdajenbidaaaa
