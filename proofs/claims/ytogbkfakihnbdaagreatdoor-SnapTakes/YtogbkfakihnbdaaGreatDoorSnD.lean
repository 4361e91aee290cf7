import Derived.Test.YtogbkfakihnbdaaGreatDoorSnR
/- The code's Put: its closures, writeList (layer 13). -/
namespace Go.Proofs.YtogbkfakihnbdaaGreatDoor
open Go.RowKit
set_option linter.unusedSimpArgs false

/-- The parts of a node. -/
def ndPs (x : NodeT) : List (Int × Int × Int × ByteArray) := [(3, x.1.1, x.1.2, ⟨#[]⟩), (3, x.2.1.1, x.2.1.2, ⟨#[]⟩), (4, 0, 0, x.2.2.1), (4, 0, 0, x.2.2.2)]

theorem writeA_nd (st : ByteArray × Bool) (x : NodeT) : writeA st (ndPs x) = textP (textP (stampP (stampP st x.1.1 x.1.2) x.2.1.1 x.2.1.2) x.2.2.1) x.2.2.2 := by
  simp [writeA, ndPs, writeP, kd, pn, pm, ps]

theorem writeA_app (st : ByteArray × Bool) (l m : List (Int × Int × Int × ByteArray)) : writeA st (l ++ m) = writeA (writeA st l) m := by
  unfold writeA; rw [List.foldl_append]

/-- What Put writes to, and the variable that its closures hold. -/
structure PutS (w0 : World) (g hc : Nat) (v : Value) (st : ByteArray × Bool) (W : World) : Prop where
  out : OutAt W g v st
  cap : Blk W 72 hc #[.pointer (some ⟨g, 0, none⟩)]
  bel : Below w0.heap.size w0 W
  lg : w0.heap.size ≤ g
  lh : w0.heap.size ≤ hc
  lv : ∀ k, v.ownBlock = some k → w0.heap.size ≤ k
  ne : hc ≠ g
  nv : some hc ≠ v.ownBlock

theorem PutS.on {w0 : World} {g hc : Nat} {v : Value} {st : ByteArray × Bool} {W W' : World} (h : PutS w0 g hc v st W) (hb : Below W.heap.size W W') : PutS w0 g hc v st W' :=
  ⟨h.out.on hb, h.cap.on hb, below_step h.bel (Nat.le_refl _) hb, h.lg, h.lh, h.lv, h.ne, h.nv⟩

theorem PutS.step {w0 : World} {g hc : Nat} {v : Value} {st st' : ByteArray × Bool} {W W' : World} (h : PutS w0 g hc v st W) (h2 : OutTo W g v st' W') : ∃ v', PutS w0 g hc v' st' W' := by
  obtain ⟨v', k1, k2, k3⟩ := h2
  refine ⟨v', k1, h.cap.kept k2 h.ne h.nv, h.bel.trans (k2.below _ h.bel.size h.lg h.lv), h.lg, h.lh, fun k hk => ?_, h.ne, k3.ne h.cap.lt h.nv⟩
  rcases k3 k hk with e | e
  · exact h.lv k e
  · have := h.bel.size; omega

set_option maxHeartbeats 2000000 in
set_option maxRecDepth 100000 in
theorem put1_any (x : NodeT) (w0 : World) (g hc : Nat) (v : Value) (st : ByteArray × Bool) (w : World) (h : PutS w0 g hc v st w) :
    Calls Tryz.prog 33 #[.agg (nodeA x), .pointer (some ⟨hc, 0, none⟩)] w fun e w' => e = .returned (.tuple #[]) ∧ ∃ v', PutS w0 g hc v' (writeA st (ndPs x)) w' := by
  rw [writeA_nd]
  obtain ⟨⟨k0, k1⟩, ⟨k2, k3⟩, s4, s5⟩ := x
  simp only [nodeA]
  have HP : Hid (PutS w0 g hc v st w) := h
  have HS : Hid (WrS _ g v 47 w.heap.size #[.int .i64 k0, .int .i64 k1, .int .i64 k2, .int .i64 k3, .string s4, .string s5] st _ v) := WrS.new h.out
  have HB' : Hid (Below w.heap.size w (w.alloc (.cells #[.int .i64 k0, .int .i64 k1, .int .i64 k2, .int .i64 k3, .string s4, .string s5] 47))) := below_new _ _
  have HC : Hid (Blk (w.alloc (.cells #[.int .i64 k0, .int .i64 k1, .int .i64 k2, .int .i64 k3, .string s4, .string s5] 47)) 72 hc #[.pointer (some ⟨g, 0, none⟩)]) := h.cap.on (below_new _ _)
  have c0 : (w.alloc (.cells #[.int .i64 k0, .int .i64 k1, .int .i64 k2, .int .i64 k3, .string s4, .string s5] 47)).cell? ⟨hc, 0, none⟩ = some (.pointer (some ⟨g, 0, none⟩)) := HC.out.cell 0
  clear h
  go_enter Tryz.func33, Tryz.ntmps33
  go_wp2_with fail
  clear c0
  obtain ⟨w1, hw1⟩ : ∃ w1, w.alloc (.cells #[.int .i64 k0, .int .i64 k1, .int .i64 k2, .int .i64 k3, .string s4, .string s5] 47) = w1 := ⟨_, rfl⟩
  obtain ⟨gb, hgb⟩ : ∃ gb, w.heap.size = gb := ⟨_, rfl⟩
  rw [hw1] at HS HB' HC
  rw [hgb] at HS
  try rw [hw1]
  try rw [hgb]
  clear hw1 hgb
  refine (ostamp_any g _ _ k0 k1 _ HS.out.out).mono ?_
  rintro e w2 ⟨rfl, h1⟩
  obtain ⟨v1, h1⟩ := HS.out.step h1
  have H1 : Hid (WrS _ _ _ _ _ _ _ w2 v1) := h1
  have a1 : w2.cell? ⟨hc, 0, none⟩ = some (.pointer (some ⟨g, 0, none⟩)) := (HC.out.kept h1.kept HP.out.ne HP.out.nv).cell 0
  have c2 : w2.cell? ⟨gb, 2, none⟩ = some (.int .i64 k2) := h1.blk.cell 2
  have c3 : w2.cell? ⟨gb, 3, none⟩ = some (.int .i64 k3) := h1.blk.cell 3
  clear HS h1
  go_wp2_with fail
  refine (ostamp_any g _ _ k2 k3 _ H1.out.out).mono ?_
  rintro e w3 ⟨rfl, h2⟩
  obtain ⟨v2, h2⟩ := H1.out.step h2
  have H2 : Hid (WrS _ _ _ _ _ _ _ w3 v2) := h2
  have a2 : w3.cell? ⟨hc, 0, none⟩ = some (.pointer (some ⟨g, 0, none⟩)) := (HC.out.kept h2.kept HP.out.ne HP.out.nv).cell 0
  have c4 : w3.cell? ⟨gb, 4, none⟩ = some (.string s4) := h2.blk.cell 4
  clear H1 h2 c2 c3 a1
  go_wp2_with fail
  refine (otext_any g _ _ s4 _ H2.out.out).mono ?_
  rintro e w4 ⟨rfl, h3⟩
  obtain ⟨v3, h3⟩ := H2.out.step h3
  have H3 : Hid (WrS _ _ _ _ _ _ _ w4 v3) := h3
  have a3 : w4.cell? ⟨hc, 0, none⟩ = some (.pointer (some ⟨g, 0, none⟩)) := (HC.out.kept h3.kept HP.out.ne HP.out.nv).cell 0
  have c5 : w4.cell? ⟨gb, 5, none⟩ = some (.string s5) := h3.blk.cell 5
  clear H2 h3 c4 a2
  go_wp2_with fail
  refine (otext_any g _ _ s5 _ H3.out.out).mono ?_
  rintro e w5 ⟨rfl, h4⟩
  obtain ⟨v4, h4⟩ := H3.out.step h4
  clear H3 c5 a3
  go_wp2
  go_end0
  exact ⟨rfl, HP.out.step (OutTo.behind HB'.out h4.to)⟩

set_option maxHeartbeats 2000000 in
set_option maxRecDepth 100000 in
theorem put2_any (x : OpT) (w0 : World) (g hc : Nat) (v : Value) (st : ByteArray × Bool) (w : World) (h : PutS w0 g hc v st w) :
    Calls Tryz.prog 36 #[.agg (opA x), .pointer (some ⟨hc, 0, none⟩)] w fun e w' => e = .returned (.tuple #[]) ∧ ∃ v', PutS w0 g hc v' (writeA st (opPs x)) w' := by
  have CW' : ∀ W, OutAt W g v st → _ := fun W hO => writeOp_any g v st x W hO
  obtain ⟨st', hst⟩ : ∃ st', writeA st (opPs x) = st' := ⟨_, rfl⟩
  simp only [hst] at CW' ⊢
  obtain ⟨k0, ⟨k1, k2⟩, ⟨k3, k4⟩, ⟨k5, k6⟩, s7, s8⟩ := x
  simp only [opA] at CW' ⊢
  have CW : Hid (∀ W, OutAt W g v st → _) := CW'
  have HP : Hid (PutS w0 g hc v st w) := h
  have HP1 : Hid (PutS w0 g hc v st (w.alloc (.cells #[.int .i64 k0, .int .i64 k1, .int .i64 k2, .int .i64 k3, .int .i64 k4, .int .i64 k5, .int .i64 k6, .string s7, .string s8] 37))) := h.on (below_new _ _)
  have c0 : (w.alloc (.cells #[.int .i64 k0, .int .i64 k1, .int .i64 k2, .int .i64 k3, .int .i64 k4, .int .i64 k5, .int .i64 k6, .string s7, .string s8] 37)).cell? ⟨hc, 0, none⟩ = some (.pointer (some ⟨g, 0, none⟩)) := HP1.out.cap.cell 0
  clear h CW' hst
  go_enter Tryz.func36, Tryz.ntmps36
  go_wp2_with fail
  refine (CW.out _ HP1.out.out).mono ?_
  rintro e w2 ⟨rfl, h2⟩
  have h3 := HP1.out.step h2
  clear c0 CW h2
  go_wp2
  go_end0
  exact ⟨rfl, h3⟩

theorem wlistN_take (l : List NodeT) (k : Nat) (h : k < l.length) : (l.take (k + 1)).flatMap ndPs = (l.take k).flatMap ndPs ++ ndPs (nL l k) := by
  have e : nL l k = l[k] := by unfold nL; rw [List.getD_eq_getElem?_getD, List.getElem?_eq_getElem h]; rfl
  rw [List.take_succ_eq_append_getElem h, List.flatMap_append, e]
  simp

set_option maxHeartbeats 4000000 in
set_option maxRecDepth 100000 in
theorem wlistN_any (l : List NodeT) (a : Option Addr) (n c : Nat) (w0 : World) (g hc : Nat) (v : Value) (st : ByteArray × Bool) (w : World) (hn : n ≤ 60000) (hI : NodesAt w0 a n l) (h : PutS w0 g hc v st w) :
    Calls Tryz.prog 32 #[.pointer (some ⟨g, 0, none⟩), .slice a n c, .func (.func 33) #[] #[.pointer (some ⟨hc, 0, none⟩)]] w fun e w' => e = .returned (.tuple #[]) ∧ ∃ v', PutS w0 g hc v' (writeA st ((2, (n : Int), 0, ⟨#[]⟩) :: l.flatMap ndPs)) w' := by
  have HI : Hid (NodesAt w0 a n l) := hI
  have HN : Hid (l.length = n) := hI.1
  have HP : Hid (PutS w0 g hc v st w) := h
  have hst : writeA st ((2, (n : Int), 0, ⟨#[]⟩) :: l.flatMap ndPs) = writeA (numP st (n : Int) 6 1099511627775) (l.flatMap ndPs) := by simp [writeA, writeP, kd, pn]
  rw [hst]
  have CN' := onum_any g v st (n : Int) w h.out
  obtain ⟨st1, hst1⟩ : ∃ st1, numP st (n : Int) 6 1099511627775 = st1 := ⟨_, rfl⟩
  rw [hst1] at CN' ⊢
  have CN : Hid (Calls _ _ _ _ _) := CN'
  clear hI h hst hst1 CN'
  go_enter Tryz.func32, Tryz.ntmps32
  go_wp2_with fail
  refine CN.out.mono ?_
  rintro e w1 ⟨rfl, h1⟩
  have HX : Hid (∃ v', PutS w0 g hc v' (writeA st1 ((l.take 0).flatMap ndPs)) w1) := HP.out.step h1
  clear h1 CN HP
  go_wp2_with fail
  go_loopw [14] (fun i wr => ∃ k : Nat, k ≤ n ∧ i = .int .i64 k ∧ Hid (∃ v', PutS w0 g hc v' (writeA st1 ((l.take k).flatMap ndPs)) wr)) (fun i _ => n - (intOf i).toNat)
  case atStart => exact ⟨0, Nat.zero_le _, rfl, HX⟩
  case round =>
    clear HX
    obtain ⟨k, hk, rfl, HX⟩ := hrel
    by_cases hlt : k < n
    · have b0 : (k : Int) < (n : Int) := by omega
      obtain ⟨b, off, rfl, _⟩ := HI.out.2.some (by omega)
      obtain ⟨v1, hv1⟩ := HX.out
      obtain ⟨x0, x1, x2, x3, x4, x5⟩ := (HI.out.below hv1.bel).cells k hlt
      have hnx := wlistN_take l k (by rw [HN.out]; exact hlt)
      have CP' : ∀ W v, PutS w0 g hc v (writeA st1 ((l.take k).flatMap ndPs)) W → _ := fun W v hW => put1_any (nL l k) w0 g hc v _ W hW
      simp only [← writeA_app, ← hnx] at CP'
      obtain ⟨⟨⟨k0, k1⟩, ⟨k2, k3⟩, s4, s5⟩, hkk⟩ : ∃ s, s = nL l k := ⟨_, rfl⟩
      simp only [← hkk, nodeA] at CP'
      rw [← hkk] at x0 x1 x2 x3 x4 x5
      simp only at x0 x1 x2 x3 x4 x5
      have CP : Hid (∀ W v, PutS w0 g hc v (writeA st1 ((l.take k).flatMap ndPs)) W → _) := CP'
      have HV : Hid (PutS w0 g hc v1 (writeA st1 ((l.take k).flatMap ndPs)) wr) := hv1
      have X1 : Blk (wr.alloc (.cells #[.int .i64 0, .int .i64 0, .int .i64 0, .int .i64 0, .string ⟨#[]⟩, .string ⟨#[]⟩] 47)) 47 wr.heap.size #[.int .i64 0, .int .i64 0, .int .i64 0, .int .i64 0, .string ⟨#[]⟩, .string ⟨#[]⟩] := Blk.new _ _ _
      have HW : Hid (PutS w0 g hc v1 (writeA st1 ((l.take k).flatMap ndPs)) ((wr.alloc (.cells #[.int .i64 0, .int .i64 0, .int .i64 0, .int .i64 0, .string ⟨#[]⟩, .string ⟨#[]⟩] 47)).setRow wr.heap.size #[.int .i64 k0, .int .i64 k1, .int .i64 k2, .int .i64 k3, .string s4, .string s5])) := hv1.on (below_setRow (below_new _ _) (Nat.le_refl _) _)
      have HY : Hid (Blk ((wr.alloc (.cells #[.int .i64 0, .int .i64 0, .int .i64 0, .int .i64 0, .string ⟨#[]⟩, .string ⟨#[]⟩] 47)).setRow wr.heap.size #[.int .i64 k0, .int .i64 k1, .int .i64 k2, .int .i64 k3, .string s4, .string s5]) 47 wr.heap.size #[.int .i64 k0, .int .i64 k1, .int .i64 k2, .int .i64 k3, .string s4, .string s5]) := X1.setRow _
      obtain ⟨W2, hW2⟩ : ∃ W2, (wr.alloc (.cells #[.int .i64 0, .int .i64 0, .int .i64 0, .int .i64 0, .string ⟨#[]⟩, .string ⟨#[]⟩] 47)).setRow wr.heap.size #[.int .i64 k0, .int .i64 k1, .int .i64 k2, .int .i64 k3, .string s4, .string s5] = W2 := ⟨_, rfl⟩
      rw [hW2] at HW HY
      have y0 : W2.cell? ⟨wr.heap.size, 0, none⟩ = some (.int .i64 k0) := HY.out.cell 0
      have y1 : W2.cell? ⟨wr.heap.size, 1, none⟩ = some (.int .i64 k1) := HY.out.cell 1
      have y2 : W2.cell? ⟨wr.heap.size, 2, none⟩ = some (.int .i64 k2) := HY.out.cell 2
      have y3 : W2.cell? ⟨wr.heap.size, 3, none⟩ = some (.int .i64 k3) := HY.out.cell 3
      have y4 : W2.cell? ⟨wr.heap.size, 4, none⟩ = some (.string s4) := HY.out.cell 4
      have y5 : W2.cell? ⟨wr.heap.size, 5, none⟩ = some (.string s5) := HY.out.cell 5
      clear CP' hkk hnx HX hv1
      go_wp2_with (with_reducible refine wpList_storeBlk rfl 47 _ _ rfl wr.heap.size #[.int .i64 0, .int .i64 0, .int .i64 0, .int .i64 0, .string ⟨#[]⟩, .string ⟨#[]⟩] #[.int .i64 k0, .int .i64 k1, .int .i64 k2, .int .i64 k3, .string s4, .string s5] ?hx ?hy X1 rfl ?hi ?h1 ?_)
      try (case hx => rfl)
      try (case hy => rfl)
      try (case hi => kernel_rfl)
      try (case h1 => simp [Value.oneCell'])
      try rw [hW2]
      refine (CP.out W2 v1 HW.out).mono ?_
      rintro e w3 ⟨rfl, h3⟩
      have HX : Hid (∃ v', PutS w0 g hc v' (writeA st1 ((l.take (k + 1)).flatMap ndPs)) w3) := h3
      clear h3 hW2 HW HY X1 CP HV x0 x1 x2 x3 x4 x5 y0 y1 y2 y3 y4 y5
      go_wp2_with fail
      refine ⟨?_, ?_⟩
      · first
        | exact ⟨k + 1, by omega, by go_num, HX⟩
        | ((repeat apply Exists.intro); refine ⟨?_, rfl⟩; exact ⟨k + 1, by omega, by go_num, HX⟩)
      · simp [intOf] <;> omega
    · obtain rfl : k = n := by omega
      have b0 : ¬ ((k : Int) < (k : Int)) := by omega
      have hX := HX.out
      rw [List.take_of_length_le (by rw [HN.out]; exact Nat.le_refl _)] at hX
      go_wp2_with fail
      go_end0
      exact ⟨rfl, hX⟩

theorem wlistO_take (l : List OpT) (k : Nat) (h : k < l.length) : (l.take (k + 1)).flatMap opPs = (l.take k).flatMap opPs ++ opPs (oL l k) := by
  have e : oL l k = l[k] := by unfold oL; rw [List.getD_eq_getElem?_getD, List.getElem?_eq_getElem h]; rfl
  rw [List.take_succ_eq_append_getElem h, List.flatMap_append, e]
  simp

set_option maxHeartbeats 4000000 in
set_option maxRecDepth 100000 in
theorem wlistO_any (l : List OpT) (a : Option Addr) (n c : Nat) (w0 : World) (g hc : Nat) (v : Value) (st : ByteArray × Bool) (w : World) (hn : n ≤ 60000) (hI : OpsAt w0 a n l) (h : PutS w0 g hc v st w) :
    Calls Tryz.prog 35 #[.pointer (some ⟨g, 0, none⟩), .slice a n c, .func (.func 36) #[] #[.pointer (some ⟨hc, 0, none⟩)]] w fun e w' => e = .returned (.tuple #[]) ∧ ∃ v', PutS w0 g hc v' (writeA st ((2, (n : Int), 0, ⟨#[]⟩) :: l.flatMap opPs)) w' := by
  have HI : Hid (OpsAt w0 a n l) := hI
  have HN : Hid (l.length = n) := hI.1
  have HP : Hid (PutS w0 g hc v st w) := h
  have hst : writeA st ((2, (n : Int), 0, ⟨#[]⟩) :: l.flatMap opPs) = writeA (numP st (n : Int) 6 1099511627775) (l.flatMap opPs) := by simp [writeA, writeP, kd, pn]
  rw [hst]
  have CN' := onum_any g v st (n : Int) w h.out
  obtain ⟨st1, hst1⟩ : ∃ st1, numP st (n : Int) 6 1099511627775 = st1 := ⟨_, rfl⟩
  rw [hst1] at CN' ⊢
  have CN : Hid (Calls _ _ _ _ _) := CN'
  clear hI h hst hst1 CN'
  go_enter Tryz.func35, Tryz.ntmps35
  go_wp2_with fail
  refine CN.out.mono ?_
  rintro e w1 ⟨rfl, h1⟩
  have HX : Hid (∃ v', PutS w0 g hc v' (writeA st1 ((l.take 0).flatMap opPs)) w1) := HP.out.step h1
  clear h1 CN HP
  go_wp2_with fail
  go_loopw [14] (fun i wr => ∃ k : Nat, k ≤ n ∧ i = .int .i64 k ∧ Hid (∃ v', PutS w0 g hc v' (writeA st1 ((l.take k).flatMap opPs)) wr)) (fun i _ => n - (intOf i).toNat)
  case atStart => exact ⟨0, Nat.zero_le _, rfl, HX⟩
  case round =>
    clear HX
    obtain ⟨k, hk, rfl, HX⟩ := hrel
    by_cases hlt : k < n
    · have b0 : (k : Int) < (n : Int) := by omega
      obtain ⟨b, off, rfl, _⟩ := HI.out.2.some (by omega)
      obtain ⟨v1, hv1⟩ := HX.out
      obtain ⟨x0, x1, x2, x3, x4, x5, x6, x7, x8⟩ := (HI.out.below hv1.bel).cells k hlt
      have hnx := wlistO_take l k (by rw [HN.out]; exact hlt)
      have CP' : ∀ W v, PutS w0 g hc v (writeA st1 ((l.take k).flatMap opPs)) W → _ := fun W v hW => put2_any (oL l k) w0 g hc v _ W hW
      simp only [← writeA_app, ← hnx] at CP'
      obtain ⟨⟨k0, ⟨k1, k2⟩, ⟨k3, k4⟩, ⟨k5, k6⟩, s7, s8⟩, hkk⟩ : ∃ s, s = oL l k := ⟨_, rfl⟩
      simp only [← hkk, opA] at CP'
      rw [← hkk] at x0 x1 x2 x3 x4 x5 x6 x7 x8
      simp only at x0 x1 x2 x3 x4 x5 x6 x7 x8
      have CP : Hid (∀ W v, PutS w0 g hc v (writeA st1 ((l.take k).flatMap opPs)) W → _) := CP'
      have HV : Hid (PutS w0 g hc v1 (writeA st1 ((l.take k).flatMap opPs)) wr) := hv1
      have X1 : Blk (wr.alloc (.cells #[.int .i64 0, .int .i64 0, .int .i64 0, .int .i64 0, .int .i64 0, .int .i64 0, .int .i64 0, .string ⟨#[]⟩, .string ⟨#[]⟩] 37)) 37 wr.heap.size #[.int .i64 0, .int .i64 0, .int .i64 0, .int .i64 0, .int .i64 0, .int .i64 0, .int .i64 0, .string ⟨#[]⟩, .string ⟨#[]⟩] := Blk.new _ _ _
      have HW : Hid (PutS w0 g hc v1 (writeA st1 ((l.take k).flatMap opPs)) ((wr.alloc (.cells #[.int .i64 0, .int .i64 0, .int .i64 0, .int .i64 0, .int .i64 0, .int .i64 0, .int .i64 0, .string ⟨#[]⟩, .string ⟨#[]⟩] 37)).setRow wr.heap.size #[.int .i64 k0, .int .i64 k1, .int .i64 k2, .int .i64 k3, .int .i64 k4, .int .i64 k5, .int .i64 k6, .string s7, .string s8])) := hv1.on (below_setRow (below_new _ _) (Nat.le_refl _) _)
      have HY : Hid (Blk ((wr.alloc (.cells #[.int .i64 0, .int .i64 0, .int .i64 0, .int .i64 0, .int .i64 0, .int .i64 0, .int .i64 0, .string ⟨#[]⟩, .string ⟨#[]⟩] 37)).setRow wr.heap.size #[.int .i64 k0, .int .i64 k1, .int .i64 k2, .int .i64 k3, .int .i64 k4, .int .i64 k5, .int .i64 k6, .string s7, .string s8]) 37 wr.heap.size #[.int .i64 k0, .int .i64 k1, .int .i64 k2, .int .i64 k3, .int .i64 k4, .int .i64 k5, .int .i64 k6, .string s7, .string s8]) := X1.setRow _
      obtain ⟨W2, hW2⟩ : ∃ W2, (wr.alloc (.cells #[.int .i64 0, .int .i64 0, .int .i64 0, .int .i64 0, .int .i64 0, .int .i64 0, .int .i64 0, .string ⟨#[]⟩, .string ⟨#[]⟩] 37)).setRow wr.heap.size #[.int .i64 k0, .int .i64 k1, .int .i64 k2, .int .i64 k3, .int .i64 k4, .int .i64 k5, .int .i64 k6, .string s7, .string s8] = W2 := ⟨_, rfl⟩
      rw [hW2] at HW HY
      have y0 : W2.cell? ⟨wr.heap.size, 0, none⟩ = some (.int .i64 k0) := HY.out.cell 0
      have y1 : W2.cell? ⟨wr.heap.size, 1, none⟩ = some (.int .i64 k1) := HY.out.cell 1
      have y2 : W2.cell? ⟨wr.heap.size, 2, none⟩ = some (.int .i64 k2) := HY.out.cell 2
      have y3 : W2.cell? ⟨wr.heap.size, 3, none⟩ = some (.int .i64 k3) := HY.out.cell 3
      have y4 : W2.cell? ⟨wr.heap.size, 4, none⟩ = some (.int .i64 k4) := HY.out.cell 4
      have y5 : W2.cell? ⟨wr.heap.size, 5, none⟩ = some (.int .i64 k5) := HY.out.cell 5
      have y6 : W2.cell? ⟨wr.heap.size, 6, none⟩ = some (.int .i64 k6) := HY.out.cell 6
      have y7 : W2.cell? ⟨wr.heap.size, 7, none⟩ = some (.string s7) := HY.out.cell 7
      have y8 : W2.cell? ⟨wr.heap.size, 8, none⟩ = some (.string s8) := HY.out.cell 8
      clear CP' hkk hnx HX hv1
      go_wp2_with (with_reducible refine wpList_storeBlk rfl 37 _ _ rfl wr.heap.size #[.int .i64 0, .int .i64 0, .int .i64 0, .int .i64 0, .int .i64 0, .int .i64 0, .int .i64 0, .string ⟨#[]⟩, .string ⟨#[]⟩] #[.int .i64 k0, .int .i64 k1, .int .i64 k2, .int .i64 k3, .int .i64 k4, .int .i64 k5, .int .i64 k6, .string s7, .string s8] ?hx ?hy X1 rfl ?hi ?h1 ?_)
      try (case hx => rfl)
      try (case hy => rfl)
      try (case hi => kernel_rfl)
      try (case h1 => simp [Value.oneCell'])
      try rw [hW2]
      refine (CP.out W2 v1 HW.out).mono ?_
      rintro e w3 ⟨rfl, h3⟩
      have HX : Hid (∃ v', PutS w0 g hc v' (writeA st1 ((l.take (k + 1)).flatMap opPs)) w3) := h3
      clear h3 hW2 HW HY X1 CP HV x0 x1 x2 x3 x4 x5 x6 x7 x8 y0 y1 y2 y3 y4 y5 y6 y7 y8
      go_wp2_with fail
      refine ⟨?_, ?_⟩
      · first
        | exact ⟨k + 1, by omega, by go_num, HX⟩
        | ((repeat apply Exists.intro); refine ⟨?_, rfl⟩; exact ⟨k + 1, by omega, by go_num, HX⟩)
      · simp [intOf] <;> omega
    · obtain rfl : k = n := by omega
      have b0 : ¬ ((k : Int) < (k : Int)) := by omega
      have hX := HX.out
      rw [List.take_of_length_le (by rw [HN.out]; exact Nat.le_refl _)] at hX
      go_wp2_with fail
      go_end0
      exact ⟨rfl, hX⟩

end Go.Proofs.YtogbkfakihnbdaaGreatDoor
