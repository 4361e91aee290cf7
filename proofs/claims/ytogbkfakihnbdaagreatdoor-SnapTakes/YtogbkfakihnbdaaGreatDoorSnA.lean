import Derived.Test.YtogbkfakihnbdaaGreatDoorSnP
import Derived.Test.YtogbkfakihnbdaaGreatDoorT11
/- The code's writeOp, PutOp (layer 13). -/
namespace Go.Proofs.YtogbkfakihnbdaaGreatDoor
open Go.RowKit
set_option linter.unusedSimpArgs false

theorem writeA_op (st : ByteArray × Bool) (o : OpT) : writeA st (opPs o) = textP (textP (stampP (stampP (stampP (numP st o.1 1 255) o.2.1.1 o.2.1.2) o.2.2.1.1 o.2.2.1.2) o.2.2.2.1.1 o.2.2.2.1.2) o.2.2.2.2.1) o.2.2.2.2.2 := by
  simp [writeA, opPs, writeP, kd, pn, pm, ps]

/-- What was written so far, the argument's block beside it. -/
structure WrS (w0 : World) (g : Nat) (v : Value) (t : TypeId) (gb : Nat) (cs : Array Value) (o : ByteArray × Bool) (W : World) (v1 : Value) : Prop where
  out : OutAt W g v1 o
  kept : Kept2 g v.ownBlock w0 W
  nx : Nx w0 v.ownBlock v1.ownBlock
  blk : Blk W t gb cs
  lt : gb < w0.heap.size
  ne : gb ≠ g
  nr : some gb ≠ v.ownBlock

theorem WrS.step {w0 : World} {g : Nat} {v : Value} {t : TypeId} {gb : Nat} {cs : Array Value} {o o' : ByteArray × Bool} {W W' : World} {v1 : Value} (h : WrS w0 g v t gb cs o W v1) (h2 : OutTo W g v1 o' W') : ∃ v2, WrS w0 g v t gb cs o' W' v2 := by
  obtain ⟨v2, k1, k2, k3⟩ := h2
  exact ⟨v2, k1, h.kept.trans k2 h.nx, h.nx.trans h.kept.size k3, h.blk.kept k2 h.ne (h.nx.ne h.lt h.nr), h.lt, h.ne, h.nr⟩

theorem WrS.to {w0 : World} {g : Nat} {v : Value} {t : TypeId} {gb : Nat} {cs : Array Value} {o : ByteArray × Bool} {W : World} {v1 : Value} (h : WrS w0 g v t gb cs o W v1) : OutTo w0 g v o W := ⟨v1, h.out, h.kept, h.nx⟩

theorem WrS.new {w : World} {g : Nat} {v : Value} {t : TypeId} {cs : Array Value} {o : ByteArray × Bool} (h : OutAt w g v o) : WrS (w.alloc (.cells cs t)) g v t w.heap.size cs o (w.alloc (.cells cs t)) v :=
  ⟨h.on (below_new _ _), Kept2.refl _ _ _, Nx.refl _ _, Blk.new _ _ _, by rw [World.size_alloc]; omega, fun e => by have := h.lt.1; omega, fun e => by have := h.lt.2 _ e.symm; omega⟩

set_option maxHeartbeats 2000000 in
set_option maxRecDepth 100000 in
theorem writeOp_any (g : Nat) (v : Value) (st : ByteArray × Bool) (o : OpT) (w : World) (h : OutAt w g v st) :
    Calls Tryz.prog 37 #[.pointer (some ⟨g, 0, none⟩), .agg (opA o)] w fun e w' => e = .returned (.tuple #[]) ∧ OutTo w g v (writeA st (opPs o)) w' := by
  rw [writeA_op]
  obtain ⟨k0, ⟨k1, k2⟩, ⟨k3, k4⟩, ⟨k5, k6⟩, s7, s8⟩ := o
  simp only [opA]
  have HS : Hid (WrS _ g v 37 w.heap.size #[.int .i64 k0, .int .i64 k1, .int .i64 k2, .int .i64 k3, .int .i64 k4, .int .i64 k5, .int .i64 k6, .string s7, .string s8] st _ v) := WrS.new h
  have HB' : Hid (Below w.heap.size w (w.alloc (.cells #[.int .i64 k0, .int .i64 k1, .int .i64 k2, .int .i64 k3, .int .i64 k4, .int .i64 k5, .int .i64 k6, .string s7, .string s8] 37))) := below_new _ _
  clear h
  go_enter Tryz.func37, Tryz.ntmps37
  go_wp2_with fail
  obtain ⟨w0, hw0⟩ : ∃ w0, w.alloc (.cells #[.int .i64 k0, .int .i64 k1, .int .i64 k2, .int .i64 k3, .int .i64 k4, .int .i64 k5, .int .i64 k6, .string s7, .string s8] 37) = w0 := ⟨_, rfl⟩
  obtain ⟨gb, hgb⟩ : ∃ gb, w.heap.size = gb := ⟨_, rfl⟩
  rw [hw0] at HS HB'
  rw [hgb] at HS
  try rw [hw0]
  try rw [hgb]
  clear hw0 hgb
  refine (obyte_any g _ _ k0 _ HS.out.out).mono ?_
  rintro e w1 ⟨rfl, h1⟩
  obtain ⟨v1, h1⟩ := HS.out.step h1
  have H1 : Hid (WrS _ _ _ _ _ _ _ w1 v1) := h1
  have c1 : w1.cell? ⟨gb, 1, none⟩ = some (.int .i64 k1) := h1.blk.cell 1
  have c2 : w1.cell? ⟨gb, 2, none⟩ = some (.int .i64 k2) := h1.blk.cell 2
  clear HS h1
  go_wp2_with fail
  refine (ostamp_any g _ _ k1 k2 _ H1.out.out).mono ?_
  rintro e w2 ⟨rfl, h2⟩
  obtain ⟨v2, h2⟩ := H1.out.step h2
  have H2 : Hid (WrS _ _ _ _ _ _ _ w2 v2) := h2
  have c3 : w2.cell? ⟨gb, 3, none⟩ = some (.int .i64 k3) := h2.blk.cell 3
  have c4 : w2.cell? ⟨gb, 4, none⟩ = some (.int .i64 k4) := h2.blk.cell 4
  clear H1 h2 c1 c2
  go_wp2_with fail
  refine (ostamp_any g _ _ k3 k4 _ H2.out.out).mono ?_
  rintro e w3 ⟨rfl, h3⟩
  obtain ⟨v3, h3⟩ := H2.out.step h3
  have H3 : Hid (WrS _ _ _ _ _ _ _ w3 v3) := h3
  have c5 : w3.cell? ⟨gb, 5, none⟩ = some (.int .i64 k5) := h3.blk.cell 5
  have c6 : w3.cell? ⟨gb, 6, none⟩ = some (.int .i64 k6) := h3.blk.cell 6
  clear H2 h3 c3 c4
  go_wp2_with fail
  refine (ostamp_any g _ _ k5 k6 _ H3.out.out).mono ?_
  rintro e w4 ⟨rfl, h4⟩
  obtain ⟨v4, h4⟩ := H3.out.step h4
  have H4 : Hid (WrS _ _ _ _ _ _ _ w4 v4) := h4
  have c7 : w4.cell? ⟨gb, 7, none⟩ = some (.string s7) := h4.blk.cell 7
  clear H3 h4 c5 c6
  go_wp2_with fail
  refine (otext_any g _ _ s7 _ H4.out.out).mono ?_
  rintro e w5 ⟨rfl, h5⟩
  obtain ⟨v5, h5⟩ := H4.out.step h5
  have H5 : Hid (WrS _ _ _ _ _ _ _ w5 v5) := h5
  have c8 : w5.cell? ⟨gb, 8, none⟩ = some (.string s8) := h5.blk.cell 8
  clear H4 h5 c7
  go_wp2_with fail
  refine (otext_any g _ _ s8 _ H5.out.out).mono ?_
  rintro e w6 ⟨rfl, h6⟩
  obtain ⟨v6, h6⟩ := H5.out.step h6
  clear H5 c8
  go_wp2
  go_end0
  exact ⟨rfl, OutTo.behind HB'.out h6.to⟩

theorem doneP_Q (x : ByteArray × Bool) : doneP x = .tuple #[.string (doneQ x).1, .int .i64 (doneQ x).2] := by
  unfold doneP doneQ
  obtain ⟨S, b⟩ := x
  cases b <;> rfl

theorem outTo_below {w w' : World} {g : Nat} {v : Value} {o : ByteArray × Bool} (h : OutTo w g v o w') (B : Nat) (hB : B ≤ w.heap.size) (hg : B ≤ g) (hv : ∀ k, v.ownBlock = some k → B ≤ k) : Below B w w' := by
  obtain ⟨_, _, k, _⟩ := h
  exact k.below B hB hg hv

set_option maxHeartbeats 2000000 in
set_option maxRecDepth 100000 in
theorem putOp_any (M : OpT → Bool) (hM : ∀ o, M o = true ↔ MayO o) (o : OpT) (w : World) (hG : Glob8 w) (h7 : o.2.2.2.2.1.size ≤ 1048576) (h8 : o.2.2.2.2.2.size ≤ 9223372036854775807) :
    Calls Tryz.prog 9 #[.agg (opA o)] w fun e w' => e = .returned (.tuple #[.string (putOpP M o).1, .int .i64 (putOpP M o).2]) ∧ Below w.heap.size w w' := by
  have CC' : ∀ W, Below w.heap.size w W → _ := fun W hW => check_any M hM o W (hG.below hW) h7 h8
  have CW' : ∀ W g v, OutAt W g v (⟨#[]⟩, false) → _ := fun W g v hO => writeOp_any g v (⟨#[]⟩, false) o W hO
  obtain ⟨p, hp⟩ : ∃ p, putOpP M o = p := ⟨_, rfl⟩
  have HP : Hid (putOpP M o = p) := hp
  rw [hp]
  clear hp
  obtain ⟨k0, ⟨k1, k2⟩, ⟨k3, k4⟩, ⟨k5, k6⟩, s7, s8⟩ := o
  simp only [opA] at CC' CW' ⊢
  obtain ⟨X, hX⟩ : ∃ X : Bool, M (k0, (k1, k2), (k3, k4), (k5, k6), s7, s8) = X := ⟨_, rfl⟩
  simp only [hX] at CC'
  obtain ⟨st, hst⟩ : ∃ st, writeA (⟨#[]⟩, false) (opPs (k0, (k1, k2), (k3, k4), (k5, k6), s7, s8)) = st := ⟨_, rfl⟩
  simp only [hst] at CW'
  have HP2 : Hid ((if X = true then doneQ st else (⟨#[]⟩, 1)) = p) := by
    show _ = p
    rw [← HP.out]
    unfold putOpP
    rw [hX, hst]
  have CC : Hid (∀ W, Below w.heap.size w W → _) := CC'
  have CW : Hid (∀ W g v, OutAt W g v (⟨#[]⟩, false) → _) := CW'
  clear CC' CW' HP hX hst hG h7 h8
  have HB0 : Hid (Below w.heap.size w (w.alloc (.cells #[.int .i64 k0, .int .i64 k1, .int .i64 k2, .int .i64 k3, .int .i64 k4, .int .i64 k5, .int .i64 k6, .string s7, .string s8] 37))) := below_new _ _
  have HK0 : Hid (Blk (w.alloc (.cells #[.int .i64 k0, .int .i64 k1, .int .i64 k2, .int .i64 k3, .int .i64 k4, .int .i64 k5, .int .i64 k6, .string s7, .string s8] 37)) 37 w.heap.size #[.int .i64 k0, .int .i64 k1, .int .i64 k2, .int .i64 k3, .int .i64 k4, .int .i64 k5, .int .i64 k6, .string s7, .string s8]) := Blk.new _ _ _
  go_enter Tryz.func9, Tryz.ntmps9
  go_wp2_with fail
  obtain ⟨w0, hw0⟩ : ∃ w0, w.alloc (.cells #[.int .i64 k0, .int .i64 k1, .int .i64 k2, .int .i64 k3, .int .i64 k4, .int .i64 k5, .int .i64 k6, .string s7, .string s8] 37) = w0 := ⟨_, rfl⟩
  rw [hw0] at HB0 HK0
  try rw [hw0]
  clear hw0
  refine (CC.out w0 HB0.out).mono ?_
  rintro e w1 ⟨rfl, hb1⟩
  have HB1 : Hid (Below w.heap.size w w1) := below_step HB0.out (Nat.le_refl _) hb1
  have HK1 : Hid (Blk w1 37 w.heap.size #[.int .i64 k0, .int .i64 k1, .int .i64 k2, .int .i64 k3, .int .i64 k4, .int .i64 k5, .int .i64 k6, .string s7, .string s8]) := HK0.out.on hb1
  clear hb1 HB0 HK0 CC
  cases X with
  | false =>
    obtain rfl : (⟨#[]⟩, 1) = p := HP2.out
    simp only [Bool.false_eq_true, if_false]
    go_wp2
    go_ret2
    exact ⟨rfl, HB1.out⟩
  | true =>
    have hp : doneQ st = p := by have h := HP2.out; rwa [if_pos rfl] at h
    simp only [if_true]
    go_wp2_with fail
    refine (newOut_any w1).mono ?_
    rintro e w2 ⟨rfl, hO, hb2⟩
    have HO : Hid (OutAt w2 w1.heap.size (.slice none 0 0) (⟨#[]⟩, false)) := OutAt.ok.2 hO
    have hK2 := HK1.out.on hb2
    have d0 : w2.cell? ⟨w.heap.size, 0, none⟩ = some (.int .i64 k0) := hK2.cell 0
    have d1 : w2.cell? ⟨w.heap.size, 1, none⟩ = some (.int .i64 k1) := hK2.cell 1
    have d2 : w2.cell? ⟨w.heap.size, 2, none⟩ = some (.int .i64 k2) := hK2.cell 2
    have d3 : w2.cell? ⟨w.heap.size, 3, none⟩ = some (.int .i64 k3) := hK2.cell 3
    have d4 : w2.cell? ⟨w.heap.size, 4, none⟩ = some (.int .i64 k4) := hK2.cell 4
    have d5 : w2.cell? ⟨w.heap.size, 5, none⟩ = some (.int .i64 k5) := hK2.cell 5
    have d6 : w2.cell? ⟨w.heap.size, 6, none⟩ = some (.int .i64 k6) := hK2.cell 6
    have d7 : w2.cell? ⟨w.heap.size, 7, none⟩ = some (.string s7) := hK2.cell 7
    have d8 : w2.cell? ⟨w.heap.size, 8, none⟩ = some (.string s8) := hK2.cell 8
    have HB2 : Hid (Below w.heap.size w w2) := below_step HB1.out (Nat.le_refl _) hb2
    have HL : Hid (w.heap.size ≤ w1.heap.size ∧ w.heap.size ≤ w2.heap.size) := ⟨HB1.out.size, HB2.out.size⟩
    clear hO hb2 hK2 HB1 HK1
    go_wp2_with fail
    refine (CW.out w2 _ _ HO.out).mono ?_
    rintro e w3 ⟨rfl, h3⟩
    have hb3 : Below w.heap.size w w3 := HB2.out.trans (outTo_below h3 _ HL.out.2 HL.out.1 (fun k hk => by cases hk))
    obtain ⟨v3, hO3, _, _⟩ := h3
    have HO3 : Hid (OutAt w3 w1.heap.size v3 st) := hO3
    have HB3 : Hid (Below w.heap.size w w3) := hb3
    clear hO3 hb3 CW HO HB2
    go_wp2_with fail
    refine (odone_any _ v3 st w3 HO3.out).mono ?_
    rintro e w4 ⟨rfl, rfl⟩
    rw [doneP_Q, hp]
    go_wp2
    go_ret2
    exact ⟨rfl, HB3.out⟩
end Go.Proofs.YtogbkfakihnbdaaGreatDoor
