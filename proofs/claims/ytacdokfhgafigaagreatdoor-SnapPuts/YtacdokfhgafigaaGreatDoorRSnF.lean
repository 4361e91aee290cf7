import Derived.Test.YtacdokfhgafigaaGreatDoorRSnE
import Derived.Test.YtacdokfhgafigaaGreatDoorRSnA
import Derived.Test.YtacdokfhgafigaaGreatDoorSnE
/- The document's Put (layer 13). -/
namespace Go.Proofs.YtacdokfhgafigaaGreatDoor
open Go.RowKit
set_option linter.unusedSimpArgs false

theorem writeA_size (l : List (Int × Int × Int × ByteArray)) : ∀ st : ByteArray × Bool, st.1.size ≤ 65536 → (writeA st l).1.size ≤ 65536 := by
  induction l with
  | nil => exact fun st h => h
  | cons p l ih =>
    intro st h
    show (writeA (writeP st p) l).1.size ≤ 65536
    exact ih _ (by rw [writeP_eq]; exact layP_size _ _ _ h)

theorem writeA_sn (st : ByteArray × Bool) (l : List NodeT) (ops : List OpT) (b1 b2 : Int) : writeA st (snPs (l, ops, (b1, b2))) = writeA (numP (writeA (numP (stampP st b1 b2) (l.length : Int) 6 1099511627775) (l.flatMap ndPs)) (ops.length : Int) 6 1099511627775) (ops.flatMap opPs) := by
  simp [snPs, writeA, writeP, kd, pn, pm, List.foldl_append]

/-- The tree's cell, and what is written. -/
structure RpS (w : World) (h hw : Nat) (cs : Array Value) (st : ByteArray × Bool) (W : World) : Prop where
  bel : Below w.heap.size w W
  q : Blk W 27 h cs
  o : Blk W 61 hw #[.string st.1, .bool st.2]
  low : w.heap.size ≤ hw
  ne : h ≠ hw

theorem RpS.on {w : World} {h hw : Nat} {cs : Array Value} {st : ByteArray × Bool} {W W' : World} (k : RpS w h hw cs st W) (hb : Below W.heap.size W W') : RpS w h hw cs st W' := ⟨below_step k.bel (Nat.le_refl _) hb, k.q.on hb, k.o.on hb, k.low, k.ne⟩

theorem RpS.set {w : World} {h hw : Nat} {cs : Array Value} {st : ByteArray × Bool} {W : World} (k : RpS w h hw cs st W) (S : ByteArray) (b : Bool) : RpS w h hw cs (S, b) (W.setRow hw #[.string S, .bool b]) := ⟨below_setRow k.bel k.low _, k.q.setRowOther _ k.ne _, k.o.setRow _, k.low, k.ne⟩

set_option maxRecDepth 100000 in
set_option maxHeartbeats 8000000 in
theorem rput_any (M : OpT → Bool) (hM : ∀ o, M o = true ↔ MayO o) (G : Nat → Bool) (l : List NodeT) (ops : List OpT) (b1 b2 : Int) (a1 a2 : Option Addr) (c1 c2 : Nat) (w : World) (Tn : TreeT) (R : Int) (E : Bool) (p : ByteArray × Int) (hl : ops.length ≤ 40000) (hll : l.length ≤ 60000)
    (HGk : Hid (∀ k, k < l.length → (G k = true ↔ NodeOk l (b1, b2) k))) (HSZ : Hid (∀ k, k < l.length → (nL l k).2.2.1.size ≤ 1000000 ∧ (nL l k).2.2.2.size ≤ 1000000)) (HSO : Hid (∀ k, k < ops.length → (oL ops k).2.2.2.2.1.size ≤ 1000000 ∧ (oL ops k).2.2.2.2.2.size ≤ 1000000))
    (H1 : Hid (NodesAt w a1 l.length l)) (H2 : Hid (OpsAt w a2 ops.length ops)) (HE0 : Hid ((Tn, R) = ofP M G (l, ops, (b1, b2)))) (HE : Hid (E = true ↔ RiseO ops)) (HP : Hid ((if (decide (R = 0) && E) = true then doneQ (writeA (⟨#[]⟩, false) (snPs (l, ops, (b1, b2)))) else (⟨#[]⟩, 1)) = p)) :
    Calls Tryz.prog 8 #[.agg #[.slice a1 l.length c1, .slice a2 ops.length c2, .int .i64 b1, .int .i64 b2]] w fun e w' => e = .returned (.tuple #[.string p.1, .int .i64 p.2]) ∧ Below w.heap.size w w' := by
  have CM : Hid (∀ W, Below w.heap.size w W → _) := fun W hW => rmay_any M hM G l ops b1 b2 a1 a2 c1 c2 W Tn R E hl HGk (fun k hk => ⟨Nat.le_trans (HSZ.out k hk).1 (by decide), Nat.le_trans (HSZ.out k hk).2 (by decide)⟩) (fun k hk => ⟨Nat.le_trans (HSO.out k hk).1 (by decide), Nat.le_trans (HSO.out k hk).2 (by decide)⟩) (H1.out.below hW) (H2.out.below hW) HE0 HE
  have HWA := writeA_sn (⟨#[]⟩, false) l ops b1 b2
  have C1' : ∀ W, _ := fun W => rstamp_any (⟨#[]⟩, false) b1 b2 W (by decide)
  have HZ1 : (stampP (⟨#[]⟩, false) b1 b2).1.size ≤ 65536 := layP_size _ _ _ (by decide)
  obtain ⟨n1, hn1⟩ : ∃ n1, l.length = n1 := ⟨_, rfl⟩
  obtain ⟨n2, hn2⟩ : ∃ n2, ops.length = n2 := ⟨_, rfl⟩
  have HN1 : Hid (l.length = n1) := hn1
  have HN2 : Hid (ops.length = n2) := hn2
  obtain ⟨⟨S1, p1⟩, e1⟩ : ∃ q, stampP (⟨#[]⟩, false) b1 b2 = q := ⟨_, rfl⟩
  have C2' : ∀ W, _ := fun W => rnum_any (S1, p1) (n1 : Int) W (by rw [← e1]; exact HZ1)
  obtain ⟨⟨S2, p2⟩, e2⟩ : ∃ q, numP (S1, p1) (n1 : Int) 6 1099511627775 = q := ⟨_, rfl⟩
  have HZ2 : Hid (((S2, p2) : ByteArray × Bool).1.size ≤ 65536) := by show ((S2, p2) : ByteArray × Bool).1.size ≤ 65536; rw [← e2]; exact layP_size _ _ _ (by rw [← e1]; exact HZ1)
  obtain ⟨st2, hst2⟩ : ∃ q, (S2, p2) = q := ⟨_, rfl⟩
  have h3 : (writeA st2 (l.flatMap ndPs)).1.size ≤ 65536 := writeA_size _ _ (by rw [← hst2]; exact HZ2.out)
  obtain ⟨⟨S3, p3⟩, e3⟩ : ∃ q, writeA st2 (l.flatMap ndPs) = q := ⟨_, rfl⟩
  rw [e3] at h3
  have C3' : ∀ W, _ := fun W => rnum_any (S3, p3) (n2 : Int) W h3
  obtain ⟨⟨S4, p4⟩, e4⟩ : ∃ q, numP (S3, p3) (n2 : Int) 6 1099511627775 = q := ⟨_, rfl⟩
  have h4 : ((S4, p4) : ByteArray × Bool).1.size ≤ 65536 := by rw [← e4]; exact layP_size _ _ _ h3
  obtain ⟨st4, hst4⟩ : ∃ q, (S4, p4) = q := ⟨_, rfl⟩
  obtain ⟨⟨S5, p5⟩, e5⟩ : ∃ q, writeA st4 (ops.flatMap opPs) = q := ⟨_, rfl⟩
  have C5' : ∀ W, _ := fun W => rdone_any (S5, p5) W
  rw [doneP_Q] at C5'
  rw [hn1, hn2, e1, e2, hst2, e3, e4, hst4, e5] at HWA
  rw [e1] at C1'
  rw [e2] at C2'
  rw [e4] at C3'
  simp only [outV] at C1' C2' C3' C5'
  have HZ4 : Hid (st4.1.size ≤ 65536) := by show st4.1.size ≤ _; rw [← hst4]; exact h4
  rw [hst2] at HZ2
  have E3 : Hid (writeA st2 (l.flatMap ndPs) = (S3, p3)) := e3
  have E5 : Hid (writeA st4 (ops.flatMap opPs) = (S5, p5)) := e5
  have ST2 : Hid ((S2, p2) = st2) := hst2
  have ST4 : Hid ((S4, p4) = st4) := hst4
  have HP2 : Hid ((if (decide (R = 0) && E) = true then doneQ (S5, p5) else (⟨#[]⟩, 1)) = p) := by show _ = p; rw [← HWA]; exact HP.out
  have C1 : Hid (∀ W, _) := C1'
  have C2 : Hid (∀ W, _) := C2'
  have C3 : Hid (∀ W, _) := C3'
  have C5 : Hid (∀ W, _) := C5'
  simp only [hn1, hn2] at CM H1 H2 hl hll ⊢
  obtain ⟨B, hB⟩ : ∃ B, (decide (R = 0) && E) = B := ⟨_, rfl⟩
  simp only [hB] at CM HP2
  have HS0 : Hid (SpS w w.heap.size #[.slice a1 n1 c1, .slice a2 n2 c2, .int .i64 b1, .int .i64 b2] (w.alloc (.cells #[.slice a1 n1 c1, .slice a2 n2 c2, .int .i64 b1, .int .i64 b2] 27))) := ⟨below_new _ _, Blk.new _ _ _⟩
  clear hB hn1 hn2 hM HGk HE0 HE HP HWA C1' C2' C3' C5' HZ1 e1 e2 e3 e4 e5 h3 h4 hst2 hst4
  go_enter Tryz.func8, Tryz.ntmps8
  go_wp2_with fail
  obtain ⟨w0, hw0⟩ : ∃ w0, w.alloc (.cells #[.slice a1 n1 c1, .slice a2 n2 c2, .int .i64 b1, .int .i64 b2] 27) = w0 := ⟨_, rfl⟩
  obtain ⟨h, hh⟩ : ∃ h, w.heap.size = h := ⟨_, rfl⟩
  have HSa : Hid (SpS w h #[.slice a1 n1 c1, .slice a2 n2 c2, .int .i64 b1, .int .i64 b2] w0) := by show SpS _ _ _ _; rw [← hw0, ← hh]; exact HS0.out
  try rw [hw0]
  try rw [hh]
  clear hw0 hh HS0
  refine (CM.out w0 HSa.out.bel).mono ?_
  rintro e w1 ⟨rfl, hb1⟩
  have HSb : Hid (SpS w h #[.slice a1 n1 c1, .slice a2 n2 c2, .int .i64 b1, .int .i64 b2] w1) := HSa.out.on hb1
  clear hb1 HSa CM
  cases B with
  | false =>
    obtain rfl : ((⟨#[]⟩, 1) : ByteArray × Int) = p := by have h := HP2.out; simpa using h
    go_wp2_with fail
    go_ret2
    exact ⟨rfl, HSb.out.bel⟩
  | true =>
    obtain rfl : doneQ (S5, p5) = p := by have h := HP2.out; simpa using h
    clear HP2
    have q2 : w1.cell? ⟨h, 2, none⟩ = some (.int .i64 b1) := HSb.out.q.cell 2
    have q3 : w1.cell? ⟨h, 3, none⟩ = some (.int .i64 b2) := HSb.out.q.cell 3
    go_wp2_with fail
    refine (C1.out _).mono ?_
    rintro e w2 ⟨rfl, hb2⟩
    have HSc : Hid (SpS w h #[.slice a1 n1 c1, .slice a2 n2 c2, .int .i64 b1, .int .i64 b2] w2) := HSb.out.on hb2
    clear hb2 HSb C1 q2 q3
    have X1 : Blk (w2.alloc (.cells #[.string ⟨#[]⟩, .bool false] 61)) 61 w2.heap.size #[.string ⟨#[]⟩, .bool false] := Blk.new _ _ _
    have HSd : Hid (RpS w h w2.heap.size #[.slice a1 n1 c1, .slice a2 n2 c2, .int .i64 b1, .int .i64 b2] (S1, p1) ((w2.alloc (.cells #[.string ⟨#[]⟩, .bool false] 61)).setRow w2.heap.size #[.string S1, .bool p1])) := by
      have hb : Below w2.heap.size w2 ((w2.alloc (.cells #[.string ⟨#[]⟩, .bool false] 61)).setRow w2.heap.size #[.string S1, .bool p1]) := below_setRow (below_new _ _) (Nat.le_refl _) _
      exact ⟨(HSc.out.on hb).bel, (HSc.out.on hb).q, X1.setRow _, HSc.out.bel.size, by have := HSc.out.q.lt; omega⟩
    obtain ⟨W3, hW3⟩ : ∃ W3, ((w2.alloc (.cells #[.string ⟨#[]⟩, .bool false] 61)).setRow w2.heap.size #[.string S1, .bool p1]) = W3 := ⟨_, rfl⟩
    rw [hW3] at HSd
    have o0 : W3.cell? ⟨w2.heap.size, 0, none⟩ = some (.string S1) := HSd.out.o.cell 0
    have o1 : W3.cell? ⟨w2.heap.size, 1, none⟩ = some (.bool p1) := HSd.out.o.cell 1
    have q0 : W3.cell? ⟨h, 0, none⟩ = some (.slice a1 n1 c1) := HSd.out.q.cell 0
    clear HSc
    go_wp2_with (with_reducible refine wpList_storeBlk rfl 61 _ _ rfl w2.heap.size #[.string ⟨#[]⟩, .bool false] #[.string S1, .bool p1] (by with_unfolding_all rfl) (by with_unfolding_all rfl) X1 rfl (by kernel_rfl) (by kernel_rfl) ?_)
    try rw [hW3]
    obtain ⟨hw, hhw⟩ : ∃ hw, w2.heap.size = hw := ⟨_, rfl⟩
    have HSe : Hid (RpS w h hw #[.slice a1 n1 c1, .slice a2 n2 c2, .int .i64 b1, .int .i64 b2] (S1, p1) W3) := by show RpS _ _ _ _ _ _; rw [← hhw]; exact HSd.out
    try rw [hhw]
    clear hW3 hhw X1 o0 o1 q0 HSd
    refine (C2.out _).mono ?_
    rintro e w4 ⟨rfl, hb4⟩
    have HSf := HSe.out.on hb4
    have X1 := HSf.o
    have HS : Hid (RpS w h hw #[.slice a1 n1 c1, .slice a2 n2 c2, .int .i64 b1, .int .i64 b2] (writeA st2 ((l.take 0).flatMap ndPs)) (w4.setRow hw #[.string S2, .bool p2])) := by show RpS _ _ _ _ st2 _; rw [← ST2.out]; exact HSf.set _ _
    clear hb4 HSe HSf C2 ST2
    go_wp2_with (with_reducible refine wpList_storeBlk rfl 61 _ _ rfl hw #[.string S1, .bool p1] #[.string S2, .bool p2] (by with_unfolding_all rfl) (by with_unfolding_all rfl) X1 rfl (by kernel_rfl) (by kernel_rfl) ?_)
    clear X1
    go_loopw [5] (fun i wr => ∃ k : Nat, k ≤ n1 ∧ i = .int .i64 k ∧ Hid (RpS w h hw #[.slice a1 n1 c1, .slice a2 n2 c2, .int .i64 b1, .int .i64 b2] (writeA st2 ((l.take k).flatMap ndPs)) wr)) (fun i _ => n1 - (intOf i).toNat)
    case atStart => exact ⟨0, Nat.zero_le _, rfl, HS⟩
    case round =>
      clear HS
      obtain ⟨k, hk, rfl, HS⟩ := hrel
      by_cases hlt : k < n1
      · clear H2 HSO HN2 HZ4 E3 E5 ST4 C3 C5
        have b0 : (k : Int) < (n1 : Int) := by omega
        obtain ⟨b, off, rfl, _⟩ := H1.out.2.some (by omega)
        obtain ⟨x0, x1, x2, x3, x4, x5⟩ := (H1.out.below HS.out.bel).cells k hlt
        have hnx := wlistN_take l k (by rw [HN1.out]; exact hlt)
        have hz := HSZ.out k (by rw [HN1.out]; exact hlt)
        have hsz : (writeA st2 ((l.take k).flatMap ndPs)).1.size ≤ 65536 := writeA_size _ _ HZ2.out
        have hwn := writeA_nd (writeA st2 ((l.take k).flatMap ndPs)) (nL l k)
        rw [← writeA_app, ← hnx] at hwn
        obtain ⟨⟨S0, p0⟩, e0⟩ : ∃ p, writeA st2 ((l.take k).flatMap ndPs) = p := ⟨_, rfl⟩
        obtain ⟨⟨⟨k0, k1⟩, ⟨k2, k3⟩, s4, s5⟩, hkk⟩ : ∃ s, s = nL l k := ⟨_, rfl⟩
        rw [← hkk] at x0 x1 x2 x3 x4 x5 hwn hz
        rw [e0] at hwn hsz HS
        simp only at x0 x1 x2 x3 x4 x5 hwn hz
        have z0 : (S0, p0).1.size ≤ 65536 := hsz
        obtain ⟨⟨S1, p1⟩, e1⟩ : ∃ p, stampP (S0, p0) k0 k1 = p := ⟨_, rfl⟩
        have z1 : (S1, p1).1.size ≤ 65536 := by rw [← e1]; exact layP_size _ _ _ z0
        have C1' : ∀ W, _ := fun W => rstamp_any (S0, p0) k0 k1 W z0
        rw [e1] at C1' hwn
        simp only [outV] at C1'
        have C1 : Hid (∀ W, _) := C1'
        obtain ⟨⟨S2, p2⟩, e2⟩ : ∃ p, stampP (S1, p1) k2 k3 = p := ⟨_, rfl⟩
        have z2 : (S2, p2).1.size ≤ 65536 := by rw [← e2]; exact layP_size _ _ _ z1
        have C2' : ∀ W, _ := fun W => rstamp_any (S1, p1) k2 k3 W z1
        rw [e2] at C2' hwn
        simp only [outV] at C2'
        have C2 : Hid (∀ W, _) := C2'
        obtain ⟨⟨S3, p3⟩, e3⟩ : ∃ p, textP (S2, p2) s4 = p := ⟨_, rfl⟩
        have z3 : (S3, p3).1.size ≤ 65536 := by rw [← e3]; exact textP_size _ _ z2
        have C3' : ∀ W, _ := fun W => rtext_any (S2, p2) s4 W z2 hz.1
        rw [e3] at C3' hwn
        simp only [outV] at C3'
        have C3 : Hid (∀ W, _) := C3'
        obtain ⟨⟨S4, p4⟩, e4⟩ : ∃ p, textP (S3, p3) s5 = p := ⟨_, rfl⟩
        have z4 : (S4, p4).1.size ≤ 65536 := by rw [← e4]; exact textP_size _ _ z3
        have C4' : ∀ W, _ := fun W => rtext_any (S3, p3) s5 W z3 hz.2
        rw [e4] at C4' hwn
        simp only [outV] at C4'
        have C4 : Hid (∀ W, _) := C4'
        have HWN : Hid (writeA st2 ((l.take (k + 1)).flatMap ndPs) = (S4, p4)) := hwn
        have q0 : wr.cell? ⟨h, 0, none⟩ = some (.slice (some ⟨b, off, none⟩) n1 c1) := HS.out.q.cell 0
        have X1 : Blk (wr.alloc (.cells #[.int .i64 0, .int .i64 0, .int .i64 0, .int .i64 0, .string ⟨#[]⟩, .string ⟨#[]⟩] 38)) 38 wr.heap.size #[.int .i64 0, .int .i64 0, .int .i64 0, .int .i64 0, .string ⟨#[]⟩, .string ⟨#[]⟩] := Blk.new _ _ _
        have HY : Hid (Blk ((wr.alloc (.cells #[.int .i64 0, .int .i64 0, .int .i64 0, .int .i64 0, .string ⟨#[]⟩, .string ⟨#[]⟩] 38)).setRow wr.heap.size #[.int .i64 k0, .int .i64 k1, .int .i64 k2, .int .i64 k3, .string s4, .string s5]) 38 wr.heap.size #[.int .i64 k0, .int .i64 k1, .int .i64 k2, .int .i64 k3, .string s4, .string s5]) := X1.setRow _
        have HW : Hid (RpS w h hw #[.slice (some ⟨b, off, none⟩) n1 c1, .slice a2 n2 c2, .int .i64 b1, .int .i64 b2] (S0, p0) ((wr.alloc (.cells #[.int .i64 0, .int .i64 0, .int .i64 0, .int .i64 0, .string ⟨#[]⟩, .string ⟨#[]⟩] 38)).setRow wr.heap.size #[.int .i64 k0, .int .i64 k1, .int .i64 k2, .int .i64 k3, .string s4, .string s5])) := HS.out.on (below_setRow (below_new _ _) (Nat.le_refl _) _)
        obtain ⟨W0, hW0⟩ : ∃ W0, ((wr.alloc (.cells #[.int .i64 0, .int .i64 0, .int .i64 0, .int .i64 0, .string ⟨#[]⟩, .string ⟨#[]⟩] 38)).setRow wr.heap.size #[.int .i64 k0, .int .i64 k1, .int .i64 k2, .int .i64 k3, .string s4, .string s5]) = W0 := ⟨_, rfl⟩
        rw [hW0] at HY HW
        have o0 : W0.cell? ⟨hw, 0, none⟩ = some (.string S0) := HW.out.o.cell 0
        have o1 : W0.cell? ⟨hw, 1, none⟩ = some (.bool p0) := HW.out.o.cell 1
        have y0 : W0.cell? ⟨wr.heap.size, 0, none⟩ = some (.int .i64 k0) := HY.out.cell 0
        have y1 : W0.cell? ⟨wr.heap.size, 1, none⟩ = some (.int .i64 k1) := HY.out.cell 1
        have hwl : hw < wr.heap.size := HS.out.o.lt
        clear e0 e1 e2 e3 e4 C1' C2' C3' C4' z0 z1 z2 z3 z4 hz hsz hwn hkk hnx HS
        go_wp2_with (with_reducible refine wpList_storeBlk rfl 38 _ _ rfl wr.heap.size #[.int .i64 0, .int .i64 0, .int .i64 0, .int .i64 0, .string ⟨#[]⟩, .string ⟨#[]⟩] #[.int .i64 k0, .int .i64 k1, .int .i64 k2, .int .i64 k3, .string s4, .string s5] (by with_unfolding_all rfl) (by with_unfolding_all rfl) X1 rfl (by kernel_rfl) (by kernel_rfl) ?_)
        try rw [hW0]
        obtain ⟨hn, hhn⟩ : ∃ hn, wr.heap.size = hn := ⟨_, rfl⟩
        have HYn : Hid (Blk W0 38 hn #[.int .i64 k0, .int .i64 k1, .int .i64 k2, .int .i64 k3, .string s4, .string s5]) := by show Blk _ _ _ _; rw [← hhn]; exact HY.out
        have hne : hn ≠ hw := by omega
        try rw [hhn]
        clear hW0 hhn hwl X1 HY q0 x0 x1 x2 x3 x4 x5 o0 o1 y0 y1
        refine (C1.out _).mono ?_
        rintro e U1 ⟨rfl, hb⟩
        have HU := HW.out.on hb
        have HYu := HYn.out.on hb
        clear hb C1 HW HYn
        have X1 := HU.o
        have HW : Hid (RpS w h hw #[.slice (some ⟨b, off, none⟩) n1 c1, .slice a2 n2 c2, .int .i64 b1, .int .i64 b2] (S1, p1) (U1.setRow hw #[.string S1, .bool p1])) := HU.set _ _
        have HYn : Hid (Blk (U1.setRow hw #[.string S1, .bool p1]) 38 hn #[.int .i64 k0, .int .i64 k1, .int .i64 k2, .int .i64 k3, .string s4, .string s5]) := HYu.setRowOther _ hne _
        have o0 : (U1.setRow hw #[.string S1, .bool p1]).cell? ⟨hw, 0, none⟩ = some (.string S1) := HW.out.o.cell 0
        have o1 : (U1.setRow hw #[.string S1, .bool p1]).cell? ⟨hw, 1, none⟩ = some (.bool p1) := HW.out.o.cell 1
        have y2 : (U1.setRow hw #[.string S1, .bool p1]).cell? ⟨hn, 2, none⟩ = some (.int .i64 k2) := HYn.out.cell 2
        have y3 : (U1.setRow hw #[.string S1, .bool p1]).cell? ⟨hn, 3, none⟩ = some (.int .i64 k3) := HYn.out.cell 3
        clear HYu HU
        go_wp2_with (with_reducible refine wpList_storeBlk rfl 61 _ _ rfl hw #[.string S0, .bool p0] #[.string S1, .bool p1] (by with_unfolding_all rfl) (by with_unfolding_all rfl) X1 rfl (by kernel_rfl) (by kernel_rfl) ?_)
        clear X1 o0 o1 y2 y3
        refine (C2.out _).mono ?_
        rintro e U2 ⟨rfl, hb⟩
        have HU := HW.out.on hb
        have HYu := HYn.out.on hb
        clear hb C2 HW HYn
        have X1 := HU.o
        have HW : Hid (RpS w h hw #[.slice (some ⟨b, off, none⟩) n1 c1, .slice a2 n2 c2, .int .i64 b1, .int .i64 b2] (S2, p2) (U2.setRow hw #[.string S2, .bool p2])) := HU.set _ _
        have HYn : Hid (Blk (U2.setRow hw #[.string S2, .bool p2]) 38 hn #[.int .i64 k0, .int .i64 k1, .int .i64 k2, .int .i64 k3, .string s4, .string s5]) := HYu.setRowOther _ hne _
        have o0 : (U2.setRow hw #[.string S2, .bool p2]).cell? ⟨hw, 0, none⟩ = some (.string S2) := HW.out.o.cell 0
        have o1 : (U2.setRow hw #[.string S2, .bool p2]).cell? ⟨hw, 1, none⟩ = some (.bool p2) := HW.out.o.cell 1
        have y4 : (U2.setRow hw #[.string S2, .bool p2]).cell? ⟨hn, 4, none⟩ = some (.string s4) := HYn.out.cell 4
        clear HYu HU
        go_wp2_with (with_reducible refine wpList_storeBlk rfl 61 _ _ rfl hw #[.string S1, .bool p1] #[.string S2, .bool p2] (by with_unfolding_all rfl) (by with_unfolding_all rfl) X1 rfl (by kernel_rfl) (by kernel_rfl) ?_)
        clear X1 o0 o1 y4
        refine (C3.out _).mono ?_
        rintro e U3 ⟨rfl, hb⟩
        have HU := HW.out.on hb
        have HYu := HYn.out.on hb
        clear hb C3 HW HYn
        have X1 := HU.o
        have HW : Hid (RpS w h hw #[.slice (some ⟨b, off, none⟩) n1 c1, .slice a2 n2 c2, .int .i64 b1, .int .i64 b2] (S3, p3) (U3.setRow hw #[.string S3, .bool p3])) := HU.set _ _
        have HYn : Hid (Blk (U3.setRow hw #[.string S3, .bool p3]) 38 hn #[.int .i64 k0, .int .i64 k1, .int .i64 k2, .int .i64 k3, .string s4, .string s5]) := HYu.setRowOther _ hne _
        have o0 : (U3.setRow hw #[.string S3, .bool p3]).cell? ⟨hw, 0, none⟩ = some (.string S3) := HW.out.o.cell 0
        have o1 : (U3.setRow hw #[.string S3, .bool p3]).cell? ⟨hw, 1, none⟩ = some (.bool p3) := HW.out.o.cell 1
        have y5 : (U3.setRow hw #[.string S3, .bool p3]).cell? ⟨hn, 5, none⟩ = some (.string s5) := HYn.out.cell 5
        clear HYu HU
        go_wp2_with (with_reducible refine wpList_storeBlk rfl 61 _ _ rfl hw #[.string S2, .bool p2] #[.string S3, .bool p3] (by with_unfolding_all rfl) (by with_unfolding_all rfl) X1 rfl (by kernel_rfl) (by kernel_rfl) ?_)
        clear X1 o0 o1 y5
        refine (C4.out _).mono ?_
        rintro e U4 ⟨rfl, hb⟩
        have HU := HW.out.on hb
        have HYu := HYn.out.on hb
        clear hb C4 HW HYn
        have X1 := HU.o
        have HW : Hid (RpS w h hw #[.slice (some ⟨b, off, none⟩) n1 c1, .slice a2 n2 c2, .int .i64 b1, .int .i64 b2] (S4, p4) (U4.setRow hw #[.string S4, .bool p4])) := HU.set _ _
        have HYn : Hid (Blk (U4.setRow hw #[.string S4, .bool p4]) 38 hn #[.int .i64 k0, .int .i64 k1, .int .i64 k2, .int .i64 k3, .string s4, .string s5]) := HYu.setRowOther _ hne _
        have HS : Hid (RpS w h hw #[.slice (some ⟨b, off, none⟩) n1 c1, .slice a2 n2 c2, .int .i64 b1, .int .i64 b2] (writeA st2 ((l.take (k + 1)).flatMap ndPs)) (U4.setRow hw #[.string S4, .bool p4])) := by show RpS _ _ _ _ _ _; rw [HWN.out]; exact HW.out
        clear HYu HU HWN HW HYn
        go_wp2_with (with_reducible refine wpList_storeBlk rfl 61 _ _ rfl hw #[.string S3, .bool p3] #[.string S4, .bool p4] (by with_unfolding_all rfl) (by with_unfolding_all rfl) X1 rfl (by kernel_rfl) (by kernel_rfl) ?_)
        clear X1
        refine ⟨?_, ?_⟩
        · first
          | exact ⟨k + 1, by omega, by go_num, HS⟩
          | ((repeat apply Exists.intro); refine ⟨?_, rfl⟩; exact ⟨k + 1, by omega, by go_num, HS⟩)
        · simp [intOf] <;> omega
      · have b0 : ¬ ((k : Int) < (n1 : Int)) := by omega
        have hT := HS.out
        rw [List.take_of_length_le (by rw [HN1.out]; omega), E3.out] at hT
        have q0 : wr.cell? ⟨h, 0, none⟩ = some (.slice a1 n1 c1) := hT.q.cell 0
        have q1 : wr.cell? ⟨h, 1, none⟩ = some (.slice a2 n2 c2) := hT.q.cell 1
        have o0 : wr.cell? ⟨hw, 0, none⟩ = some (.string S3) := hT.o.cell 0
        have o1 : wr.cell? ⟨hw, 1, none⟩ = some (.bool p3) := hT.o.cell 1
        have HT : Hid (RpS w h hw #[.slice a1 n1 c1, .slice a2 n2 c2, .int .i64 b1, .int .i64 b2] (S3, p3) wr) := hT
        clear hT HS E3 H1 HSZ HN1 HZ2
        go_wp2_with fail
        refine (C3.out _).mono ?_
        rintro e w5 ⟨rfl, hb5⟩
        have HSf := HT.out.on hb5
        have X1 := HSf.o
        have HS : Hid (RpS w h hw #[.slice a1 n1 c1, .slice a2 n2 c2, .int .i64 b1, .int .i64 b2] (writeA st4 ((ops.take 0).flatMap opPs)) (w5.setRow hw #[.string S4, .bool p4])) := by show RpS _ _ _ _ st4 _; rw [← ST4.out]; exact HSf.set _ _
        clear hb5 HT HSf C3 ST4 q0 q1 o0 o1
        go_wp2_with (with_reducible refine wpList_storeBlk rfl 61 _ _ rfl hw #[.string S3, .bool p3] #[.string S4, .bool p4] (by with_unfolding_all rfl) (by with_unfolding_all rfl) X1 rfl (by kernel_rfl) (by kernel_rfl) ?_)
        clear X1
        go_loopw [7] (fun i wr => ∃ k : Nat, k ≤ n2 ∧ i = .int .i64 k ∧ Hid (RpS w h hw #[.slice a1 n1 c1, .slice a2 n2 c2, .int .i64 b1, .int .i64 b2] (writeA st4 ((ops.take k).flatMap opPs)) wr)) (fun i _ => n2 - (intOf i).toNat)
        case atStart => exact ⟨0, Nat.zero_le _, rfl, HS⟩
        case round =>
          clear HS
          rename_i hrel
          obtain ⟨k, hk, rfl, HS⟩ := hrel
          by_cases hlt : k < n2
          · clear E5 C5
            have b0 : (k : Int) < (n2 : Int) := by omega
            obtain ⟨b, off, rfl, _⟩ := H2.out.2.some (by omega)
            obtain ⟨x0, x1, x2, x3, x4, x5, x6, x7, x8⟩ := (H2.out.below HS.out.bel).cells k hlt
            have hnx := wlistO_take ops k (by rw [HN2.out]; exact hlt)
            have hz := HSO.out k (by rw [HN2.out]; exact hlt)
            have hsz : (writeA st4 ((ops.take k).flatMap opPs)).1.size ≤ 65536 := writeA_size _ _ HZ4.out
            have CP' : ∀ W, _ := fun W => rop_any (writeA st4 ((ops.take k).flatMap opPs)) (oL ops k) W hsz hz.1 hz.2
            simp only [← writeA_app, ← hnx] at CP'
            obtain ⟨⟨S0, p0⟩, e0⟩ : ∃ p, writeA st4 ((ops.take k).flatMap opPs) = p := ⟨_, rfl⟩
            obtain ⟨⟨S1, p1⟩, e1⟩ : ∃ p, writeA st4 ((ops.take (k + 1)).flatMap opPs) = p := ⟨_, rfl⟩
            have HWN : Hid (writeA st4 ((ops.take (k + 1)).flatMap opPs) = (S1, p1)) := e1
            obtain ⟨⟨k0, ⟨k1, k2⟩, ⟨k3, k4⟩, ⟨k5, k6⟩, s7, s8⟩, hkk⟩ : ∃ s, s = oL ops k := ⟨_, rfl⟩
            rw [e0] at HS
            simp only [e0, e1, ← hkk, opA, outV] at CP'
            rw [← hkk] at x0 x1 x2 x3 x4 x5 x6 x7 x8
            simp only at x0 x1 x2 x3 x4 x5 x6 x7 x8
            have CP : Hid (∀ W, _) := CP'
            have q1 : wr.cell? ⟨h, 1, none⟩ = some (.slice (some ⟨b, off, none⟩) n2 c2) := HS.out.q.cell 1
            have o0 : wr.cell? ⟨hw, 0, none⟩ = some (.string S0) := HS.out.o.cell 0
            have o1 : wr.cell? ⟨hw, 1, none⟩ = some (.bool p0) := HS.out.o.cell 1
            clear CP' e0 e1 hkk hnx hz hsz
            go_wp2_with fail
            refine wp_region_noPanic ?_
            refine till_begin 6 (fun W' => (W'.cell? ⟨hw, 0, none⟩ = some (.string S0) ∧ W'.cell? ⟨hw, 1, none⟩ = some (.bool p0) ∧ W'.cell? ⟨h, 1, none⟩ = some (.slice (some ⟨b, off, none⟩) n2 c2)) ∧ (W'.cell? ⟨b, off + k * 9, none⟩ = some (.int .i64 k0) ∧ W'.cell? ⟨b, off + k * 9 + 1, none⟩ = some (.int .i64 k1) ∧ W'.cell? ⟨b, off + k * 9 + 2, none⟩ = some (.int .i64 k2) ∧ W'.cell? ⟨b, off + k * 9 + 3, none⟩ = some (.int .i64 k3) ∧ W'.cell? ⟨b, off + k * 9 + 4, none⟩ = some (.int .i64 k4) ∧ W'.cell? ⟨b, off + k * 9 + 5, none⟩ = some (.int .i64 k5) ∧ W'.cell? ⟨b, off + k * 9 + 6, none⟩ = some (.int .i64 k6) ∧ W'.cell? ⟨b, off + k * 9 + 7, none⟩ = some (.string s7) ∧ W'.cell? ⟨b, off + k * 9 + 8, none⟩ = some (.string s8))) (fun W' => W'.cell? ⟨h, 1, none⟩ = some (.slice (some ⟨b, off, none⟩) n2 c2)) (by kernel_rfl) ?_
            have hT : wr.drew.cell? ⟨h, 1, none⟩ = some (.slice (some ⟨b, off, none⟩) n2 c2) := q1
            have hS : (wr.drew.cell? ⟨hw, 0, none⟩ = some (.string S0) ∧ wr.drew.cell? ⟨hw, 1, none⟩ = some (.bool p0) ∧ wr.drew.cell? ⟨h, 1, none⟩ = some (.slice (some ⟨b, off, none⟩) n2 c2)) ∧ (wr.drew.cell? ⟨b, off + k * 9, none⟩ = some (.int .i64 k0) ∧ wr.drew.cell? ⟨b, off + k * 9 + 1, none⟩ = some (.int .i64 k1) ∧ wr.drew.cell? ⟨b, off + k * 9 + 2, none⟩ = some (.int .i64 k2) ∧ wr.drew.cell? ⟨b, off + k * 9 + 3, none⟩ = some (.int .i64 k3) ∧ wr.drew.cell? ⟨b, off + k * 9 + 4, none⟩ = some (.int .i64 k4) ∧ wr.drew.cell? ⟨b, off + k * 9 + 5, none⟩ = some (.int .i64 k5) ∧ wr.drew.cell? ⟨b, off + k * 9 + 6, none⟩ = some (.int .i64 k6) ∧ wr.drew.cell? ⟨b, off + k * 9 + 7, none⟩ = some (.string s7) ∧ wr.drew.cell? ⟨b, off + k * 9 + 8, none⟩ = some (.string s8)) := ⟨⟨o0, o1, q1⟩, x0, x1, x2, x3, x4, x5, x6, x7, x8⟩
            refine till_take' (i := 0) (v := ?_) rfl rfl (by kernel_rfl) (by kernel_rfl) (by kernel_rfl) rfl (by kernel_rfl) (by kernel_rfl) (fun _ _ _ h => h) (Or.inl ⟨by rfl, ?_⟩) (by assumption) (by assumption) ?_
            rotate_left
            · intro w hSw; (try dsimp only at hSw); go_simp; try with_reducible rfl
            try simp only [Act.put, za, zb, zc]
            refine till_take (i := 1) (v := ?_) rfl rfl (by kernel_rfl) (by kernel_rfl) (by kernel_rfl) rfl (fun _ _ _ h => h) (Or.inl ⟨by rfl, ?_⟩) (by assumption) (fun _ => by assumption) ?_
            rotate_left
            · intro w hSw; (try dsimp only at hSw); go_simp; try with_reducible rfl
            try simp only [Act.put, za, zb, zc]
            refine till_take (i := 2) (v := ?_) rfl rfl (by kernel_rfl) (by kernel_rfl) (by kernel_rfl) rfl (fun _ _ _ h => h) (Or.inl ⟨by rfl, ?_⟩) (by assumption) (fun _ => by assumption) ?_
            rotate_left
            · intro w hSw; (try dsimp only at hSw); go_simp; try with_reducible rfl
            try simp only [Act.put, za, zb, zc]
            refine till_take (i := 3) (v := ?_) rfl rfl (by kernel_rfl) (by kernel_rfl) (by kernel_rfl) rfl (fun _ _ _ h => h) (Or.inl ⟨by rfl, ?_⟩) (by assumption) (fun _ => by assumption) ?_
            rotate_left
            · intro w hSw; (try dsimp only at hSw); go_simp; try with_reducible rfl
            try simp only [Act.put, za, zb, zc]
            refine till_take (i := 4) (v := ?_) rfl rfl (by kernel_rfl) (by kernel_rfl) (by kernel_rfl) rfl (fun _ _ _ h => h) (Or.inl ⟨by rfl, ?_⟩) (by assumption) (fun _ => by assumption) ?_
            rotate_left
            · intro w hSw; (try dsimp only at hSw); go_simp; try with_reducible rfl
            try simp only [Act.put, za, zb, zc]
            refine till_take' (i := 5) (v := ?_) rfl rfl (by kernel_rfl) (by kernel_rfl) (by kernel_rfl) rfl (by kernel_rfl) (by kernel_rfl) (fun _ _ _ h => h) (Or.inl ⟨by rfl, ?_⟩) (by assumption) (by assumption) ?_
            rotate_left
            · intro w hSw; (try dsimp only at hSw); go_simp; try with_reducible rfl
            try simp only [Act.put, za, zb, zc]
            refine till_step (i := 6) (by kernel_rfl) rfl (fun K hK => ?_)
            go_simp
            refine (CP.out _).mono ?_
            rintro e w3 ⟨rfl, hb3⟩
            have HS3 : Hid (RpS w h hw #[.slice a1 n1 c1, .slice (some ⟨b, off, none⟩) n2 c2, .int .i64 b1, .int .i64 b2] (S0, p0) w3) := HS.out.on (below_step (Below.refl _ _).drew (Nat.le_refl _) hb3)
            clear hb3 hS CP HS q1 o0 o1 x0 x1 x2 x3 x4 x5 x6 x7 x8 hT
            refine hK.out _ _ (HS3.out.q.cell 1) (fun h => till_no (by kernel_rfl) h) ?_
            clear hK K
            refine till_step (i := 7) (by kernel_rfl) rfl (fun K hK => ?_)
            refine step_storeRow rfl rfl 61 _ _ rfl hw #[.string S0, .bool p0] #[.string S1, .bool p1] rfl rfl HS3.out.o rfl (by kernel_rfl) (by simp [Value.oneCell']) ?_
            have HS : Hid (RpS w h hw #[.slice a1 n1 c1, .slice (some ⟨b, off, none⟩) n2 c2, .int .i64 b1, .int .i64 b2] (writeA st4 ((ops.take (k + 1)).flatMap opPs)) (w3.setRow hw #[.string S1, .bool p1])) := by show RpS _ _ _ _ _ _; rw [HWN.out]; exact HS3.out.set _ _
            clear HS3 HWN
            refine hK.out _ _ (HS.out.q.cell 1) (fun h => till_no (by kernel_rfl) h) ?_
            clear hK K
            refine till_done (by kernel_rfl) (NoPanic.normal ?_) _
            go_wp2_with fail
            refine ⟨?_, ?_⟩
            · first
              | exact ⟨k + 1, by omega, by go_num, HS⟩
              | ((repeat apply Exists.intro); refine ⟨?_, rfl⟩; exact ⟨k + 1, by omega, by go_num, HS⟩)
            · simp [intOf] <;> omega
          · have b0 : ¬ ((k : Int) < (n2 : Int)) := by omega
            have hT := HS.out
            rw [List.take_of_length_le (by rw [HN2.out]; omega), E5.out] at hT
            have q1 : wr.cell? ⟨h, 1, none⟩ = some (.slice a2 n2 c2) := hT.q.cell 1
            have o0 : wr.cell? ⟨hw, 0, none⟩ = some (.string S5) := hT.o.cell 0
            have o1 : wr.cell? ⟨hw, 1, none⟩ = some (.bool p5) := hT.o.cell 1
            have HT : Hid (Below w.heap.size w wr) := hT.bel
            clear hT HS E5 H2 HSO HN2 HZ4
            go_wp2_with fail
            refine (C5.out _).mono ?_
            rintro e w6 ⟨rfl, hb6⟩
            have HB := below_step HT.out (Nat.le_refl _) hb6
            clear C5 hb6 HT q1 o0 o1
            go_wp2_with fail
            go_ret2
            exact ⟨rfl, HB⟩
end Go.Proofs.YtacdokfhgafigaaGreatDoor
