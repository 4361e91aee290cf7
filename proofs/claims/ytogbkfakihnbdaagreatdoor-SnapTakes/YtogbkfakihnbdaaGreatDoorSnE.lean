import Derived.Test.YtogbkfakihnbdaaGreatDoorSnD
import Derived.Test.YtogbkfakihnbdaaGreatDoorTmOg
/- The code's Put (layer 13). -/
namespace Go.Proofs.YtogbkfakihnbdaaGreatDoor
open Go.RowKit
set_option linter.unusedSimpArgs false

/-- The parts of a tree. -/
def snPs (t : TreeT) : List (Int × Int × Int × ByteArray) := (3, t.2.2.1, t.2.2.2, ⟨#[]⟩) :: (((2, (t.1.length : Int), 0, ⟨#[]⟩) :: t.1.flatMap ndPs) ++ ((2, (t.2.1.length : Int), 0, ⟨#[]⟩) :: t.2.1.flatMap opPs))

/-- A tree as bytes, as the code puts it. (D: may its nodes be; E: do its operations rise.) -/
def putSP (M : OpT → Bool) (D E : Bool) (t : TreeT) : ByteArray × Int := if (codeP M D t).2 ≠ 0 ∨ E = false then (⟨#[]⟩, 1) else doneQ (writeA (⟨#[]⟩, false) (snPs t))

set_option maxHeartbeats 8000000 in
set_option maxRecDepth 100000 in
theorem put_any (M : OpT → Bool) (hM : ∀ o, M o = true ↔ MayO o) (l : List NodeT) (ops : List OpT) (b1 b2 : Int) (a1 a2 : Option Addr) (c1 c2 : Nat) (w : World) (D E : Bool) (hl : ops.length ≤ 40000) (hll : l.length ≤ 60000)
    (HD : Hid (D = true ↔ (l.length ≤ 512 ∧ RiseN l ∧ (∀ k, k < l.length → FixH (b1, b2) (nL l k)) ∧ FixC l))) (HE : Hid (E = true ↔ RiseO ops)) (HSZ : Hid (∀ k, k < l.length → (nL l k).2.2.1.size ≤ 1048576 ∧ (nL l k).2.2.2.size ≤ 9223372036854775807)) (HSO : Hid (∀ k, k < ops.length → (oL ops k).2.2.2.2.1.size ≤ 1048576 ∧ (oL ops k).2.2.2.2.2.size ≤ 9223372036854775807))
    (H1 : Hid (NodesAt w a1 l.length l)) (H2 : Hid (OpsAt w a2 ops.length ops)) (HGl : Hid (Glob8 w)) :
    Calls Tryz.prog 8 #[.agg #[.slice a1 l.length c1, .slice a2 ops.length c2, .int .i64 b1, .int .i64 b2]] w fun e w' => e = .returned (.tuple #[.string (putSP M D E (l, ops, (b1, b2))).1, .int .i64 (putSP M D E (l, ops, (b1, b2))).2]) ∧ Below w.heap.size w w' := by
  have hmf : ∀ (fn : Fn) (first cap : Array Value) (w : World), (Instr.makeFunc fn first cap).run Tryz.prog w = .ok (.func fn first cap) w := fun _ _ _ _ => rfl
  obtain ⟨⟨Tn, R⟩, hTR⟩ : ∃ x, codeP M D (l, ops, (b1, b2)) = x := ⟨_, rfl⟩
  obtain ⟨p, hp⟩ : ∃ p, putSP M D E (l, ops, (b1, b2)) = p := ⟨_, rfl⟩
  have HP : Hid ((if R ≠ 0 ∨ E = false then (⟨#[]⟩, 1) else doneQ (writeA (⟨#[]⟩, false) (snPs (l, ops, (b1, b2))))) = p) := by
    show _ = p
    rw [← hp]
    unfold putSP
    rw [hTR]
  rw [hp]
  have CO : Hid (∀ W, Below w.heap.size w W → _) := fun W hW => of_any M hM l ops b1 b2 a1 a2 c1 c2 W Tn R D hl hll HD HSZ HSO (H1.out.below hW) (H2.out.below hW) (HGl.out.below hW) hTR.symm
  have CR : Hid (∀ W, Below w.heap.size w W → _) := fun W hW => riseO_any ops a2 ops.length c2 W (by omega) (H2.out.below hW) E HE.out
  have CN : Hid (∀ (w0 : World) (g hc : Nat) (v : Value) (st : ByteArray × Bool) (W : World), Below w.heap.size w w0 → PutS w0 g hc v st W → _) := fun w0 g hc v st W hb hP => wlistN_any l a1 l.length c1 w0 g hc v st W hll (H1.out.below hb) hP
  have CP : Hid (∀ (w0 : World) (g hc : Nat) (v : Value) (st : ByteArray × Bool) (W : World), Below w.heap.size w w0 → PutS w0 g hc v st W → _) := fun w0 g hc v st W hb hP => wlistO_any ops a2 ops.length c2 w0 g hc v st W (by omega) (H2.out.below hb) hP
  have HST : Hid (writeA (writeA (stampP (⟨#[]⟩, false) b1 b2) ((2, (l.length : Int), 0, ⟨#[]⟩) :: l.flatMap ndPs)) ((2, (ops.length : Int), 0, ⟨#[]⟩) :: ops.flatMap opPs) = writeA (⟨#[]⟩, false) (snPs (l, ops, (b1, b2)))) := by
    show _ = _
    rw [← writeA_app]
    unfold snPs
    simp [writeA, writeP, kd, pn, pm]
  obtain ⟨sf, hsf⟩ : ∃ sf, writeA (⟨#[]⟩, false) (snPs (l, ops, (b1, b2))) = sf := ⟨_, rfl⟩
  rw [hsf] at HP HST
  obtain ⟨sa, hsa⟩ : ∃ sa, stampP (⟨#[]⟩, false) b1 b2 = sa := ⟨_, rfl⟩
  rw [hsa] at HST
  have HSA : Hid (stampP (⟨#[]⟩, false) b1 b2 = sa) := hsa
  obtain ⟨n1, hn1⟩ : ∃ n1, l.length = n1 := ⟨_, rfl⟩
  obtain ⟨n2, hn2⟩ : ∃ n2, ops.length = n2 := ⟨_, rfl⟩
  have HN1 : Hid (l.length = n1) := hn1
  have HN2 : Hid (ops.length = n2) := hn2
  simp only [hn1, hn2] at CO CR CN CP HST hl hll ⊢
  clear hTR hp hsf hsa hn1 hn2 HD HE HSZ HSO H1 H2 HGl hM
  have HB0 : Hid (Below w.heap.size w (w.alloc (.cells #[.slice a1 n1 c1, .slice a2 n2 c2, .int .i64 b1, .int .i64 b2] 28))) := below_new _ _
  have HK0 : Hid (Blk (w.alloc (.cells #[.slice a1 n1 c1, .slice a2 n2 c2, .int .i64 b1, .int .i64 b2] 28)) 28 w.heap.size #[.slice a1 n1 c1, .slice a2 n2 c2, .int .i64 b1, .int .i64 b2]) := Blk.new _ _ _
  go_enter Tryz.func8, Tryz.ntmps8
  go_wp2_with fail
  obtain ⟨w0, hw0⟩ : ∃ w0, w.alloc (.cells #[.slice a1 n1 c1, .slice a2 n2 c2, .int .i64 b1, .int .i64 b2] 28) = w0 := ⟨_, rfl⟩
  obtain ⟨h0, hh0⟩ : ∃ h0, w.heap.size = h0 := ⟨_, rfl⟩
  rw [hw0] at HB0 HK0
  rw [hh0] at HK0
  have HL0 : Hid (h0 < w0.heap.size) := HK0.out.lt
  try rw [hw0]
  try rw [hh0]
  clear hw0 hh0
  refine (CO.out w0 HB0.out).mono ?_
  rintro e w1 ⟨hb1, v1, rfl, _, _⟩
  have HB1 : Hid (Below w0.heap.size w0 w1) := hb1
  have hK1 := HK0.out.on hb1
  have c1' : w1.cell? ⟨h0, 1, none⟩ = some (.slice a2 n2 c2) := hK1.cell 1
  have HBw : Hid (∀ W, Below w0.heap.size w0 W → Below w.heap.size w W) := fun W hW => below_step HB0.out (Nat.le_refl _) hW
  clear CO hb1 hK1
  by_cases hR : R = 0
  · subst hR
    have HR := HP
    go_wp2_with fail
    refine (CR.out w1 (HBw.out _ HB1.out)).mono ?_
    rintro e w2 ⟨rfl, hb2⟩
    have HB2 : Hid (Below w0.heap.size w0 w2) := below_step HB1.out (Nat.le_refl _) hb2
    clear CR hb2 HB1 c1'
    cases E with
    | false =>
      obtain rfl : (⟨#[]⟩, 1) = p := by have h := HP.out; rwa [if_pos (.inr rfl)] at h
      go_wp2
      go_ret2
      exact ⟨rfl, HBw.out _ HB2.out⟩
    | true =>
      have hp : doneQ sf = p := by have h := HP.out; rwa [if_neg (by simp)] at h
      have HPP : Hid (doneQ sf = p) := hp
      clear hp HP HR
      go_wp2_with fail
      refine (newOut_any w2).mono ?_
      rintro e w3 ⟨rfl, hO, hb3⟩
      have HO3 : Hid (OutAt w3 w2.heap.size (.slice none 0 0) (⟨#[]⟩, false)) := OutAt.ok.2 hO
      have HB3 : Hid (Below w0.heap.size w0 w3) := below_step HB2.out (Nat.le_refl _) hb3
      have HG3 : Hid (w0.heap.size ≤ w2.heap.size ∧ w2.heap.size < w3.heap.size) := ⟨HB2.out.size, HO3.out.lt.1⟩
      clear hO hb3 HB2
      have HS4 : Hid (PutS w0 w2.heap.size w3.heap.size (.slice none 0 0) (⟨#[]⟩, false) (w3.alloc (.cells #[.pointer (some ⟨w2.heap.size, 0, none⟩)] 72))) := by
        have h1 := HG3.out
        exact ⟨HO3.out.on (below_new _ _), Blk.new _ _ _, below_step HB3.out (Nat.le_refl _) (below_new _ _), h1.1, (by omega), (fun k hk => by cases hk), (by omega), (fun e => by cases e)⟩
      have hK4 := HK0.out.on HS4.out.bel
      have q2 : (w3.alloc (.cells #[.pointer (some ⟨w2.heap.size, 0, none⟩)] 72)).cell? ⟨h0, 2, none⟩ = some (.int .i64 b1) := hK4.cell 2
      have q3 : (w3.alloc (.cells #[.pointer (some ⟨w2.heap.size, 0, none⟩)] 72)).cell? ⟨h0, 3, none⟩ = some (.int .i64 b2) := hK4.cell 3
      clear hK4 HO3 HB3 HG3
      go_wp2_with fail
      clear q2 q3
      obtain ⟨w4, hw4⟩ : ∃ w4, (w3.alloc (.cells #[.pointer (some ⟨w2.heap.size, 0, none⟩)] 72)) = w4 := ⟨_, rfl⟩
      obtain ⟨g, hg⟩ : ∃ g, w2.heap.size = g := ⟨_, rfl⟩
      obtain ⟨hc, hhc⟩ : ∃ hc, w3.heap.size = hc := ⟨_, rfl⟩
      rw [hw4, hg, hhc] at HS4
      try rw [hw4]
      try rw [hg]
      try rw [hhc]
      clear hw4 hg hhc
      refine (ostamp_any g _ _ b1 b2 w4 HS4.out.out).mono ?_
      rintro e w5 ⟨rfl, h5⟩
      rw [HSA.out] at h5
      obtain ⟨v5, h5⟩ := HS4.out.step h5
      have HS5 : Hid (PutS w0 g hc v5 sa w5) := h5
      have hK5 := HK0.out.on h5.bel
      have q0 : w5.cell? ⟨hc, 0, none⟩ = some (.pointer (some ⟨g, 0, none⟩)) := h5.cap.cell 0
      have q1 : w5.cell? ⟨h0, 0, none⟩ = some (.slice a1 n1 c1) := hK5.cell 0
      clear h5 HS4 hK5
      go_wp2_with fail
      refine (CN.out w0 g hc v5 sa w5 HB0.out HS5.out).mono ?_
      rintro e w6 ⟨rfl, v6, h6⟩
      have HS6 : Hid (PutS w0 g hc v6 _ w6) := h6
      have hK6 := HK0.out.on h6.bel
      have r0 : w6.cell? ⟨hc, 0, none⟩ = some (.pointer (some ⟨g, 0, none⟩)) := h6.cap.cell 0
      have r1 : w6.cell? ⟨h0, 1, none⟩ = some (.slice a2 n2 c2) := hK6.cell 1
      clear h6 HS5 hK6 q0 q1 CN
      go_wp2_with fail
      refine (CP.out w0 g hc v6 _ w6 HB0.out HS6.out).mono ?_
      rintro e w7 ⟨rfl, v7, h7⟩
      rw [HST.out] at h7
      have HS7 : Hid (PutS w0 g hc v7 sf w7) := h7
      have t0 : w7.cell? ⟨hc, 0, none⟩ = some (.pointer (some ⟨g, 0, none⟩)) := h7.cap.cell 0
      clear h7 HS6 r0 r1 CP
      go_wp2_with fail
      refine (odone_any g v7 sf w7 HS7.out.out).mono ?_
      rintro e w8 ⟨rfl, rfl⟩
      rw [doneP_Q, HPP.out]
      go_wp2
      go_ret2
      exact ⟨rfl, HBw.out _ HS7.out.bel⟩
  · obtain rfl : (⟨#[]⟩, 1) = p := by have h := HP.out; rwa [if_pos (.inl hR)] at h
    have hR' : (R == 0) = false := by simp [hR]
    go_wp2
    go_ret2
    exact ⟨rfl, HBw.out _ HB1.out⟩
end Go.Proofs.YtogbkfakihnbdaaGreatDoor
