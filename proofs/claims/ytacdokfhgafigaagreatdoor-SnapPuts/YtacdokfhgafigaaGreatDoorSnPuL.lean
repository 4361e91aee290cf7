import Derived.Test.YtacdokfhgafigaaGreatDoorSnN
import Derived.Test.YtacdokfhgafigaaGreatDoorSnI
import Derived.Test.YtacdokfhgafigaaGreatDoorSnK
import Derived.Test.YtacdokfhgafigaaGreatDoorRSnF
import Derived.Test.YtacdokfhgafigaaGreatDoorRSnD
import Derived.Test.YtacdokfhgafigaaGreatDoorSnLt
/- Both put the same tree; the walk of SnapPuts (layer 13). -/
namespace Go.Proofs.YtacdokfhgafigaaGreatDoor
open Go.RowKit
set_option linter.unusedSimpArgs false

theorem bool_ex (P : Prop) : ∃ B : Bool, B = true ↔ P := ⟨@decide P (Classical.propDecidable P), by simp⟩

theorem boolF_ex (P : Nat → Prop) : ∃ G : Nat → Bool, ∀ k, G k = true ↔ P k := ⟨fun k => @decide (P k) (Classical.propDecidable (P k)), fun k => by simp⟩

theorem put_doc (M : OpT → Bool) (D E : Bool) (t Tn : TreeT) (R : Int) (h : (Tn, R) = codeP M D t) : (if (decide (R = 0) && E) = true then doneQ (writeA (⟨#[]⟩, false) (snPs t)) else (⟨#[]⟩, 1)) = putSP M D E t := by
  unfold putSP
  rw [← h]
  by_cases hR : R = 0 <;> cases E <;> simp [hR]

theorem mem_nLP (l : List NodeT) (x : NodeT) (h : x ∈ l) : ∃ i, i < l.length ∧ x = nL l i := by
  obtain ⟨i, hi, e⟩ := List.getElem_of_mem h
  refine ⟨i, hi, ?_⟩
  unfold nL
  rw [List.getD_eq_getElem?_getD, List.getElem?_eq_getElem hi, e]; rfl

/-- A tree of few parts that was put is one that may be. -/
theorem put_may (M : OpT → Bool) (l : List NodeT) (ops : List OpT) (b : Int × Int) (D E : Bool) (hD : D = true ↔ (l.length ≤ 512 ∧ RiseN l ∧ (∀ k, k < l.length → FixH b (nL l k)) ∧ FixC l)) (hE : E = true ↔ RiseO ops) (hL : LightT l ops) (s : ByteArray) (h : putSP M D E (l, ops, b) = (s, 0)) : MayPut M (l, ops, b) ∧ s = encA (snPs (l, ops, b)) := by
  obtain ⟨hok, hs⟩ := putS_inv M D E _ s h
  have hc : (codeP M D (l, ops, b)).2 = 0 ∧ E = true := by
    unfold putSP at h
    by_cases hc : (codeP M D (l, ops, b)).2 ≠ 0 ∨ E = false
    · rw [if_pos hc] at h; cases h
    · refine ⟨Classical.byContradiction fun e => hc (.inl e), ?_⟩
      cases E with
      | true => rfl
      | false => exact absurd (.inr rfl) hc
  have hDt : D = true := by
    cases D with
    | true => rfl
    | false =>
      have := hc.1
      unfold codeP at this
      simp only at this
      by_cases hb : b ≠ (0, 0) ∧ ¬ MayS b
      · rw [if_pos hb] at this; cases this
      · rw [if_neg hb] at this; simp at this
  have hEt := hc.2
  subst hDt hEt
  have hfix := hD.1 rfl
  obtain ⟨l1, l2, l3, l4⟩ := hL
  have hz : (encA (snPs (l, ops, b))).size = 19 + (encA (l.flatMap ndPs)).size + (encA (ops.flatMap opPs)).size := by
    unfold snPs
    simp only [encA, encA_snoc, List.cons_append, enc3, ByteArray.size_append, bigB_size]
    have e2 : ∀ n : Int, (encP (2, n, 0, ⟨#[]⟩)).size = 6 := fun n => by
      unfold encP kd pn
      rw [if_neg (by simp), if_pos rfl, bigB_size]
    rw [e2, e2]
    omega
  have h1 := enc_nds_size l (fun x hx => by
    obtain ⟨k, hk, rfl⟩ := mem_nLP l x hx
    exact ⟨(l3 k hk).1, (hfix.2.2.1 k hk).2.2.2⟩)
  have h2 := enc_ops_size ops (fun o ho => by
    obtain ⟨k, hk, rfl⟩ := mem_oL ops o ho
    exact l4 k hk)
  refine ⟨⟨hfix, hE.1 rfl, hok, by rw [h, hs], by omega, ⟨l1, l2⟩, fun k hk => ?_, fun k hk => ?_⟩, hs⟩
  · have := l3 k hk
    exact ⟨by show (nL l k).2.2.1.size ≤ _; omega, by show (nL l k).2.2.2.size ≤ _; omega⟩
  · obtain ⟨h3, h4⟩ := l4 k hk
    exact ⟨by show (oL ops k).2.2.2.2.1.size ≤ _; omega, by show (oL ops k).2.2.2.2.2.size ≤ _; omega⟩

/-- What Take answers of a tree's bytes. -/
def TakeYes (w' : World) (T : TreeT) (e : Ending) : Prop := ∃ a1 c1 a2 c2, NodesAt w' a1 T.1.length T.1 ∧ OpsAt w' a2 T.2.1.length T.2.1 ∧ e = .returned (.tuple #[.agg #[.slice a1 T.1.length c1, .slice a2 T.2.1.length c2, .int .i64 T.2.2.1, .int .i64 T.2.2.2], .int .i64 0])

theorem take_yes (M : OpT → Bool) (hM : ∀ o, M o = true ↔ MayO o) (T : TreeT) (w : World) (hG : Glob8 w) (h : MayPut M T) :
    Calls Tryz.prog 9 #[.string (encA (snPs T))] w fun e w' => Below w.heap.size w w' ∧ TakeYes w' T e := by
  obtain ⟨l, ops, b1, b2⟩ := T
  have hr := (readS_back (l, ops, b1, b2) ⟨#[]⟩ h.ok).1
  rw [show encA (snPs (l, ops, b1, b2)) ++ (⟨#[]⟩ : ByteArray) = encA (snPs (l, ops, b1, b2)) from ByteArray.append_empty] at hr
  refine (take_any M hM (encA (snPs (l, ops, b1, b2))) w h.size hG l ops b1 b2 hr true true ⟨fun _ => h.fix, fun _ => rfl⟩ ⟨fun _ => h.rise, fun _ => rfl⟩ _ 0 h.put).mono ?_
  rintro e w' ⟨hb, a1, c1, a2, c2, h1, h2, rfl⟩
  refine ⟨hb, a1, c1, a2, c2, h1, h2, ?_⟩
  rw [if_neg (by simp), if_neg (by simp)]

set_option maxRecDepth 100000 in
set_option maxHeartbeats 8000000 in
theorem snapPuts_walk (l : List NodeT) (ops : List OpT) (b1 b2 : Int) (a1 a2 : Option Addr) (c1 c2 : Nat) (w : World) (h1 : NodesAt w a1 l.length l) (h2 : OpsAt w a2 ops.length ops) (hz : ∀ q ∈ ops, OpOk q) (hG : Glob8 w) :
    Calls Tryz.prog 3 #[.agg #[.slice a1 l.length c1, .slice a2 ops.length c2, .int .i64 b1, .int .i64 b2]] w fun e w' => e = .returned (.bool true) ∧ Below w.heap.size w w' := by
  obtain ⟨M, hM⟩ := mayM_ex
  obtain ⟨L, hL⟩ : ∃ L : Bool, L = true ↔ LightT l ops := bool_ex _
  obtain ⟨D, hD⟩ : ∃ D : Bool, D = true ↔ (l.length ≤ 512 ∧ RiseN l ∧ (∀ k, k < l.length → FixH (b1, b2) (nL l k)) ∧ FixC l) := bool_ex _
  obtain ⟨E, hE⟩ : ∃ E : Bool, E = true ↔ RiseO ops := bool_ex _
  obtain ⟨G, hGk⟩ : ∃ G : Nat → Bool, ∀ k, G k = true ↔ NodeOk l (b1, b2) k := boolF_ex _
  have hcode := of_code M (t := (l, ops, (b1, b2))) (G := G) (fun k _ => hGk k) D hD
  obtain ⟨⟨Tn, R⟩, hTR⟩ : ∃ x, codeP M D (l, ops, (b1, b2)) = x := ⟨_, rfl⟩
  have hdoc := put_doc M D E (l, ops, (b1, b2)) Tn R hTR.symm
  have CW : Hid (∀ W, Below w.heap.size w W → Calls Tryz.prog 6 #[] W fun e w' => e = .returned (.bool true) ∧ Below W.heap.size W w') := fun W hW => awake13 W (hG.below hW)
  have CL : Hid (∀ W, Below w.heap.size w W → Calls Tryz.prog 5 #[.agg #[.slice a1 l.length c1, .slice a2 ops.length c2, .int .i64 b1, .int .i64 b2]] W fun e w' => e = .returned (.bool L) ∧ Below W.heap.size W w') := fun W hW => light_any l ops b1 b2 a1 a2 c1 c2 W L hL (fun k hk => (hz _ (oL_mem ops k hk)).2) (h1.below hW) (h2.below hW)
  obtain ⟨P, hP⟩ : ∃ P, putSP M D E (l, ops, (b1, b2)) = P := ⟨_, rfl⟩
  have CP' : L = true → ∀ W, Below w.heap.size w W → Calls Tryz.prog 7 #[.agg #[.slice a1 l.length c1, .slice a2 ops.length c2, .int .i64 b1, .int .i64 b2]] W fun e w' => e = .returned (.tuple #[.string P.1, .int .i64 P.2]) ∧ Below W.heap.size W w' := fun hl W hW => by
    obtain ⟨k1, k2, k3, k4⟩ := hL.1 hl
    rw [← hP]
    exact put_any M hM l ops b1 b2 a1 a2 c1 c2 W D E (by omega) (by omega) hD hE (fun k hk => ⟨Nat.le_trans (k3 k hk).1 (by decide), Nat.le_trans (k3 k hk).2 (by decide)⟩) (fun k hk => ⟨Nat.le_trans (k4 k hk).1 (by decide), Nat.le_trans (k4 k hk).2 (by decide)⟩) (h1.below hW) (h2.below hW) (hG.below hW)
  have CR' : L = true → ∀ W, Below w.heap.size w W → Calls Tryz.prog 8 #[.agg #[.slice a1 l.length c1, .slice a2 ops.length c2, .int .i64 b1, .int .i64 b2]] W fun e w' => e = .returned (.tuple #[.string P.1, .int .i64 P.2]) ∧ Below W.heap.size W w' := fun hl W hW => by
    obtain ⟨k1, k2, k3, k4⟩ := hL.1 hl
    exact rput_any M hM G l ops b1 b2 a1 a2 c1 c2 W Tn R E P (by omega) (by omega) (fun k _ => hGk k) (fun k hk => ⟨Nat.le_trans (k3 k hk).1 (by decide), Nat.le_trans (k3 k hk).2 (by decide)⟩) (fun k hk => ⟨Nat.le_trans (k4 k hk).1 (by decide), Nat.le_trans (k4 k hk).2 (by decide)⟩) (h1.below hW) (h2.below hW) (hTR.symm.trans hcode.symm) hE (hdoc.trans hP)
  have HMP : Hid (L = true → P.2 = 0 → MayPut M (l, ops, (b1, b2)) ∧ P.1 = encA (snPs (l, ops, (b1, b2)))) := fun hl h0 => put_may M l ops (b1, b2) D E hD hE (hL.1 hl) P.1 (by rw [hP, ← h0])
  have CT' : L = true → P.2 = 0 → ∀ W, Below w.heap.size w W → Calls Tryz.prog 9 #[.string P.1] W fun e w' => Below W.heap.size W w' ∧ TakeYes w' (l, ops, (b1, b2)) e := fun hl h0 W hW => by
    obtain ⟨k1, k2⟩ := HMP.out hl h0
    rw [k2]
    exact take_yes M hM _ W (hG.below hW) k1
  have CS' : L = true → ∀ W d1 d2 e1 e2, Below w.heap.size w W → NodesAt W d1 l.length l → OpsAt W d2 ops.length ops → Calls Tryz.prog 10 #[.agg #[.slice d1 l.length e1, .slice d2 ops.length e2, .int .i64 b1, .int .i64 b2], .agg #[.slice a1 l.length c1, .slice a2 ops.length c2, .int .i64 b1, .int .i64 b2]] W fun e w' => e = .returned (.bool true) ∧ Below W.heap.size W w' := fun hl W d1 d2 e1 e2 hW q1 q2 => by
    obtain ⟨k1, k2, _⟩ := hL.1 hl
    exact rsameS_any l ops b1 b2 d1 d2 a1 a2 e1 e2 c1 c2 W (by omega) (by omega) q1 q2 (h1.below hW) (h2.below hW)
  obtain ⟨n1, hn1⟩ : ∃ n1, l.length = n1 := ⟨_, rfl⟩
  obtain ⟨n2, hn2⟩ : ∃ n2, ops.length = n2 := ⟨_, rfl⟩
  unfold TakeYes at CT'
  simp only [hn1, hn2] at CL CP' CR' CS' CT' ⊢
  obtain ⟨s, q⟩ := P
  simp only at CP' CR' CT'
  have HK0 : Hid (Blk (w.alloc (.cells #[.slice a1 n1 c1, .slice a2 n2 c2, .int .i64 b1, .int .i64 b2] 27)) 27 w.heap.size #[.slice a1 n1 c1, .slice a2 n2 c2, .int .i64 b1, .int .i64 b2]) := Blk.new _ _ _
  have HB0 : Hid (Below w.heap.size w (w.alloc (.cells #[.slice a1 n1 c1, .slice a2 n2 c2, .int .i64 b1, .int .i64 b2] 27))) := below_new _ _
  clear hM hL hD hE hGk hcode hTR hdoc hP HMP hn1 hn2 h1 h2 hz hG
  go_enter Tryz.func3, Tryz.ntmps3
  go_wp2_with fail
  obtain ⟨w0, hw0⟩ : ∃ w0, w.alloc (.cells #[.slice a1 n1 c1, .slice a2 n2 c2, .int .i64 b1, .int .i64 b2] 27) = w0 := ⟨_, rfl⟩
  obtain ⟨hx, hhx⟩ : ∃ hx, w.heap.size = hx := ⟨_, rfl⟩
  rw [hw0] at HK0 HB0
  have HK : Hid (Blk w0 27 hx #[.slice a1 n1 c1, .slice a2 n2 c2, .int .i64 b1, .int .i64 b2]) := by show Blk _ _ _ _; rw [← hhx]; exact HK0.out
  try rw [hw0]
  try rw [hhx]
  clear hw0 hhx HK0
  refine (CL.out _ HB0.out).mono ?_
  rintro e w1 ⟨rfl, hb1⟩
  have HB : Hid (Below w.heap.size w w1) := below_step HB0.out (Nat.le_refl _) hb1
  have HK1 : Hid (Blk w1 27 hx #[.slice a1 n1 c1, .slice a2 n2 c2, .int .i64 b1, .int .i64 b2]) := HK.out.on hb1
  clear CL hb1 HB0 HK
  cases L with
  | false =>
    clear CP' CR' CT' CS' HK1
    go_wp2_with fail
    refine (CW.out _ HB.out).mono ?_
    rintro e w99 ⟨rfl, hb99⟩
    have hB99 := below_step HB.out (Nat.le_refl _) hb99
    clear CW hb99 HB
    go_wp2_with fail
    go_ret
    exact ⟨rfl, hB99⟩
  | true =>
    have CP : Hid (∀ W, Below w.heap.size w W → _) := CP' rfl
    have CR : Hid (∀ W, Below w.heap.size w W → _) := CR' rfl
    have CS : Hid (∀ W d1 d2 e1 e2, Below w.heap.size w W → _) := CS' rfl
    have CT2 : q = 0 → _ := CT' rfl
    clear CP' CR' CS' CT'
    have y0 : w1.cell? ⟨hx, 0, none⟩ = some (.slice a1 n1 c1) := HK1.out.cell 0
    have y1 : w1.cell? ⟨hx, 1, none⟩ = some (.slice a2 n2 c2) := HK1.out.cell 1
    have y2 : w1.cell? ⟨hx, 2, none⟩ = some (.int .i64 b1) := HK1.out.cell 2
    have y3 : w1.cell? ⟨hx, 3, none⟩ = some (.int .i64 b2) := HK1.out.cell 3
    go_wp2_with fail
    refine (CP.out _ HB.out).mono ?_
    rintro e w2 ⟨rfl, hb2⟩
    have HB2 : Hid (Below w.heap.size w w2) := below_step HB.out (Nat.le_refl _) hb2
    have HK2 : Hid (Blk w2 27 hx #[.slice a1 n1 c1, .slice a2 n2 c2, .int .i64 b1, .int .i64 b2]) := HK1.out.on hb2
    clear CP hb2 HB HK1 y0 y1 y2 y3
    have y0 : w2.cell? ⟨hx, 0, none⟩ = some (.slice a1 n1 c1) := HK2.out.cell 0
    have y1 : w2.cell? ⟨hx, 1, none⟩ = some (.slice a2 n2 c2) := HK2.out.cell 1
    have y2 : w2.cell? ⟨hx, 2, none⟩ = some (.int .i64 b1) := HK2.out.cell 2
    have y3 : w2.cell? ⟨hx, 3, none⟩ = some (.int .i64 b2) := HK2.out.cell 3
    go_wp2_with fail
    refine (CR.out _ HB2.out).mono ?_
    rintro e w3 ⟨rfl, hb3⟩
    have HB : Hid (Below w.heap.size w w3) := below_step HB2.out (Nat.le_refl _) hb3
    have HK3 : Hid (Blk w3 27 hx #[.slice a1 n1 c1, .slice a2 n2 c2, .int .i64 b1, .int .i64 b2]) := HK2.out.on hb3
    clear CR hb3 HB2 HK2 y0 y1 y2 y3
    by_cases hq : q = 0
    · have CT : Hid (∀ W, Below w.heap.size w W → _) := CT2 hq
      subst hq
      clear CT2
      go_wp2_with fail
      refine (CT.out _ HB.out).mono ?_
      rintro e w6 ⟨hb6, ta1, tc1, ta2, tc2, t1, t2, rfl⟩
      have hb7 : Below w6.heap.size w6 ((w6.alloc (.cells #[.slice none 0 0, .slice none 0 0, .int .i64 0, .int .i64 0] 27)).setRow w6.heap.size #[.slice ta1 n1 tc1, .slice ta2 n2 tc2, .int .i64 b1, .int .i64 b2]) := below_setRow (below_new _ _) (Nat.le_refl _) _
      have X6 : Blk (w6.alloc (.cells #[.slice none 0 0, .slice none 0 0, .int .i64 0, .int .i64 0] 27)) 27 w6.heap.size #[.slice none 0 0, .slice none 0 0, .int .i64 0, .int .i64 0] := Blk.new _ _ _
      have HB7 : Hid (Below w.heap.size w ((w6.alloc (.cells #[.slice none 0 0, .slice none 0 0, .int .i64 0, .int .i64 0] 27)).setRow w6.heap.size #[.slice ta1 n1 tc1, .slice ta2 n2 tc2, .int .i64 b1, .int .i64 b2])) := below_step HB.out (Nat.le_refl _) (below_step hb6 (Nat.le_refl _) hb7)
      have HK7 : Hid (Blk ((w6.alloc (.cells #[.slice none 0 0, .slice none 0 0, .int .i64 0, .int .i64 0] 27)).setRow w6.heap.size #[.slice ta1 n1 tc1, .slice ta2 n2 tc2, .int .i64 b1, .int .i64 b2]) 27 hx #[.slice a1 n1 c1, .slice a2 n2 c2, .int .i64 b1, .int .i64 b2]) := (HK3.out.on hb6).on hb7
      have HT7 : Hid (Blk ((w6.alloc (.cells #[.slice none 0 0, .slice none 0 0, .int .i64 0, .int .i64 0] 27)).setRow w6.heap.size #[.slice ta1 n1 tc1, .slice ta2 n2 tc2, .int .i64 b1, .int .i64 b2]) 27 w6.heap.size #[.slice ta1 n1 tc1, .slice ta2 n2 tc2, .int .i64 b1, .int .i64 b2]) := X6.setRow _
      have HN7 : Hid (NodesAt ((w6.alloc (.cells #[.slice none 0 0, .slice none 0 0, .int .i64 0, .int .i64 0] 27)).setRow w6.heap.size #[.slice ta1 n1 tc1, .slice ta2 n2 tc2, .int .i64 b1, .int .i64 b2]) ta1 n1 l ∧ OpsAt ((w6.alloc (.cells #[.slice none 0 0, .slice none 0 0, .int .i64 0, .int .i64 0] 27)).setRow w6.heap.size #[.slice ta1 n1 tc1, .slice ta2 n2 tc2, .int .i64 b1, .int .i64 b2]) ta2 n2 ops) := ⟨t1.below hb7, t2.below hb7⟩
      obtain ⟨w7, hw7⟩ : ∃ w7, ((w6.alloc (.cells #[.slice none 0 0, .slice none 0 0, .int .i64 0, .int .i64 0] 27)).setRow w6.heap.size #[.slice ta1 n1 tc1, .slice ta2 n2 tc2, .int .i64 b1, .int .i64 b2]) = w7 := ⟨_, rfl⟩
      rw [hw7] at HB7 HK7 HT7 HN7
      have y0 : w7.cell? ⟨hx, 0, none⟩ = some (.slice a1 n1 c1) := HK7.out.cell 0
      have y1 : w7.cell? ⟨hx, 1, none⟩ = some (.slice a2 n2 c2) := HK7.out.cell 1
      have y2 : w7.cell? ⟨hx, 2, none⟩ = some (.int .i64 b1) := HK7.out.cell 2
      have y3 : w7.cell? ⟨hx, 3, none⟩ = some (.int .i64 b2) := HK7.out.cell 3
      have z0 : w7.cell? ⟨w6.heap.size, 0, none⟩ = some (.slice ta1 n1 tc1) := HT7.out.cell 0
      have z1 : w7.cell? ⟨w6.heap.size, 1, none⟩ = some (.slice ta2 n2 tc2) := HT7.out.cell 1
      have z2 : w7.cell? ⟨w6.heap.size, 2, none⟩ = some (.int .i64 b1) := HT7.out.cell 2
      have z3 : w7.cell? ⟨w6.heap.size, 3, none⟩ = some (.int .i64 b2) := HT7.out.cell 3
      clear CT hb6 HB HK3 t1 t2 hb7
      go_wp2_with (with_reducible refine wpList_storeBlk rfl 27 _ _ rfl w6.heap.size #[.slice none 0 0, .slice none 0 0, .int .i64 0, .int .i64 0] #[.slice ta1 n1 tc1, .slice ta2 n2 tc2, .int .i64 b1, .int .i64 b2] ?hx ?hy X6 rfl ?hi ?h1 ?_)
      try (case hx => rfl)
      try (case hy => rfl)
      try (case hi => kernel_rfl)
      try (case h1 => simp [Value.oneCell'])
      try rw [hw7]
      refine (CS.out w7 ta1 ta2 tc1 tc2 HB7.out HN7.out.1 HN7.out.2).mono ?_
      rintro e w8 ⟨rfl, hb8⟩
      have HB : Hid (Below w.heap.size w w8) := below_step HB7.out (Nat.le_refl _) hb8
      clear CS hb8 HB7 HK7 HT7 HN7 X6 hw7 y0 y1 y2 y3 z0 z1 z2 z3
      go_wp2_with fail
      refine (CW.out _ HB.out).mono ?_
      rintro e w99 ⟨rfl, hb99⟩
      have hB99 := below_step HB.out (Nat.le_refl _) hb99
      clear CW hb99 HB
      go_wp2_with fail
      go_ret
      exact ⟨rfl, hB99⟩
    · have hq' : (q == 0) = false := by rw [beq_eq_false_iff_ne]; exact hq
      clear CT2 CS HK3
      go_wp2_with fail
      refine (CW.out _ HB.out).mono ?_
      rintro e w99 ⟨rfl, hb99⟩
      have hB99 := below_step HB.out (Nat.le_refl _) hb99
      clear CW hb99 HB
      go_wp2_with fail
      go_ret
      exact ⟨rfl, hB99⟩
end Go.Proofs.YtacdokfhgafigaaGreatDoor

/- SnapPuts at its parameter (layer 13). -/
namespace Go.Proofs.YtacdokfhgafigaaGreatDoor
open Go.RowKit

theorem snapPuts_law (v : Value) (w : World) (z : ∃ (l : List NodeT) (ops : List OpT) (b1 b2 : Int) (a1 a2 : Option Addr) (c1 c2 : Nat), v = .agg #[.slice a1 l.length c1, .slice a2 ops.length c2, .int .i64 b1, .int .i64 b2] ∧ NodesAt w a1 l.length l ∧ OpsAt w a2 ops.length ops ∧ (∀ q ∈ l, NodeOkT q) ∧ (∀ q ∈ ops, OpOk q) ∧ SliceOk a1 l.length c1 ∧ SliceOk a2 ops.length c2 ∧ l.length ≤ maxLen ∧ ops.length ≤ maxLen) (hG : Glob8 w) :
    Calls Tryz.prog 3 #[v] w fun e w' => e = .returned (.bool true) ∧ Below w.heap.size w w' := by
  obtain ⟨l, ops, b1, b2, a1, a2, c1, c2, rfl, h1, h2, h3, h4, _, _, h7, h8⟩ := z
  exact snapPuts_walk l ops b1 b2 a1 a2 c1 c2 w h1 h2 h4 hG
end Go.Proofs.YtacdokfhgafigaaGreatDoor
