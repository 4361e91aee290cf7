/- Layer 19, the code: Take of frames: its closure, readList, asPut, Take. -/
import Derived.Test.YtkmdajenbidaaaaWiB
import Derived.Test.YtkmdajenbidaaaaWiR
namespace Go.Proofs.Ytkmdajenbidaaaa
open Go.RowKit
set_option maxRecDepth 100000
set_option linter.unusedSimpArgs false
set_option linter.unusedVariables false

theorem Try.infoI19 : (Try.prog.info? 31).map (fun i => (i.zero, i.size, i.bytes)) = some (some (.agg #[.int .i64 0, .int .i64 0, .string ⟨#[]⟩]), 3, 32) := by kernel_rfl

def cellsI (l : List (Int × Int × ByteArray)) : List Value := l.flatMap (fun x => (itemA x).toList)

theorem cellsI_at (l : List (Int × Int × ByteArray)) : ∀ i, i < l.length → ∀ j, j < 3 → ∃ u, (itemA (itL l i))[j]? = some u ∧ (cellsI l)[i * 3 + j]? = some u := by
  induction l with
  | nil => intro i hi; exact absurd hi (Nat.not_lt_zero _)
  | cons x l ih =>
    intro i hi j hj
    have hs : (itemA x).toList.length = 3 := rfl
    cases i with
    | zero =>
      refine ⟨(itemA x)[j]'(by show j < 3; exact hj), ?_, ?_⟩
      · show (itemA x)[j]? = _
        exact Array.getElem?_eq_getElem _
      · show ((itemA x).toList ++ cellsI l)[0 * 3 + j]? = _
        rw [Nat.zero_mul, Nat.zero_add, List.getElem?_append_left (by rw [hs]; exact hj), Array.getElem?_toList]
        exact Array.getElem?_eq_getElem _
    | succ i =>
      obtain ⟨u, h1, h2⟩ := ih i (by simp at hi; omega) j hj
      refine ⟨u, ?_, ?_⟩
      · have : itL (x :: l) (i + 1) = itL l i := rfl
        rw [this]; exact h1
      · show ((itemA x).toList ++ cellsI l)[(i + 1) * 3 + j]? = _
        rw [List.getElem?_append_right (by rw [hs]; omega), hs, show (i + 1) * 3 + j - 3 = i * 3 + j by omega]
        exact h2

def OwnI19 (w : World) (B : Nat) (v : Value) (l : List (Int × Int × ByteArray)) : Prop := w.ownsRow B 31 3 v l.length (cellsI l)

theorem OwnI19.rows {w : World} {B : Nat} {v : Value} {l : List (Int × Int × ByteArray)} (h : OwnI19 w B v l) : ∃ a cap, v = .slice a l.length cap ∧ l.length ≤ cap ∧ cap ≤ 9223372036854775807 ∧ ItsAt w a l.length l := by
  obtain ⟨a, cap, hv, hr⟩ := rows_of_owns h (cellsI_at l)
  refine ⟨a, cap, hv, ?_, ?_, rfl, ?_⟩
  · rcases h.2 with ⟨k1, k2⟩ | ⟨g, cap', cur, k1, _, _, k2, _⟩
    · omega
    · rw [hv] at k1
      injection k1 with _ _ e
      omega
  · rcases h.2 with ⟨k1, k2⟩ | ⟨g, cap', cur, k1, _, _, _, k2, _⟩
    · rw [hv] at k1
      injection k1 with _ _ e
      omega
    · rw [hv] at k1
      injection k1 with _ _ e
      unfold maxLen at k2
      omega
  · refine hr.imp id (fun ⟨b, off, e, hc⟩ => ⟨b, off, e, fun i hi => ?_⟩)
    obtain ⟨u0, a0, b0⟩ := hc i hi 0 (by decide)
    obtain ⟨u1, a1, b1⟩ := hc i hi 1 (by decide)
    obtain ⟨u2, a2, b2⟩ := hc i hi 2 (by decide)
    cases a0
    cases a1
    cases a2
    exact ⟨b0, b1, b2⟩

theorem cellsI_snoc (l : List (Int × Int × ByteArray)) (x : Int × Int × ByteArray) : cellsI (l ++ [x]) = cellsI l ++ (itemA x).toList := by
  unfold cellsI
  rw [List.flatMap_append]
  simp

theorem itemA_one (x : Int × Int × ByteArray) : ∀ u ∈ (itemA x).toList, u.oneCell' = true := by
  intro u hu
  simp [itemA] at hu
  rcases hu with rfl | rfl | rfl <;> rfl

set_option maxHeartbeats 4000000 in
theorem take19i_any (g hc : Nat) (i : ByteArray × Int) (w : World) (h : InAt w g i) (hcp : Blk w 96 hc #[.pointer (some ⟨g, 0, none⟩)]) (hne : hc ≠ g) :
    Calls Try.prog 61 #[.pointer (some ⟨hc, 0, none⟩)] w fun e w' => e = .returned (.agg (itemA (readItC i).2)) ∧ InTo w g (readItC i).1 w' := by
  obtain ⟨i0, hi0⟩ : ∃ i0, i = i0 := ⟨_, rfl⟩
  obtain ⟨⟨i1, X0⟩, e0⟩ : ∃ p, inNumP i0 = p := ⟨_, rfl⟩
  obtain ⟨x0, hx0⟩ : ∃ x : Int, (X0 : Int) = x := ⟨_, rfl⟩
  obtain ⟨⟨i2, X1⟩, e1⟩ : ∃ p, inNumP i1 = p := ⟨_, rfl⟩
  obtain ⟨x1, hx1⟩ : ∃ x : Int, (X1 : Int) = x := ⟨_, rfl⟩
  obtain ⟨⟨i3, x2⟩, e2⟩ : ∃ p, inTextC i2 20000 = p := ⟨_, rfl⟩
  have hr : readItC i = (i3, (x0, x1, x2)) := by
    unfold readItC
    simp only [hi0, e0, e1, e2, hx0, hx1]
  rw [hr]
  simp only [itemA]
  rw [hi0] at h
  have C0' : ∀ W, InAt W g i0 → _ := fun W hW => inum_any g i0 W hW
  rw [e0] at C0'
  simp only [hx0] at C0'
  have C0 : Hid (∀ W, InAt W g i0 → _) := C0'
  have C1' : ∀ W, InAt W g i1 → _ := fun W hW => inum_any g i1 W hW
  rw [e1] at C1'
  simp only [hx1] at C1'
  have C1 : Hid (∀ W, InAt W g i1 → _) := C1'
  have C2' : ∀ W, InAt W g i2 → _ := fun W hW => itext_any g i2 20000 W hW
  rw [e2] at C2'
  have C2 : Hid (∀ W, InAt W g i2 → _) := C2'
  have HL : Hid (g < w.heap.size ∧ hc < w.heap.size ∧ hc ≠ g) := ⟨h.1.lt, hcp.lt, hne⟩
  have HI : Hid (InAt w g i0) := h
  have HC : Hid (Blk w 96 hc #[.pointer (some ⟨g, 0, none⟩)]) := hcp
  clear h hcp hne hr hi0 e0 e1 e2 hx0 hx1 C0' C1' C2'
  have HS0 : Hid (RnG 31 #[.int .i64 0, .int .i64 0, .string ⟨#[]⟩] w g hc (w.heap.size + 1) w.heap.size #[.int .i64 0, .int .i64 0, .string ⟨#[]⟩] i0 ((w.alloc (.cells #[.int .i64 0, .int .i64 0, .string ⟨#[]⟩] 31)).alloc (.cells #[.int .i64 0, .int .i64 0, .string ⟨#[]⟩] 31))) := by
    have hl := HL.out
    exact ⟨(HI.out.on (below_new _ _)).on (below_new _ _), Kept2.ofBelow _ _ ((below_new w _).alloc (by rw [World.size_alloc]; omega) _), Blk.new' _ _ _ _ (by rw [World.size_alloc]), (Blk.new _ _ _).on (below_new _ _), (HC.out.on (below_new _ _)).on (below_new _ _), Nat.le_refl _, Nat.lt_succ_self _, hl.1, hl.2.1, hl.2.2⟩
  have y : ((w.alloc (.cells #[.int .i64 0, .int .i64 0, .string ⟨#[]⟩] 31)).alloc (.cells #[.int .i64 0, .int .i64 0, .string ⟨#[]⟩] 31)).cell? ⟨hc, 0, none⟩ = some (.pointer (some ⟨g, 0, none⟩)) := HS0.out.cap.cell 0
  go_enter Try.func61, Try.ntmps61
  go_wp2_with fail
  clear y
  obtain ⟨W0, hW0⟩ : ∃ W0, (w.alloc (.cells #[.int .i64 0, .int .i64 0, .string ⟨#[]⟩] 31)).alloc (.cells #[.int .i64 0, .int .i64 0, .string ⟨#[]⟩] 31) = W0 := ⟨_, rfl⟩
  obtain ⟨gb, hgb⟩ : ∃ gb, w.heap.size + 1 = gb := ⟨_, rfl⟩
  obtain ⟨ga, hga⟩ : ∃ ga, w.heap.size = ga := ⟨_, rfl⟩
  have HS : Hid (RnG 31 #[.int .i64 0, .int .i64 0, .string ⟨#[]⟩] w g hc gb ga #[.int .i64 0, .int .i64 0, .string ⟨#[]⟩] i0 W0) := by show RnG _ _ _ _ _ _ _ _ _ _; rw [← hW0, ← hgb, ← hga]; exact HS0.out
  try rw [hW0]
  try rw [hgb]
  try rw [hga]
  clear hW0 hgb hga HI HL HC HS0
  refine (C0.out W0 HS.out.inn).mono ?_
  rintro e U0 ⟨rfl, hI⟩
  have HU : Hid (RnG 31 #[.int .i64 0, .int .i64 0, .string ⟨#[]⟩] w g hc gb ga #[.int .i64 0, .int .i64 0, .string ⟨#[]⟩] i1 U0) := HS.out.step hI
  clear hI HS C0
  have y0 : U0.cell? ⟨gb, 0, none⟩ = some _ := (HU.out).b.cell 0
  have z0 : U0.frozen? ⟨gb, 0, none⟩ = false := (HU.out).b.free 0
  have HS : Hid (RnG 31 #[.int .i64 0, .int .i64 0, .string ⟨#[]⟩] w g hc gb ga #[.int .i64 x0, .int .i64 0, .string ⟨#[]⟩] i1 (U0.setCell ⟨gb, 0, none⟩ (.int .i64 x0))) := (HU.out).set 0 (.int .i64 x0)
  obtain ⟨W1, hW1⟩ : ∃ W, (U0.setCell ⟨gb, 0, none⟩ (.int .i64 x0)) = W := ⟨_, rfl⟩
  rw [hW1] at HS
  have a0 : W1.cell? ⟨hc, 0, none⟩ = some (.pointer (some ⟨g, 0, none⟩)) := HS.out.cap.cell 0
  go_wp2_with fail
  try rw [hW1]
  clear hW1 HU a0 y0 z0
  refine (C1.out W1 HS.out.inn).mono ?_
  rintro e U1 ⟨rfl, hI⟩
  have HU : Hid (RnG 31 #[.int .i64 0, .int .i64 0, .string ⟨#[]⟩] w g hc gb ga #[.int .i64 x0, .int .i64 0, .string ⟨#[]⟩] i2 U1) := HS.out.step hI
  clear hI HS C1
  have y1 : U1.cell? ⟨gb, 1, none⟩ = some _ := (HU.out).b.cell 1
  have z1 : U1.frozen? ⟨gb, 1, none⟩ = false := (HU.out).b.free 1
  have HS : Hid (RnG 31 #[.int .i64 0, .int .i64 0, .string ⟨#[]⟩] w g hc gb ga #[.int .i64 x0, .int .i64 x1, .string ⟨#[]⟩] i2 (U1.setCell ⟨gb, 1, none⟩ (.int .i64 x1))) := (HU.out).set 1 (.int .i64 x1)
  obtain ⟨W2, hW2⟩ : ∃ W, (U1.setCell ⟨gb, 1, none⟩ (.int .i64 x1)) = W := ⟨_, rfl⟩
  rw [hW2] at HS
  have a1 : W2.cell? ⟨hc, 0, none⟩ = some (.pointer (some ⟨g, 0, none⟩)) := HS.out.cap.cell 0
  go_wp2_with fail
  try rw [hW2]
  clear hW2 HU a1 y1 z1
  refine (C2.out W2 HS.out.inn).mono ?_
  rintro e U2 ⟨rfl, hI⟩
  have HU : Hid (RnG 31 #[.int .i64 0, .int .i64 0, .string ⟨#[]⟩] w g hc gb ga #[.int .i64 x0, .int .i64 x1, .string ⟨#[]⟩] i3 U2) := HS.out.step hI
  clear hI HS C2
  have y2 : U2.cell? ⟨gb, 2, none⟩ = some _ := (HU.out).b.cell 2
  have z2 : U2.frozen? ⟨gb, 2, none⟩ = false := (HU.out).b.free 2
  have HS : Hid (RnG 31 #[.int .i64 0, .int .i64 0, .string ⟨#[]⟩] w g hc gb ga #[.int .i64 x0, .int .i64 x1, .string x2] i3 (U2.setCell ⟨gb, 2, none⟩ (.string x2))) := (HU.out).set 2 (.string x2)
  obtain ⟨W3, hW3⟩ : ∃ W, (U2.setCell ⟨gb, 2, none⟩ (.string x2)) = W := ⟨_, rfl⟩
  rw [hW3] at HS
  have a2 : W3.cell? ⟨hc, 0, none⟩ = some (.pointer (some ⟨g, 0, none⟩)) := HS.out.cap.cell 0
  have q0 : W3.cell? ⟨gb, 0, none⟩ = some (.int .i64 x0) := HS.out.b.cell 0
  have q1 : W3.cell? ⟨gb, 1, none⟩ = some (.int .i64 x1) := HS.out.b.cell 1
  have q2 : W3.cell? ⟨gb, 2, none⟩ = some (.string x2) := HS.out.b.cell 2
  have HQ : Hid (Blk W3 31 ga #[.int .i64 0, .int .i64 0, .string ⟨#[]⟩]) := HS.out.a
  go_wp2_with (with_reducible refine wpList_storeBlk rfl 31 _ _ rfl ga #[.int .i64 0, .int .i64 0, .string ⟨#[]⟩] #[.int .i64 x0, .int .i64 x1, .string x2] ?hx ?hy HQ.out rfl ?hi ?h1 ?_)
  try (case hx => rfl)
  try (case hy => rfl)
  try (case hi => kernel_rfl)
  try (case h1 => simp [Value.oneCell'])
  try rw [hW3]
  have hk := HS.out.kept
  have hng := HS.out.ng
  have hlo := HS.out.low
  exact bodyPost_row rfl ga #[.int .i64 x0, .int .i64 x1, .string x2] rfl rfl (HS.out.a.setRow _) _ Try.underlying31 rfl (by kernel_rfl) ⟨rfl, ⟨HS.out.inn.1.setRowOther _ (by omega) _, HS.out.inn.2⟩, ⟨hk.os, hk.tape, hk.output, by have := hk.size; simpa [World.setRow] using this, fun k a b c => by rw [setRow_other _ _ _ _ (by omega)]; exact hk.block k a b c⟩⟩

set_option maxHeartbeats 4000000 in
theorem rlistI_any (g hc : Nat) (i : ByteArray × Int) (w : World) (h : InAt w g i) (hcp : Blk w 96 hc #[.pointer (some ⟨g, 0, none⟩)]) (hne : hc ≠ g) :
    Calls Try.prog 60 #[.pointer (some ⟨g, 0, none⟩), .func (.func 61) #[] #[.pointer (some ⟨hc, 0, none⟩)]] w fun e w' => ∃ v, e = .returned v ∧ OwnI19 w' w.heap.size v (readLW readItC (numberP i 1).2 (numberP i 1).1).2 ∧ InTo w g (readLW readItC (numberP i 1).2 (numberP i 1).1).1 w' := by
  obtain ⟨i0, hi, hz0, hz1, hz2⟩ := info_parts Try.infoI19
  have C' := ibyte_any g i w h
  have hN := number1_lt i
  obtain ⟨⟨i1, N⟩, hi1⟩ : ∃ p, numberP i 1 = p := ⟨_, rfl⟩
  simp only [hi1] at C' hN ⊢
  have C : Hid (Calls _ _ _ _ _) := C'
  have HR0 : Hid (RlS w g hc i w) := ⟨h, hcp, Kept2.refl _ _ _, h.1.lt, hcp.lt, hne⟩
  obtain ⟨⟨fi, fl⟩, hf⟩ : ∃ p, readLW readItC N i1 = p := ⟨_, rfl⟩
  rw [hf]
  have HF : Hid (readLW readItC N i1 = (fi, fl)) := hf
  clear C' hi1 h hcp hne hf
  go_enter Try.func60, Try.ntmps60
  go_wp2_with fail
  refine C.out.mono ?_
  rintro e w1 ⟨rfl, h1⟩
  have HR1 : Hid (RlS w g hc i1 w1) := HR0.out.step h1
  clear C h1 HR0
  go_wp2_with fail
  go_loopw [5, 8] (fun x c wr => ∃ (k : Nat) (ik : ByteArray × Int) (L : List (Int × Int × ByteArray)), k ≤ N ∧ c = .int .i64 k ∧ L.length = k ∧ Hid (OwnI19 wr w.heap.size x L) ∧ Hid (RlS w g hc ik wr) ∧ Hid ((fi, fl) = ((readLW readItC (N - k) ik).1, L ++ (readLW readItC (N - k) ik).2))) (fun _ c _ => N - (intOf c).toNat)
  case atStart => exact ⟨0, i1, [], Nat.zero_le _, rfl, rfl, World.ownsRow_nil _ _ _ _, HR1, by show _ = _; rw [Nat.sub_zero, HF.out]; rfl⟩
  case round =>
    clear HR1 HF
    obtain ⟨k, ik, L, hk, rfl, hLk, HO, HR, HF⟩ := hrel
    by_cases hlt : k < N
    · have b0 : (k : Int) < (N : Int) := by omega
      obtain ⟨d, hd⟩ : ∃ d, N - k = d + 1 := ⟨N - k - 1, by omega⟩
      have hd' : N - (k + 1) = d := by omega
      have hf := HF.out
      rw [hd] at hf
      unfold readLW at hf
      clear HF
      have CT' : ∀ W, RlS w g hc ik W → _ := fun W hW => take19i_any g hc ik W hW.inn hW.cap hW.ne
      obtain ⟨⟨j1, x0, x1, x2⟩, hrd⟩ : ∃ p, readItC ik = p := ⟨_, rfl⟩
      simp only [hrd] at hf CT'
      simp only [itemA] at CT'
      have CT : Hid (∀ W, RlS w g hc ik W → _) := CT'
      have HF' : Hid ((fi, fl) = ((readLW readItC (N - (k + 1)) j1).1, (L ++ [(x0, x1, x2)]) ++ (readLW readItC (N - (k + 1)) j1).2)) := by show _ = _; rw [hd', hf]; simp
      clear CT' hrd hf
      go_wp2_with fail
      refine (CT.out _ HR.out).mono ?_
      rintro e w3 ⟨rfl, h3⟩
      have HR3 : Hid (RlS w g hc j1 w3) := HR.out.step h3
      have HO3 : Hid (OwnI19 w3 w.heap.size u5 L) := own_kept2 HO.out h3.2 (by have := HR.out.lg; exact this)
      have hsz := HR3.out.kept.size
      clear CT h3 HO HR
      have hown := HO3.out
      unfold OwnI19 at hown
      go_wp2_with (at_builtin; refine wpList_appR2 rfl (.tmp 10) (.tmp 13) 29 rfl w.heap.size 31 i0 _ 3 32 Try.underlying29 hi hz0 hz1 hz2 rfl (by decide) w3 u5 _ _ rfl hown #[.int .i64 x0, .int .i64 x1, .string x2] rfl (itemA_one (x0, x1, x2)) rfl (by omega) (by unfold maxLen; omega) hsz ?_)
      intro v4 w4 hown4 hg4
      have HO4 : Hid (OwnI19 w4 w.heap.size v4 (L ++ [(x0, x1, x2)])) := by
        show OwnI19 _ _ _ _
        unfold OwnI19; rw [cellsI_snoc, List.length_append, hLk]; exact hown4
      have HR4 : Hid (RlS w g hc j1 w4) := (HR3.out.on (below_new _ _)).grow hg4 (fun j hj => (World.ownsRow.lt hown j hj).1)
      clear hown4 hg4 hown HO3 HR3
      go_wp2_with fail
      refine ⟨?_, ?_⟩
      · first
        | exact ⟨k + 1, j1, L ++ [(x0, x1, x2)], by omega, by go_num, by rw [List.length_append, hLk]; rfl, HO4, HR4, HF'⟩
        | ((repeat apply Exists.intro); refine ⟨?_, rfl⟩; exact ⟨k + 1, j1, L ++ [(x0, x1, x2)], by omega, by go_num, by rw [List.length_append, hLk]; rfl, HO4, HR4, HF'⟩)
      · simp [intOf] <;> omega
    · obtain rfl : k = N := by omega
      have b0 : ¬ ((k : Int) < (k : Int)) := by omega
      have hf := HF.out
      rw [Nat.sub_self] at hf
      obtain ⟨rfl, rfl⟩ : fi = ik ∧ fl = L := ⟨congrArg Prod.fst hf, by have := congrArg Prod.snd hf; simpa [readLW] using this⟩
      go_wp2_with fail
      go_ret
      exact ⟨_, rfl, HO.out, HR.out.inn, HR.out.kept⟩



set_option maxHeartbeats 4000000 in
theorem asPutF_any (K G S E0 M er : Int) (bl : ByteArray) (a : Option Addr) (n c : Nat) (B s : ByteArray) (E : Int) (w : World) (CP' : ∀ W, Below w.heap.size w W → Calls Try.prog 31 #[.agg #[.int .i64 K, .int .i64 G, .int .i64 S, .int .i64 E0, .int .i64 M, .string bl, .slice a n c, .int .i64 er]] W fun e w' => e = .returned (.tuple #[.string B, .int .i64 E]) ∧ Below W.heap.size W w') :
    Calls Try.prog 62 #[.func (.func 31) #[] #[], .agg #[.int .i64 K, .int .i64 G, .int .i64 S, .int .i64 E0, .int .i64 M, .string bl, .slice a n c, .int .i64 er], .string s] w fun e w' => e = .returned (.tuple #[.agg (if E ≠ 0 ∨ B ≠ s then #[.int .i64 0, .int .i64 0, .int .i64 0, .int .i64 0, .int .i64 0, .string ⟨#[]⟩, .slice none 0 0, .int .i64 0] else #[.int .i64 K, .int .i64 G, .int .i64 S, .int .i64 E0, .int .i64 M, .string bl, .slice a n c, .int .i64 er]), .int .i64 (if E ≠ 0 ∨ B ≠ s then 190 else 0)]) ∧ Below w.heap.size w w' := by
  have CP : Hid (∀ W, Below w.heap.size w W → _) := CP'
  clear CP'
  by_cases hE : E = 0
  · subst hE
    by_cases hB : B = s
    · subst hB
      rw [if_neg (by simp), if_neg (by simp)]
      go_enter Try.func62, Try.ntmps62
      go_wp2_with fail
      obtain ⟨h0, hh0⟩ : ∃ h0, w.heap.size = h0 := ⟨_, rfl⟩
      obtain ⟨w0, hw0⟩ : ∃ w0, (w.alloc (.cells #[.int .i64 K, .int .i64 G, .int .i64 S, .int .i64 E0, .int .i64 M, .string bl, .slice a n c, .int .i64 er] 39)).alloc (.cells #[.int .i64 0, .int .i64 0, .int .i64 0, .int .i64 0, .int .i64 0, .string ⟨#[]⟩, .slice none 0 0, .int .i64 0] 39) = w0 := ⟨_, rfl⟩
      have HB0 : Hid (Below w.heap.size w w0) := by show Below _ _ _; rw [← hw0]; exact (below_new _ _).alloc (by rw [World.size_alloc]; omega) _
      have HX0 : Hid (Blk w0 39 h0 #[.int .i64 K, .int .i64 G, .int .i64 S, .int .i64 E0, .int .i64 M, .string bl, .slice a n c, .int .i64 er]) := by show Blk _ _ _ _; rw [← hw0]; exact (Blk.new' _ _ _ _ hh0).on (below_new _ _)
      have HZ0 : Hid (Blk w0 39 (h0 + 1) #[.int .i64 0, .int .i64 0, .int .i64 0, .int .i64 0, .int .i64 0, .string ⟨#[]⟩, .slice none 0 0, .int .i64 0]) := by show Blk _ _ _ _; rw [← hw0]; exact Blk.new' _ _ _ _ (by rw [World.size_alloc]; omega)
      have HL : Hid (w.heap.size ≤ h0) := by show _ ≤ _; omega
      try rw [hw0]
      try rw [hh0]
      clear hw0 hh0
      refine (CP.out w0 HB0.out).mono ?_
      rintro e w1 ⟨rfl, hb1⟩
      have HB1 : Hid (Below w.heap.size w w1) := below_step HB0.out (Nat.le_refl _) hb1
      have HX1 : Hid (Blk w1 39 h0 #[.int .i64 K, .int .i64 G, .int .i64 S, .int .i64 E0, .int .i64 M, .string bl, .slice a n c, .int .i64 er]) := HX0.out.on hb1
      have HZ1 : Hid (Blk w1 39 (h0 + 1) #[.int .i64 0, .int .i64 0, .int .i64 0, .int .i64 0, .int .i64 0, .string ⟨#[]⟩, .slice none 0 0, .int .i64 0]) := HZ0.out.on hb1
      clear hb1 HB0 HX0 HZ0 CP
      have q0 : w1.cell? ⟨h0, 0, none⟩ = some (.int .i64 K) := HX1.out.cell 0
      have q1 : w1.cell? ⟨h0, 1, none⟩ = some (.int .i64 G) := HX1.out.cell 1
      have q2 : w1.cell? ⟨h0, 2, none⟩ = some (.int .i64 S) := HX1.out.cell 2
      have q3 : w1.cell? ⟨h0, 3, none⟩ = some (.int .i64 E0) := HX1.out.cell 3
      have q4 : w1.cell? ⟨h0, 4, none⟩ = some (.int .i64 M) := HX1.out.cell 4
      have q5 : w1.cell? ⟨h0, 5, none⟩ = some (.string bl) := HX1.out.cell 5
      have q6 : w1.cell? ⟨h0, 6, none⟩ = some (.slice a n c) := HX1.out.cell 6
      have q7 : w1.cell? ⟨h0, 7, none⟩ = some (.int .i64 er) := HX1.out.cell 7
      go_wp2_with (with_reducible refine wpList_storeBlk rfl 39 _ _ rfl (h0 + 1) #[.int .i64 0, .int .i64 0, .int .i64 0, .int .i64 0, .int .i64 0, .string ⟨#[]⟩, .slice none 0 0, .int .i64 0] #[.int .i64 K, .int .i64 G, .int .i64 S, .int .i64 E0, .int .i64 M, .string bl, .slice a n c, .int .i64 er] ?hx ?hy HZ1.out rfl ?hi ?h1 ?_)
      try (case hx => rfl)
      try (case hy => rfl)
      try (case hi => kernel_rfl)
      try (case h1 => simp [Value.oneCell'])
      exact bodyPost_rowTmp rfl (h0 + 1) _ _ rfl rfl rfl (HZ1.out.setRow _) _ Try.underlying39 rfl (by kernel_rfl) ⟨rfl, below_setRow HB1.out (by have := HL.out; omega) _⟩
    · rw [if_pos (.inr hB), if_pos (.inr hB)]
      have hB' := text_ne hB
      go_enter Try.func62, Try.ntmps62
      go_wp2_with fail
      obtain ⟨h0, hh0⟩ : ∃ h0, w.heap.size = h0 := ⟨_, rfl⟩
      obtain ⟨w0, hw0⟩ : ∃ w0, (w.alloc (.cells #[.int .i64 K, .int .i64 G, .int .i64 S, .int .i64 E0, .int .i64 M, .string bl, .slice a n c, .int .i64 er] 39)).alloc (.cells #[.int .i64 0, .int .i64 0, .int .i64 0, .int .i64 0, .int .i64 0, .string ⟨#[]⟩, .slice none 0 0, .int .i64 0] 39) = w0 := ⟨_, rfl⟩
      have HB0 : Hid (Below w.heap.size w w0) := by show Below _ _ _; rw [← hw0]; exact (below_new _ _).alloc (by rw [World.size_alloc]; omega) _
      have HX0 : Hid (Blk w0 39 h0 #[.int .i64 K, .int .i64 G, .int .i64 S, .int .i64 E0, .int .i64 M, .string bl, .slice a n c, .int .i64 er]) := by show Blk _ _ _ _; rw [← hw0]; exact (Blk.new' _ _ _ _ hh0).on (below_new _ _)
      have HZ0 : Hid (Blk w0 39 (h0 + 1) #[.int .i64 0, .int .i64 0, .int .i64 0, .int .i64 0, .int .i64 0, .string ⟨#[]⟩, .slice none 0 0, .int .i64 0]) := by show Blk _ _ _ _; rw [← hw0]; exact Blk.new' _ _ _ _ (by rw [World.size_alloc]; omega)
      have HL : Hid (w.heap.size ≤ h0) := by show _ ≤ _; omega
      try rw [hw0]
      try rw [hh0]
      clear hw0 hh0
      refine (CP.out w0 HB0.out).mono ?_
      rintro e w1 ⟨rfl, hb1⟩
      have HB1 : Hid (Below w.heap.size w w1) := below_step HB0.out (Nat.le_refl _) hb1
      have HX1 : Hid (Blk w1 39 h0 #[.int .i64 K, .int .i64 G, .int .i64 S, .int .i64 E0, .int .i64 M, .string bl, .slice a n c, .int .i64 er]) := HX0.out.on hb1
      have HZ1 : Hid (Blk w1 39 (h0 + 1) #[.int .i64 0, .int .i64 0, .int .i64 0, .int .i64 0, .int .i64 0, .string ⟨#[]⟩, .slice none 0 0, .int .i64 0]) := HZ0.out.on hb1
      clear hb1 HB0 HX0 HZ0 CP
      have HZ2 : Hid (Blk (w1.alloc (.cells #[.int .i64 0, .int .i64 0, .int .i64 0, .int .i64 0, .int .i64 0, .string ⟨#[]⟩, .slice none 0 0, .int .i64 0] 39)) 39 (h0 + 1) #[.int .i64 0, .int .i64 0, .int .i64 0, .int .i64 0, .int .i64 0, .string ⟨#[]⟩, .slice none 0 0, .int .i64 0]) := HZ1.out.on (below_new _ _)
      have hB2 : Below w.heap.size w (w1.alloc (.cells #[.int .i64 0, .int .i64 0, .int .i64 0, .int .i64 0, .int .i64 0, .string ⟨#[]⟩, .slice none 0 0, .int .i64 0] 39)) := HB1.out.alloc HB1.out.size _
      go_wp2_with (with_reducible refine wpList_storeBlk rfl 39 _ _ rfl (h0 + 1) #[.int .i64 0, .int .i64 0, .int .i64 0, .int .i64 0, .int .i64 0, .string ⟨#[]⟩, .slice none 0 0, .int .i64 0] #[.int .i64 0, .int .i64 0, .int .i64 0, .int .i64 0, .int .i64 0, .string ⟨#[]⟩, .slice none 0 0, .int .i64 0] ?hx ?hy HZ2.out rfl ?hi ?h1 ?_)
      try (case hx => rfl)
      try (case hy => rfl)
      try (case hi => kernel_rfl)
      try (case h1 => simp [Value.oneCell'])
      exact bodyPost_rowTmp rfl (h0 + 1) _ _ rfl rfl rfl (HZ2.out.setRow _) _ Try.underlying39 rfl (by kernel_rfl) ⟨rfl, below_setRow hB2 (by have := HL.out; omega) _⟩
  · rw [if_pos (.inl hE), if_pos (.inl hE)]
    have hE' : (E == 0) = false := by simp [hE]
    go_enter Try.func62, Try.ntmps62
    go_wp2_with fail
    obtain ⟨h0, hh0⟩ : ∃ h0, w.heap.size = h0 := ⟨_, rfl⟩
    obtain ⟨w0, hw0⟩ : ∃ w0, (w.alloc (.cells #[.int .i64 K, .int .i64 G, .int .i64 S, .int .i64 E0, .int .i64 M, .string bl, .slice a n c, .int .i64 er] 39)).alloc (.cells #[.int .i64 0, .int .i64 0, .int .i64 0, .int .i64 0, .int .i64 0, .string ⟨#[]⟩, .slice none 0 0, .int .i64 0] 39) = w0 := ⟨_, rfl⟩
    have HB0 : Hid (Below w.heap.size w w0) := by show Below _ _ _; rw [← hw0]; exact (below_new _ _).alloc (by rw [World.size_alloc]; omega) _
    have HX0 : Hid (Blk w0 39 h0 #[.int .i64 K, .int .i64 G, .int .i64 S, .int .i64 E0, .int .i64 M, .string bl, .slice a n c, .int .i64 er]) := by show Blk _ _ _ _; rw [← hw0]; exact (Blk.new' _ _ _ _ hh0).on (below_new _ _)
    have HZ0 : Hid (Blk w0 39 (h0 + 1) #[.int .i64 0, .int .i64 0, .int .i64 0, .int .i64 0, .int .i64 0, .string ⟨#[]⟩, .slice none 0 0, .int .i64 0]) := by show Blk _ _ _ _; rw [← hw0]; exact Blk.new' _ _ _ _ (by rw [World.size_alloc]; omega)
    have HL : Hid (w.heap.size ≤ h0) := by show _ ≤ _; omega
    try rw [hw0]
    try rw [hh0]
    clear hw0 hh0
    refine (CP.out w0 HB0.out).mono ?_
    rintro e w1 ⟨rfl, hb1⟩
    have HB1 : Hid (Below w.heap.size w w1) := below_step HB0.out (Nat.le_refl _) hb1
    have HX1 : Hid (Blk w1 39 h0 #[.int .i64 K, .int .i64 G, .int .i64 S, .int .i64 E0, .int .i64 M, .string bl, .slice a n c, .int .i64 er]) := HX0.out.on hb1
    have HZ1 : Hid (Blk w1 39 (h0 + 1) #[.int .i64 0, .int .i64 0, .int .i64 0, .int .i64 0, .int .i64 0, .string ⟨#[]⟩, .slice none 0 0, .int .i64 0]) := HZ0.out.on hb1
    clear hb1 HB0 HX0 HZ0 CP
    have HZ2 : Hid (Blk (w1.alloc (.cells #[.int .i64 0, .int .i64 0, .int .i64 0, .int .i64 0, .int .i64 0, .string ⟨#[]⟩, .slice none 0 0, .int .i64 0] 39)) 39 (h0 + 1) #[.int .i64 0, .int .i64 0, .int .i64 0, .int .i64 0, .int .i64 0, .string ⟨#[]⟩, .slice none 0 0, .int .i64 0]) := HZ1.out.on (below_new _ _)
    have hB2 : Below w.heap.size w (w1.alloc (.cells #[.int .i64 0, .int .i64 0, .int .i64 0, .int .i64 0, .int .i64 0, .string ⟨#[]⟩, .slice none 0 0, .int .i64 0] 39)) := HB1.out.alloc HB1.out.size _
    go_wp2_with (with_reducible refine wpList_storeBlk rfl 39 _ _ rfl (h0 + 1) #[.int .i64 0, .int .i64 0, .int .i64 0, .int .i64 0, .int .i64 0, .string ⟨#[]⟩, .slice none 0 0, .int .i64 0] #[.int .i64 0, .int .i64 0, .int .i64 0, .int .i64 0, .int .i64 0, .string ⟨#[]⟩, .slice none 0 0, .int .i64 0] ?hx ?hy HZ2.out rfl ?hi ?h1 ?_)
    try (case hx => rfl)
    try (case hy => rfl)
    try (case hi => kernel_rfl)
    try (case h1 => simp [Value.oneCell'])
    exact bodyPost_rowTmp rfl (h0 + 1) _ _ rfl rfl rfl (HZ2.out.setRow _) _ Try.underlying39 rfl (by kernel_rfl) ⟨rfl, below_setRow hB2 (by have := HL.out; omega) _⟩

end Go.Proofs.Ytkmdajenbidaaaa
