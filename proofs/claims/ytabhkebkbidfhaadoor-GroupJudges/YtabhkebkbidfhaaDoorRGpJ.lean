/- Layer 20, the document's: Judge. -/
import Derived.Test.YtabhkebkbidfhaaDoorGpJ
import Derived.Test.YtabhkebkbidfhaaDoorRWiM
import Derived.Test.YtabhkebkbidfhaaDoorRGpF
namespace Go.Proofs.YtabhkebkbidfhaaDoor
open Go.RowKit
set_option maxRecDepth 100000
set_option linter.unusedSimpArgs false
set_option linter.unusedVariables false
set_option maxRecDepth 100000

theorem withM_set (l : List MemT) (k : Nat) (x : MemT) (h : k < l.length) : withM l k x = l.set k x := by
  unfold withM
  rw [List.set_eq_take_append_cons_drop, if_pos h, List.append_assoc]; rfl

/-- What the document's Judge answers. -/
def JgPostR (w : World) (E : Int) (G : GrpT × Bool) (e : Ending) (w' : World) : Prop :=
  ((E ≠ 0 ∧ e = .returned (.tuple #[.agg #[.int .i64 0, .slice none 0 0, .int .i64 0], .bool false, .int .i64 E])) ∨
   (E = 0 ∧ ∃ b' off' c', e = .returned (.tuple #[.agg #[.int .i64 G.1.1, .slice (some ⟨b', off', none⟩) 6 c', .int .i64 G.1.2.2], .bool G.2, .int .i64 0]) ∧ MmsAt w' (some ⟨b', off', none⟩) 6 G.1.2.1)) ∧ Below w.heap.size w w'

/-- The document's way: does, of the group with one more. -/
theorem does_next {Ep Op epoch Kd F q : Int} {l : List MemT} {k : Nat} (hk : k < 6) (hl : l.length = 6) (hF : F = (k : Int) + 1) (hW : ∀ i, i < 6 → (mmL l i).1 = (i : Int) + 1) (hK : 1 ≤ Kd ∧ Kd ≤ 4) (hq : Kd = 2 ∨ Kd = 3 → 1 ≤ q ∧ q ≤ 6) :
    doesP (Ep, nextM l k, Op) epoch Kd F q = if (doesP (Ep, l, Op) epoch Kd F q).2 = true then (gdoP (Ep, nextM l k, Op) Kd q, true) else ((Ep, nextM l k, Op), false) := by
  have hin : ∀ who, inB (nextM l k) who = inB l who := by
    intro who
    have hn : (nextM l k).length = 6 := by unfold nextM; rw [List.length_set]; exact hl
    have hat : ∀ i, (mmL (nextM l k) i).1 = (mmL l i).1 ∧ (mmL (nextM l k) i).2.2 = (mmL l i).2.2 := fun i => by
      unfold nextM
      rw [mmL_set l k i _ (by omega)]
      by_cases e : i = k
      · rw [if_pos e, e]; exact ⟨rfl, rfl⟩
      · rw [if_neg e]; exact ⟨rfl, rfl⟩
    cases h : inB l who with
    | true =>
      have h2 := h
      unfold inB at h2
      rw [List.any_eq_true] at h2
      obtain ⟨x, hx, hp⟩ := h2
      obtain ⟨i, hi, e⟩ := List.mem_iff_getElem.1 hx
      simp only [Bool.and_eq_true, decide_eq_true_eq] at hp
      exact inB_yes _ who i (by omega) (by rw [(hat i).1, mmL_get l i hi, e]; exact hp.1) (by rw [(hat i).2, mmL_get l i hi, e]; exact hp.2)
    | false =>
      refine inB_no _ who (fun i hi hc => ?_)
      rw [(hat i).1, (hat i).2] at hc
      have := inB_yes l who i (by omega) hc.1 hc.2
      rw [h] at this
      cases this
  unfold doesP
  simp only [hin]
  by_cases h0 : inB l F = false
  · rw [if_pos h0, if_pos h0]; rfl
  rw [if_neg h0, if_neg h0]
  by_cases h1 : Kd = 1
  · rw [if_pos h1, if_pos h1]
    by_cases h5 : 500 ≤ Op
    · rw [if_pos h5, if_pos h5]; rfl
    · rw [if_neg h5, if_neg h5, if_pos rfl]; unfold gdoP; rw [if_pos h1]
  rw [if_neg h1, if_neg h1]
  by_cases h2 : F ≠ 1 ∨ epoch ≠ Ep ∨ 1099511627775 ≤ Ep
  · rw [if_pos h2, if_pos h2]; rfl
  rw [if_neg h2, if_neg h2]
  have hset : ∀ z, 1 ≤ q ∧ q ≤ 6 → withM (nextM l k) (q - 1).toNat (q, (mmL (nextM l k) (q - 1).toNat).2.1, z) = (nextM l k).set (q - 1).toNat ((mmL (nextM l k) (q - 1).toNat).1, (mmL (nextM l k) (q - 1).toNat).2.1, z) := fun z hq => by
    rw [withM_set _ _ _ (by unfold nextM; rw [List.length_set]; omega)]
    have e : (mmL (nextM l k) (q - 1).toNat).1 = q := by
      unfold nextM
      rw [mmL_set l k _ _ (by omega)]
      by_cases e : (q - 1).toNat = k
      · rw [if_pos e]; show (mmL l k).1 = q; rw [hW k hk]; omega
      · rw [if_neg e, hW _ (by omega)]; omega
    rw [e]
  by_cases h3 : Kd = 2
  · rw [if_pos h3, if_pos h3]
    by_cases h6 : inB l q = true
    · rw [if_pos h6, if_pos h6]; rfl
    · rw [if_neg h6, if_neg h6, if_pos rfl]
      unfold gdoP
      rw [if_neg h1, if_neg (by omega), hset _ (hq (.inl h3)), decide_eq_true h3]
  rw [if_neg h3, if_neg h3]
  by_cases h4 : Kd = 3
  · rw [if_pos h4, if_pos h4]
    by_cases h6 : inB l q = false ∨ q = 1
    · rw [if_pos h6, if_pos h6]; rfl
    · rw [if_neg h6, if_neg h6, if_pos rfl]
      unfold gdoP
      rw [if_neg h1, if_neg (by omega), hset _ (hq (.inr h4)), decide_eq_false h3]
  rw [if_neg h4, if_neg h4, if_pos rfl]
  unfold gdoP
  rw [if_neg h1, if_pos (by omega)]

/-- Six members in a block of members. -/
def RowK (w : World) (b o : Nat) (l : List MemT) : Prop := MmsAt w (some ⟨b, o, none⟩) 6 l ∧ ∃ cur, Blk w 46 b cur
theorem RowK.on {w w' : World} {b o : Nat} {l : List MemT} (h : RowK w b o l) (hb : Below w.heap.size w w') : RowK w' b o l := ⟨h.1.below hb, h.2.imp (fun _ k => k.on hb)⟩
theorem RowK.row {w : World} {b o g : Nat} {l : List MemT} {cs : Array Value} (h : RowK w b o l) (hg : Blk w 24 g cs) (cs' : Array Value) : RowK (w.setRow g cs') b o l := by
  obtain ⟨h1, cur, h2⟩ := h
  have hne : b ≠ g := by
    rintro rfl
    unfold Blk at h2 hg
    rw [h2] at hg
    have := Option.some.inj hg
    injection this with _ e
    exact absurd e (by decide)
  refine ⟨⟨h1.1, h1.2.imp id (fun ⟨b', o', e, hc⟩ => ⟨b', o', e, fun i hi => ?_⟩)⟩, cur, h2.setRowOther g hne cs'⟩
  cases e
  obtain ⟨a0, a1, a2⟩ := hc i hi
  exact ⟨by rw [cell_setRowO _ _ _ _ hne]; exact a0, by rw [cell_setRowO _ _ _ _ hne]; exact a1, by rw [cell_setRowO _ _ _ _ hne]; exact a2⟩
theorem RowM.rowK {w : World} {b c : Nat} {l : List MemT} (h : RowM w b c l) : RowK w b 0 l := ⟨h.at, h.2.2.2.imp (fun _ k => k.1)⟩
structure JdR (w : World) (h b o c : Nat) (E O : Int) (l : List MemT) (W : World) : Prop where
  gg : Blk W 24 h #[.int .i64 E, .slice (some ⟨b, o, none⟩) 6 c, .int .i64 O]
  mm : RowK W b o l
  bel : Below w.heap.size w W
/-- What Judge's last region reads. -/
def JgS (w : World) (gm : Nat) (G R : Array Value) (x y1 : Int) (z : Bool) (W : World) : Prop := DoS w W G R ∧ Blk W 46 gm #[.int .i64 x, .int .i64 y1, .bool z]
theorem JgS.on {w W W' : World} {gm : Nat} {G R : Array Value} {x y1 : Int} {z : Bool} (h : JgS w gm G R x y1 z W) (hb : Below W.heap.size W W') : JgS w gm G R x y1 z W' := ⟨h.1.on hb, h.2.on hb⟩

set_option maxHeartbeats 8000000 in
theorem rjudge20_any (M : OpT → Bool) (hM : ∀ o, M o = true ↔ MayO o) (G : GrpT) (a : Option Addr) (c : Nat) (epoch : Int) (R : RecT) (ar : Option Addr) (cr : Nat) (w : World) (hR : RcIn w R ar) (hn : G.2.1.length ≤ 1048576) (hc : G.2.1.length ≤ c ∧ c ≤ 9223372036854775807) (hI : MmsAt w a G.2.1.length G.2.1) (hw : ∀ i, i < 6 → -9223372036854775808 ≤ (mmL G.2.1 i).1 ∧ (mmL G.2.1 i).1 ≤ 9223372036854775807) :
    Calls Tryd.prog 12 #[.agg (grpA G a c), .int .i64 epoch, .agg (recA R ar cr)] w fun e w' => JgPostR w (judgeE M G epoch R) (judgeG G epoch R) e w' := by
  have CHR : ∀ W, Below w.heap.size w W → _ := fun W hW => rmayR_any M hM R ar cr W hR.n hR.v (hR.l.below hW) hR.z hR.k hR.h
  have CHG : ∀ W, Below w.heap.size w W → _ := fun W hW => rmay20_any G a c W (mayGb G) (mayGb_iff G) hn (hI.below hW) hw
  obtain ⟨E, hE⟩ : ∃ E, judgeE M G epoch R = E := ⟨_, rfl⟩
  obtain ⟨Q, hQ⟩ : ∃ Q, judgeG G epoch R = Q := ⟨_, rfl⟩
  rw [hE, hQ]
  unfold judgeE at hE
  unfold judgeG at hQ
  have hpt := fun h => mayR_parts (M := M) (K := R.1) (F := R.2.1) (C := R.2.2.1) (S := R.2.2.2.1) (H := R.2.2.2.2.1) (o := R.2.2.2.2.2.1) (q := R.2.2.2.2.2.2.1) (l := R.2.2.2.2.2.2.2) h
  obtain ⟨X, hX⟩ : ∃ X : Bool, mayRb M R = X := ⟨_, rfl⟩
  obtain ⟨D, hD⟩ : ∃ D : Bool, mayGb G = D := ⟨_, rfl⟩
  have hMG := mayGb_iff G
  have hq23 : X = true → R.1 = 2 ∨ R.1 = 3 → 1 ≤ R.2.2.2.2.2.2.1 ∧ R.2.2.2.2.2.2.1 ≤ 6 := fun e h => by
    rw [← hX] at e
    obtain ⟨K, F, C, S, H, o, q, l⟩ := R
    unfold mayRb ownRb at e
    simp only [Bool.and_eq_true] at e
    have e2 := e.2
    have h' : K = 2 ∨ K = 3 := h
    rw [if_neg (by show ¬ K = 1; omega), if_pos h'] at e2
    simp only [Bool.and_eq_true, decide_eq_true_eq] at e2
    exact e2.1.2
  obtain ⟨Kd, F, C, S, H, ⟨k0, ⟨k1, k2⟩, ⟨k3, k4⟩, ⟨k5, k6⟩, s7, s8⟩, q, lw⟩ := R
  obtain ⟨Ep, l, Op⟩ := G
  rw [hX] at CHR
  rw [hX, hD] at hE
  rw [hD] at CHG hMG
  have hpt' : X = true → _ := fun e => hpt (by rw [← e]; exact hX)
  simp only [recA, grpA] at CHR CHG hI hn hE hQ hpt' hc ⊢
  obtain ⟨nr, hnr⟩ : ∃ nr, lw.length = nr := ⟨_, rfl⟩
  simp only [hnr] at CHR ⊢
  obtain ⟨n, hnn⟩ : ∃ n, l.length = n := ⟨_, rfl⟩
  simp only [hnn] at CHG hI hn hc ⊢
  have HHR : Hid (∀ W, Below w.heap.size w W → _) := CHR
  have HHG : Hid (∀ W, Below w.heap.size w W → _) := CHG
  have HE : Hid (_ = E) := hE
  have HQ : Hid (_ = Q) := hQ
  have HI : Hid (MmsAt w a n l) := hI
  have HPT : Hid (X = true → _) := hpt'
  have HMG : Hid (D = true ↔ MayG (Ep, l, Op)) := hMG
  have HQ23 : Hid (X = true → Kd = 2 ∨ Kd = 3 → 1 ≤ q ∧ q ≤ 6) := hq23
  have HCC : Hid (n ≤ c ∧ c ≤ 9223372036854775807) := hc
  clear CHR CHG hE hQ hI hpt hpt' hX hD hMG hq23 hR hM hnn hnr hw hc
  obtain ⟨w0, hw0⟩ : ∃ w0, ((w.alloc (.cells #[.int .i64 Ep, .slice a n c, .int .i64 Op] 24)).alloc (.cells #[.int .i64 Kd, .int .i64 F, .int .i64 C, .int .i64 S, .string H, .int .i64 k0, .int .i64 k1, .int .i64 k2, .int .i64 k3, .int .i64 k4, .int .i64 k5, .int .i64 k6, .string s7, .string s8, .int .i64 q, .slice ar nr cr] 31)).alloc (.cells #[.int .i64 0, .slice none 0 0, .int .i64 0] 24) = w0 := ⟨_, rfl⟩
  have n0 := below_new w (.cells #[.int .i64 Ep, .slice a n c, .int .i64 Op] 24)
  have n1 := below_new (w.alloc (.cells #[.int .i64 Ep, .slice a n c, .int .i64 Op] 24)) (.cells #[.int .i64 Kd, .int .i64 F, .int .i64 C, .int .i64 S, .string H, .int .i64 k0, .int .i64 k1, .int .i64 k2, .int .i64 k3, .int .i64 k4, .int .i64 k5, .int .i64 k6, .string s7, .string s8, .int .i64 q, .slice ar nr cr] 31)
  have n2 := below_new ((w.alloc (.cells #[.int .i64 Ep, .slice a n c, .int .i64 Op] 24)).alloc (.cells #[.int .i64 Kd, .int .i64 F, .int .i64 C, .int .i64 S, .string H, .int .i64 k0, .int .i64 k1, .int .i64 k2, .int .i64 k3, .int .i64 k4, .int .i64 k5, .int .i64 k6, .string s7, .string s8, .int .i64 q, .slice ar nr cr] 31)) (.cells #[.int .i64 0, .slice none 0 0, .int .i64 0] 24)
  have HS0 : Hid (DoS w w0 #[.int .i64 Ep, .slice a n c, .int .i64 Op] #[.int .i64 Kd, .int .i64 F, .int .i64 C, .int .i64 S, .string H, .int .i64 k0, .int .i64 k1, .int .i64 k2, .int .i64 k3, .int .i64 k4, .int .i64 k5, .int .i64 k6, .string s7, .string s8, .int .i64 q, .slice ar nr cr]) := by
    rw [← hw0]
    exact ⟨((Blk.new w _ _).on n1).on n2, (Blk.new' _ _ _ _ (by simp)).on n2, Blk.new' _ _ _ _ (by simp), below_step (below_step n0 (Nat.le_refl _) n1) (Nat.le_refl _) n2⟩
  have HW0 : Hid (((w.alloc (.cells #[.int .i64 Ep, .slice a n c, .int .i64 Op] 24)).alloc (.cells #[.int .i64 Kd, .int .i64 F, .int .i64 C, .int .i64 S, .string H, .int .i64 k0, .int .i64 k1, .int .i64 k2, .int .i64 k3, .int .i64 k4, .int .i64 k5, .int .i64 k6, .string s7, .string s8, .int .i64 q, .slice ar nr cr] 31)).alloc (.cells #[.int .i64 0, .slice none 0 0, .int .i64 0] 24) = w0) := hw0
  obtain ⟨g0, g1, g2⟩ := gCells HS0.out
  rw [← hw0] at g0 g1 g2
  clear hw0 n0 n1 n2
  go_enter Tryd.func12, Tryd.ntmps12
  go_wp2_with fail
  rw [HW0.out]
  clear HW0 g0 g1 g2
  refine (HHG.out w0 HS0.out.w).mono ?_
  rintro e w1 ⟨rfl, hb⟩
  have HS1 : Hid (DoS w w1 #[.int .i64 Ep, .slice a n c, .int .i64 Op] #[.int .i64 Kd, .int .i64 F, .int .i64 C, .int .i64 S, .string H, .int .i64 k0, .int .i64 k1, .int .i64 k2, .int .i64 k3, .int .i64 k4, .int .i64 k5, .int .i64 k6, .string s7, .string s8, .int .i64 q, .slice ar nr cr]) := HS0.out.on hb
  clear hb HS0 HHG
  cases D with
  | false =>
    obtain rfl : E = 1 := by rw [← HE.out]; exact if_pos rfl
    have X1 := HS1.out.z
    have HBX : Hid (Below w.heap.size w (w1.setRow (w.heap.size + 1 + 1) #[.int .i64 0, .slice none 0 0, .int .i64 0])) := below_setRow HS1.out.w (by omega) _
    go_wp2_with (with_reducible refine wpList_storeBlk rfl 24 _ _ rfl (w.heap.size + 1 + 1) #[.int .i64 0, .slice none 0 0, .int .i64 0] #[.int .i64 0, .slice none 0 0, .int .i64 0] (by with_unfolding_all rfl) (by with_unfolding_all rfl) X1 rfl (by kernel_rfl) (by kernel_rfl) ?_)
    exact bodyPost_rowTmp2g rfl (w.heap.size + 1 + 1) #[.int .i64 0, .slice none 0 0, .int .i64 0] (.bool false) (.int .i64 1) rfl rfl rfl rfl (X1.setRow _) _ Tryd.underlying24 rfl (by kernel_rfl) ⟨.inl ⟨by decide, rfl⟩, HBX.out⟩
  | true =>
  have HMY : Hid (MayG (Ep, l, Op)) := HMG.out.1 rfl
  clear HMG
  obtain rfl : n = 6 := by rw [← HI.out.1]; exact HMY.out.2.2.1
  obtain ⟨b, off, rfl⟩ : ∃ b off, a = some ⟨b, off, none⟩ := by
    rcases HI.out.2 with h | ⟨b, off, h, _⟩
    · omega
    · exact ⟨b, off, h⟩
  have r0 : w1.cell? ⟨w.heap.size + 1, 0, none⟩ = some (.int .i64 Kd) := HS1.out.r.cell 0
  have r1 : w1.cell? ⟨w.heap.size + 1, 1, none⟩ = some (.int .i64 F) := HS1.out.r.cell 1
  have r2 : w1.cell? ⟨w.heap.size + 1, 2, none⟩ = some (.int .i64 C) := HS1.out.r.cell 2
  have r3 : w1.cell? ⟨w.heap.size + 1, 3, none⟩ = some (.int .i64 S) := HS1.out.r.cell 3
  have r4 : w1.cell? ⟨w.heap.size + 1, 4, none⟩ = some (.string H) := HS1.out.r.cell 4
  have r5 : w1.cell? ⟨w.heap.size + 1, 5, none⟩ = some (.int .i64 k0) := HS1.out.r.cell 5
  have r6 : w1.cell? ⟨w.heap.size + 1, 6, none⟩ = some (.int .i64 k1) := HS1.out.r.cell 6
  have r7 : w1.cell? ⟨w.heap.size + 1, 7, none⟩ = some (.int .i64 k2) := HS1.out.r.cell 7
  have r8 : w1.cell? ⟨w.heap.size + 1, 8, none⟩ = some (.int .i64 k3) := HS1.out.r.cell 8
  have r9 : w1.cell? ⟨w.heap.size + 1, 9, none⟩ = some (.int .i64 k4) := HS1.out.r.cell 9
  have r10 : w1.cell? ⟨w.heap.size + 1, 10, none⟩ = some (.int .i64 k5) := HS1.out.r.cell 10
  have r11 : w1.cell? ⟨w.heap.size + 1, 11, none⟩ = some (.int .i64 k6) := HS1.out.r.cell 11
  have r12 : w1.cell? ⟨w.heap.size + 1, 12, none⟩ = some (.string s7) := HS1.out.r.cell 12
  have r13 : w1.cell? ⟨w.heap.size + 1, 13, none⟩ = some (.string s8) := HS1.out.r.cell 13
  have r14 : w1.cell? ⟨w.heap.size + 1, 14, none⟩ = some (.int .i64 q) := HS1.out.r.cell 14
  have r15 : w1.cell? ⟨w.heap.size + 1, 15, none⟩ = some (.slice ar nr cr) := HS1.out.r.cell 15
  go_wp2_with fail
  clear r0 r1 r2 r3 r4 r5 r6 r7 r8 r9 r10 r11 r12 r13 r14 r15
  refine (HHR.out w1 HS1.out.w).mono ?_
  rintro e w2 ⟨rfl, hb⟩
  have HS2 : Hid (DoS w w2 #[.int .i64 Ep, .slice (some ⟨b, off, none⟩) 6 c, .int .i64 Op] #[.int .i64 Kd, .int .i64 F, .int .i64 C, .int .i64 S, .string H, .int .i64 k0, .int .i64 k1, .int .i64 k2, .int .i64 k3, .int .i64 k4, .int .i64 k5, .int .i64 k6, .string s7, .string s8, .int .i64 q, .slice ar nr cr]) := HS1.out.on hb
  clear hb HS1 HHR
  cases X with
  | false =>
    obtain rfl : E = 1 := by rw [← HE.out]; exact if_pos rfl
    have X1 := HS2.out.z
    have HBX : Hid (Below w.heap.size w (w2.setRow (w.heap.size + 1 + 1) #[.int .i64 0, .slice none 0 0, .int .i64 0])) := below_setRow HS2.out.w (by omega) _
    go_wp2_with (with_reducible refine wpList_storeBlk rfl 24 _ _ rfl (w.heap.size + 1 + 1) #[.int .i64 0, .slice none 0 0, .int .i64 0] #[.int .i64 0, .slice none 0 0, .int .i64 0] (by with_unfolding_all rfl) (by with_unfolding_all rfl) X1 rfl (by kernel_rfl) (by kernel_rfl) ?_)
    exact bodyPost_rowTmp2g rfl (w.heap.size + 1 + 1) #[.int .i64 0, .slice none 0 0, .int .i64 0] (.bool false) (.int .i64 1) rfl rfl rfl rfl (X1.setRow _) _ Tryd.underlying24 rfl (by kernel_rfl) ⟨.inl ⟨by decide, rfl⟩, HBX.out⟩
  | true =>
  have HP := HPT.out rfl
  have HPY : Hid _ := HP
  have HQ6 : Hid (Kd = 2 ∨ Kd = 3 → 1 ≤ q ∧ q ≤ 6) := HQ23.out rfl
  clear HP HPT HQ23
  obtain ⟨k, hk, hk6⟩ : ∃ k : Nat, F = (k : Int) + 1 ∧ k < 6 := ⟨(F - 1).toNat, by have := HPY.out.1.1; omega, by have := HPY.out.1.1; omega⟩
  obtain ⟨y, hy⟩ : ∃ y, (mmL l k).2.1 = y := ⟨_, rfl⟩
  obtain ⟨x, hx⟩ : ∃ x, (mmL l k).1 = x := ⟨_, rfl⟩
  obtain ⟨z, hz⟩ : ∃ z, (mmL l k).2.2 = z := ⟨_, rfl⟩
  obtain ⟨Y, hY⟩ : ∃ Y, decide (C = y + 1) = Y := ⟨_, rfl⟩
  have hyb := HMY.out.2.2.2 k hk6
  have hy0 : 0 ≤ y ∧ y ≤ 1099511627775 := by
    rw [← hy]; exact ⟨hyb.2.1, hyb.2.2.1⟩
  have hkk : (F - 1).toNat = k := by omega
  have HEY : Hid ((if (true && (true && Y)) = false then (1 : Int) else if epoch < 1 ∨ epoch < Ep - 1 ∨ Ep < epoch then 201 else 0) = E) := by
    have h := HE.out
    rw [hkk, hy, hY] at h
    exact h
  have HK : Hid (F = (k : Int) + 1) := hk
  have HK6 : Hid (k < 6) := hk6
  have HY : Hid ((mmL l k).2.1 = y ∧ (mmL l k).1 = x ∧ (mmL l k).2.2 = z) := ⟨hy, hx, hz⟩
  have HKK : Hid ((F - 1).toNat = k) := hkk
  have HYY : Hid (decide (C = y + 1) = Y) := hY
  have hC := HPY.out.1.2.1
  obtain ⟨m0, m1, m2⟩ : w2.cell? ⟨b, off + k * 3, none⟩ = some (.int .i64 x) ∧ w2.cell? ⟨b, off + k * 3 + 1, none⟩ = some (.int .i64 y) ∧ w2.cell? ⟨b, off + k * 3 + 2, none⟩ = some (.bool z) := by
    have hi := HI.out.below HS2.out.w
    rcases hi.2 with h | ⟨b', off', e, h⟩
    · omega
    · cases e
      have := h k hk6
      rw [hx, hy, hz] at this
      exact this
  have a1 : IntKind.i64.wrap (F - 1) = (k : Int) := by rw [IntKind.wrap_i64, hk]; omega
  have a2 : (0 : Int) ≤ (k : Int) := by omega
  have a3 : (k : Int) < 6 := by omega
  have a4 : IntKind.i64.wrap (y + 1) = y + 1 := by rw [IntKind.wrap_i64]; omega
  have a5 : (C != y + 1) = !Y := by rw [← hY]; by_cases e : C = y + 1 <;> simp [e]
  clear HE hk hy hx hz hY hkk hyb
  have r1 : w2.cell? ⟨w.heap.size + 1, 1, none⟩ = some (.int .i64 F) := HS2.out.r.cell 1
  have r2 : w2.cell? ⟨w.heap.size + 1, 2, none⟩ = some (.int .i64 C) := HS2.out.r.cell 2
  obtain ⟨g0, g1, g2⟩ := gCells HS2.out
  have hEb : 1 ≤ Ep ∧ Ep ≤ 1099511627775 := HMY.out.1
  have e1 : IntKind.i64.wrap (Ep - 1) = Ep - 1 := by rw [IntKind.wrap_i64]; omega
  have nm := below_new w2 (.cells #[.int .i64 x, .int .i64 y, .bool z] 46)
  have HS3 : Hid (DoS w (w2.alloc (.cells #[.int .i64 x, .int .i64 y, .bool z] 46)) #[.int .i64 Ep, .slice (some ⟨b, off, none⟩) 6 c, .int .i64 Op] #[.int .i64 Kd, .int .i64 F, .int .i64 C, .int .i64 S, .string H, .int .i64 k0, .int .i64 k1, .int .i64 k2, .int .i64 k3, .int .i64 k4, .int .i64 k5, .int .i64 k6, .string s7, .string s8, .int .i64 q, .slice ar nr cr]) := HS2.out.on nm
  by_cases hmx : 1099511627775 ≤ y
  · obtain rfl : Y = false := by rw [← HYY.out]; exact decide_eq_false (by omega)
    obtain rfl : E = 1 := by rw [← HEY.out]; exact if_pos rfl
    obtain ⟨w3, hw3⟩ : ∃ w3, w2.alloc (.cells #[.int .i64 x, .int .i64 y, .bool z] 46) = w3 := ⟨_, rfl⟩
    have HS4 : Hid (DoS w w3 #[.int .i64 Ep, .slice (some ⟨b, off, none⟩) 6 c, .int .i64 Op] #[.int .i64 Kd, .int .i64 F, .int .i64 C, .int .i64 S, .string H, .int .i64 k0, .int .i64 k1, .int .i64 k2, .int .i64 k3, .int .i64 k4, .int .i64 k5, .int .i64 k6, .string s7, .string s8, .int .i64 q, .slice ar nr cr]) := by show DoS _ _ _ _; rw [← hw3]; exact HS3.out
    have X1 := HS4.out.z
    have HBX : Hid (Below w.heap.size w (w3.setRow (w.heap.size + 1 + 1) #[.int .i64 0, .slice none 0 0, .int .i64 0])) := below_setRow HS4.out.w (by omega) _
    rw [← hw3] at X1 HBX
    clear HS3 HS4 hw3 HEY HYY
    go_wp2_with (with_reducible refine wpList_storeBlk rfl 24 _ _ rfl (w.heap.size + 1 + 1) #[.int .i64 0, .slice none 0 0, .int .i64 0] #[.int .i64 0, .slice none 0 0, .int .i64 0] (by with_unfolding_all rfl) (by with_unfolding_all rfl) X1 rfl (by kernel_rfl) (by kernel_rfl) ?_)
    exact bodyPost_rowTmp2g rfl (w.heap.size + 1 + 1) #[.int .i64 0, .slice none 0 0, .int .i64 0] (.bool false) (.int .i64 1) rfl rfl rfl rfl (X1.setRow _) _ Tryd.underlying24 rfl (by kernel_rfl) ⟨.inl ⟨by decide, rfl⟩, HBX.out⟩
  cases Y with
  | false =>
    obtain rfl : E = 1 := by rw [← HEY.out]; exact if_pos rfl
    obtain ⟨w3, hw3⟩ : ∃ w3, w2.alloc (.cells #[.int .i64 x, .int .i64 y, .bool z] 46) = w3 := ⟨_, rfl⟩
    have HS4 : Hid (DoS w w3 #[.int .i64 Ep, .slice (some ⟨b, off, none⟩) 6 c, .int .i64 Op] #[.int .i64 Kd, .int .i64 F, .int .i64 C, .int .i64 S, .string H, .int .i64 k0, .int .i64 k1, .int .i64 k2, .int .i64 k3, .int .i64 k4, .int .i64 k5, .int .i64 k6, .string s7, .string s8, .int .i64 q, .slice ar nr cr]) := by show DoS _ _ _ _; rw [← hw3]; exact HS3.out
    have r2 : w3.cell? ⟨w.heap.size + 1, 2, none⟩ = some (.int .i64 C) := HS4.out.r.cell 2
    have X1 := HS4.out.z
    have HBX : Hid (Below w.heap.size w (w3.setRow (w.heap.size + 1 + 1) #[.int .i64 0, .slice none 0 0, .int .i64 0])) := below_setRow HS4.out.w (by omega) _
    rw [← hw3] at X1 HBX r2
    clear HS3 HS4 hw3 HEY HYY
    go_wp2_with (with_reducible refine wpList_storeBlk rfl 24 _ _ rfl (w.heap.size + 1 + 1) #[.int .i64 0, .slice none 0 0, .int .i64 0] #[.int .i64 0, .slice none 0 0, .int .i64 0] (by with_unfolding_all rfl) (by with_unfolding_all rfl) X1 rfl (by kernel_rfl) (by kernel_rfl) ?_)
    exact bodyPost_rowTmp2g rfl (w.heap.size + 1 + 1) #[.int .i64 0, .slice none 0 0, .int .i64 0] (.bool false) (.int .i64 1) rfl rfl rfl rfl (X1.setRow _) _ Tryd.underlying24 rfl (by kernel_rfl) ⟨.inl ⟨by decide, rfl⟩, HBX.out⟩
  | true =>
  have hEE : (if epoch < 1 ∨ epoch < Ep - 1 ∨ Ep < epoch then (201 : Int) else 0) = E := HEY.out
  by_cases hep : epoch < 1 ∨ epoch < Ep - 1 ∨ Ep < epoch
  · obtain rfl : E = 201 := by rw [← hEE]; exact if_pos hep
    obtain ⟨w3, hw3⟩ : ∃ w3, w2.alloc (.cells #[.int .i64 x, .int .i64 y, .bool z] 46) = w3 := ⟨_, rfl⟩
    have HS4 : Hid (DoS w w3 #[.int .i64 Ep, .slice (some ⟨b, off, none⟩) 6 c, .int .i64 Op] #[.int .i64 Kd, .int .i64 F, .int .i64 C, .int .i64 S, .string H, .int .i64 k0, .int .i64 k1, .int .i64 k2, .int .i64 k3, .int .i64 k4, .int .i64 k5, .int .i64 k6, .string s7, .string s8, .int .i64 q, .slice ar nr cr]) := by show DoS _ _ _ _; rw [← hw3]; exact HS3.out
    have r2' : w3.cell? ⟨w.heap.size + 1, 2, none⟩ = some (.int .i64 C) := HS4.out.r.cell 2
    have g0' : w3.cell? ⟨w.heap.size, 0, none⟩ = some (.int .i64 Ep) := HS4.out.g.cell 0
    have X1 := HS4.out.z
    have HBX : Hid (Below w.heap.size w (w3.setRow (w.heap.size + 1 + 1) #[.int .i64 0, .slice none 0 0, .int .i64 0])) := below_setRow HS4.out.w (by omega) _
    rw [← hw3] at X1 HBX r2' g0'
    clear HS3 HS4 hw3 HEY HYY hEE
    by_cases h1 : epoch < 1
    · go_wp2_with (with_reducible refine wpList_storeBlk rfl 24 _ _ rfl (w.heap.size + 1 + 1) #[.int .i64 0, .slice none 0 0, .int .i64 0] #[.int .i64 0, .slice none 0 0, .int .i64 0] (by with_unfolding_all rfl) (by with_unfolding_all rfl) X1 rfl (by kernel_rfl) (by kernel_rfl) ?_)
      exact bodyPost_rowTmp2g rfl (w.heap.size + 1 + 1) #[.int .i64 0, .slice none 0 0, .int .i64 0] (.bool false) (.int .i64 201) rfl rfl rfl rfl (X1.setRow _) _ Tryd.underlying24 rfl (by kernel_rfl) ⟨.inl ⟨by decide, rfl⟩, HBX.out⟩
    by_cases h3 : Ep < epoch
    · go_wp2_with (with_reducible refine wpList_storeBlk rfl 24 _ _ rfl (w.heap.size + 1 + 1) #[.int .i64 0, .slice none 0 0, .int .i64 0] #[.int .i64 0, .slice none 0 0, .int .i64 0] (by with_unfolding_all rfl) (by with_unfolding_all rfl) X1 rfl (by kernel_rfl) (by kernel_rfl) ?_)
      exact bodyPost_rowTmp2g rfl (w.heap.size + 1 + 1) #[.int .i64 0, .slice none 0 0, .int .i64 0] (.bool false) (.int .i64 201) rfl rfl rfl rfl (X1.setRow _) _ Tryd.underlying24 rfl (by kernel_rfl) ⟨.inl ⟨by decide, rfl⟩, HBX.out⟩
    have h2 : epoch < Ep - 1 := by omega
    clear hep
    go_wp2_with (with_reducible refine wpList_storeBlk rfl 24 _ _ rfl (w.heap.size + 1 + 1) #[.int .i64 0, .slice none 0 0, .int .i64 0] #[.int .i64 0, .slice none 0 0, .int .i64 0] (by with_unfolding_all rfl) (by with_unfolding_all rfl) X1 rfl (by kernel_rfl) (by kernel_rfl) ?_)
    exact bodyPost_rowTmp2g rfl (w.heap.size + 1 + 1) #[.int .i64 0, .slice none 0 0, .int .i64 0] (.bool false) (.int .i64 201) rfl rfl rfl rfl (X1.setRow _) _ Tryd.underlying24 rfl (by kernel_rfl) ⟨.inl ⟨by decide, rfl⟩, HBX.out⟩
  obtain rfl : E = 0 := by rw [← hEE]; exact if_neg hep
  have hdn := does_next (Ep := Ep) (Op := Op) (epoch := epoch) (Kd := Kd) (F := F) (q := q) (l := l) (k := k) HK6.out HI.out.1 HK.out (fun i hi => (HMY.out.2.2.2 i hi).1) (by have := HPY.out.2; omega) HQ6.out
  obtain ⟨⟨⟨RE, Rl, RO⟩, RD⟩, hRR⟩ : ∃ Z, doesP (Ep, nextM l k, Op) epoch Kd F q = Z := ⟨_, rfl⟩
  have hQQ : Q = ((RE, Rl, RO), RD) := by rw [← HQ.out, HKK.out, ← hdn, hRR]
  subst hQQ
  have CW : Hid (∀ W, Below w.heap.size w W → Calls Tryd.prog 35 #[.agg #[.int .i64 Ep, .slice (some ⟨b, off, none⟩) 6 c, .int .i64 Op], .int .i64 (k : Int), .agg #[.int .i64 x, .int .i64 (y + 1), .bool z]] W fun e w' => ∃ b' c', e = .returned (.agg #[.int .i64 Ep, .slice (some ⟨b', 0, none⟩) 6 c', .int .i64 Op]) ∧ RowM w' b' c' (nextM l k) ∧ Below W.heap.size W w') := fun W hW => by
    refine (rwith20_any Ep Op l b off c k (x, y + 1, z) W HI.out.1 HK6.out HCC.out.1 HCC.out.2 (HI.out.below hW)).mono ?_
    rintro e w' ⟨b', o', c', rfl, _, _, hO, hb⟩
    have hw6 : (withM l k (x, y + 1, z)).length = 6 := by rw [withM_set l k _ (by rw [HI.out.1]; exact HK6.out), List.length_set]; exact HI.out.1
    obtain ⟨b2, c2, e2, _, hr⟩ := hO.rowM hw6
    cases e2
    refine ⟨_, _, rfl, ?_, hb⟩
    rw [withM_set l k _ (by rw [HI.out.1]; exact HK6.out)] at hr
    unfold nextM
    rw [HY.out.1, HY.out.2.1, HY.out.2.2]
    exact hr
  have CDo : Hid (∀ W b' c', RowM W b' c' (nextM l k) → Calls Tryd.prog 34 #[.agg #[.int .i64 Ep, .slice (some ⟨b', 0, none⟩) 6 c', .int .i64 Op], .int .i64 epoch, .agg #[.int .i64 Kd, .int .i64 F, .int .i64 C, .int .i64 S, .string H, .int .i64 k0, .int .i64 k1, .int .i64 k2, .int .i64 k3, .int .i64 k4, .int .i64 k5, .int .i64 k6, .string s7, .string s8, .int .i64 q, .slice ar nr cr]] W fun e w' => ∃ b' o' c', e = .returned (.tuple #[.agg #[.int .i64 RE, .slice (some ⟨b', o', none⟩) 6 c', .int .i64 RO], .bool RD]) ∧ RowK w' b' o' Rl ∧ Below W.heap.size W w') := fun W b' c' hm => by
    refine (rdoes20_any Ep Op epoch Kd F C S H k0 k1 k2 k3 k4 k5 k6 s7 s8 q ar nr cr (nextM l k) b' 0 c' W RE RO Rl RD hRR hm.1 hm.2.1 hm.2.2.1 HMY.out.2.1 hEb HQ6.out hm.at).mono ?_
    rintro e w' ⟨b2, o2, c2, rfl, h6, hmx, h | ⟨B, hB, hO⟩, hb⟩
    · obtain ⟨rfl, rfl, rfl⟩ := h
      exact ⟨_, _, _, rfl, hm.rowK.on hb, hb⟩
    · have hl6 : Rl.length = 6 := by
        obtain ⟨a2, cap2, e2, _⟩ := hO.rows
        injection e2 with _ e3 _
        exact e3.symm
      obtain ⟨b3, c3, e3, _, hr⟩ := hO.rowM hl6
      cases e3
      exact ⟨_, _, _, rfl, hr.rowK, hb⟩
  have hep' : 1 ≤ epoch ∧ epoch ≤ Ep ∧ Ep - 1 ≤ epoch := by omega
  obtain ⟨hp1, hp2, hp3⟩ := hep'
  obtain ⟨W1, hW1⟩ : ∃ W1, w2.alloc (.cells #[.int .i64 x, .int .i64 (y + 1), .bool z] 46) = W1 := ⟨_, rfl⟩
  obtain ⟨w3, hw3⟩ : ∃ w3, w2.alloc (.cells #[.int .i64 x, .int .i64 y, .bool z] 46) = w3 := ⟨_, rfl⟩
  have r2' : w3.cell? ⟨w.heap.size + 1, 2, none⟩ = some (.int .i64 C) := by rw [← hw3]; exact HS3.out.r.cell 2
  have g0' : w3.cell? ⟨w.heap.size, 0, none⟩ = some (.int .i64 Ep) := by rw [← hw3]; exact HS3.out.g.cell 0
  rw [← hw3] at r2' g0'
  obtain ⟨gm, hgm⟩ : ∃ gm, w2.heap.size = gm := ⟨_, rfl⟩
  have HJG : Hid (JgS w gm #[.int .i64 Ep, .slice (some ⟨b, off, none⟩) 6 c, .int .i64 Op] #[.int .i64 Kd, .int .i64 F, .int .i64 C, .int .i64 S, .string H, .int .i64 k0, .int .i64 k1, .int .i64 k2, .int .i64 k3, .int .i64 k4, .int .i64 k5, .int .i64 k6, .string s7, .string s8, .int .i64 q, .slice ar nr cr] x (y + 1) z W1) := by
    show JgS _ _ _ _ _ _ _ _
    rw [← hW1, ← hgm]
    exact ⟨HS2.out.on (below_new _ _), Blk.new _ _ _⟩
  have HW1 : Hid (_ = W1) := hW1
  have HGM : Hid (w2.heap.size = gm) := hgm
  clear HS3 hw3 HEY HYY hEE hep hRR hdn hW1 hgm HQ HS2 nm
  go_wp2_with fail
  rw [HW1.out]
  try rw [HGM.out]
  clear HW1 HGM r1 r2 r2' g0 g1 g2 g0' m0 m1 m2
  as_aux_lemma =>
  have HSS : Hid (∀ W', Below W1.heap.size W1 W' → W'.cell? ⟨w.heap.size, 0, none⟩ = some (.int .i64 Ep) ∧ W'.cell? ⟨w.heap.size, 1, none⟩ = some (.slice (some ⟨b, off, none⟩) 6 c) ∧ W'.cell? ⟨w.heap.size, 2, none⟩ = some (.int .i64 Op) ∧ W'.cell? ⟨gm, 0, none⟩ = some (.int .i64 x) ∧ W'.cell? ⟨gm, 1, none⟩ = some (.int .i64 (y + 1)) ∧ W'.cell? ⟨gm, 2, none⟩ = some (.bool z) ∧ W'.cell? ⟨w.heap.size + 1, 0, none⟩ = some (.int .i64 Kd) ∧ W'.cell? ⟨w.heap.size + 1, 1, none⟩ = some (.int .i64 F) ∧ W'.cell? ⟨w.heap.size + 1, 2, none⟩ = some (.int .i64 C) ∧ W'.cell? ⟨w.heap.size + 1, 3, none⟩ = some (.int .i64 S) ∧ W'.cell? ⟨w.heap.size + 1, 4, none⟩ = some (.string H) ∧ W'.cell? ⟨w.heap.size + 1, 5, none⟩ = some (.int .i64 k0) ∧ W'.cell? ⟨w.heap.size + 1, 6, none⟩ = some (.int .i64 k1) ∧ W'.cell? ⟨w.heap.size + 1, 7, none⟩ = some (.int .i64 k2) ∧ W'.cell? ⟨w.heap.size + 1, 8, none⟩ = some (.int .i64 k3) ∧ W'.cell? ⟨w.heap.size + 1, 9, none⟩ = some (.int .i64 k4) ∧ W'.cell? ⟨w.heap.size + 1, 10, none⟩ = some (.int .i64 k5) ∧ W'.cell? ⟨w.heap.size + 1, 11, none⟩ = some (.int .i64 k6) ∧ W'.cell? ⟨w.heap.size + 1, 12, none⟩ = some (.string s7) ∧ W'.cell? ⟨w.heap.size + 1, 13, none⟩ = some (.string s8) ∧ W'.cell? ⟨w.heap.size + 1, 14, none⟩ = some (.int .i64 q) ∧ W'.cell? ⟨w.heap.size + 1, 15, none⟩ = some (.slice ar nr cr)) := fun W' hW => by
    have q := HJG.out.on hW
    exact ⟨q.1.g.cell 0, q.1.g.cell 1, q.1.g.cell 2, q.2.cell 0, q.2.cell 1, q.2.cell 2, q.1.r.cell 0, q.1.r.cell 1, q.1.r.cell 2, q.1.r.cell 3, q.1.r.cell 4, q.1.r.cell 5, q.1.r.cell 6, q.1.r.cell 7, q.1.r.cell 8, q.1.r.cell 9, q.1.r.cell 10, q.1.r.cell 11, q.1.r.cell 12, q.1.r.cell 13, q.1.r.cell 14, q.1.r.cell 15⟩
  have hS0 : W1.drew.cell? ⟨w.heap.size, 0, none⟩ = some (.int .i64 Ep) ∧ W1.drew.cell? ⟨w.heap.size, 1, none⟩ = some (.slice (some ⟨b, off, none⟩) 6 c) ∧ W1.drew.cell? ⟨w.heap.size, 2, none⟩ = some (.int .i64 Op) ∧ W1.drew.cell? ⟨gm, 0, none⟩ = some (.int .i64 x) ∧ W1.drew.cell? ⟨gm, 1, none⟩ = some (.int .i64 (y + 1)) ∧ W1.drew.cell? ⟨gm, 2, none⟩ = some (.bool z) ∧ W1.drew.cell? ⟨w.heap.size + 1, 0, none⟩ = some (.int .i64 Kd) ∧ W1.drew.cell? ⟨w.heap.size + 1, 1, none⟩ = some (.int .i64 F) ∧ W1.drew.cell? ⟨w.heap.size + 1, 2, none⟩ = some (.int .i64 C) ∧ W1.drew.cell? ⟨w.heap.size + 1, 3, none⟩ = some (.int .i64 S) ∧ W1.drew.cell? ⟨w.heap.size + 1, 4, none⟩ = some (.string H) ∧ W1.drew.cell? ⟨w.heap.size + 1, 5, none⟩ = some (.int .i64 k0) ∧ W1.drew.cell? ⟨w.heap.size + 1, 6, none⟩ = some (.int .i64 k1) ∧ W1.drew.cell? ⟨w.heap.size + 1, 7, none⟩ = some (.int .i64 k2) ∧ W1.drew.cell? ⟨w.heap.size + 1, 8, none⟩ = some (.int .i64 k3) ∧ W1.drew.cell? ⟨w.heap.size + 1, 9, none⟩ = some (.int .i64 k4) ∧ W1.drew.cell? ⟨w.heap.size + 1, 10, none⟩ = some (.int .i64 k5) ∧ W1.drew.cell? ⟨w.heap.size + 1, 11, none⟩ = some (.int .i64 k6) ∧ W1.drew.cell? ⟨w.heap.size + 1, 12, none⟩ = some (.string s7) ∧ W1.drew.cell? ⟨w.heap.size + 1, 13, none⟩ = some (.string s8) ∧ W1.drew.cell? ⟨w.heap.size + 1, 14, none⟩ = some (.int .i64 q) ∧ W1.drew.cell? ⟨w.heap.size + 1, 15, none⟩ = some (.slice ar nr cr) := HSS.out _ (Below.refl _ _).drew
  have HBL : Hid (Below w.heap.size w W1) := HJG.out.1.w
  have CW2 : Hid (∀ W, Below W1.heap.size W1 W → _) := fun W hW => CW.out W (below_step HBL.out (Nat.le_refl _) hW)
  clear CW
  go_cut [10, 11] (fun u4 u5 wx => ∃ h b o c : Nat, u4 = .pointer (some ⟨h, 0, none⟩) ∧ u5 = .bool RD ∧ Hid (JdR W1 h b o c RE RO Rl wx))
  case first =>
    refine wp_region_noPanic ?_
    refine wp_region_held_drew (S := fun W' => W'.cell? ⟨w.heap.size, 0, none⟩ = some (.int .i64 Ep) ∧ W'.cell? ⟨w.heap.size, 1, none⟩ = some (.slice (some ⟨b, off, none⟩) 6 c) ∧ W'.cell? ⟨w.heap.size, 2, none⟩ = some (.int .i64 Op) ∧ W'.cell? ⟨gm, 0, none⟩ = some (.int .i64 x) ∧ W'.cell? ⟨gm, 1, none⟩ = some (.int .i64 (y + 1)) ∧ W'.cell? ⟨gm, 2, none⟩ = some (.bool z) ∧ W'.cell? ⟨w.heap.size + 1, 0, none⟩ = some (.int .i64 Kd) ∧ W'.cell? ⟨w.heap.size + 1, 1, none⟩ = some (.int .i64 F) ∧ W'.cell? ⟨w.heap.size + 1, 2, none⟩ = some (.int .i64 C) ∧ W'.cell? ⟨w.heap.size + 1, 3, none⟩ = some (.int .i64 S) ∧ W'.cell? ⟨w.heap.size + 1, 4, none⟩ = some (.string H) ∧ W'.cell? ⟨w.heap.size + 1, 5, none⟩ = some (.int .i64 k0) ∧ W'.cell? ⟨w.heap.size + 1, 6, none⟩ = some (.int .i64 k1) ∧ W'.cell? ⟨w.heap.size + 1, 7, none⟩ = some (.int .i64 k2) ∧ W'.cell? ⟨w.heap.size + 1, 8, none⟩ = some (.int .i64 k3) ∧ W'.cell? ⟨w.heap.size + 1, 9, none⟩ = some (.int .i64 k4) ∧ W'.cell? ⟨w.heap.size + 1, 10, none⟩ = some (.int .i64 k5) ∧ W'.cell? ⟨w.heap.size + 1, 11, none⟩ = some (.int .i64 k6) ∧ W'.cell? ⟨w.heap.size + 1, 12, none⟩ = some (.string s7) ∧ W'.cell? ⟨w.heap.size + 1, 13, none⟩ = some (.string s8) ∧ W'.cell? ⟨w.heap.size + 1, 14, none⟩ = some (.int .i64 q) ∧ W'.cell? ⟨w.heap.size + 1, 15, none⟩ = some (.slice ar nr cr)) (by kernel_rfl) (by first | exact trivial | assumption | exact ⟨by assumption, by assumption⟩) (fun hHeld => ?_)
    refine take_at (i := 0) (v := ?_) rfl rfl (by kernel_rfl) (by kernel_rfl) (by kernel_rfl) (fun _ _ _ h => h) (Or.inl ⟨by rfl, ?_⟩) (by assumption) ?_
    rotate_left
    · intro w hSw; (try dsimp only at hSw); go_simp; try with_reducible rfl
    try simp only [Act.put, List.setIfInBounds_toArray, List.set_cons_zero, List.set_cons_succ]
    refine take_at (i := 1) (v := ?_) rfl rfl (by kernel_rfl) (by kernel_rfl) (by kernel_rfl) (fun _ _ _ h => h) (Or.inl ⟨by rfl, ?_⟩) (by assumption) ?_
    rotate_left
    · intro w hSw; (try dsimp only at hSw); go_simp; try with_reducible rfl
    try simp only [Act.put, List.setIfInBounds_toArray, List.set_cons_zero, List.set_cons_succ]
    refine take_at (i := 2) (v := ?_) rfl rfl (by kernel_rfl) (by kernel_rfl) (by kernel_rfl) (fun _ _ _ h => h) (Or.inl ⟨by rfl, ?_⟩) (by assumption) ?_
    rotate_left
    · intro w hSw; (try dsimp only at hSw); go_simp; try with_reducible rfl
    try simp only [Act.put, List.setIfInBounds_toArray, List.set_cons_zero, List.set_cons_succ]
    refine take_at (i := 3) (v := ?_) rfl rfl (by kernel_rfl) (by kernel_rfl) (by kernel_rfl) (fun _ _ _ h => h) (Or.inl ⟨by rfl, ?_⟩) (by assumption) ?_
    rotate_left
    · intro w hSw; (try dsimp only at hSw); go_simp; try with_reducible rfl
    try simp only [Act.put, List.setIfInBounds_toArray, List.set_cons_zero, List.set_cons_succ]
    refine take_at (i := 4) (v := ?_) rfl rfl (by kernel_rfl) (by kernel_rfl) (by kernel_rfl) (fun _ _ _ h => h) (Or.inl ⟨by rfl, ?_⟩) (by assumption) ?_
    rotate_left
    · intro w hSw; (try dsimp only at hSw); go_simp; try with_reducible rfl
    try simp only [Act.put, List.setIfInBounds_toArray, List.set_cons_zero, List.set_cons_succ]
    refine take_at (i := 6) (v := ?_) rfl rfl (by kernel_rfl) (by kernel_rfl) (by kernel_rfl) (fun _ _ _ h => h) (Or.inl ⟨by rfl, ?_⟩) (by assumption) ?_
    rotate_left
    · intro w hSw; (try dsimp only at hSw); go_simp; try with_reducible rfl
    try simp only [Act.put, List.setIfInBounds_toArray, List.set_cons_zero, List.set_cons_succ]
    refine take_at (i := 7) (v := ?_) rfl rfl (by kernel_rfl) (by kernel_rfl) (by kernel_rfl) (fun _ _ _ h => h) (Or.inl ⟨by rfl, ?_⟩) (by assumption) ?_
    rotate_left
    · intro w hSw; (try dsimp only at hSw); go_simp; try with_reducible rfl
    try simp only [Act.put, List.setIfInBounds_toArray, List.set_cons_zero, List.set_cons_succ]
    clear hS0
    have hV0 : Below W1.heap.size W1 W1.drew := (Below.refl _ _).drew
    refine wpAnyH_ready (rs := [5, 12]) (by kernel_rfl) (by simp) ?_
    refine AllReadyH.cons rfl (fun K hK => ?_) (AllReadyH.cons rfl (fun K hK => ?_) AllReadyH.nil)
    · go_simp
      refine (CW2.out _ hV0).mono ?_
      rintro e V1 ⟨b8, c8, rfl, hm8, hb1⟩
      have hV1 : Below W1.heap.size W1 V1 := below_step hV0 (Nat.le_refl _) hb1
      clear hb1
      refine hK.out _ _ (HSS.out _ hV1) (fun hHeld => ?_)
      clear hK K
      refine wpAnyH_ready (rs := [8, 12]) (by kernel_rfl) (by simp) ?_
      refine AllReadyH.cons rfl (fun K hK => ?_) (AllReadyH.cons rfl (fun K hK => ?_) AllReadyH.nil)
      · go_simp
        refine (CDo.out V1 b8 c8 hm8).mono ?_
        rintro e V2 ⟨b9, o9, c9, rfl, hmm, hb2⟩
        have hV2 : Below W1.heap.size W1 V2 := below_step hV1 (Nat.le_refl _) hb2
        clear hb2
        refine hK.out _ _ (HSS.out _ hV2) (fun hHeld => ?_)
        clear hK K
        refine take_at (i := 9) (v := ?_) rfl rfl (by kernel_rfl) (by kernel_rfl) (by kernel_rfl) (fun _ _ _ h => h) (Or.inl ⟨by rfl, ?_⟩) (by assumption) ?_
        rotate_left
        · intro w hSw; (try dsimp only at hSw); go_simp; try with_reducible rfl
        try simp only [Act.put, List.setIfInBounds_toArray, List.set_cons_zero, List.set_cons_succ]
        refine take_at (i := 10) (v := ?_) rfl rfl (by kernel_rfl) (by kernel_rfl) (by kernel_rfl) (fun _ _ _ h => h) (Or.inl ⟨by rfl, ?_⟩) (by assumption) ?_
        rotate_left
        · intro w hSw; (try dsimp only at hSw); go_simp; try with_reducible rfl
        try simp only [Act.put, List.setIfInBounds_toArray, List.set_cons_zero, List.set_cons_succ]
        refine take_at (i := 11) (v := ?_) rfl rfl (by kernel_rfl) (by kernel_rfl) (by kernel_rfl) (fun _ _ _ h => h) (Or.inl ⟨by rfl, ?_⟩) (by assumption) ?_
        rotate_left
        · intro w hSw; (try dsimp only at hSw); go_simp; try with_reducible rfl
        try simp only [Act.put, List.setIfInBounds_toArray, List.set_cons_zero, List.set_cons_succ]
        refine wpAnyH_ready (rs := [12]) (by kernel_rfl) (by simp) ?_
        refine AllReadyH.cons rfl (fun K hK => ?_) AllReadyH.nil
        go_simp
        have hVZ : Below W1.heap.size W1 (V2.alloc (.cells #[.int .i64 0, .slice none 0 0, .int .i64 0] 24)) := hV2.alloc hV2.size _
        have hlh := hV2.size
        have hm9 : RowK (V2.alloc (.cells #[.int .i64 0, .slice none 0 0, .int .i64 0] 24)) b9 o9 Rl := hmm.on (below_new _ _)
        refine hK.out _ _ (HSS.out _ hVZ) (fun hHeld => ?_)
        clear hK K
        refine wpAnyH_ready (rs := [13]) (by kernel_rfl) (by simp) ?_
        refine AllReadyH.cons rfl (fun K hK => ?_) AllReadyH.nil
        refine step_storeRow rfl rfl 24 _ _ rfl V2.heap.size #[.int .i64 0, .slice none 0 0, .int .i64 0] #[.int .i64 RE, .slice (some ⟨b9, o9, none⟩) 6 c9, .int .i64 RO] rfl rfl (Blk.new V2 _ _) rfl (by kernel_rfl) (by simp [Value.oneCell']) ?_
        have HJD : Hid (JdR W1 V2.heap.size b9 o9 c9 RE RO Rl ((V2.alloc (.cells #[.int .i64 0, .slice none 0 0, .int .i64 0] 24)).setRow V2.heap.size #[.int .i64 RE, .slice (some ⟨b9, o9, none⟩) 6 c9, .int .i64 RO])) := by
          have kk : Blk (V2.alloc (.cells #[.int .i64 0, .slice none 0 0, .int .i64 0] 24)) 24 V2.heap.size #[.int .i64 0, .slice none 0 0, .int .i64 0] := (Blk.new V2 _ _)
          exact ⟨kk.setRow _, hm9.row kk _, below_setRow hVZ hlh _⟩
        refine hK.out _ _ (HSS.out _ HJD.out.bel) (fun hHeld => ?_)
        clear hK K
        refine take_at (i := 14) (v := ?_) rfl rfl (by kernel_rfl) (by kernel_rfl) (by kernel_rfl) (fun _ _ _ h => h) (Or.inl ⟨by rfl, ?_⟩) (by assumption) ?_
        rotate_left
        · intro w hSw; (try dsimp only at hSw); go_simp; try with_reducible rfl
        try simp only [Act.put, List.setIfInBounds_toArray, List.set_cons_zero, List.set_cons_succ]
        refine wpAnyH_done (by kernel_rfl) (NoPanic.normal ?_) _
        go_wp2_with fail
        go_meet
        case rel => exact ⟨V2.heap.size, b9, o9, c9, rfl, rfl, HJD⟩
      · go_simp
        have hlh := hV1.size
        have hVA : Below W1.heap.size W1 (V1.alloc (.cells #[.int .i64 0, .slice none 0 0, .int .i64 0] 24)) := hV1.alloc hV1.size _
        have KV1 : Blk (V1.alloc (.cells #[.int .i64 0, .slice none 0 0, .int .i64 0] 24)) 24 V1.heap.size #[.int .i64 0, .slice none 0 0, .int .i64 0] := Blk.new V1 _ _
        refine hK.out _ _ (HSS.out _ hVA) (fun hHeld => ?_)
        clear hK K
        refine wpAnyH_ready (rs := [8]) (by kernel_rfl) (by simp) ?_
        refine AllReadyH.cons rfl (fun K hK => ?_) AllReadyH.nil
        go_simp
        refine (CDo.out (V1.alloc (.cells #[.int .i64 0, .slice none 0 0, .int .i64 0] 24)) b8 c8 (hm8.on (below_new _ _))).mono ?_
        rintro e V2 ⟨b9, o9, c9, rfl, hm9, hb2⟩
        have hVZ : Below W1.heap.size W1 V2 := below_step hVA (Nat.le_refl _) hb2
        have KV2 := KV1.on hb2
        clear hb2
        refine hK.out _ _ (HSS.out _ hVZ) (fun hHeld => ?_)
        clear hK K
        refine take_at (i := 9) (v := ?_) rfl rfl (by kernel_rfl) (by kernel_rfl) (by kernel_rfl) (fun _ _ _ h => h) (Or.inl ⟨by rfl, ?_⟩) (by assumption) ?_
        rotate_left
        · intro w hSw; (try dsimp only at hSw); go_simp; try with_reducible rfl
        try simp only [Act.put, List.setIfInBounds_toArray, List.set_cons_zero, List.set_cons_succ]
        refine take_at (i := 10) (v := ?_) rfl rfl (by kernel_rfl) (by kernel_rfl) (by kernel_rfl) (fun _ _ _ h => h) (Or.inl ⟨by rfl, ?_⟩) (by assumption) ?_
        rotate_left
        · intro w hSw; (try dsimp only at hSw); go_simp; try with_reducible rfl
        try simp only [Act.put, List.setIfInBounds_toArray, List.set_cons_zero, List.set_cons_succ]
        refine take_at (i := 11) (v := ?_) rfl rfl (by kernel_rfl) (by kernel_rfl) (by kernel_rfl) (fun _ _ _ h => h) (Or.inl ⟨by rfl, ?_⟩) (by assumption) ?_
        rotate_left
        · intro w hSw; (try dsimp only at hSw); go_simp; try with_reducible rfl
        try simp only [Act.put, List.setIfInBounds_toArray, List.set_cons_zero, List.set_cons_succ]
        refine wpAnyH_ready (rs := [13]) (by kernel_rfl) (by simp) ?_
        refine AllReadyH.cons rfl (fun K hK => ?_) AllReadyH.nil
        refine step_storeRow rfl rfl 24 _ _ rfl V1.heap.size #[.int .i64 0, .slice none 0 0, .int .i64 0] #[.int .i64 RE, .slice (some ⟨b9, o9, none⟩) 6 c9, .int .i64 RO] rfl rfl KV2 rfl (by kernel_rfl) (by simp [Value.oneCell']) ?_
        have HJD : Hid (JdR W1 V1.heap.size b9 o9 c9 RE RO Rl (V2.setRow V1.heap.size #[.int .i64 RE, .slice (some ⟨b9, o9, none⟩) 6 c9, .int .i64 RO])) := by
          have kk : Blk V2 24 V1.heap.size #[.int .i64 0, .slice none 0 0, .int .i64 0] := KV2
          exact ⟨kk.setRow _, hm9.row kk _, below_setRow hVZ hlh _⟩
        refine hK.out _ _ (HSS.out _ HJD.out.bel) (fun hHeld => ?_)
        clear hK K
        refine take_at (i := 14) (v := ?_) rfl rfl (by kernel_rfl) (by kernel_rfl) (by kernel_rfl) (fun _ _ _ h => h) (Or.inl ⟨by rfl, ?_⟩) (by assumption) ?_
        rotate_left
        · intro w hSw; (try dsimp only at hSw); go_simp; try with_reducible rfl
        try simp only [Act.put, List.setIfInBounds_toArray, List.set_cons_zero, List.set_cons_succ]
        refine wpAnyH_done (by kernel_rfl) (NoPanic.normal ?_) _
        go_wp2_with fail
        go_meet
        case rel => exact ⟨V1.heap.size, b9, o9, c9, rfl, rfl, HJD⟩
    · go_simp
      have hlh : W1.heap.size ≤ W1.heap.size := Nat.le_refl _
      have hVA : Below W1.heap.size W1 (W1.drew.alloc (.cells #[.int .i64 0, .slice none 0 0, .int .i64 0] 24)) := hV0.alloc (Nat.le_refl _) _
      have KV0 : Blk (W1.drew.alloc (.cells #[.int .i64 0, .slice none 0 0, .int .i64 0] 24)) 24 W1.heap.size #[.int .i64 0, .slice none 0 0, .int .i64 0] := Blk.new' _ _ _ _ rfl
      refine hK.out _ _ (HSS.out _ hVA) (fun hHeld => ?_)
      clear hK K
      refine wpAnyH_ready (rs := [5]) (by kernel_rfl) (by simp) ?_
      refine AllReadyH.cons rfl (fun K hK => ?_) AllReadyH.nil
      go_simp
      refine (CW2.out (W1.drew.alloc (.cells #[.int .i64 0, .slice none 0 0, .int .i64 0] 24)) hVA).mono ?_
      rintro e V1 ⟨b8, c8, rfl, hm8, hb1⟩
      have hV1 : Below W1.heap.size W1 V1 := below_step hVA (Nat.le_refl _) hb1
      have KV1 := KV0.on hb1
      clear hb1
      refine hK.out _ _ (HSS.out _ hV1) (fun hHeld => ?_)
      clear hK K
      refine wpAnyH_ready (rs := [8]) (by kernel_rfl) (by simp) ?_
      refine AllReadyH.cons rfl (fun K hK => ?_) AllReadyH.nil
      go_simp
      refine (CDo.out V1 b8 c8 hm8).mono ?_
      rintro e V2 ⟨b9, o9, c9, rfl, hm9, hb2⟩
      have hVZ : Below W1.heap.size W1 V2 := below_step hV1 (Nat.le_refl _) hb2
      have KV2 := KV1.on hb2
      clear hb2
      refine hK.out _ _ (HSS.out _ hVZ) (fun hHeld => ?_)
      clear hK K
      refine take_at (i := 9) (v := ?_) rfl rfl (by kernel_rfl) (by kernel_rfl) (by kernel_rfl) (fun _ _ _ h => h) (Or.inl ⟨by rfl, ?_⟩) (by assumption) ?_
      rotate_left
      · intro w hSw; (try dsimp only at hSw); go_simp; try with_reducible rfl
      try simp only [Act.put, List.setIfInBounds_toArray, List.set_cons_zero, List.set_cons_succ]
      refine take_at (i := 10) (v := ?_) rfl rfl (by kernel_rfl) (by kernel_rfl) (by kernel_rfl) (fun _ _ _ h => h) (Or.inl ⟨by rfl, ?_⟩) (by assumption) ?_
      rotate_left
      · intro w hSw; (try dsimp only at hSw); go_simp; try with_reducible rfl
      try simp only [Act.put, List.setIfInBounds_toArray, List.set_cons_zero, List.set_cons_succ]
      refine take_at (i := 11) (v := ?_) rfl rfl (by kernel_rfl) (by kernel_rfl) (by kernel_rfl) (fun _ _ _ h => h) (Or.inl ⟨by rfl, ?_⟩) (by assumption) ?_
      rotate_left
      · intro w hSw; (try dsimp only at hSw); go_simp; try with_reducible rfl
      try simp only [Act.put, List.setIfInBounds_toArray, List.set_cons_zero, List.set_cons_succ]
      refine wpAnyH_ready (rs := [13]) (by kernel_rfl) (by simp) ?_
      refine AllReadyH.cons rfl (fun K hK => ?_) AllReadyH.nil
      refine step_storeRow rfl rfl 24 _ _ rfl W1.heap.size #[.int .i64 0, .slice none 0 0, .int .i64 0] #[.int .i64 RE, .slice (some ⟨b9, o9, none⟩) 6 c9, .int .i64 RO] rfl rfl KV2 rfl (by kernel_rfl) (by simp [Value.oneCell']) ?_
      have HJD : Hid (JdR W1 W1.heap.size b9 o9 c9 RE RO Rl (V2.setRow W1.heap.size #[.int .i64 RE, .slice (some ⟨b9, o9, none⟩) 6 c9, .int .i64 RO])) := by
        have kk : Blk V2 24 W1.heap.size #[.int .i64 0, .slice none 0 0, .int .i64 0] := KV2
        exact ⟨kk.setRow _, hm9.row kk _, below_setRow hVZ hlh _⟩
      refine hK.out _ _ (HSS.out _ HJD.out.bel) (fun hHeld => ?_)
      clear hK K
      refine take_at (i := 14) (v := ?_) rfl rfl (by kernel_rfl) (by kernel_rfl) (by kernel_rfl) (fun _ _ _ h => h) (Or.inl ⟨by rfl, ?_⟩) (by assumption) ?_
      rotate_left
      · intro w hSw; (try dsimp only at hSw); go_simp; try with_reducible rfl
      try simp only [Act.put, List.setIfInBounds_toArray, List.set_cons_zero, List.set_cons_succ]
      refine wpAnyH_done (by kernel_rfl) (NoPanic.normal ?_) _
      go_wp2_with fail
      go_meet
      case rel => exact ⟨W1.heap.size, b9, o9, c9, rfl, rfl, HJD⟩
  case rest =>
    obtain ⟨h9, b9, o9, c9, rfl, rfl, HJ9⟩ := hcut
    have HS9 : Hid (DoS w wc #[.int .i64 Ep, .slice (some ⟨b, off, none⟩) 6 c, .int .i64 Op] #[.int .i64 Kd, .int .i64 F, .int .i64 C, .int .i64 S, .string H, .int .i64 k0, .int .i64 k1, .int .i64 k2, .int .i64 k3, .int .i64 k4, .int .i64 k5, .int .i64 k6, .string s7, .string s8, .int .i64 q, .slice ar nr cr]) := HJG.out.1.on HJ9.out.bel
    have d0 : wc.cell? ⟨h9, 0, none⟩ = some (.int .i64 RE) := HJ9.out.gg.cell 0
    have d1 : wc.cell? ⟨h9, 1, none⟩ = some (.slice (some ⟨b9, o9, none⟩) 6 c9) := HJ9.out.gg.cell 1
    have d2 : wc.cell? ⟨h9, 2, none⟩ = some (.int .i64 RO) := HJ9.out.gg.cell 2
    have X1 := HS9.out.z
    have HBX : Hid (Below w.heap.size w (wc.setRow (w.heap.size + 1 + 1) #[.int .i64 RE, .slice (some ⟨b9, o9, none⟩) 6 c9, .int .i64 RO])) := below_setRow HS9.out.w (by omega) _
    have HMX : Hid (RowK (wc.setRow (w.heap.size + 1 + 1) #[.int .i64 RE, .slice (some ⟨b9, o9, none⟩) 6 c9, .int .i64 RO]) b9 o9 Rl) := HJ9.out.mm.row X1 _
    clear HSS hS0 CW2 CDo HJ9 HS9 HJG HBL
    go_wp2_with (with_reducible refine wpList_storeBlk rfl 24 _ _ rfl (w.heap.size + 1 + 1) #[.int .i64 0, .slice none 0 0, .int .i64 0] #[.int .i64 RE, .slice (some ⟨b9, o9, none⟩) 6 c9, .int .i64 RO] (by with_unfolding_all rfl) (by with_unfolding_all rfl) X1 rfl (by kernel_rfl) (by kernel_rfl) ?_)
    exact bodyPost_rowTmp2g rfl (w.heap.size + 1 + 1) #[.int .i64 RE, .slice (some ⟨b9, o9, none⟩) 6 c9, .int .i64 RO] (.bool RD) (.int .i64 0) rfl rfl rfl rfl (X1.setRow _) _ Tryd.underlying24 rfl (by kernel_rfl) ⟨.inr ⟨rfl, b9, o9, c9, rfl, HMX.out.1⟩, HBX.out⟩

end Go.Proofs.YtabhkebkbidfhaaDoor
