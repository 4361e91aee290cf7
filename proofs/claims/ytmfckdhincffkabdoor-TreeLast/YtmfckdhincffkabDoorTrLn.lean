/- Layer 11 on plain data: names of one letter. -/
import Derived.Test.YtmfckdhincffkabDoorTrTaP
namespace Go.Proofs.YtmfckdhincffkabDoor
open Go.RowKit
set_option linter.unusedSimpArgs false

theorem lc_0 : countR ⟨#[97]⟩ = 1 := by decide +kernel

theorem ln_0 : NameP ⟨#[97]⟩ := by
  refine ⟨⟨?_, ?_, by decide, by decide +kernel, by decide +kernel⟩, fun k hk => ?_, by rw [lc_0]; decide⟩
  · rw [toList_data]; decide
  · rw [toList_data]; decide
  · rw [lc_0] at hk
    unfold goodX
    match k, hk with
    | 0, _ => decide +kernel

theorem lc_1 : countR ⟨#[98]⟩ = 1 := by decide +kernel

theorem ln_1 : NameP ⟨#[98]⟩ := by
  refine ⟨⟨?_, ?_, by decide, by decide +kernel, by decide +kernel⟩, fun k hk => ?_, by rw [lc_1]; decide⟩
  · rw [toList_data]; decide
  · rw [toList_data]; decide
  · rw [lc_1] at hk
    unfold goodX
    match k, hk with
    | 0, _ => decide +kernel

theorem lc_2 : countR ⟨#[99]⟩ = 1 := by decide +kernel

theorem ln_2 : NameP ⟨#[99]⟩ := by
  refine ⟨⟨?_, ?_, by decide, by decide +kernel, by decide +kernel⟩, fun k hk => ?_, by rw [lc_2]; decide⟩
  · rw [toList_data]; decide
  · rw [toList_data]; decide
  · rw [lc_2] at hk
    unfold goodX
    match k, hk with
    | 0, _ => decide +kernel

theorem lc_3 : countR ⟨#[100]⟩ = 1 := by decide +kernel

theorem ln_3 : NameP ⟨#[100]⟩ := by
  refine ⟨⟨?_, ?_, by decide, by decide +kernel, by decide +kernel⟩, fun k hk => ?_, by rw [lc_3]; decide⟩
  · rw [toList_data]; decide
  · rw [toList_data]; decide
  · rw [lc_3] at hk
    unfold goodX
    match k, hk with
    | 0, _ => decide +kernel

theorem lc_4 : countR ⟨#[101]⟩ = 1 := by decide +kernel

theorem ln_4 : NameP ⟨#[101]⟩ := by
  refine ⟨⟨?_, ?_, by decide, by decide +kernel, by decide +kernel⟩, fun k hk => ?_, by rw [lc_4]; decide⟩
  · rw [toList_data]; decide
  · rw [toList_data]; decide
  · rw [lc_4] at hk
    unfold goodX
    match k, hk with
    | 0, _ => decide +kernel

theorem lc_5 : countR ⟨#[102]⟩ = 1 := by decide +kernel

theorem ln_5 : NameP ⟨#[102]⟩ := by
  refine ⟨⟨?_, ?_, by decide, by decide +kernel, by decide +kernel⟩, fun k hk => ?_, by rw [lc_5]; decide⟩
  · rw [toList_data]; decide
  · rw [toList_data]; decide
  · rw [lc_5] at hk
    unfold goodX
    match k, hk with
    | 0, _ => decide +kernel

theorem lc_6 : countR ⟨#[103]⟩ = 1 := by decide +kernel

theorem ln_6 : NameP ⟨#[103]⟩ := by
  refine ⟨⟨?_, ?_, by decide, by decide +kernel, by decide +kernel⟩, fun k hk => ?_, by rw [lc_6]; decide⟩
  · rw [toList_data]; decide
  · rw [toList_data]; decide
  · rw [lc_6] at hk
    unfold goodX
    match k, hk with
    | 0, _ => decide +kernel

theorem lc_7 : countR ⟨#[104]⟩ = 1 := by decide +kernel

theorem ln_7 : NameP ⟨#[104]⟩ := by
  refine ⟨⟨?_, ?_, by decide, by decide +kernel, by decide +kernel⟩, fun k hk => ?_, by rw [lc_7]; decide⟩
  · rw [toList_data]; decide
  · rw [toList_data]; decide
  · rw [lc_7] at hk
    unfold goodX
    match k, hk with
    | 0, _ => decide +kernel

theorem lc_8 : countR ⟨#[105]⟩ = 1 := by decide +kernel

theorem ln_8 : NameP ⟨#[105]⟩ := by
  refine ⟨⟨?_, ?_, by decide, by decide +kernel, by decide +kernel⟩, fun k hk => ?_, by rw [lc_8]; decide⟩
  · rw [toList_data]; decide
  · rw [toList_data]; decide
  · rw [lc_8] at hk
    unfold goodX
    match k, hk with
    | 0, _ => decide +kernel

theorem lc_9 : countR ⟨#[106]⟩ = 1 := by decide +kernel

theorem ln_9 : NameP ⟨#[106]⟩ := by
  refine ⟨⟨?_, ?_, by decide, by decide +kernel, by decide +kernel⟩, fun k hk => ?_, by rw [lc_9]; decide⟩
  · rw [toList_data]; decide
  · rw [toList_data]; decide
  · rw [lc_9] at hk
    unfold goodX
    match k, hk with
    | 0, _ => decide +kernel

theorem lc_10 : countR ⟨#[107]⟩ = 1 := by decide +kernel

theorem ln_10 : NameP ⟨#[107]⟩ := by
  refine ⟨⟨?_, ?_, by decide, by decide +kernel, by decide +kernel⟩, fun k hk => ?_, by rw [lc_10]; decide⟩
  · rw [toList_data]; decide
  · rw [toList_data]; decide
  · rw [lc_10] at hk
    unfold goodX
    match k, hk with
    | 0, _ => decide +kernel

theorem lc_11 : countR ⟨#[108]⟩ = 1 := by decide +kernel

theorem ln_11 : NameP ⟨#[108]⟩ := by
  refine ⟨⟨?_, ?_, by decide, by decide +kernel, by decide +kernel⟩, fun k hk => ?_, by rw [lc_11]; decide⟩
  · rw [toList_data]; decide
  · rw [toList_data]; decide
  · rw [lc_11] at hk
    unfold goodX
    match k, hk with
    | 0, _ => decide +kernel

theorem lc_12 : countR ⟨#[109]⟩ = 1 := by decide +kernel

theorem ln_12 : NameP ⟨#[109]⟩ := by
  refine ⟨⟨?_, ?_, by decide, by decide +kernel, by decide +kernel⟩, fun k hk => ?_, by rw [lc_12]; decide⟩
  · rw [toList_data]; decide
  · rw [toList_data]; decide
  · rw [lc_12] at hk
    unfold goodX
    match k, hk with
    | 0, _ => decide +kernel

theorem lc_13 : countR ⟨#[110]⟩ = 1 := by decide +kernel

theorem ln_13 : NameP ⟨#[110]⟩ := by
  refine ⟨⟨?_, ?_, by decide, by decide +kernel, by decide +kernel⟩, fun k hk => ?_, by rw [lc_13]; decide⟩
  · rw [toList_data]; decide
  · rw [toList_data]; decide
  · rw [lc_13] at hk
    unfold goodX
    match k, hk with
    | 0, _ => decide +kernel

theorem lc_14 : countR ⟨#[111]⟩ = 1 := by decide +kernel

theorem ln_14 : NameP ⟨#[111]⟩ := by
  refine ⟨⟨?_, ?_, by decide, by decide +kernel, by decide +kernel⟩, fun k hk => ?_, by rw [lc_14]; decide⟩
  · rw [toList_data]; decide
  · rw [toList_data]; decide
  · rw [lc_14] at hk
    unfold goodX
    match k, hk with
    | 0, _ => decide +kernel

theorem lc_15 : countR ⟨#[112]⟩ = 1 := by decide +kernel

theorem ln_15 : NameP ⟨#[112]⟩ := by
  refine ⟨⟨?_, ?_, by decide, by decide +kernel, by decide +kernel⟩, fun k hk => ?_, by rw [lc_15]; decide⟩
  · rw [toList_data]; decide
  · rw [toList_data]; decide
  · rw [lc_15] at hk
    unfold goodX
    match k, hk with
    | 0, _ => decide +kernel

theorem lc_16 : countR ⟨#[113]⟩ = 1 := by decide +kernel

theorem ln_16 : NameP ⟨#[113]⟩ := by
  refine ⟨⟨?_, ?_, by decide, by decide +kernel, by decide +kernel⟩, fun k hk => ?_, by rw [lc_16]; decide⟩
  · rw [toList_data]; decide
  · rw [toList_data]; decide
  · rw [lc_16] at hk
    unfold goodX
    match k, hk with
    | 0, _ => decide +kernel

theorem lc_17 : countR ⟨#[114]⟩ = 1 := by decide +kernel

theorem ln_17 : NameP ⟨#[114]⟩ := by
  refine ⟨⟨?_, ?_, by decide, by decide +kernel, by decide +kernel⟩, fun k hk => ?_, by rw [lc_17]; decide⟩
  · rw [toList_data]; decide
  · rw [toList_data]; decide
  · rw [lc_17] at hk
    unfold goodX
    match k, hk with
    | 0, _ => decide +kernel

theorem lc_18 : countR ⟨#[115]⟩ = 1 := by decide +kernel

theorem ln_18 : NameP ⟨#[115]⟩ := by
  refine ⟨⟨?_, ?_, by decide, by decide +kernel, by decide +kernel⟩, fun k hk => ?_, by rw [lc_18]; decide⟩
  · rw [toList_data]; decide
  · rw [toList_data]; decide
  · rw [lc_18] at hk
    unfold goodX
    match k, hk with
    | 0, _ => decide +kernel

theorem lc_19 : countR ⟨#[116]⟩ = 1 := by decide +kernel

theorem ln_19 : NameP ⟨#[116]⟩ := by
  refine ⟨⟨?_, ?_, by decide, by decide +kernel, by decide +kernel⟩, fun k hk => ?_, by rw [lc_19]; decide⟩
  · rw [toList_data]; decide
  · rw [toList_data]; decide
  · rw [lc_19] at hk
    unfold goodX
    match k, hk with
    | 0, _ => decide +kernel

theorem lc_20 : countR ⟨#[117]⟩ = 1 := by decide +kernel

theorem ln_20 : NameP ⟨#[117]⟩ := by
  refine ⟨⟨?_, ?_, by decide, by decide +kernel, by decide +kernel⟩, fun k hk => ?_, by rw [lc_20]; decide⟩
  · rw [toList_data]; decide
  · rw [toList_data]; decide
  · rw [lc_20] at hk
    unfold goodX
    match k, hk with
    | 0, _ => decide +kernel

theorem lc_21 : countR ⟨#[118]⟩ = 1 := by decide +kernel

theorem ln_21 : NameP ⟨#[118]⟩ := by
  refine ⟨⟨?_, ?_, by decide, by decide +kernel, by decide +kernel⟩, fun k hk => ?_, by rw [lc_21]; decide⟩
  · rw [toList_data]; decide
  · rw [toList_data]; decide
  · rw [lc_21] at hk
    unfold goodX
    match k, hk with
    | 0, _ => decide +kernel

theorem lc_22 : countR ⟨#[119]⟩ = 1 := by decide +kernel

theorem ln_22 : NameP ⟨#[119]⟩ := by
  refine ⟨⟨?_, ?_, by decide, by decide +kernel, by decide +kernel⟩, fun k hk => ?_, by rw [lc_22]; decide⟩
  · rw [toList_data]; decide
  · rw [toList_data]; decide
  · rw [lc_22] at hk
    unfold goodX
    match k, hk with
    | 0, _ => decide +kernel

theorem lc_23 : countR ⟨#[120]⟩ = 1 := by decide +kernel

theorem ln_23 : NameP ⟨#[120]⟩ := by
  refine ⟨⟨?_, ?_, by decide, by decide +kernel, by decide +kernel⟩, fun k hk => ?_, by rw [lc_23]; decide⟩
  · rw [toList_data]; decide
  · rw [toList_data]; decide
  · rw [lc_23] at hk
    unfold goodX
    match k, hk with
    | 0, _ => decide +kernel

theorem let_name (k : Nat) (h : k < 24) : NameP (letB k) := by
  have hk : k = 0 ∨ k = 1 ∨ k = 2 ∨ k = 3 ∨ k = 4 ∨ k = 5 ∨ k = 6 ∨ k = 7 ∨ k = 8 ∨ k = 9 ∨ k = 10 ∨ k = 11 ∨ k = 12 ∨ k = 13 ∨ k = 14 ∨ k = 15 ∨ k = 16 ∨ k = 17 ∨ k = 18 ∨ k = 19 ∨ k = 20 ∨ k = 21 ∨ k = 22 ∨ k = 23 := by omega
  rcases hk with rfl | rfl | rfl | rfl | rfl | rfl | rfl | rfl | rfl | rfl | rfl | rfl | rfl | rfl | rfl | rfl | rfl | rfl | rfl | rfl | rfl | rfl | rfl | rfl
  · exact ln_0
  · exact ln_1
  · exact ln_2
  · exact ln_3
  · exact ln_4
  · exact ln_5
  · exact ln_6
  · exact ln_7
  · exact ln_8
  · exact ln_9
  · exact ln_10
  · exact ln_11
  · exact ln_12
  · exact ln_13
  · exact ln_14
  · exact ln_15
  · exact ln_16
  · exact ln_17
  · exact ln_18
  · exact ln_19
  · exact ln_20
  · exact ln_21
  · exact ln_22
  · exact ln_23

theorem let_size (k : Nat) : (letB k).size = 1 := rfl

def la3 (p q kx : Nat) : OpT := (3, (2 + (p : Int), 1 + (q : Int)), (1, 1), (0, 0), letB kx, ⟨#[]⟩)

def la4 (p q kx : Nat) : OpT := (4, (2 + (p : Int), 1 + (q : Int)), (1, 1), (0, 0), ⟨#[]⟩, letB kx)

theorem la_stamp (p q : Nat) (hp : p ≤ 15) (hq : q ≤ 3) : MayS (2 + (p : Int), 1 + (q : Int)) := ⟨by show (1 : Int) ≤ 2 + p; omega, by show 2 + (p : Int) ≤ _; omega, by show (1 : Int) ≤ 1 + q; omega, by show 1 + (q : Int) ≤ 6; omega⟩

theorem la3_may (p q kx : Nat) (hp : p ≤ 15) (hq : q ≤ 3) (hk : kx < 24) : MayO (la3 p q kx) := ⟨la_stamp p q hp hq, (by decide : MayS (1, 1)), .inr (.inr (.inl ⟨rfl, rfl, let_name kx hk, rfl⟩))⟩

theorem la4_may (p q kx : Nat) (hp : p ≤ 15) (hq : q ≤ 3) : MayO (la4 p q kx) := ⟨la_stamp p q hp hq, (by decide : MayS (1, 1)), .inr (.inr (.inr (.inl ⟨rfl, rfl, rfl, (by decide : (1 : Nat) ≤ 64)⟩)))⟩

theorem la_behind (p q : Nat) : LessS (1, 1) (2 + (p : Int), 1 + (q : Int)) := .inl (by show (1 : Int) < 2 + p; omega)

/-- What TreeLast holds all along. -/
structure LaS (w wr : World) (g f m : Nat) (r : Option Nat) (T : TreeT) (hN hV : Nat) (nm vl : (Int × Int) × ByteArray) : Prop where
  tr : Tr w wr g f m r T
  n : Blk wr 34 hN #[.int .i64 nm.1.1, .int .i64 nm.1.2, .int .i64 0, .int .i64 0, .string nm.2, .string ⟨#[]⟩]
  v : Blk wr 34 hV #[.int .i64 vl.1.1, .int .i64 vl.1.2, .int .i64 0, .int .i64 0, .string ⟨#[]⟩, .string vl.2]
  far : ∀ k, tfoot g f m r k → k ≠ hN ∧ k ≠ hV
  low : w.heap.size ≤ hN
  nv : hN < hV

theorem LaS.on {w wr w' : World} {g f m : Nat} {r : Option Nat} {T : TreeT} {hN hV : Nat} {nm vl : (Int × Int) × ByteArray} (h : LaS w wr g f m r T hN hV nm vl) (hb : Below wr.heap.size wr w') : LaS w w' g f m r T hN hV nm vl :=
  ⟨h.tr.on hb, h.n.on hb, h.v.on hb, h.far, h.low, h.nv⟩

theorem LaS.next {w wr w' : World} {g f m : Nat} {r r' : Option Nat} {T T' : TreeT} {hN hV : Nat} {nm vl : (Int × Int) × ByteArray} (h : LaS w wr g f m r T hN hV nm vl) (hT : TreeIn w' g f m r' T') (hK : KeptF (tfoot g f m r) wr w') (hX : Nx wr r r') : LaS w w' g f m r' T' hN hV nm vl :=
  ⟨h.tr.next hT hK hX, h.n.keptF hK (fun t => (h.far _ t).1 rfl), h.v.keptF hK (fun t => (h.far _ t).2 rfl), fun k hk => by
    rcases tfoot_next hX hk with t | t
    · exact h.far k t
    · have h1 := h.n.lt
      have h2 := h.v.lt
      omega, h.low, h.nv⟩

theorem LaS.other {w wr w' : World} {g f m : Nat} {r : Option Nat} {T : TreeT} {hN hV : Nat} {nm vl : (Int × Int) × ByteArray} (h : LaS w wr g f m r T hN hV nm vl) (ho : Nat) (hf : ∀ k, tfoot g f m r k → k ≠ ho) (h1 : ho ≠ hN) (h2 : ho ≠ hV) (hb : Below w.heap.size w w') (hs : ∀ k, k ≠ ho → w'.heap[k]? = wr.heap[k]?) : LaS w w' g f m r T hN hV nm vl := by
  refine ⟨⟨h.tr.tree.same (fun k hk => hs k (hf k hk)), hb, h.tr.new⟩, ?_, ?_, h.far, h.low, h.nv⟩
  · unfold Blk; rw [hs _ (fun e => h1 e.symm)]; exact h.n
  · unfold Blk; rw [hs _ (fun e => h2 e.symm)]; exact h.v

theorem LaS.setN {w wr : World} {g f m : Nat} {r : Option Nat} {T : TreeT} {hN hV : Nat} {nm vl : (Int × Int) × ByteArray} (h : LaS w wr g f m r T hN hV nm vl) (nm' : (Int × Int) × ByteArray) : LaS w (wr.setRow hN #[.int .i64 nm'.1.1, .int .i64 nm'.1.2, .int .i64 0, .int .i64 0, .string nm'.2, .string ⟨#[]⟩]) g f m r T hN hV nm' vl :=
  ⟨⟨h.tr.tree.same (fun k hk => setRow_other wr hN k _ (h.far k hk).1), below_setRow h.tr.bel h.low _, h.tr.new⟩, h.n.setRow _, h.v.setRowOther _ (by have := h.nv; omega) _, h.far, h.low, h.nv⟩

theorem LaS.setV {w wr : World} {g f m : Nat} {r : Option Nat} {T : TreeT} {hN hV : Nat} {nm vl : (Int × Int) × ByteArray} (h : LaS w wr g f m r T hN hV nm vl) (vl' : (Int × Int) × ByteArray) : LaS w (wr.setRow hV #[.int .i64 vl'.1.1, .int .i64 vl'.1.2, .int .i64 0, .int .i64 0, .string ⟨#[]⟩, .string vl'.2]) g f m r T hN hV nm vl' :=
  ⟨⟨h.tr.tree.same (fun k hk => setRow_other wr hV k _ (h.far k hk).2), below_setRow h.tr.bel (by have h1 := h.low; have h2 := h.nv; omega) _, h.tr.new⟩, h.n.setRowOther _ (by have := h.nv; omega) _, h.v.setRow _, h.far, h.low, h.nv⟩

theorem row_let (W : World) (k g : Nat) (hg : W.heap.size = g) : Row8 (W.alloc (.cells #[.int .u8 (97 + (k : Int))] 5)) g 1 (fun _ => 97 + k) := by
  subst hg
  refine ⟨_, _, _, heap_alloc_last W _, .inr rfl, fun j hj => ?_⟩
  obtain rfl : j = 0 := by omega
  show some (Value.int .u8 (97 + (k : Int))) = some (.int .u8 ((97 + k : Nat) : Int))
  rw [Int.natCast_add]; rfl

theorem let_conv {W : World} {g k : Nat} (h : Row8 W g 1 (fun _ => 97 + k)) (hk : k < 24) : (convert 50 9 (.slice (some ⟨g, 0, none⟩) 1 1)).run Tryd.prog W = .ok (.string (letB k)) W := by
  have := Row8.conv (P := Tryd.prog) h (fun _ => by show 97 + k < 256; omega) 1 1 (Nat.le_refl _) 50 9 Tryd.underlying50 Tryd.underlying5 Tryd.underlying9
  rw [this]
  rfl

end Go.Proofs.YtmfckdhincffkabDoor
