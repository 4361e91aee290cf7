/- Layer 19, the code: Take of frames. -/
import Derived.Test.YtkmdajenbidaaaaWiC
namespace Go.Proofs.Ytkmdajenbidaaaa
open Go.RowKit
set_option maxRecDepth 100000
set_option linter.unusedSimpArgs false
set_option linter.unusedVariables false

theorem readLW_all {α : Type} (rd : ByteArray × Int → (ByteArray × Int) × α) (P : α → Prop) (h : ∀ i, P (rd i).2) : ∀ (n : Nat) (i : ByteArray × Int), ∀ x ∈ (readLW rd n i).2, P x := by
  intro n
  induction n with
  | zero => intro i x hx; cases hx
  | succ n ih =>
    intro i x hx
    have hx' : x ∈ (rd i).2 :: (readLW rd n (rd i).1).2 := hx
    rcases List.mem_cons.1 hx' with rfl | hx'
    · exact h i
    · exact ih _ x hx'

theorem its_size (n : Nat) (i : ByteArray × Int) (k : Nat) : (itL (readLW readItC n i).2 k).2.2.size ≤ 9223372036854775807 := by
  by_cases hk : k < (readLW readItC n i).2.length
  · rw [itL_get _ k hk]
    refine readLW_all readItC (fun x => x.2.2.size ≤ 9223372036854775807) (fun j => ?_) n i _ (List.getElem_mem hk)
    show (inTextC _ _).2.size ≤ _
    exact Nat.le_trans (inTextC_size _ _) (by decide)
  · unfold itL
    rw [List.getD_eq_getElem?_getD, List.getElem?_eq_none (by omega)]
    exact Nat.zero_le _

theorem OwnI19.its {w : World} {B : Nat} {a : Option Addr} {n c : Nat} {l : List (Int × Int × ByteArray)} (h : OwnI19 w B (.slice a n c) l) : ItsAt w a l.length l := by
  obtain ⟨a', c', e', _, _, h'⟩ := h.rows
  injection e' with e1 e2 e3
  rw [e1]; exact h'

/-- What Take answers: the frame, its items at their place. -/
def TakenF (w : World) (X : FrmT × Int) (e : Ending) (w' : World) : Prop := ∃ a c, e = .returned (.tuple #[.agg (frmA X.1 a c), .int .i64 X.2]) ∧ X.1.2.2.2.2.2.2.1.length ≤ c ∧ c ≤ 9223372036854775807 ∧ ItsAt w' a X.1.2.2.2.2.2.2.1.length X.1.2.2.2.2.2.2.1 ∧ Below w.heap.size w w'

set_option maxHeartbeats 8000000 in
theorem takeF_any (s : ByteArray) (w : World) (hs : s.size ≤ 1048576) :
    Calls Try.prog 42 #[.string s] w (TakenF w (takeFC s)) := by
  have hmf : ∀ (fn : Fn) (first cap : Array Value) (w : World), (Instr.makeFunc fn first cap).run Try.prog w = .ok (.func fn first cap) w := fun _ _ _ _ => rfl
  obtain ⟨i0, hi0⟩ : ∃ i0 : ByteArray × Int, (s, (0 : Int)) = i0 := ⟨_, rfl⟩
  obtain ⟨⟨i1, X0⟩, e0⟩ : ∃ p, numberP i0 1 = p := ⟨_, rfl⟩
  obtain ⟨K, hx0⟩ : ∃ x : Int, (X0 : Int) = x := ⟨_, rfl⟩
  obtain ⟨⟨i2, X1⟩, e1⟩ : ∃ p, inNumP i1 = p := ⟨_, rfl⟩
  obtain ⟨G, hx1⟩ : ∃ x : Int, (X1 : Int) = x := ⟨_, rfl⟩
  obtain ⟨⟨i3, X2⟩, e2⟩ : ∃ p, inNumP i2 = p := ⟨_, rfl⟩
  obtain ⟨S, hx2⟩ : ∃ x : Int, (X2 : Int) = x := ⟨_, rfl⟩
  obtain ⟨⟨i4, X3⟩, e3⟩ : ∃ p, inNumP i3 = p := ⟨_, rfl⟩
  obtain ⟨E0, hx3⟩ : ∃ x : Int, (X3 : Int) = x := ⟨_, rfl⟩
  obtain ⟨⟨i5, X4⟩, e4⟩ : ∃ p, inNumP i4 = p := ⟨_, rfl⟩
  obtain ⟨M, hx4⟩ : ∃ x : Int, (X4 : Int) = x := ⟨_, rfl⟩
  obtain ⟨⟨i6, X5⟩, e5⟩ : ∃ p, inNumP i5 = p := ⟨_, rfl⟩
  obtain ⟨er, hx5⟩ : ∃ x : Int, (X5 : Int) = x := ⟨_, rfl⟩
  obtain ⟨⟨i7, bl⟩, e6⟩ : ∃ p, inTextC i6 20000 = p := ⟨_, rfl⟩
  have CL' : ∀ W hc g, InAt W g i7 → Blk W 96 hc #[.pointer (some ⟨g, 0, none⟩)] → hc ≠ g → _ := fun W hc g h1 h2 h3 => rlistI_any g hc i7 W h1 h2 h3
  have hzl := its_size (numberP i7 1).2 (numberP i7 1).1
  have hll := readLW_len readItC (numberP i7 1).2 (numberP i7 1).1
  have hlt := number1_lt i7
  obtain ⟨⟨i8, it⟩, e7⟩ : ∃ p, readLW readItC (numberP i7 1).2 (numberP i7 1).1 = p := ⟨_, rfl⟩
  have hbz : bl.size ≤ 9223372036854775807 := by have := inTextC_size i6 20000; rw [e6] at this; exact Nat.le_trans this (by decide)
  have hr : readFC (s, 0) = (i8, (K, G, S, E0, M, bl, it, er)) := by
    unfold readFC readHd
    simp only [hi0, e0, e1, e2, e3, e4, e5, e6, e7, hx0, hx1, hx2, hx3, hx4, hx5]
  rw [e7] at hzl hll
  simp only [e7] at CL'
  obtain ⟨⟨B, E⟩, hp⟩ : ∃ p, putFC (K, G, S, E0, M, bl, it, er) = p := ⟨_, rfl⟩
  have HX : Hid (takeFC s = if E ≠ 0 ∨ B ≠ s then (frm0, 190) else ((K, G, S, E0, M, bl, it, er), 0)) := by
    show _ = _
    unfold takeFC
    rw [hr]
    simp only [hp]
  have CA : Hid (∀ (a : Option Addr) (c : Nat) (W : World), ItsAt W a it.length it → _) := fun a c W hI => asPutF_any K G S E0 M er bl a it.length c B s E W (fun W' hW' => by
    have h := putF_any (K, G, S, E0, M, bl, it, er) a c W' (by show it.length ≤ _; rw [hll]; omega) (hI.below hW') hzl hbz
    rw [hp] at h
    exact h)
  have CL : Hid (∀ W hc g, InAt W g i7 → Blk W 96 hc #[.pointer (some ⟨g, 0, none⟩)] → hc ≠ g → _) := CL'
  obtain ⟨X, hX⟩ : ∃ X, takeFC s = X := ⟨_, rfl⟩
  rw [hX] at HX ⊢
  have C0' : ∀ W g, InAt W g i0 → _ := fun W g hW => ibyte_any g i0 W hW
  rw [e0] at C0'
  simp only [hx0] at C0'
  have C0 : Hid (∀ W g, InAt W g i0 → _) := C0'
  have C1' : ∀ W g, InAt W g i1 → _ := fun W g hW => inum_any g i1 W hW
  rw [e1] at C1'
  simp only [hx1] at C1'
  have C1 : Hid (∀ W g, InAt W g i1 → _) := C1'
  have C2' : ∀ W g, InAt W g i2 → _ := fun W g hW => inum_any g i2 W hW
  rw [e2] at C2'
  simp only [hx2] at C2'
  have C2 : Hid (∀ W g, InAt W g i2 → _) := C2'
  have C3' : ∀ W g, InAt W g i3 → _ := fun W g hW => inum_any g i3 W hW
  rw [e3] at C3'
  simp only [hx3] at C3'
  have C3 : Hid (∀ W g, InAt W g i3 → _) := C3'
  have C4' : ∀ W g, InAt W g i4 → _ := fun W g hW => inum_any g i4 W hW
  rw [e4] at C4'
  simp only [hx4] at C4'
  have C4 : Hid (∀ W g, InAt W g i4 → _) := C4'
  have C5' : ∀ W g, InAt W g i5 → _ := fun W g hW => inum_any g i5 W hW
  rw [e5] at C5'
  simp only [hx5] at C5'
  have C5 : Hid (∀ W g, InAt W g i5 → _) := C5'
  have C6' : ∀ W g, InAt W g i6 → _ := fun W g hW => itext_any g i6 20000 W hW
  rw [e6] at C6'
  have C6 : Hid (∀ W g, InAt W g i6 → _) := C6'
  have HN0 : Hid (∀ W, Calls Try.prog 56 #[.string s] W fun e w' => e = .returned (.pointer (some ⟨W.heap.size, 0, none⟩)) ∧ InAt w' W.heap.size i0 ∧ Below W.heap.size W w') := fun W => by rw [← hi0]; exact newIn_any s W hs
  clear hr hi0 e0 e1 e2 e3 e4 e5 e6 e7 hx0 hx1 hx2 hx3 hx4 hx5 C0' C1' C2' C3' C4' C5' C6' CL' hp hX hzl hll hlt hbz hs
  have HB0 : Hid (Below w.heap.size w (w.alloc (.cells #[.int .i64 0, .int .i64 0, .int .i64 0, .int .i64 0, .int .i64 0, .string ⟨#[]⟩, .slice none 0 0, .int .i64 0] 39))) := below_new _ _
  have HZ0 : Hid (Blk (w.alloc (.cells #[.int .i64 0, .int .i64 0, .int .i64 0, .int .i64 0, .int .i64 0, .string ⟨#[]⟩, .slice none 0 0, .int .i64 0] 39)) 39 w.heap.size #[.int .i64 0, .int .i64 0, .int .i64 0, .int .i64 0, .int .i64 0, .string ⟨#[]⟩, .slice none 0 0, .int .i64 0]) := Blk.new _ _ _
  go_enter Try.func42, Try.ntmps42
  go_wp2_with fail
  obtain ⟨ga, hga⟩ : ∃ ga, w.heap.size = ga := ⟨_, rfl⟩
  obtain ⟨W0, hW0⟩ : ∃ W0, w.alloc (.cells #[.int .i64 0, .int .i64 0, .int .i64 0, .int .i64 0, .int .i64 0, .string ⟨#[]⟩, .slice none 0 0, .int .i64 0] 39) = W0 := ⟨_, rfl⟩
  rw [hW0] at HB0 HZ0
  rw [hga] at HZ0
  have HGa : Hid (w.heap.size ≤ ga) := by show _ ≤ _; omega
  have HGb : Hid (ga < W0.heap.size) := HZ0.out.lt
  try rw [hW0]
  try rw [hga]
  clear hW0 hga
  refine (HN0.out W0).mono ?_
  rintro e w1 ⟨rfl, hI1, hb1⟩
  obtain ⟨g, hg⟩ : ∃ g, W0.heap.size = g := ⟨_, rfl⟩
  have HI1 : Hid (InAt w1 g i0) := by show InAt _ _ _; rw [← hg]; exact hI1
  have HB1 : Hid (Below w.heap.size w w1) := below_step HB0.out (Nat.le_refl _) hb1
  have HZ1 : Hid (Blk w1 39 ga #[.int .i64 0, .int .i64 0, .int .i64 0, .int .i64 0, .int .i64 0, .string ⟨#[]⟩, .slice none 0 0, .int .i64 0]) := HZ0.out.on hb1
  have HGc : Hid (ga < g ∧ g < w1.heap.size) := ⟨by rw [← hg]; exact HGb.out, by rw [← hg]; exact hI1.1.lt⟩
  try rw [hg]
  clear hI1 hb1 HB0 HZ0 HN0 hg HGb
  have HR0 : Hid (RkG 39 #[.int .i64 0, .int .i64 0, .int .i64 0, .int .i64 0, .int .i64 0, .string ⟨#[]⟩, .slice none 0 0, .int .i64 0] w g w1.heap.size (w1.heap.size + 1) ga #[.int .i64 0, .int .i64 0, .int .i64 0, .int .i64 0, .int .i64 0, .string ⟨#[]⟩, .slice none 0 0, .int .i64 0] i0 ((w1.alloc (.cells #[.pointer (some ⟨g, 0, none⟩)] 96)).alloc (.cells #[.int .i64 0, .int .i64 0, .int .i64 0, .int .i64 0, .int .i64 0, .string ⟨#[]⟩, .slice none 0 0, .int .i64 0] 39))) := by
    have h1 := HGa.out
    have h2 := HGc.out
    have h3 := HB1.out.size
    exact ⟨(HI1.out.on (below_new _ _)).on (below_new _ _), (HB1.out.alloc h3 _).alloc (by rw [World.size_alloc]; omega) _, Blk.new' _ _ _ _ (by rw [World.size_alloc]), (HZ1.out.on (below_new _ _)).on (below_new _ _), (Blk.new _ _ _).on (below_new _ _), by omega, by omega, by omega, by omega, by omega, by omega, by omega, by omega⟩
  have y : ((w1.alloc (.cells #[.pointer (some ⟨g, 0, none⟩)] 96)).alloc (.cells #[.int .i64 0, .int .i64 0, .int .i64 0, .int .i64 0, .int .i64 0, .string ⟨#[]⟩, .slice none 0 0, .int .i64 0] 39)).cell? ⟨w1.heap.size, 0, none⟩ = some (.pointer (some ⟨g, 0, none⟩)) := HR0.out.cap.cell 0
  clear HI1 HB1 HZ1 HGa HGc
  go_wp2_with fail
  clear y
  obtain ⟨V0, hV0⟩ : ∃ V0, (w1.alloc (.cells #[.pointer (some ⟨g, 0, none⟩)] 96)).alloc (.cells #[.int .i64 0, .int .i64 0, .int .i64 0, .int .i64 0, .int .i64 0, .string ⟨#[]⟩, .slice none 0 0, .int .i64 0] 39) = V0 := ⟨_, rfl⟩
  obtain ⟨hc, hhc⟩ : ∃ hc, w1.heap.size = hc := ⟨_, rfl⟩
  obtain ⟨gb, hgb⟩ : ∃ gb, w1.heap.size + 1 = gb := ⟨_, rfl⟩
  have HS : Hid (RkG 39 #[.int .i64 0, .int .i64 0, .int .i64 0, .int .i64 0, .int .i64 0, .string ⟨#[]⟩, .slice none 0 0, .int .i64 0] w g hc gb ga #[.int .i64 0, .int .i64 0, .int .i64 0, .int .i64 0, .int .i64 0, .string ⟨#[]⟩, .slice none 0 0, .int .i64 0] i0 V0) := by show RkG _ _ _ _ _ _ _ _ _ _; rw [← hV0, ← hgb, ← hhc]; exact HR0.out
  try rw [hV0]
  try rw [hgb]
  try rw [hhc]
  clear hV0 hgb hhc HR0
  refine (C0.out V0 g HS.out.inn).mono ?_
  rintro e U0 ⟨rfl, hI⟩
  have HU : Hid (RkG 39 #[.int .i64 0, .int .i64 0, .int .i64 0, .int .i64 0, .int .i64 0, .string ⟨#[]⟩, .slice none 0 0, .int .i64 0] w g hc gb ga #[.int .i64 0, .int .i64 0, .int .i64 0, .int .i64 0, .int .i64 0, .string ⟨#[]⟩, .slice none 0 0, .int .i64 0] i1 U0) := HS.out.step hI
  clear hI HS C0
  have y0 : U0.cell? ⟨gb, 0, none⟩ = some _ := HU.out.b.cell 0
  have z0 : U0.frozen? ⟨gb, 0, none⟩ = false := HU.out.b.free 0
  have HS : Hid (RkG 39 #[.int .i64 0, .int .i64 0, .int .i64 0, .int .i64 0, .int .i64 0, .string ⟨#[]⟩, .slice none 0 0, .int .i64 0] w g hc gb ga #[.int .i64 K, .int .i64 0, .int .i64 0, .int .i64 0, .int .i64 0, .string ⟨#[]⟩, .slice none 0 0, .int .i64 0] i1 (U0.setCell ⟨gb, 0, none⟩ (.int .i64 K))) := HU.out.set 0 (.int .i64 K)
  obtain ⟨V1, hV1⟩ : ∃ W, U0.setCell ⟨gb, 0, none⟩ (.int .i64 K) = W := ⟨_, rfl⟩
  rw [hV1] at HS
  have a0 : V1.cell? ⟨hc, 0, none⟩ = some (.pointer (some ⟨g, 0, none⟩)) := HS.out.cap.cell 0
  go_wp2_with fail
  try rw [hV1]
  clear hV1 HU a0 y0 z0
  refine (C1.out V1 g HS.out.inn).mono ?_
  rintro e U1 ⟨rfl, hI⟩
  have HU : Hid (RkG 39 #[.int .i64 0, .int .i64 0, .int .i64 0, .int .i64 0, .int .i64 0, .string ⟨#[]⟩, .slice none 0 0, .int .i64 0] w g hc gb ga #[.int .i64 K, .int .i64 0, .int .i64 0, .int .i64 0, .int .i64 0, .string ⟨#[]⟩, .slice none 0 0, .int .i64 0] i2 U1) := HS.out.step hI
  clear hI HS C1
  have y1 : U1.cell? ⟨gb, 1, none⟩ = some _ := HU.out.b.cell 1
  have z1 : U1.frozen? ⟨gb, 1, none⟩ = false := HU.out.b.free 1
  have HS : Hid (RkG 39 #[.int .i64 0, .int .i64 0, .int .i64 0, .int .i64 0, .int .i64 0, .string ⟨#[]⟩, .slice none 0 0, .int .i64 0] w g hc gb ga #[.int .i64 K, .int .i64 G, .int .i64 0, .int .i64 0, .int .i64 0, .string ⟨#[]⟩, .slice none 0 0, .int .i64 0] i2 (U1.setCell ⟨gb, 1, none⟩ (.int .i64 G))) := HU.out.set 1 (.int .i64 G)
  obtain ⟨V2, hV2⟩ : ∃ W, U1.setCell ⟨gb, 1, none⟩ (.int .i64 G) = W := ⟨_, rfl⟩
  rw [hV2] at HS
  have a1 : V2.cell? ⟨hc, 0, none⟩ = some (.pointer (some ⟨g, 0, none⟩)) := HS.out.cap.cell 0
  go_wp2_with fail
  try rw [hV2]
  clear hV2 HU a1 y1 z1
  refine (C2.out V2 g HS.out.inn).mono ?_
  rintro e U2 ⟨rfl, hI⟩
  have HU : Hid (RkG 39 #[.int .i64 0, .int .i64 0, .int .i64 0, .int .i64 0, .int .i64 0, .string ⟨#[]⟩, .slice none 0 0, .int .i64 0] w g hc gb ga #[.int .i64 K, .int .i64 G, .int .i64 0, .int .i64 0, .int .i64 0, .string ⟨#[]⟩, .slice none 0 0, .int .i64 0] i3 U2) := HS.out.step hI
  clear hI HS C2
  have y2 : U2.cell? ⟨gb, 2, none⟩ = some _ := HU.out.b.cell 2
  have z2 : U2.frozen? ⟨gb, 2, none⟩ = false := HU.out.b.free 2
  have HS : Hid (RkG 39 #[.int .i64 0, .int .i64 0, .int .i64 0, .int .i64 0, .int .i64 0, .string ⟨#[]⟩, .slice none 0 0, .int .i64 0] w g hc gb ga #[.int .i64 K, .int .i64 G, .int .i64 S, .int .i64 0, .int .i64 0, .string ⟨#[]⟩, .slice none 0 0, .int .i64 0] i3 (U2.setCell ⟨gb, 2, none⟩ (.int .i64 S))) := HU.out.set 2 (.int .i64 S)
  obtain ⟨V3, hV3⟩ : ∃ W, U2.setCell ⟨gb, 2, none⟩ (.int .i64 S) = W := ⟨_, rfl⟩
  rw [hV3] at HS
  have a2 : V3.cell? ⟨hc, 0, none⟩ = some (.pointer (some ⟨g, 0, none⟩)) := HS.out.cap.cell 0
  go_wp2_with fail
  try rw [hV3]
  clear hV3 HU a2 y2 z2
  refine (C3.out V3 g HS.out.inn).mono ?_
  rintro e U3 ⟨rfl, hI⟩
  have HU : Hid (RkG 39 #[.int .i64 0, .int .i64 0, .int .i64 0, .int .i64 0, .int .i64 0, .string ⟨#[]⟩, .slice none 0 0, .int .i64 0] w g hc gb ga #[.int .i64 K, .int .i64 G, .int .i64 S, .int .i64 0, .int .i64 0, .string ⟨#[]⟩, .slice none 0 0, .int .i64 0] i4 U3) := HS.out.step hI
  clear hI HS C3
  have y3 : U3.cell? ⟨gb, 3, none⟩ = some _ := HU.out.b.cell 3
  have z3 : U3.frozen? ⟨gb, 3, none⟩ = false := HU.out.b.free 3
  have HS : Hid (RkG 39 #[.int .i64 0, .int .i64 0, .int .i64 0, .int .i64 0, .int .i64 0, .string ⟨#[]⟩, .slice none 0 0, .int .i64 0] w g hc gb ga #[.int .i64 K, .int .i64 G, .int .i64 S, .int .i64 E0, .int .i64 0, .string ⟨#[]⟩, .slice none 0 0, .int .i64 0] i4 (U3.setCell ⟨gb, 3, none⟩ (.int .i64 E0))) := HU.out.set 3 (.int .i64 E0)
  obtain ⟨V4, hV4⟩ : ∃ W, U3.setCell ⟨gb, 3, none⟩ (.int .i64 E0) = W := ⟨_, rfl⟩
  rw [hV4] at HS
  have a3 : V4.cell? ⟨hc, 0, none⟩ = some (.pointer (some ⟨g, 0, none⟩)) := HS.out.cap.cell 0
  go_wp2_with fail
  try rw [hV4]
  clear hV4 HU a3 y3 z3
  refine (C4.out V4 g HS.out.inn).mono ?_
  rintro e U4 ⟨rfl, hI⟩
  have HU : Hid (RkG 39 #[.int .i64 0, .int .i64 0, .int .i64 0, .int .i64 0, .int .i64 0, .string ⟨#[]⟩, .slice none 0 0, .int .i64 0] w g hc gb ga #[.int .i64 K, .int .i64 G, .int .i64 S, .int .i64 E0, .int .i64 0, .string ⟨#[]⟩, .slice none 0 0, .int .i64 0] i5 U4) := HS.out.step hI
  clear hI HS C4
  have y4 : U4.cell? ⟨gb, 4, none⟩ = some _ := HU.out.b.cell 4
  have z4 : U4.frozen? ⟨gb, 4, none⟩ = false := HU.out.b.free 4
  have HS : Hid (RkG 39 #[.int .i64 0, .int .i64 0, .int .i64 0, .int .i64 0, .int .i64 0, .string ⟨#[]⟩, .slice none 0 0, .int .i64 0] w g hc gb ga #[.int .i64 K, .int .i64 G, .int .i64 S, .int .i64 E0, .int .i64 M, .string ⟨#[]⟩, .slice none 0 0, .int .i64 0] i5 (U4.setCell ⟨gb, 4, none⟩ (.int .i64 M))) := HU.out.set 4 (.int .i64 M)
  obtain ⟨V5, hV5⟩ : ∃ W, U4.setCell ⟨gb, 4, none⟩ (.int .i64 M) = W := ⟨_, rfl⟩
  rw [hV5] at HS
  have a4 : V5.cell? ⟨hc, 0, none⟩ = some (.pointer (some ⟨g, 0, none⟩)) := HS.out.cap.cell 0
  go_wp2_with fail
  try rw [hV5]
  clear hV5 HU a4 y4 z4
  refine (C5.out V5 g HS.out.inn).mono ?_
  rintro e U5 ⟨rfl, hI⟩
  have HU : Hid (RkG 39 #[.int .i64 0, .int .i64 0, .int .i64 0, .int .i64 0, .int .i64 0, .string ⟨#[]⟩, .slice none 0 0, .int .i64 0] w g hc gb ga #[.int .i64 K, .int .i64 G, .int .i64 S, .int .i64 E0, .int .i64 M, .string ⟨#[]⟩, .slice none 0 0, .int .i64 0] i6 U5) := HS.out.step hI
  clear hI HS C5
  have y7 : U5.cell? ⟨gb, 7, none⟩ = some _ := HU.out.b.cell 7
  have z7 : U5.frozen? ⟨gb, 7, none⟩ = false := HU.out.b.free 7
  have HS : Hid (RkG 39 #[.int .i64 0, .int .i64 0, .int .i64 0, .int .i64 0, .int .i64 0, .string ⟨#[]⟩, .slice none 0 0, .int .i64 0] w g hc gb ga #[.int .i64 K, .int .i64 G, .int .i64 S, .int .i64 E0, .int .i64 M, .string ⟨#[]⟩, .slice none 0 0, .int .i64 er] i6 (U5.setCell ⟨gb, 7, none⟩ (.int .i64 er))) := HU.out.set 7 (.int .i64 er)
  obtain ⟨V6, hV6⟩ : ∃ W, U5.setCell ⟨gb, 7, none⟩ (.int .i64 er) = W := ⟨_, rfl⟩
  rw [hV6] at HS
  have a5 : V6.cell? ⟨hc, 0, none⟩ = some (.pointer (some ⟨g, 0, none⟩)) := HS.out.cap.cell 0
  go_wp2_with fail
  try rw [hV6]
  clear hV6 HU a5 y7 z7
  refine (C6.out V6 g HS.out.inn).mono ?_
  rintro e U6 ⟨rfl, hI⟩
  have HU : Hid (RkG 39 #[.int .i64 0, .int .i64 0, .int .i64 0, .int .i64 0, .int .i64 0, .string ⟨#[]⟩, .slice none 0 0, .int .i64 0] w g hc gb ga #[.int .i64 K, .int .i64 G, .int .i64 S, .int .i64 E0, .int .i64 M, .string ⟨#[]⟩, .slice none 0 0, .int .i64 er] i7 U6) := HS.out.step hI
  clear hI HS C6
  have y5 : U6.cell? ⟨gb, 5, none⟩ = some _ := HU.out.b.cell 5
  have z5 : U6.frozen? ⟨gb, 5, none⟩ = false := HU.out.b.free 5
  have HS : Hid (RkG 39 #[.int .i64 0, .int .i64 0, .int .i64 0, .int .i64 0, .int .i64 0, .string ⟨#[]⟩, .slice none 0 0, .int .i64 0] w g hc gb ga #[.int .i64 K, .int .i64 G, .int .i64 S, .int .i64 E0, .int .i64 M, .string bl, .slice none 0 0, .int .i64 er] i7 (U6.setCell ⟨gb, 5, none⟩ (.string bl))) := HU.out.set 5 (.string bl)
  obtain ⟨V7, hV7⟩ : ∃ W, U6.setCell ⟨gb, 5, none⟩ (.string bl) = W := ⟨_, rfl⟩
  rw [hV7] at HS
  have a6 : V7.cell? ⟨hc, 0, none⟩ = some (.pointer (some ⟨g, 0, none⟩)) := HS.out.cap.cell 0
  go_wp2_with fail
  try rw [hV7]
  clear hV7 HU a6 y5 z5
  refine (CL.out V7 hc g HS.out.inn HS.out.cap HS.out.ncg).mono ?_
  rintro e U7 ⟨v, rfl, hO, hI⟩
  obtain ⟨a, c, rfl, hlc, hcm, hIt⟩ := hO.rows
  have HU : Hid (RkG 39 #[.int .i64 0, .int .i64 0, .int .i64 0, .int .i64 0, .int .i64 0, .string ⟨#[]⟩, .slice none 0 0, .int .i64 0] w g hc gb ga #[.int .i64 K, .int .i64 G, .int .i64 S, .int .i64 E0, .int .i64 M, .string bl, .slice none 0 0, .int .i64 er] i8 U7) := HS.out.step hI
  have HBg : Hid (gb < V7.heap.size) := HS.out.b.lt
  have y6 : U7.cell? ⟨gb, 6, none⟩ = some _ := HU.out.b.cell 6
  have z6 : U7.frozen? ⟨gb, 6, none⟩ = false := HU.out.b.free 6
  have HS' : Hid (RkG 39 #[.int .i64 0, .int .i64 0, .int .i64 0, .int .i64 0, .int .i64 0, .string ⟨#[]⟩, .slice none 0 0, .int .i64 0] w g hc gb ga #[.int .i64 K, .int .i64 G, .int .i64 S, .int .i64 E0, .int .i64 M, .string bl, .slice a it.length c, .int .i64 er] i8 (U7.setCell ⟨gb, 6, none⟩ (.slice a it.length c))) := HU.out.set 6 (.slice a it.length c)
  have HO : Hid (OwnI19 (U7.setCell ⟨gb, 6, none⟩ (.slice a it.length c)) V7.heap.size (.slice a it.length c) it) := owns_same hO (fun j hj => Below.heap_setCell U7 ⟨gb, 6, none⟩ _ j (by have := (World.ownsRow.lt hO j hj).1; have := HBg.out; show j ≠ gb; omega))
  obtain ⟨V8, hV8⟩ : ∃ W, U7.setCell ⟨gb, 6, none⟩ (.slice a it.length c) = W := ⟨_, rfl⟩
  rw [hV8] at HS' HO
  have HI8 : Hid (ItsAt V8 a it.length it) := HO.out.its
  have HGG : Hid (ga < V7.heap.size) := HS.out.a.lt
  have HLC : Hid (it.length ≤ c ∧ c ≤ 9223372036854775807) := ⟨hlc, hcm⟩
  clear hO hI hIt hlc hcm HS CL HBg
  have q0 : V8.cell? ⟨gb, 0, none⟩ = some (.int .i64 K) := HS'.out.b.cell 0
  have q1 : V8.cell? ⟨gb, 1, none⟩ = some (.int .i64 G) := HS'.out.b.cell 1
  have q2 : V8.cell? ⟨gb, 2, none⟩ = some (.int .i64 S) := HS'.out.b.cell 2
  have q3 : V8.cell? ⟨gb, 3, none⟩ = some (.int .i64 E0) := HS'.out.b.cell 3
  have q4 : V8.cell? ⟨gb, 4, none⟩ = some (.int .i64 M) := HS'.out.b.cell 4
  have q5 : V8.cell? ⟨gb, 5, none⟩ = some (.string bl) := HS'.out.b.cell 5
  have q6 : V8.cell? ⟨gb, 6, none⟩ = some (.slice a it.length c) := HS'.out.b.cell 6
  have q7 : V8.cell? ⟨gb, 7, none⟩ = some (.int .i64 er) := HS'.out.b.cell 7
  go_wp2_with fail
  try rw [hV8]
  clear hV8 HU y6 z6 q0 q1 q2 q3 q4 q5 q6 q7
  refine (CA.out a c V8 HI8.out).mono ?_
  rintro e w9 ⟨rfl, hb9⟩
  have HB9 : Hid (Below w.heap.size w w9) := below_step HS'.out.bel (Nat.le_refl _) hb9
  have HZ9 : Hid (Blk w9 39 ga #[.int .i64 0, .int .i64 0, .int .i64 0, .int .i64 0, .int .i64 0, .string ⟨#[]⟩, .slice none 0 0, .int .i64 0]) := HS'.out.a.on hb9
  have HO9 : Hid (OwnI19 w9 V7.heap.size (.slice a it.length c) it) := owns_same HO.out (fun j hj => hb9.block j (World.ownsRow.lt HO.out j hj).2)
  have HLA : Hid (w.heap.size ≤ ga) := HS'.out.la
  clear hb9 HS' HI8 CA HO
  by_cases hc9 : E ≠ 0 ∨ B ≠ s
  · obtain rfl : X = (frm0, 190) := by rw [HX.out, if_pos hc9]
    rw [if_pos hc9, if_pos hc9]
    clear HX
    go_wp2_with (with_reducible refine wpList_storeBlk rfl 39 _ _ rfl ga #[.int .i64 0, .int .i64 0, .int .i64 0, .int .i64 0, .int .i64 0, .string ⟨#[]⟩, .slice none 0 0, .int .i64 0] #[.int .i64 0, .int .i64 0, .int .i64 0, .int .i64 0, .int .i64 0, .string ⟨#[]⟩, .slice none 0 0, .int .i64 0] ?hx ?hy HZ9.out rfl ?hi ?h1 ?_)
    try (case hx => rfl)
    try (case hy => rfl)
    try (case hi => kernel_rfl)
    try (case h1 => simp [Value.oneCell'])
    exact bodyPost_rowTmp rfl ga _ _ rfl rfl rfl (HZ9.out.setRow _) _ Try.underlying39 rfl (by kernel_rfl) ⟨none, 0, rfl, Nat.le_refl _, by decide, ⟨rfl, .inl rfl⟩, below_setRow HB9.out HLA.out _⟩
  · obtain rfl : X = ((K, G, S, E0, M, bl, it, er), 0) := by rw [HX.out, if_neg hc9]
    rw [if_neg hc9, if_neg hc9]
    clear HX
    go_wp2_with (with_reducible refine wpList_storeBlk rfl 39 _ _ rfl ga #[.int .i64 0, .int .i64 0, .int .i64 0, .int .i64 0, .int .i64 0, .string ⟨#[]⟩, .slice none 0 0, .int .i64 0] #[.int .i64 K, .int .i64 G, .int .i64 S, .int .i64 E0, .int .i64 M, .string bl, .slice a it.length c, .int .i64 er] ?hx ?hy HZ9.out rfl ?hi ?h1 ?_)
    try (case hx => rfl)
    try (case hy => rfl)
    try (case hi => kernel_rfl)
    try (case h1 => simp [Value.oneCell'])
    exact bodyPost_rowTmp rfl ga _ _ rfl rfl rfl (HZ9.out.setRow _) _ Try.underlying39 rfl (by kernel_rfl) ⟨a, c, rfl, HLC.out.1, HLC.out.2, OwnI19.its (owns_same HO9.out (fun j hj => setRow_other _ _ _ _ (by have := (World.ownsRow.lt HO9.out j hj).1; have := HGG.out; omega))), below_setRow HB9.out HLA.out _⟩

end Go.Proofs.Ytkmdajenbidaaaa
