/- Layer 19, the document's: Take of frames. -/
import Derived.Test.YtkmdajenbidaaaaRWiK
import Derived.Test.YtkmdajenbidaaaaRWiF
namespace Go.Proofs.Ytkmdajenbidaaaa
open Go.RowKit
set_option maxRecDepth 100000
set_option linter.unusedSimpArgs false
set_option linter.unusedVariables false
set_option maxRecDepth 100000


set_option maxHeartbeats 16000000 in
theorem rtakeF_any (s : ByteArray) (w : World) (hs : s.size ≤ 1048576) :
    Calls Try.prog 23 #[.string s] w (TakenF w (takeFP s)) := by
  have z0 : (s, (0 : Int)).1.size ≤ 1048576 := hs
  obtain ⟨⟨⟨S1, c1⟩, X0⟩, e0⟩ : ∃ p, numberP (s, (0 : Int)) 1 = p := ⟨_, rfl⟩
  obtain ⟨K, hx0⟩ : ∃ x : Int, (X0 : Int) = x := ⟨_, rfl⟩
  have z1 : (S1, c1).1.size ≤ 1048576 := Nat.le_trans (by have h := numberP_size (s, (0 : Int)) 1; rw [e0] at h; exact h) z0
  have C0' : ∀ W, _ := fun W => rinByte_any (s, (0 : Int)) W z0
  rw [e0] at C0'
  simp only [hx0] at C0'
  simp only [inV] at C0'
  have C0 : Hid (∀ W, _) := C0'
  obtain ⟨⟨⟨S2, c2⟩, X1⟩, e1⟩ : ∃ p, inNumP (S1, c1) = p := ⟨_, rfl⟩
  obtain ⟨G, hx1⟩ : ∃ x : Int, (X1 : Int) = x := ⟨_, rfl⟩
  have z2 : (S2, c2).1.size ≤ 1048576 := Nat.le_trans (by have h := inNumP_size (S1, c1); rw [e1] at h; exact h) z1
  have C1' : ∀ W, _ := fun W => rinNum_any (S1, c1) W z1
  rw [e1] at C1'
  simp only [hx1] at C1'
  simp only [inV] at C1'
  have C1 : Hid (∀ W, _) := C1'
  obtain ⟨⟨⟨S3, c3⟩, X2⟩, e2⟩ : ∃ p, inNumP (S2, c2) = p := ⟨_, rfl⟩
  obtain ⟨S, hx2⟩ : ∃ x : Int, (X2 : Int) = x := ⟨_, rfl⟩
  have z3 : (S3, c3).1.size ≤ 1048576 := Nat.le_trans (by have h := inNumP_size (S2, c2); rw [e2] at h; exact h) z2
  have C2' : ∀ W, _ := fun W => rinNum_any (S2, c2) W z2
  rw [e2] at C2'
  simp only [hx2] at C2'
  simp only [inV] at C2'
  have C2 : Hid (∀ W, _) := C2'
  obtain ⟨⟨⟨S4, c4⟩, X3⟩, e3⟩ : ∃ p, inNumP (S3, c3) = p := ⟨_, rfl⟩
  obtain ⟨E0, hx3⟩ : ∃ x : Int, (X3 : Int) = x := ⟨_, rfl⟩
  have z4 : (S4, c4).1.size ≤ 1048576 := Nat.le_trans (by have h := inNumP_size (S3, c3); rw [e3] at h; exact h) z3
  have C3' : ∀ W, _ := fun W => rinNum_any (S3, c3) W z3
  rw [e3] at C3'
  simp only [hx3] at C3'
  simp only [inV] at C3'
  have C3 : Hid (∀ W, _) := C3'
  obtain ⟨⟨⟨S5, c5⟩, X4⟩, e4⟩ : ∃ p, inNumP (S4, c4) = p := ⟨_, rfl⟩
  obtain ⟨M, hx4⟩ : ∃ x : Int, (X4 : Int) = x := ⟨_, rfl⟩
  have z5 : (S5, c5).1.size ≤ 1048576 := Nat.le_trans (by have h := inNumP_size (S4, c4); rw [e4] at h; exact h) z4
  have C4' : ∀ W, _ := fun W => rinNum_any (S4, c4) W z4
  rw [e4] at C4'
  simp only [hx4] at C4'
  simp only [inV] at C4'
  have C4 : Hid (∀ W, _) := C4'
  obtain ⟨⟨⟨S6, c6⟩, X5⟩, e5⟩ : ∃ p, inNumP (S5, c5) = p := ⟨_, rfl⟩
  obtain ⟨er, hx5⟩ : ∃ x : Int, (X5 : Int) = x := ⟨_, rfl⟩
  have z6 : (S6, c6).1.size ≤ 1048576 := Nat.le_trans (by have h := inNumP_size (S5, c5); rw [e5] at h; exact h) z5
  have C5' : ∀ W, _ := fun W => rinNum_any (S5, c5) W z5
  rw [e5] at C5'
  simp only [hx5] at C5'
  simp only [inV] at C5'
  have C5 : Hid (∀ W, _) := C5'
  obtain ⟨⟨⟨S7, c7⟩, bl⟩, e6⟩ : ∃ p, inTextP (S6, c6) 20000 = p := ⟨_, rfl⟩
  have z7 : (S7, c7).1.size ≤ 1048576 := Nat.le_trans (by have h := inTextP_size (S6, c6) 20000; rw [e6] at h; exact h) z6
  have C6' : ∀ W, _ := fun W => rinText_any (S6, c6) 20000 W z6
  rw [e6] at C6'
  simp only [inV] at C6'
  have C6 : Hid (∀ W, _) := C6'
  have y6 : bl.size ≤ 1048576 := by have h := inTextP_res (S6, c6) 20000; rw [e6] at h; exact h
  obtain ⟨⟨⟨S8, c8⟩, N⟩, e7⟩ : ∃ p, numberP (S7, c7) 1 = p := ⟨_, rfl⟩
  have z8 : (S8, c8).1.size ≤ 1048576 := Nat.le_trans (by have h := numberP_size (S7, c7) 1; rw [e7] at h; exact h) z7
  have C7' : ∀ W, _ := fun W => rinByte_any (S7, c7) W z7
  rw [e7] at C7'
  simp only [inV] at C7'
  have C7 : Hid (∀ W, _) := C7'
  have hzl : ∀ n i k, (itL (readLW readItP n i).2 k).2.2.size ≤ 9223372036854775807 := fun n i k => by
    by_cases hk : k < (readLW readItP n i).2.length
    · rw [itL_get _ k hk]
      exact readLW_all readItP (fun x => x.2.2.size ≤ 9223372036854775807) (fun j => Nat.le_trans (inTextP_res _ _) (by decide)) n i _ (List.getElem_mem hk)
    · unfold itL
      rw [List.getD_eq_getElem?_getD, List.getElem?_eq_none (by omega)]
      exact Nat.zero_le _
  have hll := readLW_len readItP (min N 33) (S8, c8)
  have hzf := hzl (min N 33) (S8, c8)
  obtain ⟨⟨fi, fl⟩, hfl⟩ : ∃ p, readLW readItP (min N 33) (S8, c8) = p := ⟨_, rfl⟩
  have HFL : Hid (readLW readItP (min N 33) (S8, c8) = (fi, fl)) := hfl
  have hr : readFP (s, 0) = (N, fi, (K, G, S, E0, M, bl, fl, er)) := by
    unfold readFP readHd
    simp only [e0, e1, e2, e3, e4, e5, e6, e7, hfl, hx0, hx1, hx2, hx3, hx4, hx5]
  rw [hfl] at hll hzf
  obtain ⟨Dn, hDn⟩ : ∃ Dn, inDoneP fi = Dn := ⟨_, rfl⟩
  have CD' : ∀ W, _ := fun W => rinDone_any fi W
  rw [hDn] at CD'
  simp only [inV] at CD'
  have CD : Hid (∀ W, _) := CD'
  have CM : Hid (∀ (a : Option Addr) (c : Nat) (W : World), ItsAt W a fl.length fl → _) := fun a c W hI => rmayF_any (K, G, S, E0, M, bl, fl, er) a c W (mayFb (K, G, S, E0, M, bl, fl, er)) (mayDoc_iff _) hI (by show fl.length ≤ _; have h1 : fl.length = min N 33 := hll; omega) hzf (Nat.le_trans y6 (by decide))
  obtain ⟨B, hB⟩ : ∃ B, mayFb (K, G, S, E0, M, bl, fl, er) = B := ⟨_, rfl⟩
  rw [hB] at CM
  have HX0 : Hid (takeFP s = if Dn ≠ 0 ∨ fl.length ≠ N ∨ 65536 < s.size ∨ B = false then (frm0, 190) else ((K, G, S, E0, M, bl, fl, er), 0)) := by
    show _ = _
    unfold takeFP
    rw [hr]
    simp only [hDn, hB]
  obtain ⟨X, hX⟩ : ∃ X, takeFP s = X := ⟨_, rfl⟩
  rw [hX] at HX0 ⊢
  have hN : N < 256 := by have h := number1_lt (S7, c7); rw [e7] at h; exact h
  obtain ⟨i0, hi, hzi0, hzi1, hzi2⟩ := info_parts Try.infoI19
  clear hr e0 e1 e2 e3 e4 e5 e6 e7 hx0 hx1 hx2 hx3 hx4 hx5 C0' C1' C2' C3' C4' C5' C6' C7' CD' hDn hB hX hzl hll hzf hfl y6 z0 z1 z2 z3 z4 z5 z6 z7
  have XF : Blk ((w.alloc (.cells #[.int .i64 0, .int .i64 0, .int .i64 0, .int .i64 0, .int .i64 0, .string ⟨#[]⟩, .slice none 0 0, .int .i64 0] 39)).alloc (.cells #[.int .i64 0, .int .i64 0, .int .i64 0, .int .i64 0, .int .i64 0, .string ⟨#[]⟩, .slice none 0 0, .int .i64 0] 39)) 39 (w.heap.size + 1) #[.int .i64 0, .int .i64 0, .int .i64 0, .int .i64 0, .int .i64 0, .string ⟨#[]⟩, .slice none 0 0, .int .i64 0] := Blk.new' _ _ _ _ (by rw [World.size_alloc])
  have hA1 : Blk (((w.alloc (.cells #[.int .i64 0, .int .i64 0, .int .i64 0, .int .i64 0, .int .i64 0, .string ⟨#[]⟩, .slice none 0 0, .int .i64 0] 39)).alloc (.cells #[.int .i64 0, .int .i64 0, .int .i64 0, .int .i64 0, .int .i64 0, .string ⟨#[]⟩, .slice none 0 0, .int .i64 0] 39)).setRow (w.heap.size + 1) #[.int .i64 0, .int .i64 0, .int .i64 0, .int .i64 0, .int .i64 0, .string ⟨#[]⟩, .slice none 0 0, .int .i64 0]) 39 w.heap.size #[.int .i64 0, .int .i64 0, .int .i64 0, .int .i64 0, .int .i64 0, .string ⟨#[]⟩, .slice none 0 0, .int .i64 0] := ((Blk.new w _ _).on (below_new _ _)).setRowOther _ (by omega) _
  have hF1 : Blk (((w.alloc (.cells #[.int .i64 0, .int .i64 0, .int .i64 0, .int .i64 0, .int .i64 0, .string ⟨#[]⟩, .slice none 0 0, .int .i64 0] 39)).alloc (.cells #[.int .i64 0, .int .i64 0, .int .i64 0, .int .i64 0, .int .i64 0, .string ⟨#[]⟩, .slice none 0 0, .int .i64 0] 39)).setRow (w.heap.size + 1) #[.int .i64 0, .int .i64 0, .int .i64 0, .int .i64 0, .int .i64 0, .string ⟨#[]⟩, .slice none 0 0, .int .i64 0]) 39 (w.heap.size + 1) #[.int .i64 0, .int .i64 0, .int .i64 0, .int .i64 0, .int .i64 0, .string ⟨#[]⟩, .slice none 0 0, .int .i64 0] := XF.setRow _
  have hB1 : Below w.heap.size w (((w.alloc (.cells #[.int .i64 0, .int .i64 0, .int .i64 0, .int .i64 0, .int .i64 0, .string ⟨#[]⟩, .slice none 0 0, .int .i64 0] 39)).alloc (.cells #[.int .i64 0, .int .i64 0, .int .i64 0, .int .i64 0, .int .i64 0, .string ⟨#[]⟩, .slice none 0 0, .int .i64 0] 39)).setRow (w.heap.size + 1) #[.int .i64 0, .int .i64 0, .int .i64 0, .int .i64 0, .int .i64 0, .string ⟨#[]⟩, .slice none 0 0, .int .i64 0]) := below_setRow ((below_new _ _).alloc (by rw [World.size_alloc]; omega) _) (by omega) _
  obtain ⟨W1, hW1⟩ : ∃ W1, ((w.alloc (.cells #[.int .i64 0, .int .i64 0, .int .i64 0, .int .i64 0, .int .i64 0, .string ⟨#[]⟩, .slice none 0 0, .int .i64 0] 39)).alloc (.cells #[.int .i64 0, .int .i64 0, .int .i64 0, .int .i64 0, .int .i64 0, .string ⟨#[]⟩, .slice none 0 0, .int .i64 0] 39)).setRow (w.heap.size + 1) #[.int .i64 0, .int .i64 0, .int .i64 0, .int .i64 0, .int .i64 0, .string ⟨#[]⟩, .slice none 0 0, .int .i64 0] = W1 := ⟨_, rfl⟩
  rw [hW1] at hA1 hF1 hB1
  have HA1 : Hid (Blk W1 39 w.heap.size #[.int .i64 0, .int .i64 0, .int .i64 0, .int .i64 0, .int .i64 0, .string ⟨#[]⟩, .slice none 0 0, .int .i64 0]) := hA1
  have HF1 : Hid (Blk W1 39 (w.heap.size + 1) #[.int .i64 0, .int .i64 0, .int .i64 0, .int .i64 0, .int .i64 0, .string ⟨#[]⟩, .slice none 0 0, .int .i64 0]) := hF1
  have HB1 : Hid (Below w.heap.size w W1) := hB1
  clear hA1 hF1 hB1
  go_enter Try.func23, Try.ntmps23
  go_wp2_with (with_reducible refine wpList_storeBlk rfl 39 _ _ rfl (w.heap.size + 1) #[.int .i64 0, .int .i64 0, .int .i64 0, .int .i64 0, .int .i64 0, .string ⟨#[]⟩, .slice none 0 0, .int .i64 0] #[.int .i64 0, .int .i64 0, .int .i64 0, .int .i64 0, .int .i64 0, .string ⟨#[]⟩, .slice none 0 0, .int .i64 0] (by with_unfolding_all rfl) (by with_unfolding_all rfl) XF rfl (by kernel_rfl) (by kernel_rfl) ?_)
  try rw [hW1]
  obtain ⟨gf, hgf⟩ : ∃ gf, w.heap.size + 1 = gf := ⟨_, rfl⟩
  obtain ⟨ga, hga⟩ : ∃ ga, w.heap.size = ga := ⟨_, rfl⟩
  rw [hgf] at HF1
  rw [hga] at HA1
  have HG : Hid (w.heap.size ≤ ga ∧ ga < gf) := by show _ ∧ _; omega
  try rw [hgf]
  try rw [hga]
  clear hW1 hgf hga XF
  refine (C0.out W1).mono ?_
  rintro e U0 ⟨rfl, hb⟩
  have HA2 : Hid (Blk U0 39 ga #[.int .i64 0, .int .i64 0, .int .i64 0, .int .i64 0, .int .i64 0, .string ⟨#[]⟩, .slice none 0 0, .int .i64 0]) := HA1.out.on hb
  have HF2 : Hid (Blk U0 39 gf #[.int .i64 0, .int .i64 0, .int .i64 0, .int .i64 0, .int .i64 0, .string ⟨#[]⟩, .slice none 0 0, .int .i64 0]) := HF1.out.on hb
  have HB2 : Hid (Below w.heap.size w U0) := below_step HB1.out (Nat.le_refl _) hb
  clear hb HA1 HF1 HB1 C0
  have XI : Blk (U0.alloc (.cells #[.string ⟨#[]⟩, .int .i64 0] 74)) 74 U0.heap.size #[.string ⟨#[]⟩, .int .i64 0] := Blk.new _ _ _
  have HS0 : Hid (RfS 39 #[.int .i64 0, .int .i64 0, .int .i64 0, .int .i64 0, .int .i64 0, .string ⟨#[]⟩, .slice none 0 0, .int .i64 0] w ga gf U0.heap.size #[.int .i64 0, .int .i64 0, .int .i64 0, .int .i64 0, .int .i64 0, .string ⟨#[]⟩, .slice none 0 0, .int .i64 0] (S1, c1) ((U0.alloc (.cells #[.string ⟨#[]⟩, .int .i64 0] 74)).setRow U0.heap.size #[.string S1, .int .i64 c1])) := by
    have h1 := HG.out
    have h2 := HF2.out.lt
    exact ⟨(HA2.out.on (below_new _ _)).setRowOther _ (by omega) _, (HF2.out.on (below_new _ _)).setRowOther _ (by omega) _, XI.setRow _, below_setRow (HB2.out.alloc HB2.out.size _) HB2.out.size _, h1.1, h1.2, h2⟩
  have v0 : ((U0.alloc (.cells #[.string ⟨#[]⟩, .int .i64 0] 74)).setRow U0.heap.size #[.string S1, .int .i64 c1]).cell? ⟨gf, 0, none⟩ = some _ := HS0.out.f.cell 0
  have u0 : ((U0.alloc (.cells #[.string ⟨#[]⟩, .int .i64 0] 74)).setRow U0.heap.size #[.string S1, .int .i64 c1]).frozen? ⟨gf, 0, none⟩ = false := HS0.out.f.free 0
  have HS : Hid (RfS 39 #[.int .i64 0, .int .i64 0, .int .i64 0, .int .i64 0, .int .i64 0, .string ⟨#[]⟩, .slice none 0 0, .int .i64 0] w ga gf U0.heap.size #[.int .i64 K, .int .i64 0, .int .i64 0, .int .i64 0, .int .i64 0, .string ⟨#[]⟩, .slice none 0 0, .int .i64 0] (S1, c1) (((U0.alloc (.cells #[.string ⟨#[]⟩, .int .i64 0] 74)).setRow U0.heap.size #[.string S1, .int .i64 c1]).setCell ⟨gf, 0, none⟩ (.int .i64 K))) := HS0.out.setF 0 (.int .i64 K)
  obtain ⟨V1, hV1⟩ : ∃ W, ((U0.alloc (.cells #[.string ⟨#[]⟩, .int .i64 0] 74)).setRow U0.heap.size #[.string S1, .int .i64 c1]).setCell ⟨gf, 0, none⟩ (.int .i64 K) = W := ⟨_, rfl⟩
  rw [hV1] at HS
  have q0 : V1.cell? ⟨U0.heap.size, 0, none⟩ = some (.string S1) := HS.out.i.cell 0
  have q1 : V1.cell? ⟨U0.heap.size, 1, none⟩ = some (.int .i64 c1) := HS.out.i.cell 1
  clear HA2 HF2 HB2 HS0 HG
  go_wp2_with (with_reducible refine wpList_storeBlk rfl 74 _ _ rfl U0.heap.size #[.string ⟨#[]⟩, .int .i64 0] #[.string S1, .int .i64 c1] (by with_unfolding_all rfl) (by with_unfolding_all rfl) XI rfl (by kernel_rfl) (by kernel_rfl) ?_)
  try rw [hV1]
  obtain ⟨gi, hgi⟩ : ∃ gi, U0.heap.size = gi := ⟨_, rfl⟩
  rw [hgi] at HS
  try rw [hgi]
  clear hV1 hgi XI v0 u0 q0 q1
  refine (C1.out V1).mono ?_
  rintro e U1 ⟨rfl, hb⟩
  have HU : Hid (RfS 39 #[.int .i64 0, .int .i64 0, .int .i64 0, .int .i64 0, .int .i64 0, .string ⟨#[]⟩, .slice none 0 0, .int .i64 0] w ga gf gi #[.int .i64 K, .int .i64 0, .int .i64 0, .int .i64 0, .int .i64 0, .string ⟨#[]⟩, .slice none 0 0, .int .i64 0] (S1, c1) U1) := HS.out.on hb
  have X1 := HU.out.i
  clear hb HS C1
  have HV : Hid (RfS 39 #[.int .i64 0, .int .i64 0, .int .i64 0, .int .i64 0, .int .i64 0, .string ⟨#[]⟩, .slice none 0 0, .int .i64 0] w ga gf gi #[.int .i64 K, .int .i64 0, .int .i64 0, .int .i64 0, .int .i64 0, .string ⟨#[]⟩, .slice none 0 0, .int .i64 0] (S2, c2) (U1.setRow gi #[.string S2, .int .i64 c2])) := HU.out.setI (S2, c2)
  have v0 : (U1.setRow gi #[.string S2, .int .i64 c2]).cell? ⟨gf, 1, none⟩ = some _ := HV.out.f.cell 1
  have u0 : (U1.setRow gi #[.string S2, .int .i64 c2]).frozen? ⟨gf, 1, none⟩ = false := HV.out.f.free 1
  have HS : Hid (RfS 39 #[.int .i64 0, .int .i64 0, .int .i64 0, .int .i64 0, .int .i64 0, .string ⟨#[]⟩, .slice none 0 0, .int .i64 0] w ga gf gi #[.int .i64 K, .int .i64 G, .int .i64 0, .int .i64 0, .int .i64 0, .string ⟨#[]⟩, .slice none 0 0, .int .i64 0] (S2, c2) ((U1.setRow gi #[.string S2, .int .i64 c2]).setCell ⟨gf, 1, none⟩ (.int .i64 G))) := HV.out.setF 1 (.int .i64 G)
  obtain ⟨V2, hV⟩ : ∃ W, (U1.setRow gi #[.string S2, .int .i64 c2]).setCell ⟨gf, 1, none⟩ (.int .i64 G) = W := ⟨_, rfl⟩
  clear HV
  rw [hV] at HS
  have q0 : V2.cell? ⟨gi, 0, none⟩ = some (.string S2) := HS.out.i.cell 0
  have q1 : V2.cell? ⟨gi, 1, none⟩ = some (.int .i64 c2) := HS.out.i.cell 1
  go_wp2_with (with_reducible refine wpList_storeBlk rfl 74 _ _ rfl gi #[.string S1, .int .i64 c1] #[.string S2, .int .i64 c2] (by with_unfolding_all rfl) (by with_unfolding_all rfl) X1 rfl (by kernel_rfl) (by kernel_rfl) ?_)
  try rw [hV]
  clear hV X1 HU v0 u0 q0 q1
  refine (C2.out V2).mono ?_
  rintro e U2 ⟨rfl, hb⟩
  have HU : Hid (RfS 39 #[.int .i64 0, .int .i64 0, .int .i64 0, .int .i64 0, .int .i64 0, .string ⟨#[]⟩, .slice none 0 0, .int .i64 0] w ga gf gi #[.int .i64 K, .int .i64 G, .int .i64 0, .int .i64 0, .int .i64 0, .string ⟨#[]⟩, .slice none 0 0, .int .i64 0] (S2, c2) U2) := HS.out.on hb
  have X1 := HU.out.i
  clear hb HS C2
  have HV : Hid (RfS 39 #[.int .i64 0, .int .i64 0, .int .i64 0, .int .i64 0, .int .i64 0, .string ⟨#[]⟩, .slice none 0 0, .int .i64 0] w ga gf gi #[.int .i64 K, .int .i64 G, .int .i64 0, .int .i64 0, .int .i64 0, .string ⟨#[]⟩, .slice none 0 0, .int .i64 0] (S3, c3) (U2.setRow gi #[.string S3, .int .i64 c3])) := HU.out.setI (S3, c3)
  have v0 : (U2.setRow gi #[.string S3, .int .i64 c3]).cell? ⟨gf, 2, none⟩ = some _ := HV.out.f.cell 2
  have u0 : (U2.setRow gi #[.string S3, .int .i64 c3]).frozen? ⟨gf, 2, none⟩ = false := HV.out.f.free 2
  have HS : Hid (RfS 39 #[.int .i64 0, .int .i64 0, .int .i64 0, .int .i64 0, .int .i64 0, .string ⟨#[]⟩, .slice none 0 0, .int .i64 0] w ga gf gi #[.int .i64 K, .int .i64 G, .int .i64 S, .int .i64 0, .int .i64 0, .string ⟨#[]⟩, .slice none 0 0, .int .i64 0] (S3, c3) ((U2.setRow gi #[.string S3, .int .i64 c3]).setCell ⟨gf, 2, none⟩ (.int .i64 S))) := HV.out.setF 2 (.int .i64 S)
  obtain ⟨V3, hV⟩ : ∃ W, (U2.setRow gi #[.string S3, .int .i64 c3]).setCell ⟨gf, 2, none⟩ (.int .i64 S) = W := ⟨_, rfl⟩
  clear HV
  rw [hV] at HS
  have q0 : V3.cell? ⟨gi, 0, none⟩ = some (.string S3) := HS.out.i.cell 0
  have q1 : V3.cell? ⟨gi, 1, none⟩ = some (.int .i64 c3) := HS.out.i.cell 1
  go_wp2_with (with_reducible refine wpList_storeBlk rfl 74 _ _ rfl gi #[.string S2, .int .i64 c2] #[.string S3, .int .i64 c3] (by with_unfolding_all rfl) (by with_unfolding_all rfl) X1 rfl (by kernel_rfl) (by kernel_rfl) ?_)
  try rw [hV]
  clear hV X1 HU v0 u0 q0 q1
  refine (C3.out V3).mono ?_
  rintro e U3 ⟨rfl, hb⟩
  have HU : Hid (RfS 39 #[.int .i64 0, .int .i64 0, .int .i64 0, .int .i64 0, .int .i64 0, .string ⟨#[]⟩, .slice none 0 0, .int .i64 0] w ga gf gi #[.int .i64 K, .int .i64 G, .int .i64 S, .int .i64 0, .int .i64 0, .string ⟨#[]⟩, .slice none 0 0, .int .i64 0] (S3, c3) U3) := HS.out.on hb
  have X1 := HU.out.i
  clear hb HS C3
  have HV : Hid (RfS 39 #[.int .i64 0, .int .i64 0, .int .i64 0, .int .i64 0, .int .i64 0, .string ⟨#[]⟩, .slice none 0 0, .int .i64 0] w ga gf gi #[.int .i64 K, .int .i64 G, .int .i64 S, .int .i64 0, .int .i64 0, .string ⟨#[]⟩, .slice none 0 0, .int .i64 0] (S4, c4) (U3.setRow gi #[.string S4, .int .i64 c4])) := HU.out.setI (S4, c4)
  have v0 : (U3.setRow gi #[.string S4, .int .i64 c4]).cell? ⟨gf, 3, none⟩ = some _ := HV.out.f.cell 3
  have u0 : (U3.setRow gi #[.string S4, .int .i64 c4]).frozen? ⟨gf, 3, none⟩ = false := HV.out.f.free 3
  have HS : Hid (RfS 39 #[.int .i64 0, .int .i64 0, .int .i64 0, .int .i64 0, .int .i64 0, .string ⟨#[]⟩, .slice none 0 0, .int .i64 0] w ga gf gi #[.int .i64 K, .int .i64 G, .int .i64 S, .int .i64 E0, .int .i64 0, .string ⟨#[]⟩, .slice none 0 0, .int .i64 0] (S4, c4) ((U3.setRow gi #[.string S4, .int .i64 c4]).setCell ⟨gf, 3, none⟩ (.int .i64 E0))) := HV.out.setF 3 (.int .i64 E0)
  obtain ⟨V4, hV⟩ : ∃ W, (U3.setRow gi #[.string S4, .int .i64 c4]).setCell ⟨gf, 3, none⟩ (.int .i64 E0) = W := ⟨_, rfl⟩
  clear HV
  rw [hV] at HS
  have q0 : V4.cell? ⟨gi, 0, none⟩ = some (.string S4) := HS.out.i.cell 0
  have q1 : V4.cell? ⟨gi, 1, none⟩ = some (.int .i64 c4) := HS.out.i.cell 1
  go_wp2_with (with_reducible refine wpList_storeBlk rfl 74 _ _ rfl gi #[.string S3, .int .i64 c3] #[.string S4, .int .i64 c4] (by with_unfolding_all rfl) (by with_unfolding_all rfl) X1 rfl (by kernel_rfl) (by kernel_rfl) ?_)
  try rw [hV]
  clear hV X1 HU v0 u0 q0 q1
  refine (C4.out V4).mono ?_
  rintro e U4 ⟨rfl, hb⟩
  have HU : Hid (RfS 39 #[.int .i64 0, .int .i64 0, .int .i64 0, .int .i64 0, .int .i64 0, .string ⟨#[]⟩, .slice none 0 0, .int .i64 0] w ga gf gi #[.int .i64 K, .int .i64 G, .int .i64 S, .int .i64 E0, .int .i64 0, .string ⟨#[]⟩, .slice none 0 0, .int .i64 0] (S4, c4) U4) := HS.out.on hb
  have X1 := HU.out.i
  clear hb HS C4
  have HV : Hid (RfS 39 #[.int .i64 0, .int .i64 0, .int .i64 0, .int .i64 0, .int .i64 0, .string ⟨#[]⟩, .slice none 0 0, .int .i64 0] w ga gf gi #[.int .i64 K, .int .i64 G, .int .i64 S, .int .i64 E0, .int .i64 0, .string ⟨#[]⟩, .slice none 0 0, .int .i64 0] (S5, c5) (U4.setRow gi #[.string S5, .int .i64 c5])) := HU.out.setI (S5, c5)
  have v0 : (U4.setRow gi #[.string S5, .int .i64 c5]).cell? ⟨gf, 4, none⟩ = some _ := HV.out.f.cell 4
  have u0 : (U4.setRow gi #[.string S5, .int .i64 c5]).frozen? ⟨gf, 4, none⟩ = false := HV.out.f.free 4
  have HS : Hid (RfS 39 #[.int .i64 0, .int .i64 0, .int .i64 0, .int .i64 0, .int .i64 0, .string ⟨#[]⟩, .slice none 0 0, .int .i64 0] w ga gf gi #[.int .i64 K, .int .i64 G, .int .i64 S, .int .i64 E0, .int .i64 M, .string ⟨#[]⟩, .slice none 0 0, .int .i64 0] (S5, c5) ((U4.setRow gi #[.string S5, .int .i64 c5]).setCell ⟨gf, 4, none⟩ (.int .i64 M))) := HV.out.setF 4 (.int .i64 M)
  obtain ⟨V5, hV⟩ : ∃ W, (U4.setRow gi #[.string S5, .int .i64 c5]).setCell ⟨gf, 4, none⟩ (.int .i64 M) = W := ⟨_, rfl⟩
  clear HV
  rw [hV] at HS
  have q0 : V5.cell? ⟨gi, 0, none⟩ = some (.string S5) := HS.out.i.cell 0
  have q1 : V5.cell? ⟨gi, 1, none⟩ = some (.int .i64 c5) := HS.out.i.cell 1
  go_wp2_with (with_reducible refine wpList_storeBlk rfl 74 _ _ rfl gi #[.string S4, .int .i64 c4] #[.string S5, .int .i64 c5] (by with_unfolding_all rfl) (by with_unfolding_all rfl) X1 rfl (by kernel_rfl) (by kernel_rfl) ?_)
  try rw [hV]
  clear hV X1 HU v0 u0 q0 q1
  refine (C5.out V5).mono ?_
  rintro e U5 ⟨rfl, hb⟩
  have HU : Hid (RfS 39 #[.int .i64 0, .int .i64 0, .int .i64 0, .int .i64 0, .int .i64 0, .string ⟨#[]⟩, .slice none 0 0, .int .i64 0] w ga gf gi #[.int .i64 K, .int .i64 G, .int .i64 S, .int .i64 E0, .int .i64 M, .string ⟨#[]⟩, .slice none 0 0, .int .i64 0] (S5, c5) U5) := HS.out.on hb
  have X1 := HU.out.i
  clear hb HS C5
  have HV : Hid (RfS 39 #[.int .i64 0, .int .i64 0, .int .i64 0, .int .i64 0, .int .i64 0, .string ⟨#[]⟩, .slice none 0 0, .int .i64 0] w ga gf gi #[.int .i64 K, .int .i64 G, .int .i64 S, .int .i64 E0, .int .i64 M, .string ⟨#[]⟩, .slice none 0 0, .int .i64 0] (S6, c6) (U5.setRow gi #[.string S6, .int .i64 c6])) := HU.out.setI (S6, c6)
  have v0 : (U5.setRow gi #[.string S6, .int .i64 c6]).cell? ⟨gf, 7, none⟩ = some _ := HV.out.f.cell 7
  have u0 : (U5.setRow gi #[.string S6, .int .i64 c6]).frozen? ⟨gf, 7, none⟩ = false := HV.out.f.free 7
  have HS : Hid (RfS 39 #[.int .i64 0, .int .i64 0, .int .i64 0, .int .i64 0, .int .i64 0, .string ⟨#[]⟩, .slice none 0 0, .int .i64 0] w ga gf gi #[.int .i64 K, .int .i64 G, .int .i64 S, .int .i64 E0, .int .i64 M, .string ⟨#[]⟩, .slice none 0 0, .int .i64 er] (S6, c6) ((U5.setRow gi #[.string S6, .int .i64 c6]).setCell ⟨gf, 7, none⟩ (.int .i64 er))) := HV.out.setF 7 (.int .i64 er)
  obtain ⟨V6, hV⟩ : ∃ W, (U5.setRow gi #[.string S6, .int .i64 c6]).setCell ⟨gf, 7, none⟩ (.int .i64 er) = W := ⟨_, rfl⟩
  clear HV
  rw [hV] at HS
  have q0 : V6.cell? ⟨gi, 0, none⟩ = some (.string S6) := HS.out.i.cell 0
  have q1 : V6.cell? ⟨gi, 1, none⟩ = some (.int .i64 c6) := HS.out.i.cell 1
  go_wp2_with (with_reducible refine wpList_storeBlk rfl 74 _ _ rfl gi #[.string S5, .int .i64 c5] #[.string S6, .int .i64 c6] (by with_unfolding_all rfl) (by with_unfolding_all rfl) X1 rfl (by kernel_rfl) (by kernel_rfl) ?_)
  try rw [hV]
  clear hV X1 HU v0 u0 q0 q1
  refine (C6.out V6).mono ?_
  rintro e U6 ⟨rfl, hb⟩
  have HU : Hid (RfS 39 #[.int .i64 0, .int .i64 0, .int .i64 0, .int .i64 0, .int .i64 0, .string ⟨#[]⟩, .slice none 0 0, .int .i64 0] w ga gf gi #[.int .i64 K, .int .i64 G, .int .i64 S, .int .i64 E0, .int .i64 M, .string ⟨#[]⟩, .slice none 0 0, .int .i64 er] (S6, c6) U6) := HS.out.on hb
  have X1 := HU.out.i
  clear hb HS C6
  have HV : Hid (RfS 39 #[.int .i64 0, .int .i64 0, .int .i64 0, .int .i64 0, .int .i64 0, .string ⟨#[]⟩, .slice none 0 0, .int .i64 0] w ga gf gi #[.int .i64 K, .int .i64 G, .int .i64 S, .int .i64 E0, .int .i64 M, .string ⟨#[]⟩, .slice none 0 0, .int .i64 er] (S7, c7) (U6.setRow gi #[.string S7, .int .i64 c7])) := HU.out.setI (S7, c7)
  have v0 : (U6.setRow gi #[.string S7, .int .i64 c7]).cell? ⟨gf, 5, none⟩ = some _ := HV.out.f.cell 5
  have u0 : (U6.setRow gi #[.string S7, .int .i64 c7]).frozen? ⟨gf, 5, none⟩ = false := HV.out.f.free 5
  have HS : Hid (RfS 39 #[.int .i64 0, .int .i64 0, .int .i64 0, .int .i64 0, .int .i64 0, .string ⟨#[]⟩, .slice none 0 0, .int .i64 0] w ga gf gi #[.int .i64 K, .int .i64 G, .int .i64 S, .int .i64 E0, .int .i64 M, .string bl, .slice none 0 0, .int .i64 er] (S7, c7) ((U6.setRow gi #[.string S7, .int .i64 c7]).setCell ⟨gf, 5, none⟩ (.string bl))) := HV.out.setF 5 (.string bl)
  obtain ⟨V7, hV⟩ : ∃ W, (U6.setRow gi #[.string S7, .int .i64 c7]).setCell ⟨gf, 5, none⟩ (.string bl) = W := ⟨_, rfl⟩
  clear HV
  rw [hV] at HS
  have q0 : V7.cell? ⟨gi, 0, none⟩ = some (.string S7) := HS.out.i.cell 0
  have q1 : V7.cell? ⟨gi, 1, none⟩ = some (.int .i64 c7) := HS.out.i.cell 1
  go_wp2_with (with_reducible refine wpList_storeBlk rfl 74 _ _ rfl gi #[.string S6, .int .i64 c6] #[.string S7, .int .i64 c7] (by with_unfolding_all rfl) (by with_unfolding_all rfl) X1 rfl (by kernel_rfl) (by kernel_rfl) ?_)
  try rw [hV]
  clear hV X1 HU v0 u0 q0 q1
  refine (C7.out V7).mono ?_
  rintro e U7 ⟨rfl, hb⟩
  have HU : Hid (RfS 39 #[.int .i64 0, .int .i64 0, .int .i64 0, .int .i64 0, .int .i64 0, .string ⟨#[]⟩, .slice none 0 0, .int .i64 0] w ga gf gi #[.int .i64 K, .int .i64 G, .int .i64 S, .int .i64 E0, .int .i64 M, .string bl, .slice none 0 0, .int .i64 er] (S7, c7) U7) := HS.out.on hb
  have X1 := HU.out.i
  clear hb HS C7
  have HS : Hid (RfS 39 #[.int .i64 0, .int .i64 0, .int .i64 0, .int .i64 0, .int .i64 0, .string ⟨#[]⟩, .slice none 0 0, .int .i64 0] w ga gf gi #[.int .i64 K, .int .i64 G, .int .i64 S, .int .i64 E0, .int .i64 M, .string bl, .slice none 0 0, .int .i64 er] (S8, c8) (U7.setRow gi #[.string S8, .int .i64 c8])) := HU.out.setI (S8, c8)
  have v0 : True := trivial
  have u0 : True := trivial
  obtain ⟨V8, hV⟩ : ∃ W, (U7.setRow gi #[.string S8, .int .i64 c8]) = W := ⟨_, rfl⟩
  rw [hV] at HS
  have q0 : V8.cell? ⟨gi, 0, none⟩ = some (.string S8) := HS.out.i.cell 0
  have q1 : V8.cell? ⟨gi, 1, none⟩ = some (.int .i64 c8) := HS.out.i.cell 1
  go_wp2_with (with_reducible refine wpList_storeBlk rfl 74 _ _ rfl gi #[.string S7, .int .i64 c7] #[.string S8, .int .i64 c8] (by with_unfolding_all rfl) (by with_unfolding_all rfl) X1 rfl (by kernel_rfl) (by kernel_rfl) ?_)
  try rw [hV]
  clear hV X1 HU v0 u0 q0 q1
  have HI1 : Hid (∃ v, RfS 39 #[.int .i64 0, .int .i64 0, .int .i64 0, .int .i64 0, .int .i64 0, .string ⟨#[]⟩, .slice none 0 0, .int .i64 0] w ga gf gi #[.int .i64 K, .int .i64 G, .int .i64 S, .int .i64 E0, .int .i64 M, .string bl, v, .int .i64 er] (S8, c8) V8 ∧ OwnI19 V8 (gi + 1) v [] ∧ gi + 1 ≤ V8.heap.size) := ⟨.slice none 0 0, HS.out, World.ownsRow_nil _ _ _ _, HS.out.i.lt⟩
  clear HS
  go_loopw [7] (fun x wr => ∃ (k : Nat) (ik : ByteArray × Int) (L : List (Int × Int × ByteArray)), k ≤ N ∧ k ≤ 33 ∧ x = .int .i64 k ∧ L.length = k ∧ ik.1.size ≤ 1048576 ∧ Hid (∃ v, RfS 39 #[.int .i64 0, .int .i64 0, .int .i64 0, .int .i64 0, .int .i64 0, .string ⟨#[]⟩, .slice none 0 0, .int .i64 0] w ga gf gi #[.int .i64 K, .int .i64 G, .int .i64 S, .int .i64 E0, .int .i64 M, .string bl, v, .int .i64 er] ik wr ∧ OwnI19 wr (gi + 1) v L ∧ gi + 1 ≤ wr.heap.size) ∧ Hid ((fi, fl) = ((readLW readItP (min N 33 - k) ik).1, L ++ (readLW readItP (min N 33 - k) ik).2))) (fun x _ => N - (intOf x).toNat)
  case atStart => exact ⟨0, (S8, c8), [], Nat.zero_le _, Nat.zero_le _, rfl, rfl, z8, HI1, by show _ = _; rw [Nat.sub_zero, HFL.out]; rfl⟩
  case round =>
    clear HI1 HFL z8
    obtain ⟨k, ik, L, hk, hk3, rfl, hLk, hz, HX, HF⟩ := hrel
    obtain ⟨v, hI⟩ := HX.out
    obtain ⟨t1, t2, t3⟩ := hI
    have HS : Hid (RfS 39 #[.int .i64 0, .int .i64 0, .int .i64 0, .int .i64 0, .int .i64 0, .string ⟨#[]⟩, .slice none 0 0, .int .i64 0] w ga gf gi #[.int .i64 K, .int .i64 G, .int .i64 S, .int .i64 E0, .int .i64 M, .string bl, v, .int .i64 er] ik wr) := t1
    have HO : Hid (OwnI19 wr (gi + 1) v L) := t2
    have HSZ : Hid (gi + 1 ≤ wr.heap.size) := t3
    clear t1 t2 t3 HX
    by_cases hlt : k < N ∧ k < 33
    · obtain ⟨hlt, hlt3⟩ := hlt
      have b0 : (k : Int) < (N : Int) := by omega
      have b1 : (k : Int) < 33 := by omega
      obtain ⟨d, hd⟩ : ∃ d, min N 33 - k = d + 1 := ⟨min N 33 - k - 1, by omega⟩
      have hd' : min N 33 - (k + 1) = d := by omega
      have hf := HF.out
      rw [hd] at hf
      unfold readLW at hf
      clear HF
      obtain ⟨⟨T0, d0⟩, hik⟩ : ∃ i, ik = i := ⟨_, rfl⟩
      rw [hik] at hf hz HS
      obtain ⟨⟨⟨T1, d1⟩, X0⟩, f0⟩ : ∃ p, inNumP (T0, d0) = p := ⟨_, rfl⟩
      obtain ⟨x0, hx0⟩ : ∃ x : Int, (X0 : Int) = x := ⟨_, rfl⟩
      have zz1 : (T1, d1).1.size ≤ 1048576 := Nat.le_trans (by have h := inNumP_size (T0, d0); rw [f0] at h; exact h) hz
      have D0' : ∀ W, _ := fun W => rinNum_any (T0, d0) W hz
      rw [f0] at D0'
      simp only [hx0] at D0'
      simp only [inV] at D0'
      have D0 : Hid (∀ W, _) := D0'
      obtain ⟨⟨⟨T2, d2⟩, X1⟩, f1⟩ : ∃ p, inNumP (T1, d1) = p := ⟨_, rfl⟩
      obtain ⟨x1, hx1⟩ : ∃ x : Int, (X1 : Int) = x := ⟨_, rfl⟩
      have zz2 : (T2, d2).1.size ≤ 1048576 := Nat.le_trans (by have h := inNumP_size (T1, d1); rw [f1] at h; exact h) zz1
      have D1' : ∀ W, _ := fun W => rinNum_any (T1, d1) W zz1
      rw [f1] at D1'
      simp only [hx1] at D1'
      simp only [inV] at D1'
      have D1 : Hid (∀ W, _) := D1'
      obtain ⟨⟨⟨T3, d3⟩, x2⟩, f2⟩ : ∃ p, inTextP (T2, d2) 20000 = p := ⟨_, rfl⟩
      have zz3 : (T3, d3).1.size ≤ 1048576 := Nat.le_trans (by have h := inTextP_size (T2, d2) 20000; rw [f2] at h; exact h) zz2
      have D2' : ∀ W, _ := fun W => rinText_any (T2, d2) 20000 W zz2
      rw [f2] at D2'
      simp only [inV] at D2'
      have D2 : Hid (∀ W, _) := D2'
      have hrd : readItP (T0, d0) = ((T3, d3), (x0, x1, x2)) := by
        unfold readItP
        simp only [f0, f1, f2, hx0, hx1]
      rw [hrd] at hf
      have HF' : Hid ((fi, fl) = ((readLW readItP (min N 33 - (k + 1)) (T3, d3)).1, (L ++ [(x0, x1, x2)]) ++ (readLW readItP (min N 33 - (k + 1)) (T3, d3)).2)) := by show _ = _; rw [hd', hf]; simp
      have HZ' : Hid ((T3, d3).1.size ≤ 1048576) := zz3
      clear hf hrd hd hd' hik hz f0 f1 f2 hx0 hx1 D0' D1' D2' zz1 zz2 zz3
      have XX : Blk (wr.alloc (.cells #[.int .i64 0, .int .i64 0, .string ⟨#[]⟩] 31)) 31 wr.heap.size #[.int .i64 0, .int .i64 0, .string ⟨#[]⟩] := Blk.new _ _ _
      have HY0 : Hid (RxS 39 #[.int .i64 0, .int .i64 0, .int .i64 0, .int .i64 0, .int .i64 0, .string ⟨#[]⟩, .slice none 0 0, .int .i64 0] w ga gf gi #[.int .i64 K, .int .i64 G, .int .i64 S, .int .i64 E0, .int .i64 M, .string bl, v, .int .i64 er] (T0, d0) wr 31 wr.heap.size #[.int .i64 0, .int .i64 0, .string ⟨#[]⟩] ((wr.alloc (.cells #[.int .i64 0, .int .i64 0, .string ⟨#[]⟩] 31)).setRow wr.heap.size #[.int .i64 0, .int .i64 0, .string ⟨#[]⟩])) := by
        have h1 := HSZ.out
        have h2 : Below wr.heap.size wr ((wr.alloc (.cells #[.int .i64 0, .int .i64 0, .string ⟨#[]⟩] 31)).setRow wr.heap.size #[.int .i64 0, .int .i64 0, .string ⟨#[]⟩]) := below_setRow (below_new _ _) (Nat.le_refl _) _
        exact ⟨HS.out.on h2, XX.setRow _, by omega, fun j _ hj => h2.block j hj⟩
      obtain ⟨Y0, hY0⟩ : ∃ Y0, (wr.alloc (.cells #[.int .i64 0, .int .i64 0, .string ⟨#[]⟩] 31)).setRow wr.heap.size #[.int .i64 0, .int .i64 0, .string ⟨#[]⟩] = Y0 := ⟨_, rfl⟩
      rw [hY0] at HY0
      have q0 : Y0.cell? ⟨gi, 0, none⟩ = some (.string T0) := HY0.out.base.i.cell 0
      have q1 : Y0.cell? ⟨gi, 1, none⟩ = some (.int .i64 d0) := HY0.out.base.i.cell 1
      clear HS
      go_wp2_with (with_reducible refine wpList_storeBlk rfl 31 _ _ rfl wr.heap.size #[.int .i64 0, .int .i64 0, .string ⟨#[]⟩] #[.int .i64 0, .int .i64 0, .string ⟨#[]⟩] (by with_unfolding_all rfl) (by with_unfolding_all rfl) XX rfl (by kernel_rfl) (by kernel_rfl) ?_)
      try rw [hY0]
      obtain ⟨gx, hgx⟩ : ∃ gx, wr.heap.size = gx := ⟨_, rfl⟩
      rw [hgx] at HY0
      have HGX : Hid (wr.heap.size = gx) := hgx
      try rw [hgx]
      clear hY0 hgx XX q0 q1
      refine (D0.out Y0).mono ?_
      rintro e Q0 ⟨rfl, hb⟩
      have HU : Hid (RxS 39 #[.int .i64 0, .int .i64 0, .int .i64 0, .int .i64 0, .int .i64 0, .string ⟨#[]⟩, .slice none 0 0, .int .i64 0] w ga gf gi #[.int .i64 K, .int .i64 G, .int .i64 S, .int .i64 E0, .int .i64 M, .string bl, v, .int .i64 er] (T0, d0) wr 31 gx #[.int .i64 0, .int .i64 0, .string ⟨#[]⟩] Q0) := HY0.out.on hb
      have X1 := HU.out.base.i
      clear hb HY0 D0
      have HV : Hid (RxS 39 #[.int .i64 0, .int .i64 0, .int .i64 0, .int .i64 0, .int .i64 0, .string ⟨#[]⟩, .slice none 0 0, .int .i64 0] w ga gf gi #[.int .i64 K, .int .i64 G, .int .i64 S, .int .i64 E0, .int .i64 M, .string bl, v, .int .i64 er] (T1, d1) wr 31 gx #[.int .i64 0, .int .i64 0, .string ⟨#[]⟩] (Q0.setRow gi #[.string T1, .int .i64 d1])) := HU.out.setI (T1, d1)
      have v0 : (Q0.setRow gi #[.string T1, .int .i64 d1]).cell? ⟨gx, 0, none⟩ = some _ := HV.out.x.cell 0
      have u0 : (Q0.setRow gi #[.string T1, .int .i64 d1]).frozen? ⟨gx, 0, none⟩ = false := HV.out.x.free 0
      have HY1 : Hid (RxS 39 #[.int .i64 0, .int .i64 0, .int .i64 0, .int .i64 0, .int .i64 0, .string ⟨#[]⟩, .slice none 0 0, .int .i64 0] w ga gf gi #[.int .i64 K, .int .i64 G, .int .i64 S, .int .i64 E0, .int .i64 M, .string bl, v, .int .i64 er] (T1, d1) wr 31 gx #[.int .i64 x0, .int .i64 0, .string ⟨#[]⟩] ((Q0.setRow gi #[.string T1, .int .i64 d1]).setCell ⟨gx, 0, none⟩ (.int .i64 x0))) := HV.out.setX 0 (.int .i64 x0)
      obtain ⟨Y1, hV⟩ : ∃ W, (Q0.setRow gi #[.string T1, .int .i64 d1]).setCell ⟨gx, 0, none⟩ (.int .i64 x0) = W := ⟨_, rfl⟩
      clear HV
      rw [hV] at HY1
      have q0 : Y1.cell? ⟨gi, 0, none⟩ = some (.string T1) := HY1.out.base.i.cell 0
      have q1 : Y1.cell? ⟨gi, 1, none⟩ = some (.int .i64 d1) := HY1.out.base.i.cell 1
      go_wp2_with (with_reducible refine wpList_storeBlk rfl 74 _ _ rfl gi #[.string T0, .int .i64 d0] #[.string T1, .int .i64 d1] (by with_unfolding_all rfl) (by with_unfolding_all rfl) X1 rfl (by kernel_rfl) (by kernel_rfl) ?_)
      try rw [hV]
      clear hV X1 HU v0 u0 q0 q1
      refine (D1.out Y1).mono ?_
      rintro e Q1 ⟨rfl, hb⟩
      have HU : Hid (RxS 39 #[.int .i64 0, .int .i64 0, .int .i64 0, .int .i64 0, .int .i64 0, .string ⟨#[]⟩, .slice none 0 0, .int .i64 0] w ga gf gi #[.int .i64 K, .int .i64 G, .int .i64 S, .int .i64 E0, .int .i64 M, .string bl, v, .int .i64 er] (T1, d1) wr 31 gx #[.int .i64 x0, .int .i64 0, .string ⟨#[]⟩] Q1) := HY1.out.on hb
      have X1 := HU.out.base.i
      clear hb HY1 D1
      have HV : Hid (RxS 39 #[.int .i64 0, .int .i64 0, .int .i64 0, .int .i64 0, .int .i64 0, .string ⟨#[]⟩, .slice none 0 0, .int .i64 0] w ga gf gi #[.int .i64 K, .int .i64 G, .int .i64 S, .int .i64 E0, .int .i64 M, .string bl, v, .int .i64 er] (T2, d2) wr 31 gx #[.int .i64 x0, .int .i64 0, .string ⟨#[]⟩] (Q1.setRow gi #[.string T2, .int .i64 d2])) := HU.out.setI (T2, d2)
      have v0 : (Q1.setRow gi #[.string T2, .int .i64 d2]).cell? ⟨gx, 1, none⟩ = some _ := HV.out.x.cell 1
      have u0 : (Q1.setRow gi #[.string T2, .int .i64 d2]).frozen? ⟨gx, 1, none⟩ = false := HV.out.x.free 1
      have HY2 : Hid (RxS 39 #[.int .i64 0, .int .i64 0, .int .i64 0, .int .i64 0, .int .i64 0, .string ⟨#[]⟩, .slice none 0 0, .int .i64 0] w ga gf gi #[.int .i64 K, .int .i64 G, .int .i64 S, .int .i64 E0, .int .i64 M, .string bl, v, .int .i64 er] (T2, d2) wr 31 gx #[.int .i64 x0, .int .i64 x1, .string ⟨#[]⟩] ((Q1.setRow gi #[.string T2, .int .i64 d2]).setCell ⟨gx, 1, none⟩ (.int .i64 x1))) := HV.out.setX 1 (.int .i64 x1)
      obtain ⟨Y2, hV⟩ : ∃ W, (Q1.setRow gi #[.string T2, .int .i64 d2]).setCell ⟨gx, 1, none⟩ (.int .i64 x1) = W := ⟨_, rfl⟩
      clear HV
      rw [hV] at HY2
      have q0 : Y2.cell? ⟨gi, 0, none⟩ = some (.string T2) := HY2.out.base.i.cell 0
      have q1 : Y2.cell? ⟨gi, 1, none⟩ = some (.int .i64 d2) := HY2.out.base.i.cell 1
      go_wp2_with (with_reducible refine wpList_storeBlk rfl 74 _ _ rfl gi #[.string T1, .int .i64 d1] #[.string T2, .int .i64 d2] (by with_unfolding_all rfl) (by with_unfolding_all rfl) X1 rfl (by kernel_rfl) (by kernel_rfl) ?_)
      try rw [hV]
      clear hV X1 HU v0 u0 q0 q1
      refine (D2.out Y2).mono ?_
      rintro e Q2 ⟨rfl, hb⟩
      have HU : Hid (RxS 39 #[.int .i64 0, .int .i64 0, .int .i64 0, .int .i64 0, .int .i64 0, .string ⟨#[]⟩, .slice none 0 0, .int .i64 0] w ga gf gi #[.int .i64 K, .int .i64 G, .int .i64 S, .int .i64 E0, .int .i64 M, .string bl, v, .int .i64 er] (T2, d2) wr 31 gx #[.int .i64 x0, .int .i64 x1, .string ⟨#[]⟩] Q2) := HY2.out.on hb
      have X1 := HU.out.base.i
      clear hb HY2 D2
      have HV : Hid (RxS 39 #[.int .i64 0, .int .i64 0, .int .i64 0, .int .i64 0, .int .i64 0, .string ⟨#[]⟩, .slice none 0 0, .int .i64 0] w ga gf gi #[.int .i64 K, .int .i64 G, .int .i64 S, .int .i64 E0, .int .i64 M, .string bl, v, .int .i64 er] (T3, d3) wr 31 gx #[.int .i64 x0, .int .i64 x1, .string ⟨#[]⟩] (Q2.setRow gi #[.string T3, .int .i64 d3])) := HU.out.setI (T3, d3)
      have v0 : (Q2.setRow gi #[.string T3, .int .i64 d3]).cell? ⟨gx, 2, none⟩ = some _ := HV.out.x.cell 2
      have u0 : (Q2.setRow gi #[.string T3, .int .i64 d3]).frozen? ⟨gx, 2, none⟩ = false := HV.out.x.free 2
      have HY3 : Hid (RxS 39 #[.int .i64 0, .int .i64 0, .int .i64 0, .int .i64 0, .int .i64 0, .string ⟨#[]⟩, .slice none 0 0, .int .i64 0] w ga gf gi #[.int .i64 K, .int .i64 G, .int .i64 S, .int .i64 E0, .int .i64 M, .string bl, v, .int .i64 er] (T3, d3) wr 31 gx #[.int .i64 x0, .int .i64 x1, .string x2] ((Q2.setRow gi #[.string T3, .int .i64 d3]).setCell ⟨gx, 2, none⟩ (.string x2))) := HV.out.setX 2 (.string x2)
      obtain ⟨Y3, hV⟩ : ∃ W, (Q2.setRow gi #[.string T3, .int .i64 d3]).setCell ⟨gx, 2, none⟩ (.string x2) = W := ⟨_, rfl⟩
      clear HV
      rw [hV] at HY3
      have hgx := HGX.out
      have hown : OwnI19 Y3 (gi + 1) v L := owns_same HO.out (fun j hj => by
        have h1 := World.ownsRow.lt HO.out j hj
        exact HY3.out.keep j (by omega) (by omega))
      have hsz : gi + 1 ≤ Y3.heap.size := by have := HY3.out.base.i.lt; omega
      have q0 : Y3.cell? ⟨gx, 0, none⟩ = some (.int .i64 x0) := HY3.out.x.cell 0
      have q1 : Y3.cell? ⟨gx, 1, none⟩ = some (.int .i64 x1) := HY3.out.x.cell 1
      have q2 : Y3.cell? ⟨gx, 2, none⟩ = some (.string x2) := HY3.out.x.cell 2
      have q3 : Y3.cell? ⟨gf, 6, none⟩ = some v := HY3.out.base.f.cell 6
      have HOwn : Hid (OwnI19 Y3 (gi + 1) v L) := hown
      unfold OwnI19 at hown
      rw [hLk] at hown
      clear HO HSZ hgx HGX
      go_wp2_with (first
        | (with_reducible refine wpList_storeBlk rfl 74 _ _ rfl gi #[.string T2, .int .i64 d2] #[.string T3, .int .i64 d3] (by with_unfolding_all rfl) (by with_unfolding_all rfl) X1 rfl (by kernel_rfl) (by kernel_rfl) ?_)
        | (at_builtin; refine wpList_appR2 rfl (.tmp 89) (.tmp 91) 29 rfl (gi + 1) 31 i0 _ 3 32 Try.underlying29 hi hzi0 hzi1 hzi2 rfl (by decide) Y3 v _ _ rfl hown #[.int .i64 x0, .int .i64 x1, .string x2] rfl (itemA_one (x0, x1, x2)) rfl (by omega) (by unfold maxLen; omega) hsz ?_))
      intro v4 w4 hown4 hg4
      clear v0 u0 X1 HU hV q0 q1 q2 q3
      have HO4 : Hid (OwnI19 w4 (gi + 1) v4 (L ++ [(x0, x1, x2)])) := by
        show OwnI19 _ _ _ _
        unfold OwnI19; rw [cellsI_snoc, List.length_append, hLk]; exact hown4
      have HS4 : Hid (RfS 39 #[.int .i64 0, .int .i64 0, .int .i64 0, .int .i64 0, .int .i64 0, .string ⟨#[]⟩, .slice none 0 0, .int .i64 0] w ga gf gi #[.int .i64 K, .int .i64 G, .int .i64 S, .int .i64 E0, .int .i64 M, .string bl, v, .int .i64 er] (T3, d3) w4) := (HY3.out.base.on (below_new _ _)).grown hg4 (fun j hj => by have := (World.ownsRow.lt HOwn.out j hj).1; omega)
      have HSZ4 : Hid (gi + 1 ≤ w4.heap.size) := by have h1 := hg4.size; rw [World.size_alloc] at h1; show _ ≤ _; omega
      obtain ⟨a4, n4, q4, hv4⟩ : ∃ a n q, v4 = .slice a n q := by
        obtain ⟨a, cap, e, _⟩ := HO4.out.rows
        exact ⟨_, _, _, e⟩
      subst hv4
      have v0 : w4.cell? ⟨gf, 6, none⟩ = some _ := HS4.out.f.cell 6
      have u0 : w4.frozen? ⟨gf, 6, none⟩ = false := HS4.out.f.free 6
      have HS5 : Hid (RfS 39 #[.int .i64 0, .int .i64 0, .int .i64 0, .int .i64 0, .int .i64 0, .string ⟨#[]⟩, .slice none 0 0, .int .i64 0] w ga gf gi #[.int .i64 K, .int .i64 G, .int .i64 S, .int .i64 E0, .int .i64 M, .string bl, .slice a4 n4 q4, .int .i64 er] (T3, d3) (w4.setCell ⟨gf, 6, none⟩ (.slice a4 n4 q4))) := HS4.out.setF 6 (.slice a4 n4 q4)
      have HO5 : Hid (OwnI19 (w4.setCell ⟨gf, 6, none⟩ (.slice a4 n4 q4)) (gi + 1) (.slice a4 n4 q4) (L ++ [(x0, x1, x2)])) := owns_same HO4.out (fun j hj => Below.heap_setCell w4 ⟨gf, 6, none⟩ _ j (by have := (World.ownsRow.lt HO4.out j hj).1; have := HS4.out.li; show j ≠ gf; omega))
      have HSZ5 : Hid (gi + 1 ≤ (w4.setCell ⟨gf, 6, none⟩ (.slice a4 n4 q4)).heap.size) := Nat.le_trans HSZ4.out (grown_set w4 gf 6 (.slice a4 n4 q4)).size
      obtain ⟨W5, hW5⟩ : ∃ W5, w4.setCell ⟨gf, 6, none⟩ (.slice a4 n4 q4) = W5 := ⟨_, rfl⟩
      rw [hW5] at HS5 HO5 HSZ5
      clear hown4 hg4 hown HO4 HS4 HSZ4 HY3 HOwn hsz
      go_wp2_with fail
      try rw [hW5]
      clear hW5 v0 u0
      have HX' : Hid (∃ v, RfS 39 #[.int .i64 0, .int .i64 0, .int .i64 0, .int .i64 0, .int .i64 0, .string ⟨#[]⟩, .slice none 0 0, .int .i64 0] w ga gf gi #[.int .i64 K, .int .i64 G, .int .i64 S, .int .i64 E0, .int .i64 M, .string bl, v, .int .i64 er] (T3, d3) W5 ∧ OwnI19 W5 (gi + 1) v (L ++ [(x0, x1, x2)]) ∧ gi + 1 ≤ W5.heap.size) := ⟨_, HS5.out, HO5.out, HSZ5.out⟩
      refine ⟨?_, ?_⟩
      · first
        | exact ⟨k + 1, (T3, d3), L ++ [(x0, x1, x2)], by omega, by omega, by go_num, by rw [List.length_append, hLk]; rfl, HZ'.out, HX', HF'⟩
        | ((repeat apply Exists.intro); refine ⟨?_, rfl⟩; exact ⟨k + 1, (T3, d3), L ++ [(x0, x1, x2)], by omega, by omega, by go_num, by rw [List.length_append, hLk]; rfl, HZ'.out, HX', HF'⟩)
      · simp [intOf] <;> omega
    · have hkm : min N 33 - k = 0 := by omega
      have hf := HF.out
      rw [hkm] at hf
      obtain ⟨rfl, rfl⟩ : fi = ik ∧ fl = L := ⟨congrArg Prod.fst hf, by have := congrArg Prod.snd hf; simpa [readLW] using this⟩
      obtain ⟨a, c, hv, hlc, hcm, hit⟩ := HO.out.rows
      subst hv
      have HLC : Hid (fl.length ≤ c ∧ c ≤ 9223372036854775807) := ⟨hlc, hcm⟩
      have HOW : Hid (OwnI19 wr (gi + 1) (.slice a fl.length c) fl) := HO.out
      have dd : (k < N ∧ ¬ (k < 33)) ∨ ¬ (k < N) := by omega
      have q0 : wr.cell? ⟨gi, 0, none⟩ = some (.string fi.1) := HS.out.i.cell 0
      have q1 : wr.cell? ⟨gi, 1, none⟩ = some (.int .i64 fi.2) := HS.out.i.cell 1
      have HLk : Hid (fl.length = k) := hLk
      clear hf HF hkm hit hlc hcm HO hz HSZ hLk
      rcases dd with ⟨g0, g1⟩ | g0
      · have b0 : (k : Int) < (N : Int) := by omega
        have b1 : ¬ ((k : Int) < 33) := by omega
        go_wp2_with fail
        refine (CD.out wr).mono ?_
        rintro e w1 ⟨rfl, hb⟩
        have HT : Hid (RfS 39 #[.int .i64 0, .int .i64 0, .int .i64 0, .int .i64 0, .int .i64 0, .string ⟨#[]⟩, .slice none 0 0, .int .i64 0] w ga gf gi #[.int .i64 K, .int .i64 G, .int .i64 S, .int .i64 E0, .int .i64 M, .string bl, .slice a fl.length c, .int .i64 er] fi w1) := HS.out.on hb
        have HO1 : Hid (OwnI19 w1 (gi + 1) (.slice a fl.length c) fl) := owns_on HOW.out hb
        clear hb HS HOW CD q0 q1
        by_cases hD : Dn = 0
        · have tD : (Dn != 0) = false := by simp [hD]
          by_cases hl : fl.length = N
          · have tl : ((fl.length : Int) != (N : Int)) = false := by rw [bne_eq_false_iff_eq]; omega
            by_cases hs5 : s.size ≤ 65536
            · have ts' : decide ((65536 : Int) < (s.size : Int)) = false := decide_eq_false (by omega)
              have ts : ¬ ((65536 : Int) < (s.size : Int)) := by omega
              have hIm : ItsAt w1 a fl.length fl := HO1.out.its
              have HL0 : Hid (fl.length = N) := hl
              have HD0 : Hid (Dn = 0) := hD
              have HS5 : Hid (s.size ≤ 65536) := hs5
              clear hl hD hs5
              have d0 : w1.cell? ⟨gf, 0, none⟩ = some (.int .i64 K) := HT.out.f.cell 0
              have d1 : w1.cell? ⟨gf, 1, none⟩ = some (.int .i64 G) := HT.out.f.cell 1
              have d2 : w1.cell? ⟨gf, 2, none⟩ = some (.int .i64 S) := HT.out.f.cell 2
              have d3 : w1.cell? ⟨gf, 3, none⟩ = some (.int .i64 E0) := HT.out.f.cell 3
              have d4 : w1.cell? ⟨gf, 4, none⟩ = some (.int .i64 M) := HT.out.f.cell 4
              have d5 : w1.cell? ⟨gf, 5, none⟩ = some (.string bl) := HT.out.f.cell 5
              have d6 : w1.cell? ⟨gf, 6, none⟩ = some (.slice a fl.length c) := HT.out.f.cell 6
              have d7 : w1.cell? ⟨gf, 7, none⟩ = some (.int .i64 er) := HT.out.f.cell 7
              go_wp2_with fail
              refine (CM.out a c w1 hIm).mono ?_
              rintro e w2 ⟨rfl, hb⟩
              have HT2 : Hid (RfS 39 #[.int .i64 0, .int .i64 0, .int .i64 0, .int .i64 0, .int .i64 0, .string ⟨#[]⟩, .slice none 0 0, .int .i64 0] w ga gf gi #[.int .i64 K, .int .i64 G, .int .i64 S, .int .i64 E0, .int .i64 M, .string bl, .slice a fl.length c, .int .i64 er] fi w2) := HT.out.on hb
              have HO2 : Hid (OwnI19 w2 (gi + 1) (.slice a fl.length c) fl) := owns_on HO1.out hb
              clear hb HT HO1 CM hIm d0 d1 d2 d3 d4 d5 d6 d7
              have HZ : Hid (Blk w2 39 ga #[.int .i64 0, .int .i64 0, .int .i64 0, .int .i64 0, .int .i64 0, .string ⟨#[]⟩, .slice none 0 0, .int .i64 0]) := HT2.out.a
              have HB : Hid (Below w.heap.size w w2) := HT2.out.bel
              have HLA : Hid (w.heap.size ≤ ga) := HT2.out.la
              cases B with
              | false =>
                clear HT2 HO2
                obtain rfl : X = (frm0, 190) := by rw [HX0.out, if_pos (.inr (.inr (.inr rfl)))]
                clear HX0
                go_wp2_with (with_reducible refine wpList_storeBlk rfl 39 _ _ rfl ga #[.int .i64 0, .int .i64 0, .int .i64 0, .int .i64 0, .int .i64 0, .string ⟨#[]⟩, .slice none 0 0, .int .i64 0] #[.int .i64 0, .int .i64 0, .int .i64 0, .int .i64 0, .int .i64 0, .string ⟨#[]⟩, .slice none 0 0, .int .i64 0] (by with_unfolding_all rfl) (by with_unfolding_all rfl) HZ.out rfl (by kernel_rfl) (by kernel_rfl) ?_)
                exact bodyPost_rowTmp rfl ga _ _ rfl rfl rfl (HZ.out.setRow _) _ Try.underlying39 rfl (by kernel_rfl) ⟨none, 0, rfl, Nat.le_refl _, by decide, ⟨rfl, .inl rfl⟩, below_setRow HB.out HLA.out _⟩
              | true =>
                have HAT : Hid (ItsAt (w2.setRow ga #[.int .i64 K, .int .i64 G, .int .i64 S, .int .i64 E0, .int .i64 M, .string bl, .slice a fl.length c, .int .i64 er]) a fl.length fl) := OwnI19.its (owns_same HO2.out (fun j hj => setRow_other _ _ _ _ (by have h1 := (World.ownsRow.lt HO2.out j hj).1; have h2 := HT2.out.lf; have h3 := HT2.out.li; omega)))
                have d0 : w2.cell? ⟨gf, 0, none⟩ = some (.int .i64 K) := HT2.out.f.cell 0
                have d1 : w2.cell? ⟨gf, 1, none⟩ = some (.int .i64 G) := HT2.out.f.cell 1
                have d2 : w2.cell? ⟨gf, 2, none⟩ = some (.int .i64 S) := HT2.out.f.cell 2
                have d3 : w2.cell? ⟨gf, 3, none⟩ = some (.int .i64 E0) := HT2.out.f.cell 3
                have d4 : w2.cell? ⟨gf, 4, none⟩ = some (.int .i64 M) := HT2.out.f.cell 4
                have d5 : w2.cell? ⟨gf, 5, none⟩ = some (.string bl) := HT2.out.f.cell 5
                have d6 : w2.cell? ⟨gf, 6, none⟩ = some (.slice a fl.length c) := HT2.out.f.cell 6
                have d7 : w2.cell? ⟨gf, 7, none⟩ = some (.int .i64 er) := HT2.out.f.cell 7
                obtain rfl : X = ((K, G, S, E0, M, bl, fl, er), 0) := by
                  rw [HX0.out, if_neg]
                  rintro (e | e | e | e)
                  · exact e HD0.out
                  · exact e HL0.out
                  · have := HS5.out; omega
                  · cases e
                clear HX0 HT2 HO2
                go_wp2_with (with_reducible refine wpList_storeBlk rfl 39 _ _ rfl ga #[.int .i64 0, .int .i64 0, .int .i64 0, .int .i64 0, .int .i64 0, .string ⟨#[]⟩, .slice none 0 0, .int .i64 0] #[.int .i64 K, .int .i64 G, .int .i64 S, .int .i64 E0, .int .i64 M, .string bl, .slice a fl.length c, .int .i64 er] (by with_unfolding_all rfl) (by with_unfolding_all rfl) HZ.out rfl (by kernel_rfl) (by kernel_rfl) ?_)
                exact bodyPost_rowTmp rfl ga _ _ rfl rfl rfl (HZ.out.setRow _) _ Try.underlying39 rfl (by kernel_rfl) ⟨a, c, rfl, HLC.out.1, HLC.out.2, HAT.out, below_setRow HB.out HLA.out _⟩
            · have ts' : decide ((65536 : Int) < (s.size : Int)) = true := decide_eq_true (by omega)
              have ts : (65536 : Int) < (s.size : Int) := by omega
              have HZ : Hid (Blk w1 39 ga #[.int .i64 0, .int .i64 0, .int .i64 0, .int .i64 0, .int .i64 0, .string ⟨#[]⟩, .slice none 0 0, .int .i64 0]) := HT.out.a
              have HB : Hid (Below w.heap.size w w1) := HT.out.bel
              have HLA : Hid (w.heap.size ≤ ga) := HT.out.la
              have d6 : w1.cell? ⟨gf, 6, none⟩ = some (.slice a fl.length c) := HT.out.f.cell 6
              clear HO1 HT CM hl hD
              obtain rfl : X = (frm0, 190) := by rw [HX0.out, if_pos (.inr (.inr (.inl (by omega))))]
              clear HX0
              go_wp2_with (with_reducible refine wpList_storeBlk rfl 39 _ _ rfl ga #[.int .i64 0, .int .i64 0, .int .i64 0, .int .i64 0, .int .i64 0, .string ⟨#[]⟩, .slice none 0 0, .int .i64 0] #[.int .i64 0, .int .i64 0, .int .i64 0, .int .i64 0, .int .i64 0, .string ⟨#[]⟩, .slice none 0 0, .int .i64 0] (by with_unfolding_all rfl) (by with_unfolding_all rfl) HZ.out rfl (by kernel_rfl) (by kernel_rfl) ?_)
              exact bodyPost_rowTmp rfl ga _ _ rfl rfl rfl (HZ.out.setRow _) _ Try.underlying39 rfl (by kernel_rfl) ⟨none, 0, rfl, Nat.le_refl _, by decide, ⟨rfl, .inl rfl⟩, below_setRow HB.out HLA.out _⟩
          · have tl : ((fl.length : Int) != (N : Int)) = true := by rw [bne_iff_ne]; omega
            have HZ : Hid (Blk w1 39 ga #[.int .i64 0, .int .i64 0, .int .i64 0, .int .i64 0, .int .i64 0, .string ⟨#[]⟩, .slice none 0 0, .int .i64 0]) := HT.out.a
            have HB : Hid (Below w.heap.size w w1) := HT.out.bel
            have HLA : Hid (w.heap.size ≤ ga) := HT.out.la
            have d6 : w1.cell? ⟨gf, 6, none⟩ = some (.slice a fl.length c) := HT.out.f.cell 6
            clear HO1 HT CM hD
            obtain rfl : X = (frm0, 190) := by rw [HX0.out, if_pos (.inr (.inl hl))]
            clear HX0
            go_wp2_with (with_reducible refine wpList_storeBlk rfl 39 _ _ rfl ga #[.int .i64 0, .int .i64 0, .int .i64 0, .int .i64 0, .int .i64 0, .string ⟨#[]⟩, .slice none 0 0, .int .i64 0] #[.int .i64 0, .int .i64 0, .int .i64 0, .int .i64 0, .int .i64 0, .string ⟨#[]⟩, .slice none 0 0, .int .i64 0] (by with_unfolding_all rfl) (by with_unfolding_all rfl) HZ.out rfl (by kernel_rfl) (by kernel_rfl) ?_)
            exact bodyPost_rowTmp rfl ga _ _ rfl rfl rfl (HZ.out.setRow _) _ Try.underlying39 rfl (by kernel_rfl) ⟨none, 0, rfl, Nat.le_refl _, by decide, ⟨rfl, .inl rfl⟩, below_setRow HB.out HLA.out _⟩
        · have tD : (Dn != 0) = true := by simp [hD]
          have HZ : Hid (Blk w1 39 ga #[.int .i64 0, .int .i64 0, .int .i64 0, .int .i64 0, .int .i64 0, .string ⟨#[]⟩, .slice none 0 0, .int .i64 0]) := HT.out.a
          have HB : Hid (Below w.heap.size w w1) := HT.out.bel
          have HLA : Hid (w.heap.size ≤ ga) := HT.out.la
          clear HO1 HT CM
          obtain rfl : X = (frm0, 190) := by rw [HX0.out, if_pos (.inl hD)]
          clear HX0
          go_wp2_with (with_reducible refine wpList_storeBlk rfl 39 _ _ rfl ga #[.int .i64 0, .int .i64 0, .int .i64 0, .int .i64 0, .int .i64 0, .string ⟨#[]⟩, .slice none 0 0, .int .i64 0] #[.int .i64 0, .int .i64 0, .int .i64 0, .int .i64 0, .int .i64 0, .string ⟨#[]⟩, .slice none 0 0, .int .i64 0] (by with_unfolding_all rfl) (by with_unfolding_all rfl) HZ.out rfl (by kernel_rfl) (by kernel_rfl) ?_)
          exact bodyPost_rowTmp rfl ga _ _ rfl rfl rfl (HZ.out.setRow _) _ Try.underlying39 rfl (by kernel_rfl) ⟨none, 0, rfl, Nat.le_refl _, by decide, ⟨rfl, .inl rfl⟩, below_setRow HB.out HLA.out _⟩
      · have b0 : ¬ ((k : Int) < (N : Int)) := by omega
        go_wp2_with fail
        refine (CD.out wr).mono ?_
        rintro e w1 ⟨rfl, hb⟩
        have HT : Hid (RfS 39 #[.int .i64 0, .int .i64 0, .int .i64 0, .int .i64 0, .int .i64 0, .string ⟨#[]⟩, .slice none 0 0, .int .i64 0] w ga gf gi #[.int .i64 K, .int .i64 G, .int .i64 S, .int .i64 E0, .int .i64 M, .string bl, .slice a fl.length c, .int .i64 er] fi w1) := HS.out.on hb
        have HO1 : Hid (OwnI19 w1 (gi + 1) (.slice a fl.length c) fl) := owns_on HOW.out hb
        clear hb HS HOW CD q0 q1
        by_cases hD : Dn = 0
        · have tD : (Dn != 0) = false := by simp [hD]
          by_cases hl : fl.length = N
          · have tl : ((fl.length : Int) != (N : Int)) = false := by rw [bne_eq_false_iff_eq]; omega
            by_cases hs5 : s.size ≤ 65536
            · have ts' : decide ((65536 : Int) < (s.size : Int)) = false := decide_eq_false (by omega)
              have ts : ¬ ((65536 : Int) < (s.size : Int)) := by omega
              have hIm : ItsAt w1 a fl.length fl := HO1.out.its
              have HL0 : Hid (fl.length = N) := hl
              have HD0 : Hid (Dn = 0) := hD
              have HS5 : Hid (s.size ≤ 65536) := hs5
              clear hl hD hs5
              have d0 : w1.cell? ⟨gf, 0, none⟩ = some (.int .i64 K) := HT.out.f.cell 0
              have d1 : w1.cell? ⟨gf, 1, none⟩ = some (.int .i64 G) := HT.out.f.cell 1
              have d2 : w1.cell? ⟨gf, 2, none⟩ = some (.int .i64 S) := HT.out.f.cell 2
              have d3 : w1.cell? ⟨gf, 3, none⟩ = some (.int .i64 E0) := HT.out.f.cell 3
              have d4 : w1.cell? ⟨gf, 4, none⟩ = some (.int .i64 M) := HT.out.f.cell 4
              have d5 : w1.cell? ⟨gf, 5, none⟩ = some (.string bl) := HT.out.f.cell 5
              have d6 : w1.cell? ⟨gf, 6, none⟩ = some (.slice a fl.length c) := HT.out.f.cell 6
              have d7 : w1.cell? ⟨gf, 7, none⟩ = some (.int .i64 er) := HT.out.f.cell 7
              go_wp2_with fail
              refine (CM.out a c w1 hIm).mono ?_
              rintro e w2 ⟨rfl, hb⟩
              have HT2 : Hid (RfS 39 #[.int .i64 0, .int .i64 0, .int .i64 0, .int .i64 0, .int .i64 0, .string ⟨#[]⟩, .slice none 0 0, .int .i64 0] w ga gf gi #[.int .i64 K, .int .i64 G, .int .i64 S, .int .i64 E0, .int .i64 M, .string bl, .slice a fl.length c, .int .i64 er] fi w2) := HT.out.on hb
              have HO2 : Hid (OwnI19 w2 (gi + 1) (.slice a fl.length c) fl) := owns_on HO1.out hb
              clear hb HT HO1 CM hIm d0 d1 d2 d3 d4 d5 d6 d7
              have HZ : Hid (Blk w2 39 ga #[.int .i64 0, .int .i64 0, .int .i64 0, .int .i64 0, .int .i64 0, .string ⟨#[]⟩, .slice none 0 0, .int .i64 0]) := HT2.out.a
              have HB : Hid (Below w.heap.size w w2) := HT2.out.bel
              have HLA : Hid (w.heap.size ≤ ga) := HT2.out.la
              cases B with
              | false =>
                clear HT2 HO2
                obtain rfl : X = (frm0, 190) := by rw [HX0.out, if_pos (.inr (.inr (.inr rfl)))]
                clear HX0
                go_wp2_with (with_reducible refine wpList_storeBlk rfl 39 _ _ rfl ga #[.int .i64 0, .int .i64 0, .int .i64 0, .int .i64 0, .int .i64 0, .string ⟨#[]⟩, .slice none 0 0, .int .i64 0] #[.int .i64 0, .int .i64 0, .int .i64 0, .int .i64 0, .int .i64 0, .string ⟨#[]⟩, .slice none 0 0, .int .i64 0] (by with_unfolding_all rfl) (by with_unfolding_all rfl) HZ.out rfl (by kernel_rfl) (by kernel_rfl) ?_)
                exact bodyPost_rowTmp rfl ga _ _ rfl rfl rfl (HZ.out.setRow _) _ Try.underlying39 rfl (by kernel_rfl) ⟨none, 0, rfl, Nat.le_refl _, by decide, ⟨rfl, .inl rfl⟩, below_setRow HB.out HLA.out _⟩
              | true =>
                have HAT : Hid (ItsAt (w2.setRow ga #[.int .i64 K, .int .i64 G, .int .i64 S, .int .i64 E0, .int .i64 M, .string bl, .slice a fl.length c, .int .i64 er]) a fl.length fl) := OwnI19.its (owns_same HO2.out (fun j hj => setRow_other _ _ _ _ (by have h1 := (World.ownsRow.lt HO2.out j hj).1; have h2 := HT2.out.lf; have h3 := HT2.out.li; omega)))
                have d0 : w2.cell? ⟨gf, 0, none⟩ = some (.int .i64 K) := HT2.out.f.cell 0
                have d1 : w2.cell? ⟨gf, 1, none⟩ = some (.int .i64 G) := HT2.out.f.cell 1
                have d2 : w2.cell? ⟨gf, 2, none⟩ = some (.int .i64 S) := HT2.out.f.cell 2
                have d3 : w2.cell? ⟨gf, 3, none⟩ = some (.int .i64 E0) := HT2.out.f.cell 3
                have d4 : w2.cell? ⟨gf, 4, none⟩ = some (.int .i64 M) := HT2.out.f.cell 4
                have d5 : w2.cell? ⟨gf, 5, none⟩ = some (.string bl) := HT2.out.f.cell 5
                have d6 : w2.cell? ⟨gf, 6, none⟩ = some (.slice a fl.length c) := HT2.out.f.cell 6
                have d7 : w2.cell? ⟨gf, 7, none⟩ = some (.int .i64 er) := HT2.out.f.cell 7
                obtain rfl : X = ((K, G, S, E0, M, bl, fl, er), 0) := by
                  rw [HX0.out, if_neg]
                  rintro (e | e | e | e)
                  · exact e HD0.out
                  · exact e HL0.out
                  · have := HS5.out; omega
                  · cases e
                clear HX0 HT2 HO2
                go_wp2_with (with_reducible refine wpList_storeBlk rfl 39 _ _ rfl ga #[.int .i64 0, .int .i64 0, .int .i64 0, .int .i64 0, .int .i64 0, .string ⟨#[]⟩, .slice none 0 0, .int .i64 0] #[.int .i64 K, .int .i64 G, .int .i64 S, .int .i64 E0, .int .i64 M, .string bl, .slice a fl.length c, .int .i64 er] (by with_unfolding_all rfl) (by with_unfolding_all rfl) HZ.out rfl (by kernel_rfl) (by kernel_rfl) ?_)
                exact bodyPost_rowTmp rfl ga _ _ rfl rfl rfl (HZ.out.setRow _) _ Try.underlying39 rfl (by kernel_rfl) ⟨a, c, rfl, HLC.out.1, HLC.out.2, HAT.out, below_setRow HB.out HLA.out _⟩
            · have ts' : decide ((65536 : Int) < (s.size : Int)) = true := decide_eq_true (by omega)
              have ts : (65536 : Int) < (s.size : Int) := by omega
              have HZ : Hid (Blk w1 39 ga #[.int .i64 0, .int .i64 0, .int .i64 0, .int .i64 0, .int .i64 0, .string ⟨#[]⟩, .slice none 0 0, .int .i64 0]) := HT.out.a
              have HB : Hid (Below w.heap.size w w1) := HT.out.bel
              have HLA : Hid (w.heap.size ≤ ga) := HT.out.la
              have d6 : w1.cell? ⟨gf, 6, none⟩ = some (.slice a fl.length c) := HT.out.f.cell 6
              clear HO1 HT CM hl hD
              obtain rfl : X = (frm0, 190) := by rw [HX0.out, if_pos (.inr (.inr (.inl (by omega))))]
              clear HX0
              go_wp2_with (with_reducible refine wpList_storeBlk rfl 39 _ _ rfl ga #[.int .i64 0, .int .i64 0, .int .i64 0, .int .i64 0, .int .i64 0, .string ⟨#[]⟩, .slice none 0 0, .int .i64 0] #[.int .i64 0, .int .i64 0, .int .i64 0, .int .i64 0, .int .i64 0, .string ⟨#[]⟩, .slice none 0 0, .int .i64 0] (by with_unfolding_all rfl) (by with_unfolding_all rfl) HZ.out rfl (by kernel_rfl) (by kernel_rfl) ?_)
              exact bodyPost_rowTmp rfl ga _ _ rfl rfl rfl (HZ.out.setRow _) _ Try.underlying39 rfl (by kernel_rfl) ⟨none, 0, rfl, Nat.le_refl _, by decide, ⟨rfl, .inl rfl⟩, below_setRow HB.out HLA.out _⟩
          · have tl : ((fl.length : Int) != (N : Int)) = true := by rw [bne_iff_ne]; omega
            have HZ : Hid (Blk w1 39 ga #[.int .i64 0, .int .i64 0, .int .i64 0, .int .i64 0, .int .i64 0, .string ⟨#[]⟩, .slice none 0 0, .int .i64 0]) := HT.out.a
            have HB : Hid (Below w.heap.size w w1) := HT.out.bel
            have HLA : Hid (w.heap.size ≤ ga) := HT.out.la
            have d6 : w1.cell? ⟨gf, 6, none⟩ = some (.slice a fl.length c) := HT.out.f.cell 6
            clear HO1 HT CM hD
            obtain rfl : X = (frm0, 190) := by rw [HX0.out, if_pos (.inr (.inl hl))]
            clear HX0
            go_wp2_with (with_reducible refine wpList_storeBlk rfl 39 _ _ rfl ga #[.int .i64 0, .int .i64 0, .int .i64 0, .int .i64 0, .int .i64 0, .string ⟨#[]⟩, .slice none 0 0, .int .i64 0] #[.int .i64 0, .int .i64 0, .int .i64 0, .int .i64 0, .int .i64 0, .string ⟨#[]⟩, .slice none 0 0, .int .i64 0] (by with_unfolding_all rfl) (by with_unfolding_all rfl) HZ.out rfl (by kernel_rfl) (by kernel_rfl) ?_)
            exact bodyPost_rowTmp rfl ga _ _ rfl rfl rfl (HZ.out.setRow _) _ Try.underlying39 rfl (by kernel_rfl) ⟨none, 0, rfl, Nat.le_refl _, by decide, ⟨rfl, .inl rfl⟩, below_setRow HB.out HLA.out _⟩
        · have tD : (Dn != 0) = true := by simp [hD]
          have HZ : Hid (Blk w1 39 ga #[.int .i64 0, .int .i64 0, .int .i64 0, .int .i64 0, .int .i64 0, .string ⟨#[]⟩, .slice none 0 0, .int .i64 0]) := HT.out.a
          have HB : Hid (Below w.heap.size w w1) := HT.out.bel
          have HLA : Hid (w.heap.size ≤ ga) := HT.out.la
          clear HO1 HT CM
          obtain rfl : X = (frm0, 190) := by rw [HX0.out, if_pos (.inl hD)]
          clear HX0
          go_wp2_with (with_reducible refine wpList_storeBlk rfl 39 _ _ rfl ga #[.int .i64 0, .int .i64 0, .int .i64 0, .int .i64 0, .int .i64 0, .string ⟨#[]⟩, .slice none 0 0, .int .i64 0] #[.int .i64 0, .int .i64 0, .int .i64 0, .int .i64 0, .int .i64 0, .string ⟨#[]⟩, .slice none 0 0, .int .i64 0] (by with_unfolding_all rfl) (by with_unfolding_all rfl) HZ.out rfl (by kernel_rfl) (by kernel_rfl) ?_)
          exact bodyPost_rowTmp rfl ga _ _ rfl rfl rfl (HZ.out.setRow _) _ Try.underlying39 rfl (by kernel_rfl) ⟨none, 0, rfl, Nat.le_refl _, by decide, ⟨rfl, .inl rfl⟩, below_setRow HB.out HLA.out _⟩

end Go.Proofs.Ytkmdajenbidaaaa
