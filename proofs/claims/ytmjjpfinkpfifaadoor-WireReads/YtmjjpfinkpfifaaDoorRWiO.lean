/- Layer 19, the document's: TakeRecord. -/
import Derived.Test.YtmjjpfinkpfifaaDoorRWiK
import Derived.Test.YtmjjpfinkpfifaaDoorRWiM
namespace Go.Proofs.YtmjjpfinkpfifaaDoor
open Go.RowKit
set_option maxRecDepth 100000
set_option linter.unusedSimpArgs false
set_option linter.unusedVariables false
set_option maxRecDepth 100000


set_option maxHeartbeats 16000000 in
theorem rtakeR_any (M : OpT → Bool) (hM : ∀ o, M o = true ↔ MayO o) (s : ByteArray) (w : World) (hs : s.size ≤ 1048576) :
    Calls Tryd.prog 17 #[.string s] w (TakenR w (takeRP M s)) := by
  have z0 : (s, (0 : Int)).1.size ≤ 1048576 := hs
  obtain ⟨⟨⟨S1, c1⟩, X0⟩, e0⟩ : ∃ p, numberP (s, (0 : Int)) 1 = p := ⟨_, rfl⟩
  obtain ⟨K, hx0⟩ : ∃ x : Int, (X0 : Int) = x := ⟨_, rfl⟩
  have z1 : (S1, c1).1.size ≤ 1048576 := Nat.le_trans (by have h := numberP_size (s, (0 : Int)) 1; rw [e0] at h; exact h) z0
  have C0' : ∀ W, _ := fun W => rinByte_any (s, (0 : Int)) W z0
  rw [e0] at C0'
  simp only [hx0] at C0'
  simp only [inV] at C0'
  have C0 : Hid (∀ W, _) := C0'
  obtain ⟨⟨⟨S2, c2⟩, X1⟩, e1⟩ : ∃ p, numberP (S1, c1) 1 = p := ⟨_, rfl⟩
  obtain ⟨F, hx1⟩ : ∃ x : Int, (X1 : Int) = x := ⟨_, rfl⟩
  have z2 : (S2, c2).1.size ≤ 1048576 := Nat.le_trans (by have h := numberP_size (S1, c1) 1; rw [e1] at h; exact h) z1
  have C1' : ∀ W, _ := fun W => rinByte_any (S1, c1) W z1
  rw [e1] at C1'
  simp only [hx1] at C1'
  simp only [inV] at C1'
  have C1 : Hid (∀ W, _) := C1'
  obtain ⟨⟨⟨S3, c3⟩, X2⟩, e2⟩ : ∃ p, inNumP (S2, c2) = p := ⟨_, rfl⟩
  obtain ⟨C, hx2⟩ : ∃ x : Int, (X2 : Int) = x := ⟨_, rfl⟩
  have z3 : (S3, c3).1.size ≤ 1048576 := Nat.le_trans (by have h := inNumP_size (S2, c2); rw [e2] at h; exact h) z2
  have C2' : ∀ W, _ := fun W => rinNum_any (S2, c2) W z2
  rw [e2] at C2'
  simp only [hx2] at C2'
  simp only [inV] at C2'
  have C2 : Hid (∀ W, _) := C2'
  obtain ⟨⟨⟨S4, c4⟩, X3⟩, e3⟩ : ∃ p, inNumP (S3, c3) = p := ⟨_, rfl⟩
  obtain ⟨S, hx3⟩ : ∃ x : Int, (X3 : Int) = x := ⟨_, rfl⟩
  have z4 : (S4, c4).1.size ≤ 1048576 := Nat.le_trans (by have h := inNumP_size (S3, c3); rw [e3] at h; exact h) z3
  have C3' : ∀ W, _ := fun W => rinNum_any (S3, c3) W z3
  rw [e3] at C3'
  simp only [hx3] at C3'
  simp only [inV] at C3'
  have C3 : Hid (∀ W, _) := C3'
  obtain ⟨⟨⟨S5, c5⟩, H⟩, e4⟩ : ∃ p, inTextP (S4, c4) 32 = p := ⟨_, rfl⟩
  have z5 : (S5, c5).1.size ≤ 1048576 := Nat.le_trans (by have h := inTextP_size (S4, c4) 32; rw [e4] at h; exact h) z4
  have C4' : ∀ W, _ := fun W => rinText_any (S4, c4) 32 W z4
  rw [e4] at C4'
  simp only [inV] at C4'
  have C4 : Hid (∀ W, _) := C4'
  have y4 : H.size ≤ 1048576 := by have h := inTextP_res (S4, c4) 32; rw [e4] at h; exact h
  obtain ⟨⟨⟨S6, c6⟩, b⟩, e5⟩ : ∃ p, inTextP (S5, c5) 4096 = p := ⟨_, rfl⟩
  have z6 : (S6, c6).1.size ≤ 1048576 := Nat.le_trans (by have h := inTextP_size (S5, c5) 4096; rw [e5] at h; exact h) z5
  have C5' : ∀ W, _ := fun W => rinText_any (S5, c5) 4096 W z5
  rw [e5] at C5'
  simp only [inV] at C5'
  have C5 : Hid (∀ W, _) := C5'
  have y5 : b.size ≤ 1048576 := by have h := inTextP_res (S5, c5) 4096; rw [e5] at h; exact h
  obtain ⟨⟨⟨S7, c7⟩, X6⟩, e6⟩ : ∃ p, numberP (S6, c6) 1 = p := ⟨_, rfl⟩
  obtain ⟨q, hx6⟩ : ∃ x : Int, (X6 : Int) = x := ⟨_, rfl⟩
  have z7 : (S7, c7).1.size ≤ 1048576 := Nat.le_trans (by have h := numberP_size (S6, c6) 1; rw [e6] at h; exact h) z6
  have C6' : ∀ W, _ := fun W => rinByte_any (S6, c6) W z6
  rw [e6] at C6'
  simp only [hx6] at C6'
  simp only [inV] at C6'
  have C6 : Hid (∀ W, _) := C6'
  obtain ⟨⟨⟨S8, c8⟩, N⟩, e7⟩ : ∃ p, numberP (S7, c7) 1 = p := ⟨_, rfl⟩
  have z8 : (S8, c8).1.size ≤ 1048576 := Nat.le_trans (by have h := numberP_size (S7, c7) 1; rw [e7] at h; exact h) z7
  have C7' : ∀ W, _ := fun W => rinByte_any (S7, c7) W z7
  rw [e7] at C7'
  simp only [inV] at C7'
  have C7 : Hid (∀ W, _) := C7'
  have hzl : ∀ n i k, (wrL (readLW readWrP n i).2 k).2.size ≤ 9223372036854775807 := fun n i k => by
    by_cases hk : k < (readLW readWrP n i).2.length
    · rw [wrL_get _ k hk]
      exact readLW_all readWrP (fun x => x.2.size ≤ 9223372036854775807) (fun j => Nat.le_trans (inTextP_res _ _) (by decide)) n i _ (List.getElem_mem hk)
    · unfold wrL
      rw [List.getD_eq_getElem?_getD, List.getElem?_eq_none (by omega)]
      exact Nat.zero_le _
  have hll := readLW_len readWrP (min N 7) (S8, c8)
  have hzf := hzl (min N 7) (S8, c8)
  obtain ⟨⟨fi, fl⟩, hfl⟩ : ∃ p, readLW readWrP (min N 7) (S8, c8) = p := ⟨_, rfl⟩
  have HFL : Hid (readLW readWrP (min N 7) (S8, c8) = (fi, fl)) := hfl
  have hr : readRP (s, 0) = (N, fi, b, (K, F, C, S, H, op0, q, fl)) := by
    unfold readRP readRh
    simp only [e0, e1, e2, e3, e4, e5, e6, e7, hfl, hx0, hx1, hx2, hx3, hx6]
  rw [hfl] at hll hzf
  obtain ⟨Dn, hDn⟩ : ∃ Dn, inDoneP fi = Dn := ⟨_, rfl⟩
  have CD' : ∀ W, _ := fun W => rinDone_any fi W
  rw [hDn] at CD'
  simp only [inV] at CD'
  have CD : Hid (∀ W, _) := CD'
  have CT' : ∀ W, _ := fun W => rtakeL_any M hM b W y5
  have hoz : (takeOpP M b).1.2.2.2.2.1.size ≤ 1048576 ∧ (takeOpP M b).1.2.2.2.2.2.size ≤ 9223372036854775807 := by
    unfold takeOpP
    split
    · exact ⟨by decide, by decide⟩
    · exact readOpP_sizes _
  obtain ⟨⟨op, oe⟩, hop⟩ : ∃ p, takeOpP M b = p := ⟨_, rfl⟩
  rw [hop] at CT' hoz
  have hN : N < 256 := by have h := number1_lt (S7, c7); rw [e7] at h; exact h
  have CM' : ∀ (o : OpT), o.2.2.2.2.1.size ≤ 1048576 → o.2.2.2.2.2.size ≤ 9223372036854775807 → ∀ (a : Option Addr) (c : Nat) (W : World), WrAt W a fl.length fl → _ := fun o ho1 ho2 a c W hI => rmayR_any M hM (K, F, C, S, H, o, q, fl) a c W ho1 ho2 hI hzf (by show fl.length ≤ _; have h1 : fl.length = min N 7 := hll; omega) (Nat.le_trans y4 (by decide))
  have HX0 : Hid (takeRP M s = if ¬ b.size = 0 ∧ ¬ oe = 0 then (rec0, 190) else if Dn ≠ 0 ∨ fl.length ≠ N ∨ mayRb M (K, F, C, S, H, (if b.size = 0 then op0 else op), q, fl) = false ∨ ¬ (¬ b.size = 0 ↔ K = 1) then (rec0, 190) else ((K, F, C, S, H, (if b.size = 0 then op0 else op), q, fl), 0)) := by
    show _ = _
    unfold takeRP withOp
    rw [hr]
    simp only [hDn, hop]
  obtain ⟨X, hX⟩ : ∃ X, takeRP M s = X := ⟨_, rfl⟩
  rw [hX] at HX0 ⊢
  obtain ⟨i0, hi, hzi0, hzi1, hzi2⟩ := info_parts Tryd.infoW19
  have CM0 : Hid (∀ (a : Option Addr) (c : Nat) (W : World), WrAt W a fl.length fl → _) := CM' op0 (by decide) (by decide)
  have CM1 : Hid (∀ (a : Option Addr) (c : Nat) (W : World), WrAt W a fl.length fl → _) := CM' op hoz.1 hoz.2
  obtain ⟨k0, ⟨k1, k2⟩, ⟨k3, k4⟩, ⟨k5, k6⟩, s7, s8⟩ := op
  simp only [opA] at CT'
  have CT : Hid (∀ W, _) := CT'
  have HBz : Hid (b.size ≤ 1048576) := y5
  clear hr e0 e1 e2 e3 e4 e5 e6 e7 hx0 hx1 hx2 hx3 hx6 C0' C1' C2' C3' C4' C5' C6' C7' CD' CT' CM' hDn hX hzl hll hzf hfl hoz hop y4 y5 z0 z1 z2 z3 z4 z5 z6 z7
  have XF : Blk ((w.alloc (.cells #[.int .i64 0, .int .i64 0, .int .i64 0, .int .i64 0, .string ⟨#[]⟩, .int .i64 0, .int .i64 0, .int .i64 0, .int .i64 0, .int .i64 0, .int .i64 0, .int .i64 0, .string ⟨#[]⟩, .string ⟨#[]⟩, .int .i64 0, .slice none 0 0] 28)).alloc (.cells #[.int .i64 0, .int .i64 0, .int .i64 0, .int .i64 0, .string ⟨#[]⟩, .int .i64 0, .int .i64 0, .int .i64 0, .int .i64 0, .int .i64 0, .int .i64 0, .int .i64 0, .string ⟨#[]⟩, .string ⟨#[]⟩, .int .i64 0, .slice none 0 0] 28)) 28 (w.heap.size + 1) #[.int .i64 0, .int .i64 0, .int .i64 0, .int .i64 0, .string ⟨#[]⟩, .int .i64 0, .int .i64 0, .int .i64 0, .int .i64 0, .int .i64 0, .int .i64 0, .int .i64 0, .string ⟨#[]⟩, .string ⟨#[]⟩, .int .i64 0, .slice none 0 0] := Blk.new' _ _ _ _ (by rw [World.size_alloc])
  have hA1 : Blk (((w.alloc (.cells #[.int .i64 0, .int .i64 0, .int .i64 0, .int .i64 0, .string ⟨#[]⟩, .int .i64 0, .int .i64 0, .int .i64 0, .int .i64 0, .int .i64 0, .int .i64 0, .int .i64 0, .string ⟨#[]⟩, .string ⟨#[]⟩, .int .i64 0, .slice none 0 0] 28)).alloc (.cells #[.int .i64 0, .int .i64 0, .int .i64 0, .int .i64 0, .string ⟨#[]⟩, .int .i64 0, .int .i64 0, .int .i64 0, .int .i64 0, .int .i64 0, .int .i64 0, .int .i64 0, .string ⟨#[]⟩, .string ⟨#[]⟩, .int .i64 0, .slice none 0 0] 28)).setRow (w.heap.size + 1) #[.int .i64 0, .int .i64 0, .int .i64 0, .int .i64 0, .string ⟨#[]⟩, .int .i64 0, .int .i64 0, .int .i64 0, .int .i64 0, .int .i64 0, .int .i64 0, .int .i64 0, .string ⟨#[]⟩, .string ⟨#[]⟩, .int .i64 0, .slice none 0 0]) 28 w.heap.size #[.int .i64 0, .int .i64 0, .int .i64 0, .int .i64 0, .string ⟨#[]⟩, .int .i64 0, .int .i64 0, .int .i64 0, .int .i64 0, .int .i64 0, .int .i64 0, .int .i64 0, .string ⟨#[]⟩, .string ⟨#[]⟩, .int .i64 0, .slice none 0 0] := ((Blk.new w _ _).on (below_new _ _)).setRowOther _ (by omega) _
  have hF1 : Blk (((w.alloc (.cells #[.int .i64 0, .int .i64 0, .int .i64 0, .int .i64 0, .string ⟨#[]⟩, .int .i64 0, .int .i64 0, .int .i64 0, .int .i64 0, .int .i64 0, .int .i64 0, .int .i64 0, .string ⟨#[]⟩, .string ⟨#[]⟩, .int .i64 0, .slice none 0 0] 28)).alloc (.cells #[.int .i64 0, .int .i64 0, .int .i64 0, .int .i64 0, .string ⟨#[]⟩, .int .i64 0, .int .i64 0, .int .i64 0, .int .i64 0, .int .i64 0, .int .i64 0, .int .i64 0, .string ⟨#[]⟩, .string ⟨#[]⟩, .int .i64 0, .slice none 0 0] 28)).setRow (w.heap.size + 1) #[.int .i64 0, .int .i64 0, .int .i64 0, .int .i64 0, .string ⟨#[]⟩, .int .i64 0, .int .i64 0, .int .i64 0, .int .i64 0, .int .i64 0, .int .i64 0, .int .i64 0, .string ⟨#[]⟩, .string ⟨#[]⟩, .int .i64 0, .slice none 0 0]) 28 (w.heap.size + 1) #[.int .i64 0, .int .i64 0, .int .i64 0, .int .i64 0, .string ⟨#[]⟩, .int .i64 0, .int .i64 0, .int .i64 0, .int .i64 0, .int .i64 0, .int .i64 0, .int .i64 0, .string ⟨#[]⟩, .string ⟨#[]⟩, .int .i64 0, .slice none 0 0] := XF.setRow _
  have hB1 : Below w.heap.size w (((w.alloc (.cells #[.int .i64 0, .int .i64 0, .int .i64 0, .int .i64 0, .string ⟨#[]⟩, .int .i64 0, .int .i64 0, .int .i64 0, .int .i64 0, .int .i64 0, .int .i64 0, .int .i64 0, .string ⟨#[]⟩, .string ⟨#[]⟩, .int .i64 0, .slice none 0 0] 28)).alloc (.cells #[.int .i64 0, .int .i64 0, .int .i64 0, .int .i64 0, .string ⟨#[]⟩, .int .i64 0, .int .i64 0, .int .i64 0, .int .i64 0, .int .i64 0, .int .i64 0, .int .i64 0, .string ⟨#[]⟩, .string ⟨#[]⟩, .int .i64 0, .slice none 0 0] 28)).setRow (w.heap.size + 1) #[.int .i64 0, .int .i64 0, .int .i64 0, .int .i64 0, .string ⟨#[]⟩, .int .i64 0, .int .i64 0, .int .i64 0, .int .i64 0, .int .i64 0, .int .i64 0, .int .i64 0, .string ⟨#[]⟩, .string ⟨#[]⟩, .int .i64 0, .slice none 0 0]) := below_setRow ((below_new _ _).alloc (by rw [World.size_alloc]; omega) _) (by omega) _
  obtain ⟨W1, hW1⟩ : ∃ W1, ((w.alloc (.cells #[.int .i64 0, .int .i64 0, .int .i64 0, .int .i64 0, .string ⟨#[]⟩, .int .i64 0, .int .i64 0, .int .i64 0, .int .i64 0, .int .i64 0, .int .i64 0, .int .i64 0, .string ⟨#[]⟩, .string ⟨#[]⟩, .int .i64 0, .slice none 0 0] 28)).alloc (.cells #[.int .i64 0, .int .i64 0, .int .i64 0, .int .i64 0, .string ⟨#[]⟩, .int .i64 0, .int .i64 0, .int .i64 0, .int .i64 0, .int .i64 0, .int .i64 0, .int .i64 0, .string ⟨#[]⟩, .string ⟨#[]⟩, .int .i64 0, .slice none 0 0] 28)).setRow (w.heap.size + 1) #[.int .i64 0, .int .i64 0, .int .i64 0, .int .i64 0, .string ⟨#[]⟩, .int .i64 0, .int .i64 0, .int .i64 0, .int .i64 0, .int .i64 0, .int .i64 0, .int .i64 0, .string ⟨#[]⟩, .string ⟨#[]⟩, .int .i64 0, .slice none 0 0] = W1 := ⟨_, rfl⟩
  rw [hW1] at hA1 hF1 hB1
  have HA1 : Hid (Blk W1 28 w.heap.size #[.int .i64 0, .int .i64 0, .int .i64 0, .int .i64 0, .string ⟨#[]⟩, .int .i64 0, .int .i64 0, .int .i64 0, .int .i64 0, .int .i64 0, .int .i64 0, .int .i64 0, .string ⟨#[]⟩, .string ⟨#[]⟩, .int .i64 0, .slice none 0 0]) := hA1
  have HF1 : Hid (Blk W1 28 (w.heap.size + 1) #[.int .i64 0, .int .i64 0, .int .i64 0, .int .i64 0, .string ⟨#[]⟩, .int .i64 0, .int .i64 0, .int .i64 0, .int .i64 0, .int .i64 0, .int .i64 0, .int .i64 0, .string ⟨#[]⟩, .string ⟨#[]⟩, .int .i64 0, .slice none 0 0]) := hF1
  have HB1 : Hid (Below w.heap.size w W1) := hB1
  clear hA1 hF1 hB1
  go_enter Tryd.func17, Tryd.ntmps17
  go_wp2_with (with_reducible refine wpList_storeBlk rfl 28 _ _ rfl (w.heap.size + 1) #[.int .i64 0, .int .i64 0, .int .i64 0, .int .i64 0, .string ⟨#[]⟩, .int .i64 0, .int .i64 0, .int .i64 0, .int .i64 0, .int .i64 0, .int .i64 0, .int .i64 0, .string ⟨#[]⟩, .string ⟨#[]⟩, .int .i64 0, .slice none 0 0] #[.int .i64 0, .int .i64 0, .int .i64 0, .int .i64 0, .string ⟨#[]⟩, .int .i64 0, .int .i64 0, .int .i64 0, .int .i64 0, .int .i64 0, .int .i64 0, .int .i64 0, .string ⟨#[]⟩, .string ⟨#[]⟩, .int .i64 0, .slice none 0 0] (by with_unfolding_all rfl) (by with_unfolding_all rfl) XF rfl (by kernel_rfl) (by kernel_rfl) ?_)
  try rw [hW1]
  obtain ⟨gf, hgf⟩ : ∃ gf, w.heap.size + 1 = gf := ⟨_, rfl⟩
  obtain ⟨ga, hga⟩ : ∃ ga, w.heap.size = ga := ⟨_, rfl⟩
  rw [hgf] at HF1
  rw [hga] at HA1
  have HG : Hid (w.heap.size ≤ ga ∧ ga < gf) := by show _ ∧ _; omega
  try rw [hgf]
  try rw [hga]
  clear hW1 hgf hga XF
  refine (C0.out W1).mono ?_
  rintro e U0 ⟨rfl, hb⟩
  have HA2 : Hid (Blk U0 28 ga #[.int .i64 0, .int .i64 0, .int .i64 0, .int .i64 0, .string ⟨#[]⟩, .int .i64 0, .int .i64 0, .int .i64 0, .int .i64 0, .int .i64 0, .int .i64 0, .int .i64 0, .string ⟨#[]⟩, .string ⟨#[]⟩, .int .i64 0, .slice none 0 0]) := HA1.out.on hb
  have HF2 : Hid (Blk U0 28 gf #[.int .i64 0, .int .i64 0, .int .i64 0, .int .i64 0, .string ⟨#[]⟩, .int .i64 0, .int .i64 0, .int .i64 0, .int .i64 0, .int .i64 0, .int .i64 0, .int .i64 0, .string ⟨#[]⟩, .string ⟨#[]⟩, .int .i64 0, .slice none 0 0]) := HF1.out.on hb
  have HB2 : Hid (Below w.heap.size w U0) := below_step HB1.out (Nat.le_refl _) hb
  clear hb HA1 HF1 HB1 C0
  have XI : Blk (U0.alloc (.cells #[.string ⟨#[]⟩, .int .i64 0] 83)) 83 U0.heap.size #[.string ⟨#[]⟩, .int .i64 0] := Blk.new _ _ _
  have HS0 : Hid (RfS 28 #[.int .i64 0, .int .i64 0, .int .i64 0, .int .i64 0, .string ⟨#[]⟩, .int .i64 0, .int .i64 0, .int .i64 0, .int .i64 0, .int .i64 0, .int .i64 0, .int .i64 0, .string ⟨#[]⟩, .string ⟨#[]⟩, .int .i64 0, .slice none 0 0] w ga gf U0.heap.size #[.int .i64 0, .int .i64 0, .int .i64 0, .int .i64 0, .string ⟨#[]⟩, .int .i64 0, .int .i64 0, .int .i64 0, .int .i64 0, .int .i64 0, .int .i64 0, .int .i64 0, .string ⟨#[]⟩, .string ⟨#[]⟩, .int .i64 0, .slice none 0 0] (S1, c1) ((U0.alloc (.cells #[.string ⟨#[]⟩, .int .i64 0] 83)).setRow U0.heap.size #[.string S1, .int .i64 c1])) := by
    have h1 := HG.out
    have h2 := HF2.out.lt
    exact ⟨(HA2.out.on (below_new _ _)).setRowOther _ (by omega) _, (HF2.out.on (below_new _ _)).setRowOther _ (by omega) _, XI.setRow _, below_setRow (HB2.out.alloc HB2.out.size _) HB2.out.size _, h1.1, h1.2, h2⟩
  have v0 : ((U0.alloc (.cells #[.string ⟨#[]⟩, .int .i64 0] 83)).setRow U0.heap.size #[.string S1, .int .i64 c1]).cell? ⟨gf, 0, none⟩ = some _ := HS0.out.f.cell 0
  have u0 : ((U0.alloc (.cells #[.string ⟨#[]⟩, .int .i64 0] 83)).setRow U0.heap.size #[.string S1, .int .i64 c1]).frozen? ⟨gf, 0, none⟩ = false := HS0.out.f.free 0
  have HS : Hid (RfS 28 #[.int .i64 0, .int .i64 0, .int .i64 0, .int .i64 0, .string ⟨#[]⟩, .int .i64 0, .int .i64 0, .int .i64 0, .int .i64 0, .int .i64 0, .int .i64 0, .int .i64 0, .string ⟨#[]⟩, .string ⟨#[]⟩, .int .i64 0, .slice none 0 0] w ga gf U0.heap.size #[.int .i64 K, .int .i64 0, .int .i64 0, .int .i64 0, .string ⟨#[]⟩, .int .i64 0, .int .i64 0, .int .i64 0, .int .i64 0, .int .i64 0, .int .i64 0, .int .i64 0, .string ⟨#[]⟩, .string ⟨#[]⟩, .int .i64 0, .slice none 0 0] (S1, c1) (((U0.alloc (.cells #[.string ⟨#[]⟩, .int .i64 0] 83)).setRow U0.heap.size #[.string S1, .int .i64 c1]).setCell ⟨gf, 0, none⟩ (.int .i64 K))) := HS0.out.setF 0 (.int .i64 K)
  obtain ⟨V1, hV1⟩ : ∃ W, ((U0.alloc (.cells #[.string ⟨#[]⟩, .int .i64 0] 83)).setRow U0.heap.size #[.string S1, .int .i64 c1]).setCell ⟨gf, 0, none⟩ (.int .i64 K) = W := ⟨_, rfl⟩
  rw [hV1] at HS
  have q0 : V1.cell? ⟨U0.heap.size, 0, none⟩ = some (.string S1) := HS.out.i.cell 0
  have q1 : V1.cell? ⟨U0.heap.size, 1, none⟩ = some (.int .i64 c1) := HS.out.i.cell 1
  clear HA2 HF2 HB2 HS0 HG
  go_wp2_with (with_reducible refine wpList_storeBlk rfl 83 _ _ rfl U0.heap.size #[.string ⟨#[]⟩, .int .i64 0] #[.string S1, .int .i64 c1] (by with_unfolding_all rfl) (by with_unfolding_all rfl) XI rfl (by kernel_rfl) (by kernel_rfl) ?_)
  try rw [hV1]
  obtain ⟨gi, hgi⟩ : ∃ gi, U0.heap.size = gi := ⟨_, rfl⟩
  rw [hgi] at HS
  try rw [hgi]
  clear hV1 hgi XI v0 u0 q0 q1
  refine (C1.out V1).mono ?_
  rintro e U1 ⟨rfl, hb⟩
  have HU : Hid (RfS 28 #[.int .i64 0, .int .i64 0, .int .i64 0, .int .i64 0, .string ⟨#[]⟩, .int .i64 0, .int .i64 0, .int .i64 0, .int .i64 0, .int .i64 0, .int .i64 0, .int .i64 0, .string ⟨#[]⟩, .string ⟨#[]⟩, .int .i64 0, .slice none 0 0] w ga gf gi #[.int .i64 K, .int .i64 0, .int .i64 0, .int .i64 0, .string ⟨#[]⟩, .int .i64 0, .int .i64 0, .int .i64 0, .int .i64 0, .int .i64 0, .int .i64 0, .int .i64 0, .string ⟨#[]⟩, .string ⟨#[]⟩, .int .i64 0, .slice none 0 0] (S1, c1) U1) := HS.out.on hb
  have X1 := HU.out.i
  clear hb HS C1
  have HV : Hid (RfS 28 #[.int .i64 0, .int .i64 0, .int .i64 0, .int .i64 0, .string ⟨#[]⟩, .int .i64 0, .int .i64 0, .int .i64 0, .int .i64 0, .int .i64 0, .int .i64 0, .int .i64 0, .string ⟨#[]⟩, .string ⟨#[]⟩, .int .i64 0, .slice none 0 0] w ga gf gi #[.int .i64 K, .int .i64 0, .int .i64 0, .int .i64 0, .string ⟨#[]⟩, .int .i64 0, .int .i64 0, .int .i64 0, .int .i64 0, .int .i64 0, .int .i64 0, .int .i64 0, .string ⟨#[]⟩, .string ⟨#[]⟩, .int .i64 0, .slice none 0 0] (S2, c2) (U1.setRow gi #[.string S2, .int .i64 c2])) := HU.out.setI (S2, c2)
  have v0 : (U1.setRow gi #[.string S2, .int .i64 c2]).cell? ⟨gf, 1, none⟩ = some _ := HV.out.f.cell 1
  have u0 : (U1.setRow gi #[.string S2, .int .i64 c2]).frozen? ⟨gf, 1, none⟩ = false := HV.out.f.free 1
  have HS : Hid (RfS 28 #[.int .i64 0, .int .i64 0, .int .i64 0, .int .i64 0, .string ⟨#[]⟩, .int .i64 0, .int .i64 0, .int .i64 0, .int .i64 0, .int .i64 0, .int .i64 0, .int .i64 0, .string ⟨#[]⟩, .string ⟨#[]⟩, .int .i64 0, .slice none 0 0] w ga gf gi #[.int .i64 K, .int .i64 F, .int .i64 0, .int .i64 0, .string ⟨#[]⟩, .int .i64 0, .int .i64 0, .int .i64 0, .int .i64 0, .int .i64 0, .int .i64 0, .int .i64 0, .string ⟨#[]⟩, .string ⟨#[]⟩, .int .i64 0, .slice none 0 0] (S2, c2) ((U1.setRow gi #[.string S2, .int .i64 c2]).setCell ⟨gf, 1, none⟩ (.int .i64 F))) := HV.out.setF 1 (.int .i64 F)
  obtain ⟨V2, hV⟩ : ∃ W, (U1.setRow gi #[.string S2, .int .i64 c2]).setCell ⟨gf, 1, none⟩ (.int .i64 F) = W := ⟨_, rfl⟩
  clear HV
  rw [hV] at HS
  have q0 : V2.cell? ⟨gi, 0, none⟩ = some (.string S2) := HS.out.i.cell 0
  have q1 : V2.cell? ⟨gi, 1, none⟩ = some (.int .i64 c2) := HS.out.i.cell 1
  go_wp2_with (with_reducible refine wpList_storeBlk rfl 83 _ _ rfl gi #[.string S1, .int .i64 c1] #[.string S2, .int .i64 c2] (by with_unfolding_all rfl) (by with_unfolding_all rfl) X1 rfl (by kernel_rfl) (by kernel_rfl) ?_)
  try rw [hV]
  clear hV X1 HU v0 u0 q0 q1
  refine (C2.out V2).mono ?_
  rintro e U2 ⟨rfl, hb⟩
  have HU : Hid (RfS 28 #[.int .i64 0, .int .i64 0, .int .i64 0, .int .i64 0, .string ⟨#[]⟩, .int .i64 0, .int .i64 0, .int .i64 0, .int .i64 0, .int .i64 0, .int .i64 0, .int .i64 0, .string ⟨#[]⟩, .string ⟨#[]⟩, .int .i64 0, .slice none 0 0] w ga gf gi #[.int .i64 K, .int .i64 F, .int .i64 0, .int .i64 0, .string ⟨#[]⟩, .int .i64 0, .int .i64 0, .int .i64 0, .int .i64 0, .int .i64 0, .int .i64 0, .int .i64 0, .string ⟨#[]⟩, .string ⟨#[]⟩, .int .i64 0, .slice none 0 0] (S2, c2) U2) := HS.out.on hb
  have X1 := HU.out.i
  clear hb HS C2
  have HV : Hid (RfS 28 #[.int .i64 0, .int .i64 0, .int .i64 0, .int .i64 0, .string ⟨#[]⟩, .int .i64 0, .int .i64 0, .int .i64 0, .int .i64 0, .int .i64 0, .int .i64 0, .int .i64 0, .string ⟨#[]⟩, .string ⟨#[]⟩, .int .i64 0, .slice none 0 0] w ga gf gi #[.int .i64 K, .int .i64 F, .int .i64 0, .int .i64 0, .string ⟨#[]⟩, .int .i64 0, .int .i64 0, .int .i64 0, .int .i64 0, .int .i64 0, .int .i64 0, .int .i64 0, .string ⟨#[]⟩, .string ⟨#[]⟩, .int .i64 0, .slice none 0 0] (S3, c3) (U2.setRow gi #[.string S3, .int .i64 c3])) := HU.out.setI (S3, c3)
  have v0 : (U2.setRow gi #[.string S3, .int .i64 c3]).cell? ⟨gf, 2, none⟩ = some _ := HV.out.f.cell 2
  have u0 : (U2.setRow gi #[.string S3, .int .i64 c3]).frozen? ⟨gf, 2, none⟩ = false := HV.out.f.free 2
  have HS : Hid (RfS 28 #[.int .i64 0, .int .i64 0, .int .i64 0, .int .i64 0, .string ⟨#[]⟩, .int .i64 0, .int .i64 0, .int .i64 0, .int .i64 0, .int .i64 0, .int .i64 0, .int .i64 0, .string ⟨#[]⟩, .string ⟨#[]⟩, .int .i64 0, .slice none 0 0] w ga gf gi #[.int .i64 K, .int .i64 F, .int .i64 C, .int .i64 0, .string ⟨#[]⟩, .int .i64 0, .int .i64 0, .int .i64 0, .int .i64 0, .int .i64 0, .int .i64 0, .int .i64 0, .string ⟨#[]⟩, .string ⟨#[]⟩, .int .i64 0, .slice none 0 0] (S3, c3) ((U2.setRow gi #[.string S3, .int .i64 c3]).setCell ⟨gf, 2, none⟩ (.int .i64 C))) := HV.out.setF 2 (.int .i64 C)
  obtain ⟨V3, hV⟩ : ∃ W, (U2.setRow gi #[.string S3, .int .i64 c3]).setCell ⟨gf, 2, none⟩ (.int .i64 C) = W := ⟨_, rfl⟩
  clear HV
  rw [hV] at HS
  have q0 : V3.cell? ⟨gi, 0, none⟩ = some (.string S3) := HS.out.i.cell 0
  have q1 : V3.cell? ⟨gi, 1, none⟩ = some (.int .i64 c3) := HS.out.i.cell 1
  go_wp2_with (with_reducible refine wpList_storeBlk rfl 83 _ _ rfl gi #[.string S2, .int .i64 c2] #[.string S3, .int .i64 c3] (by with_unfolding_all rfl) (by with_unfolding_all rfl) X1 rfl (by kernel_rfl) (by kernel_rfl) ?_)
  try rw [hV]
  clear hV X1 HU v0 u0 q0 q1
  refine (C3.out V3).mono ?_
  rintro e U3 ⟨rfl, hb⟩
  have HU : Hid (RfS 28 #[.int .i64 0, .int .i64 0, .int .i64 0, .int .i64 0, .string ⟨#[]⟩, .int .i64 0, .int .i64 0, .int .i64 0, .int .i64 0, .int .i64 0, .int .i64 0, .int .i64 0, .string ⟨#[]⟩, .string ⟨#[]⟩, .int .i64 0, .slice none 0 0] w ga gf gi #[.int .i64 K, .int .i64 F, .int .i64 C, .int .i64 0, .string ⟨#[]⟩, .int .i64 0, .int .i64 0, .int .i64 0, .int .i64 0, .int .i64 0, .int .i64 0, .int .i64 0, .string ⟨#[]⟩, .string ⟨#[]⟩, .int .i64 0, .slice none 0 0] (S3, c3) U3) := HS.out.on hb
  have X1 := HU.out.i
  clear hb HS C3
  have HV : Hid (RfS 28 #[.int .i64 0, .int .i64 0, .int .i64 0, .int .i64 0, .string ⟨#[]⟩, .int .i64 0, .int .i64 0, .int .i64 0, .int .i64 0, .int .i64 0, .int .i64 0, .int .i64 0, .string ⟨#[]⟩, .string ⟨#[]⟩, .int .i64 0, .slice none 0 0] w ga gf gi #[.int .i64 K, .int .i64 F, .int .i64 C, .int .i64 0, .string ⟨#[]⟩, .int .i64 0, .int .i64 0, .int .i64 0, .int .i64 0, .int .i64 0, .int .i64 0, .int .i64 0, .string ⟨#[]⟩, .string ⟨#[]⟩, .int .i64 0, .slice none 0 0] (S4, c4) (U3.setRow gi #[.string S4, .int .i64 c4])) := HU.out.setI (S4, c4)
  have v0 : (U3.setRow gi #[.string S4, .int .i64 c4]).cell? ⟨gf, 3, none⟩ = some _ := HV.out.f.cell 3
  have u0 : (U3.setRow gi #[.string S4, .int .i64 c4]).frozen? ⟨gf, 3, none⟩ = false := HV.out.f.free 3
  have HS : Hid (RfS 28 #[.int .i64 0, .int .i64 0, .int .i64 0, .int .i64 0, .string ⟨#[]⟩, .int .i64 0, .int .i64 0, .int .i64 0, .int .i64 0, .int .i64 0, .int .i64 0, .int .i64 0, .string ⟨#[]⟩, .string ⟨#[]⟩, .int .i64 0, .slice none 0 0] w ga gf gi #[.int .i64 K, .int .i64 F, .int .i64 C, .int .i64 S, .string ⟨#[]⟩, .int .i64 0, .int .i64 0, .int .i64 0, .int .i64 0, .int .i64 0, .int .i64 0, .int .i64 0, .string ⟨#[]⟩, .string ⟨#[]⟩, .int .i64 0, .slice none 0 0] (S4, c4) ((U3.setRow gi #[.string S4, .int .i64 c4]).setCell ⟨gf, 3, none⟩ (.int .i64 S))) := HV.out.setF 3 (.int .i64 S)
  obtain ⟨V4, hV⟩ : ∃ W, (U3.setRow gi #[.string S4, .int .i64 c4]).setCell ⟨gf, 3, none⟩ (.int .i64 S) = W := ⟨_, rfl⟩
  clear HV
  rw [hV] at HS
  have q0 : V4.cell? ⟨gi, 0, none⟩ = some (.string S4) := HS.out.i.cell 0
  have q1 : V4.cell? ⟨gi, 1, none⟩ = some (.int .i64 c4) := HS.out.i.cell 1
  go_wp2_with (with_reducible refine wpList_storeBlk rfl 83 _ _ rfl gi #[.string S3, .int .i64 c3] #[.string S4, .int .i64 c4] (by with_unfolding_all rfl) (by with_unfolding_all rfl) X1 rfl (by kernel_rfl) (by kernel_rfl) ?_)
  try rw [hV]
  clear hV X1 HU v0 u0 q0 q1
  refine (C4.out V4).mono ?_
  rintro e U4 ⟨rfl, hb⟩
  have HU : Hid (RfS 28 #[.int .i64 0, .int .i64 0, .int .i64 0, .int .i64 0, .string ⟨#[]⟩, .int .i64 0, .int .i64 0, .int .i64 0, .int .i64 0, .int .i64 0, .int .i64 0, .int .i64 0, .string ⟨#[]⟩, .string ⟨#[]⟩, .int .i64 0, .slice none 0 0] w ga gf gi #[.int .i64 K, .int .i64 F, .int .i64 C, .int .i64 S, .string ⟨#[]⟩, .int .i64 0, .int .i64 0, .int .i64 0, .int .i64 0, .int .i64 0, .int .i64 0, .int .i64 0, .string ⟨#[]⟩, .string ⟨#[]⟩, .int .i64 0, .slice none 0 0] (S4, c4) U4) := HS.out.on hb
  have X1 := HU.out.i
  clear hb HS C4
  have HV : Hid (RfS 28 #[.int .i64 0, .int .i64 0, .int .i64 0, .int .i64 0, .string ⟨#[]⟩, .int .i64 0, .int .i64 0, .int .i64 0, .int .i64 0, .int .i64 0, .int .i64 0, .int .i64 0, .string ⟨#[]⟩, .string ⟨#[]⟩, .int .i64 0, .slice none 0 0] w ga gf gi #[.int .i64 K, .int .i64 F, .int .i64 C, .int .i64 S, .string ⟨#[]⟩, .int .i64 0, .int .i64 0, .int .i64 0, .int .i64 0, .int .i64 0, .int .i64 0, .int .i64 0, .string ⟨#[]⟩, .string ⟨#[]⟩, .int .i64 0, .slice none 0 0] (S5, c5) (U4.setRow gi #[.string S5, .int .i64 c5])) := HU.out.setI (S5, c5)
  have v0 : (U4.setRow gi #[.string S5, .int .i64 c5]).cell? ⟨gf, 4, none⟩ = some _ := HV.out.f.cell 4
  have u0 : (U4.setRow gi #[.string S5, .int .i64 c5]).frozen? ⟨gf, 4, none⟩ = false := HV.out.f.free 4
  have HS : Hid (RfS 28 #[.int .i64 0, .int .i64 0, .int .i64 0, .int .i64 0, .string ⟨#[]⟩, .int .i64 0, .int .i64 0, .int .i64 0, .int .i64 0, .int .i64 0, .int .i64 0, .int .i64 0, .string ⟨#[]⟩, .string ⟨#[]⟩, .int .i64 0, .slice none 0 0] w ga gf gi #[.int .i64 K, .int .i64 F, .int .i64 C, .int .i64 S, .string H, .int .i64 0, .int .i64 0, .int .i64 0, .int .i64 0, .int .i64 0, .int .i64 0, .int .i64 0, .string ⟨#[]⟩, .string ⟨#[]⟩, .int .i64 0, .slice none 0 0] (S5, c5) ((U4.setRow gi #[.string S5, .int .i64 c5]).setCell ⟨gf, 4, none⟩ (.string H))) := HV.out.setF 4 (.string H)
  obtain ⟨V5, hV⟩ : ∃ W, (U4.setRow gi #[.string S5, .int .i64 c5]).setCell ⟨gf, 4, none⟩ (.string H) = W := ⟨_, rfl⟩
  clear HV
  rw [hV] at HS
  have q0 : V5.cell? ⟨gi, 0, none⟩ = some (.string S5) := HS.out.i.cell 0
  have q1 : V5.cell? ⟨gi, 1, none⟩ = some (.int .i64 c5) := HS.out.i.cell 1
  go_wp2_with (with_reducible refine wpList_storeBlk rfl 83 _ _ rfl gi #[.string S4, .int .i64 c4] #[.string S5, .int .i64 c5] (by with_unfolding_all rfl) (by with_unfolding_all rfl) X1 rfl (by kernel_rfl) (by kernel_rfl) ?_)
  try rw [hV]
  clear hV X1 HU v0 u0 q0 q1
  refine (C5.out V5).mono ?_
  rintro e U5 ⟨rfl, hb⟩
  have HU : Hid (RfS 28 #[.int .i64 0, .int .i64 0, .int .i64 0, .int .i64 0, .string ⟨#[]⟩, .int .i64 0, .int .i64 0, .int .i64 0, .int .i64 0, .int .i64 0, .int .i64 0, .int .i64 0, .string ⟨#[]⟩, .string ⟨#[]⟩, .int .i64 0, .slice none 0 0] w ga gf gi #[.int .i64 K, .int .i64 F, .int .i64 C, .int .i64 S, .string H, .int .i64 0, .int .i64 0, .int .i64 0, .int .i64 0, .int .i64 0, .int .i64 0, .int .i64 0, .string ⟨#[]⟩, .string ⟨#[]⟩, .int .i64 0, .slice none 0 0] (S5, c5) U5) := HS.out.on hb
  have X1 := HU.out.i
  clear hb HS C5
  have HS : Hid (RfS 28 #[.int .i64 0, .int .i64 0, .int .i64 0, .int .i64 0, .string ⟨#[]⟩, .int .i64 0, .int .i64 0, .int .i64 0, .int .i64 0, .int .i64 0, .int .i64 0, .int .i64 0, .string ⟨#[]⟩, .string ⟨#[]⟩, .int .i64 0, .slice none 0 0] w ga gf gi #[.int .i64 K, .int .i64 F, .int .i64 C, .int .i64 S, .string H, .int .i64 0, .int .i64 0, .int .i64 0, .int .i64 0, .int .i64 0, .int .i64 0, .int .i64 0, .string ⟨#[]⟩, .string ⟨#[]⟩, .int .i64 0, .slice none 0 0] (S6, c6) (U5.setRow gi #[.string S6, .int .i64 c6])) := HU.out.setI (S6, c6)
  have v0 : True := trivial
  have u0 : True := trivial
  obtain ⟨V6, hV⟩ : ∃ W, (U5.setRow gi #[.string S6, .int .i64 c6]) = W := ⟨_, rfl⟩
  rw [hV] at HS
  have q0 : V6.cell? ⟨gi, 0, none⟩ = some (.string S6) := HS.out.i.cell 0
  have q1 : V6.cell? ⟨gi, 1, none⟩ = some (.int .i64 c6) := HS.out.i.cell 1
  go_wp2_with (with_reducible refine wpList_storeBlk rfl 83 _ _ rfl gi #[.string S5, .int .i64 c5] #[.string S6, .int .i64 c6] (by with_unfolding_all rfl) (by with_unfolding_all rfl) X1 rfl (by kernel_rfl) (by kernel_rfl) ?_)
  try rw [hV]
  clear hV X1 HU v0 u0 q0 q1
  refine (C6.out V6).mono ?_
  rintro e U6 ⟨rfl, hb⟩
  have HU : Hid (RfS 28 #[.int .i64 0, .int .i64 0, .int .i64 0, .int .i64 0, .string ⟨#[]⟩, .int .i64 0, .int .i64 0, .int .i64 0, .int .i64 0, .int .i64 0, .int .i64 0, .int .i64 0, .string ⟨#[]⟩, .string ⟨#[]⟩, .int .i64 0, .slice none 0 0] w ga gf gi #[.int .i64 K, .int .i64 F, .int .i64 C, .int .i64 S, .string H, .int .i64 0, .int .i64 0, .int .i64 0, .int .i64 0, .int .i64 0, .int .i64 0, .int .i64 0, .string ⟨#[]⟩, .string ⟨#[]⟩, .int .i64 0, .slice none 0 0] (S6, c6) U6) := HS.out.on hb
  have X1 := HU.out.i
  clear hb HS C6
  have HV : Hid (RfS 28 #[.int .i64 0, .int .i64 0, .int .i64 0, .int .i64 0, .string ⟨#[]⟩, .int .i64 0, .int .i64 0, .int .i64 0, .int .i64 0, .int .i64 0, .int .i64 0, .int .i64 0, .string ⟨#[]⟩, .string ⟨#[]⟩, .int .i64 0, .slice none 0 0] w ga gf gi #[.int .i64 K, .int .i64 F, .int .i64 C, .int .i64 S, .string H, .int .i64 0, .int .i64 0, .int .i64 0, .int .i64 0, .int .i64 0, .int .i64 0, .int .i64 0, .string ⟨#[]⟩, .string ⟨#[]⟩, .int .i64 0, .slice none 0 0] (S7, c7) (U6.setRow gi #[.string S7, .int .i64 c7])) := HU.out.setI (S7, c7)
  have v0 : (U6.setRow gi #[.string S7, .int .i64 c7]).cell? ⟨gf, 14, none⟩ = some _ := HV.out.f.cell 14
  have u0 : (U6.setRow gi #[.string S7, .int .i64 c7]).frozen? ⟨gf, 14, none⟩ = false := HV.out.f.free 14
  have HS : Hid (RfS 28 #[.int .i64 0, .int .i64 0, .int .i64 0, .int .i64 0, .string ⟨#[]⟩, .int .i64 0, .int .i64 0, .int .i64 0, .int .i64 0, .int .i64 0, .int .i64 0, .int .i64 0, .string ⟨#[]⟩, .string ⟨#[]⟩, .int .i64 0, .slice none 0 0] w ga gf gi #[.int .i64 K, .int .i64 F, .int .i64 C, .int .i64 S, .string H, .int .i64 0, .int .i64 0, .int .i64 0, .int .i64 0, .int .i64 0, .int .i64 0, .int .i64 0, .string ⟨#[]⟩, .string ⟨#[]⟩, .int .i64 q, .slice none 0 0] (S7, c7) ((U6.setRow gi #[.string S7, .int .i64 c7]).setCell ⟨gf, 14, none⟩ (.int .i64 q))) := HV.out.setF 14 (.int .i64 q)
  obtain ⟨V7, hV⟩ : ∃ W, (U6.setRow gi #[.string S7, .int .i64 c7]).setCell ⟨gf, 14, none⟩ (.int .i64 q) = W := ⟨_, rfl⟩
  clear HV
  rw [hV] at HS
  have q0 : V7.cell? ⟨gi, 0, none⟩ = some (.string S7) := HS.out.i.cell 0
  have q1 : V7.cell? ⟨gi, 1, none⟩ = some (.int .i64 c7) := HS.out.i.cell 1
  go_wp2_with (with_reducible refine wpList_storeBlk rfl 83 _ _ rfl gi #[.string S6, .int .i64 c6] #[.string S7, .int .i64 c7] (by with_unfolding_all rfl) (by with_unfolding_all rfl) X1 rfl (by kernel_rfl) (by kernel_rfl) ?_)
  try rw [hV]
  clear hV X1 HU v0 u0 q0 q1
  refine (C7.out V7).mono ?_
  rintro e U7 ⟨rfl, hb⟩
  have HU : Hid (RfS 28 #[.int .i64 0, .int .i64 0, .int .i64 0, .int .i64 0, .string ⟨#[]⟩, .int .i64 0, .int .i64 0, .int .i64 0, .int .i64 0, .int .i64 0, .int .i64 0, .int .i64 0, .string ⟨#[]⟩, .string ⟨#[]⟩, .int .i64 0, .slice none 0 0] w ga gf gi #[.int .i64 K, .int .i64 F, .int .i64 C, .int .i64 S, .string H, .int .i64 0, .int .i64 0, .int .i64 0, .int .i64 0, .int .i64 0, .int .i64 0, .int .i64 0, .string ⟨#[]⟩, .string ⟨#[]⟩, .int .i64 q, .slice none 0 0] (S7, c7) U7) := HS.out.on hb
  have X1 := HU.out.i
  clear hb HS C7
  have HS : Hid (RfS 28 #[.int .i64 0, .int .i64 0, .int .i64 0, .int .i64 0, .string ⟨#[]⟩, .int .i64 0, .int .i64 0, .int .i64 0, .int .i64 0, .int .i64 0, .int .i64 0, .int .i64 0, .string ⟨#[]⟩, .string ⟨#[]⟩, .int .i64 0, .slice none 0 0] w ga gf gi #[.int .i64 K, .int .i64 F, .int .i64 C, .int .i64 S, .string H, .int .i64 0, .int .i64 0, .int .i64 0, .int .i64 0, .int .i64 0, .int .i64 0, .int .i64 0, .string ⟨#[]⟩, .string ⟨#[]⟩, .int .i64 q, .slice none 0 0] (S8, c8) (U7.setRow gi #[.string S8, .int .i64 c8])) := HU.out.setI (S8, c8)
  have v0 : True := trivial
  have u0 : True := trivial
  obtain ⟨V8, hV⟩ : ∃ W, (U7.setRow gi #[.string S8, .int .i64 c8]) = W := ⟨_, rfl⟩
  rw [hV] at HS
  have q0 : V8.cell? ⟨gi, 0, none⟩ = some (.string S8) := HS.out.i.cell 0
  have q1 : V8.cell? ⟨gi, 1, none⟩ = some (.int .i64 c8) := HS.out.i.cell 1
  go_wp2_with (with_reducible refine wpList_storeBlk rfl 83 _ _ rfl gi #[.string S7, .int .i64 c7] #[.string S8, .int .i64 c8] (by with_unfolding_all rfl) (by with_unfolding_all rfl) X1 rfl (by kernel_rfl) (by kernel_rfl) ?_)
  try rw [hV]
  clear hV X1 HU v0 u0 q0 q1
  have HI1 : Hid (∃ v, RfS 28 #[.int .i64 0, .int .i64 0, .int .i64 0, .int .i64 0, .string ⟨#[]⟩, .int .i64 0, .int .i64 0, .int .i64 0, .int .i64 0, .int .i64 0, .int .i64 0, .int .i64 0, .string ⟨#[]⟩, .string ⟨#[]⟩, .int .i64 0, .slice none 0 0] w ga gf gi #[.int .i64 K, .int .i64 F, .int .i64 C, .int .i64 S, .string H, .int .i64 0, .int .i64 0, .int .i64 0, .int .i64 0, .int .i64 0, .int .i64 0, .int .i64 0, .string ⟨#[]⟩, .string ⟨#[]⟩, .int .i64 q, v] (S8, c8) V8 ∧ OwnW19 V8 (gi + 1) v [] ∧ gi + 1 ≤ V8.heap.size) := ⟨.slice none 0 0, HS.out, World.ownsRow_nil _ _ _ _, HS.out.i.lt⟩
  clear HS
  go_loopw [8] (fun x wr => ∃ (k : Nat) (ik : ByteArray × Int) (L : List (Int × ByteArray)), k ≤ N ∧ k ≤ 7 ∧ x = .int .i64 k ∧ L.length = k ∧ ik.1.size ≤ 1048576 ∧ Hid (∃ v, RfS 28 #[.int .i64 0, .int .i64 0, .int .i64 0, .int .i64 0, .string ⟨#[]⟩, .int .i64 0, .int .i64 0, .int .i64 0, .int .i64 0, .int .i64 0, .int .i64 0, .int .i64 0, .string ⟨#[]⟩, .string ⟨#[]⟩, .int .i64 0, .slice none 0 0] w ga gf gi #[.int .i64 K, .int .i64 F, .int .i64 C, .int .i64 S, .string H, .int .i64 0, .int .i64 0, .int .i64 0, .int .i64 0, .int .i64 0, .int .i64 0, .int .i64 0, .string ⟨#[]⟩, .string ⟨#[]⟩, .int .i64 q, v] ik wr ∧ OwnW19 wr (gi + 1) v L ∧ gi + 1 ≤ wr.heap.size) ∧ Hid ((fi, fl) = ((readLW readWrP (min N 7 - k) ik).1, L ++ (readLW readWrP (min N 7 - k) ik).2))) (fun x _ => N - (intOf x).toNat)
  case atStart => exact ⟨0, (S8, c8), [], Nat.zero_le _, Nat.zero_le _, rfl, rfl, z8, HI1, by show _ = _; rw [Nat.sub_zero, HFL.out]; rfl⟩
  case round =>
    clear HI1 HFL z8
    obtain ⟨k, ik, L, hk, hk3, rfl, hLk, hz, HX, HF⟩ := hrel
    obtain ⟨v, hI⟩ := HX.out
    obtain ⟨t1, t2, t3⟩ := hI
    have HS : Hid (RfS 28 #[.int .i64 0, .int .i64 0, .int .i64 0, .int .i64 0, .string ⟨#[]⟩, .int .i64 0, .int .i64 0, .int .i64 0, .int .i64 0, .int .i64 0, .int .i64 0, .int .i64 0, .string ⟨#[]⟩, .string ⟨#[]⟩, .int .i64 0, .slice none 0 0] w ga gf gi #[.int .i64 K, .int .i64 F, .int .i64 C, .int .i64 S, .string H, .int .i64 0, .int .i64 0, .int .i64 0, .int .i64 0, .int .i64 0, .int .i64 0, .int .i64 0, .string ⟨#[]⟩, .string ⟨#[]⟩, .int .i64 q, v] ik wr) := t1
    have HO : Hid (OwnW19 wr (gi + 1) v L) := t2
    have HSZ : Hid (gi + 1 ≤ wr.heap.size) := t3
    clear t1 t2 t3 HX
    by_cases hlt : k < N ∧ k < 7
    · obtain ⟨hlt, hlt3⟩ := hlt
      have b0 : (k : Int) < (N : Int) := by omega
      have b1 : (k : Int) < 7 := by omega
      obtain ⟨d, hd⟩ : ∃ d, min N 7 - k = d + 1 := ⟨min N 7 - k - 1, by omega⟩
      have hd' : min N 7 - (k + 1) = d := by omega
      have hf := HF.out
      rw [hd] at hf
      unfold readLW at hf
      clear HF
      obtain ⟨⟨T0, d0⟩, hik⟩ : ∃ i, ik = i := ⟨_, rfl⟩
      rw [hik] at hf hz HS
      obtain ⟨⟨⟨T1, d1⟩, X0⟩, f0⟩ : ∃ p, numberP (T0, d0) 1 = p := ⟨_, rfl⟩
      obtain ⟨x0, hx0⟩ : ∃ x : Int, (X0 : Int) = x := ⟨_, rfl⟩
      have zz1 : (T1, d1).1.size ≤ 1048576 := Nat.le_trans (by have h := numberP_size (T0, d0) 1; rw [f0] at h; exact h) hz
      have D0' : ∀ W, _ := fun W => rinByte_any (T0, d0) W hz
      rw [f0] at D0'
      simp only [hx0] at D0'
      simp only [inV] at D0'
      have D0 : Hid (∀ W, _) := D0'
      obtain ⟨⟨⟨T2, d2⟩, x1⟩, f1⟩ : ∃ p, inTextP (T1, d1) 48 = p := ⟨_, rfl⟩
      have zz2 : (T2, d2).1.size ≤ 1048576 := Nat.le_trans (by have h := inTextP_size (T1, d1) 48; rw [f1] at h; exact h) zz1
      have D1' : ∀ W, _ := fun W => rinText_any (T1, d1) 48 W zz1
      rw [f1] at D1'
      simp only [inV] at D1'
      have D1 : Hid (∀ W, _) := D1'
      have hrd : readWrP (T0, d0) = ((T2, d2), (x0, x1)) := by
        unfold readWrP
        simp only [f0, f1, hx0]
      rw [hrd] at hf
      have HF' : Hid ((fi, fl) = ((readLW readWrP (min N 7 - (k + 1)) (T2, d2)).1, (L ++ [(x0, x1)]) ++ (readLW readWrP (min N 7 - (k + 1)) (T2, d2)).2)) := by show _ = _; rw [hd', hf]; simp
      have HZ' : Hid ((T2, d2).1.size ≤ 1048576) := zz2
      clear hf hrd hd hd' hik hz f0 f1 hx0 D0' D1' zz1 zz2
      have XX : Blk (wr.alloc (.cells #[.int .i64 0, .string ⟨#[]⟩] 57)) 57 wr.heap.size #[.int .i64 0, .string ⟨#[]⟩] := Blk.new _ _ _
      have HY0 : Hid (RxS 28 #[.int .i64 0, .int .i64 0, .int .i64 0, .int .i64 0, .string ⟨#[]⟩, .int .i64 0, .int .i64 0, .int .i64 0, .int .i64 0, .int .i64 0, .int .i64 0, .int .i64 0, .string ⟨#[]⟩, .string ⟨#[]⟩, .int .i64 0, .slice none 0 0] w ga gf gi #[.int .i64 K, .int .i64 F, .int .i64 C, .int .i64 S, .string H, .int .i64 0, .int .i64 0, .int .i64 0, .int .i64 0, .int .i64 0, .int .i64 0, .int .i64 0, .string ⟨#[]⟩, .string ⟨#[]⟩, .int .i64 q, v] (T0, d0) wr 57 wr.heap.size #[.int .i64 0, .string ⟨#[]⟩] ((wr.alloc (.cells #[.int .i64 0, .string ⟨#[]⟩] 57)).setRow wr.heap.size #[.int .i64 0, .string ⟨#[]⟩])) := by
        have h1 := HSZ.out
        have h2 : Below wr.heap.size wr ((wr.alloc (.cells #[.int .i64 0, .string ⟨#[]⟩] 57)).setRow wr.heap.size #[.int .i64 0, .string ⟨#[]⟩]) := below_setRow (below_new _ _) (Nat.le_refl _) _
        exact ⟨HS.out.on h2, XX.setRow _, by omega, fun j _ hj => h2.block j hj⟩
      obtain ⟨Y0, hY0⟩ : ∃ Y0, (wr.alloc (.cells #[.int .i64 0, .string ⟨#[]⟩] 57)).setRow wr.heap.size #[.int .i64 0, .string ⟨#[]⟩] = Y0 := ⟨_, rfl⟩
      rw [hY0] at HY0
      have q0 : Y0.cell? ⟨gi, 0, none⟩ = some (.string T0) := HY0.out.base.i.cell 0
      have q1 : Y0.cell? ⟨gi, 1, none⟩ = some (.int .i64 d0) := HY0.out.base.i.cell 1
      clear HS
      go_wp2_with (with_reducible refine wpList_storeBlk rfl 57 _ _ rfl wr.heap.size #[.int .i64 0, .string ⟨#[]⟩] #[.int .i64 0, .string ⟨#[]⟩] (by with_unfolding_all rfl) (by with_unfolding_all rfl) XX rfl (by kernel_rfl) (by kernel_rfl) ?_)
      try rw [hY0]
      obtain ⟨gx, hgx⟩ : ∃ gx, wr.heap.size = gx := ⟨_, rfl⟩
      rw [hgx] at HY0
      have HGX : Hid (wr.heap.size = gx) := hgx
      try rw [hgx]
      clear hY0 hgx XX q0 q1
      refine (D0.out Y0).mono ?_
      rintro e Q0 ⟨rfl, hb⟩
      have HU : Hid (RxS 28 #[.int .i64 0, .int .i64 0, .int .i64 0, .int .i64 0, .string ⟨#[]⟩, .int .i64 0, .int .i64 0, .int .i64 0, .int .i64 0, .int .i64 0, .int .i64 0, .int .i64 0, .string ⟨#[]⟩, .string ⟨#[]⟩, .int .i64 0, .slice none 0 0] w ga gf gi #[.int .i64 K, .int .i64 F, .int .i64 C, .int .i64 S, .string H, .int .i64 0, .int .i64 0, .int .i64 0, .int .i64 0, .int .i64 0, .int .i64 0, .int .i64 0, .string ⟨#[]⟩, .string ⟨#[]⟩, .int .i64 q, v] (T0, d0) wr 57 gx #[.int .i64 0, .string ⟨#[]⟩] Q0) := HY0.out.on hb
      have X1 := HU.out.base.i
      clear hb HY0 D0
      have HV : Hid (RxS 28 #[.int .i64 0, .int .i64 0, .int .i64 0, .int .i64 0, .string ⟨#[]⟩, .int .i64 0, .int .i64 0, .int .i64 0, .int .i64 0, .int .i64 0, .int .i64 0, .int .i64 0, .string ⟨#[]⟩, .string ⟨#[]⟩, .int .i64 0, .slice none 0 0] w ga gf gi #[.int .i64 K, .int .i64 F, .int .i64 C, .int .i64 S, .string H, .int .i64 0, .int .i64 0, .int .i64 0, .int .i64 0, .int .i64 0, .int .i64 0, .int .i64 0, .string ⟨#[]⟩, .string ⟨#[]⟩, .int .i64 q, v] (T1, d1) wr 57 gx #[.int .i64 0, .string ⟨#[]⟩] (Q0.setRow gi #[.string T1, .int .i64 d1])) := HU.out.setI (T1, d1)
      have v0 : (Q0.setRow gi #[.string T1, .int .i64 d1]).cell? ⟨gx, 0, none⟩ = some _ := HV.out.x.cell 0
      have u0 : (Q0.setRow gi #[.string T1, .int .i64 d1]).frozen? ⟨gx, 0, none⟩ = false := HV.out.x.free 0
      have HY1 : Hid (RxS 28 #[.int .i64 0, .int .i64 0, .int .i64 0, .int .i64 0, .string ⟨#[]⟩, .int .i64 0, .int .i64 0, .int .i64 0, .int .i64 0, .int .i64 0, .int .i64 0, .int .i64 0, .string ⟨#[]⟩, .string ⟨#[]⟩, .int .i64 0, .slice none 0 0] w ga gf gi #[.int .i64 K, .int .i64 F, .int .i64 C, .int .i64 S, .string H, .int .i64 0, .int .i64 0, .int .i64 0, .int .i64 0, .int .i64 0, .int .i64 0, .int .i64 0, .string ⟨#[]⟩, .string ⟨#[]⟩, .int .i64 q, v] (T1, d1) wr 57 gx #[.int .i64 x0, .string ⟨#[]⟩] ((Q0.setRow gi #[.string T1, .int .i64 d1]).setCell ⟨gx, 0, none⟩ (.int .i64 x0))) := HV.out.setX 0 (.int .i64 x0)
      obtain ⟨Y1, hV⟩ : ∃ W, (Q0.setRow gi #[.string T1, .int .i64 d1]).setCell ⟨gx, 0, none⟩ (.int .i64 x0) = W := ⟨_, rfl⟩
      clear HV
      rw [hV] at HY1
      have q0 : Y1.cell? ⟨gi, 0, none⟩ = some (.string T1) := HY1.out.base.i.cell 0
      have q1 : Y1.cell? ⟨gi, 1, none⟩ = some (.int .i64 d1) := HY1.out.base.i.cell 1
      go_wp2_with (with_reducible refine wpList_storeBlk rfl 83 _ _ rfl gi #[.string T0, .int .i64 d0] #[.string T1, .int .i64 d1] (by with_unfolding_all rfl) (by with_unfolding_all rfl) X1 rfl (by kernel_rfl) (by kernel_rfl) ?_)
      try rw [hV]
      clear hV X1 HU v0 u0 q0 q1
      refine (D1.out Y1).mono ?_
      rintro e Q1 ⟨rfl, hb⟩
      have HU : Hid (RxS 28 #[.int .i64 0, .int .i64 0, .int .i64 0, .int .i64 0, .string ⟨#[]⟩, .int .i64 0, .int .i64 0, .int .i64 0, .int .i64 0, .int .i64 0, .int .i64 0, .int .i64 0, .string ⟨#[]⟩, .string ⟨#[]⟩, .int .i64 0, .slice none 0 0] w ga gf gi #[.int .i64 K, .int .i64 F, .int .i64 C, .int .i64 S, .string H, .int .i64 0, .int .i64 0, .int .i64 0, .int .i64 0, .int .i64 0, .int .i64 0, .int .i64 0, .string ⟨#[]⟩, .string ⟨#[]⟩, .int .i64 q, v] (T1, d1) wr 57 gx #[.int .i64 x0, .string ⟨#[]⟩] Q1) := HY1.out.on hb
      have X1 := HU.out.base.i
      clear hb HY1 D1
      have HV : Hid (RxS 28 #[.int .i64 0, .int .i64 0, .int .i64 0, .int .i64 0, .string ⟨#[]⟩, .int .i64 0, .int .i64 0, .int .i64 0, .int .i64 0, .int .i64 0, .int .i64 0, .int .i64 0, .string ⟨#[]⟩, .string ⟨#[]⟩, .int .i64 0, .slice none 0 0] w ga gf gi #[.int .i64 K, .int .i64 F, .int .i64 C, .int .i64 S, .string H, .int .i64 0, .int .i64 0, .int .i64 0, .int .i64 0, .int .i64 0, .int .i64 0, .int .i64 0, .string ⟨#[]⟩, .string ⟨#[]⟩, .int .i64 q, v] (T2, d2) wr 57 gx #[.int .i64 x0, .string ⟨#[]⟩] (Q1.setRow gi #[.string T2, .int .i64 d2])) := HU.out.setI (T2, d2)
      have v0 : (Q1.setRow gi #[.string T2, .int .i64 d2]).cell? ⟨gx, 1, none⟩ = some _ := HV.out.x.cell 1
      have u0 : (Q1.setRow gi #[.string T2, .int .i64 d2]).frozen? ⟨gx, 1, none⟩ = false := HV.out.x.free 1
      have HY2 : Hid (RxS 28 #[.int .i64 0, .int .i64 0, .int .i64 0, .int .i64 0, .string ⟨#[]⟩, .int .i64 0, .int .i64 0, .int .i64 0, .int .i64 0, .int .i64 0, .int .i64 0, .int .i64 0, .string ⟨#[]⟩, .string ⟨#[]⟩, .int .i64 0, .slice none 0 0] w ga gf gi #[.int .i64 K, .int .i64 F, .int .i64 C, .int .i64 S, .string H, .int .i64 0, .int .i64 0, .int .i64 0, .int .i64 0, .int .i64 0, .int .i64 0, .int .i64 0, .string ⟨#[]⟩, .string ⟨#[]⟩, .int .i64 q, v] (T2, d2) wr 57 gx #[.int .i64 x0, .string x1] ((Q1.setRow gi #[.string T2, .int .i64 d2]).setCell ⟨gx, 1, none⟩ (.string x1))) := HV.out.setX 1 (.string x1)
      obtain ⟨Y2, hV⟩ : ∃ W, (Q1.setRow gi #[.string T2, .int .i64 d2]).setCell ⟨gx, 1, none⟩ (.string x1) = W := ⟨_, rfl⟩
      clear HV
      rw [hV] at HY2
      have hgx := HGX.out
      have hown : OwnW19 Y2 (gi + 1) v L := owns_same HO.out (fun j hj => by
        have h1 := World.ownsRow.lt HO.out j hj
        exact HY2.out.keep j (by omega) (by omega))
      have hsz : gi + 1 ≤ Y2.heap.size := by have := HY2.out.base.i.lt; omega
      have q0 : Y2.cell? ⟨gx, 0, none⟩ = some (.int .i64 x0) := HY2.out.x.cell 0
      have q1 : Y2.cell? ⟨gx, 1, none⟩ = some (.string x1) := HY2.out.x.cell 1
      have q2 : Y2.cell? ⟨gf, 15, none⟩ = some v := HY2.out.base.f.cell 15
      have HOwn : Hid (OwnW19 Y2 (gi + 1) v L) := hown
      unfold OwnW19 at hown
      rw [hLk] at hown
      clear HO HSZ hgx HGX
      go_wp2_with (first
        | (with_reducible refine wpList_storeBlk rfl 83 _ _ rfl gi #[.string T1, .int .i64 d1] #[.string T2, .int .i64 d2] (by with_unfolding_all rfl) (by with_unfolding_all rfl) X1 rfl (by kernel_rfl) (by kernel_rfl) ?_)
        | (at_builtin; refine wpList_appR2 rfl (.tmp 84) (.tmp 86) 26 rfl (gi + 1) 57 i0 _ 2 24 Tryd.underlying26 hi hzi0 hzi1 hzi2 rfl (by decide) Y2 v _ _ rfl hown #[.int .i64 x0, .string x1] rfl (wrapA_one (x0, x1)) rfl (by omega) (by unfold maxLen; omega) hsz ?_))
      intro v4 w4 hown4 hg4
      clear v0 u0 X1 HU hV q0 q1 q2
      have HO4 : Hid (OwnW19 w4 (gi + 1) v4 (L ++ [(x0, x1)])) := by
        show OwnW19 _ _ _ _
        unfold OwnW19; rw [cellsW_snoc, List.length_append, hLk]; exact hown4
      have HS4 : Hid (RfS 28 #[.int .i64 0, .int .i64 0, .int .i64 0, .int .i64 0, .string ⟨#[]⟩, .int .i64 0, .int .i64 0, .int .i64 0, .int .i64 0, .int .i64 0, .int .i64 0, .int .i64 0, .string ⟨#[]⟩, .string ⟨#[]⟩, .int .i64 0, .slice none 0 0] w ga gf gi #[.int .i64 K, .int .i64 F, .int .i64 C, .int .i64 S, .string H, .int .i64 0, .int .i64 0, .int .i64 0, .int .i64 0, .int .i64 0, .int .i64 0, .int .i64 0, .string ⟨#[]⟩, .string ⟨#[]⟩, .int .i64 q, v] (T2, d2) w4) := (HY2.out.base.on (below_new _ _)).grown hg4 (fun j hj => by have := (World.ownsRow.lt HOwn.out j hj).1; omega)
      have HSZ4 : Hid (gi + 1 ≤ w4.heap.size) := by have h1 := hg4.size; rw [World.size_alloc] at h1; show _ ≤ _; omega
      obtain ⟨a4, n4, q4, hv4⟩ : ∃ a n q, v4 = .slice a n q := by
        obtain ⟨a, cap, e, _⟩ := HO4.out.rows
        exact ⟨_, _, _, e⟩
      subst hv4
      have v0 : w4.cell? ⟨gf, 15, none⟩ = some _ := HS4.out.f.cell 15
      have u0 : w4.frozen? ⟨gf, 15, none⟩ = false := HS4.out.f.free 15
      have HS5 : Hid (RfS 28 #[.int .i64 0, .int .i64 0, .int .i64 0, .int .i64 0, .string ⟨#[]⟩, .int .i64 0, .int .i64 0, .int .i64 0, .int .i64 0, .int .i64 0, .int .i64 0, .int .i64 0, .string ⟨#[]⟩, .string ⟨#[]⟩, .int .i64 0, .slice none 0 0] w ga gf gi #[.int .i64 K, .int .i64 F, .int .i64 C, .int .i64 S, .string H, .int .i64 0, .int .i64 0, .int .i64 0, .int .i64 0, .int .i64 0, .int .i64 0, .int .i64 0, .string ⟨#[]⟩, .string ⟨#[]⟩, .int .i64 q, .slice a4 n4 q4] (T2, d2) (w4.setCell ⟨gf, 15, none⟩ (.slice a4 n4 q4))) := HS4.out.setF 15 (.slice a4 n4 q4)
      have HO5 : Hid (OwnW19 (w4.setCell ⟨gf, 15, none⟩ (.slice a4 n4 q4)) (gi + 1) (.slice a4 n4 q4) (L ++ [(x0, x1)])) := owns_same HO4.out (fun j hj => Below.heap_setCell w4 ⟨gf, 15, none⟩ _ j (by have := (World.ownsRow.lt HO4.out j hj).1; have := HS4.out.li; show j ≠ gf; omega))
      have HSZ5 : Hid (gi + 1 ≤ (w4.setCell ⟨gf, 15, none⟩ (.slice a4 n4 q4)).heap.size) := Nat.le_trans HSZ4.out (grown_set w4 gf 15 (.slice a4 n4 q4)).size
      obtain ⟨W5, hW5⟩ : ∃ W5, w4.setCell ⟨gf, 15, none⟩ (.slice a4 n4 q4) = W5 := ⟨_, rfl⟩
      rw [hW5] at HS5 HO5 HSZ5
      clear hown4 hg4 hown HO4 HS4 HSZ4 HY2 HOwn hsz
      go_wp2_with fail
      try rw [hW5]
      clear hW5 v0 u0
      have HX' : Hid (∃ v, RfS 28 #[.int .i64 0, .int .i64 0, .int .i64 0, .int .i64 0, .string ⟨#[]⟩, .int .i64 0, .int .i64 0, .int .i64 0, .int .i64 0, .int .i64 0, .int .i64 0, .int .i64 0, .string ⟨#[]⟩, .string ⟨#[]⟩, .int .i64 0, .slice none 0 0] w ga gf gi #[.int .i64 K, .int .i64 F, .int .i64 C, .int .i64 S, .string H, .int .i64 0, .int .i64 0, .int .i64 0, .int .i64 0, .int .i64 0, .int .i64 0, .int .i64 0, .string ⟨#[]⟩, .string ⟨#[]⟩, .int .i64 q, v] (T2, d2) W5 ∧ OwnW19 W5 (gi + 1) v (L ++ [(x0, x1)]) ∧ gi + 1 ≤ W5.heap.size) := ⟨_, HS5.out, HO5.out, HSZ5.out⟩
      refine ⟨?_, ?_⟩
      · first
        | exact ⟨k + 1, (T2, d2), L ++ [(x0, x1)], by omega, by omega, by go_num, by rw [List.length_append, hLk]; rfl, HZ'.out, HX', HF'⟩
        | ((repeat apply Exists.intro); refine ⟨?_, rfl⟩; exact ⟨k + 1, (T2, d2), L ++ [(x0, x1)], by omega, by omega, by go_num, by rw [List.length_append, hLk]; rfl, HZ'.out, HX', HF'⟩)
      · simp [intOf] <;> omega
    · have hkm : min N 7 - k = 0 := by omega
      have hf := HF.out
      rw [hkm] at hf
      obtain ⟨rfl, rfl⟩ : fi = ik ∧ fl = L := ⟨congrArg Prod.fst hf, by have := congrArg Prod.snd hf; simpa [readLW] using this⟩
      obtain ⟨a, c, hv, hlc, hcm, hit⟩ := HO.out.rows
      subst hv
      have HLC : Hid (fl.length ≤ c ∧ c ≤ 9223372036854775807) := ⟨hlc, hcm⟩
      have HOW : Hid (OwnW19 wr (gi + 1) (.slice a fl.length c) fl) := HO.out
      have dd : (k < N ∧ ¬ (k < 7)) ∨ ¬ (k < N) := by omega
      have q0 : wr.cell? ⟨gi, 0, none⟩ = some (.string fi.1) := HS.out.i.cell 0
      have q1 : wr.cell? ⟨gi, 1, none⟩ = some (.int .i64 fi.2) := HS.out.i.cell 1
      have HLk : Hid (fl.length = k) := hLk
      clear hf HF hkm hit hlc hcm HO hz HSZ hLk
      rcases dd with ⟨g0, g1⟩ | g0
      · have b0 : (k : Int) < (N : Int) := by omega
        have b1 : ¬ ((k : Int) < 7) := by omega
        as_aux_lemma =>
        by_cases hb0 : b.size = 0
        · have tb : (b.toList.isEmpty) = true := isE_yes b hb0
          have tb2 : (!b.toList.isEmpty) = false := by rw [tb]; rfl
          obtain ⟨w0, hw0⟩ : ∃ w0, wr = w0 := ⟨_, rfl⟩
          have HS0 : Hid (RfS 28 #[.int .i64 0, .int .i64 0, .int .i64 0, .int .i64 0, .string ⟨#[]⟩, .int .i64 0, .int .i64 0, .int .i64 0, .int .i64 0, .int .i64 0, .int .i64 0, .int .i64 0, .string ⟨#[]⟩, .string ⟨#[]⟩, .int .i64 0, .slice none 0 0] w ga gf gi #[.int .i64 K, .int .i64 F, .int .i64 C, .int .i64 S, .string H, .int .i64 0, .int .i64 0, .int .i64 0, .int .i64 0, .int .i64 0, .int .i64 0, .int .i64 0, .string ⟨#[]⟩, .string ⟨#[]⟩, .int .i64 q, .slice a fl.length c] fi w0) := by show RfS _ _ _ _ _ _ _ _ _; rw [← hw0]; exact HS.out
          have HO0 : Hid (OwnW19 w0 (gi + 1) (.slice a fl.length c) fl) := by show OwnW19 _ _ _ _; rw [← hw0]; exact HOW.out
          clear HS HOW q0 q1 CT
          rw [hw0]
          clear hw0
          as_aux_lemma =>
          have HX0 : Hid (X = if Dn ≠ 0 ∨ fl.length ≠ N ∨ mayRb M (K, F, C, S, H, op0, q, fl) = false ∨ ¬ (¬ b.size = 0 ↔ K = 1) then (rec0, 190) else ((K, F, C, S, H, op0, q, fl), 0)) := by
            have h := HX0.out
            rw [if_neg (fun k => k.1 hb0), if_pos hb0] at h
            exact h
          obtain ⟨B, hB⟩ : ∃ B, mayRb M (K, F, C, S, H, op0, q, fl) = B := ⟨_, rfl⟩
          have CM : Hid (∀ (a : Option Addr) (c : Nat) (W : World), WrAt W a fl.length fl → _) := CM0.out
          rw [hB] at HX0 CM
          clear hB CM0 CM1
          have q0 : w0.cell? ⟨gi, 0, none⟩ = some (.string fi.1) := HS0.out.i.cell 0
          have q1 : w0.cell? ⟨gi, 1, none⟩ = some (.int .i64 fi.2) := HS0.out.i.cell 1
          go_wp2_with fail
          refine (CD.out w0).mono ?_
          rintro e w1 ⟨rfl, hb⟩
          have HT : Hid (RfS 28 #[.int .i64 0, .int .i64 0, .int .i64 0, .int .i64 0, .string ⟨#[]⟩, .int .i64 0, .int .i64 0, .int .i64 0, .int .i64 0, .int .i64 0, .int .i64 0, .int .i64 0, .string ⟨#[]⟩, .string ⟨#[]⟩, .int .i64 0, .slice none 0 0] w ga gf gi #[.int .i64 K, .int .i64 F, .int .i64 C, .int .i64 S, .string H, .int .i64 0, .int .i64 0, .int .i64 0, .int .i64 0, .int .i64 0, .int .i64 0, .int .i64 0, .string ⟨#[]⟩, .string ⟨#[]⟩, .int .i64 q, .slice a fl.length c] fi w1) := HS0.out.on hb
          have HO1 : Hid (OwnW19 w1 (gi + 1) (.slice a fl.length c) fl) := owns_on HO0.out hb
          clear hb HS0 HO0 CD q0 q1
          by_cases hD : Dn = 0
          · have tD : (Dn != 0) = false := by simp [hD]
            by_cases hl : fl.length = N
            · have tl : ((fl.length : Int) != (N : Int)) = false := by rw [bne_eq_false_iff_eq]; omega
              have hIm : WrAt w1 a fl.length fl := HO1.out.its
              have HL0 : Hid (fl.length = N) := hl
              have HD0 : Hid (Dn = 0) := hD
              clear hl hD
              have d0 : w1.cell? ⟨gf, 0, none⟩ = some (.int .i64 K) := HT.out.f.cell 0
              have d1 : w1.cell? ⟨gf, 1, none⟩ = some (.int .i64 F) := HT.out.f.cell 1
              have d2 : w1.cell? ⟨gf, 2, none⟩ = some (.int .i64 C) := HT.out.f.cell 2
              have d3 : w1.cell? ⟨gf, 3, none⟩ = some (.int .i64 S) := HT.out.f.cell 3
              have d4 : w1.cell? ⟨gf, 4, none⟩ = some (.string H) := HT.out.f.cell 4
              have d5 : w1.cell? ⟨gf, 5, none⟩ = some (.int .i64 0) := HT.out.f.cell 5
              have d6 : w1.cell? ⟨gf, 6, none⟩ = some (.int .i64 0) := HT.out.f.cell 6
              have d7 : w1.cell? ⟨gf, 7, none⟩ = some (.int .i64 0) := HT.out.f.cell 7
              have d8 : w1.cell? ⟨gf, 8, none⟩ = some (.int .i64 0) := HT.out.f.cell 8
              have d9 : w1.cell? ⟨gf, 9, none⟩ = some (.int .i64 0) := HT.out.f.cell 9
              have d10 : w1.cell? ⟨gf, 10, none⟩ = some (.int .i64 0) := HT.out.f.cell 10
              have d11 : w1.cell? ⟨gf, 11, none⟩ = some (.int .i64 0) := HT.out.f.cell 11
              have d12 : w1.cell? ⟨gf, 12, none⟩ = some (.string ⟨#[]⟩) := HT.out.f.cell 12
              have d13 : w1.cell? ⟨gf, 13, none⟩ = some (.string ⟨#[]⟩) := HT.out.f.cell 13
              have d14 : w1.cell? ⟨gf, 14, none⟩ = some (.int .i64 q) := HT.out.f.cell 14
              have d15 : w1.cell? ⟨gf, 15, none⟩ = some (.slice a fl.length c) := HT.out.f.cell 15
              go_wp2_with fail
              refine (CM.out a c w1 hIm).mono ?_
              rintro e w2 ⟨rfl, hb⟩
              have HT2 : Hid (RfS 28 #[.int .i64 0, .int .i64 0, .int .i64 0, .int .i64 0, .string ⟨#[]⟩, .int .i64 0, .int .i64 0, .int .i64 0, .int .i64 0, .int .i64 0, .int .i64 0, .int .i64 0, .string ⟨#[]⟩, .string ⟨#[]⟩, .int .i64 0, .slice none 0 0] w ga gf gi #[.int .i64 K, .int .i64 F, .int .i64 C, .int .i64 S, .string H, .int .i64 0, .int .i64 0, .int .i64 0, .int .i64 0, .int .i64 0, .int .i64 0, .int .i64 0, .string ⟨#[]⟩, .string ⟨#[]⟩, .int .i64 q, .slice a fl.length c] fi w2) := HT.out.on hb
              have HO2 : Hid (OwnW19 w2 (gi + 1) (.slice a fl.length c) fl) := owns_on HO1.out hb
              clear hb HT HO1 CM hIm d0 d1 d2 d3 d4 d5 d6 d7 d8 d9 d10 d11 d12 d13 d14 d15
              have HZ : Hid (Blk w2 28 ga #[.int .i64 0, .int .i64 0, .int .i64 0, .int .i64 0, .string ⟨#[]⟩, .int .i64 0, .int .i64 0, .int .i64 0, .int .i64 0, .int .i64 0, .int .i64 0, .int .i64 0, .string ⟨#[]⟩, .string ⟨#[]⟩, .int .i64 0, .slice none 0 0]) := HT2.out.a
              have HB : Hid (Below w.heap.size w w2) := HT2.out.bel
              have HLA : Hid (w.heap.size ≤ ga) := HT2.out.la
              have tb : (b.toList.isEmpty) = true := isE_yes b hb0
              have tb2 : (!b.toList.isEmpty) = false := by rw [tb]; rfl
              cases B with
              | false =>
                clear HT2 HO2
                obtain rfl : X = (rec0, 190) := by rw [HX0.out, if_pos (.inr (.inr (.inl rfl)))]
                clear HX0
                go_wp2_with (with_reducible refine wpList_storeBlk rfl 28 _ _ rfl ga #[.int .i64 0, .int .i64 0, .int .i64 0, .int .i64 0, .string ⟨#[]⟩, .int .i64 0, .int .i64 0, .int .i64 0, .int .i64 0, .int .i64 0, .int .i64 0, .int .i64 0, .string ⟨#[]⟩, .string ⟨#[]⟩, .int .i64 0, .slice none 0 0] #[.int .i64 0, .int .i64 0, .int .i64 0, .int .i64 0, .string ⟨#[]⟩, .int .i64 0, .int .i64 0, .int .i64 0, .int .i64 0, .int .i64 0, .int .i64 0, .int .i64 0, .string ⟨#[]⟩, .string ⟨#[]⟩, .int .i64 0, .slice none 0 0] (by with_unfolding_all rfl) (by with_unfolding_all rfl) HZ.out rfl (by kernel_rfl) (by kernel_rfl) ?_)
                exact bodyPost_rowTmp rfl ga _ _ rfl rfl rfl (HZ.out.setRow _) _ Tryd.underlying28 rfl (by kernel_rfl) ⟨none, 0, rfl, Nat.le_refl _, by decide, ⟨rfl, .inl rfl⟩, below_setRow HB.out HLA.out _⟩
              | true =>
                have d0' : w2.cell? ⟨gf, 0, none⟩ = some (.int .i64 K) := HT2.out.f.cell 0
                by_cases hK : K = 1
                · have tK : (K == 1) = true := by simp [hK]
                  have HK : Hid (K = 1) := hK
                  clear hK
                  clear HT2 HO2
                  obtain rfl : X = (rec0, 190) := by rw [HX0.out, if_pos (.inr (.inr (.inr (fun e => (e.2 HK.out) hb0))))]
                  clear HX0
                  go_wp2_with (with_reducible refine wpList_storeBlk rfl 28 _ _ rfl ga #[.int .i64 0, .int .i64 0, .int .i64 0, .int .i64 0, .string ⟨#[]⟩, .int .i64 0, .int .i64 0, .int .i64 0, .int .i64 0, .int .i64 0, .int .i64 0, .int .i64 0, .string ⟨#[]⟩, .string ⟨#[]⟩, .int .i64 0, .slice none 0 0] #[.int .i64 0, .int .i64 0, .int .i64 0, .int .i64 0, .string ⟨#[]⟩, .int .i64 0, .int .i64 0, .int .i64 0, .int .i64 0, .int .i64 0, .int .i64 0, .int .i64 0, .string ⟨#[]⟩, .string ⟨#[]⟩, .int .i64 0, .slice none 0 0] (by with_unfolding_all rfl) (by with_unfolding_all rfl) HZ.out rfl (by kernel_rfl) (by kernel_rfl) ?_)
                  exact bodyPost_rowTmp rfl ga _ _ rfl rfl rfl (HZ.out.setRow _) _ Tryd.underlying28 rfl (by kernel_rfl) ⟨none, 0, rfl, Nat.le_refl _, by decide, ⟨rfl, .inl rfl⟩, below_setRow HB.out HLA.out _⟩
                · have tK : (K == 1) = false := by simp [hK]
                  have HK : Hid (¬ K = 1) := hK
                  clear hK
                  have HAT : Hid (WrAt (w2.setRow ga #[.int .i64 K, .int .i64 F, .int .i64 C, .int .i64 S, .string H, .int .i64 0, .int .i64 0, .int .i64 0, .int .i64 0, .int .i64 0, .int .i64 0, .int .i64 0, .string ⟨#[]⟩, .string ⟨#[]⟩, .int .i64 q, .slice a fl.length c]) a fl.length fl) := OwnW19.its (owns_same HO2.out (fun j hj => setRow_other _ _ _ _ (by have h1 := (World.ownsRow.lt HO2.out j hj).1; have h2 := HT2.out.lf; have h3 := HT2.out.li; omega)))
                  clear d0'
                  have d0 : w2.cell? ⟨gf, 0, none⟩ = some (.int .i64 K) := HT2.out.f.cell 0
                  have d1 : w2.cell? ⟨gf, 1, none⟩ = some (.int .i64 F) := HT2.out.f.cell 1
                  have d2 : w2.cell? ⟨gf, 2, none⟩ = some (.int .i64 C) := HT2.out.f.cell 2
                  have d3 : w2.cell? ⟨gf, 3, none⟩ = some (.int .i64 S) := HT2.out.f.cell 3
                  have d4 : w2.cell? ⟨gf, 4, none⟩ = some (.string H) := HT2.out.f.cell 4
                  have d5 : w2.cell? ⟨gf, 5, none⟩ = some (.int .i64 0) := HT2.out.f.cell 5
                  have d6 : w2.cell? ⟨gf, 6, none⟩ = some (.int .i64 0) := HT2.out.f.cell 6
                  have d7 : w2.cell? ⟨gf, 7, none⟩ = some (.int .i64 0) := HT2.out.f.cell 7
                  have d8 : w2.cell? ⟨gf, 8, none⟩ = some (.int .i64 0) := HT2.out.f.cell 8
                  have d9 : w2.cell? ⟨gf, 9, none⟩ = some (.int .i64 0) := HT2.out.f.cell 9
                  have d10 : w2.cell? ⟨gf, 10, none⟩ = some (.int .i64 0) := HT2.out.f.cell 10
                  have d11 : w2.cell? ⟨gf, 11, none⟩ = some (.int .i64 0) := HT2.out.f.cell 11
                  have d12 : w2.cell? ⟨gf, 12, none⟩ = some (.string ⟨#[]⟩) := HT2.out.f.cell 12
                  have d13 : w2.cell? ⟨gf, 13, none⟩ = some (.string ⟨#[]⟩) := HT2.out.f.cell 13
                  have d14 : w2.cell? ⟨gf, 14, none⟩ = some (.int .i64 q) := HT2.out.f.cell 14
                  have d15 : w2.cell? ⟨gf, 15, none⟩ = some (.slice a fl.length c) := HT2.out.f.cell 15
                  obtain rfl : X = ((K, F, C, S, H, op0, q, fl), 0) := by
                    rw [HX0.out, if_neg]
                    rintro (e | e | e | e)
                    · exact e HD0.out
                    · exact e HL0.out
                    · cases e
                    · exact e ⟨fun k => absurd hb0 k, fun k => absurd k HK.out⟩
                  clear HX0 HT2 HO2
                  go_wp2_with (with_reducible refine wpList_storeBlk rfl 28 _ _ rfl ga #[.int .i64 0, .int .i64 0, .int .i64 0, .int .i64 0, .string ⟨#[]⟩, .int .i64 0, .int .i64 0, .int .i64 0, .int .i64 0, .int .i64 0, .int .i64 0, .int .i64 0, .string ⟨#[]⟩, .string ⟨#[]⟩, .int .i64 0, .slice none 0 0] #[.int .i64 K, .int .i64 F, .int .i64 C, .int .i64 S, .string H, .int .i64 0, .int .i64 0, .int .i64 0, .int .i64 0, .int .i64 0, .int .i64 0, .int .i64 0, .string ⟨#[]⟩, .string ⟨#[]⟩, .int .i64 q, .slice a fl.length c] (by with_unfolding_all rfl) (by with_unfolding_all rfl) HZ.out rfl (by kernel_rfl) (by kernel_rfl) ?_)
                  exact bodyPost_rowTmp rfl ga _ _ rfl rfl rfl (HZ.out.setRow _) _ Tryd.underlying28 rfl (by kernel_rfl) ⟨a, c, rfl, HLC.out.1, HLC.out.2, HAT.out, below_setRow HB.out HLA.out _⟩
            · have tl : ((fl.length : Int) != (N : Int)) = true := by rw [bne_iff_ne]; omega
              have HZ : Hid (Blk w1 28 ga #[.int .i64 0, .int .i64 0, .int .i64 0, .int .i64 0, .string ⟨#[]⟩, .int .i64 0, .int .i64 0, .int .i64 0, .int .i64 0, .int .i64 0, .int .i64 0, .int .i64 0, .string ⟨#[]⟩, .string ⟨#[]⟩, .int .i64 0, .slice none 0 0]) := HT.out.a
              have HB : Hid (Below w.heap.size w w1) := HT.out.bel
              have HLA : Hid (w.heap.size ≤ ga) := HT.out.la
              have d15 : w1.cell? ⟨gf, 15, none⟩ = some (.slice a fl.length c) := HT.out.f.cell 15
              clear HO1 HT CM hD
              obtain rfl : X = (rec0, 190) := by rw [HX0.out, if_pos (.inr (.inl hl))]
              clear HX0
              go_wp2_with (with_reducible refine wpList_storeBlk rfl 28 _ _ rfl ga #[.int .i64 0, .int .i64 0, .int .i64 0, .int .i64 0, .string ⟨#[]⟩, .int .i64 0, .int .i64 0, .int .i64 0, .int .i64 0, .int .i64 0, .int .i64 0, .int .i64 0, .string ⟨#[]⟩, .string ⟨#[]⟩, .int .i64 0, .slice none 0 0] #[.int .i64 0, .int .i64 0, .int .i64 0, .int .i64 0, .string ⟨#[]⟩, .int .i64 0, .int .i64 0, .int .i64 0, .int .i64 0, .int .i64 0, .int .i64 0, .int .i64 0, .string ⟨#[]⟩, .string ⟨#[]⟩, .int .i64 0, .slice none 0 0] (by with_unfolding_all rfl) (by with_unfolding_all rfl) HZ.out rfl (by kernel_rfl) (by kernel_rfl) ?_)
              exact bodyPost_rowTmp rfl ga _ _ rfl rfl rfl (HZ.out.setRow _) _ Tryd.underlying28 rfl (by kernel_rfl) ⟨none, 0, rfl, Nat.le_refl _, by decide, ⟨rfl, .inl rfl⟩, below_setRow HB.out HLA.out _⟩
          · have tD : (Dn != 0) = true := by simp [hD]
            have HZ : Hid (Blk w1 28 ga #[.int .i64 0, .int .i64 0, .int .i64 0, .int .i64 0, .string ⟨#[]⟩, .int .i64 0, .int .i64 0, .int .i64 0, .int .i64 0, .int .i64 0, .int .i64 0, .int .i64 0, .string ⟨#[]⟩, .string ⟨#[]⟩, .int .i64 0, .slice none 0 0]) := HT.out.a
            have HB : Hid (Below w.heap.size w w1) := HT.out.bel
            have HLA : Hid (w.heap.size ≤ ga) := HT.out.la
            clear HO1 HT CM
            obtain rfl : X = (rec0, 190) := by rw [HX0.out, if_pos (.inl hD)]
            clear HX0
            go_wp2_with (with_reducible refine wpList_storeBlk rfl 28 _ _ rfl ga #[.int .i64 0, .int .i64 0, .int .i64 0, .int .i64 0, .string ⟨#[]⟩, .int .i64 0, .int .i64 0, .int .i64 0, .int .i64 0, .int .i64 0, .int .i64 0, .int .i64 0, .string ⟨#[]⟩, .string ⟨#[]⟩, .int .i64 0, .slice none 0 0] #[.int .i64 0, .int .i64 0, .int .i64 0, .int .i64 0, .string ⟨#[]⟩, .int .i64 0, .int .i64 0, .int .i64 0, .int .i64 0, .int .i64 0, .int .i64 0, .int .i64 0, .string ⟨#[]⟩, .string ⟨#[]⟩, .int .i64 0, .slice none 0 0] (by with_unfolding_all rfl) (by with_unfolding_all rfl) HZ.out rfl (by kernel_rfl) (by kernel_rfl) ?_)
            exact bodyPost_rowTmp rfl ga _ _ rfl rfl rfl (HZ.out.setRow _) _ Tryd.underlying28 rfl (by kernel_rfl) ⟨none, 0, rfl, Nat.le_refl _, by decide, ⟨rfl, .inl rfl⟩, below_setRow HB.out HLA.out _⟩
        · have tb : (b.toList.isEmpty) = false := isE_no b hb0
          have tb2 : (!b.toList.isEmpty) = true := by rw [tb]; rfl
          go_wp2_with fail
          refine (CT.out wr).mono ?_
          rintro e wA ⟨rfl, hbA⟩
          have HSA : Hid (RfS 28 #[.int .i64 0, .int .i64 0, .int .i64 0, .int .i64 0, .string ⟨#[]⟩, .int .i64 0, .int .i64 0, .int .i64 0, .int .i64 0, .int .i64 0, .int .i64 0, .int .i64 0, .string ⟨#[]⟩, .string ⟨#[]⟩, .int .i64 0, .slice none 0 0] w ga gf gi #[.int .i64 K, .int .i64 F, .int .i64 C, .int .i64 S, .string H, .int .i64 0, .int .i64 0, .int .i64 0, .int .i64 0, .int .i64 0, .int .i64 0, .int .i64 0, .string ⟨#[]⟩, .string ⟨#[]⟩, .int .i64 q, .slice a fl.length c] fi wA) := HS.out.on hbA
          have HOA : Hid (OwnW19 wA (gi + 1) (.slice a fl.length c) fl) := owns_on HOW.out hbA
          clear hbA HS HOW q0 q1 CT
          have XO : Blk (wA.alloc (.cells #[.int .i64 0, .int .i64 0, .int .i64 0, .int .i64 0, .int .i64 0, .int .i64 0, .int .i64 0, .string ⟨#[]⟩, .string ⟨#[]⟩] 25)) 25 wA.heap.size #[.int .i64 0, .int .i64 0, .int .i64 0, .int .i64 0, .int .i64 0, .int .i64 0, .int .i64 0, .string ⟨#[]⟩, .string ⟨#[]⟩] := Blk.new _ _ _
          have hOB : Blk ((wA.alloc (.cells #[.int .i64 0, .int .i64 0, .int .i64 0, .int .i64 0, .int .i64 0, .int .i64 0, .int .i64 0, .string ⟨#[]⟩, .string ⟨#[]⟩] 25)).setRow wA.heap.size #[.int .i64 k0, .int .i64 k1, .int .i64 k2, .int .i64 k3, .int .i64 k4, .int .i64 k5, .int .i64 k6, .string s7, .string s8]) 25 wA.heap.size #[.int .i64 k0, .int .i64 k1, .int .i64 k2, .int .i64 k3, .int .i64 k4, .int .i64 k5, .int .i64 k6, .string s7, .string s8] := XO.setRow _
          have hbB : Below wA.heap.size wA ((wA.alloc (.cells #[.int .i64 0, .int .i64 0, .int .i64 0, .int .i64 0, .int .i64 0, .int .i64 0, .int .i64 0, .string ⟨#[]⟩, .string ⟨#[]⟩] 25)).setRow wA.heap.size #[.int .i64 k0, .int .i64 k1, .int .i64 k2, .int .i64 k3, .int .i64 k4, .int .i64 k5, .int .i64 k6, .string s7, .string s8]) := below_setRow (below_new _ _) (Nat.le_refl _) _
          obtain ⟨wB, hwB⟩ : ∃ wB, (wA.alloc (.cells #[.int .i64 0, .int .i64 0, .int .i64 0, .int .i64 0, .int .i64 0, .int .i64 0, .int .i64 0, .string ⟨#[]⟩, .string ⟨#[]⟩] 25)).setRow wA.heap.size #[.int .i64 k0, .int .i64 k1, .int .i64 k2, .int .i64 k3, .int .i64 k4, .int .i64 k5, .int .i64 k6, .string s7, .string s8] = wB := ⟨_, rfl⟩
          rw [hwB] at hOB hbB
          have HSB : Hid (RfS 28 #[.int .i64 0, .int .i64 0, .int .i64 0, .int .i64 0, .string ⟨#[]⟩, .int .i64 0, .int .i64 0, .int .i64 0, .int .i64 0, .int .i64 0, .int .i64 0, .int .i64 0, .string ⟨#[]⟩, .string ⟨#[]⟩, .int .i64 0, .slice none 0 0] w ga gf gi #[.int .i64 K, .int .i64 F, .int .i64 C, .int .i64 S, .string H, .int .i64 0, .int .i64 0, .int .i64 0, .int .i64 0, .int .i64 0, .int .i64 0, .int .i64 0, .string ⟨#[]⟩, .string ⟨#[]⟩, .int .i64 q, .slice a fl.length c] fi wB) := HSA.out.on hbB
          have HOB : Hid (OwnW19 wB (gi + 1) (.slice a fl.length c) fl) := owns_on HOA.out hbB
          clear HSA HOA hbB
          by_cases ho0 : oe = 0
          · have toe : (oe != 0) = false := by simp [ho0]
            have o0 : wB.cell? ⟨wA.heap.size, 0, none⟩ = some (.int .i64 k0) := hOB.cell 0
            have o1 : wB.cell? ⟨wA.heap.size, 1, none⟩ = some (.int .i64 k1) := hOB.cell 1
            have o2 : wB.cell? ⟨wA.heap.size, 2, none⟩ = some (.int .i64 k2) := hOB.cell 2
            have o3 : wB.cell? ⟨wA.heap.size, 3, none⟩ = some (.int .i64 k3) := hOB.cell 3
            have o4 : wB.cell? ⟨wA.heap.size, 4, none⟩ = some (.int .i64 k4) := hOB.cell 4
            have o5 : wB.cell? ⟨wA.heap.size, 5, none⟩ = some (.int .i64 k5) := hOB.cell 5
            have o6 : wB.cell? ⟨wA.heap.size, 6, none⟩ = some (.int .i64 k6) := hOB.cell 6
            have o7 : wB.cell? ⟨wA.heap.size, 7, none⟩ = some (.string s7) := hOB.cell 7
            have o8 : wB.cell? ⟨wA.heap.size, 8, none⟩ = some (.string s8) := hOB.cell 8
            have HFB : Hid (Blk wB 28 gf #[.int .i64 K, .int .i64 F, .int .i64 C, .int .i64 S, .string H, .int .i64 0, .int .i64 0, .int .i64 0, .int .i64 0, .int .i64 0, .int .i64 0, .int .i64 0, .string ⟨#[]⟩, .string ⟨#[]⟩, .int .i64 q, .slice a fl.length c]) := HSB.out.f
            have HS0 : Hid (RfS 28 #[.int .i64 0, .int .i64 0, .int .i64 0, .int .i64 0, .string ⟨#[]⟩, .int .i64 0, .int .i64 0, .int .i64 0, .int .i64 0, .int .i64 0, .int .i64 0, .int .i64 0, .string ⟨#[]⟩, .string ⟨#[]⟩, .int .i64 0, .slice none 0 0] w ga gf gi #[.int .i64 K, .int .i64 F, .int .i64 C, .int .i64 S, .string H, .int .i64 k0, .int .i64 k1, .int .i64 k2, .int .i64 k3, .int .i64 k4, .int .i64 k5, .int .i64 k6, .string s7, .string s8, .int .i64 q, .slice a fl.length c] fi (wB.setRow gf #[.int .i64 K, .int .i64 F, .int .i64 C, .int .i64 S, .string H, .int .i64 k0, .int .i64 k1, .int .i64 k2, .int .i64 k3, .int .i64 k4, .int .i64 k5, .int .i64 k6, .string s7, .string s8, .int .i64 q, .slice a fl.length c])) := HSB.out.rowF #[.int .i64 K, .int .i64 F, .int .i64 C, .int .i64 S, .string H, .int .i64 k0, .int .i64 k1, .int .i64 k2, .int .i64 k3, .int .i64 k4, .int .i64 k5, .int .i64 k6, .string s7, .string s8, .int .i64 q, .slice a fl.length c]
            have HO0 : Hid (OwnW19 (wB.setRow gf #[.int .i64 K, .int .i64 F, .int .i64 C, .int .i64 S, .string H, .int .i64 k0, .int .i64 k1, .int .i64 k2, .int .i64 k3, .int .i64 k4, .int .i64 k5, .int .i64 k6, .string s7, .string s8, .int .i64 q, .slice a fl.length c]) (gi + 1) (.slice a fl.length c) fl) := owns_same HOB.out (fun j hj => setRow_other _ _ _ _ (by have h1 := (World.ownsRow.lt HOB.out j hj).1; have h3 := HSB.out.li; omega))
            obtain ⟨w0, hw0⟩ : ∃ w0, wB.setRow gf #[.int .i64 K, .int .i64 F, .int .i64 C, .int .i64 S, .string H, .int .i64 k0, .int .i64 k1, .int .i64 k2, .int .i64 k3, .int .i64 k4, .int .i64 k5, .int .i64 k6, .string s7, .string s8, .int .i64 q, .slice a fl.length c] = w0 := ⟨_, rfl⟩
            rw [hw0] at HS0 HO0
            clear HSB HOB hOB
            as_aux_lemma =>
            have HX0 : Hid (X = if Dn ≠ 0 ∨ fl.length ≠ N ∨ mayRb M (K, F, C, S, H, (k0, (k1, k2), (k3, k4), (k5, k6), s7, s8), q, fl) = false ∨ ¬ (¬ b.size = 0 ↔ K = 1) then (rec0, 190) else ((K, F, C, S, H, (k0, (k1, k2), (k3, k4), (k5, k6), s7, s8), q, fl), 0)) := by
              have h := HX0.out
              rw [if_neg (fun k => k.2 ho0), if_neg hb0] at h
              exact h
            obtain ⟨B, hB⟩ : ∃ B, mayRb M (K, F, C, S, H, (k0, (k1, k2), (k3, k4), (k5, k6), s7, s8), q, fl) = B := ⟨_, rfl⟩
            have CM : Hid (∀ (a : Option Addr) (c : Nat) (W : World), WrAt W a fl.length fl → _) := CM1.out
            rw [hB] at HX0 CM
            clear hB CM0 CM1
            have q0 : w0.cell? ⟨gi, 0, none⟩ = some (.string fi.1) := HS0.out.i.cell 0
            have q1 : w0.cell? ⟨gi, 1, none⟩ = some (.int .i64 fi.2) := HS0.out.i.cell 1
            go_wp2_with (first
              | (with_reducible refine wpList_storeBlk rfl 25 _ _ rfl wA.heap.size #[.int .i64 0, .int .i64 0, .int .i64 0, .int .i64 0, .int .i64 0, .int .i64 0, .int .i64 0, .string ⟨#[]⟩, .string ⟨#[]⟩] #[.int .i64 k0, .int .i64 k1, .int .i64 k2, .int .i64 k3, .int .i64 k4, .int .i64 k5, .int .i64 k6, .string s7, .string s8] (by with_unfolding_all rfl) (by with_unfolding_all rfl) XO rfl (by kernel_rfl) (by kernel_rfl) ?_)
              | (with_reducible refine wpList_storeAt rfl 25 _ _ rfl gf 5 28 #[.int .i64 K, .int .i64 F, .int .i64 C, .int .i64 S, .string H, .int .i64 0, .int .i64 0, .int .i64 0, .int .i64 0, .int .i64 0, .int .i64 0, .int .i64 0, .string ⟨#[]⟩, .string ⟨#[]⟩, .int .i64 q, .slice a fl.length c] #[.int .i64 k0, .int .i64 k1, .int .i64 k2, .int .i64 k3, .int .i64 k4, .int .i64 k5, .int .i64 k6, .string s7, .string s8] #[.int .i64 K, .int .i64 F, .int .i64 C, .int .i64 S, .string H, .int .i64 k0, .int .i64 k1, .int .i64 k2, .int .i64 k3, .int .i64 k4, .int .i64 k5, .int .i64 k6, .string s7, .string s8, .int .i64 q, .slice a fl.length c] (by with_unfolding_all rfl) (by with_unfolding_all rfl) HFB.out (by kernel_rfl) (by with_unfolding_all (show 5 + 9 ≤ 16; decide)) (by kernel_rfl) (by with_unfolding_all rfl) ?_))
            try rw [hw0]
            clear hw0 hwB XO HFB
            clear o0 o1 o2 o3 o4 o5 o6 o7 o8
            refine (CD.out w0).mono ?_
            rintro e w1 ⟨rfl, hb⟩
            have HT : Hid (RfS 28 #[.int .i64 0, .int .i64 0, .int .i64 0, .int .i64 0, .string ⟨#[]⟩, .int .i64 0, .int .i64 0, .int .i64 0, .int .i64 0, .int .i64 0, .int .i64 0, .int .i64 0, .string ⟨#[]⟩, .string ⟨#[]⟩, .int .i64 0, .slice none 0 0] w ga gf gi #[.int .i64 K, .int .i64 F, .int .i64 C, .int .i64 S, .string H, .int .i64 k0, .int .i64 k1, .int .i64 k2, .int .i64 k3, .int .i64 k4, .int .i64 k5, .int .i64 k6, .string s7, .string s8, .int .i64 q, .slice a fl.length c] fi w1) := HS0.out.on hb
            have HO1 : Hid (OwnW19 w1 (gi + 1) (.slice a fl.length c) fl) := owns_on HO0.out hb
            clear hb HS0 HO0 CD q0 q1
            by_cases hD : Dn = 0
            · have tD : (Dn != 0) = false := by simp [hD]
              by_cases hl : fl.length = N
              · have tl : ((fl.length : Int) != (N : Int)) = false := by rw [bne_eq_false_iff_eq]; omega
                have hIm : WrAt w1 a fl.length fl := HO1.out.its
                have HL0 : Hid (fl.length = N) := hl
                have HD0 : Hid (Dn = 0) := hD
                clear hl hD
                have d0 : w1.cell? ⟨gf, 0, none⟩ = some (.int .i64 K) := HT.out.f.cell 0
                have d1 : w1.cell? ⟨gf, 1, none⟩ = some (.int .i64 F) := HT.out.f.cell 1
                have d2 : w1.cell? ⟨gf, 2, none⟩ = some (.int .i64 C) := HT.out.f.cell 2
                have d3 : w1.cell? ⟨gf, 3, none⟩ = some (.int .i64 S) := HT.out.f.cell 3
                have d4 : w1.cell? ⟨gf, 4, none⟩ = some (.string H) := HT.out.f.cell 4
                have d5 : w1.cell? ⟨gf, 5, none⟩ = some (.int .i64 k0) := HT.out.f.cell 5
                have d6 : w1.cell? ⟨gf, 6, none⟩ = some (.int .i64 k1) := HT.out.f.cell 6
                have d7 : w1.cell? ⟨gf, 7, none⟩ = some (.int .i64 k2) := HT.out.f.cell 7
                have d8 : w1.cell? ⟨gf, 8, none⟩ = some (.int .i64 k3) := HT.out.f.cell 8
                have d9 : w1.cell? ⟨gf, 9, none⟩ = some (.int .i64 k4) := HT.out.f.cell 9
                have d10 : w1.cell? ⟨gf, 10, none⟩ = some (.int .i64 k5) := HT.out.f.cell 10
                have d11 : w1.cell? ⟨gf, 11, none⟩ = some (.int .i64 k6) := HT.out.f.cell 11
                have d12 : w1.cell? ⟨gf, 12, none⟩ = some (.string s7) := HT.out.f.cell 12
                have d13 : w1.cell? ⟨gf, 13, none⟩ = some (.string s8) := HT.out.f.cell 13
                have d14 : w1.cell? ⟨gf, 14, none⟩ = some (.int .i64 q) := HT.out.f.cell 14
                have d15 : w1.cell? ⟨gf, 15, none⟩ = some (.slice a fl.length c) := HT.out.f.cell 15
                go_wp2_with fail
                refine (CM.out a c w1 hIm).mono ?_
                rintro e w2 ⟨rfl, hb⟩
                have HT2 : Hid (RfS 28 #[.int .i64 0, .int .i64 0, .int .i64 0, .int .i64 0, .string ⟨#[]⟩, .int .i64 0, .int .i64 0, .int .i64 0, .int .i64 0, .int .i64 0, .int .i64 0, .int .i64 0, .string ⟨#[]⟩, .string ⟨#[]⟩, .int .i64 0, .slice none 0 0] w ga gf gi #[.int .i64 K, .int .i64 F, .int .i64 C, .int .i64 S, .string H, .int .i64 k0, .int .i64 k1, .int .i64 k2, .int .i64 k3, .int .i64 k4, .int .i64 k5, .int .i64 k6, .string s7, .string s8, .int .i64 q, .slice a fl.length c] fi w2) := HT.out.on hb
                have HO2 : Hid (OwnW19 w2 (gi + 1) (.slice a fl.length c) fl) := owns_on HO1.out hb
                clear hb HT HO1 CM hIm d0 d1 d2 d3 d4 d5 d6 d7 d8 d9 d10 d11 d12 d13 d14 d15
                have HZ : Hid (Blk w2 28 ga #[.int .i64 0, .int .i64 0, .int .i64 0, .int .i64 0, .string ⟨#[]⟩, .int .i64 0, .int .i64 0, .int .i64 0, .int .i64 0, .int .i64 0, .int .i64 0, .int .i64 0, .string ⟨#[]⟩, .string ⟨#[]⟩, .int .i64 0, .slice none 0 0]) := HT2.out.a
                have HB : Hid (Below w.heap.size w w2) := HT2.out.bel
                have HLA : Hid (w.heap.size ≤ ga) := HT2.out.la
                have tb : (b.toList.isEmpty) = false := isE_no b hb0
                have tb2 : (!b.toList.isEmpty) = true := by rw [tb]; rfl
                cases B with
                | false =>
                  clear HT2 HO2
                  obtain rfl : X = (rec0, 190) := by rw [HX0.out, if_pos (.inr (.inr (.inl rfl)))]
                  clear HX0
                  go_wp2_with (with_reducible refine wpList_storeBlk rfl 28 _ _ rfl ga #[.int .i64 0, .int .i64 0, .int .i64 0, .int .i64 0, .string ⟨#[]⟩, .int .i64 0, .int .i64 0, .int .i64 0, .int .i64 0, .int .i64 0, .int .i64 0, .int .i64 0, .string ⟨#[]⟩, .string ⟨#[]⟩, .int .i64 0, .slice none 0 0] #[.int .i64 0, .int .i64 0, .int .i64 0, .int .i64 0, .string ⟨#[]⟩, .int .i64 0, .int .i64 0, .int .i64 0, .int .i64 0, .int .i64 0, .int .i64 0, .int .i64 0, .string ⟨#[]⟩, .string ⟨#[]⟩, .int .i64 0, .slice none 0 0] (by with_unfolding_all rfl) (by with_unfolding_all rfl) HZ.out rfl (by kernel_rfl) (by kernel_rfl) ?_)
                  exact bodyPost_rowTmp rfl ga _ _ rfl rfl rfl (HZ.out.setRow _) _ Tryd.underlying28 rfl (by kernel_rfl) ⟨none, 0, rfl, Nat.le_refl _, by decide, ⟨rfl, .inl rfl⟩, below_setRow HB.out HLA.out _⟩
                | true =>
                  have d0' : w2.cell? ⟨gf, 0, none⟩ = some (.int .i64 K) := HT2.out.f.cell 0
                  by_cases hK : K = 1
                  · have tK : (K == 1) = true := by simp [hK]
                    have HK : Hid (K = 1) := hK
                    clear hK
                    have HAT : Hid (WrAt (w2.setRow ga #[.int .i64 K, .int .i64 F, .int .i64 C, .int .i64 S, .string H, .int .i64 k0, .int .i64 k1, .int .i64 k2, .int .i64 k3, .int .i64 k4, .int .i64 k5, .int .i64 k6, .string s7, .string s8, .int .i64 q, .slice a fl.length c]) a fl.length fl) := OwnW19.its (owns_same HO2.out (fun j hj => setRow_other _ _ _ _ (by have h1 := (World.ownsRow.lt HO2.out j hj).1; have h2 := HT2.out.lf; have h3 := HT2.out.li; omega)))
                    clear d0'
                    have d0 : w2.cell? ⟨gf, 0, none⟩ = some (.int .i64 K) := HT2.out.f.cell 0
                    have d1 : w2.cell? ⟨gf, 1, none⟩ = some (.int .i64 F) := HT2.out.f.cell 1
                    have d2 : w2.cell? ⟨gf, 2, none⟩ = some (.int .i64 C) := HT2.out.f.cell 2
                    have d3 : w2.cell? ⟨gf, 3, none⟩ = some (.int .i64 S) := HT2.out.f.cell 3
                    have d4 : w2.cell? ⟨gf, 4, none⟩ = some (.string H) := HT2.out.f.cell 4
                    have d5 : w2.cell? ⟨gf, 5, none⟩ = some (.int .i64 k0) := HT2.out.f.cell 5
                    have d6 : w2.cell? ⟨gf, 6, none⟩ = some (.int .i64 k1) := HT2.out.f.cell 6
                    have d7 : w2.cell? ⟨gf, 7, none⟩ = some (.int .i64 k2) := HT2.out.f.cell 7
                    have d8 : w2.cell? ⟨gf, 8, none⟩ = some (.int .i64 k3) := HT2.out.f.cell 8
                    have d9 : w2.cell? ⟨gf, 9, none⟩ = some (.int .i64 k4) := HT2.out.f.cell 9
                    have d10 : w2.cell? ⟨gf, 10, none⟩ = some (.int .i64 k5) := HT2.out.f.cell 10
                    have d11 : w2.cell? ⟨gf, 11, none⟩ = some (.int .i64 k6) := HT2.out.f.cell 11
                    have d12 : w2.cell? ⟨gf, 12, none⟩ = some (.string s7) := HT2.out.f.cell 12
                    have d13 : w2.cell? ⟨gf, 13, none⟩ = some (.string s8) := HT2.out.f.cell 13
                    have d14 : w2.cell? ⟨gf, 14, none⟩ = some (.int .i64 q) := HT2.out.f.cell 14
                    have d15 : w2.cell? ⟨gf, 15, none⟩ = some (.slice a fl.length c) := HT2.out.f.cell 15
                    obtain rfl : X = ((K, F, C, S, H, (k0, (k1, k2), (k3, k4), (k5, k6), s7, s8), q, fl), 0) := by
                      rw [HX0.out, if_neg]
                      rintro (e | e | e | e)
                      · exact e HD0.out
                      · exact e HL0.out
                      · cases e
                      · exact e ⟨fun _ => HK.out, fun _ => hb0⟩
                    clear HX0 HT2 HO2
                    go_wp2_with (with_reducible refine wpList_storeBlk rfl 28 _ _ rfl ga #[.int .i64 0, .int .i64 0, .int .i64 0, .int .i64 0, .string ⟨#[]⟩, .int .i64 0, .int .i64 0, .int .i64 0, .int .i64 0, .int .i64 0, .int .i64 0, .int .i64 0, .string ⟨#[]⟩, .string ⟨#[]⟩, .int .i64 0, .slice none 0 0] #[.int .i64 K, .int .i64 F, .int .i64 C, .int .i64 S, .string H, .int .i64 k0, .int .i64 k1, .int .i64 k2, .int .i64 k3, .int .i64 k4, .int .i64 k5, .int .i64 k6, .string s7, .string s8, .int .i64 q, .slice a fl.length c] (by with_unfolding_all rfl) (by with_unfolding_all rfl) HZ.out rfl (by kernel_rfl) (by kernel_rfl) ?_)
                    exact bodyPost_rowTmp rfl ga _ _ rfl rfl rfl (HZ.out.setRow _) _ Tryd.underlying28 rfl (by kernel_rfl) ⟨a, c, rfl, HLC.out.1, HLC.out.2, HAT.out, below_setRow HB.out HLA.out _⟩
                  · have tK : (K == 1) = false := by simp [hK]
                    have HK : Hid (¬ K = 1) := hK
                    clear hK
                    clear HT2 HO2
                    obtain rfl : X = (rec0, 190) := by rw [HX0.out, if_pos (.inr (.inr (.inr (fun e => HK.out (e.1 hb0)))))]
                    clear HX0
                    go_wp2_with (with_reducible refine wpList_storeBlk rfl 28 _ _ rfl ga #[.int .i64 0, .int .i64 0, .int .i64 0, .int .i64 0, .string ⟨#[]⟩, .int .i64 0, .int .i64 0, .int .i64 0, .int .i64 0, .int .i64 0, .int .i64 0, .int .i64 0, .string ⟨#[]⟩, .string ⟨#[]⟩, .int .i64 0, .slice none 0 0] #[.int .i64 0, .int .i64 0, .int .i64 0, .int .i64 0, .string ⟨#[]⟩, .int .i64 0, .int .i64 0, .int .i64 0, .int .i64 0, .int .i64 0, .int .i64 0, .int .i64 0, .string ⟨#[]⟩, .string ⟨#[]⟩, .int .i64 0, .slice none 0 0] (by with_unfolding_all rfl) (by with_unfolding_all rfl) HZ.out rfl (by kernel_rfl) (by kernel_rfl) ?_)
                    exact bodyPost_rowTmp rfl ga _ _ rfl rfl rfl (HZ.out.setRow _) _ Tryd.underlying28 rfl (by kernel_rfl) ⟨none, 0, rfl, Nat.le_refl _, by decide, ⟨rfl, .inl rfl⟩, below_setRow HB.out HLA.out _⟩
              · have tl : ((fl.length : Int) != (N : Int)) = true := by rw [bne_iff_ne]; omega
                have HZ : Hid (Blk w1 28 ga #[.int .i64 0, .int .i64 0, .int .i64 0, .int .i64 0, .string ⟨#[]⟩, .int .i64 0, .int .i64 0, .int .i64 0, .int .i64 0, .int .i64 0, .int .i64 0, .int .i64 0, .string ⟨#[]⟩, .string ⟨#[]⟩, .int .i64 0, .slice none 0 0]) := HT.out.a
                have HB : Hid (Below w.heap.size w w1) := HT.out.bel
                have HLA : Hid (w.heap.size ≤ ga) := HT.out.la
                have d15 : w1.cell? ⟨gf, 15, none⟩ = some (.slice a fl.length c) := HT.out.f.cell 15
                clear HO1 HT CM hD
                obtain rfl : X = (rec0, 190) := by rw [HX0.out, if_pos (.inr (.inl hl))]
                clear HX0
                go_wp2_with (with_reducible refine wpList_storeBlk rfl 28 _ _ rfl ga #[.int .i64 0, .int .i64 0, .int .i64 0, .int .i64 0, .string ⟨#[]⟩, .int .i64 0, .int .i64 0, .int .i64 0, .int .i64 0, .int .i64 0, .int .i64 0, .int .i64 0, .string ⟨#[]⟩, .string ⟨#[]⟩, .int .i64 0, .slice none 0 0] #[.int .i64 0, .int .i64 0, .int .i64 0, .int .i64 0, .string ⟨#[]⟩, .int .i64 0, .int .i64 0, .int .i64 0, .int .i64 0, .int .i64 0, .int .i64 0, .int .i64 0, .string ⟨#[]⟩, .string ⟨#[]⟩, .int .i64 0, .slice none 0 0] (by with_unfolding_all rfl) (by with_unfolding_all rfl) HZ.out rfl (by kernel_rfl) (by kernel_rfl) ?_)
                exact bodyPost_rowTmp rfl ga _ _ rfl rfl rfl (HZ.out.setRow _) _ Tryd.underlying28 rfl (by kernel_rfl) ⟨none, 0, rfl, Nat.le_refl _, by decide, ⟨rfl, .inl rfl⟩, below_setRow HB.out HLA.out _⟩
            · have tD : (Dn != 0) = true := by simp [hD]
              have HZ : Hid (Blk w1 28 ga #[.int .i64 0, .int .i64 0, .int .i64 0, .int .i64 0, .string ⟨#[]⟩, .int .i64 0, .int .i64 0, .int .i64 0, .int .i64 0, .int .i64 0, .int .i64 0, .int .i64 0, .string ⟨#[]⟩, .string ⟨#[]⟩, .int .i64 0, .slice none 0 0]) := HT.out.a
              have HB : Hid (Below w.heap.size w w1) := HT.out.bel
              have HLA : Hid (w.heap.size ≤ ga) := HT.out.la
              clear HO1 HT CM
              obtain rfl : X = (rec0, 190) := by rw [HX0.out, if_pos (.inl hD)]
              clear HX0
              go_wp2_with (with_reducible refine wpList_storeBlk rfl 28 _ _ rfl ga #[.int .i64 0, .int .i64 0, .int .i64 0, .int .i64 0, .string ⟨#[]⟩, .int .i64 0, .int .i64 0, .int .i64 0, .int .i64 0, .int .i64 0, .int .i64 0, .int .i64 0, .string ⟨#[]⟩, .string ⟨#[]⟩, .int .i64 0, .slice none 0 0] #[.int .i64 0, .int .i64 0, .int .i64 0, .int .i64 0, .string ⟨#[]⟩, .int .i64 0, .int .i64 0, .int .i64 0, .int .i64 0, .int .i64 0, .int .i64 0, .int .i64 0, .string ⟨#[]⟩, .string ⟨#[]⟩, .int .i64 0, .slice none 0 0] (by with_unfolding_all rfl) (by with_unfolding_all rfl) HZ.out rfl (by kernel_rfl) (by kernel_rfl) ?_)
              exact bodyPost_rowTmp rfl ga _ _ rfl rfl rfl (HZ.out.setRow _) _ Tryd.underlying28 rfl (by kernel_rfl) ⟨none, 0, rfl, Nat.le_refl _, by decide, ⟨rfl, .inl rfl⟩, below_setRow HB.out HLA.out _⟩
          · have toe : (oe != 0) = true := by simp [ho0]
            have HZ : Hid (Blk wB 28 ga #[.int .i64 0, .int .i64 0, .int .i64 0, .int .i64 0, .string ⟨#[]⟩, .int .i64 0, .int .i64 0, .int .i64 0, .int .i64 0, .int .i64 0, .int .i64 0, .int .i64 0, .string ⟨#[]⟩, .string ⟨#[]⟩, .int .i64 0, .slice none 0 0]) := HSB.out.a
            have HB : Hid (Below w.heap.size w wB) := HSB.out.bel
            have HLA : Hid (w.heap.size ≤ ga) := HSB.out.la
            clear HSB HOB hOB CD CM0 CM1
            obtain rfl : X = (rec0, 190) := by rw [HX0.out, if_pos ⟨hb0, ho0⟩]
            clear HX0
            go_wp2_with (first
              | (with_reducible refine wpList_storeBlk rfl 25 _ _ rfl wA.heap.size #[.int .i64 0, .int .i64 0, .int .i64 0, .int .i64 0, .int .i64 0, .int .i64 0, .int .i64 0, .string ⟨#[]⟩, .string ⟨#[]⟩] #[.int .i64 k0, .int .i64 k1, .int .i64 k2, .int .i64 k3, .int .i64 k4, .int .i64 k5, .int .i64 k6, .string s7, .string s8] (by with_unfolding_all rfl) (by with_unfolding_all rfl) XO rfl (by kernel_rfl) (by kernel_rfl) ?_)
              | (with_reducible refine wpList_storeBlk rfl 28 _ _ rfl ga #[.int .i64 0, .int .i64 0, .int .i64 0, .int .i64 0, .string ⟨#[]⟩, .int .i64 0, .int .i64 0, .int .i64 0, .int .i64 0, .int .i64 0, .int .i64 0, .int .i64 0, .string ⟨#[]⟩, .string ⟨#[]⟩, .int .i64 0, .slice none 0 0] #[.int .i64 0, .int .i64 0, .int .i64 0, .int .i64 0, .string ⟨#[]⟩, .int .i64 0, .int .i64 0, .int .i64 0, .int .i64 0, .int .i64 0, .int .i64 0, .int .i64 0, .string ⟨#[]⟩, .string ⟨#[]⟩, .int .i64 0, .slice none 0 0] (by with_unfolding_all rfl) (by with_unfolding_all rfl) HZ.out rfl (by kernel_rfl) (by kernel_rfl) ?_))
            exact bodyPost_rowTmp rfl ga _ _ rfl rfl rfl (HZ.out.setRow _) _ Tryd.underlying28 rfl (by kernel_rfl) ⟨none, 0, rfl, Nat.le_refl _, by decide, ⟨rfl, .inl rfl⟩, below_setRow HB.out HLA.out _⟩
      · have b0 : ¬ ((k : Int) < (N : Int)) := by omega
        as_aux_lemma =>
        by_cases hb0 : b.size = 0
        · have tb : (b.toList.isEmpty) = true := isE_yes b hb0
          have tb2 : (!b.toList.isEmpty) = false := by rw [tb]; rfl
          obtain ⟨w0, hw0⟩ : ∃ w0, wr = w0 := ⟨_, rfl⟩
          have HS0 : Hid (RfS 28 #[.int .i64 0, .int .i64 0, .int .i64 0, .int .i64 0, .string ⟨#[]⟩, .int .i64 0, .int .i64 0, .int .i64 0, .int .i64 0, .int .i64 0, .int .i64 0, .int .i64 0, .string ⟨#[]⟩, .string ⟨#[]⟩, .int .i64 0, .slice none 0 0] w ga gf gi #[.int .i64 K, .int .i64 F, .int .i64 C, .int .i64 S, .string H, .int .i64 0, .int .i64 0, .int .i64 0, .int .i64 0, .int .i64 0, .int .i64 0, .int .i64 0, .string ⟨#[]⟩, .string ⟨#[]⟩, .int .i64 q, .slice a fl.length c] fi w0) := by show RfS _ _ _ _ _ _ _ _ _; rw [← hw0]; exact HS.out
          have HO0 : Hid (OwnW19 w0 (gi + 1) (.slice a fl.length c) fl) := by show OwnW19 _ _ _ _; rw [← hw0]; exact HOW.out
          clear HS HOW q0 q1 CT
          rw [hw0]
          clear hw0
          as_aux_lemma =>
          have HX0 : Hid (X = if Dn ≠ 0 ∨ fl.length ≠ N ∨ mayRb M (K, F, C, S, H, op0, q, fl) = false ∨ ¬ (¬ b.size = 0 ↔ K = 1) then (rec0, 190) else ((K, F, C, S, H, op0, q, fl), 0)) := by
            have h := HX0.out
            rw [if_neg (fun k => k.1 hb0), if_pos hb0] at h
            exact h
          obtain ⟨B, hB⟩ : ∃ B, mayRb M (K, F, C, S, H, op0, q, fl) = B := ⟨_, rfl⟩
          have CM : Hid (∀ (a : Option Addr) (c : Nat) (W : World), WrAt W a fl.length fl → _) := CM0.out
          rw [hB] at HX0 CM
          clear hB CM0 CM1
          have q0 : w0.cell? ⟨gi, 0, none⟩ = some (.string fi.1) := HS0.out.i.cell 0
          have q1 : w0.cell? ⟨gi, 1, none⟩ = some (.int .i64 fi.2) := HS0.out.i.cell 1
          go_wp2_with fail
          refine (CD.out w0).mono ?_
          rintro e w1 ⟨rfl, hb⟩
          have HT : Hid (RfS 28 #[.int .i64 0, .int .i64 0, .int .i64 0, .int .i64 0, .string ⟨#[]⟩, .int .i64 0, .int .i64 0, .int .i64 0, .int .i64 0, .int .i64 0, .int .i64 0, .int .i64 0, .string ⟨#[]⟩, .string ⟨#[]⟩, .int .i64 0, .slice none 0 0] w ga gf gi #[.int .i64 K, .int .i64 F, .int .i64 C, .int .i64 S, .string H, .int .i64 0, .int .i64 0, .int .i64 0, .int .i64 0, .int .i64 0, .int .i64 0, .int .i64 0, .string ⟨#[]⟩, .string ⟨#[]⟩, .int .i64 q, .slice a fl.length c] fi w1) := HS0.out.on hb
          have HO1 : Hid (OwnW19 w1 (gi + 1) (.slice a fl.length c) fl) := owns_on HO0.out hb
          clear hb HS0 HO0 CD q0 q1
          by_cases hD : Dn = 0
          · have tD : (Dn != 0) = false := by simp [hD]
            by_cases hl : fl.length = N
            · have tl : ((fl.length : Int) != (N : Int)) = false := by rw [bne_eq_false_iff_eq]; omega
              have hIm : WrAt w1 a fl.length fl := HO1.out.its
              have HL0 : Hid (fl.length = N) := hl
              have HD0 : Hid (Dn = 0) := hD
              clear hl hD
              have d0 : w1.cell? ⟨gf, 0, none⟩ = some (.int .i64 K) := HT.out.f.cell 0
              have d1 : w1.cell? ⟨gf, 1, none⟩ = some (.int .i64 F) := HT.out.f.cell 1
              have d2 : w1.cell? ⟨gf, 2, none⟩ = some (.int .i64 C) := HT.out.f.cell 2
              have d3 : w1.cell? ⟨gf, 3, none⟩ = some (.int .i64 S) := HT.out.f.cell 3
              have d4 : w1.cell? ⟨gf, 4, none⟩ = some (.string H) := HT.out.f.cell 4
              have d5 : w1.cell? ⟨gf, 5, none⟩ = some (.int .i64 0) := HT.out.f.cell 5
              have d6 : w1.cell? ⟨gf, 6, none⟩ = some (.int .i64 0) := HT.out.f.cell 6
              have d7 : w1.cell? ⟨gf, 7, none⟩ = some (.int .i64 0) := HT.out.f.cell 7
              have d8 : w1.cell? ⟨gf, 8, none⟩ = some (.int .i64 0) := HT.out.f.cell 8
              have d9 : w1.cell? ⟨gf, 9, none⟩ = some (.int .i64 0) := HT.out.f.cell 9
              have d10 : w1.cell? ⟨gf, 10, none⟩ = some (.int .i64 0) := HT.out.f.cell 10
              have d11 : w1.cell? ⟨gf, 11, none⟩ = some (.int .i64 0) := HT.out.f.cell 11
              have d12 : w1.cell? ⟨gf, 12, none⟩ = some (.string ⟨#[]⟩) := HT.out.f.cell 12
              have d13 : w1.cell? ⟨gf, 13, none⟩ = some (.string ⟨#[]⟩) := HT.out.f.cell 13
              have d14 : w1.cell? ⟨gf, 14, none⟩ = some (.int .i64 q) := HT.out.f.cell 14
              have d15 : w1.cell? ⟨gf, 15, none⟩ = some (.slice a fl.length c) := HT.out.f.cell 15
              go_wp2_with fail
              refine (CM.out a c w1 hIm).mono ?_
              rintro e w2 ⟨rfl, hb⟩
              have HT2 : Hid (RfS 28 #[.int .i64 0, .int .i64 0, .int .i64 0, .int .i64 0, .string ⟨#[]⟩, .int .i64 0, .int .i64 0, .int .i64 0, .int .i64 0, .int .i64 0, .int .i64 0, .int .i64 0, .string ⟨#[]⟩, .string ⟨#[]⟩, .int .i64 0, .slice none 0 0] w ga gf gi #[.int .i64 K, .int .i64 F, .int .i64 C, .int .i64 S, .string H, .int .i64 0, .int .i64 0, .int .i64 0, .int .i64 0, .int .i64 0, .int .i64 0, .int .i64 0, .string ⟨#[]⟩, .string ⟨#[]⟩, .int .i64 q, .slice a fl.length c] fi w2) := HT.out.on hb
              have HO2 : Hid (OwnW19 w2 (gi + 1) (.slice a fl.length c) fl) := owns_on HO1.out hb
              clear hb HT HO1 CM hIm d0 d1 d2 d3 d4 d5 d6 d7 d8 d9 d10 d11 d12 d13 d14 d15
              have HZ : Hid (Blk w2 28 ga #[.int .i64 0, .int .i64 0, .int .i64 0, .int .i64 0, .string ⟨#[]⟩, .int .i64 0, .int .i64 0, .int .i64 0, .int .i64 0, .int .i64 0, .int .i64 0, .int .i64 0, .string ⟨#[]⟩, .string ⟨#[]⟩, .int .i64 0, .slice none 0 0]) := HT2.out.a
              have HB : Hid (Below w.heap.size w w2) := HT2.out.bel
              have HLA : Hid (w.heap.size ≤ ga) := HT2.out.la
              have tb : (b.toList.isEmpty) = true := isE_yes b hb0
              have tb2 : (!b.toList.isEmpty) = false := by rw [tb]; rfl
              cases B with
              | false =>
                clear HT2 HO2
                obtain rfl : X = (rec0, 190) := by rw [HX0.out, if_pos (.inr (.inr (.inl rfl)))]
                clear HX0
                go_wp2_with (with_reducible refine wpList_storeBlk rfl 28 _ _ rfl ga #[.int .i64 0, .int .i64 0, .int .i64 0, .int .i64 0, .string ⟨#[]⟩, .int .i64 0, .int .i64 0, .int .i64 0, .int .i64 0, .int .i64 0, .int .i64 0, .int .i64 0, .string ⟨#[]⟩, .string ⟨#[]⟩, .int .i64 0, .slice none 0 0] #[.int .i64 0, .int .i64 0, .int .i64 0, .int .i64 0, .string ⟨#[]⟩, .int .i64 0, .int .i64 0, .int .i64 0, .int .i64 0, .int .i64 0, .int .i64 0, .int .i64 0, .string ⟨#[]⟩, .string ⟨#[]⟩, .int .i64 0, .slice none 0 0] (by with_unfolding_all rfl) (by with_unfolding_all rfl) HZ.out rfl (by kernel_rfl) (by kernel_rfl) ?_)
                exact bodyPost_rowTmp rfl ga _ _ rfl rfl rfl (HZ.out.setRow _) _ Tryd.underlying28 rfl (by kernel_rfl) ⟨none, 0, rfl, Nat.le_refl _, by decide, ⟨rfl, .inl rfl⟩, below_setRow HB.out HLA.out _⟩
              | true =>
                have d0' : w2.cell? ⟨gf, 0, none⟩ = some (.int .i64 K) := HT2.out.f.cell 0
                by_cases hK : K = 1
                · have tK : (K == 1) = true := by simp [hK]
                  have HK : Hid (K = 1) := hK
                  clear hK
                  clear HT2 HO2
                  obtain rfl : X = (rec0, 190) := by rw [HX0.out, if_pos (.inr (.inr (.inr (fun e => (e.2 HK.out) hb0))))]
                  clear HX0
                  go_wp2_with (with_reducible refine wpList_storeBlk rfl 28 _ _ rfl ga #[.int .i64 0, .int .i64 0, .int .i64 0, .int .i64 0, .string ⟨#[]⟩, .int .i64 0, .int .i64 0, .int .i64 0, .int .i64 0, .int .i64 0, .int .i64 0, .int .i64 0, .string ⟨#[]⟩, .string ⟨#[]⟩, .int .i64 0, .slice none 0 0] #[.int .i64 0, .int .i64 0, .int .i64 0, .int .i64 0, .string ⟨#[]⟩, .int .i64 0, .int .i64 0, .int .i64 0, .int .i64 0, .int .i64 0, .int .i64 0, .int .i64 0, .string ⟨#[]⟩, .string ⟨#[]⟩, .int .i64 0, .slice none 0 0] (by with_unfolding_all rfl) (by with_unfolding_all rfl) HZ.out rfl (by kernel_rfl) (by kernel_rfl) ?_)
                  exact bodyPost_rowTmp rfl ga _ _ rfl rfl rfl (HZ.out.setRow _) _ Tryd.underlying28 rfl (by kernel_rfl) ⟨none, 0, rfl, Nat.le_refl _, by decide, ⟨rfl, .inl rfl⟩, below_setRow HB.out HLA.out _⟩
                · have tK : (K == 1) = false := by simp [hK]
                  have HK : Hid (¬ K = 1) := hK
                  clear hK
                  have HAT : Hid (WrAt (w2.setRow ga #[.int .i64 K, .int .i64 F, .int .i64 C, .int .i64 S, .string H, .int .i64 0, .int .i64 0, .int .i64 0, .int .i64 0, .int .i64 0, .int .i64 0, .int .i64 0, .string ⟨#[]⟩, .string ⟨#[]⟩, .int .i64 q, .slice a fl.length c]) a fl.length fl) := OwnW19.its (owns_same HO2.out (fun j hj => setRow_other _ _ _ _ (by have h1 := (World.ownsRow.lt HO2.out j hj).1; have h2 := HT2.out.lf; have h3 := HT2.out.li; omega)))
                  clear d0'
                  have d0 : w2.cell? ⟨gf, 0, none⟩ = some (.int .i64 K) := HT2.out.f.cell 0
                  have d1 : w2.cell? ⟨gf, 1, none⟩ = some (.int .i64 F) := HT2.out.f.cell 1
                  have d2 : w2.cell? ⟨gf, 2, none⟩ = some (.int .i64 C) := HT2.out.f.cell 2
                  have d3 : w2.cell? ⟨gf, 3, none⟩ = some (.int .i64 S) := HT2.out.f.cell 3
                  have d4 : w2.cell? ⟨gf, 4, none⟩ = some (.string H) := HT2.out.f.cell 4
                  have d5 : w2.cell? ⟨gf, 5, none⟩ = some (.int .i64 0) := HT2.out.f.cell 5
                  have d6 : w2.cell? ⟨gf, 6, none⟩ = some (.int .i64 0) := HT2.out.f.cell 6
                  have d7 : w2.cell? ⟨gf, 7, none⟩ = some (.int .i64 0) := HT2.out.f.cell 7
                  have d8 : w2.cell? ⟨gf, 8, none⟩ = some (.int .i64 0) := HT2.out.f.cell 8
                  have d9 : w2.cell? ⟨gf, 9, none⟩ = some (.int .i64 0) := HT2.out.f.cell 9
                  have d10 : w2.cell? ⟨gf, 10, none⟩ = some (.int .i64 0) := HT2.out.f.cell 10
                  have d11 : w2.cell? ⟨gf, 11, none⟩ = some (.int .i64 0) := HT2.out.f.cell 11
                  have d12 : w2.cell? ⟨gf, 12, none⟩ = some (.string ⟨#[]⟩) := HT2.out.f.cell 12
                  have d13 : w2.cell? ⟨gf, 13, none⟩ = some (.string ⟨#[]⟩) := HT2.out.f.cell 13
                  have d14 : w2.cell? ⟨gf, 14, none⟩ = some (.int .i64 q) := HT2.out.f.cell 14
                  have d15 : w2.cell? ⟨gf, 15, none⟩ = some (.slice a fl.length c) := HT2.out.f.cell 15
                  obtain rfl : X = ((K, F, C, S, H, op0, q, fl), 0) := by
                    rw [HX0.out, if_neg]
                    rintro (e | e | e | e)
                    · exact e HD0.out
                    · exact e HL0.out
                    · cases e
                    · exact e ⟨fun k => absurd hb0 k, fun k => absurd k HK.out⟩
                  clear HX0 HT2 HO2
                  go_wp2_with (with_reducible refine wpList_storeBlk rfl 28 _ _ rfl ga #[.int .i64 0, .int .i64 0, .int .i64 0, .int .i64 0, .string ⟨#[]⟩, .int .i64 0, .int .i64 0, .int .i64 0, .int .i64 0, .int .i64 0, .int .i64 0, .int .i64 0, .string ⟨#[]⟩, .string ⟨#[]⟩, .int .i64 0, .slice none 0 0] #[.int .i64 K, .int .i64 F, .int .i64 C, .int .i64 S, .string H, .int .i64 0, .int .i64 0, .int .i64 0, .int .i64 0, .int .i64 0, .int .i64 0, .int .i64 0, .string ⟨#[]⟩, .string ⟨#[]⟩, .int .i64 q, .slice a fl.length c] (by with_unfolding_all rfl) (by with_unfolding_all rfl) HZ.out rfl (by kernel_rfl) (by kernel_rfl) ?_)
                  exact bodyPost_rowTmp rfl ga _ _ rfl rfl rfl (HZ.out.setRow _) _ Tryd.underlying28 rfl (by kernel_rfl) ⟨a, c, rfl, HLC.out.1, HLC.out.2, HAT.out, below_setRow HB.out HLA.out _⟩
            · have tl : ((fl.length : Int) != (N : Int)) = true := by rw [bne_iff_ne]; omega
              have HZ : Hid (Blk w1 28 ga #[.int .i64 0, .int .i64 0, .int .i64 0, .int .i64 0, .string ⟨#[]⟩, .int .i64 0, .int .i64 0, .int .i64 0, .int .i64 0, .int .i64 0, .int .i64 0, .int .i64 0, .string ⟨#[]⟩, .string ⟨#[]⟩, .int .i64 0, .slice none 0 0]) := HT.out.a
              have HB : Hid (Below w.heap.size w w1) := HT.out.bel
              have HLA : Hid (w.heap.size ≤ ga) := HT.out.la
              have d15 : w1.cell? ⟨gf, 15, none⟩ = some (.slice a fl.length c) := HT.out.f.cell 15
              clear HO1 HT CM hD
              obtain rfl : X = (rec0, 190) := by rw [HX0.out, if_pos (.inr (.inl hl))]
              clear HX0
              go_wp2_with (with_reducible refine wpList_storeBlk rfl 28 _ _ rfl ga #[.int .i64 0, .int .i64 0, .int .i64 0, .int .i64 0, .string ⟨#[]⟩, .int .i64 0, .int .i64 0, .int .i64 0, .int .i64 0, .int .i64 0, .int .i64 0, .int .i64 0, .string ⟨#[]⟩, .string ⟨#[]⟩, .int .i64 0, .slice none 0 0] #[.int .i64 0, .int .i64 0, .int .i64 0, .int .i64 0, .string ⟨#[]⟩, .int .i64 0, .int .i64 0, .int .i64 0, .int .i64 0, .int .i64 0, .int .i64 0, .int .i64 0, .string ⟨#[]⟩, .string ⟨#[]⟩, .int .i64 0, .slice none 0 0] (by with_unfolding_all rfl) (by with_unfolding_all rfl) HZ.out rfl (by kernel_rfl) (by kernel_rfl) ?_)
              exact bodyPost_rowTmp rfl ga _ _ rfl rfl rfl (HZ.out.setRow _) _ Tryd.underlying28 rfl (by kernel_rfl) ⟨none, 0, rfl, Nat.le_refl _, by decide, ⟨rfl, .inl rfl⟩, below_setRow HB.out HLA.out _⟩
          · have tD : (Dn != 0) = true := by simp [hD]
            have HZ : Hid (Blk w1 28 ga #[.int .i64 0, .int .i64 0, .int .i64 0, .int .i64 0, .string ⟨#[]⟩, .int .i64 0, .int .i64 0, .int .i64 0, .int .i64 0, .int .i64 0, .int .i64 0, .int .i64 0, .string ⟨#[]⟩, .string ⟨#[]⟩, .int .i64 0, .slice none 0 0]) := HT.out.a
            have HB : Hid (Below w.heap.size w w1) := HT.out.bel
            have HLA : Hid (w.heap.size ≤ ga) := HT.out.la
            clear HO1 HT CM
            obtain rfl : X = (rec0, 190) := by rw [HX0.out, if_pos (.inl hD)]
            clear HX0
            go_wp2_with (with_reducible refine wpList_storeBlk rfl 28 _ _ rfl ga #[.int .i64 0, .int .i64 0, .int .i64 0, .int .i64 0, .string ⟨#[]⟩, .int .i64 0, .int .i64 0, .int .i64 0, .int .i64 0, .int .i64 0, .int .i64 0, .int .i64 0, .string ⟨#[]⟩, .string ⟨#[]⟩, .int .i64 0, .slice none 0 0] #[.int .i64 0, .int .i64 0, .int .i64 0, .int .i64 0, .string ⟨#[]⟩, .int .i64 0, .int .i64 0, .int .i64 0, .int .i64 0, .int .i64 0, .int .i64 0, .int .i64 0, .string ⟨#[]⟩, .string ⟨#[]⟩, .int .i64 0, .slice none 0 0] (by with_unfolding_all rfl) (by with_unfolding_all rfl) HZ.out rfl (by kernel_rfl) (by kernel_rfl) ?_)
            exact bodyPost_rowTmp rfl ga _ _ rfl rfl rfl (HZ.out.setRow _) _ Tryd.underlying28 rfl (by kernel_rfl) ⟨none, 0, rfl, Nat.le_refl _, by decide, ⟨rfl, .inl rfl⟩, below_setRow HB.out HLA.out _⟩
        · have tb : (b.toList.isEmpty) = false := isE_no b hb0
          have tb2 : (!b.toList.isEmpty) = true := by rw [tb]; rfl
          go_wp2_with fail
          refine (CT.out wr).mono ?_
          rintro e wA ⟨rfl, hbA⟩
          have HSA : Hid (RfS 28 #[.int .i64 0, .int .i64 0, .int .i64 0, .int .i64 0, .string ⟨#[]⟩, .int .i64 0, .int .i64 0, .int .i64 0, .int .i64 0, .int .i64 0, .int .i64 0, .int .i64 0, .string ⟨#[]⟩, .string ⟨#[]⟩, .int .i64 0, .slice none 0 0] w ga gf gi #[.int .i64 K, .int .i64 F, .int .i64 C, .int .i64 S, .string H, .int .i64 0, .int .i64 0, .int .i64 0, .int .i64 0, .int .i64 0, .int .i64 0, .int .i64 0, .string ⟨#[]⟩, .string ⟨#[]⟩, .int .i64 q, .slice a fl.length c] fi wA) := HS.out.on hbA
          have HOA : Hid (OwnW19 wA (gi + 1) (.slice a fl.length c) fl) := owns_on HOW.out hbA
          clear hbA HS HOW q0 q1 CT
          have XO : Blk (wA.alloc (.cells #[.int .i64 0, .int .i64 0, .int .i64 0, .int .i64 0, .int .i64 0, .int .i64 0, .int .i64 0, .string ⟨#[]⟩, .string ⟨#[]⟩] 25)) 25 wA.heap.size #[.int .i64 0, .int .i64 0, .int .i64 0, .int .i64 0, .int .i64 0, .int .i64 0, .int .i64 0, .string ⟨#[]⟩, .string ⟨#[]⟩] := Blk.new _ _ _
          have hOB : Blk ((wA.alloc (.cells #[.int .i64 0, .int .i64 0, .int .i64 0, .int .i64 0, .int .i64 0, .int .i64 0, .int .i64 0, .string ⟨#[]⟩, .string ⟨#[]⟩] 25)).setRow wA.heap.size #[.int .i64 k0, .int .i64 k1, .int .i64 k2, .int .i64 k3, .int .i64 k4, .int .i64 k5, .int .i64 k6, .string s7, .string s8]) 25 wA.heap.size #[.int .i64 k0, .int .i64 k1, .int .i64 k2, .int .i64 k3, .int .i64 k4, .int .i64 k5, .int .i64 k6, .string s7, .string s8] := XO.setRow _
          have hbB : Below wA.heap.size wA ((wA.alloc (.cells #[.int .i64 0, .int .i64 0, .int .i64 0, .int .i64 0, .int .i64 0, .int .i64 0, .int .i64 0, .string ⟨#[]⟩, .string ⟨#[]⟩] 25)).setRow wA.heap.size #[.int .i64 k0, .int .i64 k1, .int .i64 k2, .int .i64 k3, .int .i64 k4, .int .i64 k5, .int .i64 k6, .string s7, .string s8]) := below_setRow (below_new _ _) (Nat.le_refl _) _
          obtain ⟨wB, hwB⟩ : ∃ wB, (wA.alloc (.cells #[.int .i64 0, .int .i64 0, .int .i64 0, .int .i64 0, .int .i64 0, .int .i64 0, .int .i64 0, .string ⟨#[]⟩, .string ⟨#[]⟩] 25)).setRow wA.heap.size #[.int .i64 k0, .int .i64 k1, .int .i64 k2, .int .i64 k3, .int .i64 k4, .int .i64 k5, .int .i64 k6, .string s7, .string s8] = wB := ⟨_, rfl⟩
          rw [hwB] at hOB hbB
          have HSB : Hid (RfS 28 #[.int .i64 0, .int .i64 0, .int .i64 0, .int .i64 0, .string ⟨#[]⟩, .int .i64 0, .int .i64 0, .int .i64 0, .int .i64 0, .int .i64 0, .int .i64 0, .int .i64 0, .string ⟨#[]⟩, .string ⟨#[]⟩, .int .i64 0, .slice none 0 0] w ga gf gi #[.int .i64 K, .int .i64 F, .int .i64 C, .int .i64 S, .string H, .int .i64 0, .int .i64 0, .int .i64 0, .int .i64 0, .int .i64 0, .int .i64 0, .int .i64 0, .string ⟨#[]⟩, .string ⟨#[]⟩, .int .i64 q, .slice a fl.length c] fi wB) := HSA.out.on hbB
          have HOB : Hid (OwnW19 wB (gi + 1) (.slice a fl.length c) fl) := owns_on HOA.out hbB
          clear HSA HOA hbB
          by_cases ho0 : oe = 0
          · have toe : (oe != 0) = false := by simp [ho0]
            have o0 : wB.cell? ⟨wA.heap.size, 0, none⟩ = some (.int .i64 k0) := hOB.cell 0
            have o1 : wB.cell? ⟨wA.heap.size, 1, none⟩ = some (.int .i64 k1) := hOB.cell 1
            have o2 : wB.cell? ⟨wA.heap.size, 2, none⟩ = some (.int .i64 k2) := hOB.cell 2
            have o3 : wB.cell? ⟨wA.heap.size, 3, none⟩ = some (.int .i64 k3) := hOB.cell 3
            have o4 : wB.cell? ⟨wA.heap.size, 4, none⟩ = some (.int .i64 k4) := hOB.cell 4
            have o5 : wB.cell? ⟨wA.heap.size, 5, none⟩ = some (.int .i64 k5) := hOB.cell 5
            have o6 : wB.cell? ⟨wA.heap.size, 6, none⟩ = some (.int .i64 k6) := hOB.cell 6
            have o7 : wB.cell? ⟨wA.heap.size, 7, none⟩ = some (.string s7) := hOB.cell 7
            have o8 : wB.cell? ⟨wA.heap.size, 8, none⟩ = some (.string s8) := hOB.cell 8
            have HFB : Hid (Blk wB 28 gf #[.int .i64 K, .int .i64 F, .int .i64 C, .int .i64 S, .string H, .int .i64 0, .int .i64 0, .int .i64 0, .int .i64 0, .int .i64 0, .int .i64 0, .int .i64 0, .string ⟨#[]⟩, .string ⟨#[]⟩, .int .i64 q, .slice a fl.length c]) := HSB.out.f
            have HS0 : Hid (RfS 28 #[.int .i64 0, .int .i64 0, .int .i64 0, .int .i64 0, .string ⟨#[]⟩, .int .i64 0, .int .i64 0, .int .i64 0, .int .i64 0, .int .i64 0, .int .i64 0, .int .i64 0, .string ⟨#[]⟩, .string ⟨#[]⟩, .int .i64 0, .slice none 0 0] w ga gf gi #[.int .i64 K, .int .i64 F, .int .i64 C, .int .i64 S, .string H, .int .i64 k0, .int .i64 k1, .int .i64 k2, .int .i64 k3, .int .i64 k4, .int .i64 k5, .int .i64 k6, .string s7, .string s8, .int .i64 q, .slice a fl.length c] fi (wB.setRow gf #[.int .i64 K, .int .i64 F, .int .i64 C, .int .i64 S, .string H, .int .i64 k0, .int .i64 k1, .int .i64 k2, .int .i64 k3, .int .i64 k4, .int .i64 k5, .int .i64 k6, .string s7, .string s8, .int .i64 q, .slice a fl.length c])) := HSB.out.rowF #[.int .i64 K, .int .i64 F, .int .i64 C, .int .i64 S, .string H, .int .i64 k0, .int .i64 k1, .int .i64 k2, .int .i64 k3, .int .i64 k4, .int .i64 k5, .int .i64 k6, .string s7, .string s8, .int .i64 q, .slice a fl.length c]
            have HO0 : Hid (OwnW19 (wB.setRow gf #[.int .i64 K, .int .i64 F, .int .i64 C, .int .i64 S, .string H, .int .i64 k0, .int .i64 k1, .int .i64 k2, .int .i64 k3, .int .i64 k4, .int .i64 k5, .int .i64 k6, .string s7, .string s8, .int .i64 q, .slice a fl.length c]) (gi + 1) (.slice a fl.length c) fl) := owns_same HOB.out (fun j hj => setRow_other _ _ _ _ (by have h1 := (World.ownsRow.lt HOB.out j hj).1; have h3 := HSB.out.li; omega))
            obtain ⟨w0, hw0⟩ : ∃ w0, wB.setRow gf #[.int .i64 K, .int .i64 F, .int .i64 C, .int .i64 S, .string H, .int .i64 k0, .int .i64 k1, .int .i64 k2, .int .i64 k3, .int .i64 k4, .int .i64 k5, .int .i64 k6, .string s7, .string s8, .int .i64 q, .slice a fl.length c] = w0 := ⟨_, rfl⟩
            rw [hw0] at HS0 HO0
            clear HSB HOB hOB
            as_aux_lemma =>
            have HX0 : Hid (X = if Dn ≠ 0 ∨ fl.length ≠ N ∨ mayRb M (K, F, C, S, H, (k0, (k1, k2), (k3, k4), (k5, k6), s7, s8), q, fl) = false ∨ ¬ (¬ b.size = 0 ↔ K = 1) then (rec0, 190) else ((K, F, C, S, H, (k0, (k1, k2), (k3, k4), (k5, k6), s7, s8), q, fl), 0)) := by
              have h := HX0.out
              rw [if_neg (fun k => k.2 ho0), if_neg hb0] at h
              exact h
            obtain ⟨B, hB⟩ : ∃ B, mayRb M (K, F, C, S, H, (k0, (k1, k2), (k3, k4), (k5, k6), s7, s8), q, fl) = B := ⟨_, rfl⟩
            have CM : Hid (∀ (a : Option Addr) (c : Nat) (W : World), WrAt W a fl.length fl → _) := CM1.out
            rw [hB] at HX0 CM
            clear hB CM0 CM1
            have q0 : w0.cell? ⟨gi, 0, none⟩ = some (.string fi.1) := HS0.out.i.cell 0
            have q1 : w0.cell? ⟨gi, 1, none⟩ = some (.int .i64 fi.2) := HS0.out.i.cell 1
            go_wp2_with (first
              | (with_reducible refine wpList_storeBlk rfl 25 _ _ rfl wA.heap.size #[.int .i64 0, .int .i64 0, .int .i64 0, .int .i64 0, .int .i64 0, .int .i64 0, .int .i64 0, .string ⟨#[]⟩, .string ⟨#[]⟩] #[.int .i64 k0, .int .i64 k1, .int .i64 k2, .int .i64 k3, .int .i64 k4, .int .i64 k5, .int .i64 k6, .string s7, .string s8] (by with_unfolding_all rfl) (by with_unfolding_all rfl) XO rfl (by kernel_rfl) (by kernel_rfl) ?_)
              | (with_reducible refine wpList_storeAt rfl 25 _ _ rfl gf 5 28 #[.int .i64 K, .int .i64 F, .int .i64 C, .int .i64 S, .string H, .int .i64 0, .int .i64 0, .int .i64 0, .int .i64 0, .int .i64 0, .int .i64 0, .int .i64 0, .string ⟨#[]⟩, .string ⟨#[]⟩, .int .i64 q, .slice a fl.length c] #[.int .i64 k0, .int .i64 k1, .int .i64 k2, .int .i64 k3, .int .i64 k4, .int .i64 k5, .int .i64 k6, .string s7, .string s8] #[.int .i64 K, .int .i64 F, .int .i64 C, .int .i64 S, .string H, .int .i64 k0, .int .i64 k1, .int .i64 k2, .int .i64 k3, .int .i64 k4, .int .i64 k5, .int .i64 k6, .string s7, .string s8, .int .i64 q, .slice a fl.length c] (by with_unfolding_all rfl) (by with_unfolding_all rfl) HFB.out (by kernel_rfl) (by with_unfolding_all (show 5 + 9 ≤ 16; decide)) (by kernel_rfl) (by with_unfolding_all rfl) ?_))
            try rw [hw0]
            clear hw0 hwB XO HFB
            clear o0 o1 o2 o3 o4 o5 o6 o7 o8
            refine (CD.out w0).mono ?_
            rintro e w1 ⟨rfl, hb⟩
            have HT : Hid (RfS 28 #[.int .i64 0, .int .i64 0, .int .i64 0, .int .i64 0, .string ⟨#[]⟩, .int .i64 0, .int .i64 0, .int .i64 0, .int .i64 0, .int .i64 0, .int .i64 0, .int .i64 0, .string ⟨#[]⟩, .string ⟨#[]⟩, .int .i64 0, .slice none 0 0] w ga gf gi #[.int .i64 K, .int .i64 F, .int .i64 C, .int .i64 S, .string H, .int .i64 k0, .int .i64 k1, .int .i64 k2, .int .i64 k3, .int .i64 k4, .int .i64 k5, .int .i64 k6, .string s7, .string s8, .int .i64 q, .slice a fl.length c] fi w1) := HS0.out.on hb
            have HO1 : Hid (OwnW19 w1 (gi + 1) (.slice a fl.length c) fl) := owns_on HO0.out hb
            clear hb HS0 HO0 CD q0 q1
            by_cases hD : Dn = 0
            · have tD : (Dn != 0) = false := by simp [hD]
              by_cases hl : fl.length = N
              · have tl : ((fl.length : Int) != (N : Int)) = false := by rw [bne_eq_false_iff_eq]; omega
                have hIm : WrAt w1 a fl.length fl := HO1.out.its
                have HL0 : Hid (fl.length = N) := hl
                have HD0 : Hid (Dn = 0) := hD
                clear hl hD
                have d0 : w1.cell? ⟨gf, 0, none⟩ = some (.int .i64 K) := HT.out.f.cell 0
                have d1 : w1.cell? ⟨gf, 1, none⟩ = some (.int .i64 F) := HT.out.f.cell 1
                have d2 : w1.cell? ⟨gf, 2, none⟩ = some (.int .i64 C) := HT.out.f.cell 2
                have d3 : w1.cell? ⟨gf, 3, none⟩ = some (.int .i64 S) := HT.out.f.cell 3
                have d4 : w1.cell? ⟨gf, 4, none⟩ = some (.string H) := HT.out.f.cell 4
                have d5 : w1.cell? ⟨gf, 5, none⟩ = some (.int .i64 k0) := HT.out.f.cell 5
                have d6 : w1.cell? ⟨gf, 6, none⟩ = some (.int .i64 k1) := HT.out.f.cell 6
                have d7 : w1.cell? ⟨gf, 7, none⟩ = some (.int .i64 k2) := HT.out.f.cell 7
                have d8 : w1.cell? ⟨gf, 8, none⟩ = some (.int .i64 k3) := HT.out.f.cell 8
                have d9 : w1.cell? ⟨gf, 9, none⟩ = some (.int .i64 k4) := HT.out.f.cell 9
                have d10 : w1.cell? ⟨gf, 10, none⟩ = some (.int .i64 k5) := HT.out.f.cell 10
                have d11 : w1.cell? ⟨gf, 11, none⟩ = some (.int .i64 k6) := HT.out.f.cell 11
                have d12 : w1.cell? ⟨gf, 12, none⟩ = some (.string s7) := HT.out.f.cell 12
                have d13 : w1.cell? ⟨gf, 13, none⟩ = some (.string s8) := HT.out.f.cell 13
                have d14 : w1.cell? ⟨gf, 14, none⟩ = some (.int .i64 q) := HT.out.f.cell 14
                have d15 : w1.cell? ⟨gf, 15, none⟩ = some (.slice a fl.length c) := HT.out.f.cell 15
                go_wp2_with fail
                refine (CM.out a c w1 hIm).mono ?_
                rintro e w2 ⟨rfl, hb⟩
                have HT2 : Hid (RfS 28 #[.int .i64 0, .int .i64 0, .int .i64 0, .int .i64 0, .string ⟨#[]⟩, .int .i64 0, .int .i64 0, .int .i64 0, .int .i64 0, .int .i64 0, .int .i64 0, .int .i64 0, .string ⟨#[]⟩, .string ⟨#[]⟩, .int .i64 0, .slice none 0 0] w ga gf gi #[.int .i64 K, .int .i64 F, .int .i64 C, .int .i64 S, .string H, .int .i64 k0, .int .i64 k1, .int .i64 k2, .int .i64 k3, .int .i64 k4, .int .i64 k5, .int .i64 k6, .string s7, .string s8, .int .i64 q, .slice a fl.length c] fi w2) := HT.out.on hb
                have HO2 : Hid (OwnW19 w2 (gi + 1) (.slice a fl.length c) fl) := owns_on HO1.out hb
                clear hb HT HO1 CM hIm d0 d1 d2 d3 d4 d5 d6 d7 d8 d9 d10 d11 d12 d13 d14 d15
                have HZ : Hid (Blk w2 28 ga #[.int .i64 0, .int .i64 0, .int .i64 0, .int .i64 0, .string ⟨#[]⟩, .int .i64 0, .int .i64 0, .int .i64 0, .int .i64 0, .int .i64 0, .int .i64 0, .int .i64 0, .string ⟨#[]⟩, .string ⟨#[]⟩, .int .i64 0, .slice none 0 0]) := HT2.out.a
                have HB : Hid (Below w.heap.size w w2) := HT2.out.bel
                have HLA : Hid (w.heap.size ≤ ga) := HT2.out.la
                have tb : (b.toList.isEmpty) = false := isE_no b hb0
                have tb2 : (!b.toList.isEmpty) = true := by rw [tb]; rfl
                cases B with
                | false =>
                  clear HT2 HO2
                  obtain rfl : X = (rec0, 190) := by rw [HX0.out, if_pos (.inr (.inr (.inl rfl)))]
                  clear HX0
                  go_wp2_with (with_reducible refine wpList_storeBlk rfl 28 _ _ rfl ga #[.int .i64 0, .int .i64 0, .int .i64 0, .int .i64 0, .string ⟨#[]⟩, .int .i64 0, .int .i64 0, .int .i64 0, .int .i64 0, .int .i64 0, .int .i64 0, .int .i64 0, .string ⟨#[]⟩, .string ⟨#[]⟩, .int .i64 0, .slice none 0 0] #[.int .i64 0, .int .i64 0, .int .i64 0, .int .i64 0, .string ⟨#[]⟩, .int .i64 0, .int .i64 0, .int .i64 0, .int .i64 0, .int .i64 0, .int .i64 0, .int .i64 0, .string ⟨#[]⟩, .string ⟨#[]⟩, .int .i64 0, .slice none 0 0] (by with_unfolding_all rfl) (by with_unfolding_all rfl) HZ.out rfl (by kernel_rfl) (by kernel_rfl) ?_)
                  exact bodyPost_rowTmp rfl ga _ _ rfl rfl rfl (HZ.out.setRow _) _ Tryd.underlying28 rfl (by kernel_rfl) ⟨none, 0, rfl, Nat.le_refl _, by decide, ⟨rfl, .inl rfl⟩, below_setRow HB.out HLA.out _⟩
                | true =>
                  have d0' : w2.cell? ⟨gf, 0, none⟩ = some (.int .i64 K) := HT2.out.f.cell 0
                  by_cases hK : K = 1
                  · have tK : (K == 1) = true := by simp [hK]
                    have HK : Hid (K = 1) := hK
                    clear hK
                    have HAT : Hid (WrAt (w2.setRow ga #[.int .i64 K, .int .i64 F, .int .i64 C, .int .i64 S, .string H, .int .i64 k0, .int .i64 k1, .int .i64 k2, .int .i64 k3, .int .i64 k4, .int .i64 k5, .int .i64 k6, .string s7, .string s8, .int .i64 q, .slice a fl.length c]) a fl.length fl) := OwnW19.its (owns_same HO2.out (fun j hj => setRow_other _ _ _ _ (by have h1 := (World.ownsRow.lt HO2.out j hj).1; have h2 := HT2.out.lf; have h3 := HT2.out.li; omega)))
                    clear d0'
                    have d0 : w2.cell? ⟨gf, 0, none⟩ = some (.int .i64 K) := HT2.out.f.cell 0
                    have d1 : w2.cell? ⟨gf, 1, none⟩ = some (.int .i64 F) := HT2.out.f.cell 1
                    have d2 : w2.cell? ⟨gf, 2, none⟩ = some (.int .i64 C) := HT2.out.f.cell 2
                    have d3 : w2.cell? ⟨gf, 3, none⟩ = some (.int .i64 S) := HT2.out.f.cell 3
                    have d4 : w2.cell? ⟨gf, 4, none⟩ = some (.string H) := HT2.out.f.cell 4
                    have d5 : w2.cell? ⟨gf, 5, none⟩ = some (.int .i64 k0) := HT2.out.f.cell 5
                    have d6 : w2.cell? ⟨gf, 6, none⟩ = some (.int .i64 k1) := HT2.out.f.cell 6
                    have d7 : w2.cell? ⟨gf, 7, none⟩ = some (.int .i64 k2) := HT2.out.f.cell 7
                    have d8 : w2.cell? ⟨gf, 8, none⟩ = some (.int .i64 k3) := HT2.out.f.cell 8
                    have d9 : w2.cell? ⟨gf, 9, none⟩ = some (.int .i64 k4) := HT2.out.f.cell 9
                    have d10 : w2.cell? ⟨gf, 10, none⟩ = some (.int .i64 k5) := HT2.out.f.cell 10
                    have d11 : w2.cell? ⟨gf, 11, none⟩ = some (.int .i64 k6) := HT2.out.f.cell 11
                    have d12 : w2.cell? ⟨gf, 12, none⟩ = some (.string s7) := HT2.out.f.cell 12
                    have d13 : w2.cell? ⟨gf, 13, none⟩ = some (.string s8) := HT2.out.f.cell 13
                    have d14 : w2.cell? ⟨gf, 14, none⟩ = some (.int .i64 q) := HT2.out.f.cell 14
                    have d15 : w2.cell? ⟨gf, 15, none⟩ = some (.slice a fl.length c) := HT2.out.f.cell 15
                    obtain rfl : X = ((K, F, C, S, H, (k0, (k1, k2), (k3, k4), (k5, k6), s7, s8), q, fl), 0) := by
                      rw [HX0.out, if_neg]
                      rintro (e | e | e | e)
                      · exact e HD0.out
                      · exact e HL0.out
                      · cases e
                      · exact e ⟨fun _ => HK.out, fun _ => hb0⟩
                    clear HX0 HT2 HO2
                    go_wp2_with (with_reducible refine wpList_storeBlk rfl 28 _ _ rfl ga #[.int .i64 0, .int .i64 0, .int .i64 0, .int .i64 0, .string ⟨#[]⟩, .int .i64 0, .int .i64 0, .int .i64 0, .int .i64 0, .int .i64 0, .int .i64 0, .int .i64 0, .string ⟨#[]⟩, .string ⟨#[]⟩, .int .i64 0, .slice none 0 0] #[.int .i64 K, .int .i64 F, .int .i64 C, .int .i64 S, .string H, .int .i64 k0, .int .i64 k1, .int .i64 k2, .int .i64 k3, .int .i64 k4, .int .i64 k5, .int .i64 k6, .string s7, .string s8, .int .i64 q, .slice a fl.length c] (by with_unfolding_all rfl) (by with_unfolding_all rfl) HZ.out rfl (by kernel_rfl) (by kernel_rfl) ?_)
                    exact bodyPost_rowTmp rfl ga _ _ rfl rfl rfl (HZ.out.setRow _) _ Tryd.underlying28 rfl (by kernel_rfl) ⟨a, c, rfl, HLC.out.1, HLC.out.2, HAT.out, below_setRow HB.out HLA.out _⟩
                  · have tK : (K == 1) = false := by simp [hK]
                    have HK : Hid (¬ K = 1) := hK
                    clear hK
                    clear HT2 HO2
                    obtain rfl : X = (rec0, 190) := by rw [HX0.out, if_pos (.inr (.inr (.inr (fun e => HK.out (e.1 hb0)))))]
                    clear HX0
                    go_wp2_with (with_reducible refine wpList_storeBlk rfl 28 _ _ rfl ga #[.int .i64 0, .int .i64 0, .int .i64 0, .int .i64 0, .string ⟨#[]⟩, .int .i64 0, .int .i64 0, .int .i64 0, .int .i64 0, .int .i64 0, .int .i64 0, .int .i64 0, .string ⟨#[]⟩, .string ⟨#[]⟩, .int .i64 0, .slice none 0 0] #[.int .i64 0, .int .i64 0, .int .i64 0, .int .i64 0, .string ⟨#[]⟩, .int .i64 0, .int .i64 0, .int .i64 0, .int .i64 0, .int .i64 0, .int .i64 0, .int .i64 0, .string ⟨#[]⟩, .string ⟨#[]⟩, .int .i64 0, .slice none 0 0] (by with_unfolding_all rfl) (by with_unfolding_all rfl) HZ.out rfl (by kernel_rfl) (by kernel_rfl) ?_)
                    exact bodyPost_rowTmp rfl ga _ _ rfl rfl rfl (HZ.out.setRow _) _ Tryd.underlying28 rfl (by kernel_rfl) ⟨none, 0, rfl, Nat.le_refl _, by decide, ⟨rfl, .inl rfl⟩, below_setRow HB.out HLA.out _⟩
              · have tl : ((fl.length : Int) != (N : Int)) = true := by rw [bne_iff_ne]; omega
                have HZ : Hid (Blk w1 28 ga #[.int .i64 0, .int .i64 0, .int .i64 0, .int .i64 0, .string ⟨#[]⟩, .int .i64 0, .int .i64 0, .int .i64 0, .int .i64 0, .int .i64 0, .int .i64 0, .int .i64 0, .string ⟨#[]⟩, .string ⟨#[]⟩, .int .i64 0, .slice none 0 0]) := HT.out.a
                have HB : Hid (Below w.heap.size w w1) := HT.out.bel
                have HLA : Hid (w.heap.size ≤ ga) := HT.out.la
                have d15 : w1.cell? ⟨gf, 15, none⟩ = some (.slice a fl.length c) := HT.out.f.cell 15
                clear HO1 HT CM hD
                obtain rfl : X = (rec0, 190) := by rw [HX0.out, if_pos (.inr (.inl hl))]
                clear HX0
                go_wp2_with (with_reducible refine wpList_storeBlk rfl 28 _ _ rfl ga #[.int .i64 0, .int .i64 0, .int .i64 0, .int .i64 0, .string ⟨#[]⟩, .int .i64 0, .int .i64 0, .int .i64 0, .int .i64 0, .int .i64 0, .int .i64 0, .int .i64 0, .string ⟨#[]⟩, .string ⟨#[]⟩, .int .i64 0, .slice none 0 0] #[.int .i64 0, .int .i64 0, .int .i64 0, .int .i64 0, .string ⟨#[]⟩, .int .i64 0, .int .i64 0, .int .i64 0, .int .i64 0, .int .i64 0, .int .i64 0, .int .i64 0, .string ⟨#[]⟩, .string ⟨#[]⟩, .int .i64 0, .slice none 0 0] (by with_unfolding_all rfl) (by with_unfolding_all rfl) HZ.out rfl (by kernel_rfl) (by kernel_rfl) ?_)
                exact bodyPost_rowTmp rfl ga _ _ rfl rfl rfl (HZ.out.setRow _) _ Tryd.underlying28 rfl (by kernel_rfl) ⟨none, 0, rfl, Nat.le_refl _, by decide, ⟨rfl, .inl rfl⟩, below_setRow HB.out HLA.out _⟩
            · have tD : (Dn != 0) = true := by simp [hD]
              have HZ : Hid (Blk w1 28 ga #[.int .i64 0, .int .i64 0, .int .i64 0, .int .i64 0, .string ⟨#[]⟩, .int .i64 0, .int .i64 0, .int .i64 0, .int .i64 0, .int .i64 0, .int .i64 0, .int .i64 0, .string ⟨#[]⟩, .string ⟨#[]⟩, .int .i64 0, .slice none 0 0]) := HT.out.a
              have HB : Hid (Below w.heap.size w w1) := HT.out.bel
              have HLA : Hid (w.heap.size ≤ ga) := HT.out.la
              clear HO1 HT CM
              obtain rfl : X = (rec0, 190) := by rw [HX0.out, if_pos (.inl hD)]
              clear HX0
              go_wp2_with (with_reducible refine wpList_storeBlk rfl 28 _ _ rfl ga #[.int .i64 0, .int .i64 0, .int .i64 0, .int .i64 0, .string ⟨#[]⟩, .int .i64 0, .int .i64 0, .int .i64 0, .int .i64 0, .int .i64 0, .int .i64 0, .int .i64 0, .string ⟨#[]⟩, .string ⟨#[]⟩, .int .i64 0, .slice none 0 0] #[.int .i64 0, .int .i64 0, .int .i64 0, .int .i64 0, .string ⟨#[]⟩, .int .i64 0, .int .i64 0, .int .i64 0, .int .i64 0, .int .i64 0, .int .i64 0, .int .i64 0, .string ⟨#[]⟩, .string ⟨#[]⟩, .int .i64 0, .slice none 0 0] (by with_unfolding_all rfl) (by with_unfolding_all rfl) HZ.out rfl (by kernel_rfl) (by kernel_rfl) ?_)
              exact bodyPost_rowTmp rfl ga _ _ rfl rfl rfl (HZ.out.setRow _) _ Tryd.underlying28 rfl (by kernel_rfl) ⟨none, 0, rfl, Nat.le_refl _, by decide, ⟨rfl, .inl rfl⟩, below_setRow HB.out HLA.out _⟩
          · have toe : (oe != 0) = true := by simp [ho0]
            have HZ : Hid (Blk wB 28 ga #[.int .i64 0, .int .i64 0, .int .i64 0, .int .i64 0, .string ⟨#[]⟩, .int .i64 0, .int .i64 0, .int .i64 0, .int .i64 0, .int .i64 0, .int .i64 0, .int .i64 0, .string ⟨#[]⟩, .string ⟨#[]⟩, .int .i64 0, .slice none 0 0]) := HSB.out.a
            have HB : Hid (Below w.heap.size w wB) := HSB.out.bel
            have HLA : Hid (w.heap.size ≤ ga) := HSB.out.la
            clear HSB HOB hOB CD CM0 CM1
            obtain rfl : X = (rec0, 190) := by rw [HX0.out, if_pos ⟨hb0, ho0⟩]
            clear HX0
            go_wp2_with (first
              | (with_reducible refine wpList_storeBlk rfl 25 _ _ rfl wA.heap.size #[.int .i64 0, .int .i64 0, .int .i64 0, .int .i64 0, .int .i64 0, .int .i64 0, .int .i64 0, .string ⟨#[]⟩, .string ⟨#[]⟩] #[.int .i64 k0, .int .i64 k1, .int .i64 k2, .int .i64 k3, .int .i64 k4, .int .i64 k5, .int .i64 k6, .string s7, .string s8] (by with_unfolding_all rfl) (by with_unfolding_all rfl) XO rfl (by kernel_rfl) (by kernel_rfl) ?_)
              | (with_reducible refine wpList_storeBlk rfl 28 _ _ rfl ga #[.int .i64 0, .int .i64 0, .int .i64 0, .int .i64 0, .string ⟨#[]⟩, .int .i64 0, .int .i64 0, .int .i64 0, .int .i64 0, .int .i64 0, .int .i64 0, .int .i64 0, .string ⟨#[]⟩, .string ⟨#[]⟩, .int .i64 0, .slice none 0 0] #[.int .i64 0, .int .i64 0, .int .i64 0, .int .i64 0, .string ⟨#[]⟩, .int .i64 0, .int .i64 0, .int .i64 0, .int .i64 0, .int .i64 0, .int .i64 0, .int .i64 0, .string ⟨#[]⟩, .string ⟨#[]⟩, .int .i64 0, .slice none 0 0] (by with_unfolding_all rfl) (by with_unfolding_all rfl) HZ.out rfl (by kernel_rfl) (by kernel_rfl) ?_))
            exact bodyPost_rowTmp rfl ga _ _ rfl rfl rfl (HZ.out.setRow _) _ Tryd.underlying28 rfl (by kernel_rfl) ⟨none, 0, rfl, Nat.le_refl _, by decide, ⟨rfl, .inl rfl⟩, below_setRow HB.out HLA.out _⟩

end Go.Proofs.YtmjjpfinkpfifaaDoor
