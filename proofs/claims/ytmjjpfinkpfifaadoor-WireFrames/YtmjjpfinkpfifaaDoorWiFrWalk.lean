/- The walk of WireFrames. -/
import Derived.Test.YtmjjpfinkpfifaaDoorWiI
import Derived.Test.YtmjjpfinkpfifaaDoorRWiQ
import Derived.Test.YtmjjpfinkpfifaaDoorOpenW
namespace Go.Proofs.YtmjjpfinkpfifaaDoor
open Go.RowKit
set_option maxRecDepth 100000
set_option linter.unusedSimpArgs false
set_option linter.unusedVariables false
set_option maxRecDepth 100000

theorem lightF_ex (bl : ByteArray) (it : List (Int × Int × ByteArray)) : ∃ D : Bool, D = true ↔ LightF bl it :=
  ⟨@decide (LightF bl it) (Classical.propDecidable _), @decide_eq_true_iff (LightF bl it) (Classical.propDecidable _)⟩

theorem light_few (bl : ByteArray) (it : List (Int × Int × ByteArray)) (h : LightF bl it) : it.length ≤ 1048576 ∧ (∀ i, (itL it i).2.2.size ≤ 1000000) ∧ bl.size ≤ 1000000 := by
  obtain ⟨h1, h2, h3⟩ := h
  refine ⟨by omega, fun i => ?_, by omega⟩
  by_cases hi : i < it.length
  · exact Nat.le_trans (h1 i hi (by omega)) (by decide)
  · unfold itL
    rw [List.getD_eq_getElem?_getD, List.getElem?_eq_none (by omega)]
    exact Nat.zero_le _


set_option maxHeartbeats 8000000 in
theorem wireFrames_walk (F : FrmT) (a : Option Addr) (c : Nat) (w : World) (hG : Glob8 w) (hI : ItsAt w a F.2.2.2.2.2.2.1.length F.2.2.2.2.2.2.1) (hl : F.2.2.2.2.2.2.1.length ≤ maxLen) (hz : ∀ i, (itL F.2.2.2.2.2.2.1 i).2.2.size ≤ maxLen) (hs : SliceOk a F.2.2.2.2.2.2.1.length c ∧ c ≤ maxLen) (hH : F.2.2.2.2.2.1.size ≤ maxLen) :
    Calls Tryd.prog 5 #[.agg (frmA F a c)] w fun e w' => e = .returned (.bool true) ∧ Below w.heap.size w w' := by
  obtain ⟨D, hD⟩ := lightF_ex F.2.2.2.2.2.1 F.2.2.2.2.2.2.1
  have CL' : ∀ W, Below w.heap.size w W → _ := fun W hW => rlight19_any F a c W D hD (hI.below hW) hs.1.cap hs.2 hz hH
  have hfew := light_few F.2.2.2.2.2.1 F.2.2.2.2.2.2.1
  obtain ⟨⟨Sx, Ex⟩, hp⟩ : ∃ p, putFC F = p := ⟨_, rfl⟩
  have CP' : LightF F.2.2.2.2.2.1 F.2.2.2.2.2.2.1 → ∀ W, Below w.heap.size w W → _ := fun hl W hW => putF_any F a c W (hfew hl).1 (hI.below hW) hz hH
  have CR' : LightF F.2.2.2.2.2.1 F.2.2.2.2.2.2.1 → ∀ W, Below w.heap.size w W → _ := fun hl W hW => rputF_any F a c W (hfew hl).1 (hI.below hW) (hfew hl).2.1 (hfew hl).2.2
  rw [hp] at CP' CR'
  have CT' : Ex = 0 → ∀ W, Below w.heap.size w W → _ := fun he W hW => by
    have hp0 : putFC F = (Sx, 0) := by rw [hp, he]
    have h := takeF_any Sx W (by have := putB_size _ _ _ hp0; omega)
    rw [takeFC_put _ _ hp0] at h
    exact h
  have CS' : LightF F.2.2.2.2.2.1 F.2.2.2.2.2.2.1 → ∀ (a1 : Option Addr) (c1 : Nat) (W : World), Below w.heap.size w W → F.2.2.2.2.2.2.1.length ≤ c1 → ItsAt W a1 F.2.2.2.2.2.2.1.length F.2.2.2.2.2.2.1 → _ := fun hl a1 c1 W hW h1 h2 => rsame19_any F F true ⟨fun _ => rfl, fun _ => rfl⟩ a1 a c1 c W (hfew hl).1 h1 hs.1.cap h2 (hI.below hW)
  obtain ⟨K, G, S, E, M, bl, l, er⟩ := F
  unfold TakenF at CT'
  simp only [frmA] at CL' CP' CR' CT' CS' hD hfew ⊢
  obtain ⟨n, hn⟩ : ∃ n, l.length = n := ⟨_, rfl⟩
  simp only [hn] at CL' CP' CR' CT' CS' ⊢
  have CA : Hid (∀ W, Below w.heap.size w W → Calls Tryd.prog 10 #[] W fun e w' => e = .returned (.bool true) ∧ Below w.heap.size w w') := fun W hW => (awake19 W (hG.below hW)).mono fun e w' h => ⟨h.1, below_step hW (Nat.le_refl _) h.2⟩
  have HD : Hid (D = true ↔ LightF bl l) := hD
  have CL : Hid (∀ W, Below w.heap.size w W → _) := CL'
  have CP : Hid (LightF bl l → ∀ W, Below w.heap.size w W → _) := CP'
  have CR : Hid (LightF bl l → ∀ W, Below w.heap.size w W → _) := CR'
  have CT : Hid (Ex = 0 → ∀ W, Below w.heap.size w W → Calls Tryd.prog 21 #[.string Sx] W fun e w' => ∃ a1 c1, e = .returned (.tuple #[.agg #[.int .i64 K, .int .i64 G, .int .i64 S, .int .i64 E, .int .i64 M, .string bl, .slice a1 n c1, .int .i64 er], .int .i64 0]) ∧ n ≤ c1 ∧ ItsAt w' a1 n l ∧ Below W.heap.size W w') := fun he W hW => (CT' he W hW).mono fun e w' ⟨a1, c1, h1, h2, h3, h4, h5⟩ => ⟨a1, c1, h1, h2, h4, h5⟩
  have CS0 : Hid (LightF bl l → ∀ (a1 : Option Addr) (c1 : Nat) (W : World), Below w.heap.size w W → n ≤ c1 → ItsAt W a1 n l → _) := CS'
  clear CL' CP' CR' CT' CS' hD hn hp hG hI hl hz hs hH hfew
  have HB0 : Hid (Below w.heap.size w (w.alloc (.cells #[.int .i64 K, .int .i64 G, .int .i64 S, .int .i64 E, .int .i64 M, .string bl, .slice a n c, .int .i64 er] 41))) := below_new _ _
  have HK0 : Hid (Blk (w.alloc (.cells #[.int .i64 K, .int .i64 G, .int .i64 S, .int .i64 E, .int .i64 M, .string bl, .slice a n c, .int .i64 er] 41)) 41 w.heap.size #[.int .i64 K, .int .i64 G, .int .i64 S, .int .i64 E, .int .i64 M, .string bl, .slice a n c, .int .i64 er]) := Blk.new _ _ _
  go_enter Tryd.func5, Tryd.ntmps5
  go_wp2_with fail
  obtain ⟨w0, hw0⟩ : ∃ w0, w.alloc (.cells #[.int .i64 K, .int .i64 G, .int .i64 S, .int .i64 E, .int .i64 M, .string bl, .slice a n c, .int .i64 er] 41) = w0 := ⟨_, rfl⟩
  obtain ⟨h0, hh0⟩ : ∃ h0, w.heap.size = h0 := ⟨_, rfl⟩
  rw [hw0] at HB0 HK0
  rw [hh0] at HK0
  try rw [hw0]
  try rw [hh0]
  clear hw0 hh0
  refine (CL.out w0 HB0.out).mono ?_
  rintro e w1 ⟨rfl, hb1⟩
  have hB1 : Below w.heap.size w w1 := below_step HB0.out (Nat.le_refl _) hb1
  have HK1 : Hid (Blk w1 41 h0 #[.int .i64 K, .int .i64 G, .int .i64 S, .int .i64 E, .int .i64 M, .string bl, .slice a n c, .int .i64 er]) := HK0.out.on hb1
  clear hb1 HB0 HK0 CL
  cases D with
  | false =>
    clear HD CP CR CT CS0 HK1
    go_wp2_with fail
    refine (CA.out _ (by assumption)).mono ?_
    rintro e w9 ⟨rfl, hb9⟩
    go_wp2_with fail
    go_ret
    exact ⟨rfl, hb9⟩
  | true =>
    have HLt : Hid (LightF bl l) := HD.out.1 rfl
    have HB1 : Hid (Below w.heap.size w w1) := hB1
    clear HD hB1
    have d0 : w1.cell? ⟨h0, 0, none⟩ = some (.int .i64 K) := HK1.out.cell 0
    have d1 : w1.cell? ⟨h0, 1, none⟩ = some (.int .i64 G) := HK1.out.cell 1
    have d2 : w1.cell? ⟨h0, 2, none⟩ = some (.int .i64 S) := HK1.out.cell 2
    have d3 : w1.cell? ⟨h0, 3, none⟩ = some (.int .i64 E) := HK1.out.cell 3
    have d4 : w1.cell? ⟨h0, 4, none⟩ = some (.int .i64 M) := HK1.out.cell 4
    have d5 : w1.cell? ⟨h0, 5, none⟩ = some (.string bl) := HK1.out.cell 5
    have d6 : w1.cell? ⟨h0, 6, none⟩ = some (.slice a n c) := HK1.out.cell 6
    have d7 : w1.cell? ⟨h0, 7, none⟩ = some (.int .i64 er) := HK1.out.cell 7
    go_wp2_with fail
    clear d0 d1 d2 d3 d4 d5 d6 d7
    refine (CP.out HLt.out w1 HB1.out).mono ?_
    rintro e w2 ⟨rfl, hb2⟩
    have HB2 : Hid (Below w.heap.size w w2) := below_step HB1.out (Nat.le_refl _) hb2
    have HK2 : Hid (Blk w2 41 h0 #[.int .i64 K, .int .i64 G, .int .i64 S, .int .i64 E, .int .i64 M, .string bl, .slice a n c, .int .i64 er]) := HK1.out.on hb2
    have d0 : w2.cell? ⟨h0, 0, none⟩ = some (.int .i64 K) := HK2.out.cell 0
    have d1 : w2.cell? ⟨h0, 1, none⟩ = some (.int .i64 G) := HK2.out.cell 1
    have d2 : w2.cell? ⟨h0, 2, none⟩ = some (.int .i64 S) := HK2.out.cell 2
    have d3 : w2.cell? ⟨h0, 3, none⟩ = some (.int .i64 E) := HK2.out.cell 3
    have d4 : w2.cell? ⟨h0, 4, none⟩ = some (.int .i64 M) := HK2.out.cell 4
    have d5 : w2.cell? ⟨h0, 5, none⟩ = some (.string bl) := HK2.out.cell 5
    have d6 : w2.cell? ⟨h0, 6, none⟩ = some (.slice a n c) := HK2.out.cell 6
    have d7 : w2.cell? ⟨h0, 7, none⟩ = some (.int .i64 er) := HK2.out.cell 7
    clear hb2 HB1 HK1 CP
    go_wp2_with fail
    clear d0 d1 d2 d3 d4 d5 d6 d7
    refine (CR.out HLt.out w2 HB2.out).mono ?_
    rintro e w3 ⟨rfl, hb3⟩
    have HB3 : Hid (Below w.heap.size w w3) := below_step HB2.out (Nat.le_refl _) hb3
    have HK3 : Hid (Blk w3 41 h0 #[.int .i64 K, .int .i64 G, .int .i64 S, .int .i64 E, .int .i64 M, .string bl, .slice a n c, .int .i64 er]) := HK2.out.on hb3
    clear hb3 HB2 HK2 CR
    have hss : (Sx.toList != Sx.toList) = false := by simp
    have hss2 : (Sx.toList == Sx.toList) = true := by simp
    have hee : (Ex != Ex) = false := by simp
    have HB4 : Hid (Below w.heap.size w w3) := HB3.out
    have HK4 := HK3
    have CS : Hid (∀ (a1 : Option Addr) (c1 : Nat) (W : World), Below w.heap.size w W → n ≤ c1 → ItsAt W a1 n l → _) := CS0.out HLt.out
    obtain ⟨w4, hw4⟩ : ∃ w4, w3 = w4 := ⟨_, rfl⟩
    rw [hw4] at HB4 HK4 ⊢
    clear HB3 HK3 CS0 HLt hw4
    by_cases hE : Ex = 0
    · have CT1 : Hid (∀ W, Below w.heap.size w W → _) := CT.out hE
      clear CT
      subst hE
      go_wp2_with fail
      clear hss hss2 hee
      refine (CT1.out w4 HB4.out).mono ?_
      rintro e w5 ⟨a1, c1, rfl, hc1, hi1, hb⟩
      have HB5 : Hid (Below w.heap.size w w5) := below_step HB4.out (Nat.le_refl _) hb
      have HK5 : Hid (Blk w5 41 h0 #[.int .i64 K, .int .i64 G, .int .i64 S, .int .i64 E, .int .i64 M, .string bl, .slice a n c, .int .i64 er]) := HK4.out.on hb
      have HI5 : Hid (ItsAt w5 a1 n l) := hi1
      have HC5 : Hid (n ≤ c1) := hc1
      clear hb HB4 HK4 CT1 hi1 hc1
      have X1 : Blk (w5.alloc (.cells #[.int .i64 0, .int .i64 0, .int .i64 0, .int .i64 0, .int .i64 0, .string ⟨#[]⟩, .slice none 0 0, .int .i64 0] 41)) 41 w5.heap.size #[.int .i64 0, .int .i64 0, .int .i64 0, .int .i64 0, .int .i64 0, .string ⟨#[]⟩, .slice none 0 0, .int .i64 0] := Blk.new _ _ _
      have hG6 : Blk ((w5.alloc (.cells #[.int .i64 0, .int .i64 0, .int .i64 0, .int .i64 0, .int .i64 0, .string ⟨#[]⟩, .slice none 0 0, .int .i64 0] 41)).setRow w5.heap.size #[.int .i64 K, .int .i64 G, .int .i64 S, .int .i64 E, .int .i64 M, .string bl, .slice a1 n c1, .int .i64 er]) 41 w5.heap.size #[.int .i64 K, .int .i64 G, .int .i64 S, .int .i64 E, .int .i64 M, .string bl, .slice a1 n c1, .int .i64 er] := X1.setRow _
      have hb6 : Below w5.heap.size w5 ((w5.alloc (.cells #[.int .i64 0, .int .i64 0, .int .i64 0, .int .i64 0, .int .i64 0, .string ⟨#[]⟩, .slice none 0 0, .int .i64 0] 41)).setRow w5.heap.size #[.int .i64 K, .int .i64 G, .int .i64 S, .int .i64 E, .int .i64 M, .string bl, .slice a1 n c1, .int .i64 er]) := below_setRow (below_new _ _) (Nat.le_refl _) _
      obtain ⟨w6, hw6⟩ : ∃ w6, (w5.alloc (.cells #[.int .i64 0, .int .i64 0, .int .i64 0, .int .i64 0, .int .i64 0, .string ⟨#[]⟩, .slice none 0 0, .int .i64 0] 41)).setRow w5.heap.size #[.int .i64 K, .int .i64 G, .int .i64 S, .int .i64 E, .int .i64 M, .string bl, .slice a1 n c1, .int .i64 er] = w6 := ⟨_, rfl⟩
      rw [hw6] at hG6 hb6
      have HB6 : Hid (Below w.heap.size w w6) := below_step HB5.out (Nat.le_refl _) hb6
      have hK6 : Blk w6 41 h0 #[.int .i64 K, .int .i64 G, .int .i64 S, .int .i64 E, .int .i64 M, .string bl, .slice a n c, .int .i64 er] := HK5.out.on hb6
      have HI6 : Hid (ItsAt w6 a1 n l) := HI5.out.below hb6
      have d0 : w6.cell? ⟨h0, 0, none⟩ = some (.int .i64 K) := hK6.cell 0
      have d1 : w6.cell? ⟨h0, 1, none⟩ = some (.int .i64 G) := hK6.cell 1
      have d2 : w6.cell? ⟨h0, 2, none⟩ = some (.int .i64 S) := hK6.cell 2
      have d3 : w6.cell? ⟨h0, 3, none⟩ = some (.int .i64 E) := hK6.cell 3
      have d4 : w6.cell? ⟨h0, 4, none⟩ = some (.int .i64 M) := hK6.cell 4
      have d5 : w6.cell? ⟨h0, 5, none⟩ = some (.string bl) := hK6.cell 5
      have d6 : w6.cell? ⟨h0, 6, none⟩ = some (.slice a n c) := hK6.cell 6
      have d7 : w6.cell? ⟨h0, 7, none⟩ = some (.int .i64 er) := hK6.cell 7
      have e0 : w6.cell? ⟨w5.heap.size, 0, none⟩ = some (.int .i64 K) := hG6.cell 0
      have e1 : w6.cell? ⟨w5.heap.size, 1, none⟩ = some (.int .i64 G) := hG6.cell 1
      have e2 : w6.cell? ⟨w5.heap.size, 2, none⟩ = some (.int .i64 S) := hG6.cell 2
      have e3 : w6.cell? ⟨w5.heap.size, 3, none⟩ = some (.int .i64 E) := hG6.cell 3
      have e4 : w6.cell? ⟨w5.heap.size, 4, none⟩ = some (.int .i64 M) := hG6.cell 4
      have e5 : w6.cell? ⟨w5.heap.size, 5, none⟩ = some (.string bl) := hG6.cell 5
      have e6 : w6.cell? ⟨w5.heap.size, 6, none⟩ = some (.slice a1 n c1) := hG6.cell 6
      have e7 : w6.cell? ⟨w5.heap.size, 7, none⟩ = some (.int .i64 er) := hG6.cell 7
      clear hb6 HB5 HK5 HI5 hK6 hG6
      go_wp2_with (with_reducible refine wpList_storeBlk rfl 41 _ _ rfl w5.heap.size #[.int .i64 0, .int .i64 0, .int .i64 0, .int .i64 0, .int .i64 0, .string ⟨#[]⟩, .slice none 0 0, .int .i64 0] #[.int .i64 K, .int .i64 G, .int .i64 S, .int .i64 E, .int .i64 M, .string bl, .slice a1 n c1, .int .i64 er] (by with_unfolding_all rfl) (by with_unfolding_all rfl) X1 rfl (by kernel_rfl) (by kernel_rfl) ?_)
      try rw [hw6]
      clear hw6 X1 d0 d1 d2 d3 d4 d5 d6 d7 e0 e1 e2 e3 e4 e5 e6 e7
      refine (CS.out a1 c1 w6 HB6.out HC5.out HI6.out).mono ?_
      rintro e w7 ⟨rfl, hb⟩
      have hB7 : Below w.heap.size w w7 := below_step HB6.out (Nat.le_refl _) hb
      clear hb HB6 CS HI6 HC5
      go_wp2_with fail
      refine (CA.out _ (by assumption)).mono ?_
      rintro e w9 ⟨rfl, hb9⟩
      go_wp2_with fail
      go_ret
      exact ⟨rfl, hb9⟩
    · have he : (Ex != 0) = true := by simp [hE]
      have hB4 : Below w.heap.size w w4 := HB4.out
      clear HB4 HK4 CT CS
      go_wp2_with fail
      refine (CA.out _ (by assumption)).mono ?_
      rintro e w9 ⟨rfl, hb9⟩
      go_wp2_with fail
      go_ret
      exact ⟨rfl, hb9⟩

theorem wireFrames_law (v : Value) (W : World) (hz : ∃ (F : FrmT) (a : Option Addr) (c : Nat), v = .agg (frmA F a c) ∧ ItsAt W a F.2.2.2.2.2.2.1.length F.2.2.2.2.2.2.1 ∧ F.2.2.2.2.2.2.1.length ≤ maxLen ∧ (∀ i, (itL F.2.2.2.2.2.2.1 i).2.2.size ≤ maxLen) ∧ (SliceOk a F.2.2.2.2.2.2.1.length c ∧ c ≤ maxLen) ∧ F.2.2.2.2.2.1.size ≤ maxLen) (hG : Glob8 W) :
    Calls Tryd.prog 5 #[v] W fun e w' => e = .returned (.bool true) ∧ Below W.heap.size W w' := by
  obtain ⟨F, a, c, rfl, h1, h2, h3, h4, h5⟩ := hz
  exact wireFrames_walk F a c W hG h1 h2 h3 h4 h5

end Go.Proofs.YtmjjpfinkpfifaaDoor
