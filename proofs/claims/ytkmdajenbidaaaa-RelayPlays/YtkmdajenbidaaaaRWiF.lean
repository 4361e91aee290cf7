/- Layer 19, the document's: MayFrame. -/
import Derived.Test.YtkmdajenbidaaaaWiU
import Derived.Test.YtkmdajenbidaaaaWiA
import Derived.Test.YtkmdajenbidaaaaRWiC
namespace Go.Proofs.Ytkmdajenbidaaaa
open Go.RowKit
set_option maxRecDepth 100000
set_option linter.unusedSimpArgs false
set_option linter.unusedVariables false
set_option maxRecDepth 100000

/-- May an item be? -/
def ItOk (x : Int × Int × ByteArray) : Prop := (0 ≤ x.1 ∧ x.1 ≤ 1099511627775) ∧ (0 ≤ x.2.1 ∧ x.2.1 ≤ 1099511627775) ∧ x.2.2.size ≤ 20000

/-- May a frame be, as the document asks it? -/
def MayDoc (F : FrmT) : Prop := (1 ≤ F.1 ∧ F.1 ≤ 9) ∧ (0 ≤ F.2.1 ∧ F.2.1 ≤ 1099511627775) ∧ (0 ≤ F.2.2.1 ∧ F.2.2.1 ≤ 1099511627775) ∧ (0 ≤ F.2.2.2.1 ∧ F.2.2.2.1 ≤ 1099511627775) ∧ (0 ≤ F.2.2.2.2.1 ∧ F.2.2.2.2.1 ≤ 1099511627775) ∧ 0 ≤ F.2.2.2.2.2.2.2 ∧ F.2.2.2.2.2.2.2 ≤ 999 ∧ F.2.2.2.2.2.1.size ≤ 20000 ∧ F.2.2.2.2.2.2.1.length ≤ 32 ∧ (∀ i, i < F.2.2.2.2.2.2.1.length → ItOk (itL F.2.2.2.2.2.2.1 i)) ∧ OwnFr F

theorem mayDoc_iff (F : FrmT) : mayFb F = true ↔ MayDoc F := by
  obtain ⟨K, G, S, E, M, bl, it, er⟩ := F
  unfold mayFb
  rw [Bool.and_eq_true, List.all_eq_true]
  constructor
  · rintro ⟨h1, h2⟩
    obtain ⟨k1, k2, k3, k4⟩ := mayC_parts h1
    have hh : ∀ p ∈ frHd (K, G, S, E, M, bl, it, er), okP p = true := fun p hp => h2 p (List.mem_append.2 (.inl hp))
    have hi : ∀ p ∈ it.flatMap itPs, okP p = true := fun p hp => h2 p (List.mem_append.2 (.inr hp))
    simp only [frHd, List.mem_cons, List.not_mem_nil, or_false, forall_eq_or_imp, forall_eq, num_okP, oneOk_iff] at hh
    obtain ⟨_, g2, g3, g4, g5, g6, _, _⟩ := hh
    refine ⟨k4.1, g2, g3, g4, g5, g6.1, k1, k2, k3.1, fun i hi' => ?_, k4⟩
    have hm : it[i] ∈ it := List.getElem_mem hi'
    have hq : ∀ p ∈ itPs it[i], okP p = true := fun p hp => hi p (List.mem_flatMap.2 ⟨_, hm, hp⟩)
    simp only [itPs, List.mem_cons, List.not_mem_nil, or_false, forall_eq_or_imp, forall_eq, num_okP, oneOk_iff] at hq
    have hb := k3.2 i hi'
    rw [itL_get it i hi'] at hb ⊢
    exact ⟨hq.1, hq.2.1, hb⟩
  · rintro ⟨g1, g2, g3, g4, g5, g6, g7, g8, g9, g10, g11⟩
    simp only at g1 g2 g3 g4 g5 g6 g7 g8 g9 g10
    refine ⟨?_, fun p hp => ?_⟩
    · unfold mayCb
      have hm : mayIb it = true := (mayIb_iff it).2 ⟨g9, fun i hi => (g10 i hi).2.2⟩
      have ho := (ownB_iff (K, G, S, E, M, bl, it, er)).2 g11
      rw [ho]
      simp only
      rw [hm, decide_eq_true g7, decide_eq_true g8]; rfl
    · have hp' : p ∈ frHd (K, G, S, E, M, bl, it, er) ++ it.flatMap itPs := hp
      rcases List.mem_append.1 hp' with e | e
      · simp only [frHd, List.mem_cons, List.not_mem_nil, or_false] at e
        rcases e with rfl | rfl | rfl | rfl | rfl | rfl | rfl | rfl
        · exact byte_okP _ _ _ ((oneOk_iff _ _).2 (by omega))
        · rw [num_okP]; exact (oneOk_iff _ _).2 g2
        · rw [num_okP]; exact (oneOk_iff _ _).2 g3
        · rw [num_okP]; exact (oneOk_iff _ _).2 g4
        · rw [num_okP]; exact (oneOk_iff _ _).2 g5
        · rw [num_okP]; exact (oneOk_iff _ _).2 (by omega)
        · exact text_okP _ _ _ (by omega)
        · exact byte_okP _ _ _ ((oneOk_iff _ _).2 (by omega))
      · obtain ⟨x, hx, e⟩ := List.mem_flatMap.1 e
        obtain ⟨i, hi, e2⟩ := List.mem_iff_getElem.1 hx
        have h3 := g10 i hi
        rw [itL_get it i hi, e2] at h3
        simp only [itPs, List.mem_cons, List.not_mem_nil, or_false] at e
        rcases e with rfl | rfl | rfl
        · rw [num_okP]; exact (oneOk_iff _ _).2 h3.1
        · rw [num_okP]; exact (oneOk_iff _ _).2 h3.2.1
        · exact text_okP _ _ _ (by have := h3.2.2; omega)

theorem nm_six (K : Int) : ∃ b0 b1 b2 b3 b4 b5 : Bool, nmL K = [b0, b1, b2, b3, b4, b5] := by
  unfold nmL
  repeat' split
  all_goals exact ⟨_, _, _, _, _, _, rfl⟩








set_option maxHeartbeats 8000000 in
theorem rmayF_any (F : FrmT) (a : Option Addr) (c : Nat) (w : World) (D : Bool) (hD : D = true ↔ MayDoc F) (hI : ItsAt w a F.2.2.2.2.2.2.1.length F.2.2.2.2.2.2.1) (hn : F.2.2.2.2.2.2.1.length ≤ 1048576) (hz : ∀ i, (itL F.2.2.2.2.2.2.1 i).2.2.size ≤ 9223372036854775807) (hb : F.2.2.2.2.2.1.size ≤ 9223372036854775807) :
    Calls Try.prog 18 #[.agg (frmA F a c)] w fun e w' => e = .returned (.bool D) ∧ Below w.heap.size w w' := by
  obtain ⟨K, G, S, E, M, bl, it, er⟩ := F
  simp only [frmA] at hI hn hz hb hD ⊢
  unfold MayDoc OwnFr at hD
  simp only at hD
  obtain ⟨b0, b1, b2, b3, b4, b5, hnm⟩ := nm_six K
  have CN' : ∀ W, _ := fun W => rnames19_any K W
  have hA : nmA K = #[.bool b0, .bool b1, .bool b2, .bool b3, .bool b4, .bool b5] := by unfold nmA; rw [hnm]; rfl
  rw [hA] at CN'
  have hB : ∀ j, nmB K j = [b0, b1, b2, b3, b4, b5].getD j false := fun j => by unfold nmB; rw [hnm]
  rw [hB 0, hB 1, hB 2, hB 3, hB 4, hB 5] at hD
  have HD : Hid (D = true ↔ (1 ≤ K ∧ K ≤ 9) ∧ (0 ≤ G ∧ G ≤ 1099511627775) ∧ (0 ≤ S ∧ S ≤ 1099511627775) ∧ (0 ≤ E ∧ E ≤ 1099511627775) ∧ (0 ≤ M ∧ M ≤ 1099511627775) ∧ 0 ≤ er ∧ er ≤ 999 ∧ bl.size ≤ 20000 ∧ it.length ≤ 32 ∧ (∀ i, i < it.length → ItOk (itL it i)) ∧ (1 ≤ K ∧ K ≤ 9) ∧ (b0 = true ∨ S = 0) ∧ (b1 = true ∨ E = 0) ∧ (b2 = true ∨ M = 0) ∧ (b3 = true ∨ bl.size = 0) ∧ (b4 = true ∨ it.length = 0) ∧ (b5 = true ∨ er = 0)) := hD
  have HNM : Hid (nmL K = [b0, b1, b2, b3, b4, b5]) := hnm
  have CN : Hid (∀ W, _) := CN'
  clear hD hnm hA hB CN'
  obtain ⟨n, hnn⟩ : ∃ n, it.length = n := ⟨_, rfl⟩
  rw [hnn] at hI hn HD ⊢
  have HL : Hid (it.length = n) := hnn
  have HI0 : Hid (ItsAt w a n it) := hI
  have HZ : Hid (∀ i, (itL it i).2.2.size ≤ 9223372036854775807) := hz
  clear hI hz hnn
  have N1 := rnumber19_any G
  have N2 := rnumber19_any S
  have N3 := rnumber19_any E
  have N4 := rnumber19_any M
  have HB0 : Hid (Below w.heap.size w (w.alloc (.cells #[.int .i64 K, .int .i64 G, .int .i64 S, .int .i64 E, .int .i64 M, .string bl, .slice a n c, .int .i64 er] 39))) := below_new _ _
  have HK0 : Hid (Blk (w.alloc (.cells #[.int .i64 K, .int .i64 G, .int .i64 S, .int .i64 E, .int .i64 M, .string bl, .slice a n c, .int .i64 er] 39)) 39 w.heap.size #[.int .i64 K, .int .i64 G, .int .i64 S, .int .i64 E, .int .i64 M, .string bl, .slice a n c, .int .i64 er]) := Blk.new _ _ _
  go_enter Try.func18, Try.ntmps18
  go_wp2_with fail
  obtain ⟨w0, hw0⟩ : ∃ w0, w.alloc (.cells #[.int .i64 K, .int .i64 G, .int .i64 S, .int .i64 E, .int .i64 M, .string bl, .slice a n c, .int .i64 er] 39) = w0 := ⟨_, rfl⟩
  obtain ⟨h, hh⟩ : ∃ h, w.heap.size = h := ⟨_, rfl⟩
  rw [hw0] at HB0 HK0
  rw [hh] at HK0
  try rw [hw0]
  try rw [hh]
  clear hw0 hh
  refine (CN.out w0).mono ?_
  rintro e w1 ⟨rfl, hb1⟩
  have HB1 : Hid (Below w.heap.size w w1) := below_step HB0.out (Nat.le_refl _) hb1
  have HK1 : Hid (Blk w1 39 h #[.int .i64 K, .int .i64 G, .int .i64 S, .int .i64 E, .int .i64 M, .string bl, .slice a n c, .int .i64 er]) := HK0.out.on hb1
  clear hb1 HB0 HK0 CN
  have X1 : Blk (w1.alloc (.cells #[.bool false, .bool false, .bool false, .bool false, .bool false, .bool false] 67)) 67 w1.heap.size #[.bool false, .bool false, .bool false, .bool false, .bool false, .bool false] := Blk.new _ _ _
  have hE2 : Blk ((w1.alloc (.cells #[.bool false, .bool false, .bool false, .bool false, .bool false, .bool false] 67)).setRow w1.heap.size #[.bool b0, .bool b1, .bool b2, .bool b3, .bool b4, .bool b5]) 67 w1.heap.size #[.bool b0, .bool b1, .bool b2, .bool b3, .bool b4, .bool b5] := X1.setRow _
  have hb2 : Below w1.heap.size w1 ((w1.alloc (.cells #[.bool false, .bool false, .bool false, .bool false, .bool false, .bool false] 67)).setRow w1.heap.size #[.bool b0, .bool b1, .bool b2, .bool b3, .bool b4, .bool b5]) := below_setRow (below_new _ _) (Nat.le_refl _) _
  obtain ⟨w2, hw2⟩ : ∃ w2, (w1.alloc (.cells #[.bool false, .bool false, .bool false, .bool false, .bool false, .bool false] 67)).setRow w1.heap.size #[.bool b0, .bool b1, .bool b2, .bool b3, .bool b4, .bool b5] = w2 := ⟨_, rfl⟩
  rw [hw2] at hE2 hb2
  have HB : Hid (Below w.heap.size w w2) := below_step HB1.out (Nat.le_refl _) hb2
  have hK2 : Blk w2 39 h #[.int .i64 K, .int .i64 G, .int .i64 S, .int .i64 E, .int .i64 M, .string bl, .slice a n c, .int .i64 er] := HK1.out.on hb2
  have HI : Hid (ItsAt w2 a n it) := HI0.out.below HB.out
  have d0 : w2.cell? ⟨h, 0, none⟩ = some (.int .i64 K) := hK2.cell 0
  have d1 : w2.cell? ⟨h, 1, none⟩ = some (.int .i64 G) := hK2.cell 1
  have d2 : w2.cell? ⟨h, 2, none⟩ = some (.int .i64 S) := hK2.cell 2
  have d3 : w2.cell? ⟨h, 3, none⟩ = some (.int .i64 E) := hK2.cell 3
  have d4 : w2.cell? ⟨h, 4, none⟩ = some (.int .i64 M) := hK2.cell 4
  have d5 : w2.cell? ⟨h, 5, none⟩ = some (.string bl) := hK2.cell 5
  have d6 : w2.cell? ⟨h, 6, none⟩ = some (.slice a n c) := hK2.cell 6
  have d7 : w2.cell? ⟨h, 7, none⟩ = some (.int .i64 er) := hK2.cell 7
  have e0 : w2.cell? ⟨w1.heap.size, 0, none⟩ = some (.bool b0) := hE2.cell 0
  have e1 : w2.cell? ⟨w1.heap.size, 1, none⟩ = some (.bool b1) := hE2.cell 1
  have e2 : w2.cell? ⟨w1.heap.size, 2, none⟩ = some (.bool b2) := hE2.cell 2
  have e3 : w2.cell? ⟨w1.heap.size, 3, none⟩ = some (.bool b3) := hE2.cell 3
  have e4 : w2.cell? ⟨w1.heap.size, 4, none⟩ = some (.bool b4) := hE2.cell 4
  have e5 : w2.cell? ⟨w1.heap.size, 5, none⟩ = some (.bool b5) := hE2.cell 5
  clear hb2 HB1 HK1 HI0 hK2 hE2
  by_cases g0 : 1 ≤ K ∧ K ≤ 9
  · rw [decide_eq_true g0]
    by_cases g1 : 0 ≤ G ∧ G ≤ 1099511627775
    · rw [decide_eq_true g1] at N1
      by_cases g2 : 0 ≤ S ∧ S ≤ 1099511627775
      · rw [decide_eq_true g2] at N2
        by_cases g3 : 0 ≤ E ∧ E ≤ 1099511627775
        · rw [decide_eq_true g3] at N3
          by_cases g4 : 0 ≤ M ∧ M ≤ 1099511627775
          · rw [decide_eq_true g4] at N4
            by_cases g5 : 0 ≤ er
            · have r5 : decide (er < 0) = false := decide_eq_false (by omega)
              have R5 : ¬ (er < 0) := by omega
              by_cases g6 : er ≤ 999
              · have r6 : decide ((999 : Int) < er) = false := decide_eq_false (by omega)
                have R6 : ¬ ((999 : Int) < er) := by omega
                by_cases g7 : bl.size ≤ 20000
                · have r7 : decide ((20000 : Int) < (bl.size : Int)) = false := decide_eq_false (by omega)
                  have R7 : ¬ ((20000 : Int) < (bl.size : Int)) := by omega
                  by_cases g8 : n ≤ 32
                  · have r8 : decide ((32 : Int) < (n : Int)) = false := decide_eq_false (by omega)
                    have R8 : ¬ ((32 : Int) < (n : Int)) := by omega
                    go_wp2_with (with_reducible refine wpList_storeBlk rfl 67 _ _ rfl w1.heap.size #[.bool false, .bool false, .bool false, .bool false, .bool false, .bool false] #[.bool b0, .bool b1, .bool b2, .bool b3, .bool b4, .bool b5] (by with_unfolding_all rfl) (by with_unfolding_all rfl) X1 rfl (by kernel_rfl) (by kernel_rfl) ?_)
                    try rw [hw2]
                    clear hw2 X1
                    refine (N1 _).mono ?_
                    rintro e wx ⟨rfl, hwx⟩
                    rw [hwx]
                    clear hwx
                    go_wp2_with fail
                    refine (N2 _).mono ?_
                    rintro e wx ⟨rfl, hwx⟩
                    rw [hwx]
                    clear hwx
                    go_wp2_with fail
                    refine (N3 _).mono ?_
                    rintro e wx ⟨rfl, hwx⟩
                    rw [hwx]
                    clear hwx
                    go_wp2_with fail
                    refine (N4 _).mono ?_
                    rintro e wx ⟨rfl, hwx⟩
                    rw [hwx]
                    clear hwx
                    go_wp2_with fail
                    have HQ0 : Hid (D = true ↔ ((∀ i, i < n → ItOk (itL it i)) ∧ (b0 = true ∨ S = 0) ∧ (b1 = true ∨ E = 0) ∧ (b2 = true ∨ M = 0) ∧ (b3 = true ∨ bl.size = 0) ∧ (b4 = true ∨ n = 0) ∧ (b5 = true ∨ er = 0))) := by
                      show _ ↔ _
                      refine HD.out.trans ⟨fun q => ⟨fun i hi => q.2.2.2.2.2.2.2.2.2.1 i hi, ?_⟩, fun q => ⟨g0, g1, g2, g3, g4, g5, g6, g7, g8, fun i hi => q.1 i hi, g0, ?_⟩⟩
                      · have := q.2.2.2.2.2.2.2.2.2.2.2; exact this
                      · have := q.2; exact this
                    have HK19 : Hid (1 ≤ K ∧ K ≤ 9) := g0
                    clear HD g1 g2 g3 g4 g5 g6 g7 g0 r5 r6 r7 r8 R5 R6 R7 R8 N1 N2 N3 N4 HL
                    go_loopw [5] (fun i wr => ∃ k : Nat, k ≤ n ∧ i = .int .i64 k ∧ wr = w2 ∧ Hid (∀ j, j < k → ItOk (itL it j))) (fun i _ => n - (intOf i).toNat)
                    case atStart => exact ⟨0, Nat.zero_le _, rfl, rfl, fun j h => absurd h (Nat.not_lt_zero _)⟩
                    case round =>
                      obtain ⟨k, hk, rfl, rfl, HKK⟩ := hrel
                      by_cases hlt : k < n
                      · have b0' : (k : Int) < (n : Int) := by omega
                        obtain ⟨lb, off, rfl, hcl⟩ := HI.out.2.resolve_left (by omega)
                        obtain ⟨c0, c1, c2⟩ := hcl k hlt
                        have hz1 := HZ.out k
                        have HF : Hid (¬ ItOk (itL it k) → D = false) := fun q => Bool.eq_false_iff.2 (fun e => q ((HQ0.out.1 e).1 k hlt))
                        obtain ⟨⟨x0, x1, x2⟩, hx⟩ : ∃ x, itL it k = x := ⟨_, rfl⟩
                        have HX : Hid (itL it k = (x0, x1, x2)) := hx
                        rw [hx] at c0 c1 c2 hz1 HF
                        simp only at c0 c1 c2 hz1
                        have M0 := rnumber19_any x0
                        have M1 := rnumber19_any x1
                        clear hx hcl
                        by_cases y0 : 0 ≤ x0 ∧ x0 ≤ 1099511627775
                        · rw [decide_eq_true y0] at M0
                          by_cases y1 : 0 ≤ x1 ∧ x1 ≤ 1099511627775
                          · rw [decide_eq_true y1] at M1
                            by_cases y2 : x2.size ≤ 20000
                            · have s2 : ¬ ((20000 : Int) < (x2.size : Int)) := by omega
                              have HK2 : Hid (∀ j, j < k + 1 → ItOk (itL it j)) := fun j hj => by
                                by_cases e : j = k
                                · rw [e, HX.out]; exact ⟨y0, y1, y2⟩
                                · exact HKK.out j (by omega)
                              clear y0 y1 y2 HF HKK HX
                              go_wp2_with fail
                              refine (M0 _).mono ?_
                              rintro e wx ⟨rfl, hwx⟩
                              rw [hwx]
                              clear hwx
                              go_wp2_with fail
                              refine (M1 _).mono ?_
                              rintro e wx ⟨rfl, hwx⟩
                              rw [hwx]
                              clear hwx
                              go_wp2_with fail
                              refine ⟨?_, ?_⟩
                              · first
                                | exact ⟨k + 1, by omega, by go_num, rfl, HK2⟩
                                | exact ⟨k + 1, by omega, by go_num, trivial, HK2⟩
                                | ((repeat apply Exists.intro); refine ⟨?_, rfl⟩; exact ⟨k + 1, by omega, by go_num, rfl, HK2⟩)
                              · simp [intOf] <;> omega
                            · have s2 : (20000 : Int) < (x2.size : Int) := by omega
                              obtain rfl : D = false := HF.out (fun q => y2 q.2.2)
                              clear y0 y1 y2 HF HKK HX HQ0
                              go_wp2_with fail
                              refine (M0 _).mono ?_
                              rintro e wx ⟨rfl, hwx⟩
                              rw [hwx]
                              clear hwx
                              go_wp2_with fail
                              refine (M1 _).mono ?_
                              rintro e wx ⟨rfl, hwx⟩
                              rw [hwx]
                              clear hwx
                              go_wp2_with fail
                              go_ret
                              exact ⟨rfl, HB.out⟩
                          · rw [decide_eq_false y1] at M1
                            obtain rfl : D = false := HF.out (fun q => y1 q.2.1)
                            clear y0 y1 HF HKK HX HQ0
                            go_wp2_with fail
                            refine (M0 _).mono ?_
                            rintro e wx ⟨rfl, hwx⟩
                            rw [hwx]
                            clear hwx
                            go_wp2_with fail
                            refine (M1 _).mono ?_
                            rintro e wx ⟨rfl, hwx⟩
                            rw [hwx]
                            clear hwx
                            go_wp2_with fail
                            go_ret
                            exact ⟨rfl, HB.out⟩
                        · rw [decide_eq_false y0] at M0
                          obtain rfl : D = false := HF.out (fun q => y0 q.1)
                          clear y0 HF HKK HX HQ0
                          go_wp2_with fail
                          refine (M0 _).mono ?_
                          rintro e wx ⟨rfl, hwx⟩
                          rw [hwx]
                          clear hwx
                          go_wp2_with fail
                          go_ret
                          exact ⟨rfl, HB.out⟩
                      · obtain rfl : k = n := by omega
                        have b0' : ¬ ((k : Int) < (k : Int)) := by omega
                        have HQ : Hid (D = true ↔ ((b0 = true ∨ S = 0) ∧ (b1 = true ∨ E = 0) ∧ (b2 = true ∨ M = 0) ∧ (b3 = true ∨ bl.size = 0) ∧ (b4 = true ∨ k = 0) ∧ (b5 = true ∨ er = 0))) := by
                          show _ ↔ _
                          exact HQ0.out.trans ⟨fun q => q.2, fun q => ⟨HKK.out, q⟩⟩
                        clear HQ0 HKK HI HZ
                        have hk19 := HK19.out
                        rcases (by omega : K = 1 ∨ K = 2 ∨ K = 3 ∨ K = 4 ∨ K = 5 ∨ K = 6 ∨ K = 7 ∨ K = 8 ∨ K = 9) with rfl | rfl | rfl | rfl | rfl | rfl | rfl | rfl | rfl
                        · obtain ⟨rfl, rfl, rfl, rfl, rfl, rfl⟩ : b0 = false ∧ b1 = true ∧ b2 = false ∧ b3 = true ∧ b4 = false ∧ b5 = false := by have q := HNM.out; simp [nmL] at q; simp [q]
                          clear HNM HK19 hk19
                          by_cases h0 : S = 0
                          · have t0 : (S == 0) = true := by simp [h0]
                            by_cases h2 : M = 0
                            · have t2 : (M == 0) = true := by simp [h2]
                              by_cases h4 : k = 0
                              · have t4 : ((k : Int) == 0) = true := by simp [h4]
                                by_cases h5 : er = 0
                                · have t5 : (er == 0) = true := by simp [h5]
                                  obtain rfl : D = true := HQ.out.2 ⟨.inr h0, .inl rfl, .inr h2, .inl rfl, .inr h4, .inr h5⟩
                                  clear HQ h0 h2 h4 h5
                                  go_wp2_with fail
                                  go_ret
                                  exact ⟨rfl, HB.out⟩
                                · obtain rfl : D = false := Bool.eq_false_iff.2 (fun e => ((HQ.out.1 e).2.2.2.2.2).elim (fun k => by cases k) (fun k => h5 k))
                                  have t5 : (er == 0) = false := by simp [h5]
                                  clear HQ h0 h2 h4 h5
                                  go_wp2_with fail
                                  go_ret
                                  exact ⟨rfl, HB.out⟩
                              · obtain rfl : D = false := Bool.eq_false_iff.2 (fun e => ((HQ.out.1 e).2.2.2.2.1).elim (fun k => by cases k) (fun k => h4 k))
                                have t4 : ((k : Int) == 0) = false := by simp [h4]
                                clear HQ h0 h2 h4
                                go_wp2_with fail
                                go_ret
                                exact ⟨rfl, HB.out⟩
                            · obtain rfl : D = false := Bool.eq_false_iff.2 (fun e => ((HQ.out.1 e).2.2.1).elim (fun k => by cases k) (fun k => h2 k))
                              have t2 : (M == 0) = false := by simp [h2]
                              clear HQ h0 h2
                              go_wp2_with fail
                              go_ret
                              exact ⟨rfl, HB.out⟩
                          · obtain rfl : D = false := Bool.eq_false_iff.2 (fun e => ((HQ.out.1 e).1).elim (fun k => by cases k) (fun k => h0 k))
                            have t0 : (S == 0) = false := by simp [h0]
                            clear HQ h0
                            go_wp2_with fail
                            go_ret
                            exact ⟨rfl, HB.out⟩
                        · obtain ⟨rfl, rfl, rfl, rfl, rfl, rfl⟩ : b0 = true ∧ b1 = false ∧ b2 = false ∧ b3 = false ∧ b4 = false ∧ b5 = false := by have q := HNM.out; simp [nmL] at q; simp [q]
                          clear HNM HK19 hk19
                          by_cases h1 : E = 0
                          · have t1 : (E == 0) = true := by simp [h1]
                            by_cases h2 : M = 0
                            · have t2 : (M == 0) = true := by simp [h2]
                              by_cases h3 : bl.size = 0
                              · have t3 : bl.toList.isEmpty = true := isE_yes bl h3
                                by_cases h4 : k = 0
                                · have t4 : ((k : Int) == 0) = true := by simp [h4]
                                  by_cases h5 : er = 0
                                  · have t5 : (er == 0) = true := by simp [h5]
                                    obtain rfl : D = true := HQ.out.2 ⟨.inl rfl, .inr h1, .inr h2, .inr h3, .inr h4, .inr h5⟩
                                    clear HQ h1 h2 h3 h4 h5
                                    go_wp2_with fail
                                    go_ret
                                    exact ⟨rfl, HB.out⟩
                                  · obtain rfl : D = false := Bool.eq_false_iff.2 (fun e => ((HQ.out.1 e).2.2.2.2.2).elim (fun k => by cases k) (fun k => h5 k))
                                    have t5 : (er == 0) = false := by simp [h5]
                                    clear HQ h1 h2 h3 h4 h5
                                    go_wp2_with fail
                                    go_ret
                                    exact ⟨rfl, HB.out⟩
                                · obtain rfl : D = false := Bool.eq_false_iff.2 (fun e => ((HQ.out.1 e).2.2.2.2.1).elim (fun k => by cases k) (fun k => h4 k))
                                  have t4 : ((k : Int) == 0) = false := by simp [h4]
                                  clear HQ h1 h2 h3 h4
                                  go_wp2_with fail
                                  go_ret
                                  exact ⟨rfl, HB.out⟩
                              · obtain rfl : D = false := Bool.eq_false_iff.2 (fun e => ((HQ.out.1 e).2.2.2.1).elim (fun k => by cases k) (fun k => h3 k))
                                have t3 : bl.toList.isEmpty = false := isE_no bl h3
                                clear HQ h1 h2 h3
                                go_wp2_with fail
                                go_ret
                                exact ⟨rfl, HB.out⟩
                            · obtain rfl : D = false := Bool.eq_false_iff.2 (fun e => ((HQ.out.1 e).2.2.1).elim (fun k => by cases k) (fun k => h2 k))
                              have t2 : (M == 0) = false := by simp [h2]
                              clear HQ h1 h2
                              go_wp2_with fail
                              go_ret
                              exact ⟨rfl, HB.out⟩
                          · obtain rfl : D = false := Bool.eq_false_iff.2 (fun e => ((HQ.out.1 e).2.1).elim (fun k => by cases k) (fun k => h1 k))
                            have t1 : (E == 0) = false := by simp [h1]
                            clear HQ h1
                            go_wp2_with fail
                            go_ret
                            exact ⟨rfl, HB.out⟩
                        · obtain ⟨rfl, rfl, rfl, rfl, rfl, rfl⟩ : b0 = true ∧ b1 = false ∧ b2 = true ∧ b3 = false ∧ b4 = false ∧ b5 = false := by have q := HNM.out; simp [nmL] at q; simp [q]
                          clear HNM HK19 hk19
                          by_cases h1 : E = 0
                          · have t1 : (E == 0) = true := by simp [h1]
                            by_cases h3 : bl.size = 0
                            · have t3 : bl.toList.isEmpty = true := isE_yes bl h3
                              by_cases h4 : k = 0
                              · have t4 : ((k : Int) == 0) = true := by simp [h4]
                                by_cases h5 : er = 0
                                · have t5 : (er == 0) = true := by simp [h5]
                                  obtain rfl : D = true := HQ.out.2 ⟨.inl rfl, .inr h1, .inl rfl, .inr h3, .inr h4, .inr h5⟩
                                  clear HQ h1 h3 h4 h5
                                  go_wp2_with fail
                                  go_ret
                                  exact ⟨rfl, HB.out⟩
                                · obtain rfl : D = false := Bool.eq_false_iff.2 (fun e => ((HQ.out.1 e).2.2.2.2.2).elim (fun k => by cases k) (fun k => h5 k))
                                  have t5 : (er == 0) = false := by simp [h5]
                                  clear HQ h1 h3 h4 h5
                                  go_wp2_with fail
                                  go_ret
                                  exact ⟨rfl, HB.out⟩
                              · obtain rfl : D = false := Bool.eq_false_iff.2 (fun e => ((HQ.out.1 e).2.2.2.2.1).elim (fun k => by cases k) (fun k => h4 k))
                                have t4 : ((k : Int) == 0) = false := by simp [h4]
                                clear HQ h1 h3 h4
                                go_wp2_with fail
                                go_ret
                                exact ⟨rfl, HB.out⟩
                            · obtain rfl : D = false := Bool.eq_false_iff.2 (fun e => ((HQ.out.1 e).2.2.2.1).elim (fun k => by cases k) (fun k => h3 k))
                              have t3 : bl.toList.isEmpty = false := isE_no bl h3
                              clear HQ h1 h3
                              go_wp2_with fail
                              go_ret
                              exact ⟨rfl, HB.out⟩
                          · obtain rfl : D = false := Bool.eq_false_iff.2 (fun e => ((HQ.out.1 e).2.1).elim (fun k => by cases k) (fun k => h1 k))
                            have t1 : (E == 0) = false := by simp [h1]
                            clear HQ h1
                            go_wp2_with fail
                            go_ret
                            exact ⟨rfl, HB.out⟩
                        · obtain ⟨rfl, rfl, rfl, rfl, rfl, rfl⟩ : b0 = false ∧ b1 = false ∧ b2 = false ∧ b3 = false ∧ b4 = true ∧ b5 = false := by have q := HNM.out; simp [nmL] at q; simp [q]
                          clear HNM HK19 hk19
                          by_cases h0 : S = 0
                          · have t0 : (S == 0) = true := by simp [h0]
                            by_cases h1 : E = 0
                            · have t1 : (E == 0) = true := by simp [h1]
                              by_cases h2 : M = 0
                              · have t2 : (M == 0) = true := by simp [h2]
                                by_cases h3 : bl.size = 0
                                · have t3 : bl.toList.isEmpty = true := isE_yes bl h3
                                  by_cases h5 : er = 0
                                  · have t5 : (er == 0) = true := by simp [h5]
                                    obtain rfl : D = true := HQ.out.2 ⟨.inr h0, .inr h1, .inr h2, .inr h3, .inl rfl, .inr h5⟩
                                    clear HQ h0 h1 h2 h3 h5
                                    go_wp2_with fail
                                    go_ret
                                    exact ⟨rfl, HB.out⟩
                                  · obtain rfl : D = false := Bool.eq_false_iff.2 (fun e => ((HQ.out.1 e).2.2.2.2.2).elim (fun k => by cases k) (fun k => h5 k))
                                    have t5 : (er == 0) = false := by simp [h5]
                                    clear HQ h0 h1 h2 h3 h5
                                    go_wp2_with fail
                                    go_ret
                                    exact ⟨rfl, HB.out⟩
                                · obtain rfl : D = false := Bool.eq_false_iff.2 (fun e => ((HQ.out.1 e).2.2.2.1).elim (fun k => by cases k) (fun k => h3 k))
                                  have t3 : bl.toList.isEmpty = false := isE_no bl h3
                                  clear HQ h0 h1 h2 h3
                                  go_wp2_with fail
                                  go_ret
                                  exact ⟨rfl, HB.out⟩
                              · obtain rfl : D = false := Bool.eq_false_iff.2 (fun e => ((HQ.out.1 e).2.2.1).elim (fun k => by cases k) (fun k => h2 k))
                                have t2 : (M == 0) = false := by simp [h2]
                                clear HQ h0 h1 h2
                                go_wp2_with fail
                                go_ret
                                exact ⟨rfl, HB.out⟩
                            · obtain rfl : D = false := Bool.eq_false_iff.2 (fun e => ((HQ.out.1 e).2.1).elim (fun k => by cases k) (fun k => h1 k))
                              have t1 : (E == 0) = false := by simp [h1]
                              clear HQ h0 h1
                              go_wp2_with fail
                              go_ret
                              exact ⟨rfl, HB.out⟩
                          · obtain rfl : D = false := Bool.eq_false_iff.2 (fun e => ((HQ.out.1 e).1).elim (fun k => by cases k) (fun k => h0 k))
                            have t0 : (S == 0) = false := by simp [h0]
                            clear HQ h0
                            go_wp2_with fail
                            go_ret
                            exact ⟨rfl, HB.out⟩
                        · obtain ⟨rfl, rfl, rfl, rfl, rfl, rfl⟩ : b0 = true ∧ b1 = true ∧ b2 = false ∧ b3 = true ∧ b4 = false ∧ b5 = false := by have q := HNM.out; simp [nmL] at q; simp [q]
                          clear HNM HK19 hk19
                          by_cases h2 : M = 0
                          · have t2 : (M == 0) = true := by simp [h2]
                            by_cases h4 : k = 0
                            · have t4 : ((k : Int) == 0) = true := by simp [h4]
                              by_cases h5 : er = 0
                              · have t5 : (er == 0) = true := by simp [h5]
                                obtain rfl : D = true := HQ.out.2 ⟨.inl rfl, .inl rfl, .inr h2, .inl rfl, .inr h4, .inr h5⟩
                                clear HQ h2 h4 h5
                                go_wp2_with fail
                                go_ret
                                exact ⟨rfl, HB.out⟩
                              · obtain rfl : D = false := Bool.eq_false_iff.2 (fun e => ((HQ.out.1 e).2.2.2.2.2).elim (fun k => by cases k) (fun k => h5 k))
                                have t5 : (er == 0) = false := by simp [h5]
                                clear HQ h2 h4 h5
                                go_wp2_with fail
                                go_ret
                                exact ⟨rfl, HB.out⟩
                            · obtain rfl : D = false := Bool.eq_false_iff.2 (fun e => ((HQ.out.1 e).2.2.2.2.1).elim (fun k => by cases k) (fun k => h4 k))
                              have t4 : ((k : Int) == 0) = false := by simp [h4]
                              clear HQ h2 h4
                              go_wp2_with fail
                              go_ret
                              exact ⟨rfl, HB.out⟩
                          · obtain rfl : D = false := Bool.eq_false_iff.2 (fun e => ((HQ.out.1 e).2.2.1).elim (fun k => by cases k) (fun k => h2 k))
                            have t2 : (M == 0) = false := by simp [h2]
                            clear HQ h2
                            go_wp2_with fail
                            go_ret
                            exact ⟨rfl, HB.out⟩
                        · obtain ⟨rfl, rfl, rfl, rfl, rfl, rfl⟩ : b0 = true ∧ b1 = false ∧ b2 = false ∧ b3 = false ∧ b4 = false ∧ b5 = false := by have q := HNM.out; simp [nmL] at q; simp [q]
                          clear HNM HK19 hk19
                          by_cases h1 : E = 0
                          · have t1 : (E == 0) = true := by simp [h1]
                            by_cases h2 : M = 0
                            · have t2 : (M == 0) = true := by simp [h2]
                              by_cases h3 : bl.size = 0
                              · have t3 : bl.toList.isEmpty = true := isE_yes bl h3
                                by_cases h4 : k = 0
                                · have t4 : ((k : Int) == 0) = true := by simp [h4]
                                  by_cases h5 : er = 0
                                  · have t5 : (er == 0) = true := by simp [h5]
                                    obtain rfl : D = true := HQ.out.2 ⟨.inl rfl, .inr h1, .inr h2, .inr h3, .inr h4, .inr h5⟩
                                    clear HQ h1 h2 h3 h4 h5
                                    go_wp2_with fail
                                    go_ret
                                    exact ⟨rfl, HB.out⟩
                                  · obtain rfl : D = false := Bool.eq_false_iff.2 (fun e => ((HQ.out.1 e).2.2.2.2.2).elim (fun k => by cases k) (fun k => h5 k))
                                    have t5 : (er == 0) = false := by simp [h5]
                                    clear HQ h1 h2 h3 h4 h5
                                    go_wp2_with fail
                                    go_ret
                                    exact ⟨rfl, HB.out⟩
                                · obtain rfl : D = false := Bool.eq_false_iff.2 (fun e => ((HQ.out.1 e).2.2.2.2.1).elim (fun k => by cases k) (fun k => h4 k))
                                  have t4 : ((k : Int) == 0) = false := by simp [h4]
                                  clear HQ h1 h2 h3 h4
                                  go_wp2_with fail
                                  go_ret
                                  exact ⟨rfl, HB.out⟩
                              · obtain rfl : D = false := Bool.eq_false_iff.2 (fun e => ((HQ.out.1 e).2.2.2.1).elim (fun k => by cases k) (fun k => h3 k))
                                have t3 : bl.toList.isEmpty = false := isE_no bl h3
                                clear HQ h1 h2 h3
                                go_wp2_with fail
                                go_ret
                                exact ⟨rfl, HB.out⟩
                            · obtain rfl : D = false := Bool.eq_false_iff.2 (fun e => ((HQ.out.1 e).2.2.1).elim (fun k => by cases k) (fun k => h2 k))
                              have t2 : (M == 0) = false := by simp [h2]
                              clear HQ h1 h2
                              go_wp2_with fail
                              go_ret
                              exact ⟨rfl, HB.out⟩
                          · obtain rfl : D = false := Bool.eq_false_iff.2 (fun e => ((HQ.out.1 e).2.1).elim (fun k => by cases k) (fun k => h1 k))
                            have t1 : (E == 0) = false := by simp [h1]
                            clear HQ h1
                            go_wp2_with fail
                            go_ret
                            exact ⟨rfl, HB.out⟩
                        · obtain ⟨rfl, rfl, rfl, rfl, rfl, rfl⟩ : b0 = false ∧ b1 = false ∧ b2 = false ∧ b3 = false ∧ b4 = false ∧ b5 = false := by have q := HNM.out; simp [nmL] at q; simp [q]
                          clear HNM HK19 hk19
                          by_cases h0 : S = 0
                          · have t0 : (S == 0) = true := by simp [h0]
                            by_cases h1 : E = 0
                            · have t1 : (E == 0) = true := by simp [h1]
                              by_cases h2 : M = 0
                              · have t2 : (M == 0) = true := by simp [h2]
                                by_cases h3 : bl.size = 0
                                · have t3 : bl.toList.isEmpty = true := isE_yes bl h3
                                  by_cases h4 : k = 0
                                  · have t4 : ((k : Int) == 0) = true := by simp [h4]
                                    by_cases h5 : er = 0
                                    · have t5 : (er == 0) = true := by simp [h5]
                                      obtain rfl : D = true := HQ.out.2 ⟨.inr h0, .inr h1, .inr h2, .inr h3, .inr h4, .inr h5⟩
                                      clear HQ h0 h1 h2 h3 h4 h5
                                      go_wp2_with fail
                                      go_ret
                                      exact ⟨rfl, HB.out⟩
                                    · obtain rfl : D = false := Bool.eq_false_iff.2 (fun e => ((HQ.out.1 e).2.2.2.2.2).elim (fun k => by cases k) (fun k => h5 k))
                                      have t5 : (er == 0) = false := by simp [h5]
                                      clear HQ h0 h1 h2 h3 h4 h5
                                      go_wp2_with fail
                                      go_ret
                                      exact ⟨rfl, HB.out⟩
                                  · obtain rfl : D = false := Bool.eq_false_iff.2 (fun e => ((HQ.out.1 e).2.2.2.2.1).elim (fun k => by cases k) (fun k => h4 k))
                                    have t4 : ((k : Int) == 0) = false := by simp [h4]
                                    clear HQ h0 h1 h2 h3 h4
                                    go_wp2_with fail
                                    go_ret
                                    exact ⟨rfl, HB.out⟩
                                · obtain rfl : D = false := Bool.eq_false_iff.2 (fun e => ((HQ.out.1 e).2.2.2.1).elim (fun k => by cases k) (fun k => h3 k))
                                  have t3 : bl.toList.isEmpty = false := isE_no bl h3
                                  clear HQ h0 h1 h2 h3
                                  go_wp2_with fail
                                  go_ret
                                  exact ⟨rfl, HB.out⟩
                              · obtain rfl : D = false := Bool.eq_false_iff.2 (fun e => ((HQ.out.1 e).2.2.1).elim (fun k => by cases k) (fun k => h2 k))
                                have t2 : (M == 0) = false := by simp [h2]
                                clear HQ h0 h1 h2
                                go_wp2_with fail
                                go_ret
                                exact ⟨rfl, HB.out⟩
                            · obtain rfl : D = false := Bool.eq_false_iff.2 (fun e => ((HQ.out.1 e).2.1).elim (fun k => by cases k) (fun k => h1 k))
                              have t1 : (E == 0) = false := by simp [h1]
                              clear HQ h0 h1
                              go_wp2_with fail
                              go_ret
                              exact ⟨rfl, HB.out⟩
                          · obtain rfl : D = false := Bool.eq_false_iff.2 (fun e => ((HQ.out.1 e).1).elim (fun k => by cases k) (fun k => h0 k))
                            have t0 : (S == 0) = false := by simp [h0]
                            clear HQ h0
                            go_wp2_with fail
                            go_ret
                            exact ⟨rfl, HB.out⟩
                        · obtain ⟨rfl, rfl, rfl, rfl, rfl, rfl⟩ : b0 = true ∧ b1 = true ∧ b2 = false ∧ b3 = true ∧ b4 = false ∧ b5 = false := by have q := HNM.out; simp [nmL] at q; simp [q]
                          clear HNM HK19 hk19
                          by_cases h2 : M = 0
                          · have t2 : (M == 0) = true := by simp [h2]
                            by_cases h4 : k = 0
                            · have t4 : ((k : Int) == 0) = true := by simp [h4]
                              by_cases h5 : er = 0
                              · have t5 : (er == 0) = true := by simp [h5]
                                obtain rfl : D = true := HQ.out.2 ⟨.inl rfl, .inl rfl, .inr h2, .inl rfl, .inr h4, .inr h5⟩
                                clear HQ h2 h4 h5
                                go_wp2_with fail
                                go_ret
                                exact ⟨rfl, HB.out⟩
                              · obtain rfl : D = false := Bool.eq_false_iff.2 (fun e => ((HQ.out.1 e).2.2.2.2.2).elim (fun k => by cases k) (fun k => h5 k))
                                have t5 : (er == 0) = false := by simp [h5]
                                clear HQ h2 h4 h5
                                go_wp2_with fail
                                go_ret
                                exact ⟨rfl, HB.out⟩
                            · obtain rfl : D = false := Bool.eq_false_iff.2 (fun e => ((HQ.out.1 e).2.2.2.2.1).elim (fun k => by cases k) (fun k => h4 k))
                              have t4 : ((k : Int) == 0) = false := by simp [h4]
                              clear HQ h2 h4
                              go_wp2_with fail
                              go_ret
                              exact ⟨rfl, HB.out⟩
                          · obtain rfl : D = false := Bool.eq_false_iff.2 (fun e => ((HQ.out.1 e).2.2.1).elim (fun k => by cases k) (fun k => h2 k))
                            have t2 : (M == 0) = false := by simp [h2]
                            clear HQ h2
                            go_wp2_with fail
                            go_ret
                            exact ⟨rfl, HB.out⟩
                        · obtain ⟨rfl, rfl, rfl, rfl, rfl, rfl⟩ : b0 = false ∧ b1 = false ∧ b2 = false ∧ b3 = false ∧ b4 = false ∧ b5 = true := by have q := HNM.out; simp [nmL] at q; simp [q]
                          clear HNM HK19 hk19
                          by_cases h0 : S = 0
                          · have t0 : (S == 0) = true := by simp [h0]
                            by_cases h1 : E = 0
                            · have t1 : (E == 0) = true := by simp [h1]
                              by_cases h2 : M = 0
                              · have t2 : (M == 0) = true := by simp [h2]
                                by_cases h3 : bl.size = 0
                                · have t3 : bl.toList.isEmpty = true := isE_yes bl h3
                                  by_cases h4 : k = 0
                                  · have t4 : ((k : Int) == 0) = true := by simp [h4]
                                    obtain rfl : D = true := HQ.out.2 ⟨.inr h0, .inr h1, .inr h2, .inr h3, .inr h4, .inl rfl⟩
                                    clear HQ h0 h1 h2 h3 h4
                                    go_wp2_with fail
                                    go_ret
                                    exact ⟨rfl, HB.out⟩
                                  · obtain rfl : D = false := Bool.eq_false_iff.2 (fun e => ((HQ.out.1 e).2.2.2.2.1).elim (fun k => by cases k) (fun k => h4 k))
                                    have t4 : ((k : Int) == 0) = false := by simp [h4]
                                    clear HQ h0 h1 h2 h3 h4
                                    go_wp2_with fail
                                    go_ret
                                    exact ⟨rfl, HB.out⟩
                                · obtain rfl : D = false := Bool.eq_false_iff.2 (fun e => ((HQ.out.1 e).2.2.2.1).elim (fun k => by cases k) (fun k => h3 k))
                                  have t3 : bl.toList.isEmpty = false := isE_no bl h3
                                  clear HQ h0 h1 h2 h3
                                  go_wp2_with fail
                                  go_ret
                                  exact ⟨rfl, HB.out⟩
                              · obtain rfl : D = false := Bool.eq_false_iff.2 (fun e => ((HQ.out.1 e).2.2.1).elim (fun k => by cases k) (fun k => h2 k))
                                have t2 : (M == 0) = false := by simp [h2]
                                clear HQ h0 h1 h2
                                go_wp2_with fail
                                go_ret
                                exact ⟨rfl, HB.out⟩
                            · obtain rfl : D = false := Bool.eq_false_iff.2 (fun e => ((HQ.out.1 e).2.1).elim (fun k => by cases k) (fun k => h1 k))
                              have t1 : (E == 0) = false := by simp [h1]
                              clear HQ h0 h1
                              go_wp2_with fail
                              go_ret
                              exact ⟨rfl, HB.out⟩
                          · obtain rfl : D = false := Bool.eq_false_iff.2 (fun e => ((HQ.out.1 e).1).elim (fun k => by cases k) (fun k => h0 k))
                            have t0 : (S == 0) = false := by simp [h0]
                            clear HQ h0
                            go_wp2_with fail
                            go_ret
                            exact ⟨rfl, HB.out⟩
                  · obtain rfl : D = false := Bool.eq_false_iff.2 (fun e => g8 (HD.out.1 e).2.2.2.2.2.2.2.2.1)
                    have r8 : decide ((32 : Int) < (n : Int)) = true := decide_eq_true (by omega)
                    have R8 : ((32 : Int) < (n : Int)) := by omega
                    go_wp2_with (with_reducible refine wpList_storeBlk rfl 67 _ _ rfl w1.heap.size #[.bool false, .bool false, .bool false, .bool false, .bool false, .bool false] #[.bool b0, .bool b1, .bool b2, .bool b3, .bool b4, .bool b5] (by with_unfolding_all rfl) (by with_unfolding_all rfl) X1 rfl (by kernel_rfl) (by kernel_rfl) ?_)
                    try rw [hw2]
                    clear hw2 X1
                    refine (N1 _).mono ?_
                    rintro e wx ⟨rfl, hwx⟩
                    rw [hwx]
                    clear hwx
                    go_wp2_with fail
                    refine (N2 _).mono ?_
                    rintro e wx ⟨rfl, hwx⟩
                    rw [hwx]
                    clear hwx
                    go_wp2_with fail
                    refine (N3 _).mono ?_
                    rintro e wx ⟨rfl, hwx⟩
                    rw [hwx]
                    clear hwx
                    go_wp2_with fail
                    refine (N4 _).mono ?_
                    rintro e wx ⟨rfl, hwx⟩
                    rw [hwx]
                    clear hwx
                    go_wp2_with fail
                    go_wp2_with fail
                    go_ret
                    exact ⟨rfl, HB.out⟩
                · obtain rfl : D = false := Bool.eq_false_iff.2 (fun e => g7 (HD.out.1 e).2.2.2.2.2.2.2.1)
                  have r7 : decide ((20000 : Int) < (bl.size : Int)) = true := decide_eq_true (by omega)
                  have R7 : ((20000 : Int) < (bl.size : Int)) := by omega
                  go_wp2_with (with_reducible refine wpList_storeBlk rfl 67 _ _ rfl w1.heap.size #[.bool false, .bool false, .bool false, .bool false, .bool false, .bool false] #[.bool b0, .bool b1, .bool b2, .bool b3, .bool b4, .bool b5] (by with_unfolding_all rfl) (by with_unfolding_all rfl) X1 rfl (by kernel_rfl) (by kernel_rfl) ?_)
                  try rw [hw2]
                  clear hw2 X1
                  refine (N1 _).mono ?_
                  rintro e wx ⟨rfl, hwx⟩
                  rw [hwx]
                  clear hwx
                  go_wp2_with fail
                  refine (N2 _).mono ?_
                  rintro e wx ⟨rfl, hwx⟩
                  rw [hwx]
                  clear hwx
                  go_wp2_with fail
                  refine (N3 _).mono ?_
                  rintro e wx ⟨rfl, hwx⟩
                  rw [hwx]
                  clear hwx
                  go_wp2_with fail
                  refine (N4 _).mono ?_
                  rintro e wx ⟨rfl, hwx⟩
                  rw [hwx]
                  clear hwx
                  go_wp2_with fail
                  go_wp2_with fail
                  go_ret
                  exact ⟨rfl, HB.out⟩
              · obtain rfl : D = false := Bool.eq_false_iff.2 (fun e => g6 (HD.out.1 e).2.2.2.2.2.2.1)
                have r6 : decide ((999 : Int) < er) = true := decide_eq_true (by omega)
                have R6 : ((999 : Int) < er) := by omega
                go_wp2_with (with_reducible refine wpList_storeBlk rfl 67 _ _ rfl w1.heap.size #[.bool false, .bool false, .bool false, .bool false, .bool false, .bool false] #[.bool b0, .bool b1, .bool b2, .bool b3, .bool b4, .bool b5] (by with_unfolding_all rfl) (by with_unfolding_all rfl) X1 rfl (by kernel_rfl) (by kernel_rfl) ?_)
                try rw [hw2]
                clear hw2 X1
                refine (N1 _).mono ?_
                rintro e wx ⟨rfl, hwx⟩
                rw [hwx]
                clear hwx
                go_wp2_with fail
                refine (N2 _).mono ?_
                rintro e wx ⟨rfl, hwx⟩
                rw [hwx]
                clear hwx
                go_wp2_with fail
                refine (N3 _).mono ?_
                rintro e wx ⟨rfl, hwx⟩
                rw [hwx]
                clear hwx
                go_wp2_with fail
                refine (N4 _).mono ?_
                rintro e wx ⟨rfl, hwx⟩
                rw [hwx]
                clear hwx
                go_wp2_with fail
                go_wp2_with fail
                go_ret
                exact ⟨rfl, HB.out⟩
            · obtain rfl : D = false := Bool.eq_false_iff.2 (fun e => g5 (HD.out.1 e).2.2.2.2.2.1)
              have r5 : decide (er < 0) = true := decide_eq_true (by omega)
              have R5 : (er < 0) := by omega
              go_wp2_with (with_reducible refine wpList_storeBlk rfl 67 _ _ rfl w1.heap.size #[.bool false, .bool false, .bool false, .bool false, .bool false, .bool false] #[.bool b0, .bool b1, .bool b2, .bool b3, .bool b4, .bool b5] (by with_unfolding_all rfl) (by with_unfolding_all rfl) X1 rfl (by kernel_rfl) (by kernel_rfl) ?_)
              try rw [hw2]
              clear hw2 X1
              refine (N1 _).mono ?_
              rintro e wx ⟨rfl, hwx⟩
              rw [hwx]
              clear hwx
              go_wp2_with fail
              refine (N2 _).mono ?_
              rintro e wx ⟨rfl, hwx⟩
              rw [hwx]
              clear hwx
              go_wp2_with fail
              refine (N3 _).mono ?_
              rintro e wx ⟨rfl, hwx⟩
              rw [hwx]
              clear hwx
              go_wp2_with fail
              refine (N4 _).mono ?_
              rintro e wx ⟨rfl, hwx⟩
              rw [hwx]
              clear hwx
              go_wp2_with fail
              go_wp2_with fail
              go_ret
              exact ⟨rfl, HB.out⟩
          · obtain rfl : D = false := Bool.eq_false_iff.2 (fun e => g4 (HD.out.1 e).2.2.2.2.1)
            rw [decide_eq_false g4] at N4
            go_wp2_with (with_reducible refine wpList_storeBlk rfl 67 _ _ rfl w1.heap.size #[.bool false, .bool false, .bool false, .bool false, .bool false, .bool false] #[.bool b0, .bool b1, .bool b2, .bool b3, .bool b4, .bool b5] (by with_unfolding_all rfl) (by with_unfolding_all rfl) X1 rfl (by kernel_rfl) (by kernel_rfl) ?_)
            try rw [hw2]
            clear hw2 X1
            refine (N1 _).mono ?_
            rintro e wx ⟨rfl, hwx⟩
            rw [hwx]
            clear hwx
            go_wp2_with fail
            refine (N2 _).mono ?_
            rintro e wx ⟨rfl, hwx⟩
            rw [hwx]
            clear hwx
            go_wp2_with fail
            refine (N3 _).mono ?_
            rintro e wx ⟨rfl, hwx⟩
            rw [hwx]
            clear hwx
            go_wp2_with fail
            refine (N4 _).mono ?_
            rintro e wx ⟨rfl, hwx⟩
            rw [hwx]
            clear hwx
            go_wp2_with fail
            go_wp2_with fail
            go_ret
            exact ⟨rfl, HB.out⟩
        · obtain rfl : D = false := Bool.eq_false_iff.2 (fun e => g3 (HD.out.1 e).2.2.2.1)
          rw [decide_eq_false g3] at N3
          go_wp2_with (with_reducible refine wpList_storeBlk rfl 67 _ _ rfl w1.heap.size #[.bool false, .bool false, .bool false, .bool false, .bool false, .bool false] #[.bool b0, .bool b1, .bool b2, .bool b3, .bool b4, .bool b5] (by with_unfolding_all rfl) (by with_unfolding_all rfl) X1 rfl (by kernel_rfl) (by kernel_rfl) ?_)
          try rw [hw2]
          clear hw2 X1
          refine (N1 _).mono ?_
          rintro e wx ⟨rfl, hwx⟩
          rw [hwx]
          clear hwx
          go_wp2_with fail
          refine (N2 _).mono ?_
          rintro e wx ⟨rfl, hwx⟩
          rw [hwx]
          clear hwx
          go_wp2_with fail
          refine (N3 _).mono ?_
          rintro e wx ⟨rfl, hwx⟩
          rw [hwx]
          clear hwx
          go_wp2_with fail
          go_wp2_with fail
          go_ret
          exact ⟨rfl, HB.out⟩
      · obtain rfl : D = false := Bool.eq_false_iff.2 (fun e => g2 (HD.out.1 e).2.2.1)
        rw [decide_eq_false g2] at N2
        go_wp2_with (with_reducible refine wpList_storeBlk rfl 67 _ _ rfl w1.heap.size #[.bool false, .bool false, .bool false, .bool false, .bool false, .bool false] #[.bool b0, .bool b1, .bool b2, .bool b3, .bool b4, .bool b5] (by with_unfolding_all rfl) (by with_unfolding_all rfl) X1 rfl (by kernel_rfl) (by kernel_rfl) ?_)
        try rw [hw2]
        clear hw2 X1
        refine (N1 _).mono ?_
        rintro e wx ⟨rfl, hwx⟩
        rw [hwx]
        clear hwx
        go_wp2_with fail
        refine (N2 _).mono ?_
        rintro e wx ⟨rfl, hwx⟩
        rw [hwx]
        clear hwx
        go_wp2_with fail
        go_wp2_with fail
        go_ret
        exact ⟨rfl, HB.out⟩
    · obtain rfl : D = false := Bool.eq_false_iff.2 (fun e => g1 (HD.out.1 e).2.1)
      rw [decide_eq_false g1] at N1
      go_wp2_with (with_reducible refine wpList_storeBlk rfl 67 _ _ rfl w1.heap.size #[.bool false, .bool false, .bool false, .bool false, .bool false, .bool false] #[.bool b0, .bool b1, .bool b2, .bool b3, .bool b4, .bool b5] (by with_unfolding_all rfl) (by with_unfolding_all rfl) X1 rfl (by kernel_rfl) (by kernel_rfl) ?_)
      try rw [hw2]
      clear hw2 X1
      refine (N1 _).mono ?_
      rintro e wx ⟨rfl, hwx⟩
      rw [hwx]
      clear hwx
      go_wp2_with fail
      go_wp2_with fail
      go_ret
      exact ⟨rfl, HB.out⟩
  · obtain rfl : D = false := Bool.eq_false_iff.2 (fun e => g0 (HD.out.1 e).1)
    rw [decide_eq_false g0]
    go_wp2_with (with_reducible refine wpList_storeBlk rfl 67 _ _ rfl w1.heap.size #[.bool false, .bool false, .bool false, .bool false, .bool false, .bool false] #[.bool b0, .bool b1, .bool b2, .bool b3, .bool b4, .bool b5] (by with_unfolding_all rfl) (by with_unfolding_all rfl) X1 rfl (by kernel_rfl) (by kernel_rfl) ?_)
    try rw [hw2]
    clear hw2 X1
    go_wp2_with fail
    go_ret
    exact ⟨rfl, HB.out⟩

end Go.Proofs.Ytkmdajenbidaaaa
