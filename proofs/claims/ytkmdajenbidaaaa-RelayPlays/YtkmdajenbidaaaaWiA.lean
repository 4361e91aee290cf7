/- Layer 19, the code: isWho, isNum, areItems, frameHasItsOwn. -/
import Derived.Test.YtkmdajenbidaaaaWiQ
import Derived.Test.YtkmdajenbidaaaaRWiC
namespace Go.Proofs.Ytkmdajenbidaaaa
open Go.RowKit
set_option maxRecDepth 100000
set_option linter.unusedSimpArgs false
set_option linter.unusedVariables false

set_option maxHeartbeats 2000000 in
theorem areItems_any (l : List (Int × Int × ByteArray)) (a : Option Addr) (n c : Nat) (w : World) (D : Bool) (hD : D = true ↔ MayI l) (hI : ItsAt w a n l) (hz : ∀ i, (itL l i).2.2.size ≤ 9223372036854775807) :
    Calls Try.prog 45 #[.slice a n c] w fun e w' => e = .returned (.bool D) ∧ Below w.heap.size w w' := by
  have HD : Hid (D = true ↔ MayI l) := hD
  have HL : Hid (l.length = n) := hI.1
  have HI : Hid (ItsAt w a n l) := hI
  have HZ : Hid (∀ i, (itL l i).2.2.size ≤ 9223372036854775807) := hz
  clear hD hI hz
  by_cases h32 : n ≤ 32
  · have s0 : ¬ ((32 : Int) < (n : Int)) := by omega
    go_enter Try.func45, Try.ntmps45
    go_wp2_with fail
    go_loopw [10] (fun i wr => ∃ k : Nat, k ≤ n ∧ i = .int .i64 k ∧ Hid (Below w.heap.size w wr) ∧ Hid (∀ j, j < k → (itL l j).2.2.size ≤ 20000)) (fun i _ => n - (intOf i).toNat)
    case atStart => exact ⟨0, Nat.zero_le _, rfl, Below.refl _ _, fun j h => absurd h (Nat.not_lt_zero _)⟩
    case round =>
      obtain ⟨k, hk, rfl, HB, HK⟩ := hrel
      by_cases hlt : k < n
      · have b0 : (k : Int) < (n : Int) := by omega
        obtain ⟨lb, off, rfl, hcl⟩ := (HI.out.below HB.out).2.resolve_left (by omega)
        obtain ⟨k0, k1, k2⟩ := hcl k hlt
        have hz1 := HZ.out k
        obtain ⟨⟨x0, x1, x2⟩, hx⟩ : ∃ x, itL l k = x := ⟨_, rfl⟩
        have Hx : Hid (itL l k = (x0, x1, x2)) := hx
        rw [hx] at k0 k1 k2 hz1
        simp only at k0 k1 k2 hz1
        have y2 : (wr.alloc (.cells #[.int .i64 x0, .int .i64 x1, .string x2] 31)).cell? ⟨wr.heap.size, 2, none⟩ = some (.string x2) := (Blk.new wr 31 #[.int .i64 x0, .int .i64 x1, .string x2]).cell 2
        have HB2 : Hid (Below w.heap.size w (wr.alloc (.cells #[.int .i64 x0, .int .i64 x1, .string x2] 31))) := HB.out.alloc HB.out.size _
        clear hx hcl HB
        by_cases h2 : x2.size ≤ 20000
        · have s1 : ¬ ((20000 : Int) < (x2.size : Int)) := by omega
          have HK2 : Hid (∀ j, j < k + 1 → (itL l j).2.2.size ≤ 20000) := by
            intro j hj
            by_cases e : j = k
            · rw [e, Hx.out]; exact h2
            · exact HK.out j (by omega)
          go_wp2_with fail
          refine ⟨?_, ?_⟩
          · first
            | exact ⟨k + 1, by omega, by go_num, HB2, HK2⟩
            | ((repeat apply Exists.intro); refine ⟨?_, rfl⟩; exact ⟨k + 1, by omega, by go_num, HB2, HK2⟩)
          · simp [intOf] <;> omega
        · have s1 : (20000 : Int) < (x2.size : Int) := by omega
          obtain rfl : D = false := Bool.eq_false_iff.2 (fun e => by
            have h3 := (HD.out.1 e).2 k (by rw [HL.out]; exact hlt)
            rw [Hx.out] at h3
            exact h2 h3)
          go_wp2_with fail
          go_ret
          exact ⟨rfl, HB2.out⟩
      · obtain rfl : k = n := by omega
        have b0 : ¬ ((k : Int) < (k : Int)) := by omega
        obtain rfl : D = true := HD.out.2 ⟨by rw [HL.out]; exact h32, fun i hi => HK.out i (by rw [← HL.out]; exact hi)⟩
        go_wp2_with fail
        go_ret
        exact ⟨rfl, HB.out⟩
  · have s0 : (32 : Int) < (n : Int) := by omega
    obtain rfl : D = false := Bool.eq_false_iff.2 (fun e => h32 (by have := (HD.out.1 e).1; rwa [HL.out] at this))
    go_enter Try.func45, Try.ntmps45
    go_wp2_with fail
    go_ret
    exact ⟨rfl, Below.refl _ _⟩

/-- What a kind may name: Seq, Epoch, Max, Blob, how many Items, Err. -/
def parA (x : Int × Int × Int × ByteArray × Int × Int) : Array Value := #[.int .i64 x.1, .int .i64 x.2.1, .int .i64 x.2.2.1, .string x.2.2.2.1, .int .i64 x.2.2.2.2.1, .int .i64 x.2.2.2.2.2]

set_option maxHeartbeats 1000000 in
theorem parEq (x y : Int × Int × Int × ByteArray × Int × Int) (w : World) : (Op.equalIn 10000 103 (.agg (parA x)) (.agg (parA y))).run Try.prog w = .ok (decide (x = y)) w := by
  obtain ⟨a, b, c, s, d, e⟩ := x
  obtain ⟨a', b', c', s', d', e'⟩ := y
  have u3 := Try.underlying3
  have a3 := Try.isAgg3
  have z3 := Try.sizeOf3
  have u9 := Try.underlying9
  have a9 := Try.isAgg9
  have z9 := Try.sizeOf9
  have u1 := Try.underlying26
  have a1 := Try.isAgg26
  have z1 := Try.sizeOf26
  unfold parA
  rw [show (10000 : Nat) = 9999 + 1 from rfl, Op.equalIn]
  simp only [Sem.run_bind, run_underlying Try.underlying103, Result.andThen_ok]
  go_simp
  simp only [txt_iff, ite_ok, Bool.and_true, Bool.and_assoc]

theorem parEq_is (x y : Int × Int × Int × ByteArray × Int × Int) (D : Bool) (h : decide (x = y) = D) (w : World) : (Op.equalIn 10000 103 (.agg (parA x)) (.agg (parA y))).run Try.prog w = .ok D w := by
  rw [parEq, ← h]

set_option maxHeartbeats 2000000 in
theorem frOwn1 (G S E M er : Int) (bl : ByteArray) (n c : Nat) (a : Option Addr) (w : World) (D : Bool) (hD : decide ((S, 0, M, ⟨#[]⟩, (n : Int), er) = ((0, 0, 0, ⟨#[]⟩, 0, 0) : Int × Int × Int × ByteArray × Int × Int)) = D) :
    Calls Try.prog 46 #[.agg #[.int .i64 1, .int .i64 G, .int .i64 S, .int .i64 E, .int .i64 M, .string bl, .slice a n c, .int .i64 er]] w fun e w' => e = .returned (.bool D) ∧ Below w.heap.size w w' := by
  have hE := fun w => parEq_is _ _ D hD w
  simp only [parA] at hE
  have X1 : Blk ((w.alloc (.cells #[.int .i64 1, .int .i64 G, .int .i64 S, .int .i64 E, .int .i64 M, .string bl, .slice a n c, .int .i64 er] 39)).alloc (.cells #[.int .i64 0, .int .i64 0, .int .i64 0, .string ⟨#[]⟩, .int .i64 0, .int .i64 0] 103)) 103 (w.heap.size + 1) #[.int .i64 0, .int .i64 0, .int .i64 0, .string ⟨#[]⟩, .int .i64 0, .int .i64 0] := Blk.new' _ _ _ _ (by simp)
  have HY : Hid (Blk (((w.alloc (.cells #[.int .i64 1, .int .i64 G, .int .i64 S, .int .i64 E, .int .i64 M, .string bl, .slice a n c, .int .i64 er] 39)).alloc (.cells #[.int .i64 0, .int .i64 0, .int .i64 0, .string ⟨#[]⟩, .int .i64 0, .int .i64 0] 103)).setRow (w.heap.size + 1) #[.int .i64 S, .int .i64 E, .int .i64 M, .string bl, .int .i64 n, .int .i64 er]) 103 (w.heap.size + 1) #[.int .i64 S, .int .i64 E, .int .i64 M, .string bl, .int .i64 n, .int .i64 er]) := X1.setRow _
  have HX : Hid (Blk (((w.alloc (.cells #[.int .i64 1, .int .i64 G, .int .i64 S, .int .i64 E, .int .i64 M, .string bl, .slice a n c, .int .i64 er] 39)).alloc (.cells #[.int .i64 0, .int .i64 0, .int .i64 0, .string ⟨#[]⟩, .int .i64 0, .int .i64 0] 103)).setRow (w.heap.size + 1) #[.int .i64 S, .int .i64 E, .int .i64 M, .string bl, .int .i64 n, .int .i64 er]) 39 w.heap.size #[.int .i64 1, .int .i64 G, .int .i64 S, .int .i64 E, .int .i64 M, .string bl, .slice a n c, .int .i64 er]) := ((Blk.new _ _ _).alloc _).setRowOther _ (by omega) _
  have HB : Hid (Below w.heap.size w (((w.alloc (.cells #[.int .i64 1, .int .i64 G, .int .i64 S, .int .i64 E, .int .i64 M, .string bl, .slice a n c, .int .i64 er] 39)).alloc (.cells #[.int .i64 0, .int .i64 0, .int .i64 0, .string ⟨#[]⟩, .int .i64 0, .int .i64 0] 103)).setRow (w.heap.size + 1) #[.int .i64 S, .int .i64 E, .int .i64 M, .string bl, .int .i64 n, .int .i64 er])) := below_setRow ((below_new w _).alloc (by simp) _) (by omega) _
  obtain ⟨W2, hW2⟩ : ∃ W2, ((w.alloc (.cells #[.int .i64 1, .int .i64 G, .int .i64 S, .int .i64 E, .int .i64 M, .string bl, .slice a n c, .int .i64 er] 39)).alloc (.cells #[.int .i64 0, .int .i64 0, .int .i64 0, .string ⟨#[]⟩, .int .i64 0, .int .i64 0] 103)).setRow (w.heap.size + 1) #[.int .i64 S, .int .i64 E, .int .i64 M, .string bl, .int .i64 n, .int .i64 er] = W2 := ⟨_, rfl⟩
  rw [hW2] at HY HX HB
  have c0 : W2.cell? ⟨w.heap.size, 0, none⟩ = some (.int .i64 1) := HX.out.cell 0
  clear HX hD
  have y1 : W2.cell? ⟨w.heap.size + 1, 1, none⟩ = some _ := (HY.out).cell 1
  have z1 : W2.frozen? ⟨w.heap.size + 1, 1, none⟩ = false := (HY.out).free 1
  have y3 : (W2.setCell ⟨w.heap.size + 1, 1, none⟩ (.int .i64 0)).cell? ⟨w.heap.size + 1, 3, none⟩ = some _ := ((HY.out).setAt 1 (.int .i64 0)).cell 3
  have z3 : (W2.setCell ⟨w.heap.size + 1, 1, none⟩ (.int .i64 0)).frozen? ⟨w.heap.size + 1, 3, none⟩ = false := ((HY.out).setAt 1 (.int .i64 0)).free 3
  have q0 : ((W2.setCell ⟨w.heap.size + 1, 1, none⟩ (.int .i64 0)).setCell ⟨w.heap.size + 1, 3, none⟩ (.string ⟨#[]⟩)).cell? ⟨w.heap.size + 1, 0, none⟩ = some (.int .i64 S) := (((HY.out).setAt 1 (.int .i64 0)).setAt 3 (.string ⟨#[]⟩)).cell 0
  have q1 : ((W2.setCell ⟨w.heap.size + 1, 1, none⟩ (.int .i64 0)).setCell ⟨w.heap.size + 1, 3, none⟩ (.string ⟨#[]⟩)).cell? ⟨w.heap.size + 1, 1, none⟩ = some (.int .i64 0) := (((HY.out).setAt 1 (.int .i64 0)).setAt 3 (.string ⟨#[]⟩)).cell 1
  have q2 : ((W2.setCell ⟨w.heap.size + 1, 1, none⟩ (.int .i64 0)).setCell ⟨w.heap.size + 1, 3, none⟩ (.string ⟨#[]⟩)).cell? ⟨w.heap.size + 1, 2, none⟩ = some (.int .i64 M) := (((HY.out).setAt 1 (.int .i64 0)).setAt 3 (.string ⟨#[]⟩)).cell 2
  have q3 : ((W2.setCell ⟨w.heap.size + 1, 1, none⟩ (.int .i64 0)).setCell ⟨w.heap.size + 1, 3, none⟩ (.string ⟨#[]⟩)).cell? ⟨w.heap.size + 1, 3, none⟩ = some (.string ⟨#[]⟩) := (((HY.out).setAt 1 (.int .i64 0)).setAt 3 (.string ⟨#[]⟩)).cell 3
  have q4 : ((W2.setCell ⟨w.heap.size + 1, 1, none⟩ (.int .i64 0)).setCell ⟨w.heap.size + 1, 3, none⟩ (.string ⟨#[]⟩)).cell? ⟨w.heap.size + 1, 4, none⟩ = some (.int .i64 n) := (((HY.out).setAt 1 (.int .i64 0)).setAt 3 (.string ⟨#[]⟩)).cell 4
  have q5 : ((W2.setCell ⟨w.heap.size + 1, 1, none⟩ (.int .i64 0)).setCell ⟨w.heap.size + 1, 3, none⟩ (.string ⟨#[]⟩)).cell? ⟨w.heap.size + 1, 5, none⟩ = some (.int .i64 er) := (((HY.out).setAt 1 (.int .i64 0)).setAt 3 (.string ⟨#[]⟩)).cell 5
  have HR : Hid (Below w.heap.size w ((W2.setCell ⟨w.heap.size + 1, 1, none⟩ (.int .i64 0)).setCell ⟨w.heap.size + 1, 3, none⟩ (.string ⟨#[]⟩))) := ((HB.out).setCell (p := ⟨w.heap.size + 1, 1, none⟩) (Nat.le_succ _) (.int .i64 0)).setCell (p := ⟨w.heap.size + 1, 3, none⟩) (Nat.le_succ _) (.string ⟨#[]⟩)
  go_enter Try.func46, Try.ntmps46
  go_wp2_with (with_reducible refine wpList_storeBlk rfl 103 _ _ rfl (w.heap.size + 1) #[.int .i64 0, .int .i64 0, .int .i64 0, .string ⟨#[]⟩, .int .i64 0, .int .i64 0] #[.int .i64 S, .int .i64 E, .int .i64 M, .string bl, .int .i64 n, .int .i64 er] ?hx ?hy X1 rfl ?hi ?h1 ?_)
  try (case hx => rfl)
  try (case hy => rfl)
  try (case hi => kernel_rfl)
  try (case h1 => simp [Value.oneCell'])
  try rw [hW2]
  clear X1
  go_wp2_with fail
  go_ret
  exact ⟨rfl, HR.out⟩

set_option maxHeartbeats 2000000 in
theorem frOwn2 (G S E M er : Int) (bl : ByteArray) (n c : Nat) (a : Option Addr) (w : World) (D : Bool) (hD : decide ((0, E, M, bl, (n : Int), er) = ((0, 0, 0, ⟨#[]⟩, 0, 0) : Int × Int × Int × ByteArray × Int × Int)) = D) :
    Calls Try.prog 46 #[.agg #[.int .i64 2, .int .i64 G, .int .i64 S, .int .i64 E, .int .i64 M, .string bl, .slice a n c, .int .i64 er]] w fun e w' => e = .returned (.bool D) ∧ Below w.heap.size w w' := by
  have hE := fun w => parEq_is _ _ D hD w
  simp only [parA] at hE
  have X1 : Blk ((w.alloc (.cells #[.int .i64 2, .int .i64 G, .int .i64 S, .int .i64 E, .int .i64 M, .string bl, .slice a n c, .int .i64 er] 39)).alloc (.cells #[.int .i64 0, .int .i64 0, .int .i64 0, .string ⟨#[]⟩, .int .i64 0, .int .i64 0] 103)) 103 (w.heap.size + 1) #[.int .i64 0, .int .i64 0, .int .i64 0, .string ⟨#[]⟩, .int .i64 0, .int .i64 0] := Blk.new' _ _ _ _ (by simp)
  have HY : Hid (Blk (((w.alloc (.cells #[.int .i64 2, .int .i64 G, .int .i64 S, .int .i64 E, .int .i64 M, .string bl, .slice a n c, .int .i64 er] 39)).alloc (.cells #[.int .i64 0, .int .i64 0, .int .i64 0, .string ⟨#[]⟩, .int .i64 0, .int .i64 0] 103)).setRow (w.heap.size + 1) #[.int .i64 S, .int .i64 E, .int .i64 M, .string bl, .int .i64 n, .int .i64 er]) 103 (w.heap.size + 1) #[.int .i64 S, .int .i64 E, .int .i64 M, .string bl, .int .i64 n, .int .i64 er]) := X1.setRow _
  have HX : Hid (Blk (((w.alloc (.cells #[.int .i64 2, .int .i64 G, .int .i64 S, .int .i64 E, .int .i64 M, .string bl, .slice a n c, .int .i64 er] 39)).alloc (.cells #[.int .i64 0, .int .i64 0, .int .i64 0, .string ⟨#[]⟩, .int .i64 0, .int .i64 0] 103)).setRow (w.heap.size + 1) #[.int .i64 S, .int .i64 E, .int .i64 M, .string bl, .int .i64 n, .int .i64 er]) 39 w.heap.size #[.int .i64 2, .int .i64 G, .int .i64 S, .int .i64 E, .int .i64 M, .string bl, .slice a n c, .int .i64 er]) := ((Blk.new _ _ _).alloc _).setRowOther _ (by omega) _
  have HB : Hid (Below w.heap.size w (((w.alloc (.cells #[.int .i64 2, .int .i64 G, .int .i64 S, .int .i64 E, .int .i64 M, .string bl, .slice a n c, .int .i64 er] 39)).alloc (.cells #[.int .i64 0, .int .i64 0, .int .i64 0, .string ⟨#[]⟩, .int .i64 0, .int .i64 0] 103)).setRow (w.heap.size + 1) #[.int .i64 S, .int .i64 E, .int .i64 M, .string bl, .int .i64 n, .int .i64 er])) := below_setRow ((below_new w _).alloc (by simp) _) (by omega) _
  obtain ⟨W2, hW2⟩ : ∃ W2, ((w.alloc (.cells #[.int .i64 2, .int .i64 G, .int .i64 S, .int .i64 E, .int .i64 M, .string bl, .slice a n c, .int .i64 er] 39)).alloc (.cells #[.int .i64 0, .int .i64 0, .int .i64 0, .string ⟨#[]⟩, .int .i64 0, .int .i64 0] 103)).setRow (w.heap.size + 1) #[.int .i64 S, .int .i64 E, .int .i64 M, .string bl, .int .i64 n, .int .i64 er] = W2 := ⟨_, rfl⟩
  rw [hW2] at HY HX HB
  have c0 : W2.cell? ⟨w.heap.size, 0, none⟩ = some (.int .i64 2) := HX.out.cell 0
  clear HX hD
  have y0 : W2.cell? ⟨w.heap.size + 1, 0, none⟩ = some _ := (HY.out).cell 0
  have z0 : W2.frozen? ⟨w.heap.size + 1, 0, none⟩ = false := (HY.out).free 0
  have q0 : (W2.setCell ⟨w.heap.size + 1, 0, none⟩ (.int .i64 0)).cell? ⟨w.heap.size + 1, 0, none⟩ = some (.int .i64 0) := ((HY.out).setAt 0 (.int .i64 0)).cell 0
  have q1 : (W2.setCell ⟨w.heap.size + 1, 0, none⟩ (.int .i64 0)).cell? ⟨w.heap.size + 1, 1, none⟩ = some (.int .i64 E) := ((HY.out).setAt 0 (.int .i64 0)).cell 1
  have q2 : (W2.setCell ⟨w.heap.size + 1, 0, none⟩ (.int .i64 0)).cell? ⟨w.heap.size + 1, 2, none⟩ = some (.int .i64 M) := ((HY.out).setAt 0 (.int .i64 0)).cell 2
  have q3 : (W2.setCell ⟨w.heap.size + 1, 0, none⟩ (.int .i64 0)).cell? ⟨w.heap.size + 1, 3, none⟩ = some (.string bl) := ((HY.out).setAt 0 (.int .i64 0)).cell 3
  have q4 : (W2.setCell ⟨w.heap.size + 1, 0, none⟩ (.int .i64 0)).cell? ⟨w.heap.size + 1, 4, none⟩ = some (.int .i64 n) := ((HY.out).setAt 0 (.int .i64 0)).cell 4
  have q5 : (W2.setCell ⟨w.heap.size + 1, 0, none⟩ (.int .i64 0)).cell? ⟨w.heap.size + 1, 5, none⟩ = some (.int .i64 er) := ((HY.out).setAt 0 (.int .i64 0)).cell 5
  have HR : Hid (Below w.heap.size w (W2.setCell ⟨w.heap.size + 1, 0, none⟩ (.int .i64 0))) := (HB.out).setCell (p := ⟨w.heap.size + 1, 0, none⟩) (Nat.le_succ _) (.int .i64 0)
  go_enter Try.func46, Try.ntmps46
  go_wp2_with (with_reducible refine wpList_storeBlk rfl 103 _ _ rfl (w.heap.size + 1) #[.int .i64 0, .int .i64 0, .int .i64 0, .string ⟨#[]⟩, .int .i64 0, .int .i64 0] #[.int .i64 S, .int .i64 E, .int .i64 M, .string bl, .int .i64 n, .int .i64 er] ?hx ?hy X1 rfl ?hi ?h1 ?_)
  try (case hx => rfl)
  try (case hy => rfl)
  try (case hi => kernel_rfl)
  try (case h1 => simp [Value.oneCell'])
  try rw [hW2]
  clear X1
  go_wp2_with fail
  go_ret
  exact ⟨rfl, HR.out⟩

set_option maxHeartbeats 2000000 in
theorem frOwn3 (G S E M er : Int) (bl : ByteArray) (n c : Nat) (a : Option Addr) (w : World) (D : Bool) (hD : decide ((0, E, 0, bl, (n : Int), er) = ((0, 0, 0, ⟨#[]⟩, 0, 0) : Int × Int × Int × ByteArray × Int × Int)) = D) :
    Calls Try.prog 46 #[.agg #[.int .i64 3, .int .i64 G, .int .i64 S, .int .i64 E, .int .i64 M, .string bl, .slice a n c, .int .i64 er]] w fun e w' => e = .returned (.bool D) ∧ Below w.heap.size w w' := by
  have hE := fun w => parEq_is _ _ D hD w
  simp only [parA] at hE
  have X1 : Blk ((w.alloc (.cells #[.int .i64 3, .int .i64 G, .int .i64 S, .int .i64 E, .int .i64 M, .string bl, .slice a n c, .int .i64 er] 39)).alloc (.cells #[.int .i64 0, .int .i64 0, .int .i64 0, .string ⟨#[]⟩, .int .i64 0, .int .i64 0] 103)) 103 (w.heap.size + 1) #[.int .i64 0, .int .i64 0, .int .i64 0, .string ⟨#[]⟩, .int .i64 0, .int .i64 0] := Blk.new' _ _ _ _ (by simp)
  have HY : Hid (Blk (((w.alloc (.cells #[.int .i64 3, .int .i64 G, .int .i64 S, .int .i64 E, .int .i64 M, .string bl, .slice a n c, .int .i64 er] 39)).alloc (.cells #[.int .i64 0, .int .i64 0, .int .i64 0, .string ⟨#[]⟩, .int .i64 0, .int .i64 0] 103)).setRow (w.heap.size + 1) #[.int .i64 S, .int .i64 E, .int .i64 M, .string bl, .int .i64 n, .int .i64 er]) 103 (w.heap.size + 1) #[.int .i64 S, .int .i64 E, .int .i64 M, .string bl, .int .i64 n, .int .i64 er]) := X1.setRow _
  have HX : Hid (Blk (((w.alloc (.cells #[.int .i64 3, .int .i64 G, .int .i64 S, .int .i64 E, .int .i64 M, .string bl, .slice a n c, .int .i64 er] 39)).alloc (.cells #[.int .i64 0, .int .i64 0, .int .i64 0, .string ⟨#[]⟩, .int .i64 0, .int .i64 0] 103)).setRow (w.heap.size + 1) #[.int .i64 S, .int .i64 E, .int .i64 M, .string bl, .int .i64 n, .int .i64 er]) 39 w.heap.size #[.int .i64 3, .int .i64 G, .int .i64 S, .int .i64 E, .int .i64 M, .string bl, .slice a n c, .int .i64 er]) := ((Blk.new _ _ _).alloc _).setRowOther _ (by omega) _
  have HB : Hid (Below w.heap.size w (((w.alloc (.cells #[.int .i64 3, .int .i64 G, .int .i64 S, .int .i64 E, .int .i64 M, .string bl, .slice a n c, .int .i64 er] 39)).alloc (.cells #[.int .i64 0, .int .i64 0, .int .i64 0, .string ⟨#[]⟩, .int .i64 0, .int .i64 0] 103)).setRow (w.heap.size + 1) #[.int .i64 S, .int .i64 E, .int .i64 M, .string bl, .int .i64 n, .int .i64 er])) := below_setRow ((below_new w _).alloc (by simp) _) (by omega) _
  obtain ⟨W2, hW2⟩ : ∃ W2, ((w.alloc (.cells #[.int .i64 3, .int .i64 G, .int .i64 S, .int .i64 E, .int .i64 M, .string bl, .slice a n c, .int .i64 er] 39)).alloc (.cells #[.int .i64 0, .int .i64 0, .int .i64 0, .string ⟨#[]⟩, .int .i64 0, .int .i64 0] 103)).setRow (w.heap.size + 1) #[.int .i64 S, .int .i64 E, .int .i64 M, .string bl, .int .i64 n, .int .i64 er] = W2 := ⟨_, rfl⟩
  rw [hW2] at HY HX HB
  have c0 : W2.cell? ⟨w.heap.size, 0, none⟩ = some (.int .i64 3) := HX.out.cell 0
  clear HX hD
  have y2 : W2.cell? ⟨w.heap.size + 1, 2, none⟩ = some _ := (HY.out).cell 2
  have z2 : W2.frozen? ⟨w.heap.size + 1, 2, none⟩ = false := (HY.out).free 2
  have y0 : (W2.setCell ⟨w.heap.size + 1, 2, none⟩ (.int .i64 0)).cell? ⟨w.heap.size + 1, 0, none⟩ = some _ := ((HY.out).setAt 2 (.int .i64 0)).cell 0
  have z0 : (W2.setCell ⟨w.heap.size + 1, 2, none⟩ (.int .i64 0)).frozen? ⟨w.heap.size + 1, 0, none⟩ = false := ((HY.out).setAt 2 (.int .i64 0)).free 0
  have q0 : ((W2.setCell ⟨w.heap.size + 1, 2, none⟩ (.int .i64 0)).setCell ⟨w.heap.size + 1, 0, none⟩ (.int .i64 0)).cell? ⟨w.heap.size + 1, 0, none⟩ = some (.int .i64 0) := (((HY.out).setAt 2 (.int .i64 0)).setAt 0 (.int .i64 0)).cell 0
  have q1 : ((W2.setCell ⟨w.heap.size + 1, 2, none⟩ (.int .i64 0)).setCell ⟨w.heap.size + 1, 0, none⟩ (.int .i64 0)).cell? ⟨w.heap.size + 1, 1, none⟩ = some (.int .i64 E) := (((HY.out).setAt 2 (.int .i64 0)).setAt 0 (.int .i64 0)).cell 1
  have q2 : ((W2.setCell ⟨w.heap.size + 1, 2, none⟩ (.int .i64 0)).setCell ⟨w.heap.size + 1, 0, none⟩ (.int .i64 0)).cell? ⟨w.heap.size + 1, 2, none⟩ = some (.int .i64 0) := (((HY.out).setAt 2 (.int .i64 0)).setAt 0 (.int .i64 0)).cell 2
  have q3 : ((W2.setCell ⟨w.heap.size + 1, 2, none⟩ (.int .i64 0)).setCell ⟨w.heap.size + 1, 0, none⟩ (.int .i64 0)).cell? ⟨w.heap.size + 1, 3, none⟩ = some (.string bl) := (((HY.out).setAt 2 (.int .i64 0)).setAt 0 (.int .i64 0)).cell 3
  have q4 : ((W2.setCell ⟨w.heap.size + 1, 2, none⟩ (.int .i64 0)).setCell ⟨w.heap.size + 1, 0, none⟩ (.int .i64 0)).cell? ⟨w.heap.size + 1, 4, none⟩ = some (.int .i64 n) := (((HY.out).setAt 2 (.int .i64 0)).setAt 0 (.int .i64 0)).cell 4
  have q5 : ((W2.setCell ⟨w.heap.size + 1, 2, none⟩ (.int .i64 0)).setCell ⟨w.heap.size + 1, 0, none⟩ (.int .i64 0)).cell? ⟨w.heap.size + 1, 5, none⟩ = some (.int .i64 er) := (((HY.out).setAt 2 (.int .i64 0)).setAt 0 (.int .i64 0)).cell 5
  have HR : Hid (Below w.heap.size w ((W2.setCell ⟨w.heap.size + 1, 2, none⟩ (.int .i64 0)).setCell ⟨w.heap.size + 1, 0, none⟩ (.int .i64 0))) := ((HB.out).setCell (p := ⟨w.heap.size + 1, 2, none⟩) (Nat.le_succ _) (.int .i64 0)).setCell (p := ⟨w.heap.size + 1, 0, none⟩) (Nat.le_succ _) (.int .i64 0)
  go_enter Try.func46, Try.ntmps46
  go_wp2_with (with_reducible refine wpList_storeBlk rfl 103 _ _ rfl (w.heap.size + 1) #[.int .i64 0, .int .i64 0, .int .i64 0, .string ⟨#[]⟩, .int .i64 0, .int .i64 0] #[.int .i64 S, .int .i64 E, .int .i64 M, .string bl, .int .i64 n, .int .i64 er] ?hx ?hy X1 rfl ?hi ?h1 ?_)
  try (case hx => rfl)
  try (case hy => rfl)
  try (case hi => kernel_rfl)
  try (case h1 => simp [Value.oneCell'])
  try rw [hW2]
  clear X1
  go_wp2_with fail
  go_ret
  exact ⟨rfl, HR.out⟩

set_option maxHeartbeats 2000000 in
theorem frOwn4 (G S E M er : Int) (bl : ByteArray) (n c : Nat) (a : Option Addr) (w : World) (D : Bool) (hD : decide ((S, E, M, bl, 0, er) = ((0, 0, 0, ⟨#[]⟩, 0, 0) : Int × Int × Int × ByteArray × Int × Int)) = D) :
    Calls Try.prog 46 #[.agg #[.int .i64 4, .int .i64 G, .int .i64 S, .int .i64 E, .int .i64 M, .string bl, .slice a n c, .int .i64 er]] w fun e w' => e = .returned (.bool D) ∧ Below w.heap.size w w' := by
  have hE := fun w => parEq_is _ _ D hD w
  simp only [parA] at hE
  have X1 : Blk ((w.alloc (.cells #[.int .i64 4, .int .i64 G, .int .i64 S, .int .i64 E, .int .i64 M, .string bl, .slice a n c, .int .i64 er] 39)).alloc (.cells #[.int .i64 0, .int .i64 0, .int .i64 0, .string ⟨#[]⟩, .int .i64 0, .int .i64 0] 103)) 103 (w.heap.size + 1) #[.int .i64 0, .int .i64 0, .int .i64 0, .string ⟨#[]⟩, .int .i64 0, .int .i64 0] := Blk.new' _ _ _ _ (by simp)
  have HY : Hid (Blk (((w.alloc (.cells #[.int .i64 4, .int .i64 G, .int .i64 S, .int .i64 E, .int .i64 M, .string bl, .slice a n c, .int .i64 er] 39)).alloc (.cells #[.int .i64 0, .int .i64 0, .int .i64 0, .string ⟨#[]⟩, .int .i64 0, .int .i64 0] 103)).setRow (w.heap.size + 1) #[.int .i64 S, .int .i64 E, .int .i64 M, .string bl, .int .i64 n, .int .i64 er]) 103 (w.heap.size + 1) #[.int .i64 S, .int .i64 E, .int .i64 M, .string bl, .int .i64 n, .int .i64 er]) := X1.setRow _
  have HX : Hid (Blk (((w.alloc (.cells #[.int .i64 4, .int .i64 G, .int .i64 S, .int .i64 E, .int .i64 M, .string bl, .slice a n c, .int .i64 er] 39)).alloc (.cells #[.int .i64 0, .int .i64 0, .int .i64 0, .string ⟨#[]⟩, .int .i64 0, .int .i64 0] 103)).setRow (w.heap.size + 1) #[.int .i64 S, .int .i64 E, .int .i64 M, .string bl, .int .i64 n, .int .i64 er]) 39 w.heap.size #[.int .i64 4, .int .i64 G, .int .i64 S, .int .i64 E, .int .i64 M, .string bl, .slice a n c, .int .i64 er]) := ((Blk.new _ _ _).alloc _).setRowOther _ (by omega) _
  have HB : Hid (Below w.heap.size w (((w.alloc (.cells #[.int .i64 4, .int .i64 G, .int .i64 S, .int .i64 E, .int .i64 M, .string bl, .slice a n c, .int .i64 er] 39)).alloc (.cells #[.int .i64 0, .int .i64 0, .int .i64 0, .string ⟨#[]⟩, .int .i64 0, .int .i64 0] 103)).setRow (w.heap.size + 1) #[.int .i64 S, .int .i64 E, .int .i64 M, .string bl, .int .i64 n, .int .i64 er])) := below_setRow ((below_new w _).alloc (by simp) _) (by omega) _
  obtain ⟨W2, hW2⟩ : ∃ W2, ((w.alloc (.cells #[.int .i64 4, .int .i64 G, .int .i64 S, .int .i64 E, .int .i64 M, .string bl, .slice a n c, .int .i64 er] 39)).alloc (.cells #[.int .i64 0, .int .i64 0, .int .i64 0, .string ⟨#[]⟩, .int .i64 0, .int .i64 0] 103)).setRow (w.heap.size + 1) #[.int .i64 S, .int .i64 E, .int .i64 M, .string bl, .int .i64 n, .int .i64 er] = W2 := ⟨_, rfl⟩
  rw [hW2] at HY HX HB
  have c0 : W2.cell? ⟨w.heap.size, 0, none⟩ = some (.int .i64 4) := HX.out.cell 0
  clear HX hD
  have y4 : W2.cell? ⟨w.heap.size + 1, 4, none⟩ = some _ := (HY.out).cell 4
  have z4 : W2.frozen? ⟨w.heap.size + 1, 4, none⟩ = false := (HY.out).free 4
  have q0 : (W2.setCell ⟨w.heap.size + 1, 4, none⟩ (.int .i64 0)).cell? ⟨w.heap.size + 1, 0, none⟩ = some (.int .i64 S) := ((HY.out).setAt 4 (.int .i64 0)).cell 0
  have q1 : (W2.setCell ⟨w.heap.size + 1, 4, none⟩ (.int .i64 0)).cell? ⟨w.heap.size + 1, 1, none⟩ = some (.int .i64 E) := ((HY.out).setAt 4 (.int .i64 0)).cell 1
  have q2 : (W2.setCell ⟨w.heap.size + 1, 4, none⟩ (.int .i64 0)).cell? ⟨w.heap.size + 1, 2, none⟩ = some (.int .i64 M) := ((HY.out).setAt 4 (.int .i64 0)).cell 2
  have q3 : (W2.setCell ⟨w.heap.size + 1, 4, none⟩ (.int .i64 0)).cell? ⟨w.heap.size + 1, 3, none⟩ = some (.string bl) := ((HY.out).setAt 4 (.int .i64 0)).cell 3
  have q4 : (W2.setCell ⟨w.heap.size + 1, 4, none⟩ (.int .i64 0)).cell? ⟨w.heap.size + 1, 4, none⟩ = some (.int .i64 0) := ((HY.out).setAt 4 (.int .i64 0)).cell 4
  have q5 : (W2.setCell ⟨w.heap.size + 1, 4, none⟩ (.int .i64 0)).cell? ⟨w.heap.size + 1, 5, none⟩ = some (.int .i64 er) := ((HY.out).setAt 4 (.int .i64 0)).cell 5
  have HR : Hid (Below w.heap.size w (W2.setCell ⟨w.heap.size + 1, 4, none⟩ (.int .i64 0))) := (HB.out).setCell (p := ⟨w.heap.size + 1, 4, none⟩) (Nat.le_succ _) (.int .i64 0)
  go_enter Try.func46, Try.ntmps46
  go_wp2_with (with_reducible refine wpList_storeBlk rfl 103 _ _ rfl (w.heap.size + 1) #[.int .i64 0, .int .i64 0, .int .i64 0, .string ⟨#[]⟩, .int .i64 0, .int .i64 0] #[.int .i64 S, .int .i64 E, .int .i64 M, .string bl, .int .i64 n, .int .i64 er] ?hx ?hy X1 rfl ?hi ?h1 ?_)
  try (case hx => rfl)
  try (case hy => rfl)
  try (case hi => kernel_rfl)
  try (case h1 => simp [Value.oneCell'])
  try rw [hW2]
  clear X1
  go_wp2_with fail
  go_ret
  exact ⟨rfl, HR.out⟩

set_option maxHeartbeats 2000000 in
theorem frOwn5 (G S E M er : Int) (bl : ByteArray) (n c : Nat) (a : Option Addr) (w : World) (D : Bool) (hD : decide ((0, 0, M, ⟨#[]⟩, (n : Int), er) = ((0, 0, 0, ⟨#[]⟩, 0, 0) : Int × Int × Int × ByteArray × Int × Int)) = D) :
    Calls Try.prog 46 #[.agg #[.int .i64 5, .int .i64 G, .int .i64 S, .int .i64 E, .int .i64 M, .string bl, .slice a n c, .int .i64 er]] w fun e w' => e = .returned (.bool D) ∧ Below w.heap.size w w' := by
  have hE := fun w => parEq_is _ _ D hD w
  simp only [parA] at hE
  have X1 : Blk ((w.alloc (.cells #[.int .i64 5, .int .i64 G, .int .i64 S, .int .i64 E, .int .i64 M, .string bl, .slice a n c, .int .i64 er] 39)).alloc (.cells #[.int .i64 0, .int .i64 0, .int .i64 0, .string ⟨#[]⟩, .int .i64 0, .int .i64 0] 103)) 103 (w.heap.size + 1) #[.int .i64 0, .int .i64 0, .int .i64 0, .string ⟨#[]⟩, .int .i64 0, .int .i64 0] := Blk.new' _ _ _ _ (by simp)
  have HY : Hid (Blk (((w.alloc (.cells #[.int .i64 5, .int .i64 G, .int .i64 S, .int .i64 E, .int .i64 M, .string bl, .slice a n c, .int .i64 er] 39)).alloc (.cells #[.int .i64 0, .int .i64 0, .int .i64 0, .string ⟨#[]⟩, .int .i64 0, .int .i64 0] 103)).setRow (w.heap.size + 1) #[.int .i64 S, .int .i64 E, .int .i64 M, .string bl, .int .i64 n, .int .i64 er]) 103 (w.heap.size + 1) #[.int .i64 S, .int .i64 E, .int .i64 M, .string bl, .int .i64 n, .int .i64 er]) := X1.setRow _
  have HX : Hid (Blk (((w.alloc (.cells #[.int .i64 5, .int .i64 G, .int .i64 S, .int .i64 E, .int .i64 M, .string bl, .slice a n c, .int .i64 er] 39)).alloc (.cells #[.int .i64 0, .int .i64 0, .int .i64 0, .string ⟨#[]⟩, .int .i64 0, .int .i64 0] 103)).setRow (w.heap.size + 1) #[.int .i64 S, .int .i64 E, .int .i64 M, .string bl, .int .i64 n, .int .i64 er]) 39 w.heap.size #[.int .i64 5, .int .i64 G, .int .i64 S, .int .i64 E, .int .i64 M, .string bl, .slice a n c, .int .i64 er]) := ((Blk.new _ _ _).alloc _).setRowOther _ (by omega) _
  have HB : Hid (Below w.heap.size w (((w.alloc (.cells #[.int .i64 5, .int .i64 G, .int .i64 S, .int .i64 E, .int .i64 M, .string bl, .slice a n c, .int .i64 er] 39)).alloc (.cells #[.int .i64 0, .int .i64 0, .int .i64 0, .string ⟨#[]⟩, .int .i64 0, .int .i64 0] 103)).setRow (w.heap.size + 1) #[.int .i64 S, .int .i64 E, .int .i64 M, .string bl, .int .i64 n, .int .i64 er])) := below_setRow ((below_new w _).alloc (by simp) _) (by omega) _
  obtain ⟨W2, hW2⟩ : ∃ W2, ((w.alloc (.cells #[.int .i64 5, .int .i64 G, .int .i64 S, .int .i64 E, .int .i64 M, .string bl, .slice a n c, .int .i64 er] 39)).alloc (.cells #[.int .i64 0, .int .i64 0, .int .i64 0, .string ⟨#[]⟩, .int .i64 0, .int .i64 0] 103)).setRow (w.heap.size + 1) #[.int .i64 S, .int .i64 E, .int .i64 M, .string bl, .int .i64 n, .int .i64 er] = W2 := ⟨_, rfl⟩
  rw [hW2] at HY HX HB
  have c0 : W2.cell? ⟨w.heap.size, 0, none⟩ = some (.int .i64 5) := HX.out.cell 0
  clear HX hD
  have y0 : W2.cell? ⟨w.heap.size + 1, 0, none⟩ = some _ := (HY.out).cell 0
  have z0 : W2.frozen? ⟨w.heap.size + 1, 0, none⟩ = false := (HY.out).free 0
  have y1 : (W2.setCell ⟨w.heap.size + 1, 0, none⟩ (.int .i64 0)).cell? ⟨w.heap.size + 1, 1, none⟩ = some _ := ((HY.out).setAt 0 (.int .i64 0)).cell 1
  have z1 : (W2.setCell ⟨w.heap.size + 1, 0, none⟩ (.int .i64 0)).frozen? ⟨w.heap.size + 1, 1, none⟩ = false := ((HY.out).setAt 0 (.int .i64 0)).free 1
  have y3 : ((W2.setCell ⟨w.heap.size + 1, 0, none⟩ (.int .i64 0)).setCell ⟨w.heap.size + 1, 1, none⟩ (.int .i64 0)).cell? ⟨w.heap.size + 1, 3, none⟩ = some _ := (((HY.out).setAt 0 (.int .i64 0)).setAt 1 (.int .i64 0)).cell 3
  have z3 : ((W2.setCell ⟨w.heap.size + 1, 0, none⟩ (.int .i64 0)).setCell ⟨w.heap.size + 1, 1, none⟩ (.int .i64 0)).frozen? ⟨w.heap.size + 1, 3, none⟩ = false := (((HY.out).setAt 0 (.int .i64 0)).setAt 1 (.int .i64 0)).free 3
  have q0 : (((W2.setCell ⟨w.heap.size + 1, 0, none⟩ (.int .i64 0)).setCell ⟨w.heap.size + 1, 1, none⟩ (.int .i64 0)).setCell ⟨w.heap.size + 1, 3, none⟩ (.string ⟨#[]⟩)).cell? ⟨w.heap.size + 1, 0, none⟩ = some (.int .i64 0) := ((((HY.out).setAt 0 (.int .i64 0)).setAt 1 (.int .i64 0)).setAt 3 (.string ⟨#[]⟩)).cell 0
  have q1 : (((W2.setCell ⟨w.heap.size + 1, 0, none⟩ (.int .i64 0)).setCell ⟨w.heap.size + 1, 1, none⟩ (.int .i64 0)).setCell ⟨w.heap.size + 1, 3, none⟩ (.string ⟨#[]⟩)).cell? ⟨w.heap.size + 1, 1, none⟩ = some (.int .i64 0) := ((((HY.out).setAt 0 (.int .i64 0)).setAt 1 (.int .i64 0)).setAt 3 (.string ⟨#[]⟩)).cell 1
  have q2 : (((W2.setCell ⟨w.heap.size + 1, 0, none⟩ (.int .i64 0)).setCell ⟨w.heap.size + 1, 1, none⟩ (.int .i64 0)).setCell ⟨w.heap.size + 1, 3, none⟩ (.string ⟨#[]⟩)).cell? ⟨w.heap.size + 1, 2, none⟩ = some (.int .i64 M) := ((((HY.out).setAt 0 (.int .i64 0)).setAt 1 (.int .i64 0)).setAt 3 (.string ⟨#[]⟩)).cell 2
  have q3 : (((W2.setCell ⟨w.heap.size + 1, 0, none⟩ (.int .i64 0)).setCell ⟨w.heap.size + 1, 1, none⟩ (.int .i64 0)).setCell ⟨w.heap.size + 1, 3, none⟩ (.string ⟨#[]⟩)).cell? ⟨w.heap.size + 1, 3, none⟩ = some (.string ⟨#[]⟩) := ((((HY.out).setAt 0 (.int .i64 0)).setAt 1 (.int .i64 0)).setAt 3 (.string ⟨#[]⟩)).cell 3
  have q4 : (((W2.setCell ⟨w.heap.size + 1, 0, none⟩ (.int .i64 0)).setCell ⟨w.heap.size + 1, 1, none⟩ (.int .i64 0)).setCell ⟨w.heap.size + 1, 3, none⟩ (.string ⟨#[]⟩)).cell? ⟨w.heap.size + 1, 4, none⟩ = some (.int .i64 n) := ((((HY.out).setAt 0 (.int .i64 0)).setAt 1 (.int .i64 0)).setAt 3 (.string ⟨#[]⟩)).cell 4
  have q5 : (((W2.setCell ⟨w.heap.size + 1, 0, none⟩ (.int .i64 0)).setCell ⟨w.heap.size + 1, 1, none⟩ (.int .i64 0)).setCell ⟨w.heap.size + 1, 3, none⟩ (.string ⟨#[]⟩)).cell? ⟨w.heap.size + 1, 5, none⟩ = some (.int .i64 er) := ((((HY.out).setAt 0 (.int .i64 0)).setAt 1 (.int .i64 0)).setAt 3 (.string ⟨#[]⟩)).cell 5
  have HR : Hid (Below w.heap.size w (((W2.setCell ⟨w.heap.size + 1, 0, none⟩ (.int .i64 0)).setCell ⟨w.heap.size + 1, 1, none⟩ (.int .i64 0)).setCell ⟨w.heap.size + 1, 3, none⟩ (.string ⟨#[]⟩))) := (((HB.out).setCell (p := ⟨w.heap.size + 1, 0, none⟩) (Nat.le_succ _) (.int .i64 0)).setCell (p := ⟨w.heap.size + 1, 1, none⟩) (Nat.le_succ _) (.int .i64 0)).setCell (p := ⟨w.heap.size + 1, 3, none⟩) (Nat.le_succ _) (.string ⟨#[]⟩)
  go_enter Try.func46, Try.ntmps46
  go_wp2_with (with_reducible refine wpList_storeBlk rfl 103 _ _ rfl (w.heap.size + 1) #[.int .i64 0, .int .i64 0, .int .i64 0, .string ⟨#[]⟩, .int .i64 0, .int .i64 0] #[.int .i64 S, .int .i64 E, .int .i64 M, .string bl, .int .i64 n, .int .i64 er] ?hx ?hy X1 rfl ?hi ?h1 ?_)
  try (case hx => rfl)
  try (case hy => rfl)
  try (case hi => kernel_rfl)
  try (case h1 => simp [Value.oneCell'])
  try rw [hW2]
  clear X1
  go_wp2_with fail
  go_ret
  exact ⟨rfl, HR.out⟩

set_option maxHeartbeats 2000000 in
theorem frOwn6 (G S E M er : Int) (bl : ByteArray) (n c : Nat) (a : Option Addr) (w : World) (D : Bool) (hD : decide ((0, E, M, bl, (n : Int), er) = ((0, 0, 0, ⟨#[]⟩, 0, 0) : Int × Int × Int × ByteArray × Int × Int)) = D) :
    Calls Try.prog 46 #[.agg #[.int .i64 6, .int .i64 G, .int .i64 S, .int .i64 E, .int .i64 M, .string bl, .slice a n c, .int .i64 er]] w fun e w' => e = .returned (.bool D) ∧ Below w.heap.size w w' := by
  have hE := fun w => parEq_is _ _ D hD w
  simp only [parA] at hE
  have X1 : Blk ((w.alloc (.cells #[.int .i64 6, .int .i64 G, .int .i64 S, .int .i64 E, .int .i64 M, .string bl, .slice a n c, .int .i64 er] 39)).alloc (.cells #[.int .i64 0, .int .i64 0, .int .i64 0, .string ⟨#[]⟩, .int .i64 0, .int .i64 0] 103)) 103 (w.heap.size + 1) #[.int .i64 0, .int .i64 0, .int .i64 0, .string ⟨#[]⟩, .int .i64 0, .int .i64 0] := Blk.new' _ _ _ _ (by simp)
  have HY : Hid (Blk (((w.alloc (.cells #[.int .i64 6, .int .i64 G, .int .i64 S, .int .i64 E, .int .i64 M, .string bl, .slice a n c, .int .i64 er] 39)).alloc (.cells #[.int .i64 0, .int .i64 0, .int .i64 0, .string ⟨#[]⟩, .int .i64 0, .int .i64 0] 103)).setRow (w.heap.size + 1) #[.int .i64 S, .int .i64 E, .int .i64 M, .string bl, .int .i64 n, .int .i64 er]) 103 (w.heap.size + 1) #[.int .i64 S, .int .i64 E, .int .i64 M, .string bl, .int .i64 n, .int .i64 er]) := X1.setRow _
  have HX : Hid (Blk (((w.alloc (.cells #[.int .i64 6, .int .i64 G, .int .i64 S, .int .i64 E, .int .i64 M, .string bl, .slice a n c, .int .i64 er] 39)).alloc (.cells #[.int .i64 0, .int .i64 0, .int .i64 0, .string ⟨#[]⟩, .int .i64 0, .int .i64 0] 103)).setRow (w.heap.size + 1) #[.int .i64 S, .int .i64 E, .int .i64 M, .string bl, .int .i64 n, .int .i64 er]) 39 w.heap.size #[.int .i64 6, .int .i64 G, .int .i64 S, .int .i64 E, .int .i64 M, .string bl, .slice a n c, .int .i64 er]) := ((Blk.new _ _ _).alloc _).setRowOther _ (by omega) _
  have HB : Hid (Below w.heap.size w (((w.alloc (.cells #[.int .i64 6, .int .i64 G, .int .i64 S, .int .i64 E, .int .i64 M, .string bl, .slice a n c, .int .i64 er] 39)).alloc (.cells #[.int .i64 0, .int .i64 0, .int .i64 0, .string ⟨#[]⟩, .int .i64 0, .int .i64 0] 103)).setRow (w.heap.size + 1) #[.int .i64 S, .int .i64 E, .int .i64 M, .string bl, .int .i64 n, .int .i64 er])) := below_setRow ((below_new w _).alloc (by simp) _) (by omega) _
  obtain ⟨W2, hW2⟩ : ∃ W2, ((w.alloc (.cells #[.int .i64 6, .int .i64 G, .int .i64 S, .int .i64 E, .int .i64 M, .string bl, .slice a n c, .int .i64 er] 39)).alloc (.cells #[.int .i64 0, .int .i64 0, .int .i64 0, .string ⟨#[]⟩, .int .i64 0, .int .i64 0] 103)).setRow (w.heap.size + 1) #[.int .i64 S, .int .i64 E, .int .i64 M, .string bl, .int .i64 n, .int .i64 er] = W2 := ⟨_, rfl⟩
  rw [hW2] at HY HX HB
  have c0 : W2.cell? ⟨w.heap.size, 0, none⟩ = some (.int .i64 6) := HX.out.cell 0
  clear HX hD
  have y0 : W2.cell? ⟨w.heap.size + 1, 0, none⟩ = some _ := (HY.out).cell 0
  have z0 : W2.frozen? ⟨w.heap.size + 1, 0, none⟩ = false := (HY.out).free 0
  have q0 : (W2.setCell ⟨w.heap.size + 1, 0, none⟩ (.int .i64 0)).cell? ⟨w.heap.size + 1, 0, none⟩ = some (.int .i64 0) := ((HY.out).setAt 0 (.int .i64 0)).cell 0
  have q1 : (W2.setCell ⟨w.heap.size + 1, 0, none⟩ (.int .i64 0)).cell? ⟨w.heap.size + 1, 1, none⟩ = some (.int .i64 E) := ((HY.out).setAt 0 (.int .i64 0)).cell 1
  have q2 : (W2.setCell ⟨w.heap.size + 1, 0, none⟩ (.int .i64 0)).cell? ⟨w.heap.size + 1, 2, none⟩ = some (.int .i64 M) := ((HY.out).setAt 0 (.int .i64 0)).cell 2
  have q3 : (W2.setCell ⟨w.heap.size + 1, 0, none⟩ (.int .i64 0)).cell? ⟨w.heap.size + 1, 3, none⟩ = some (.string bl) := ((HY.out).setAt 0 (.int .i64 0)).cell 3
  have q4 : (W2.setCell ⟨w.heap.size + 1, 0, none⟩ (.int .i64 0)).cell? ⟨w.heap.size + 1, 4, none⟩ = some (.int .i64 n) := ((HY.out).setAt 0 (.int .i64 0)).cell 4
  have q5 : (W2.setCell ⟨w.heap.size + 1, 0, none⟩ (.int .i64 0)).cell? ⟨w.heap.size + 1, 5, none⟩ = some (.int .i64 er) := ((HY.out).setAt 0 (.int .i64 0)).cell 5
  have HR : Hid (Below w.heap.size w (W2.setCell ⟨w.heap.size + 1, 0, none⟩ (.int .i64 0))) := (HB.out).setCell (p := ⟨w.heap.size + 1, 0, none⟩) (Nat.le_succ _) (.int .i64 0)
  go_enter Try.func46, Try.ntmps46
  go_wp2_with (with_reducible refine wpList_storeBlk rfl 103 _ _ rfl (w.heap.size + 1) #[.int .i64 0, .int .i64 0, .int .i64 0, .string ⟨#[]⟩, .int .i64 0, .int .i64 0] #[.int .i64 S, .int .i64 E, .int .i64 M, .string bl, .int .i64 n, .int .i64 er] ?hx ?hy X1 rfl ?hi ?h1 ?_)
  try (case hx => rfl)
  try (case hy => rfl)
  try (case hi => kernel_rfl)
  try (case h1 => simp [Value.oneCell'])
  try rw [hW2]
  clear X1
  go_wp2_with fail
  go_ret
  exact ⟨rfl, HR.out⟩

set_option maxHeartbeats 2000000 in
theorem frOwn7 (G S E M er : Int) (bl : ByteArray) (n c : Nat) (a : Option Addr) (w : World) (D : Bool) (hD : decide ((S, E, M, bl, (n : Int), er) = ((0, 0, 0, ⟨#[]⟩, 0, 0) : Int × Int × Int × ByteArray × Int × Int)) = D) :
    Calls Try.prog 46 #[.agg #[.int .i64 7, .int .i64 G, .int .i64 S, .int .i64 E, .int .i64 M, .string bl, .slice a n c, .int .i64 er]] w fun e w' => e = .returned (.bool D) ∧ Below w.heap.size w w' := by
  have hE := fun w => parEq_is _ _ D hD w
  simp only [parA] at hE
  have X1 : Blk ((w.alloc (.cells #[.int .i64 7, .int .i64 G, .int .i64 S, .int .i64 E, .int .i64 M, .string bl, .slice a n c, .int .i64 er] 39)).alloc (.cells #[.int .i64 0, .int .i64 0, .int .i64 0, .string ⟨#[]⟩, .int .i64 0, .int .i64 0] 103)) 103 (w.heap.size + 1) #[.int .i64 0, .int .i64 0, .int .i64 0, .string ⟨#[]⟩, .int .i64 0, .int .i64 0] := Blk.new' _ _ _ _ (by simp)
  have HY : Hid (Blk (((w.alloc (.cells #[.int .i64 7, .int .i64 G, .int .i64 S, .int .i64 E, .int .i64 M, .string bl, .slice a n c, .int .i64 er] 39)).alloc (.cells #[.int .i64 0, .int .i64 0, .int .i64 0, .string ⟨#[]⟩, .int .i64 0, .int .i64 0] 103)).setRow (w.heap.size + 1) #[.int .i64 S, .int .i64 E, .int .i64 M, .string bl, .int .i64 n, .int .i64 er]) 103 (w.heap.size + 1) #[.int .i64 S, .int .i64 E, .int .i64 M, .string bl, .int .i64 n, .int .i64 er]) := X1.setRow _
  have HX : Hid (Blk (((w.alloc (.cells #[.int .i64 7, .int .i64 G, .int .i64 S, .int .i64 E, .int .i64 M, .string bl, .slice a n c, .int .i64 er] 39)).alloc (.cells #[.int .i64 0, .int .i64 0, .int .i64 0, .string ⟨#[]⟩, .int .i64 0, .int .i64 0] 103)).setRow (w.heap.size + 1) #[.int .i64 S, .int .i64 E, .int .i64 M, .string bl, .int .i64 n, .int .i64 er]) 39 w.heap.size #[.int .i64 7, .int .i64 G, .int .i64 S, .int .i64 E, .int .i64 M, .string bl, .slice a n c, .int .i64 er]) := ((Blk.new _ _ _).alloc _).setRowOther _ (by omega) _
  have HB : Hid (Below w.heap.size w (((w.alloc (.cells #[.int .i64 7, .int .i64 G, .int .i64 S, .int .i64 E, .int .i64 M, .string bl, .slice a n c, .int .i64 er] 39)).alloc (.cells #[.int .i64 0, .int .i64 0, .int .i64 0, .string ⟨#[]⟩, .int .i64 0, .int .i64 0] 103)).setRow (w.heap.size + 1) #[.int .i64 S, .int .i64 E, .int .i64 M, .string bl, .int .i64 n, .int .i64 er])) := below_setRow ((below_new w _).alloc (by simp) _) (by omega) _
  obtain ⟨W2, hW2⟩ : ∃ W2, ((w.alloc (.cells #[.int .i64 7, .int .i64 G, .int .i64 S, .int .i64 E, .int .i64 M, .string bl, .slice a n c, .int .i64 er] 39)).alloc (.cells #[.int .i64 0, .int .i64 0, .int .i64 0, .string ⟨#[]⟩, .int .i64 0, .int .i64 0] 103)).setRow (w.heap.size + 1) #[.int .i64 S, .int .i64 E, .int .i64 M, .string bl, .int .i64 n, .int .i64 er] = W2 := ⟨_, rfl⟩
  rw [hW2] at HY HX HB
  have c0 : W2.cell? ⟨w.heap.size, 0, none⟩ = some (.int .i64 7) := HX.out.cell 0
  clear HX hD
  have q0 : W2.cell? ⟨w.heap.size + 1, 0, none⟩ = some (.int .i64 S) := (HY.out).cell 0
  have q1 : W2.cell? ⟨w.heap.size + 1, 1, none⟩ = some (.int .i64 E) := (HY.out).cell 1
  have q2 : W2.cell? ⟨w.heap.size + 1, 2, none⟩ = some (.int .i64 M) := (HY.out).cell 2
  have q3 : W2.cell? ⟨w.heap.size + 1, 3, none⟩ = some (.string bl) := (HY.out).cell 3
  have q4 : W2.cell? ⟨w.heap.size + 1, 4, none⟩ = some (.int .i64 n) := (HY.out).cell 4
  have q5 : W2.cell? ⟨w.heap.size + 1, 5, none⟩ = some (.int .i64 er) := (HY.out).cell 5
  have HR : Hid (Below w.heap.size w W2) := HB.out
  go_enter Try.func46, Try.ntmps46
  go_wp2_with (with_reducible refine wpList_storeBlk rfl 103 _ _ rfl (w.heap.size + 1) #[.int .i64 0, .int .i64 0, .int .i64 0, .string ⟨#[]⟩, .int .i64 0, .int .i64 0] #[.int .i64 S, .int .i64 E, .int .i64 M, .string bl, .int .i64 n, .int .i64 er] ?hx ?hy X1 rfl ?hi ?h1 ?_)
  try (case hx => rfl)
  try (case hy => rfl)
  try (case hi => kernel_rfl)
  try (case h1 => simp [Value.oneCell'])
  try rw [hW2]
  clear X1
  go_wp2_with fail
  go_ret
  exact ⟨rfl, HR.out⟩

set_option maxHeartbeats 2000000 in
theorem frOwn8 (G S E M er : Int) (bl : ByteArray) (n c : Nat) (a : Option Addr) (w : World) (D : Bool) (hD : decide ((0, 0, M, ⟨#[]⟩, (n : Int), er) = ((0, 0, 0, ⟨#[]⟩, 0, 0) : Int × Int × Int × ByteArray × Int × Int)) = D) :
    Calls Try.prog 46 #[.agg #[.int .i64 8, .int .i64 G, .int .i64 S, .int .i64 E, .int .i64 M, .string bl, .slice a n c, .int .i64 er]] w fun e w' => e = .returned (.bool D) ∧ Below w.heap.size w w' := by
  have hE := fun w => parEq_is _ _ D hD w
  simp only [parA] at hE
  have X1 : Blk ((w.alloc (.cells #[.int .i64 8, .int .i64 G, .int .i64 S, .int .i64 E, .int .i64 M, .string bl, .slice a n c, .int .i64 er] 39)).alloc (.cells #[.int .i64 0, .int .i64 0, .int .i64 0, .string ⟨#[]⟩, .int .i64 0, .int .i64 0] 103)) 103 (w.heap.size + 1) #[.int .i64 0, .int .i64 0, .int .i64 0, .string ⟨#[]⟩, .int .i64 0, .int .i64 0] := Blk.new' _ _ _ _ (by simp)
  have HY : Hid (Blk (((w.alloc (.cells #[.int .i64 8, .int .i64 G, .int .i64 S, .int .i64 E, .int .i64 M, .string bl, .slice a n c, .int .i64 er] 39)).alloc (.cells #[.int .i64 0, .int .i64 0, .int .i64 0, .string ⟨#[]⟩, .int .i64 0, .int .i64 0] 103)).setRow (w.heap.size + 1) #[.int .i64 S, .int .i64 E, .int .i64 M, .string bl, .int .i64 n, .int .i64 er]) 103 (w.heap.size + 1) #[.int .i64 S, .int .i64 E, .int .i64 M, .string bl, .int .i64 n, .int .i64 er]) := X1.setRow _
  have HX : Hid (Blk (((w.alloc (.cells #[.int .i64 8, .int .i64 G, .int .i64 S, .int .i64 E, .int .i64 M, .string bl, .slice a n c, .int .i64 er] 39)).alloc (.cells #[.int .i64 0, .int .i64 0, .int .i64 0, .string ⟨#[]⟩, .int .i64 0, .int .i64 0] 103)).setRow (w.heap.size + 1) #[.int .i64 S, .int .i64 E, .int .i64 M, .string bl, .int .i64 n, .int .i64 er]) 39 w.heap.size #[.int .i64 8, .int .i64 G, .int .i64 S, .int .i64 E, .int .i64 M, .string bl, .slice a n c, .int .i64 er]) := ((Blk.new _ _ _).alloc _).setRowOther _ (by omega) _
  have HB : Hid (Below w.heap.size w (((w.alloc (.cells #[.int .i64 8, .int .i64 G, .int .i64 S, .int .i64 E, .int .i64 M, .string bl, .slice a n c, .int .i64 er] 39)).alloc (.cells #[.int .i64 0, .int .i64 0, .int .i64 0, .string ⟨#[]⟩, .int .i64 0, .int .i64 0] 103)).setRow (w.heap.size + 1) #[.int .i64 S, .int .i64 E, .int .i64 M, .string bl, .int .i64 n, .int .i64 er])) := below_setRow ((below_new w _).alloc (by simp) _) (by omega) _
  obtain ⟨W2, hW2⟩ : ∃ W2, ((w.alloc (.cells #[.int .i64 8, .int .i64 G, .int .i64 S, .int .i64 E, .int .i64 M, .string bl, .slice a n c, .int .i64 er] 39)).alloc (.cells #[.int .i64 0, .int .i64 0, .int .i64 0, .string ⟨#[]⟩, .int .i64 0, .int .i64 0] 103)).setRow (w.heap.size + 1) #[.int .i64 S, .int .i64 E, .int .i64 M, .string bl, .int .i64 n, .int .i64 er] = W2 := ⟨_, rfl⟩
  rw [hW2] at HY HX HB
  have c0 : W2.cell? ⟨w.heap.size, 0, none⟩ = some (.int .i64 8) := HX.out.cell 0
  clear HX hD
  have y0 : W2.cell? ⟨w.heap.size + 1, 0, none⟩ = some _ := (HY.out).cell 0
  have z0 : W2.frozen? ⟨w.heap.size + 1, 0, none⟩ = false := (HY.out).free 0
  have y1 : (W2.setCell ⟨w.heap.size + 1, 0, none⟩ (.int .i64 0)).cell? ⟨w.heap.size + 1, 1, none⟩ = some _ := ((HY.out).setAt 0 (.int .i64 0)).cell 1
  have z1 : (W2.setCell ⟨w.heap.size + 1, 0, none⟩ (.int .i64 0)).frozen? ⟨w.heap.size + 1, 1, none⟩ = false := ((HY.out).setAt 0 (.int .i64 0)).free 1
  have y3 : ((W2.setCell ⟨w.heap.size + 1, 0, none⟩ (.int .i64 0)).setCell ⟨w.heap.size + 1, 1, none⟩ (.int .i64 0)).cell? ⟨w.heap.size + 1, 3, none⟩ = some _ := (((HY.out).setAt 0 (.int .i64 0)).setAt 1 (.int .i64 0)).cell 3
  have z3 : ((W2.setCell ⟨w.heap.size + 1, 0, none⟩ (.int .i64 0)).setCell ⟨w.heap.size + 1, 1, none⟩ (.int .i64 0)).frozen? ⟨w.heap.size + 1, 3, none⟩ = false := (((HY.out).setAt 0 (.int .i64 0)).setAt 1 (.int .i64 0)).free 3
  have q0 : (((W2.setCell ⟨w.heap.size + 1, 0, none⟩ (.int .i64 0)).setCell ⟨w.heap.size + 1, 1, none⟩ (.int .i64 0)).setCell ⟨w.heap.size + 1, 3, none⟩ (.string ⟨#[]⟩)).cell? ⟨w.heap.size + 1, 0, none⟩ = some (.int .i64 0) := ((((HY.out).setAt 0 (.int .i64 0)).setAt 1 (.int .i64 0)).setAt 3 (.string ⟨#[]⟩)).cell 0
  have q1 : (((W2.setCell ⟨w.heap.size + 1, 0, none⟩ (.int .i64 0)).setCell ⟨w.heap.size + 1, 1, none⟩ (.int .i64 0)).setCell ⟨w.heap.size + 1, 3, none⟩ (.string ⟨#[]⟩)).cell? ⟨w.heap.size + 1, 1, none⟩ = some (.int .i64 0) := ((((HY.out).setAt 0 (.int .i64 0)).setAt 1 (.int .i64 0)).setAt 3 (.string ⟨#[]⟩)).cell 1
  have q2 : (((W2.setCell ⟨w.heap.size + 1, 0, none⟩ (.int .i64 0)).setCell ⟨w.heap.size + 1, 1, none⟩ (.int .i64 0)).setCell ⟨w.heap.size + 1, 3, none⟩ (.string ⟨#[]⟩)).cell? ⟨w.heap.size + 1, 2, none⟩ = some (.int .i64 M) := ((((HY.out).setAt 0 (.int .i64 0)).setAt 1 (.int .i64 0)).setAt 3 (.string ⟨#[]⟩)).cell 2
  have q3 : (((W2.setCell ⟨w.heap.size + 1, 0, none⟩ (.int .i64 0)).setCell ⟨w.heap.size + 1, 1, none⟩ (.int .i64 0)).setCell ⟨w.heap.size + 1, 3, none⟩ (.string ⟨#[]⟩)).cell? ⟨w.heap.size + 1, 3, none⟩ = some (.string ⟨#[]⟩) := ((((HY.out).setAt 0 (.int .i64 0)).setAt 1 (.int .i64 0)).setAt 3 (.string ⟨#[]⟩)).cell 3
  have q4 : (((W2.setCell ⟨w.heap.size + 1, 0, none⟩ (.int .i64 0)).setCell ⟨w.heap.size + 1, 1, none⟩ (.int .i64 0)).setCell ⟨w.heap.size + 1, 3, none⟩ (.string ⟨#[]⟩)).cell? ⟨w.heap.size + 1, 4, none⟩ = some (.int .i64 n) := ((((HY.out).setAt 0 (.int .i64 0)).setAt 1 (.int .i64 0)).setAt 3 (.string ⟨#[]⟩)).cell 4
  have q5 : (((W2.setCell ⟨w.heap.size + 1, 0, none⟩ (.int .i64 0)).setCell ⟨w.heap.size + 1, 1, none⟩ (.int .i64 0)).setCell ⟨w.heap.size + 1, 3, none⟩ (.string ⟨#[]⟩)).cell? ⟨w.heap.size + 1, 5, none⟩ = some (.int .i64 er) := ((((HY.out).setAt 0 (.int .i64 0)).setAt 1 (.int .i64 0)).setAt 3 (.string ⟨#[]⟩)).cell 5
  have HR : Hid (Below w.heap.size w (((W2.setCell ⟨w.heap.size + 1, 0, none⟩ (.int .i64 0)).setCell ⟨w.heap.size + 1, 1, none⟩ (.int .i64 0)).setCell ⟨w.heap.size + 1, 3, none⟩ (.string ⟨#[]⟩))) := (((HB.out).setCell (p := ⟨w.heap.size + 1, 0, none⟩) (Nat.le_succ _) (.int .i64 0)).setCell (p := ⟨w.heap.size + 1, 1, none⟩) (Nat.le_succ _) (.int .i64 0)).setCell (p := ⟨w.heap.size + 1, 3, none⟩) (Nat.le_succ _) (.string ⟨#[]⟩)
  go_enter Try.func46, Try.ntmps46
  go_wp2_with (with_reducible refine wpList_storeBlk rfl 103 _ _ rfl (w.heap.size + 1) #[.int .i64 0, .int .i64 0, .int .i64 0, .string ⟨#[]⟩, .int .i64 0, .int .i64 0] #[.int .i64 S, .int .i64 E, .int .i64 M, .string bl, .int .i64 n, .int .i64 er] ?hx ?hy X1 rfl ?hi ?h1 ?_)
  try (case hx => rfl)
  try (case hy => rfl)
  try (case hi => kernel_rfl)
  try (case h1 => simp [Value.oneCell'])
  try rw [hW2]
  clear X1
  go_wp2_with fail
  go_ret
  exact ⟨rfl, HR.out⟩

set_option maxHeartbeats 2000000 in
theorem frOwn9 (G S E M er : Int) (bl : ByteArray) (n c : Nat) (a : Option Addr) (w : World) (D : Bool) (hD : decide ((S, E, M, bl, (n : Int), 0) = ((0, 0, 0, ⟨#[]⟩, 0, 0) : Int × Int × Int × ByteArray × Int × Int)) = D) :
    Calls Try.prog 46 #[.agg #[.int .i64 9, .int .i64 G, .int .i64 S, .int .i64 E, .int .i64 M, .string bl, .slice a n c, .int .i64 er]] w fun e w' => e = .returned (.bool D) ∧ Below w.heap.size w w' := by
  have hE := fun w => parEq_is _ _ D hD w
  simp only [parA] at hE
  have X1 : Blk ((w.alloc (.cells #[.int .i64 9, .int .i64 G, .int .i64 S, .int .i64 E, .int .i64 M, .string bl, .slice a n c, .int .i64 er] 39)).alloc (.cells #[.int .i64 0, .int .i64 0, .int .i64 0, .string ⟨#[]⟩, .int .i64 0, .int .i64 0] 103)) 103 (w.heap.size + 1) #[.int .i64 0, .int .i64 0, .int .i64 0, .string ⟨#[]⟩, .int .i64 0, .int .i64 0] := Blk.new' _ _ _ _ (by simp)
  have HY : Hid (Blk (((w.alloc (.cells #[.int .i64 9, .int .i64 G, .int .i64 S, .int .i64 E, .int .i64 M, .string bl, .slice a n c, .int .i64 er] 39)).alloc (.cells #[.int .i64 0, .int .i64 0, .int .i64 0, .string ⟨#[]⟩, .int .i64 0, .int .i64 0] 103)).setRow (w.heap.size + 1) #[.int .i64 S, .int .i64 E, .int .i64 M, .string bl, .int .i64 n, .int .i64 er]) 103 (w.heap.size + 1) #[.int .i64 S, .int .i64 E, .int .i64 M, .string bl, .int .i64 n, .int .i64 er]) := X1.setRow _
  have HX : Hid (Blk (((w.alloc (.cells #[.int .i64 9, .int .i64 G, .int .i64 S, .int .i64 E, .int .i64 M, .string bl, .slice a n c, .int .i64 er] 39)).alloc (.cells #[.int .i64 0, .int .i64 0, .int .i64 0, .string ⟨#[]⟩, .int .i64 0, .int .i64 0] 103)).setRow (w.heap.size + 1) #[.int .i64 S, .int .i64 E, .int .i64 M, .string bl, .int .i64 n, .int .i64 er]) 39 w.heap.size #[.int .i64 9, .int .i64 G, .int .i64 S, .int .i64 E, .int .i64 M, .string bl, .slice a n c, .int .i64 er]) := ((Blk.new _ _ _).alloc _).setRowOther _ (by omega) _
  have HB : Hid (Below w.heap.size w (((w.alloc (.cells #[.int .i64 9, .int .i64 G, .int .i64 S, .int .i64 E, .int .i64 M, .string bl, .slice a n c, .int .i64 er] 39)).alloc (.cells #[.int .i64 0, .int .i64 0, .int .i64 0, .string ⟨#[]⟩, .int .i64 0, .int .i64 0] 103)).setRow (w.heap.size + 1) #[.int .i64 S, .int .i64 E, .int .i64 M, .string bl, .int .i64 n, .int .i64 er])) := below_setRow ((below_new w _).alloc (by simp) _) (by omega) _
  obtain ⟨W2, hW2⟩ : ∃ W2, ((w.alloc (.cells #[.int .i64 9, .int .i64 G, .int .i64 S, .int .i64 E, .int .i64 M, .string bl, .slice a n c, .int .i64 er] 39)).alloc (.cells #[.int .i64 0, .int .i64 0, .int .i64 0, .string ⟨#[]⟩, .int .i64 0, .int .i64 0] 103)).setRow (w.heap.size + 1) #[.int .i64 S, .int .i64 E, .int .i64 M, .string bl, .int .i64 n, .int .i64 er] = W2 := ⟨_, rfl⟩
  rw [hW2] at HY HX HB
  have c0 : W2.cell? ⟨w.heap.size, 0, none⟩ = some (.int .i64 9) := HX.out.cell 0
  clear HX hD
  have y5 : W2.cell? ⟨w.heap.size + 1, 5, none⟩ = some _ := (HY.out).cell 5
  have z5 : W2.frozen? ⟨w.heap.size + 1, 5, none⟩ = false := (HY.out).free 5
  have q0 : (W2.setCell ⟨w.heap.size + 1, 5, none⟩ (.int .i64 0)).cell? ⟨w.heap.size + 1, 0, none⟩ = some (.int .i64 S) := ((HY.out).setAt 5 (.int .i64 0)).cell 0
  have q1 : (W2.setCell ⟨w.heap.size + 1, 5, none⟩ (.int .i64 0)).cell? ⟨w.heap.size + 1, 1, none⟩ = some (.int .i64 E) := ((HY.out).setAt 5 (.int .i64 0)).cell 1
  have q2 : (W2.setCell ⟨w.heap.size + 1, 5, none⟩ (.int .i64 0)).cell? ⟨w.heap.size + 1, 2, none⟩ = some (.int .i64 M) := ((HY.out).setAt 5 (.int .i64 0)).cell 2
  have q3 : (W2.setCell ⟨w.heap.size + 1, 5, none⟩ (.int .i64 0)).cell? ⟨w.heap.size + 1, 3, none⟩ = some (.string bl) := ((HY.out).setAt 5 (.int .i64 0)).cell 3
  have q4 : (W2.setCell ⟨w.heap.size + 1, 5, none⟩ (.int .i64 0)).cell? ⟨w.heap.size + 1, 4, none⟩ = some (.int .i64 n) := ((HY.out).setAt 5 (.int .i64 0)).cell 4
  have q5 : (W2.setCell ⟨w.heap.size + 1, 5, none⟩ (.int .i64 0)).cell? ⟨w.heap.size + 1, 5, none⟩ = some (.int .i64 0) := ((HY.out).setAt 5 (.int .i64 0)).cell 5
  have HR : Hid (Below w.heap.size w (W2.setCell ⟨w.heap.size + 1, 5, none⟩ (.int .i64 0))) := (HB.out).setCell (p := ⟨w.heap.size + 1, 5, none⟩) (Nat.le_succ _) (.int .i64 0)
  go_enter Try.func46, Try.ntmps46
  go_wp2_with (with_reducible refine wpList_storeBlk rfl 103 _ _ rfl (w.heap.size + 1) #[.int .i64 0, .int .i64 0, .int .i64 0, .string ⟨#[]⟩, .int .i64 0, .int .i64 0] #[.int .i64 S, .int .i64 E, .int .i64 M, .string bl, .int .i64 n, .int .i64 er] ?hx ?hy X1 rfl ?hi ?h1 ?_)
  try (case hx => rfl)
  try (case hy => rfl)
  try (case hi => kernel_rfl)
  try (case h1 => simp [Value.oneCell'])
  try rw [hW2]
  clear X1
  go_wp2_with fail
  go_ret
  exact ⟨rfl, HR.out⟩

set_option maxHeartbeats 2000000 in
theorem frOwn0 (K G S E M er : Int) (bl : ByteArray) (n c : Nat) (a : Option Addr) (w : World) (hK : ¬ (1 ≤ K ∧ K ≤ 9)) :
    Calls Try.prog 46 #[.agg #[.int .i64 K, .int .i64 G, .int .i64 S, .int .i64 E, .int .i64 M, .string bl, .slice a n c, .int .i64 er]] w fun e w' => e = .returned (.bool false) ∧ Below w.heap.size w w' := by
  have X1 : Blk ((w.alloc (.cells #[.int .i64 K, .int .i64 G, .int .i64 S, .int .i64 E, .int .i64 M, .string bl, .slice a n c, .int .i64 er] 39)).alloc (.cells #[.int .i64 0, .int .i64 0, .int .i64 0, .string ⟨#[]⟩, .int .i64 0, .int .i64 0] 103)) 103 (w.heap.size + 1) #[.int .i64 0, .int .i64 0, .int .i64 0, .string ⟨#[]⟩, .int .i64 0, .int .i64 0] := Blk.new' _ _ _ _ (by simp)
  have HX : Hid (Blk (((w.alloc (.cells #[.int .i64 K, .int .i64 G, .int .i64 S, .int .i64 E, .int .i64 M, .string bl, .slice a n c, .int .i64 er] 39)).alloc (.cells #[.int .i64 0, .int .i64 0, .int .i64 0, .string ⟨#[]⟩, .int .i64 0, .int .i64 0] 103)).setRow (w.heap.size + 1) #[.int .i64 S, .int .i64 E, .int .i64 M, .string bl, .int .i64 n, .int .i64 er]) 39 w.heap.size #[.int .i64 K, .int .i64 G, .int .i64 S, .int .i64 E, .int .i64 M, .string bl, .slice a n c, .int .i64 er]) := ((Blk.new _ _ _).alloc _).setRowOther _ (by omega) _
  have HB : Hid (Below w.heap.size w (((w.alloc (.cells #[.int .i64 K, .int .i64 G, .int .i64 S, .int .i64 E, .int .i64 M, .string bl, .slice a n c, .int .i64 er] 39)).alloc (.cells #[.int .i64 0, .int .i64 0, .int .i64 0, .string ⟨#[]⟩, .int .i64 0, .int .i64 0] 103)).setRow (w.heap.size + 1) #[.int .i64 S, .int .i64 E, .int .i64 M, .string bl, .int .i64 n, .int .i64 er])) := below_setRow ((below_new w _).alloc (by simp) _) (by omega) _
  obtain ⟨W2, hW2⟩ : ∃ W2, ((w.alloc (.cells #[.int .i64 K, .int .i64 G, .int .i64 S, .int .i64 E, .int .i64 M, .string bl, .slice a n c, .int .i64 er] 39)).alloc (.cells #[.int .i64 0, .int .i64 0, .int .i64 0, .string ⟨#[]⟩, .int .i64 0, .int .i64 0] 103)).setRow (w.heap.size + 1) #[.int .i64 S, .int .i64 E, .int .i64 M, .string bl, .int .i64 n, .int .i64 er] = W2 := ⟨_, rfl⟩
  rw [hW2] at HX HB
  have c0 : W2.cell? ⟨w.heap.size, 0, none⟩ = some (.int .i64 K) := HX.out.cell 0
  clear HX
  have e1 : (K == 1) = false := by rw [beq_eq_false_iff_ne]; omega
  have e2 : (K == 2) = false := by rw [beq_eq_false_iff_ne]; omega
  have e3 : (K == 3) = false := by rw [beq_eq_false_iff_ne]; omega
  have e4 : (K == 4) = false := by rw [beq_eq_false_iff_ne]; omega
  have e5 : (K == 5) = false := by rw [beq_eq_false_iff_ne]; omega
  have e6 : (K == 6) = false := by rw [beq_eq_false_iff_ne]; omega
  have e7 : (K == 7) = false := by rw [beq_eq_false_iff_ne]; omega
  have e8 : (K == 8) = false := by rw [beq_eq_false_iff_ne]; omega
  have e9 : (K == 9) = false := by rw [beq_eq_false_iff_ne]; omega
  clear hK
  go_enter Try.func46, Try.ntmps46
  go_wp2_with (with_reducible refine wpList_storeBlk rfl 103 _ _ rfl (w.heap.size + 1) #[.int .i64 0, .int .i64 0, .int .i64 0, .string ⟨#[]⟩, .int .i64 0, .int .i64 0] #[.int .i64 S, .int .i64 E, .int .i64 M, .string bl, .int .i64 n, .int .i64 er] ?hx ?hy X1 rfl ?hi ?h1 ?_)
  try (case hx => rfl)
  try (case hy => rfl)
  try (case hi => kernel_rfl)
  try (case h1 => simp [Value.oneCell'])
  try rw [hW2]
  clear X1
  go_wp2_with fail
  go_ret
  exact ⟨rfl, HB.out⟩

theorem size0_iff (s : ByteArray) : s.size = 0 ↔ s = ⟨#[]⟩ := by
  constructor
  · intro h
    have : s.data = #[] := by
      have : s.data.size = 0 := h
      exact Array.eq_empty_of_size_eq_zero this
    cases s; simp at this; rw [this]
  · rintro rfl; rfl

/-- frameHasItsOwn, of any frame. -/
theorem frOwn_any (F : FrmT) (a : Option Addr) (c : Nat) (w : World) :
    Calls Try.prog 46 #[.agg (frmA F a c)] w fun e w' => e = .returned (.bool (ownB F)) ∧ Below w.heap.size w w' := by
  obtain ⟨K, G, S, E, M, bl, it, er⟩ := F
  unfold frmA
  simp only
  by_cases hK : 1 ≤ K ∧ K ≤ 9
  · have hk : K = 1 ∨ K = 2 ∨ K = 3 ∨ K = 4 ∨ K = 5 ∨ K = 6 ∨ K = 7 ∨ K = 8 ∨ K = 9 := by omega
    rcases hk with rfl | rfl | rfl | rfl | rfl | rfl | rfl | rfl | rfl
    · refine frOwn1 G S E M er bl it.length c a w _ ?_
      rw [Bool.eq_iff_iff, ownB_iff, decide_eq_true_eq]
      simp [OwnFr, nmB, nmL, ← size0_iff, and_assoc]
      try omega
    · refine frOwn2 G S E M er bl it.length c a w _ ?_
      rw [Bool.eq_iff_iff, ownB_iff, decide_eq_true_eq]
      simp [OwnFr, nmB, nmL, ← size0_iff, and_assoc]
      try omega
    · refine frOwn3 G S E M er bl it.length c a w _ ?_
      rw [Bool.eq_iff_iff, ownB_iff, decide_eq_true_eq]
      simp [OwnFr, nmB, nmL, ← size0_iff, and_assoc]
      try omega
    · refine frOwn4 G S E M er bl it.length c a w _ ?_
      rw [Bool.eq_iff_iff, ownB_iff, decide_eq_true_eq]
      simp [OwnFr, nmB, nmL, ← size0_iff, and_assoc]
      try omega
    · refine frOwn5 G S E M er bl it.length c a w _ ?_
      rw [Bool.eq_iff_iff, ownB_iff, decide_eq_true_eq]
      simp [OwnFr, nmB, nmL, ← size0_iff, and_assoc]
      try omega
    · refine frOwn6 G S E M er bl it.length c a w _ ?_
      rw [Bool.eq_iff_iff, ownB_iff, decide_eq_true_eq]
      simp [OwnFr, nmB, nmL, ← size0_iff, and_assoc]
      try omega
    · refine frOwn7 G S E M er bl it.length c a w _ ?_
      rw [Bool.eq_iff_iff, ownB_iff, decide_eq_true_eq]
      simp [OwnFr, nmB, nmL, ← size0_iff, and_assoc]
      try omega
    · refine frOwn8 G S E M er bl it.length c a w _ ?_
      rw [Bool.eq_iff_iff, ownB_iff, decide_eq_true_eq]
      simp [OwnFr, nmB, nmL, ← size0_iff, and_assoc]
      try omega
    · refine frOwn9 G S E M er bl it.length c a w _ ?_
      rw [Bool.eq_iff_iff, ownB_iff, decide_eq_true_eq]
      simp [OwnFr, nmB, nmL, ← size0_iff, and_assoc]
      try omega
  · have h : ownB (K, G, S, E, M, bl, it, er) = false := Bool.eq_false_iff.2 (fun e => hK ((ownB_iff _).1 e).1)
    rw [h]
    exact frOwn0 K G S E M er bl it.length c a w hK

end Go.Proofs.Ytkmdajenbidaaaa
