/- Layer 20's law: its own control, light; Judge in one form. -/
import Derived.Test.YtkmdajenbidaaaaDoorGpJ
import Derived.Test.YtkmdajenbidaaaaDoorZer
namespace Go.Proofs.YtkmdajenbidaaaaDoor
open Go.RowKit
set_option maxRecDepth 100000
set_option linter.unusedSimpArgs false
set_option linter.unusedVariables false
set_option maxRecDepth 100000

theorem mayM_ex20 : ∃ M : OpT → Bool, ∀ o, M o = true ↔ MayO o :=
  ⟨fun o => @decide (MayO o) (Classical.propDecidable _), fun o => @decide_eq_true_iff (MayO o) (Classical.propDecidable _)⟩

/-- A record of the admin's. -/
def recK (K C q : Int) : RecT := (K, 1, C, 0, zeroB 32, op0, q, [])
/-- A record of an operation of the admin's. -/
def recO (C : Int) (o : OpT) : RecT := (1, 1, C, 0, zeroB 32, o, 0, [])
theorem recK_in (K C q : Int) (w : World) : RcIn w (recK K C q) none :=
  ⟨by show (0 : Nat) ≤ _; omega, by show (0 : Nat) ≤ _; omega, ⟨rfl, .inl rfl⟩, fun i => by show (wrL [] i).2.size ≤ _; rw [show wrL [] i = (0, ByteArray.empty) from rfl]; decide, by show (0 : Nat) ≤ _; omega, by show (zeroB 32).size ≤ _; rw [zeroB_size]; decide⟩

set_option maxHeartbeats 2000000 in
theorem control_any (K C q : Int) (w : World) :
    Calls Tryd.prog 11 #[.int .i64 K, .int .i64 C, .int .i64 q] w fun e w' => e = .returned (.agg (recA (recK K C q) none 0)) ∧ Below w.heap.size w w' := by
  have hmk := fun w : World => make_zeros 32 32 rfl (by decide) w
  obtain ⟨Z, hZ⟩ : ∃ Z, zeroB 32 = Z := ⟨_, rfl⟩
  obtain ⟨W1, hW1⟩ : ∃ W1, (w.alloc (.cells #[.int .i64 0, .int .i64 0, .int .i64 0, .int .i64 0, .string ⟨#[]⟩, .int .i64 0, .int .i64 0, .int .i64 0, .int .i64 0, .int .i64 0, .int .i64 0, .int .i64 0, .string ⟨#[]⟩, .string ⟨#[]⟩, .int .i64 0, .slice none 0 0] 35)).alloc (.cells (zcells 32) 5) = W1 := ⟨_, rfl⟩
  have hcv : (convert 64 9 (.slice (some ⟨w.heap.size + 1, 0, none⟩) 32 32)).run Tryd.prog W1 = .ok (.string Z) W1 := by
    rw [← hZ, ← hW1]
    exact conv_zeros (row_zeros' 32 _ _ (by simp))
  have n0 := below_new w (.cells #[.int .i64 0, .int .i64 0, .int .i64 0, .int .i64 0, .string ⟨#[]⟩, .int .i64 0, .int .i64 0, .int .i64 0, .int .i64 0, .int .i64 0, .int .i64 0, .int .i64 0, .string ⟨#[]⟩, .string ⟨#[]⟩, .int .i64 0, .slice none 0 0] 35)
  have n1 := below_new (w.alloc (.cells #[.int .i64 0, .int .i64 0, .int .i64 0, .int .i64 0, .string ⟨#[]⟩, .int .i64 0, .int .i64 0, .int .i64 0, .int .i64 0, .int .i64 0, .int .i64 0, .int .i64 0, .string ⟨#[]⟩, .string ⟨#[]⟩, .int .i64 0, .slice none 0 0] 35)) (.cells (zcells 32) 5)
  have X1 : Blk W1 35 w.heap.size #[.int .i64 0, .int .i64 0, .int .i64 0, .int .i64 0, .string ⟨#[]⟩, .int .i64 0, .int .i64 0, .int .i64 0, .int .i64 0, .int .i64 0, .int .i64 0, .int .i64 0, .string ⟨#[]⟩, .string ⟨#[]⟩, .int .i64 0, .slice none 0 0] := by rw [← hW1]; exact (Blk.new w _ _).on n1
  have HB : Hid (Below w.heap.size w W1) := by rw [← hW1]; exact below_step n0 (Nat.le_refl _) n1
  have HZ : Hid (zeroB 32 = Z) := hZ
  have HBX : Hid (Below w.heap.size w (W1.setRow w.heap.size #[.int .i64 K, .int .i64 1, .int .i64 C, .int .i64 0, .string Z, .int .i64 0, .int .i64 0, .int .i64 0, .int .i64 0, .int .i64 0, .int .i64 0, .int .i64 0, .string ⟨#[]⟩, .string ⟨#[]⟩, .int .i64 q, .slice none 0 0])) := below_setRow HB.out (Nat.le_refl _) _
  clear n0 n1 hZ
  rw [← hW1] at hcv X1 HBX
  clear hW1 HB
  go_enter Tryd.func11, Tryd.ntmps11
  go_wp2_with (with_reducible refine wpList_storeBlk rfl 35 _ _ rfl w.heap.size #[.int .i64 0, .int .i64 0, .int .i64 0, .int .i64 0, .string ⟨#[]⟩, .int .i64 0, .int .i64 0, .int .i64 0, .int .i64 0, .int .i64 0, .int .i64 0, .int .i64 0, .string ⟨#[]⟩, .string ⟨#[]⟩, .int .i64 0, .slice none 0 0] #[.int .i64 K, .int .i64 1, .int .i64 C, .int .i64 0, .string Z, .int .i64 0, .int .i64 0, .int .i64 0, .int .i64 0, .int .i64 0, .int .i64 0, .int .i64 0, .string ⟨#[]⟩, .string ⟨#[]⟩, .int .i64 q, .slice none 0 0] (by with_unfolding_all rfl) (by with_unfolding_all rfl) X1 rfl (by kernel_rfl) (by kernel_rfl) ?_)
  refine bodyPost_row rfl w.heap.size #[.int .i64 K, .int .i64 1, .int .i64 C, .int .i64 0, .string Z, .int .i64 0, .int .i64 0, .int .i64 0, .int .i64 0, .int .i64 0, .int .i64 0, .int .i64 0, .string ⟨#[]⟩, .string ⟨#[]⟩, .int .i64 q, .slice none 0 0] rfl rfl (X1.setRow _) _ Tryd.underlying35 rfl (by kernel_rfl) ⟨?_, HBX.out⟩
  rw [← HZ.out]; rfl

/-- Judge, of a record that is judged: of a row of six. -/
theorem judgeY_any (M : OpT → Bool) (hM : ∀ o, M o = true ↔ MayO o) (Ep Op epoch : Int) (l : List MemT) (b c : Nat) (R : RecT) (ar : Option Addr) (cr : Nat) (RE RO : Int) (Rl : List MemT) (RD : Bool) (w : World) (hG : Glob8 w) (hR : RcIn w R ar) (hI : RowM w b c l) (hE : judgeE M (Ep, l, Op) epoch R = 0) (hJ : judgeG (Ep, l, Op) epoch R = ((RE, Rl, RO), RD)) :
    Calls Tryd.prog 7 #[.agg #[.int .i64 Ep, .slice (some ⟨b, 0, none⟩) 6 c, .int .i64 Op], .int .i64 epoch, .agg (recA R ar cr)] w fun e w' => ∃ b' c', e = .returned (.tuple #[.agg #[.int .i64 RE, .slice (some ⟨b', 0, none⟩) 6 c', .int .i64 RO], .bool RD, .int .i64 0]) ∧ w.heap.size ≤ b' ∧ RowM w' b' c' Rl ∧ Below w.heap.size w w' := by
  have h6 := hI.1
  have h := judge20_any M hM (Ep, l, Op) (some ⟨b, 0, none⟩) c epoch R ar cr w hG hR (by show l.length ≤ _; rw [h6]; decide) (by show MmsAt w _ l.length l; rw [h6]; exact hI.at)
  unfold grpA at h
  simp only [h6] at h
  rw [hE, hJ] at h
  refine h.mono ?_
  rintro e w' ⟨h1 | ⟨_, b', c', q1, q2, q3⟩, h2⟩
  · exact absurd rfl h1.1
  · exact ⟨b', c', q2, q1, q3, h2⟩

theorem mayR_K (M : OpT → Bool) (K C q : Int) (hK : K = 2 ∧ 1 ≤ q ∧ q ≤ 6 ∨ K = 3 ∧ 1 ≤ q ∧ q ≤ 6 ∨ K = 4 ∧ q = 0) (hC : 1 ≤ C ∧ C ≤ 1099511627775) : mayRb M (recK K C q) = true := by
  unfold mayRb ownRb recK
  simp only [zeroB_size]
  rcases hK with ⟨rfl, h⟩ | ⟨rfl, h⟩ | ⟨rfl, rfl⟩
  · simp [h, hC, mayWb]; omega
  · simp [h, hC, mayWb]; omega
  · simp [hC, mayWb]; omega

/-- When a record is judged. -/
theorem judgeE_yes (M : OpT → Bool) (G : GrpT) (epoch : Int) (R : RecT) (h1 : mayGb G = true) (h2 : mayRb M R = true) (h3 : R.2.2.1 = (mmL G.2.1 (R.2.1 - 1).toNat).2.1 + 1) (h4 : 1 ≤ epoch ∧ G.1 - 1 ≤ epoch ∧ epoch ≤ G.1) : judgeE M G epoch R = 0 := by
  unfold judgeE
  rw [h1, h2, decide_eq_true h3, if_neg (by decide), if_neg (by omega)]

def gA0 : GrpT := (1, newM 6, 0)
def gA1 : GrpT := (2, [(1, 1, true), (2, 0, true), (3, 0, false), (4, 0, false), (5, 0, false), (6, 0, false)], 0)
def gA2 : GrpT := (3, [(1, 2, true), (2, 0, false), (3, 0, false), (4, 0, false), (5, 0, false), (6, 0, false)], 0)
theorem mayA0 : mayGb gA0 = true := by decide +kernel
theorem mayA1 : mayGb gA1 = true := by decide +kernel
theorem jA1 : judgeG gA0 1 (recK 2 1 2) = (gA1, true) := by decide +kernel
theorem jA2 : judgeG gA1 2 (recK 3 2 2) = (gA2, true) := by decide +kernel
theorem eA1 (M : OpT → Bool) : judgeE M gA0 1 (recK 2 1 2) = 0 := judgeE_yes M _ _ _ mayA0 (mayR_K M 2 1 2 (.inl ⟨rfl, by decide, by decide⟩) (by decide)) (by decide +kernel) (by decide +kernel)
theorem eA2 (M : OpT → Bool) : judgeE M gA1 2 (recK 3 2 2) = 0 := judgeE_yes M _ _ _ mayA1 (mayR_K M 3 2 2 (.inr (.inl ⟨rfl, by decide, by decide⟩)) (by decide)) (by decide +kernel) (by decide +kernel)

end Go.Proofs.YtkmdajenbidaaaaDoor
