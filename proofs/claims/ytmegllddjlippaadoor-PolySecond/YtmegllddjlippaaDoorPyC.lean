/- The program's rest. -/
import Derived.Test.YtmegllddjlippaaDoorPyB
namespace Go.Proofs.YtmegllddjlippaaDoor
open Go.RowKit
set_option linter.unusedSimpArgs false

theorem index_lim (m : List Nat) (hm : m.length = 5) (w : World) : (Instr.index 35 (.agg (v64 m)) (.int .i64 4)).run Tryd.prog w = .ok (.int .u64 ((m.getD 4 0 : Nat) : Int)) w := by
  obtain ⟨a, b, c, d, e, rfl⟩ := five m hm
  kernel_rfl

set_option maxRecDepth 100000 in
set_option maxHeartbeats 4000000 in
theorem rest_any (v : Nat) (w : World) (hv : v < 2 ^ 130 + 2 ^ 34) :
    Calls Tryd.prog 19 #[.agg (v64 (limN v))] w fun e w' => e = .returned (.agg (v64 (limN (v + 5 * ((v + 5) / 2 ^ 130))))) ∧ Below w.heap.size w w' := by
  obtain ⟨l, Hl⟩ : ∃ l, Hid (l = limN v) := ⟨_, rfl⟩
  have hl5 : l.length = 5 := by rw [Hl.out]; exact limN_length _
  obtain ⟨m, Hm⟩ : ∃ m, Hid (m = limN (v + 5)) := ⟨_, rfl⟩
  have hm5 : m.length = 5 := by rw [Hm.out]; exact limN_length _
  obtain ⟨X, HX⟩ : ∃ X, Hid (X = limF (v + 5) 4) := ⟨_, rfl⟩
  have hX : X < 9 := by
    rw [HX.out, limF_4]
    omega
  have hX4 : (v + 5) / 2 ^ 130 = X / 4 := by rw [HX.out, limF_4, two130]; omega
  have hXm : m.getD 4 0 = X := by rw [Hm.out, HX.out]; exact limN_getD _ 4 (by decide)
  have hv' : v < 2 ^ 190 := by omega
  have hb : ∀ i, l.getD i 0 < 4611686018427387904 := fun i => by rw [Hl.out]; exact lim_lt v hv' i
  rw [hX4]
  obtain ⟨E, HE⟩ : ∃ E, Hid (E = limN (v + 5 * (X / 4))) := ⟨_, rfl⟩
  have hE5 : E.length = 5 := by rw [HE.out]; exact limN_length _
  have C1' := fun w => plus_one l 5 w hl5 hb (by decide)
  have C2' := fun w => plus_one l (5 * (X / 4)) w hl5 hb (by omega)
  have e0 : val5 l = v := by rw [Hl.out, val5_limN]
  rw [e0, ← Hm.out] at C1'
  rw [e0, ← HE.out] at C2'
  have C1 : Hid (∀ w, _) := C1'
  have C2 : Hid (∀ w, _) := C2'
  rw [← HE.out, ← Hl.out]
  have VN : IntKind.u64.wrap (5 * ((X : Int) / 4)) = ((5 * (X / 4) : Nat) : Int) := by rw [u64_small _ (by omega) (by omega)]; omega
  have g4 := index_lim m hm5
  rw [hXm] at g4
  clear HE Hl HX Hm hb hv hv' hX4 C1' C2' e0
  generalize 5 * (X / 4) = F at *
  have A0 : Hid (Lim ((w.alloc (.cells (v64 l) 35)).alloc (.cells #[.int .u64 0, .int .u64 0, .int .u64 0, .int .u64 0, .int .u64 0] 35)) w.heap.size l) := (Lim.new w l _ rfl).alloc _
  have A1 : Hid (Lim ((w.alloc (.cells (v64 l) 35)).alloc (.cells #[.int .u64 0, .int .u64 0, .int .u64 0, .int .u64 0, .int .u64 0] 35)) (w.heap.size + 1) (List.replicate 5 0)) := Lim.new' (w.alloc (.cells (v64 l) 35)) (List.replicate 5 0) _ (w.heap.size + 1) (by simp) rfl
  have hB : Below w.heap.size w ((w.alloc (.cells (v64 l) 35)).alloc (.cells #[.int .u64 0, .int .u64 0, .int .u64 0, .int .u64 0, .int .u64 0] 35)) := (below_new w _).alloc (by simp) _
  go_enter Tryd.func19, Tryd.ntmps19
  go_wp2_with (with_reducible refine wpList_loadLim rfl _ rfl w.heap.size l ?hx A0.out hl5 ?_)
  try (case hx => rfl)
  refine (C1.out _).mono ?_
  rintro e w1 ⟨rfl, hb1⟩
  have D0 : Hid (Lim w1 w.heap.size l) := A0.out.on hb1
  have D1 : Hid (Lim w1 (w.heap.size + 1) (List.replicate 5 0)) := A1.out.on hb1
  have hB1 := below_step hB (Nat.le_refl _) hb1
  clear A0 A1 hB hb1 C1
  go_wp2_with (with_reducible refine wpList_loadLim rfl _ rfl w.heap.size l ?hx D0.out hl5 ?_)
  try (case hx => rfl)
  refine (C2.out _).mono ?_
  rintro e w2 ⟨rfl, hb2⟩
  have E1 : Hid (Lim w2 (w.heap.size + 1) (List.replicate 5 0)) := D1.out.on hb2
  have hB2 := below_step hB1 (Nat.le_refl _) hb2
  clear D0 D1 hB1 hb2 C2
  go_wp2_with (with_reducible refine wpList_storeLim rfl _ _ rfl (w.heap.size + 1) (List.replicate 5 0) E ?hx2 ?hy E1.out rfl hE5 ?_)
  try (case hx2 => rfl)
  try (case hy => rfl)
  exact bodyPost_lim rfl (w.heap.size + 1) E rfl rfl (E1.out.setRow E) hE5 ⟨rfl, below_setRow hB2 (by omega) _⟩
end Go.Proofs.YtmegllddjlippaaDoor
