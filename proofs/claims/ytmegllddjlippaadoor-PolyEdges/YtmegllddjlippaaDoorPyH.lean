/- The program's Mac: plain facts. -/
import Derived.Test.YtmegllddjlippaaDoorPyG
namespace Go.Proofs.YtmegllddjlippaaDoor
open Go.RowKit
set_option linter.unusedSimpArgs false

/-- A whole array of limbs read, and written, in a region that draws its order. -/
theorem exec_loadLim {o : Oper} {ρ : Operand → Value} {w : World} (x : Operand) (ho : o.op = .load 35 x) (g : Nat) (l : List Nat) (hx : ρ x = .pointer (some ⟨g, 0, none⟩)) (h : Lim w g l) (hl : l.length = 5) :
    (execOp ρ o).run Tryd.prog w = .ok (.value (.agg (v64 l))) w := by
  unfold execOp
  simp only [ho, hx, Instr.loadAt, Instr.sureAddr, Sem.run_bind, Sem.run_pure, Result.andThen_ok, run_loadBlk 35 g (v64 l) h 5 33 Tryd.underlying35 (Lim.num hl)]
theorem step_storeLim {ops : Array Oper} {o : Oper} {a : Act} {w : World} {K' : Act → World → Prop} {Q : Exit → Act → World → Prop} {E : Prop} (hgd : o.guard = none) (hd : o.dst = none) (x y : Operand) (ho : o.op = .store 35 x y) (g : Nat) (l l' : List Nat)
    (hx : a.eval x = .pointer (some ⟨g, 0, none⟩)) (hy : a.eval y = .agg (v64 l')) (h : Lim w g l) (hl : l.length = 5) (hl' : l'.length = 5) (hk : K' (a.put none undef) (w.setRow g (v64 l'))) :
    if Region.wanted o (yielded ops a.tmps) = true then Oper.wp Tryd.prog o a w K' Q else E := by
  rw [if_pos (by simp [Region.wanted, hgd])]
  unfold Oper.wp execOp
  have := run_storeVar_row (P := Tryd.prog) w g 35 35 (v64 l) (v64 l') h (Lim.num hl') (by rw [v64_size, v64_size, hl, hl']) (v64_one l')
  simp only [ho, hx, hy, Instr.storeAt, Instr.sureAddr, Sem.run_bind, Sem.run_pure, Result.andThen_ok, this]
  show K' (a.put o.dst _) _
  rw [hd]; exact hk

theorem limb_clamp (f : Nat → Nat) (hf : ∀ i, f i < 256) (i : Nat) (hi : i < 4) :
    limF (valF (clampF f) 16) i = clampF f (4 * i + 3) * 16777216 + clampF f (4 * i + 2) * 65536 + clampF f (4 * i + 1) * 256 + clampF f (4 * i) := by
  have h := four_digits (valF (clampF f) 16) i
  rw [← dig_of (clampF f) 16 (4 * i + 3) (fun i _ => clampF_lt f hf i) (by omega), ← dig_of (clampF f) 16 (4 * i + 2) (fun i _ => clampF_lt f hf i) (by omega), ← dig_of (clampF f) 16 (4 * i + 1) (fun i _ => clampF_lt f hf i) (by omega), ← dig_of (clampF f) 16 (4 * i) (fun i _ => clampF_lt f hf i) (by omega)] at h
  unfold limF
  rw [if_pos hi, ← h]
theorem clamped_N (key : ByteArray) : Clamped (clampN key) := by
  have hf := bt_lt key
  have hlt : clampN key < 256 ^ 16 := valF_lt _ _ (fun i _ => clampF_lt _ hf i)
  have h4 : ∀ i, ¬ i < 4 → limF (clampN key) i = 0 := fun i hi => by
    unfold limF; rw [if_neg hi]; exact Nat.div_eq_of_lt hlt
  refine ⟨fun i => ?_, h4 4 (by decide), ?_, ?_, ?_⟩
  · by_cases hi : i < 4
    · have h := limb_clamp (bt key) hf i hi
      have h3 : clampF (bt key) (4 * i + 3) < 16 := by
        unfold clampF; rw [if_pos (by omega)]; omega
      have e2 := clampF_lt _ hf (4 * i + 2)
      have e1 := clampF_lt _ hf (4 * i + 1)
      have e0 := clampF_lt _ hf (4 * i)
      show limF (valF (clampF (bt key)) 16) i ≤ _
      omega
    · rw [h4 i hi]; exact Nat.zero_le _
  all_goals
    show limF (valF (clampF (bt key)) 16) _ % 4 = 0
    rw [limb_clamp (bt key) hf _ (by decide)]
    have h0 : ∀ i, 0 < i → clampF (bt key) (4 * i) % 4 = 0 := fun i hi => by
      unfold clampF; rw [if_neg (by omega), if_pos (by omega)]; omega
  · have := h0 1 (by decide); omega
  · have := h0 2 (by decide); omega
  · have := h0 3 (by decide); omega
theorem half_num (key : ByteArray) (hk : key.size = 32) : numB (clampB (key.extract 0 16)) = clampN key := by
  unfold numB; rw [clampB_size]; exact clampN_of key hk
theorem second_num (key : ByteArray) (hk : key.size = 32) : numB (key.extract 16 32) = valF (fun j => bt key (16 + j)) 16 := by
  unfold numB; rw [ByteArray.size_extract, hk]; exact second_of key hk
theorem block_num (s : ByteArray) (k e : Nat) (he : e = 16 * k + cutLen s k) (hl : e ≤ s.size) : numB (s.extract (16 * k) e ++ ⟨#[1]⟩) = chunkN s k := by
  have hz : (s.extract (16 * k) e).size = cutLen s k := by rw [ByteArray.size_extract]; omega
  unfold numB
  rw [ByteArray.size_append, hz]
  show valF _ (cutLen s k) + _ * 256 ^ cutLen s k = _
  rw [valF_congr _ (bt (s.extract (16 * k) e)) (cutLen s k) (fun i hi => bt_append_left _ _ _ (by rw [hz]; exact hi))]
  have h1 := bt_append_right (s.extract (16 * k) e) ⟨#[1]⟩ 0
  rw [hz, Nat.add_zero] at h1
  rw [h1, show bt ⟨#[1]⟩ 0 = 1 from rfl, Nat.one_mul]
  exact chunk_of s k e he hl
theorem acc_step (A n r acc : Nat) (h : A % pN = acc) : (A + n) * r % pN = (acc + n) * r % pN := by
  rw [← h, Nat.mul_mod, ← Nat.mod_add_mod, ← Nat.mul_mod]
theorem low_congr (a b : Nat) (h : a % 2 ^ 130 = b % 2 ^ 130) : lowB a = lowB b := by
  unfold lowB
  rw [bytesOf_congr 16 (fun i => a / 256 ^ i % 256) (fun i => b / 256 ^ i % 256) (fun i hi => by
    show a / 256 ^ i % 256 = b / 256 ^ i % 256
    rw [← low_digit a i hi, ← low_digit b i hi, h])]
theorem tag_low (key s : ByteArray) (A : Nat) (hA : A < 2 ^ 130 + 2 ^ 34) (h : A % pN = accN s (clampN key) ((s.size + 15) / 16)) :
    lowB (A + 5 * ((A + 5) / 2 ^ 130) + valF (fun j => bt key (16 + j)) 16) = tagB key s := by
  have e : tagB key s = lowB (accN s (clampN key) ((s.size + 15) / 16) + valF (fun j => bt key (16 + j)) 16) := rfl
  rw [e]
  apply low_congr
  rw [Nat.add_mod, rest_mod A hA, h, ← Nat.mod_eq_of_lt (Nat.lt_trans (accN_lt s (clampN key) ((s.size + 15) / 16)) (show pN < 2 ^ 130 by decide)), ← Nat.add_mod, Nat.mod_eq_of_lt (Nat.lt_trans (accN_lt s (clampN key) ((s.size + 15) / 16)) (show pN < 2 ^ 130 by decide))]
theorem sum_lims (A n : Nat) (hA : A < 2 ^ 130 + 2 ^ 34) (hn : n < 2 * 256 ^ 16) : (∀ i, limF (A + n) i ≤ 4294967295) ∧ limF (A + n) 4 ≤ 15 := by
  have h4 : (A + n) / 340282366920938463463374607431768211456 ≤ 15 := by omega
  refine ⟨fun i => ?_, ?_⟩
  · unfold limF
    split
    · have := Nat.mod_lt ((A + n) / 4294967296 ^ i) (show 0 < 4294967296 by decide); omega
    · omega
  · rw [limF_4]; exact h4

set_option maxHeartbeats 1000000 in
theorem mac_no (key s : ByteArray) (w : World) (h : ¬ (key.size = 32 ∧ s.size ≤ 65536)) :
    Calls Tryd.prog 9 #[.string key, .string s] w fun e w' => e = .returned (.tuple #[.string ⟨#[]⟩, .int .i64 1]) ∧ Below w.heap.size w w' := by
  by_cases h1 : key.size = 32
  · have g0 : (((key.size : Int) != 32)) = false := by rw [bne_eq_false_iff_eq]; omega
    have g1 : decide ((65536 : Int) < (s.size : Int)) = true := by simp; omega
    clear h
    go_enter Tryd.func9, Tryd.ntmps9
    go_wp2
    go_ret2
    exact ⟨rfl, Below.refl _ _⟩
  · have g0 : (((key.size : Int) != 32)) = true := by rw [bne_iff_ne]; omega
    clear h
    go_enter Tryd.func9, Tryd.ntmps9
    go_wp2
    go_ret2
    exact ⟨rfl, Below.refl _ _⟩
end Go.Proofs.YtmegllddjlippaaDoor
