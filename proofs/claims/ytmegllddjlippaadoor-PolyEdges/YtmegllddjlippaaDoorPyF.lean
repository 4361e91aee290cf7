/- The program's put. -/
import Derived.Test.YtmegllddjlippaaDoorPyE
namespace Go.Proofs.YtmegllddjlippaaDoor
open Go.RowKit
set_option linter.unusedSimpArgs false

/-- A number's lowest 128 bits as bytes. -/
def lowB (v : Nat) : ByteArray := ⟨(bytesOf 16 (fun i => v / 256 ^ i % 256)).toArray⟩
theorem byte_of (x k : Nat) (hk : k < 4) : x % 4294967296 / 256 ^ k % 256 = x / 256 ^ k % 256 := by
  rcases (show k = 0 ∨ k = 1 ∨ k = 2 ∨ k = 3 by omega) with h | h | h | h <;> subst h <;> simp only [Nat.pow_zero, Nat.pow_one, Nat.reducePow] <;> omega
theorem put_lim (v : Nat) : (⟨(putL (wT (limF v) 4) ssh).toArray⟩ : ByteArray) = lowB v := by
  unfold putL lowB
  rw [wT_length]
  rw [bytesOf_congr (4 * 4) (pb (wT (limF v) 4) ssh) (fun i => v / 256 ^ i % 256) (fun j hj => ?_)]
  have h := pb_int (wT (limF v) 4) ssh j
  rw [wT_getD _ _ _ (show j / 4 < 4 by omega)] at h
  have e1 : ((2 ^ ssh j : Nat) : Int) = ((256 ^ (j % 4) : Nat) : Int) := by
    unfold ssh; rw [Nat.pow_mul]
  rw [e1] at h
  have e2 : pb (wT (limF v) 4) ssh j = limF v (j / 4) / 256 ^ (j % 4) % 256 := by
    have : ((pb (wT (limF v) 4) ssh j : Nat) : Int) = ((limF v (j / 4) / 256 ^ (j % 4) % 256 : Nat) : Int) := by
      rw [h]; simp
    exact_mod_cast this
  rw [e2]
  unfold limF
  rw [if_pos (by omega), byte_of _ _ (by omega), Nat.div_div_eq_div_mul, show (4294967296 : Nat) ^ (j / 4) * 256 ^ (j % 4) = 256 ^ j by
    rw [show (4294967296 : Nat) = 256 ^ 4 by decide, ← Nat.pow_mul, ← Nat.pow_add, show 4 * (j / 4) + j % 4 = j by omega]]

set_option maxRecDepth 100000 in
set_option maxHeartbeats 4000000 in
theorem put_any (v : Nat) (w : World) :
    Calls Tryd.prog 18 #[.agg (v64 (limN v))] w fun e w' => e = .returned (.string (lowB v)) ∧ Below w.heap.size w w' := by
  obtain ⟨f, Hf⟩ : ∃ f, Hid (f = limF v) := ⟨_, rfl⟩
  obtain ⟨E, HE⟩ : ∃ E, Hid (E = lowB v) := ⟨_, rfl⟩
  have HL : Hid (∀ i, i < 4 → f i < 4294967296) := by
    show ∀ i, _
    intro i hi
    rw [Hf.out]; unfold limF; rw [if_pos hi]; exact Nat.mod_lt _ (by decide)
  have HP : Hid ((⟨(putL (wT f 4) ssh).toArray⟩ : ByteArray) = E) := by show _ = _; rw [Hf.out, HE.out]; exact put_lim v
  obtain ⟨l, Hl⟩ : ∃ l, Hid (l = limN v) := ⟨_, rfl⟩
  have hl5 : l.length = 5 := by rw [Hl.out]; exact limN_length _
  have Hlf : Hid (∀ i, i < 5 → l.getD i 0 = f i) := by show ∀ i, _; rw [Hl.out, Hf.out]; exact limN_getD v
  rw [← HE.out, ← Hl.out]
  obtain ⟨i0, hi, hz0, hz1, hz2⟩ := info_parts Tryd.info3
  clear HE Hf Hl
  generalize hh : w.heap.size = h at *
  have A0 : Hid (Lim (w.alloc (.cells (v64 l) 35)) h l) := Lim.new' w l _ h hh rfl
  have AB : Below h w (w.alloc (.cells (v64 l) 35)) := by rw [← hh]; exact below_new w _
  have hsz : (w.alloc (.cells (v64 l) 35)).heap.size = h + 1 := by simp [hh]
  go_enter Tryd.func18, Tryd.ntmps18
  go_wp2_with (at_make; refine wpList_make_full _ rfl _ _ 40 rfl (h + 1) 3 i0 (.int .i64 0) 1 Tryd.underlying40 hi hz0 hz1 _ _ _ _ 4 rfl rfl ?b4 ?b5 ?b1 ?b2 ?b3 ?_)
  case b1 => rw [hz2]; omega
  case b2 => unfold maxLen; omega
  case b3 => omega
  case b4 => first | omega | rfl
  case b5 => first | omega | rfl
  intro w1 hown0 hgrow
  have hown : Own w1 (h + 1) 3 .i64 (h + 1) 4 (wT (cutN f 0) 4) := Own.made' _ (fun i _ => by unfold cutN; rw [if_neg (by omega)]; rfl) hown0
  have hb1 : Below (h + 1) (w.alloc (.cells (v64 l) 35)) w1 := (Below.refl _ _).grown hgrow (by rw [hsz]; exact Nat.le_refl _) (fun k hk => by cases hk)
  have hB1 : Below h w w1 := AB.trans (hb1.mono (by omega))
  have D0 : Hid (Lim w1 h l) := A0.out.below hb1 (by omega)
  clear hown0 hgrow hi hz0 hz1 hz2 A0 AB hb1 hsz
  go_wp2
  go_loopw [8] (fun i wr => ∃ k : Nat, k ≤ 4 ∧ i = .int .i64 k ∧ Own wr (h + 1) 3 .i64 (h + 1) 4 (wT (cutN f k) 4) ∧ Hid (Lim wr h l) ∧ Below h w wr) (fun i _ => 4 - (intOf i).toNat)
  case atStart => exact ⟨0, Nat.zero_le _, rfl, hown, D0, hB1⟩
  case round =>
    clear hown D0 hB1
    obtain ⟨k, hk, rfl, hown, D0, hbl⟩ := hrel
    by_cases hlt : k < 4
    · have c0 := D0.out.cell k (by omega)
      rw [Hlf.out k (by omega)] at c0
      have lX := HL.out k hlt
      have c2 := hown.cell k hlt
      have f2 := hown.free k
      have HO := hown.set k ((f k : Nat) : Int)
      rw [wT_cut_set] at HO
      have D0' : Hid (Lim (wr.setCell ⟨h + 1, k, none⟩ (.int .i64 ((f k : Nat) : Int))) h l) := D0.out.other _ (by simp) _
      have hbl' := hbl.setCell (p := ⟨h + 1, k, none⟩) (by simp) (.int .i64 ((f k : Nat) : Int))
      generalize hX : f k = X at c0 lX HO D0' hbl'
      have b0 : (k : Int) < 4 := by omega
      have b1 : (k : Int) < 5 := by omega
      clear hown D0 hbl hX
      go_wp2
      go_roundw
      case rel => exact ⟨k + 1, by omega, by go_num, HO, D0', hbl'⟩
      case measure => simp [intOf]; omega
    · have hk4 : k = 4 := by omega
      subst hk4
      rw [wT_cut_all] at hown
      have CP : Hid (∀ w, IntsAt w .i64 (some ⟨h + 1, 0, none⟩) 4 (wT f 4) → _) := fun w hI => putSmall_any (some ⟨h + 1, 0, none⟩) 4 4 (wT f 4) w (by omega) hI
      rw [HP.out] at CP
      have HI : Hid (IntsAt wr .i64 (some ⟨h + 1, 0, none⟩) 4 (wT f 4)) := hown.ints
      clear hown D0
      go_wp2_with fail
      refine (CP.out _ HI.out).mono ?_
      rintro e w7 ⟨rfl, hb7⟩
      have hB7 := below_step hbl (by have := hbl.size; omega) hb7
      clear hb7 CP
      go_wp2_with fail
      go_ret
      exact ⟨rfl, hB7⟩
end Go.Proofs.YtmegllddjlippaaDoor
