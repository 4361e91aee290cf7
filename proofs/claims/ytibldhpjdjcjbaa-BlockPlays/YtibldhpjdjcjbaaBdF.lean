/- Layer 17: a block of one byte (the law's own filled). -/
import Derived.Test.YtibldhpjdjcjbaaZer
namespace Go.Proofs.Ytibldhpjdjcjbaa
open Go.RowKit
set_option maxRecDepth 100000
set_option linter.unusedSimpArgs false
set_option maxRecDepth 100000

def filledB (c : Nat) : ByteArray := ⟨(bytesOf 64 (fun _ => c)).toArray⟩
theorem filledB_size (c : Nat) : (filledB c).size = 64 := by
  unfold filledB
  show (bytesOf 64 (fun _ => c)).toArray.size = 64
  rw [List.size_toArray, bytesOf_length]
theorem filledB_zero : filledB 0 = zeroB 64 := by
  unfold filledB zeroB
  congr 2
theorem filledB_inj {c d : Nat} (hc : c < 256) (hd : d < 256) (h : filledB c = filledB d) : c = d := by
  have h1 : (bytesOf 64 (fun _ => c)).toArray.toList = (bytesOf 64 (fun _ => d)).toArray.toList := congrArg (fun b => b.data.toList) h
  rw [List.toList_toArray, List.toList_toArray] at h1
  have h2 := congrArg (fun l => l[0]?) h1
  unfold bytesOf at h2
  simp at h2
  have h3 := congrArg UInt8.toNat h2
  simp at h3
  omega
def fillF (c k i : Nat) : Nat := if i < k then c else 0
theorem fillF_set (c k : Nat) : (fun i => if i = k then c else fillF c k i) = fillF c (k + 1) := by
  funext i
  unfold fillF
  by_cases h : i = k
  · rw [if_pos h, if_pos (by omega)]
  · rw [if_neg h]
    by_cases h2 : i < k
    · rw [if_pos h2, if_pos (by omega)]
    · rw [if_neg h2, if_neg (by omega)]

set_option maxHeartbeats 4000000 in
theorem filled_any (c : Nat) (w : World) (hc : c < 256) : Calls Try.prog 11 #[.int .u8 (c : Int)] w fun e w' => e = .returned (.string (filledB c)) ∧ Below w.heap.size w w' := by
  have m1 := make_zeros 64 64 rfl (by decide) w
  have R0 : Hid (Row8 (w.alloc (.cells (zcells 64) 5)) w.heap.size 64 (fillF c 0)) := by
    have e : fillF c 0 = fun _ => 0 := by funext i; unfold fillF; rw [if_neg (by omega)]
    rw [e]; exact row_zeros 64 w
  have HB0 : Hid (Below w.heap.size w (w.alloc (.cells (zcells 64) 5))) := below_new w _
  go_enter Try.func11, Try.ntmps11
  go_wp2_with fail
  go_loopw [4] (fun v wr => ∃ k : Nat, k ≤ 64 ∧ v = .int .i64 k ∧ Hid (Row8 wr w.heap.size 64 (fillF c k)) ∧ Hid (Below w.heap.size w wr)) (fun v _ => 64 - (intOf v).toNat)
  case atStart => exact ⟨0, Nat.zero_le _, rfl, R0, HB0⟩
  case round =>
    obtain ⟨k, hk, rfl, HR, HB⟩ := hrel
    clear R0 HB0 m1
    by_cases hlt : k < 64
    · have b0 : (k : Int) < 64 := by omega
      have c0 := HR.out.cell k hlt
      have f0 := HR.out.free k hlt
      have R1 := HR.out.set k c
      rw [fillF_set] at R1
      have HR1 : Hid (Row8 (wr.setCell ⟨w.heap.size, k, none⟩ (.int .u8 (c : Int))) w.heap.size 64 (fillF c (k + 1))) := R1
      have HB1 : Hid (Below w.heap.size w (wr.setCell ⟨w.heap.size, k, none⟩ (.int .u8 (c : Int)))) := HB.out.setCell (p := ⟨w.heap.size, k, none⟩) (Nat.le_refl _) _
      clear R1 HR HB
      go_wp2_with fail
      refine ⟨⟨k + 1, by omega, by go_num, HR1, HB1⟩, ?_⟩
      simp [intOf]; omega
    · obtain rfl : k = 64 := by omega
      have R2 : Row8 wr w.heap.size 64 (fillF c 64) := HR.out
      have hcv := R2.conv (P := Try.prog) (fun i => by unfold fillF; split <;> omega) 64 64 (Nat.le_refl _) 57 9 Try.underlying57 Try.underlying5 Try.underlying9
      have e2 : bytesOf 64 (fillF c 64) = bytesOf 64 (fun _ => c) := by
        unfold bytesOf
        apply List.map_congr_left
        intro i hi
        have := List.mem_range.1 hi
        unfold fillF
        rw [if_pos this]
      rw [e2] at hcv
      have hcv' : (convert 57 9 (.slice (some ⟨w.heap.size, 0, none⟩) 64 64)).run Try.prog wr = .ok (.string (filledB c)) wr := hcv
      clear hcv R2
      go_wp2_with fail
      go_ret
      exact ⟨rfl, HB.out⟩
end Go.Proofs.Ytibldhpjdjcjbaa
