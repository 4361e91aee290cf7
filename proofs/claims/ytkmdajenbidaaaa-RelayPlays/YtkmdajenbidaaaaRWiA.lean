/- Layer 19, the document's: frames; number, Light. -/
import Derived.Test.YtkmdajenbidaaaaR9
import Derived.Test.YtkmdajenbidaaaaBA
namespace Go.Proofs.Ytkmdajenbidaaaa
open Go.RowKit
set_option maxRecDepth 100000
set_option linter.unusedSimpArgs false
set_option linter.unusedVariables false
set_option maxRecDepth 100000

/-- A frame's items: Seq, Epoch, Blob. -/
def itL (l : List (Int × Int × ByteArray)) (i : Nat) : Int × Int × ByteArray := l.getD i (0, 0, ByteArray.empty)
def ItsAt (w : World) (a : Option Addr) (n : Nat) (l : List (Int × Int × ByteArray)) : Prop :=
  l.length = n ∧ (n = 0 ∨ ∃ b off, a = some ⟨b, off, none⟩ ∧ ∀ i, i < n → w.cell? ⟨b, off + i * 3, none⟩ = some (.int .i64 (itL l i).1) ∧ w.cell? ⟨b, off + i * 3 + 1, none⟩ = some (.int .i64 (itL l i).2.1) ∧ w.cell? ⟨b, off + i * 3 + 2, none⟩ = some (.string (itL l i).2.2))
theorem ItsAt.below {w w' : World} {a : Option Addr} {n : Nat} {l : List (Int × Int × ByteArray)} (h : ItsAt w a n l) (hb : Below w.heap.size w w') : ItsAt w' a n l := by
  refine ⟨h.1, h.2.imp id (fun ⟨b, off, e, hc⟩ => ⟨b, off, e, fun i hi => ?_⟩)⟩
  obtain ⟨h0, h1, h2⟩ := hc i hi
  exact ⟨by rw [hb.cell (World.block_lt_of_cell? w _ h0)]; exact h0, by rw [hb.cell (World.block_lt_of_cell? w _ h1)]; exact h1, by rw [hb.cell (World.block_lt_of_cell? w _ h2)]; exact h2⟩
/-- A frame: Kind, Group, Seq, Epoch, Max, Blob, Items, Err. -/
abbrev FrmT := Int × Int × Int × Int × Int × ByteArray × List (Int × Int × ByteArray) × Int
def frmA (F : FrmT) (a : Option Addr) (c : Nat) : Array Value := #[.int .i64 F.1, .int .i64 F.2.1, .int .i64 F.2.2.1, .int .i64 F.2.2.2.1, .int .i64 F.2.2.2.2.1, .string F.2.2.2.2.2.1, .slice a F.2.2.2.2.2.2.1.length c, .int .i64 F.2.2.2.2.2.2.2]

set_option maxHeartbeats 1000000 in
theorem rnumber19_any (n : Int) (w : World) : Calls Try.prog 35 #[.int .i64 n] w fun e w' => e = .returned (.bool (decide (0 ≤ n ∧ n ≤ 1099511627775))) ∧ w' = w := by
  by_cases h0 : 0 ≤ n
  · by_cases h1 : n ≤ 1099511627775
    · rw [decide_eq_true ⟨h0, h1⟩]
      go_enter Try.func35, Try.ntmps35
      go_wp2
      go_ret
      exact ⟨rfl, rfl⟩
    · rw [decide_eq_false (fun h => h1 h.2)]
      go_enter Try.func35, Try.ntmps35
      go_wp2
      go_ret
      exact ⟨rfl, rfl⟩
  · rw [decide_eq_false (fun h => h0 h.1)]
    go_enter Try.func35, Try.ntmps35
    go_wp2
    go_ret
    exact ⟨rfl, rfl⟩

/-- Has a frame few bytes? -/
def LightF (bl : ByteArray) (it : List (Int × Int × ByteArray)) : Prop := (∀ i, i < it.length → i < 40 → (itL it i).2.2.size ≤ 200) ∧ bl.size ≤ 600 ∧ it.length ≤ 40

set_option maxHeartbeats 2000000 in
theorem rlight19_any (F : FrmT) (a : Option Addr) (c : Nat) (w : World) (D : Bool) (hD : D = true ↔ LightF F.2.2.2.2.2.1 F.2.2.2.2.2.2.1) (hI : ItsAt w a F.2.2.2.2.2.2.1.length F.2.2.2.2.2.2.1) (hl : F.2.2.2.2.2.2.1.length ≤ c) (hc : c ≤ 9223372036854775807) (hz : ∀ i, (itL F.2.2.2.2.2.2.1 i).2.2.size ≤ 9223372036854775807) (hb : F.2.2.2.2.2.1.size ≤ 9223372036854775807) :
    Calls Try.prog 7 #[.agg (frmA F a c)] w fun e w' => e = .returned (.bool D) ∧ Below w.heap.size w w' := by
  obtain ⟨K1, G1, S1, E1, M1, bl, it, er⟩ := F
  simp only [frmA] at hI hl hz hb hD ⊢
  have HD : Hid (D = true ↔ LightF bl it) := hD
  clear hD
  obtain ⟨n, hn⟩ : ∃ n, it.length = n := ⟨_, rfl⟩
  rw [hn] at hI hl
  have HL : Hid (it.length = n) := hn
  have HZ : Hid (∀ i, (itL it i).2.2.size ≤ 9223372036854775807) := hz
  obtain ⟨w0, hw0⟩ : ∃ w0, w.alloc (.cells #[.int .i64 K1, .int .i64 G1, .int .i64 S1, .int .i64 E1, .int .i64 M1, .string bl, .slice a n c, .int .i64 er] 39) = w0 := ⟨_, rfl⟩
  have HB0 : Hid (Below w.heap.size w w0) := by rw [← hw0]; exact below_new w _
  have HF0 : Hid (Blk w0 39 w.heap.size #[.int .i64 K1, .int .i64 G1, .int .i64 S1, .int .i64 E1, .int .i64 M1, .string bl, .slice a n c, .int .i64 er]) := by rw [← hw0]; exact Blk.new _ _ _
  have HI : Hid (ItsAt w0 a n it) := hI.below HB0.out
  rw [hn]
  clear hI hn hz
  have HW0 : Hid (w.alloc (.cells #[.int .i64 K1, .int .i64 G1, .int .i64 S1, .int .i64 E1, .int .i64 M1, .string bl, .slice a n c, .int .i64 er] 39) = w0) := hw0
  clear hw0
  go_enter Try.func7, Try.ntmps7
  go_wp2_with fail
  rw [HW0.out]
  have c5 : w0.cell? ⟨w.heap.size, 5, none⟩ = some (.string bl) := HF0.out.cell 5
  have c6 : w0.cell? ⟨w.heap.size, 6, none⟩ = some (.slice a n c) := HF0.out.cell 6
  go_loopw [3] (fun v wr => ∃ k : Nat, k ≤ n ∧ k ≤ 40 ∧ v = .int .i64 k ∧ wr = w0 ∧ Hid (∀ i, i < k → (itL it i).2.2.size ≤ 200)) (fun v _ => n - (intOf v).toNat)
  case atStart => exact ⟨0, Nat.zero_le _, Nat.zero_le _, rfl, rfl, fun i h => absurd h (Nat.not_lt_zero _)⟩
  case round =>
    obtain ⟨k, hk, hk4, rfl, rfl, HK⟩ := hrel
    by_cases hlt : k < n ∧ k < 40
    · obtain ⟨hlt, hlt4⟩ := hlt
      have d0 : (k : Int) < (n : Int) := by omega
      have d1 : (k : Int) < 40 := by omega
      obtain ⟨lb, off, rfl, hcl⟩ : ∃ lb off, a = some ⟨lb, off, none⟩ ∧ ∀ i, i < n → wr.cell? ⟨lb, off + i * 3, none⟩ = some (.int .i64 (itL it i).1) ∧ wr.cell? ⟨lb, off + i * 3 + 1, none⟩ = some (.int .i64 (itL it i).2.1) ∧ wr.cell? ⟨lb, off + i * 3 + 2, none⟩ = some (.string (itL it i).2.2) := by
        rcases HI.out.2 with h | h
        · omega
        · exact h
      have k2 := (hcl k hlt).2.2
      have hz1 := HZ.out k
      obtain ⟨t, ht⟩ : ∃ t, (itL it k).2.2 = t := ⟨_, rfl⟩
      rw [ht] at k2 hz1
      have Ht : Hid ((itL it k).2.2 = t) := ht
      clear hcl ht
      by_cases h2 : 200 < t.size
      · have s0 : (200 : Int) < (t.size : Int) := by omega
        obtain rfl : D = false := Bool.eq_false_iff.2 (fun e => by
          have h3 := (HD.out.1 e).1 k (by rw [HL.out]; exact hlt) hlt4
          rw [Ht.out] at h3
          omega)
        go_wp2_with fail
        go_ret
        exact ⟨rfl, HB0.out⟩
      · have s0 : ¬ ((200 : Int) < (t.size : Int)) := by omega
        go_wp2_with fail
        refine ⟨⟨k + 1, by omega, by omega, by go_num, trivial, fun i hi => ?_⟩, ?_⟩
        · by_cases e : i = k
          · rw [e, Ht.out]; omega
          · exact HK.out i (by omega)
        · simp [intOf]; omega
    · have HE : Hid (∀ i, i < n → i < 40 → (itL it i).2.2.size ≤ 200) := fun i h1 h2 => HK.out i (by omega)
      by_cases hb6 : bl.size ≤ 600
      · have s0 : (bl.size : Int) ≤ 600 := by omega
        by_cases hn4 : n ≤ 40
        · have s1 : (n : Int) ≤ 40 := by omega
          obtain rfl : D = true := HD.out.2 ⟨fun i h1 h2 => HE.out i (by rw [← HL.out]; exact h1) h2, hb6, by rw [HL.out]; exact hn4⟩
          have d0 : ¬ ((k : Int) < (n : Int)) := by omega
          go_wp2_with fail
          go_ret
          exact ⟨rfl, HB0.out⟩
        · have s1 : ¬ ((n : Int) ≤ 40) := by omega
          obtain rfl : D = false := Bool.eq_false_iff.2 (fun e => hn4 (by rw [← HL.out]; exact (HD.out.1 e).2.2))
          have d0 : (k : Int) < (n : Int) := by omega
          have d1 : ¬ ((k : Int) < 40) := by omega
          go_wp2_with fail
          go_ret
          exact ⟨rfl, HB0.out⟩
      · have s0 : ¬ ((bl.size : Int) ≤ 600) := by omega
        obtain rfl : D = false := Bool.eq_false_iff.2 (fun e => hb6 (HD.out.1 e).2.1)
        by_cases hlt2 : k < n
        · have d0 : (k : Int) < (n : Int) := by omega
          have d1 : ¬ ((k : Int) < 40) := by omega
          go_wp2_with fail
          go_ret
          exact ⟨rfl, HB0.out⟩
        · have d0 : ¬ ((k : Int) < (n : Int)) := by omega
          go_wp2_with fail
          go_ret
          exact ⟨rfl, HB0.out⟩

end Go.Proofs.Ytkmdajenbidaaaa
