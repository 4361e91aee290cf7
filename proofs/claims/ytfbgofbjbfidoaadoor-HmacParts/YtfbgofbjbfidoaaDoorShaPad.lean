import Derived.Test.YtfbgofbjbfidoaaDoorShaBlock
import Derived.Test.YtfbgofbjbfidoaaDoorShelf
namespace Go.Proofs.YtfbgofbjbfidoaaDoor
open Go.RowKit
set_option linter.unusedSimpArgs false

set_option maxHeartbeats 400000 in
theorem pad_low (n : Int) (w : World) (h : n < 0) :
    Calls Tryd.prog 18 #[.int .i64 n] w fun e w' => e = .returned (.tuple #[.string ⟨#[]⟩, .int .i64 1]) ∧ Below w.heap.size w w' := by
  go_enter Tryd.func18, Tryd.ntmps18
  go_wp2
  go_ret2
  exact ⟨rfl, Below.refl _ _⟩

set_option maxHeartbeats 400000 in
theorem pad_high (n : Int) (w : World) (h : 1125899906842624 < n) :
    Calls Tryd.prog 18 #[.int .i64 n] w fun e w' => e = .returned (.tuple #[.string ⟨#[]⟩, .int .i64 1]) ∧ Below w.heap.size w w' := by
  have h0 : decide (n < 0) = false := by simp; omega
  go_enter Tryd.func18, Tryd.ntmps18
  go_wp2
  go_ret2
  exact ⟨rfl, Below.refl _ _⟩

set_option maxHeartbeats 400000 in
theorem rpad_low (n : Int) (w : World) (h : n < 0) :
    Calls Tryd.prog 21 #[.int .i64 n] w fun e w' => e = .returned (.tuple #[.string ⟨#[]⟩, .int .i64 1]) ∧ Below w.heap.size w w' := by
  go_enter Tryd.func21, Tryd.ntmps21
  go_wp2
  go_ret2
  exact ⟨rfl, Below.refl _ _⟩

set_option maxHeartbeats 400000 in
theorem rpad_high (n : Int) (w : World) (h : 1125899906842624 < n) :
    Calls Tryd.prog 21 #[.int .i64 n] w fun e w' => e = .returned (.tuple #[.string ⟨#[]⟩, .int .i64 1]) ∧ Below w.heap.size w w' := by
  have h0 : decide (n < 0) = false := by simp; omega
  go_enter Tryd.func21, Tryd.ntmps21
  go_wp2
  go_ret2
  exact ⟨rfl, Below.refl _ _⟩

theorem repeat_any (c : Nat) (w : World) (hc : c ≤ 63) :
    Calls Tryd.prog 24 #[.string ⟨#[0]⟩, .int .i64 c] w fun e w' => e = .returned (.string ⟨(List.replicate c (0 : UInt8)).toArray⟩) ∧ Below w.heap.size w w' := by
  refine (Tryd.strings_Repeat ⟨#[0]⟩ c w (by omega) (by show 1 * c ≤ _; omega)).mono ?_
  rintro e w' ⟨rfl, hb⟩
  refine ⟨?_, hb⟩
  have := Lib.repeatL_replicate 0 1 c
  simp at this
  show Ending.returned (.string ⟨(Lib.repeatL [0] c).toArray⟩) = _
  rw [this]

theorem lenL_int (n : Nat) : putL [8 * (n : Int) / 4294967296, 8 * (n : Int)] bsh = lenL n := by
  unfold lenL
  rw [show 8 * (n : Int) / 4294967296 = ((8 * n / 4294967296 : Nat) : Int) by omega, show 8 * (n : Int) = ((8 * n : Nat) : Int) by omega]
theorem lenL_length (n : Nat) : (lenL n).length = 8 := by unfold lenL; rw [putL_length]; rfl
theorem lenL_size (n : Nat) : (⟨(lenL n).toArray⟩ : ByteArray).size = 8 := by
  show (lenL n).toArray.size = 8
  rw [List.size_toArray, lenL_length]
theorem pad_bytes (n : Nat) : (⟨#[128]⟩ : ByteArray) ++ ⟨Array.replicate (zerosN n) 0⟩ ++ ⟨(lenL n).toArray⟩ = padB n := by
  apply bytes_ext
  simp [padB, padL]

set_option maxHeartbeats 2000000 in
theorem pad_ok (n : Nat) (w : World) (hn : n ≤ 1125899906842624) :
    Calls Tryd.prog 18 #[.int .i64 (n : Int)] w fun e w' => e = .returned (.tuple #[.string (padB n), .int .i64 0]) ∧ Below w.heap.size w w' := by
  have h0 : decide ((n : Int) < 0) = false := by simp
  have h1 : decide ((1125899906842624 : Int) < (n : Int)) = false := by simp; omega
  have hz : zerosN n ≤ 63 := by unfold zerosN; omega
  go_enter Tryd.func18, Tryd.ntmps18
  go_wp2_with fail
  rw [show (-(((n : Int) + 1 + 8) % 64) % 64 : Int) = ((zerosN n : Nat) : Int) by unfold zerosN; omega]
  refine (repeat_any _ _ hz).mono ?_
  rintro e w1 ⟨rfl, hb1⟩
  go_wp2_with fail
  refine (putBig_any _ 2 _ [8 * (n : Int) / 4294967296, 8 * (n : Int)] _ (by omega) (ints_alloc _ _ _ 2 _ rfl rfl)).mono ?_
  rintro e w2 ⟨rfl, hb2⟩
  rw [lenL_int]
  obtain ⟨L, hL⟩ : ∃ L : ByteArray, L = ⟨(lenL n).toArray⟩ := ⟨_, rfl⟩
  have hs : L.size = 8 := by rw [hL]; exact lenL_size n
  have HL : Hid (⟨#[128]⟩ ++ ⟨Array.replicate (zerosN n) 0⟩ ++ L = padB n) := by show _ = _; rw [hL]; exact pad_bytes n
  rw [← hL]
  clear hL
  go_wp2_with fail
  rw [HL.out]
  go_ret2
  exact ⟨rfl, below_step (below_step hb1 (Nat.le_refl _) (below_new _ _)) (Nat.le_refl _) hb2⟩
end Go.Proofs.YtfbgofbjbfidoaaDoor
