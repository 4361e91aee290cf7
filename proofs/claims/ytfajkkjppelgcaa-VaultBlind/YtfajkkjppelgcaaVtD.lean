/- The code's ideal way (layer 16): open; the real way; the sealer's own methods. -/
import Derived.Test.YtfajkkjppelgcaaVtC
import Derived.Test.YtfajkkjppelgcaaTabs
namespace Go.Proofs.Ytfajkkjppelgcaa
open Go.RowKit
set_option maxRecDepth 100000
set_option linter.unusedSimpArgs false
set_option linter.unusedSectionVars false
variable [Inhabited TabZ]

theorem cut_int (s : ByteArray) : max ((s.size : Int) - 16) 0 = (cutA s : Int) := by unfold cutA; omega


set_option maxHeartbeats 2000000 in
theorem iopen_arg (i : Nat) (key nonce bound sealed : ByteArray) (w : World) (h : ¬ MayA key nonce bound.size (cutA sealed)) (hs : bound.size + sealed.size ≤ 4503599627370496) :
    Calls Try.prog 28 #[.pointer (some ⟨i, 0, none⟩), .string key, .string nonce, .string bound, .string sealed] w fun e w' => e = .returned (.tuple #[.string ⟨#[]⟩, .int .i64 1]) ∧ Below w.heap.size w w' := by
  have hc : cutA sealed ≤ sealed.size := by unfold cutA; omega
  have C1 : Hid (∀ w, Calls Try.prog 31 #[.agg #[.string key, .string nonce, .string bound], .int .i64 (max ((sealed.size : Int) - 16) 0)] w fun e w' => e = .returned (.bool false) ∧ Below w.heap.size w w') := fun w => by
    rw [cut_int]
    exact fit_any key nonce bound (cutA sealed) w false (by omega) ⟨fun e => (by cases e), fun e => absurd e h⟩
  have hsz : sealed.size ≤ 4503599627370496 := by omega
  clear h hc hs
  go_enter Try.func28, Try.ntmps28
  go_wp2_with fail
  refine (C1.out _).mono ?_
  rintro e w1 ⟨rfl, hb1⟩
  have hB1 := below_step (below_new w _) (Nat.le_refl _) hb1
  have HB1 : Hid (Below w.heap.size w w1) := hB1
  clear hb1 C1 hB1
  go_wp2_with fail
  go_ret2
  exact ⟨rfl, HB1.out⟩


set_option maxHeartbeats 2000000 in
theorem iopen_none (i m N : Nat) (S key nonce bound sealed : ByteArray) (T : List (ByteArray × Value)) (w : World) (hI : IdlAt w i m S N T) (h : MayA key nonce bound.size (cutA sealed)) (hl : lookX T sealed = none) :
    Calls Try.prog 28 #[.pointer (some ⟨i, 0, none⟩), .string key, .string nonce, .string bound, .string sealed] w fun e w' => e = .returned (.tuple #[.string ⟨#[]⟩, .int .i64 70]) ∧ Below w.heap.size w w' := by
  obtain ⟨ENT, hE⟩ : ∃ E : Array Value, E = #[.string ⟨#[]⟩, .string ⟨#[]⟩, .string ⟨#[]⟩, .string ⟨#[]⟩] := ⟨_, rfl⟩
  have hc : cutA sealed ≤ sealed.size := by unfold cutA; omega
  have hsz : sealed.size ≤ 4503599627370496 := by have := h.2.2; unfold cutA at this; omega
  have C1 : Hid (∀ w, Calls Try.prog 31 #[.agg #[.string key, .string nonce, .string bound], .int .i64 (max ((sealed.size : Int) - 16) 0)] w fun e w' => e = .returned (.bool true) ∧ Below w.heap.size w w') := fun w => by
    rw [cut_int]
    exact fit_any key nonce bound (cutA sealed) w true (by have := h.2.2; omega) ⟨fun _ => h, fun _ => rfl⟩
  have HT : Hid (IdlAt w i m S N T) := hI
  clear h hc hI
  go_enter Try.func28, Try.ntmps28
  go_wp2_with fail
  refine (C1.out _).mono ?_
  rintro e w1 ⟨rfl, hb1⟩
  have hB1 := below_step (below_new w _) (Nat.le_refl _) hb1
  have HB1 : Hid (Below w.heap.size w w1) := hB1
  have V1 : Blk w1 64 w.heap.size #[.string key, .string nonce, .string bound] := (Blk.new w 64 #[.string key, .string nonce, .string bound]).on hb1
  have X1 : IdlAt w1 i m S N T := HT.out.on hB1
  have c2 : w1.cell? ⟨i, 2, none⟩ = some (.map (some m)) := X1.1.cell 2
  have hz : ∀ w, (zeroValue 67).run Try.prog w = .ok (.agg #[.string ⟨#[]⟩, .string ⟨#[]⟩, .string ⟨#[]⟩, .string ⟨#[]⟩]) w := fun w => by kernel_rfl
  have hrun := X1.2.look 36 67 Try.underlying36 _ hz sealed true
  rw [hl] at hrun
  have hgt : ¬ w1.heap.size = w.heap.size := by have := V1.lt; omega
  have v0 := (V1.alloc (.cells ENT 67)).cell 0
  have v1 := (V1.alloc (.cells ENT 67)).cell 1
  have v2 := (V1.alloc (.cells ENT 67)).cell 2
  clear hb1 C1 hB1 V1 X1 hz HT hl
  subst hE
  simp only [if_true, Option.getD_none, Option.isSome_none] at hrun
  go_wp2_with fail
  go_ret2
  exact ⟨rfl, HB1.out.alloc HB1.out.size _⟩

set_option maxHeartbeats 2000000 in
theorem iopen_other (i m N : Nat) (S key nonce bound sealed a b c d : ByteArray) (T : List (ByteArray × Value)) (w : World) (hI : IdlAt w i m S N T) (h : MayA key nonce bound.size (cutA sealed)) (hl : lookX T sealed = some (entV a b c d)) (hne : ¬ (a = key ∧ b = nonce ∧ c = bound)) :
    Calls Try.prog 28 #[.pointer (some ⟨i, 0, none⟩), .string key, .string nonce, .string bound, .string sealed] w fun e w' => e = .returned (.tuple #[.string ⟨#[]⟩, .int .i64 70]) ∧ Below w.heap.size w w' := by
  obtain ⟨ENT, hE⟩ : ∃ E : Array Value, E = #[.string a, .string b, .string c, .string d] := ⟨_, rfl⟩
  have hq : ∀ w, (binOp .neq 64 (.agg #[.string a, .string b, .string c]) (.agg #[.string key, .string nonce, .string bound])).run Try.prog w = .ok (.bool true) w := fun w => by
    rw [withNeq]
    have : (decide (a = key) && (decide (b = nonce) && decide (c = bound))) = false := by
      rw [← Bool.not_eq_true]
      simp only [Bool.and_eq_true, decide_eq_true_eq]
      exact hne
    rw [this]; rfl
  have hc : cutA sealed ≤ sealed.size := by unfold cutA; omega
  have hsz : sealed.size ≤ 4503599627370496 := by have := h.2.2; unfold cutA at this; omega
  have C1 : Hid (∀ w, Calls Try.prog 31 #[.agg #[.string key, .string nonce, .string bound], .int .i64 (max ((sealed.size : Int) - 16) 0)] w fun e w' => e = .returned (.bool true) ∧ Below w.heap.size w w') := fun w => by
    rw [cut_int]
    exact fit_any key nonce bound (cutA sealed) w true (by have := h.2.2; omega) ⟨fun _ => h, fun _ => rfl⟩
  have HT : Hid (IdlAt w i m S N T) := hI
  clear h hc hI
  go_enter Try.func28, Try.ntmps28
  go_wp2_with fail
  refine (C1.out _).mono ?_
  rintro e w1 ⟨rfl, hb1⟩
  have hB1 := below_step (below_new w _) (Nat.le_refl _) hb1
  have HB1 : Hid (Below w.heap.size w w1) := hB1
  have V1 : Blk w1 64 w.heap.size #[.string key, .string nonce, .string bound] := (Blk.new w 64 #[.string key, .string nonce, .string bound]).on hb1
  have X1 : IdlAt w1 i m S N T := HT.out.on hB1
  have c2 : w1.cell? ⟨i, 2, none⟩ = some (.map (some m)) := X1.1.cell 2
  have hz : ∀ w, (zeroValue 67).run Try.prog w = .ok (.agg #[.string ⟨#[]⟩, .string ⟨#[]⟩, .string ⟨#[]⟩, .string ⟨#[]⟩]) w := fun w => by kernel_rfl
  have hrun := X1.2.look 36 67 Try.underlying36 _ hz sealed true
  rw [hl] at hrun
  have hgt : ¬ w1.heap.size = w.heap.size := by have := V1.lt; omega
  have v0 := (V1.alloc (.cells ENT 67)).cell 0
  have v1 := (V1.alloc (.cells ENT 67)).cell 1
  have v2 := (V1.alloc (.cells ENT 67)).cell 2
  clear hb1 C1 hB1 V1 X1 hz HT hl
  subst hE
  unfold entV at hrun
  simp only [if_true, Option.getD_some, Option.isSome_some] at hrun
  go_wp2_with fail
  go_ret2
  exact ⟨rfl, HB1.out.alloc HB1.out.size _⟩

set_option maxHeartbeats 2000000 in
theorem iopen_yes (i m N : Nat) (S key nonce bound sealed d : ByteArray) (T : List (ByteArray × Value)) (w : World) (hI : IdlAt w i m S N T) (h : MayA key nonce bound.size (cutA sealed)) (hl : lookX T sealed = some (entV key nonce bound d)) :
    Calls Try.prog 28 #[.pointer (some ⟨i, 0, none⟩), .string key, .string nonce, .string bound, .string sealed] w fun e w' => e = .returned (.tuple #[.string d, .int .i64 0]) ∧ Below w.heap.size w w' := by
  obtain ⟨ENT, hE⟩ : ∃ E : Array Value, E = #[.string key, .string nonce, .string bound, .string d] := ⟨_, rfl⟩
  have hq : ∀ w, (binOp .neq 64 (.agg #[.string key, .string nonce, .string bound]) (.agg #[.string key, .string nonce, .string bound])).run Try.prog w = .ok (.bool false) w := fun w => by
    rw [withNeq]
    simp
  have hc : cutA sealed ≤ sealed.size := by unfold cutA; omega
  have hsz : sealed.size ≤ 4503599627370496 := by have := h.2.2; unfold cutA at this; omega
  have C1 : Hid (∀ w, Calls Try.prog 31 #[.agg #[.string key, .string nonce, .string bound], .int .i64 (max ((sealed.size : Int) - 16) 0)] w fun e w' => e = .returned (.bool true) ∧ Below w.heap.size w w') := fun w => by
    rw [cut_int]
    exact fit_any key nonce bound (cutA sealed) w true (by have := h.2.2; omega) ⟨fun _ => h, fun _ => rfl⟩
  have HT : Hid (IdlAt w i m S N T) := hI
  clear h hc hI
  go_enter Try.func28, Try.ntmps28
  go_wp2_with fail
  refine (C1.out _).mono ?_
  rintro e w1 ⟨rfl, hb1⟩
  have hB1 := below_step (below_new w _) (Nat.le_refl _) hb1
  have HB1 : Hid (Below w.heap.size w w1) := hB1
  have V1 : Blk w1 64 w.heap.size #[.string key, .string nonce, .string bound] := (Blk.new w 64 #[.string key, .string nonce, .string bound]).on hb1
  have X1 : IdlAt w1 i m S N T := HT.out.on hB1
  have c2 : w1.cell? ⟨i, 2, none⟩ = some (.map (some m)) := X1.1.cell 2
  have hz : ∀ w, (zeroValue 67).run Try.prog w = .ok (.agg #[.string ⟨#[]⟩, .string ⟨#[]⟩, .string ⟨#[]⟩, .string ⟨#[]⟩]) w := fun w => by kernel_rfl
  have hrun := X1.2.look 36 67 Try.underlying36 _ hz sealed true
  rw [hl] at hrun
  have hgt : ¬ w1.heap.size = w.heap.size := by have := V1.lt; omega
  have v0 := (V1.alloc (.cells ENT 67)).cell 0
  have v1 := (V1.alloc (.cells ENT 67)).cell 1
  have v2 := (V1.alloc (.cells ENT 67)).cell 2
  clear hb1 C1 hB1 V1 X1 hz HT hl
  subst hE
  unfold entV at hrun
  simp only [if_true, Option.getD_some, Option.isSome_some] at hrun
  go_wp2_with fail
  go_ret2
  exact ⟨rfl, HB1.out.alloc HB1.out.size _⟩

end Go.Proofs.Ytfajkkjppelgcaa
