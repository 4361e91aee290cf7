/- light, one. -/
import Derived.Test.YtnhdobgkfhgkbaaDoorRHkExp
import Derived.Test.YtnhdobgkfhgkbaaDoorHkKern
namespace Go.Proofs.YtnhdobgkfhgkbaaDoor
open Go.RowKit
set_option linter.unusedSimpArgs false

set_option maxHeartbeats 4000000 in
theorem light_yes (g n : Nat) (f : Nat → ByteArray) (w : World) (hn : n ≤ 8) (hc : ∀ i, i < n → w.cell? ⟨g, i, none⟩ = some (.string (f i))) (hs : ∀ i, i < n → (f i).size ≤ 512) :
    Calls Tryd.prog 8 #[.slice (some ⟨g, 0, none⟩) n n] w fun e w' => e = .returned (.bool true) ∧ Below w.heap.size w w' := by
  have HC : Hid (∀ i, i < n → w.cell? ⟨g, i, none⟩ = some (.string (f i))) := hc
  have HS : Hid (∀ i, i < n → (f i).size ≤ 512) := hs
  clear hc hs
  go_enter Tryd.func8, Tryd.ntmps8
  go_wp2
  go_loopw [3] (fun i wr => ∃ k : Nat, k ≤ n ∧ i = .int .i64 k ∧ Below w.heap.size w wr) (fun i _ => n - (intOf i).toNat)
  case atStart => exact ⟨0, Nat.zero_le _, rfl, Below.refl _ _⟩
  case round =>
    obtain ⟨k, hk, rfl, hbl⟩ := hrel
    by_cases hlt : k < n
    · have h1 := HC.out k hlt
      have hblk := World.block_lt_of_cell? w _ h1
      have hcc : wr.cell? ⟨g, k, none⟩ = some (.string (f k)) := by rw [hbl.cell (p := ⟨g, k, none⟩) hblk]; exact h1
      have h2 := HS.out k hlt
      have g0 : decide ((512 : Int) < ((f k).size : Int)) = false := by simp; omega
      clear h1 h2
      generalize f k = x at *
      go_wp2
      go_roundw
      case rel => exact ⟨k + 1, by omega, by go_num, hbl⟩
      case measure => simp [intOf]; omega
    · have hk' : k = n := by omega
      subst hk'
      go_wp2
      go_ret
      exact ⟨rfl, hbl⟩

set_option maxHeartbeats 4000000 in
theorem light_no (g n j : Nat) (f : Nat → ByteArray) (w : World) (hn : n ≤ 8) (hc : ∀ i, i < n → w.cell? ⟨g, i, none⟩ = some (.string (f i))) (hj : j < n) (hs : ∀ i, i < j → (f i).size ≤ 512) (hb : 512 < (f j).size) :
    Calls Tryd.prog 8 #[.slice (some ⟨g, 0, none⟩) n n] w fun e w' => e = .returned (.bool false) ∧ Below w.heap.size w w' := by
  have HC : Hid (∀ i, i < n → w.cell? ⟨g, i, none⟩ = some (.string (f i))) := hc
  have HS : Hid (∀ i, i < j → (f i).size ≤ 512) := hs
  have HL : Hid (512 < (f j).size) := hb
  clear hc hs hb
  go_enter Tryd.func8, Tryd.ntmps8
  go_wp2
  go_loopw [3] (fun i wr => ∃ k : Nat, k ≤ j ∧ i = .int .i64 k ∧ Below w.heap.size w wr) (fun i _ => n - (intOf i).toNat)
  case atStart => exact ⟨0, Nat.zero_le _, rfl, Below.refl _ _⟩
  case round =>
    obtain ⟨k, hk, rfl, hbl⟩ := hrel
    have hlt : k < n := by omega
    have h1 := HC.out k hlt
    have hblk := World.block_lt_of_cell? w _ h1
    have hcc : wr.cell? ⟨g, k, none⟩ = some (.string (f k)) := by rw [hbl.cell (p := ⟨g, k, none⟩) hblk]; exact h1
    by_cases hlt2 : k < j
    · have h2 := HS.out k hlt2
      have g0 : decide ((512 : Int) < ((f k).size : Int)) = false := by simp; omega
      clear h1 h2
      generalize f k = x at *
      go_wp2
      go_roundw
      case rel => exact ⟨k + 1, by omega, by go_num, hbl⟩
      case measure => simp [intOf]; omega
    · have hk' : k = j := by omega
      subst hk'
      have h2 := HL.out
      have g0 : decide ((512 : Int) < ((f k).size : Int)) = true := by simp; omega
      clear h1 h2 hk hlt2 HL
      generalize f k = x at *
      go_wp2
      go_ret
      exact ⟨rfl, hbl⟩

/-- Two texts as 'light''s parameters. -/
def duo (a b : ByteArray) (i : Nat) : ByteArray := if i = 0 then a else b
theorem duo_cells (w : World) (e : TypeId) (a b : ByteArray) : ∀ i, i < 2 → (w.alloc (.cells #[.string a, .string b] e)).cell? ⟨w.heap.size, i, none⟩ = some (.string (duo a b i)) := by
  intro i hi
  rw [cell_of_row _ _ _ _ e (0, 0) (heap_alloc_last w _)]
  match i, hi with
  | 0, _ => rfl
  | 1, _ => rfl
theorem light2_yes (a b : ByteArray) (e : TypeId) (w : World) (ha : a.size ≤ 512) (hb : b.size ≤ 512) :
    Calls Tryd.prog 8 #[.slice (some ⟨w.heap.size, 0, none⟩) 2 2] (w.alloc (.cells #[.string a, .string b] e)) fun e w' => e = .returned (.bool true) ∧ Below w.heap.size w w' := by
  refine (light_yes w.heap.size 2 (duo a b) _ (by omega) (duo_cells w e a b) ?_).mono ?_
  · intro i hi
    match i, hi with
    | 0, _ => exact ha
    | 1, _ => exact hb
  · rintro e w' ⟨rfl, hb⟩
    exact ⟨rfl, below_step (below_new w _) (Nat.le_refl _) hb⟩
theorem light2_no (a b : ByteArray) (e : TypeId) (w : World) (h : 512 < a.size ∨ 512 < b.size) :
    Calls Tryd.prog 8 #[.slice (some ⟨w.heap.size, 0, none⟩) 2 2] (w.alloc (.cells #[.string a, .string b] e)) fun e w' => e = .returned (.bool false) ∧ Below w.heap.size w w' := by
  by_cases ha : 512 < a.size
  · refine (light_no w.heap.size 2 0 (duo a b) _ (by omega) (duo_cells w e a b) (by omega) (fun i hi => by omega) ha).mono ?_
    rintro e w' ⟨rfl, hb⟩
    exact ⟨rfl, below_step (below_new w _) (Nat.le_refl _) hb⟩
  · refine (light_no w.heap.size 2 1 (duo a b) _ (by omega) (duo_cells w e a b) (by omega) (fun i hi => ?_) (by rcases h with h | h; exact absurd h ha; exact h)).mono ?_
    · have : i = 0 := by omega
      subst this
      show a.size ≤ 512; omega
    · rintro e w' ⟨rfl, hb⟩
      exact ⟨rfl, below_step (below_new w _) (Nat.le_refl _) hb⟩

theorem light1_yes (a : ByteArray) (e : TypeId) (w : World) (ha : a.size ≤ 512) :
    Calls Tryd.prog 8 #[.slice (some ⟨w.heap.size, 0, none⟩) 1 1] (w.alloc (.cells #[.string a] e)) fun e w' => e = .returned (.bool true) ∧ Below w.heap.size w w' := by
  refine (light_yes w.heap.size 1 (fun _ => a) _ (by omega) ?_ (fun _ _ => ha)).mono ?_
  · intro i hi
    rw [cell_of_row _ _ _ _ e (0, 0) (heap_alloc_last w _)]
    match i, hi with
    | 0, _ => rfl
  · rintro e w' ⟨rfl, hb⟩
    exact ⟨rfl, below_step (below_new w _) (Nat.le_refl _) hb⟩
theorem light1_no (a : ByteArray) (e : TypeId) (w : World) (ha : 512 < a.size) :
    Calls Tryd.prog 8 #[.slice (some ⟨w.heap.size, 0, none⟩) 1 1] (w.alloc (.cells #[.string a] e)) fun e w' => e = .returned (.bool false) ∧ Below w.heap.size w w' := by
  refine (light_no w.heap.size 1 0 (fun _ => a) _ (by omega) ?_ (by omega) (fun i hi => by omega) ha).mono ?_
  · intro i hi
    rw [cell_of_row _ _ _ _ e (0, 0) (heap_alloc_last w _)]
    match i, hi with
    | 0, _ => rfl
  · rintro e w' ⟨rfl, hb⟩
    exact ⟨rfl, below_step (below_new w _) (Nat.le_refl _) hb⟩

set_option maxRecDepth 100000 in
set_option maxHeartbeats 4000000 in
theorem one_any (w : World) (hB : GlobB w) (hK : GlobK w) :
    Calls Tryd.prog 9 #[] w fun e w' => e = .returned (.bool true) ∧ Below w.heap.size w w' := by
  have C1 : Hid (Calls _ _ _ _ _) := derive_ok ⟨#[0, 1, 2, 3, 4, 5, 6, 7, 8, 9, 10, 11, 12]⟩ ⟨#[11, 11, 11, 11, 11, 11, 11, 11, 11, 11, 11, 11, 11, 11, 11, 11, 11, 11, 11, 11, 11, 11]⟩ ⟨#[240, 241, 242, 243, 244, 245, 246, 247, 248, 249]⟩ 42 w (by decide) (by decide) (by decide) (by decide) hB hK
  rw [one_all] at C1
  have h42 := oneB_size
  have h4 := oneB_head
  have h38 := oneB_tail
  generalize oneB = S at *
  clear hB hK
  go_enter Tryd.func9, Tryd.ntmps9
  go_wp2_with fail
  refine C1.out.mono ?_
  rintro e w1 ⟨rfl, hb1⟩
  go_wp2_with fail
  go_ret
  exact ⟨rfl, hb1⟩
end Go.Proofs.YtnhdobgkfhgkbaaDoor
