/- ViewMoves, plain: the chain of nodes, and the chain of which one has moved. -/
import Derived.Test.YtebnmghjdoblaaaGreatDoorVG
namespace Go.Proofs.YtebnmghjdoblaaaGreatDoor
open Go.RowKit
set_option linter.unusedSimpArgs false

/-- The name of node i. -/
def nmM (i : Nat) : ByteArray := ⟨#[110, UInt8.ofNat (97 + i)]⟩
/-- Node i, where node k has moved (none has: k = 0). -/
def ndM (k i : Nat) : NodeT := (((i : Int), 1), (if i = k then (50, 1) else if i = 1 then (0, 0) else ((i : Int) - 1, 1)), nmM i, ⟨#[]⟩)
/-- The other one. -/
def otM : NodeT := ((50, 1), (0, 0), ⟨#[111, 116, 104, 101, 114]⟩, ⟨#[]⟩)
/-- The first i nodes of the chain. -/
def chM (k i : Nat) : List NodeT := (List.range i).map (fun j => ndM k (j + 1))
def mvM (n k : Nat) : List NodeT := chM k n ++ [otM]

/-- The place of node i as text, where node k has moved. -/
def plM (k : Nat) : Nat → ByteArray
  | 0 => ⟨#[]⟩
  | i + 1 => if i + 1 = k then ⟨#[111, 116, 104, 101, 114, 47]⟩ ++ nmM (i + 1) else if i = 0 then nmM 1 else plM k i ++ ⟨#[47]⟩ ++ nmM (i + 1)

theorem name_lettersM (s : ByteArray) (n : Nat) (hn : n ≤ 5) (hc : countR s = n) (h1 : s.data.toList ≠ [46]) (h2 : s.data.toList ≠ [46, 46]) (h3 : 0 < s.size) (h4 : bt s 0 ≠ 32) (h5 : bt s (s.size - 1) ≠ 32) (h6 : ∀ k : Fin 5, k.1 < n → 32 ≤ runeAt s (posR s k.1) ∧ runeAt s (posR s k.1) ≠ 47 ∧ ¬ (127 ≤ runeAt s (posR s k.1) ∧ runeAt s (posR s k.1) ≤ 159)) : NameP s := by
  refine ⟨⟨by rw [toList_data]; exact h1, by rw [toList_data]; exact h2, h3, h4, h5⟩, fun k hk => ?_, by omega⟩
  rw [hc] at hk
  exact h6 ⟨k, by omega⟩ hk

theorem nameM_other : NameP ⟨#[111, 116, 104, 101, 114]⟩ := name_lettersM _ 5 (by decide) (by decide +kernel) (by decide) (by decide) (by decide) (by decide +kernel) (by decide +kernel) (by decide +kernel)

theorem nameM_one : ∀ i : Fin 11, NameP (nmM i.1) := fun i =>
  name_lettersM _ 2 (by decide) ((by decide +kernel : ∀ i : Fin 11, countR (nmM i.1) = 2) i) ((by decide +kernel : ∀ i : Fin 11, (nmM i.1).data.toList ≠ [46]) i) ((by decide +kernel : ∀ i : Fin 11, (nmM i.1).data.toList ≠ [46, 46]) i) (by show 0 < 2; decide) ((by decide +kernel : ∀ i : Fin 11, bt (nmM i.1) 0 ≠ 32) i) ((by decide +kernel : ∀ i : Fin 11, bt (nmM i.1) ((nmM i.1).size - 1) ≠ 32) i) ((by decide +kernel : ∀ i : Fin 11, ∀ k : Fin 5, k.1 < 2 → 32 ≤ runeAt (nmM i.1) (posR (nmM i.1) k.1) ∧ runeAt (nmM i.1) (posR (nmM i.1) k.1) ≠ 47 ∧ ¬ (127 ≤ runeAt (nmM i.1) (posR (nmM i.1) k.1) ∧ runeAt (nmM i.1) (posR (nmM i.1) k.1) ≤ 159)) i)

theorem mvM_len (n k : Nat) : (mvM n k).length = n + 1 := by unfold mvM chM; rw [List.length_append, List.length_map, List.length_range]; rfl

theorem mvM_top : ∀ (n k : Fin 11), k.1 ≤ n.1 → ∀ j : Fin 11, j.1 < n.1 + 1 → TopOk (topF (mvM n.1 k.1) (n.1 + 2) (nL (mvM n.1 k.1) j.1).1) := by
  unfold TopOk
  decide +kernel

theorem mvM_lines : ∀ (n k : Fin 11), k.1 ≤ n.1 → (linesP (mvM n.1 k.1)).length = n.1 + 1 := by decide +kernel

theorem mvM_places : ∀ (n k : Fin 11), k.1 ≤ n.1 → ∀ i : Fin 11, 0 < i.1 → i.1 ≤ n.1 → ∃ j : Fin 11, j.1 < n.1 + 1 ∧ (lL (linesP (mvM n.1 k.1)) j.1).2.1 = ((i.1 : Int), 1) ∧ (∀ m : Fin 11, m.1 < j.1 → (lL (linesP (mvM n.1 k.1)) m.1).2.1 ≠ ((i.1 : Int), 1)) ∧ pathB (linesP (mvM n.1 k.1)) j.1 = plM k.1 i.1 := by decide +kernel

theorem plM_moved : ∀ (k i : Fin 11), 0 < k.1 → k.1 ≤ i.1 → (plM 0 k.1).size ≤ (plM 0 i.1).size ∧ plM k.1 i.1 = plM k.1 k.1 ++ (plM 0 i.1).extract (plM 0 k.1).size (plM 0 i.1).size := by decide +kernel
theorem plM_own : ∀ k : Fin 11, 0 < k.1 → plM k.1 k.1 = ⟨#[111, 116, 104, 101, 114, 47, 110]⟩ ++ ⟨#[UInt8.ofNat (97 + k.1)]⟩ := by decide +kernel

theorem mvM_at (n k j : Nat) (hj : j < n) : nL (mvM n k) j = ndM k (j + 1) := by
  unfold nL mvM chM
  rw [List.getD_eq_getElem?_getD, List.getElem?_append_left (by rw [List.length_map, List.length_range]; exact hj), List.getElem?_map, List.getElem?_range hj]
  rfl
theorem mvM_last (n k : Nat) : nL (mvM n k) n = otM := by
  unfold nL mvM chM
  rw [List.getD_eq_getElem?_getD, List.getElem?_append_right (by rw [List.length_map, List.length_range]; exact Nat.le_refl _), List.length_map, List.length_range, Nat.sub_self]
  rfl

theorem mvM_ids : ∀ (n : Fin 11), ∀ j : Fin 11, j.1 < n.1 + 1 → MayS (nL (mvM n.1 0) j.1).1 ∧ (0 < j.1 → LessS (nL (mvM n.1 0) (j.1 - 1)).1 (nL (mvM n.1 0) j.1).1) := by
  unfold MayS LessS
  decide +kernel
theorem mvM_id (n k j : Nat) (hj : j ≤ n) : (nL (mvM n k) j).1 = (nL (mvM n 0) j).1 := by
  by_cases e : j < n
  · rw [mvM_at n k j e, mvM_at n 0 j e]; rfl
  · obtain rfl : j = n := by omega
    rw [mvM_last, mvM_last]

theorem mvM_may (n k : Nat) (hn : n < 11) (hk : k ≤ n) : MayV (mvM n k) := by
  refine ⟨by rw [mvM_len]; omega, fun j hj => ?_, fun j hj => ?_⟩
  · rw [mvM_len] at hj
    have h := mvM_ids ⟨n, hn⟩ ⟨j, by omega⟩ hj
    refine ⟨by rw [mvM_id n k j (by omega)]; exact h.1, fun h0 => by rw [mvM_id n k j (by omega), mvM_id n k (j - 1) (by omega)]; exact h.2 h0, ?_⟩
    by_cases e : j < n
    · rw [mvM_at n k j e]
      exact ⟨nameM_one ⟨j + 1, by omega⟩, by show 0 ≤ 64; omega⟩
    · obtain rfl : j = n := by omega
      rw [mvM_last]
      exact ⟨nameM_other, by show 0 ≤ 64; omega⟩
  · rw [mvM_len] at hj ⊢
    exact mvM_top ⟨n, hn⟩ ⟨k, by omega⟩ hk ⟨j, by omega⟩ hj

theorem mvM_pathE (n k i : Nat) (hn : n < 11) (hk : k ≤ n) (h0 : 0 < i) (hi : i ≤ n) : PathE (linesP (mvM n k)) ((i : Int), 1) (plM k i) 0 := by
  obtain ⟨j, h1, h2, h3, h4⟩ := mvM_places ⟨n, hn⟩ ⟨k, by omega⟩ hk ⟨i, by omega⟩ h0 hi
  have hl := mvM_lines ⟨n, hn⟩ ⟨k, by omega⟩ hk
  exact .inl ⟨j.1, by rw [hl]; exact h1, h2, fun m hm => h3 ⟨m, by omega⟩ hm, h4.symm, rfl⟩
end Go.Proofs.YtebnmghjdoblaaaGreatDoor
