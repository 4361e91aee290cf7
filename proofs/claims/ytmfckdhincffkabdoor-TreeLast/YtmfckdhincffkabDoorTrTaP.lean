/- Layer 11 on plain data: TreeTrash's operations, one behind the other. -/
import Derived.Test.YtmfckdhincffkabDoorQ11
import Derived.Test.YtmfckdhincffkabDoorP11
namespace Go.Proofs.YtmfckdhincffkabDoor
open Go.RowKit
set_option linter.unusedSimpArgs false

theorem Tr.set {w wr : World} {g f m : Nat} {r : Option Nat} {T : TreeT} (h : Tr w wr g f m r T) (hp : Nat) (hw : w.heap.size ≤ hp) (hf : ∀ k, tfoot g f m r k → k < hp) (cs : Array Value) : Tr w (wr.setRow hp cs) g f m r T :=
  ⟨h.tree.same (fun k hk => setRow_other wr hp k cs (by have := hf k hk; omega)), below_setRow h.bel hw cs, h.new⟩

theorem Blk.keptF {w w' : World} {t : TypeId} {hp : Nat} {cs : Array Value} {F : Nat → Prop} (h : Blk w t hp cs) (hK : KeptF F w w') (hF : ¬ F hp) : Blk w' t hp cs := by
  unfold Blk; rw [hK.block _ h.lt hF]; exact h

theorem ln_count : countR ⟨#[110]⟩ = 1 := by decide +kernel

theorem ln_name : NameP ⟨#[110]⟩ := by
  refine ⟨⟨?_, ?_, by decide, by decide +kernel, by decide +kernel⟩, fun k hk => ?_, by rw [ln_count]; decide⟩
  · rw [toList_data]; decide
  · rw [toList_data]; decide
  · rw [ln_count] at hk
    unfold goodX
    match k, hk with
    | 0, _ => decide +kernel

theorem chain_mem (n : Nat) (o : OpT) (h : o ∈ chainL n) : ∃ i : Nat, 1 ≤ i ∧ i ≤ n ∧ o.2.1 = ((i : Int), 1) := by
  induction n with
  | zero => cases h
  | succ n ih =>
    rcases List.mem_append.1 h with h | h
    · obtain ⟨i, h1, h2, h3⟩ := ih h
      exact ⟨i, h1, by omega, h3⟩
    · rw [List.mem_singleton] at h
      exact ⟨n + 1, by omega, by omega, by rw [h]; rfl⟩

theorem chain_len (n : Nat) : (chainL n).length = n := by
  induction n with
  | zero => rfl
  | succ n ih => show (chainL n ++ _).length = _; rw [List.length_append, ih]; rfl

theorem chain_may (n : Nat) (h : n < 12) : MayO (chainO ((n : Int) + 1)) := by
  have hs : MayS ((n : Int) + 1, 1) := ⟨by show (1 : Int) ≤ n + 1; omega, by show (n : Int) + 1 ≤ _; omega, (by decide : (1 : Int) ≤ 1), (by decide : (1 : Int) ≤ 6)⟩
  refine ⟨hs, hs, .inl ⟨rfl, rfl, ?_, ln_name, rfl⟩⟩
  show ParS (if 1 < (n : Int) + 1 then ((n : Int) + 1 - 1, 1) else (0, 0))
  by_cases e : 1 < (n : Int) + 1
  · rw [if_pos e]
    exact .inl ⟨by show (1 : Int) ≤ n + 1 - 1; omega, by show (n : Int) + 1 - 1 ≤ _; omega, (by decide : (1 : Int) ≤ 1), (by decide : (1 : Int) ≤ 6)⟩
  · rw [if_neg e]
    exact .inr ⟨rfl, .inl rfl⟩

theorem chain_step (M : OpT → Bool) (hM : ∀ o, M o = true ↔ MayO o) (n : Nat) (h : n < 12) : applyP M ([], chainL n, (0, 0)) (chainO ((n : Int) + 1)) = (([], chainL (n + 1), (0, 0)), 0) :=
  apply_last M _ _ ((hM _).2 (chain_may n h)) (.inl (by show (0 : Int) < (n : Int) + 1; omega)) (fun x hx => by
    obtain ⟨i, h1, h2, h3⟩ := chain_mem n x hx
    rw [h3]
    exact .inl (by show (i : Int) < (n : Int) + 1; omega)) (by simp only [chain_len, List.length_nil]; omega)

def taO (k : Int) : OpT := (5, (50, 2), (k, 1), (0, 0), ⟨#[]⟩, ⟨#[]⟩)

def baO (k : Int) : OpT := (2, (60, 1), (k, 1), (0, 0), ⟨#[]⟩, ⟨#[]⟩)

theorem ta_step (M : OpT → Bool) (hM : ∀ o, M o = true ↔ MayO o) (n k : Nat) (h : n ≤ 12) (h1 : 1 ≤ k) (h2 : k ≤ 12) : applyP M ([], chainL n, (0, 0)) (taO k) = (([], trashL n k false, (0, 0)), 0) := by
  have hs : MayS ((k : Int), 1) := ⟨by show (1 : Int) ≤ k; omega, by show (k : Int) ≤ _; omega, (by decide : (1 : Int) ≤ 1), (by decide : (1 : Int) ≤ 6)⟩
  exact apply_last M _ _ ((hM _).2 ⟨(by decide : MayS (50, 2)), hs, .inr (.inr (.inr (.inr ⟨rfl, rfl, rfl, rfl⟩)))⟩) (by decide : LessS (0, 0) (50, 2)) (fun x hx => by
    obtain ⟨i, h1, h2, h3⟩ := chain_mem n x hx
    rw [h3]
    exact .inl (by show (i : Int) < 50; omega)) (by simp only [chain_len, List.length_nil]; omega)

theorem ba_step (M : OpT → Bool) (hM : ∀ o, M o = true ↔ MayO o) (n k : Nat) (h : n ≤ 12) (h1 : 1 ≤ k) (h2 : k ≤ 12) : applyP M ([], trashL n k false, (0, 0)) (baO k) = (([], trashL n k true, (0, 0)), 0) := by
  have hs : MayS ((k : Int), 1) := ⟨by show (1 : Int) ≤ k; omega, by show (k : Int) ≤ _; omega, (by decide : (1 : Int) ≤ 1), (by decide : (1 : Int) ≤ 6)⟩
  have e : trashL n k true = trashL n k false ++ [baO k] := by
    show chainL n ++ taO k :: [baO k] = (chainL n ++ taO k :: []) ++ [baO k]
    rw [List.append_assoc]; rfl
  rw [e]
  exact apply_last M _ _ ((hM _).2 ⟨(by decide : MayS (60, 1)), hs, .inr (.inl ⟨rfl, .inr ⟨rfl, .inl rfl⟩, rfl, rfl⟩)⟩) (by decide : LessS (0, 0) (60, 1)) (fun x hx => by
    rcases List.mem_append.1 hx with hx | hx
    · obtain ⟨i, h1, h2, h3⟩ := chain_mem n x hx
      rw [h3]
      exact .inl (by show (i : Int) < 60; omega)
    · have : x = taO k := by simpa [taO] using hx
      rw [this]; exact .inl (by show (50 : Int) < 60; decide)) (by
    show 0 + (chainL n ++ [taO k]).length < 512
    rw [List.length_append, chain_len]
    show 0 + (n + 1) < 512
    omega)

theorem trash_len (n : Nat) (k : Int) (back : Bool) : (trashL n k back).length ≤ n + 2 := by
  unfold trashL
  rw [List.length_append, chain_len, List.length_cons]
  cases back <;> simp

theorem ta_up (n k i : Nat) (back : Bool) (hn : n ≤ 12) (hk1 : 1 ≤ k) (hk : k ≤ n) (hi1 : 1 ≤ i) (hi : i ≤ n) : upW (nodesP [] (trashL n k back)) (n + 1) ((i : Int), 1) = some (if k ≤ i ∧ back = false then (0, 1) else (0, 0)) := by
  have h := trash_up ⟨n - 1, by omega⟩ back ⟨k - 1, by omega⟩ (by show k - 1 ≤ n - 1; omega) ⟨i - 1, by omega⟩ (by show i - 1 ≤ n - 1; omega)
  simp only at h
  rw [show n - 1 + 1 = n by omega, show (((k - 1 : Nat) : Int) + 1) = (k : Int) by omega, show n - 1 + 2 = n + 1 by omega, show (((i - 1 : Nat) : Int) + 1) = (i : Int) by omega] at h
  rw [h]
  congr 1
  by_cases e : k ≤ i ∧ back = false
  · rw [if_pos e, if_pos ⟨by show k - 1 ≤ i - 1; omega, e.2⟩]
  · rw [if_neg e, if_neg (fun hh => e ⟨by have : k - 1 ≤ i - 1 := hh.1; omega, hh.2⟩)]

theorem upW_end (L : List NodeT) (f : Nat) (p : Int × Int) (h : p.1 ≤ 0) : upW L f p = some p := by
  cases f with
  | zero => rfl
  | succ f => show (if p.1 ≤ 0 then some p else _) = _; rw [if_pos h]

theorem upW_on {L : List NodeT} {f : Nat} {p q : Int × Int} (h : ¬ p.1 ≤ 0) (hu : upW L (f + 1) p = some q) : ∃ x, look L p = some x ∧ upW L f x.2.1 = some q := by
  unfold upW at hu
  rw [if_neg h] at hu
  cases e : look L p with
  | none => rw [e] at hu; cases hu
  | some x => rw [e] at hu; exact ⟨x, rfl, hu⟩

end Go.Proofs.YtmfckdhincffkabDoor
