import Derived.Test.YtogbkfakihnbdaaGreatDoorTmFx
import Derived.Test.YtogbkfakihnbdaaGreatDoorRTrT
/- The code's Of, on plain data (layer 11). -/
namespace Go.Proofs.YtogbkfakihnbdaaGreatDoor
open Go.RowKit

theorem nL_at (l : List NodeT) (i : Nat) (hi : i < l.length) : nL l i = l[i] := by unfold nL; rw [List.getD_eq_getElem?_getD, List.getElem?_eq_getElem hi]; rfl

/-- The code's test of a snapshot's nodes is the document's. -/
theorem of_test {l : List NodeT} {s : Int × Int} {G : Nat → Bool} (hG : ∀ k, k < l.length → (G k = true ↔ NodeOk l s k)) (D : Bool) (hD : D = true ↔ (l.length ≤ 512 ∧ RiseN l ∧ (∀ k, k < l.length → FixH s (nL l k)) ∧ FixC l)) (h5 : l.length ≤ 512) : (List.range l.length).all G = D := by
  have key : (List.range l.length).all G = true ↔ D = true := by
    rw [List.all_eq_true, hD]
    constructor
    · intro h
      have hk : ∀ k, k < l.length → NodeOk l s k := fun k hk => (hG k hk).1 (h k (List.mem_range.2 hk))
      have hr : RiseN l := fun k h0 hl => (hk k hl).1.2.2.2.2 h0
      have hm : ∀ x ∈ l, MayS x.1 := fun x hx => by
        obtain ⟨i, hi, rfl⟩ := List.getElem_of_mem hx
        rw [← nL_at l i hi]; exact (hk i hi).1.1
      refine ⟨h5, hr, fun k hk' => ⟨(hk k hk').1.1, (hk k hk').1.2.1, (hk k hk').1.2.2.1, (hk k hk').1.2.2.2.1⟩, (fix_same (rise_sort hr) hm).2 fun x hx => ?_⟩
      obtain ⟨i, hi, rfl⟩ := List.getElem_of_mem hx
      rw [← nL_at l i hi]; exact (hk i hi).2
    · rintro ⟨_, hr, hf, hc⟩ k hk
      have hk := List.mem_range.1 hk
      have hm : ∀ x ∈ l, MayS x.1 := fun x hx => by
        obtain ⟨i, hi, rfl⟩ := List.getElem_of_mem hx
        rw [← nL_at l i hi]; exact (hf i hi).1
      rw [hG k hk]
      exact ⟨⟨(hf k hk).1, (hf k hk).2.1, (hf k hk).2.2.1, (hf k hk).2.2.2, fun h0 => hr k h0 hk⟩, (fix_same (rise_sort hr) hm).1 hc _ (nL_mem l k hk)⟩
  cases h : (List.range l.length).all G with
  | true => exact (key.1 h).symm
  | false =>
    cases D with
    | false => rfl
    | true => rw [key.2 rfl] at h; cases h

/-- What the code's Of answers. -/
def codeP (M : OpT → Bool) (D : Bool) (t : TreeT) : TreeT × Int :=
  if t.2.2 ≠ (0, 0) ∧ ¬ MayS t.2.2 then (emptyT, 1) else if D = false then (emptyT, 1) else ofF M t.2.1 (t.1, [], t.2.2)

theorem of_code (M : OpT → Bool) {t : TreeT} {G : Nat → Bool} (hG : ∀ k, k < t.1.length → (G k = true ↔ NodeOk t.1 t.2.2 k)) (D : Bool) (hD : D = true ↔ (t.1.length ≤ 512 ∧ RiseN t.1 ∧ (∀ k, k < t.1.length → FixH t.2.2 (nL t.1 k)) ∧ FixC t.1)) : ofP M G t = codeP M D t := by
  unfold ofP codeP
  by_cases hb : t.2.2 ≠ (0, 0) ∧ ¬ MayS t.2.2
  · rw [if_pos (.inr hb), if_pos hb]
  · rw [if_neg hb]
    by_cases h5 : 512 < t.1.length
    · rw [if_pos (.inl h5)]
      have : D = false := by
        cases D with
        | false => rfl
        | true => exact absurd (hD.1 rfl).1 (by omega)
      rw [if_pos this]
    · rw [if_neg (fun h => h.elim h5 hb), of_test hG D hD (by omega)]

theorem ofF_joinK (M : OpT → Bool) (ops : List OpT) (k : Nat) (h : k < ops.length) (t : TreeT) : ofF M (ops.drop k) t = if (joinP M t (oL ops k)).2 ≠ 0 then (emptyT, (joinP M t (oL ops k)).2) else ofF M (ops.drop (k + 1)) (joinP M t (oL ops k)).1 := by
  rw [drop_oL ops k h]; exact ofF_join M _ _ t

theorem joinP_len (M : OpT → Bool) (t : TreeT) (o : OpT) : (joinP M t o).1.1 = t.1 ∧ (joinP M t o).1.2.1.length ≤ t.2.1.length + 1 := by
  unfold joinP
  split
  · exact ⟨rfl, Nat.le_succ _⟩
  · exact applyP_len M t o

theorem FxS.tree {w0 w : World} {g f m : Nat} {b1 b2 : Int} {l : List NodeT} (h : FxS w0 w g f m b1 b2 l) (hR : Rooted l) : TreeIn w g f m none (l, [], (b1, b2)) :=
  ⟨⟨hR, List.Pairwise.nil, fun _ h => absurd h List.not_mem_nil⟩, h.ne, .slice none 0 0, true, rfl, h.obj, OwnO.nil _ _, h.fx, [], h.nd, fun e => by cases e⟩
end Go.Proofs.YtogbkfakihnbdaaGreatDoor
