import Derived.Test.YtogbkfakihnbdaaGreatDoorRTrM
/- The document's Apply (layer 11), whole. -/
namespace Go.Proofs.YtogbkfakihnbdaaGreatDoor
open Go.RowKit
set_option linter.unusedSimpArgs false

theorem rapplyW_any (M : OpT → Bool) (hM : ∀ o, M o = true ↔ MayO o) (t : TreeT) (o : OpT) (v : Value) (w : World) (hn : t.1.length + t.2.1.length ≤ 50000) (hs : o.2.2.2.2.1.size ≤ 1048576) (ht : o.2.2.2.2.2.size ≤ 9223372036854775807) (a1 a2 : Option Addr) (c1 c2 : Nat) (hv : v = .agg #[.slice a1 t.1.length c1, .slice a2 t.2.1.length c2, .int .i64 t.2.2.1, .int .i64 t.2.2.2]) (h1 : NodesAt w a1 t.1.length t.1) (h2 : OpsAt w a2 t.2.1.length t.2.1) (h3 : SliceOk a2 t.2.1.length c2) :
    Calls Tryz.prog 67 #[v, .agg (opA o)] w fun e w' => ∃ v', e = .returned (.tuple #[v', .int .i64 (applyP M t o).2]) ∧ TreeW a1 t.1.length a2 t.2.1.length w.heap.size w' v' (applyP M t o).1 ∧ Below w.heap.size w w' := by
  obtain ⟨fx, ops, b1, b2⟩ := t
  obtain ⟨k0, ⟨k1, k2⟩, ⟨k3, k4⟩, ⟨k5, k6⟩, s, t⟩ := o
  subst hv
  obtain ⟨D, hD⟩ : ∃ D, D = M (k0, (k1, k2), (k3, k4), (k5, k6), s, t) := ⟨_, rfl⟩
  have hDM : D = true ↔ MayO (k0, (k1, k2), (k3, k4), (k5, k6), s, t) := by rw [hD]; exact hM _
  by_cases hA : D = false ∨ ¬ LessS (b1, b2) (k1, k2)
  · have e : applyP M (fx, ops, (b1, b2)) (k0, (k1, k2), (k3, k4), (k5, k6), s, t) = ((fx, ops, (b1, b2)), 1) := by
      unfold applyP
      rw [if_pos (by rw [← hD]; exact hA)]
    rw [e]
    exact rapply_arg fx ops b1 b2 k0 k1 k2 k3 k4 k5 k6 s t a1 a2 c1 c2 w D hs ht h1 h2 h3 hDM hA
  · have hDt : D = true := by
      cases D with
      | true => rfl
      | false => exact absurd (.inl rfl) hA
    have hL : LessS (b1, b2) (k1, k2) := by
      by_cases h : LessS (b1, b2) (k1, k2)
      · exact h
      · exact absurd (.inr h) hA
    have e : applyP M (fx, ops, (b1, b2)) (k0, (k1, k2), (k3, k4), (k5, k6), s, t) = if dupO (k1, k2) ops = true then ((fx, ops, (b1, b2)), 0) else if 512 ≤ ops.length ∨ (k0 = 1 ∧ 512 ≤ fx.length + creO ops) then ((fx, ops, (b1, b2)), 2) else ((fx, putO (k0, (k1, k2), (k3, k4), (k5, k6), s, t) ops, (b1, b2)), 0) := by
      unfold applyP
      rw [if_neg (by rw [← hD]; exact hA)]
    subst hDt
    exact rapply_on fx ops b1 b2 k0 k1 k2 k3 k4 k5 k6 _ s t a1 a2 c1 c2 w _ hn hs ht h1 h2 h3 hDM hL e

end Go.Proofs.YtogbkfakihnbdaaGreatDoor
