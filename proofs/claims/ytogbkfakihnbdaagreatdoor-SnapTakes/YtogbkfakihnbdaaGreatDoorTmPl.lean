import Derived.Test.YtogbkfakihnbdaaGreatDoorL1
import Derived.Test.YtogbkfakihnbdaaGreatDoorP11
import Derived.Test.YtogbkfakihnbdaaGreatDoorTS
import Derived.Test.YtogbkfakihnbdaaGreatDoorRTrN
/- The document's tree beside the code's; the laws' same (layer 11). -/
namespace Go.Proofs.YtogbkfakihnbdaaGreatDoor
open Go.RowKit
set_option linter.unusedSimpArgs false

theorem cell_of_block {w w' : World} {b : Nat} (h : w'.heap[b]? = w.heap[b]?) (o : Nat) : w'.cell? ⟨b, o, none⟩ = w.cell? ⟨b, o, none⟩ := by
  unfold World.cell?
  simp only [h]

/-- A row that is not empty has a block that is not among some. -/
def Far (F : Nat → Prop) (n : Nat) (a : Option Addr) : Prop := 0 < n → ∀ x, a = some x → ¬ F x.block

theorem rows_kept {F : Nat → Prop} {w w' : World} {a : Option Addr} {n c : Nat} {f : Nat → Array Value} (h : RowsAt w a n c f) (hF : Far F n a) (hK : KeptF F w w') : RowsAt w' a n c f := by
  rcases h with h0 | ⟨b, off, ha, hc⟩
  · exact .inl h0
  · by_cases hn : n = 0
    · exact .inl hn
    · refine .inr ⟨b, off, ha, fun i hi j hj => ?_⟩
      obtain ⟨u, h1, h2⟩ := hc i hi j hj
      refine ⟨u, h1, ?_⟩
      rw [cell_of_block (hK.block b (World.block_lt_of_cell? w _ h2) (hF (by omega) _ ha))]
      exact h2

theorem far_next {w : World} {g f m n c : Nat} {r r' : Option Nat} {a : Option Addr} {fn : Nat → Array Value} (hc0 : 0 < c) (h : RowsAt w a n c fn) (hF : Far (tfoot g f m r) n a) (hN : Nx w r r') : Far (tfoot g f m r') n a := fun hn x hx hk => by
  rcases tfoot_next hN hk with t | t
  · exact hF hn x hx t
  · rcases h with h0 | ⟨b, off, ha, hc⟩
    · omega
    · obtain ⟨u, _, h2⟩ := hc 0 hn 0 hc0
      have := World.block_lt_of_cell? w _ h2
      rw [hx] at ha
      cases ha
      simp only at t this
      omega

/-- The document's tree, no row of which is among some blocks. -/
def TreeG (F : Nat → Prop) (w : World) (v : Value) (t : TreeT) : Prop := ∃ a1 c1 a2 c2, v = .agg #[.slice a1 t.1.length c1, .slice a2 t.2.1.length c2, .int .i64 t.2.2.1, .int .i64 t.2.2.2] ∧ NodesAt w a1 t.1.length t.1 ∧ OpsAt w a2 t.2.1.length t.2.1 ∧ SliceOk a2 t.2.1.length c2 ∧ Far F t.1.length a1 ∧ Far F t.2.1.length a2

theorem TreeG.v {F : Nat → Prop} {w : World} {v : Value} {t : TreeT} (h : TreeG F w v t) : TreeV w v t := by
  obtain ⟨a1, c1, a2, c2, h1, h2, h3, h4, _, _⟩ := h
  exact ⟨a1, c1, a2, c2, h1, h2, h3, h4⟩

theorem TreeG.on {F : Nat → Prop} {w w' : World} {v : Value} {t : TreeT} (h : TreeG F w v t) (hb : Below w.heap.size w w') : TreeG F w' v t := by
  obtain ⟨a1, c1, a2, c2, h1, h2, h3, h4, h5, h6⟩ := h
  exact ⟨a1, c1, a2, c2, h1, h2.below hb, h3.below hb, h4, h5, h6⟩

theorem TreeG.kept {F : Nat → Prop} {w w' : World} {v : Value} {t : TreeT} (h : TreeG F w v t) (hK : KeptF F w w') : TreeG F w' v t := by
  obtain ⟨a1, c1, a2, c2, h1, h2, h3, h4, h5, h6⟩ := h
  exact ⟨a1, c1, a2, c2, h1, ⟨h2.1, rows_kept h2.2 h5 hK⟩, ⟨h3.1, rows_kept h3.2 h6 hK⟩, h4, h5, h6⟩

theorem TreeG.next {w : World} {g f m : Nat} {r r' : Option Nat} {v : Value} {t : TreeT} (h : TreeG (tfoot g f m r) w v t) (hN : Nx w r r') : TreeG (tfoot g f m r') w v t := by
  obtain ⟨a1, c1, a2, c2, h1, h2, h3, h4, h5, h6⟩ := h
  exact ⟨a1, c1, a2, c2, h1, h2, h3, h4, far_next (by decide) h2.2 h5 hN, far_next (by decide) h3.2 h6 hN⟩

theorem far_of {F : Nat → Prop} {B n0 n c : Nat} {a a' : Option Addr} (h : AdrV a n0 B (.slice a' n c)) (hF : Far F n0 a) (hB : ∀ k, F k → k < B) : Far F n a' := fun hn x hx hk => by
  subst hx
  rcases h x n c rfl with ⟨y, hy, e, hle⟩ | h
  · exact hF (by omega) y hy (by rw [e]; exact hk)
  · have := hB _ hk; omega

theorem treeG_of {F : Nat → Prop} {w w' : World} {v' : Value} {t t' : TreeT} {a1 a2 : Option Addr} (hF1 : Far F t.1.length a1) (hF2 : Far F t.2.1.length a2) (hB : ∀ k, F k → k < w.heap.size) (h : TreeW a1 t.1.length a2 t.2.1.length w.heap.size w' v' t') : TreeG F w' v' t' := by
  obtain ⟨⟨b1, c1, b2, c2, rfl, h2, h3, h4⟩, s1, s2, x, y, hv, k1, k2⟩ := h
  cases hv
  exact ⟨b1, c1, b2, c2, rfl, h2, h3, h4, far_of k1 hF1 hB, far_of k2 hF2 hB⟩

theorem rapplyG_any (M : OpT → Bool) (hM : ∀ o, M o = true ↔ MayO o) (F : Nat → Prop) (t : TreeT) (o : OpT) (v : Value) (w : World) (hn : t.1.length + t.2.1.length ≤ 50000) (hs : o.2.2.2.2.1.size ≤ 1048576) (ht : o.2.2.2.2.2.size ≤ 9223372036854775807) (hV : TreeG F w v t) (hB : ∀ k, F k → k < w.heap.size) :
    Calls Tryz.prog 67 #[v, .agg (opA o)] w fun e w' => ∃ v', e = .returned (.tuple #[v', .int .i64 (applyP M t o).2]) ∧ TreeG F w' v' (applyP M t o).1 ∧ Below w.heap.size w w' := by
  obtain ⟨a1, c1, a2, c2, hv, h1, h2, h3, h5, h6⟩ := hV
  exact (rapplyW_any M hM t o v w hn hs ht a1 a2 c1 c2 hv h1 h2 h3).mono fun _ _ ⟨v', k1, k2, k3⟩ => ⟨v', k1, treeG_of h5 h6 hB k2, k3⟩

end Go.Proofs.YtogbkfakihnbdaaGreatDoor
