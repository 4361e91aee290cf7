import Derived.Test.YtdmlffbpcjadfaaDoorSnL
import Derived.Test.YtdmlffbpcjadfaaDoorSnI
import Derived.Test.YtdmlffbpcjadfaaDoorTmPl
/- Take of what is no tree's; the document's trees, made of operations (layer 13). -/
namespace Go.Proofs.YtdmlffbpcjadfaaDoor
open Go.RowKit
set_option linter.unusedSimpArgs false

theorem TreeG.shape3 {F : Nat → Prop} {w : World} {v : Value} {t : TreeT} (h : TreeG F w v t) : ∃ a1 n1 c1 a2 n2 c2 b1 b2, v = .agg #[.slice a1 n1 c1, .slice a2 n2 c2, .int .i64 b1, .int .i64 b2] := by
  obtain ⟨a1, c1, a2, c2, h, _⟩ := h
  exact ⟨a1, _, c1, a2, _, c2, _, _, h⟩

theorem keptF_row3 {F : Nat → Prop} (w : World) (hx : Nat) (cs : Array Value) (h : F hx) : KeptF F w (w.setRow hx cs) := (KeptF.refl F w).grown (grown_setRow w hx cs) (fun j e _ => by cases e; exact h)

theorem TreeG.fewer3 {F G : Nat → Prop} {w : World} {v : Value} {t : TreeT} (h : TreeG F w v t) (hG : ∀ k, G k → F k) : TreeG G w v t := by
  obtain ⟨a1, c1, a2, c2, h1, h2, h3, h4, h5, h6⟩ := h
  exact ⟨a1, c1, a2, c2, h1, h2, h3, h4, fun hn x hx hk => h5 hn x hx (hG _ hk), fun hn x hx hk => h6 hn x hx (hG _ hk)⟩

theorem TreeG.more3 {F : Nat → Prop} {w : World} {v : Value} {t : TreeT} (h : TreeG F w v t) (hx : Nat) (hw : w.heap.size ≤ hx) : TreeG (fun k => F k ∨ k = hx) w v t := by
  obtain ⟨a1, c1, a2, c2, h1, h2, h3, h4, h5, h6⟩ := h
  have far : ∀ {n c : Nat} {a : Option Addr} {f : Nat → Array Value}, 0 < c → RowsAt w a n c f → Far F n a → Far (fun k => F k ∨ k = hx) n a := fun {n c a f} hc hr hF hn x hxx hk => by
    rcases hk with hk | hk
    · exact hF hn x hxx hk
    · rcases hr with h0 | ⟨b, off, ha, hcc⟩
      · omega
      · obtain ⟨u, _, h2⟩ := hcc 0 hn 0 hc
        have := World.block_lt_of_cell? w _ h2
        rw [hxx] at ha
        cases ha
        simp only at hk this
        omega
  exact ⟨a1, c1, a2, c2, h1, h2, h3, h4, far (by decide) h2.2 h5, far (by decide) h3.2 h6⟩

end Go.Proofs.YtdmlffbpcjadfaaDoor
