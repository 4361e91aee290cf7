import Derived.Test.YtdmlffbpcjadfaaDoorTmPl
import Derived.Test.YtdmlffbpcjadfaaDoorRTrQ
/- The document's Compact, its rows apart from some blocks (layer 11). -/
namespace Go.Proofs.YtdmlffbpcjadfaaDoor
open Go.RowKit

theorem rcompactF_any (F : Nat → Prop) (t : TreeT) (s : Int × Int) (v : Value) (w : World) (hn : t.1.length + t.2.1.length ≤ 50000) (hV : TreeG F w v t) (hB : ∀ k, F k → k < w.heap.size) :
    Calls Tryd.prog 8 #[v, stampV s] w fun e w' => ∃ v', e = .returned (.tuple #[v', .int .i64 ((compactP t s).2 : Int)]) ∧ TreeG F w' v' (compactP t s).1 ∧ Below w.heap.size w w' := by
  obtain ⟨a1, c1, a2, c2, hv, h1, h2, h3, h5, h6⟩ := hV
  exact (rcompactW_any t s v w hn a1 a2 c1 c2 hv h1 h2 h3).mono fun _ _ ⟨v', k1, k2, k3⟩ => ⟨v', k1, treeG_of h5 h6 hB k2, k3⟩
end Go.Proofs.YtdmlffbpcjadfaaDoor
