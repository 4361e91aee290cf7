/- Layer 19, the document's: Same of any two frames. -/
import Derived.Test.YtmjjpfinkpfifaaDoorRWiC
namespace Go.Proofs.YtmjjpfinkpfifaaDoor
open Go.RowKit
set_option maxRecDepth 100000
set_option linter.unusedSimpArgs false
set_option linter.unusedVariables false
set_option maxRecDepth 100000

theorem rsame19_any (F F' : FrmT) (D : Bool) (hD : D = true ↔ F = F') (a a' : Option Addr) (c c' : Nat) (w : World) (hn : F.2.2.2.2.2.2.1.length ≤ 1048576) (hc : F.2.2.2.2.2.2.1.length ≤ c) (hc' : F'.2.2.2.2.2.2.1.length ≤ c') (hI : ItsAt w a F.2.2.2.2.2.2.1.length F.2.2.2.2.2.2.1) (hI' : ItsAt w a' F'.2.2.2.2.2.2.1.length F'.2.2.2.2.2.2.1) :
    Calls Tryd.prog 22 #[.agg (frmA F a c), .agg (frmA F' a' c')] w fun e w' => e = .returned (.bool D) ∧ Below w.heap.size w w' := by
  obtain ⟨K, G, S, E, M, bl, it, er⟩ := F
  obtain ⟨K', G', S', E', M', bl', it', er'⟩ := F'
  simp only [frmA] at hn hc hc' hI hI' hD ⊢
  have no : ∀ {p : Prop}, ¬ p → ((K, G, S, E, M, bl, it, er) = (K', G', S', E', M', bl', it', er') → p) → D = false := fun h1 h2 => Bool.eq_false_iff.2 (fun e => h1 (h2 (hD.1 e)))
  by_cases h0 : K = K'
  · subst h0
    by_cases h1 : G = G'
    · subst h1
      by_cases h2 : S = S'
      · subst h2
        by_cases h3 : E = E'
        · subst h3
          by_cases h4 : M = M'
          · subst h4
            by_cases h7 : er = er'
            · subst h7
              by_cases h5 : bl = bl'
              · subst h5
                by_cases h6 : it.length = it'.length
                · rw [← h6] at hI' hc' ⊢
                  refine rsame19_yes K G S E M er bl it it' D (hD.trans ⟨fun e => by simpa using e, fun e => by rw [e]⟩) it.length a a' c c' w hn hc hc' hI hI'
                · rw [no h6 (fun e => by have : it = it' := by simpa using e
                                         rw [this])]
                  exact rsame19_no6 K G S E M er bl it.length it'.length a a' c c' w h6
              · rw [no h5 (fun e => by simp at e; exact e.1)]
                exact rsame19_no5 K G S E M er bl bl' it.length it'.length a a' c c' w h5
            · rw [no h7 (fun e => by simp at e; exact e.2.2)]
              exact rsame19_no7 K G S E M er er' bl bl' it.length it'.length a a' c c' w h7
          · rw [no h4 (fun e => by simp at e; exact e.1)]
            exact rsame19_no4 K G S E M er M' er' bl bl' it.length it'.length a a' c c' w h4
        · rw [no h3 (fun e => by simp at e; exact e.1)]
          exact rsame19_no3 K G S E M er E' M' er' bl bl' it.length it'.length a a' c c' w h3
      · rw [no h2 (fun e => by simp at e; exact e.1)]
        exact rsame19_no2 K G S E M er S' E' M' er' bl bl' it.length it'.length a a' c c' w h2
    · rw [no h1 (fun e => by simp at e; exact e.1)]
      exact rsame19_no1 K G S E M er G' S' E' M' er' bl bl' it.length it'.length a a' c c' w h1
  · rw [no h0 (fun e => by simp at e; exact e.1)]
    exact rsame19_no0 K G S E M er K' G' S' E' M' er' bl bl' it.length it'.length a a' c c' w h0

end Go.Proofs.YtmjjpfinkpfifaaDoor
