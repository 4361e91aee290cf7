/- Layer 18, the document's: texts. -/
import Derived.Test.YtaakmcihpdbilaaDoorRStB
namespace Go.Proofs.YtaakmcihpdbilaaDoor
open Go.RowKit
set_option maxRecDepth 100000
set_option linter.unusedSimpArgs false
set_option maxRecDepth 100000
set_option linter.unusedVariables false

theorem Tryd.infoStr18 : (Tryd.prog.info? 9).map (fun i => (i.zero, i.size, i.bytes)) = some (some (.string ⟨#[]⟩), 1, 16) := by kernel_rfl
def lnV : Value → Nat
  | .slice _ n _ => n
  | _ => 0

theorem inTextP_less (S : ByteArray) (m : Int) (h : (inTextP (S, 0) m).1.2 = 0) : (inTextP (S, 0) m).1.1.size + 2 ≤ S.size := by
  unfold inTextP at h ⊢
  have h90 : ∀ e : Int, e ≠ 0 → ∀ i : ByteArray × Int, (wrongP i e).2 ≠ 0 := by
    intro e he i
    unfold wrongP
    simp only
    split
    · exact he
    · assumption
  split at h
  · rename_i hn; exact absurd h hn
  · rename_i hn
    split at h
    · exact absurd h (h90 91 (by decide) _)
    · split at h
      · exact absurd h (h90 90 (by decide) _)
      · have hn : (numberP (S, 0) 2).1.2 = 0 := Classical.not_not.1 hn
        have hs : (numberP (S, 0) 2).1.1.size + 2 ≤ S.size := by
          unfold numberP at hn ⊢
          by_cases hc : (S, (0 : Int)).2 ≠ 0 ∨ (S, (0 : Int)).1.size < 2
          · rw [if_pos hc] at hn; exact absurd hn (h90 90 (by decide) _)
          · rw [if_neg hc]
            have h2 : ¬ S.size < 2 := fun h => hc (.inr h)
            show (S.extract 2 S.size).size + 2 ≤ _
            rw [ByteArray.size_extract]; omega
        rename_i q1 q2
        rw [if_neg (by simpa using hn), if_neg q1, if_neg q2]
        simp only [ByteArray.size_extract]; omega

/-- The texts of bytes. -/
def txsP (S : ByteArray) : Option (List ByteArray) :=
  if S.size = 0 then some [] else if h : (inTextP (S, 0) 32768).1.2 = 0 then (txsP (inTextP (S, 0) 32768).1.1).map ((inTextP (S, 0) 32768).2 :: ·) else none
termination_by S.size
decreasing_by have := inTextP_less S 32768 h; omega

theorem txsP_none (S : ByteArray) (h : S.size = 0) : txsP S = some [] := by rw [txsP, if_pos h]
theorem txsP_bad (S : ByteArray) (h : S.size ≠ 0) (h1 : (inTextP (S, 0) 32768).1.2 ≠ 0) : txsP S = none := by rw [txsP, if_neg h, dif_neg h1]
theorem txsP_next (S S1 T : ByteArray) (h : S.size ≠ 0) (h1 : inTextP (S, 0) 32768 = ((S1, 0), T)) : txsP S = (txsP S1).map (T :: ·) := by
  rw [txsP, if_neg h, dif_pos (by rw [h1]), h1]

end Go.Proofs.YtaakmcihpdbilaaDoor
