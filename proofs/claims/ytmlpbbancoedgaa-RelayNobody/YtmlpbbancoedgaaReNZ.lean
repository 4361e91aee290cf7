/- Layer 21, the code: answer, to any frame. -/
import Derived.Test.YtmlpbbancoedgaaReNA
import Derived.Test.YtmlpbbancoedgaaReNB
import Derived.Test.YtmlpbbancoedgaaReNC
import Derived.Test.YtmlpbbancoedgaaReND
import Derived.Test.YtmlpbbancoedgaaReNE
import Derived.Test.YtmlpbbancoedgaaReNG
import Derived.Test.YtmlpbbancoedgaaReNK
namespace Go.Proofs.Ytmlpbbancoedgaa
open Go.RowKit
set_option maxRecDepth 100000
set_option linter.unusedSimpArgs false
set_option linter.unusedVariables false

theorem answer_any (g : Nat) (v : Value) (X : RlT) (N : Nat) (hX : RlOk N X) (hN : N ≤ 4611686018427387000) (s : ByteArray) (hs : s.size ≤ 1048576) (w : World) (h : RlAt w g v X) :
    Calls Try.prog 35 #[.pointer (some ⟨g, 0, none⟩), .string s] w (DoTo w g v (hearF X s).1 (hearF X s).2) := by
  by_cases h0 : (takeFC s).2 = 0
  · by_cases hG : (takeFC s).1.2.1 = X.1
    · by_cases k1 : (takeFC s).1.1 = 1
      · exact answerA_any g v X N hX hN s hs w h h0 hG k1
      · by_cases k3 : (takeFC s).1.1 = 3
        · exact answerB_any g v X N hX hN s hs w h h0 hG k3
        · by_cases k5 : (takeFC s).1.1 = 5
          · exact answerC_any g v X N hX hN s hs w h h0 hG k5
          · by_cases k7 : (takeFC s).1.1 = 7
            · exact answerD_any g v X N hX hN s hs w h h0 hG k7
            · exact answerK_any g v X N hX hN s hs w h h0 hG k1 k3 k5 k7
    · exact answerG_any g v X N hX hN s hs w h h0 hG
  · exact answerE_any g v X N hX hN s hs w h h0
end Go.Proofs.Ytmlpbbancoedgaa
