/- Layer 21 on plain data: what the laws' frames do; 'one'; masks. -/
import Derived.Test.YtmlpbbancoedgaaReV
import Derived.Test.YtmlpbbancoedgaaL1
namespace Go.Proofs.Ytmlpbbancoedgaa
open Go.RowKit
set_option maxRecDepth 100000
set_option linter.unusedSimpArgs false
set_option linter.unusedVariables false

theorem mask256r (z : Int) : ∃ q : Nat, bits .and .i64 z 255 = (q : Int) ∧ q < 256 := ⟨(z % 256).toNat, by rw [i64_mask z 8 (by decide) 255 (by decide)]; omega, by omega⟩
theorem mask1024r (z : Int) : ∃ q : Nat, bits .and .i64 z 1023 = (q : Int) ∧ q < 1024 := ⟨(z % 1024).toNat, by rw [i64_mask z 10 (by decide) 1023 (by decide)]; omega, by omega⟩

theorem zeroB_sz (n : Nat) : (zeroB n).size = n := by
  show (List.replicate n (0 : UInt8)).toArray.size = n
  simp

theorem one_any (b : Bool) (w : World) : Calls Try.prog 22 #[.bool b] w fun e w' => e = .returned (.int .i64 (if b then 1 else 0)) ∧ Below w.heap.size w w' := by
  cases b with
  | true =>
    go_enter Try.func22, Try.ntmps22
    go_wp2
    go_ret
    exact ⟨rfl, Below.refl _ _⟩
  | false =>
    go_enter Try.func22, Try.ntmps22
    go_wp2
    go_ret
    exact ⟨rfl, Below.refl _ _⟩

/-- A variable of the law's own is written. -/
theorem RlV.setRow {w0 W : World} {g : Nat} {X : RlT} {T : TypeId} {h : Nat} {cs : Array Value} (hr : RlV w0 g X W) (hb : Blk W T h cs) (hT : T ≠ 31) (hT2 : T ≠ 59) (hl : w0.heap.size ≤ h) (cs' : Array Value) : RlV w0 g X (W.setRow h cs') := by
  obtain ⟨v, h0, hv⟩ := hr.rel
  refine ⟨below_setRow hr.bel hl _, hr.lg, v, h0.setRow h (fun e => ?_) (fun e => ?_) cs', hv⟩
  · subst e; exact hT2 (blk_types hb h0.blk)
  · rcases h0.own.blk with ⟨e1, _⟩ | ⟨g', cap, cur, e1, _, hb', _⟩
    · rw [e1] at e; cases e
    · rw [e1] at e
      have e2 : g' = h := by injection e
      subst e2
      exact hT (blk_types hb hb')

theorem doR_app (X : RlT) {g : Int} (h : X.1 = g) (E : Int) (b : ByteArray) : doR X (appF g E b) = addR X (appF g E b) := by
  unfold doR
  rw [if_neg (by rw [h]; simp [appF]), if_pos (show (appF g E b).1 = 1 from rfl)]

theorem doR_fet (X : RlT) {g : Int} (h : X.1 = g) (s m : Int) : doR X (fetF g s m) = (X, giveR X (fetF g s m)) := by
  unfold doR
  rw [if_neg (by rw [h]; simp [fetF]), if_neg (show ¬ ((fetF g s m).1 = 1) by show ¬ ((3 : Int) = 1); decide), if_pos (show (fetF g s m).1 = 3 from rfl)]

theorem doR_kep (X : RlT) {g : Int} (h : X.1 = g) (s E : Int) (b : ByteArray) : doR X (kepF g s E b) = keepR X (kepF g s E b) := by
  unfold doR
  rw [if_neg (by rw [h]; simp [kepF]), if_neg (show ¬ ((kepF g s E b).1 = 1) by show ¬ ((5 : Int) = 1); decide), if_neg (show ¬ ((kepF g s E b).1 = 3) by show ¬ ((5 : Int) = 3); decide), if_pos (show (kepF g s E b).1 = 5 from rfl)]

theorem doR_ask (X : RlT) {g : Int} (h : X.1 = g) : doR X (askF g) = (X, showR X) := by
  unfold doR
  rw [if_neg (by rw [h]; simp [askF]), if_neg (show ¬ ((askF g).1 = 1) by show ¬ ((7 : Int) = 1); decide), if_neg (show ¬ ((askF g).1 = 3) by show ¬ ((7 : Int) = 3); decide), if_neg (show ¬ ((askF g).1 = 5) by show ¬ ((7 : Int) = 5); decide), if_pos (show (askF g).1 = 7 from rfl)]

theorem addR_new (X : RlT) (g E : Int) (b : ByteArray) (hs : sameA X.2.2.2 E b = none) : addR X (appF g E b) = if 1024 ≤ X.2.2.2.length then (X, errF 2) else if X.2.1 < (bytesL X : Int) + (b.size : Int) then (X, errF 211) else ((X.1, X.2.1, X.2.2.1, X.2.2.2 ++ [(lastL X + 1, E, b)]), takF (lastL X + 1)) := by
  unfold addR
  show (match sameA X.2.2.2 E b with | some i => _ | none => _) = _
  rw [hs]
  rfl

theorem addR_old (X : RlT) (g E : Int) (b : ByteArray) (i : Nat) (hs : sameA X.2.2.2 E b = some i) : addR X (appF g E b) = (X, takF (itL X.2.2.2 i).1) := by
  unfold addR
  show (match sameA X.2.2.2 E b with | some i => _ | none => _) = _
  rw [hs]

theorem keepR_at (X : RlT) (g s E : Int) (b : ByteArray) : keepR X (kepF g s E b) = if s ≤ X.2.2.1.1 ∨ lastL X < s then (X, errF 1) else if X.2.1 < (sizeL (X.2.2.2.drop (s - X.2.2.1.1).toNat) : Int) + (b.size : Int) then (X, errF 211) else ((X.1, X.2.1, (s, E, b), X.2.2.2.drop (s - X.2.2.1.1).toNat), (6, 0, s, 0, 0, ⟨#[]⟩, [], 0)) := rfl

theorem giveR_at (X : RlT) (g s m : Int) : giveR X (fetF g s m) = if s ≤ X.2.2.1.1 then errF 210 else (4, 0, 0, 0, 0, ⟨#[]⟩, firstL (X.2.2.2.drop (min s (lastL X + 1) - 1 - X.2.2.1.1).toNat) (min m 32).toNat, 0) := rfl

end Go.Proofs.Ytmlpbbancoedgaa
