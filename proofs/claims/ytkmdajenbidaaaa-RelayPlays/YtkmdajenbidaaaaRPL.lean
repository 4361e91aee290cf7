/- An array of two numbers, by value, among the parameters: its reading taken apart, and put together. Plain facts. -/
/- Slices of texts among a law's parameters: their reading, opened. Plain facts. -/
/- The document's relay (layer 21): Hear. (mkrreh.py) -/
import Derived.ChangeSame
import Derived.OpenShut
import Derived.ProofKit
import Derived.Test.YtkmdajenbidaaaaBA
import Derived.SliceStrings
import Derived.Test.YtkmdajenbidaaaaReT
import Derived.Test.YtkmdajenbidaaaaRWiQ
import Derived.Test.YtkmdajenbidaaaaTA
import Derived.Test.YtkmdajenbidaaaaRWiC
import Derived.Test.YtkmdajenbidaaaaReD
import Derived.Test.YtkmdajenbidaaaaRE1
import Derived.Test.YtkmdajenbidaaaaStoreAt
import Derived.Test.YtkmdajenbidaaaaRWiN
import Derived.Test.YtkmdajenbidaaaaWiQ
import Derived.Test.YtkmdajenbidaaaaReV
namespace Go.Proofs.Ytkmdajenbidaaaa
open Go.ChangeShapes Go.WideShapes
section
variable {H : Type} {enc : TypeId × Value → H} {P : Program} {w : World} {base : Nat} {spare : Nat → Bool} {held : Bool}

theorem trod_two {t e : TypeId} {fuel : Nat} {c0 c1 : Value} {x : DataW H × List MemPlace} (ht : P.underlying t = some (.array 2 e)) (hce : P.cellsOf e = 1)
    (h : DataW.trod enc P w base spare held fuel t [c0, c1] = some x) :
    ∃ y0 y1 n, x = (.agg [y0.1, y1.1], y0.2 ++ y1.2) ∧ DataW.trod enc P w base spare held n e [c0] = some y0 ∧ DataW.trod enc P w base spare held n e [c1] = some y1 := by
  cases fuel with
  | zero => simp [DataW.trod] at h
  | succ n =>
    unfold DataW.trod at h
    rw [ht] at h
    have r2 : List.range 2 = [0, 1] := rfl
    simp [r2, hce] at h
    obtain ⟨_, h⟩ := h
    cases h0 : DataW.trod enc P w base spare held n e [c0] with
    | none => simp [h0] at h
    | some y0 =>
      cases h1 : DataW.trod enc P w base spare held n e [c1] with
      | none => simp [h0, h1] at h
      | some y1 =>
        simp [h0, h1] at h
        exact ⟨y0, y1, n, h.symm, h0, h1⟩

theorem list_two {α : Type} (l : List α) (h : l.length = 2) : ∃ a b, l = [a, b] := by
  match l, h with
  | [a, b], _ => exact ⟨a, b, rfl⟩

theorem open_ints2 {r : Reach} {b0 : Nat} {t e : TypeId} {K : IntKind} {v : Value} {d : DataW H} {p : List MemPlace} (ht : P.underlying t = some (.array 2 e)) (he : P.underlying e = some (.int K)) (hct : P.cellsOf t = 2) (hce : P.cellsOf e = 1)
    (hv : Value.okWide P w r b0 t v) (h : DataW.Trod enc P w base spare held t v d p) :
    ∃ x0 x1 : Int, v = .agg #[.int K x0, .int K x1] ∧ d = .agg [.lit (.int K x0), .lit (.int K x1)] ∧ p = [] ∧ (Lit.int K x0).wf = true ∧ (Lit.int K x1).wf = true := by
  obtain ⟨cs, rfl, hsz, _⟩ : ∃ cs, v = .agg cs ∧ cs.size = P.cellsOf t ∧ Row.okWide P w r b0 t cs := by
    simpa [Value.okWide, ht] using hv
  rw [hct] at hsz
  obtain ⟨l⟩ := cs
  obtain ⟨c0, c1, rfl⟩ := list_two l hsz
  obtain ⟨fuel, hf⟩ := h
  obtain ⟨y0, y1, m, hx, hy0, hy1⟩ := trod_two ht hce hf
  obtain ⟨x0, e0, rfl, w0⟩ := DataW.trod_int he hy0
  obtain ⟨x1, e1, rfl, w1⟩ := DataW.trod_int he hy1
  simp at e0 e1
  subst e0 e1
  simp only [Prod.mk.injEq] at hx
  obtain ⟨rfl, rfl⟩ := hx
  exact ⟨x0, x1, rfl, rfl, rfl, w0, w1⟩

theorem shut_ints2 {t e : TypeId} {K : IntKind} {x0 x1 : Int} (ht : P.underlying t = some (.array 2 e)) (he : P.underlying e = some (.int K)) (hct : P.cellsOf t = 2) (hce : P.cellsOf e = 1) (w0 : (Lit.int K x0).wf = true) (w1 : (Lit.int K x1).wf = true) :
    DataW.Trod enc P w base spare held t (.agg #[.int K x0, .int K x1]) (.agg [.lit (.int K x0), .lit (.int K x1)]) [] :=
  ⟨2, by simp [DataW.trod, Value.cells, ht, he, hct, hce, w0, w1, show List.range 2 = [0, 1] from rfl]⟩
end
end Go.Proofs.Ytkmdajenbidaaaa

namespace Go.Proofs.Ytkmdajenbidaaaa
open Go.ChangeShapes Go.WideShapes Go.RowKit

section
variable {H : Type} {enc : TypeId × Value → H} {P : Program} {w : World} {base : Nat} {spare : Nat → Bool} {held : Bool}
theorem strs_of {t e : TypeId} {a : Option Addr} {len cap : Nat} {d : DataW H} {p : List MemPlace} (ht : P.underlying t = some (.slice e)) (he : P.underlying e = some .string) (hc : P.cellsOf e = 1)
    (h : DataW.Trod enc P w base (fun _ => true) held t (.slice a len cap) d p) : ∃ l, StrsAt w a len l ∧ len ≤ maxLen ∧ ∀ s ∈ l, s.size ≤ maxLen := by
  obtain ⟨fuel, hf⟩ := h
  rcases open_strings ht he hc hf with ⟨hcs, _⟩ | ⟨x, n, c, ss, hcs, _, hl, hm, hz, _, hcell, hsz⟩
  · simp [Value.cells] at hcs
    obtain ⟨rfl, rfl, rfl⟩ := hcs
    exact ⟨[], ⟨rfl, .inl rfl⟩, Nat.zero_le _, fun s hs => by cases hs⟩
  · simp [Value.cells] at hcs
    obtain ⟨rfl, rfl, rfl⟩ := hcs
    have hz' : ss.length = cap := by simpa using hz
    refine ⟨ss.take len, ⟨by simp; omega, ?_⟩, Nat.le_trans hl hm, fun s hs => hsz s (List.mem_of_mem_take hs)⟩
    by_cases h0 : len = 0
    · exact .inl h0
    · obtain ⟨b, off, spot⟩ := x
      have hsp : spot = none := by simpa [Addr.add] using World.cell?_spot (hcell 0 (by omega))
      subst hsp
      refine .inr ⟨b, off, rfl, fun i hi => ?_⟩
      have h2 := hcell i (by omega)
      have e1 : strL (ss.take len) i = ss.getD i ByteArray.empty := by
        unfold strL
        rw [List.getD_eq_getElem?_getD, List.getD_eq_getElem?_getD, List.getElem?_take, if_pos hi]
        rfl
      rw [e1, ← Go.WideShapes.add_plain]
      exact h2
end
end Go.Proofs.Ytkmdajenbidaaaa

/- The document's relay (layer 21): New, Bytes, SameItems, answer, fails. -/
namespace Go.Proofs.Ytkmdajenbidaaaa
open Go.RowKit
set_option maxRecDepth 100000
set_option linter.unusedSimpArgs false
set_option linter.unusedVariables false

/-- The document's relay as a value. -/
def rdA (X : RlT) (a : Option Addr) (c : Nat) : Array Value := #[.int .i64 X.1, .int .i64 X.2.1, .int .i64 X.2.2.1.1, .int .i64 (lastL X), .slice a X.2.2.2.length c, .bool (decide (X.2.2.1.1 ≠ 0)), .int .i64 X.2.2.1.1, .int .i64 X.2.2.1.2.1, .string X.2.2.1.2.2]

set_option maxHeartbeats 2000000 in
theorem rbytes21_gen (X : RlT) (hb : bytesL X ≤ 4000000) (hm : X.2.2.2.length ≤ 1024) (a : Option Addr) (c : Nat) (w : World) (hI : ItsAt w a X.2.2.2.length X.2.2.2) : Calls Try.prog 14 #[.agg (rdA X a c)] w fun e w' => e = .returned (.int .i64 (bytesL X : Int)) ∧ Below w.heap.size w w' := by
  obtain ⟨g, q, ⟨s, ep, bl⟩, l⟩ := X
  unfold bytesL at hb ⊢
  simp only [rdA] at hb hm hI ⊢
  obtain ⟨La, hLa⟩ : ∃ La, lastL (g, q, (s, ep, bl), l) = La := ⟨_, rfl⟩
  obtain ⟨hs, hhs⟩ : ∃ hs : Bool, decide (s ≠ 0) = hs := ⟨_, rfl⟩
  obtain ⟨n, hn⟩ : ∃ n, l.length = n := ⟨_, rfl⟩
  obtain ⟨M, hM⟩ : ∃ M, bl.size + sizeL l = M := ⟨_, rfl⟩
  rw [hLa, hhs]
  rw [hM] at hb ⊢
  rw [hn] at hI hm ⊢
  have HL : Hid (l.length = n) := hn
  have HI : Hid (ItsAt w a n l) := hI
  have HM : Hid (bl.size + sizeL l = M) := hM
  have HZ : Hid (M ≤ 4000000) := hb
  have hF : Blk (w.alloc (.cells #[.int .i64 g, .int .i64 q, .int .i64 s, .int .i64 La, .slice a n c, .bool hs, .int .i64 s, .int .i64 ep, .string bl] 33)) 33 w.heap.size #[.int .i64 g, .int .i64 q, .int .i64 s, .int .i64 La, .slice a n c, .bool hs, .int .i64 s, .int .i64 ep, .string bl] := Blk.new _ _ _
  have HB0 : Hid (Below w.heap.size w (w.alloc (.cells #[.int .i64 g, .int .i64 q, .int .i64 s, .int .i64 La, .slice a n c, .bool hs, .int .i64 s, .int .i64 ep, .string bl] 33))) := below_new _ _
  have HF : Hid (Blk _ 33 w.heap.size _) := hF
  have d8 : (w.alloc (.cells #[.int .i64 g, .int .i64 q, .int .i64 s, .int .i64 La, .slice a n c, .bool hs, .int .i64 s, .int .i64 ep, .string bl] 33)).cell? ⟨w.heap.size, 8, none⟩ = some (.string bl) := hF.cell 8
  clear hLa hhs hn hM hb hI hF
  go_enter Try.func14, Try.ntmps14
  go_wp2_with fail
  obtain ⟨W0, hW0⟩ : ∃ W0, w.alloc (.cells #[.int .i64 g, .int .i64 q, .int .i64 s, .int .i64 La, .slice a n c, .bool hs, .int .i64 s, .int .i64 ep, .string bl] 33) = W0 := ⟨_, rfl⟩
  rw [hW0] at HF HB0 ⊢
  clear hW0 d8
  go_loopw [3, 4] (fun x i wr => ∃ k : Nat, k ≤ n ∧ i = .int .i64 k ∧ x = .int .i64 ((bl.size + sizeL (l.take k) : Nat) : Int) ∧ Hid (Below W0.heap.size W0 wr)) (fun _ i _ => n - (intOf i).toNat)
  case atStart => exact ⟨0, Nat.zero_le _, rfl, by simp [sizeL], Below.refl _ _⟩
  case round =>
    obtain ⟨k, hk, rfl, rfl, HW⟩ := hrel
    have d4 := (HF.out.on HW.out).cell 4
    simp only [List.getElem?_toArray] at d4
    by_cases hlt : k < n
    · have b0 : (k : Int) < (n : Int) := by omega
      obtain ⟨lb, off, rfl, hcl⟩ := (HI.out.below (HB0.out.trans (HW.out.mono HB0.out.size))).2.resolve_left (by omega)
      obtain ⟨k0, k1, k2⟩ := hcl k hlt
      have hs1 := sizeL_take l k (by rw [HL.out]; exact hlt)
      have hs2 := sizeL_split l (k + 1)
      have hz := HZ.out
      have hmm := HM.out
      obtain ⟨⟨x0, x1, x2⟩, hx⟩ : ∃ x, itL l k = x := ⟨_, rfl⟩
      rw [hx] at k0 k1 k2 hs1
      simp only at k0 k1 k2 hs1
      obtain ⟨m, hmq⟩ : ∃ m, bl.size + sizeL (l.take k) = m := ⟨_, rfl⟩
      obtain ⟨m2, hm2⟩ : ∃ m2, bl.size + sizeL (l.take (k + 1)) = m2 := ⟨_, rfl⟩
      have hw : IntKind.i64.wrap ((m : Int) + (x2.size : Int)) = (m2 : Int) := by rw [IntKind.wrap_i64]; omega
      have HM2 : Hid (bl.size + sizeL (l.take (k + 1)) = m2) := hm2
      rw [hmq]
      clear hx hcl hs1 hs2 hz hmm hmq hm2
      go_wp2_with fail
      refine ⟨?_, ?_⟩
      · first
        | exact ⟨k + 1, by omega, by go_num, by rw [HM2.out], HW⟩
        | ((repeat apply Exists.intro); refine ⟨?_, rfl⟩; exact ⟨k + 1, by omega, by go_num, by rw [HM2.out], HW⟩)
      · simp [intOf] <;> omega
    · obtain rfl : k = n := by omega
      have b0 : ¬ ((k : Int) < (k : Int)) := by omega
      have ht : bl.size + sizeL (l.take k) = M := by rw [List.take_of_length_le (by rw [HL.out]; exact Nat.le_refl _)]; exact HM.out
      rw [ht]
      clear ht HM HZ HI HL
      go_wp2_with fail
      go_ret
      exact ⟨rfl, HB0.out.trans (HW.out.mono HB0.out.size)⟩

theorem rbytes21_any (X : RlT) (N : Nat) (hX : RlOk N X) (a : Option Addr) (c : Nat) (w : World) (hI : ItsAt w a X.2.2.2.length X.2.2.2) : Calls Try.prog 14 #[.agg (rdA X a c)] w fun e w' => e = .returned (.int .i64 (bytesL X : Int)) ∧ Below w.heap.size w w' :=
  rbytes21_gen X (by have := hX.bytes; have := hX.q1; omega) hX.many a c w hI

end Go.Proofs.Ytkmdajenbidaaaa

/- The document's relay (layer 21): New. -/
namespace Go.Proofs.Ytkmdajenbidaaaa
open Go.RowKit
set_option maxRecDepth 100000
set_option linter.unusedSimpArgs false
set_option linter.unusedVariables false

/-- The document's relay made: what New answers, of numbers that may be. -/
theorem rnew21_any (g q : Int) (w : World) (h1 : ¬ g < 0) (h2 : ¬ 1099511627775 < g) (h3 : ¬ q < 0) (h4 : ¬ 1048576 < q) : Calls Try.prog 5 #[.int .i64 g, .int .i64 q] w fun e w' => e = .returned (.tuple #[.agg (rdA (newR g q) none 0), .int .i64 0]) ∧ Below w.heap.size w w' := by
  go_enter Try.func5, Try.ntmps5
  go_wp2_with fail
  exact bodyPost_rowTmp rfl w.heap.size #[.int .i64 g, .int .i64 q, .int .i64 0, .int .i64 0, .slice none 0 0, .bool false, .int .i64 0, .int .i64 0, .string ⟨#[]⟩] _ rfl rfl rfl (Blk.new _ _ _) _ Try.underlying33 rfl (by kernel_rfl) ⟨rfl, below_new w _⟩

/-- What the document's New answers of numbers that may not be. -/
theorem rnew21_bad (g q : Int) (w : World) (h : g < 0 ∨ 1099511627775 < g ∨ q < 0 ∨ 1048576 < q) : Calls Try.prog 5 #[.int .i64 g, .int .i64 q] w fun e w' => e = .returned (.tuple #[.agg #[.int .i64 0, .int .i64 0, .int .i64 0, .int .i64 0, .slice none 0 0, .bool false, .int .i64 0, .int .i64 0, .string ⟨#[]⟩], .int .i64 1]) ∧ Below w.heap.size w w' := by
  by_cases h1 : g < 0
  · go_enter Try.func5, Try.ntmps5
    go_wp2_with fail
    exact bodyPost_rowTmp rfl w.heap.size #[.int .i64 0, .int .i64 0, .int .i64 0, .int .i64 0, .slice none 0 0, .bool false, .int .i64 0, .int .i64 0, .string ⟨#[]⟩] _ rfl rfl rfl (Blk.new _ _ _) _ Try.underlying33 rfl (by kernel_rfl) ⟨rfl, below_new w _⟩
  · by_cases h2 : 1099511627775 < g
    · go_enter Try.func5, Try.ntmps5
      go_wp2_with fail
      exact bodyPost_rowTmp rfl w.heap.size #[.int .i64 0, .int .i64 0, .int .i64 0, .int .i64 0, .slice none 0 0, .bool false, .int .i64 0, .int .i64 0, .string ⟨#[]⟩] _ rfl rfl rfl (Blk.new _ _ _) _ Try.underlying33 rfl (by kernel_rfl) ⟨rfl, below_new w _⟩
    · by_cases h3 : q < 0
      · go_enter Try.func5, Try.ntmps5
        go_wp2_with fail
        exact bodyPost_rowTmp rfl w.heap.size #[.int .i64 0, .int .i64 0, .int .i64 0, .int .i64 0, .slice none 0 0, .bool false, .int .i64 0, .int .i64 0, .string ⟨#[]⟩] _ rfl rfl rfl (Blk.new _ _ _) _ Try.underlying33 rfl (by kernel_rfl) ⟨rfl, below_new w _⟩
      · have h4 : 1048576 < q := by omega
        clear h
        go_enter Try.func5, Try.ntmps5
        go_wp2_with fail
        exact bodyPost_rowTmp rfl w.heap.size #[.int .i64 0, .int .i64 0, .int .i64 0, .int .i64 0, .slice none 0 0, .bool false, .int .i64 0, .int .i64 0, .string ⟨#[]⟩] _ rfl rfl rfl (Blk.new _ _ _) _ Try.underlying33 rfl (by kernel_rfl) ⟨rfl, below_new w _⟩

set_option maxHeartbeats 2000000 in
/-- The document's answer: a frame, put, of the relay's group. -/
theorem ranswer21_any (X : RlT) (xa : Option Addr) (xc : Nat) (F : FrmT) (a : Option Addr) (c : Nat) (w : World) (hn : F.2.2.2.2.2.2.1.length ≤ 1048576) (hI : ItsAt w a F.2.2.2.2.2.2.1.length F.2.2.2.2.2.2.1) (hz : ∀ i, (itL F.2.2.2.2.2.2.1 i).2.2.size ≤ 1000000) (hb : F.2.2.2.2.2.1.size ≤ 1000000) :
    Calls Try.prog 28 #[.agg (rdA X xa xc), .agg (frmA F a c)] w fun e w' => e = .returned (.string (putFC (withG F X.1)).1) ∧ Below w.heap.size w w' := by
  have CP : ∀ W, Below w.heap.size w W → Calls Try.prog 8 #[.agg (frmA (withG F X.1) a c)] W fun e w' => e = .returned (.tuple #[.string (putFC (withG F X.1)).1, .int .i64 (putFC (withG F X.1)).2]) ∧ Below W.heap.size W w' := fun W hW => rputF_any (withG F X.1) a c W hn (hI.below hW) hz hb
  obtain ⟨s, hs⟩ : ∃ s, (putFC (withG F X.1)).1 = s := ⟨_, rfl⟩
  obtain ⟨q, hq⟩ : ∃ q, (putFC (withG F X.1)).2 = q := ⟨_, rfl⟩
  rw [hs] at CP ⊢
  rw [hq] at CP
  have HB : Hid (∀ o o', Below w.heap.size w ((w.alloc o).alloc o')) := fun o o' => (below_new w o).alloc (Nat.le_of_lt (by simp)) o'
  unfold rdA frmA withG at *
  obtain ⟨f0, f1, f2, f3, f4, f5, f6, f7⟩ := F
  obtain ⟨g, xq, ⟨xs, xe, xb⟩, l⟩ := X
  simp only at CP ⊢ hn
  generalize lastL _ = La
  generalize decide (xs ≠ 0) = hv
  generalize hL : f6.length = n at CP hn
  clear hI hz hb hn hs hq
  have C0 := CP _ (HB.out (.cells #[.int .i64 g, .int .i64 xq, .int .i64 xs, .int .i64 La, .slice xa l.length xc, .bool hv, .int .i64 xs, .int .i64 xe, .string xb] 33) (.cells #[.int .i64 f0, .int .i64 g, .int .i64 f2, .int .i64 f3, .int .i64 f4, .string f5, .slice a n c, .int .i64 f7] 39))
  go_enter Try.func28, Try.ntmps28
  go_wp2_with fail
  refine C0.mono ?_
  rintro e w2 ⟨rfl, hb2⟩
  have HZ : Hid (Below w.heap.size w w2) := (HB.out _ _).trans (hb2.mono (HB.out _ _).size)
  clear hb2 C0 CP HB hL
  go_wp2_with fail
  go_ret
  exact ⟨rfl, HZ.out⟩

set_option maxHeartbeats 2000000 in
/-- The document's fails: the answer that tells an error. -/
theorem rfails21_any (X : RlT) (xa : Option Addr) (xc : Nat) (er : Int) (w : World) :
    Calls Try.prog 24 #[.agg (rdA X xa xc), .int .i64 er] w fun e w' => e = .returned (.string (putFC (withG (errF er) X.1)).1) ∧ Below w.heap.size w w' := by
  have CP : ∀ W, Calls Try.prog 28 #[.agg (rdA X xa xc), .agg (frmA (errF er) none 0)] W fun e w' => e = .returned (.string (putFC (withG (errF er) X.1)).1) ∧ Below W.heap.size W w' := fun W => ranswer21_any X xa xc (errF er) none 0 W (by show 0 ≤ _; decide) ⟨rfl, Or.inl rfl⟩ (fun i => by show (itL [] i).2.2.size ≤ _; simp [itL]) (by show (ByteArray.mk #[]).size ≤ _; decide)
  obtain ⟨s, hs⟩ : ∃ s, (putFC (withG (errF er) X.1)).1 = s := ⟨_, rfl⟩
  rw [hs] at CP ⊢
  have HB : Hid (∀ o, Below w.heap.size w (w.alloc o)) := fun o => below_new w o
  unfold rdA frmA errF at *
  obtain ⟨g, xq, ⟨xs, xe, xb⟩, l⟩ := X
  simp only [List.length_nil] at CP ⊢
  generalize lastL _ = La at CP ⊢
  generalize decide (xs ≠ 0) = hv at CP ⊢
  clear hs
  have C0 := CP (w.alloc (.cells #[.int .i64 g, .int .i64 xq, .int .i64 xs, .int .i64 La, .slice xa l.length xc, .bool hv, .int .i64 xs, .int .i64 xe, .string xb] 33))
  go_enter Try.func24, Try.ntmps24
  go_wp2_with fail
  refine C0.mono ?_
  rintro e w2 ⟨rfl, hb2⟩
  have HZ : Hid (Below w.heap.size w w2) := (HB.out _).trans (hb2.mono (HB.out _).size)
  clear hb2 C0 CP HB
  go_wp2_with fail
  go_ret
  exact ⟨rfl, HZ.out⟩
end Go.Proofs.Ytkmdajenbidaaaa

/- The document's relay (layer 21): SameItems. -/
namespace Go.Proofs.Ytkmdajenbidaaaa
open Go.RowKit
set_option maxRecDepth 100000
set_option linter.unusedSimpArgs false
set_option linter.unusedVariables false

set_option maxRecDepth 100000 in
set_option maxHeartbeats 2000000 in
theorem rsameItems21_any (l m : List (Int × Int × ByteArray)) (D : Bool) (hD : D = true ↔ l = m) (a a' : Option Addr) (n n' c c' : Nat) (w : World) (hn : n ≤ 1048576) (hn' : n' ≤ 1048576) (hI : ItsAt w a n l) (hI' : ItsAt w a' n' m) :
    Calls Try.prog 15 #[.slice a n c, .slice a' n' c'] w fun e w' => e = .returned (.bool D) ∧ Below w.heap.size w w' := by
  have HI : Hid (ItsAt w a n l) := hI
  have HI' : Hid (ItsAt w a' n' m) := hI'
  have HD : Hid (D = true ↔ l = m) := hD
  have hl := hI.1
  have hl' := hI'.1
  clear hI hI' hD
  by_cases hnn : n = n'
  · subst hnn
    have g0 : ((n : Int) != (n : Int)) = false := by simp
    go_enter Try.func15, Try.ntmps15
    go_wp2_with fail
    go_loopw [5] (fun i wr => ∃ k : Nat, k ≤ n ∧ i = .int .i64 k ∧ Hid (∀ j, j < k → itL l j = itL m j) ∧ Below w.heap.size w wr) (fun i _ => n - (intOf i).toNat)
    case atStart => exact ⟨0, Nat.zero_le _, rfl, fun j hj => absurd hj (Nat.not_lt_zero _), Below.refl _ _⟩
    case round =>
      obtain ⟨k, hk, rfl, HN, hbl⟩ := hrel
      by_cases hlt : k < n
      · have HIr := HI.out.below hbl
        have HIr' := HI'.out.below hbl
        obtain ⟨b, off, rfl, hc⟩ := HIr.2.resolve_left (by omega)
        obtain ⟨b', off', rfl, hc'⟩ := HIr'.2.resolve_left (by omega)
        obtain ⟨x0, x1, x2⟩ := hc k hlt
        obtain ⟨y0, y1, y2⟩ := hc' k hlt
        have b0 : (k : Int) < (n : Int) := by omega
        clear HIr HIr' hc hc'
        by_cases he : itL l k = itL m k
        · have hE := fun w => itemEq_is (itL l k) (itL m k) true (decide_eq_true he) w
          have HN' : Hid (∀ j, j < k + 1 → itL l j = itL m j) := by
            show ∀ j, _
            intro j hj
            by_cases e : j = k
            · subst e; exact he
            · exact HN.out j (by omega)
          clear HN he
          obtain ⟨⟨p1, p2, p3⟩, hp⟩ : ∃ s, s = itL l k := ⟨_, rfl⟩
          obtain ⟨⟨q1, q2, q3⟩, hq⟩ : ∃ s, s = itL m k := ⟨_, rfl⟩
          rw [← hp] at x0 x1 x2 hE
          rw [← hq] at y0 y1 y2 hE
          simp only [itemA] at hE
          clear hp hq
          go_wp2_with fail
          go_quiet (fail)
          go_wp2_with fail
          refine ⟨⟨k + 1, by omega, by go_num, HN', below_drewN hbl _⟩, ?_⟩
          simp [intOf]; omega
        · have hE := fun w => itemEq_is (itL l k) (itL m k) false (decide_eq_false he) w
          obtain rfl : D = false := by
            cases D with
            | false => rfl
            | true => exact absurd (congrArg (fun z => itL z k) (HD.out.1 rfl)) he
          clear HN he HD
          obtain ⟨⟨p1, p2, p3⟩, hp⟩ : ∃ s, s = itL l k := ⟨_, rfl⟩
          obtain ⟨⟨q1, q2, q3⟩, hq⟩ : ∃ s, s = itL m k := ⟨_, rfl⟩
          rw [← hp] at x0 x1 x2 hE
          rw [← hq] at y0 y1 y2 hE
          simp only [itemA] at hE
          clear hp hq
          go_wp2_with fail
          go_quiet (fail)
          go_wp2_with fail
          go_ret
          exact ⟨rfl, below_drewN hbl _⟩
      · have hk' : k = n := by omega
        subst hk'
        obtain rfl : D = true := HD.out.2 (same_list19 _ l m (by omega) (fun i hi => HN.out i (by omega)))
        go_wp2
        go_ret
        exact ⟨rfl, hbl⟩
  · have g0 : ((n : Int) != (n' : Int)) = true := by rw [bne_iff_ne]; omega
    obtain rfl : D = false := by
      cases D with
      | false => rfl
      | true => have := congrArg List.length (HD.out.1 rfl); omega
    clear HD HI HI'
    go_enter Try.func15, Try.ntmps15
    go_wp2_with fail
    go_ret
    exact ⟨rfl, Below.refl _ _⟩
end Go.Proofs.Ytkmdajenbidaaaa

/- The document's relay (layer 21): appends. (mkrred.py) -/
namespace Go.Proofs.Ytkmdajenbidaaaa
open Go.RowKit
set_option maxRecDepth 100000
set_option linter.unusedSimpArgs false
set_option linter.unusedVariables false
set_option maxRecDepth 100000

/-- A row is not in a block, or it is empty. -/
def Av (a : Option Addr) (n g : Nat) : Prop := n = 0 ∨ ∀ ad, a = some ad → ad.block ≠ g

/-- The document's relay, a value that comes out of a call: its row is apart from all from which it was apart. -/
def RdTo (w : World) (xa : Option Addr) (xn : Nat) (w' : World) (v : Value) (X : RlT) : Prop := ∃ a c, v = .agg (rdA X a c) ∧ ItsAt w' a X.2.2.2.length X.2.2.2 ∧ SliceOk a X.2.2.2.length c ∧ ∀ g, g < w.heap.size → Av xa xn g → Av a X.2.2.2.length g

/-- The relay, the frame and the result, each in a block of its own. -/
structure ApS (w : World) (A F Z : Array Value) (ra : Option Addr) (rn : Nat) (rl : List ItT) (W : World) : Prop where
  a : Blk W 33 w.heap.size A
  f : Blk W 39 (w.heap.size + 1) F
  z : Blk W 33 (w.heap.size + 1 + 1) Z
  b : Below w.heap.size w W
  r : ItsAt W ra rn rl
  ne : rn = 0 ∨ ∀ ad, ra = some ad → ad.block < w.heap.size ∨ w.heap.size + 1 + 1 < ad.block

theorem its_row {W : World} {ra : Option Addr} {rn : Nat} {rl : List ItT} (h : ItsAt W ra rn rl) (g : Nat) (cs : Array Value) (hn : rn = 0 ∨ ∀ ad, ra = some ad → ad.block ≠ g) : ItsAt (W.setRow g cs) ra rn rl := by
  rcases hn with h0 | h1
  · exact ⟨h.1, .inl h0⟩
  · exact h.setRow g cs h1
theorem its_cell {W : World} {ra : Option Addr} {rn : Nat} {rl : List ItT} (h : ItsAt W ra rn rl) (p : Addr) (u : Value) (hn : rn = 0 ∨ ∀ ad, ra = some ad → ad.block ≠ p.block) : ItsAt (W.setCell p u) ra rn rl := by
  rcases hn with h0 | h1
  · exact ⟨h.1, .inl h0⟩
  · rcases h.2 with h0 | ⟨b, off, rfl, hc⟩
    · exact ⟨h.1, .inl h0⟩
    · have hne : b ≠ p.block := h1 _ rfl
      have hk : ∀ j, (W.setCell p u).cell? ⟨b, j, none⟩ = W.cell? ⟨b, j, none⟩ := fun j => by
        unfold World.cell?
        simp only [Below.heap_setCell W p u b hne]
      exact ⟨h.1, .inr ⟨b, off, rfl, fun i hi => by rw [hk, hk, hk]; exact hc i hi⟩⟩
theorem its_old {w : World} {ra : Option Addr} {rn : Nat} {rl : List ItT} (h : ItsAt w ra rn rl) : rn = 0 ∨ ∀ ad, ra = some ad → ad.block < w.heap.size ∨ w.heap.size + 1 + 1 < ad.block := by
  rcases h.2 with h0 | ⟨b, off, rfl, hc⟩
  · exact .inl h0
  · by_cases h0 : rn = 0
    · exact .inl h0
    · refine .inr (fun ad e => .inl ?_)
      cases e
      have := World.block_lt_of_cell? w _ (hc 0 (by omega)).1
      exact this

theorem ApS.on {w W W' : World} {A F Z : Array Value} {ra : Option Addr} {rn : Nat} {rl : List ItT} (h : ApS w A F Z ra rn rl W) (hb : Below W.heap.size W W') : ApS w A F Z ra rn rl W' := ⟨h.a.on hb, h.f.on hb, h.z.on hb, below_step h.b (Nat.le_refl _) hb, h.r.below hb, h.ne⟩
theorem ApS.new (w : World) (A F Z : Array Value) {ra : Option Addr} {rn : Nat} {rl : List ItT} (h : ItsAt w ra rn rl) : ApS w A F Z ra rn rl (((w.alloc (.cells A 33)).alloc (.cells F 39)).alloc (.cells Z 33)) :=
  have hb : Below w.heap.size w (((w.alloc (.cells A 33)).alloc (.cells F 39)).alloc (.cells Z 33)) := ((below_new w _).alloc (by simp) _).alloc (by simp; omega) _
  ⟨((Blk.new w _ _).alloc _).alloc _, (Blk.new' _ _ _ _ (by simp)).alloc _, Blk.new' _ _ _ _ (by simp), hb, h.below hb, its_old h⟩
theorem ApS.setZ {w W : World} {A F Z : Array Value} {ra : Option Addr} {rn : Nat} {rl : List ItT} (h : ApS w A F Z ra rn rl W) (Z' : Array Value) : ApS w A F Z' ra rn rl (W.setRow (w.heap.size + 1 + 1) Z') :=
  ⟨h.a.setRowOther _ (by omega) _, h.f.setRowOther _ (by omega) _, h.z.setRow _, below_setRow h.b (by omega) _, its_row h.r _ _ (h.ne.imp id (fun k ad e => by have := k ad e; omega)), h.ne⟩
theorem ApS.setA {w W : World} {A F Z : Array Value} {ra : Option Addr} {rn : Nat} {rl : List ItT} (h : ApS w A F Z ra rn rl W) (j : Nat) (u : Value) : ApS w (A.setIfInBounds j u) F Z ra rn rl (W.setCell ⟨w.heap.size, j, none⟩ u) :=
  ⟨h.a.setAt j u, h.f.other ⟨w.heap.size, j, none⟩ (by show w.heap.size + 1 ≠ w.heap.size; omega) u, h.z.other ⟨w.heap.size, j, none⟩ (by show w.heap.size + 1 + 1 ≠ w.heap.size; omega) u, h.b.setCell (p := ⟨w.heap.size, j, none⟩) (Nat.le_refl _) u, its_cell h.r _ _ (h.ne.imp id (fun k ad e => by have := k ad e; show ad.block ≠ w.heap.size; omega)), h.ne⟩
theorem ApS.grown {w W W' : World} {A F Z : Array Value} {ra : Option Addr} {rn : Nat} {rl : List ItT} {r : Option Nat} (h : ApS w A F Z ra rn rl W) (g : W.grownBy W' r) (hr : ∀ j, r = some j → w.heap.size + 1 + 1 < j) {ra' : Option Addr} {rn' : Nat} {rl' : List ItT} (h1 : ItsAt W' ra' rn' rl') (h2 : rn' = 0 ∨ ∀ ad, ra' = some ad → ad.block < w.heap.size ∨ w.heap.size + 1 + 1 < ad.block) : ApS w A F Z ra' rn' rl' W' :=
  ⟨h.a.grown g (fun e => by have := hr _ e.symm; omega), h.f.grown g (fun e => by have := hr _ e.symm; omega), h.z.grown g (fun e => by have := hr _ e.symm; omega), h.b.grown g h.b.size (fun j hj => by have := hr _ hj; omega), h1, h2⟩

theorem ApS.cells {w W : World} {v0 v1 v2 v3 v4 v5 v6 v7 v8 f0 f1 f2 f3 f4 f5 f6 f7 : Value} {Z : Array Value} {ra : Option Addr} {rn : Nat} {rl : List ItT} (h : ApS w #[v0, v1, v2, v3, v4, v5, v6, v7, v8] #[f0, f1, f2, f3, f4, f5, f6, f7] Z ra rn rl W) :
    (W.cell? ⟨w.heap.size, 0, none⟩ = some v0 ∧ W.cell? ⟨w.heap.size, 1, none⟩ = some v1 ∧ W.cell? ⟨w.heap.size, 2, none⟩ = some v2 ∧ W.cell? ⟨w.heap.size, 3, none⟩ = some v3 ∧ W.cell? ⟨w.heap.size, 4, none⟩ = some v4 ∧ W.cell? ⟨w.heap.size, 5, none⟩ = some v5 ∧ W.cell? ⟨w.heap.size, 6, none⟩ = some v6 ∧ W.cell? ⟨w.heap.size, 7, none⟩ = some v7 ∧ W.cell? ⟨w.heap.size, 8, none⟩ = some v8) ∧ (W.cell? ⟨w.heap.size + 1, 0, none⟩ = some f0 ∧ W.cell? ⟨w.heap.size + 1, 1, none⟩ = some f1 ∧ W.cell? ⟨w.heap.size + 1, 2, none⟩ = some f2 ∧ W.cell? ⟨w.heap.size + 1, 3, none⟩ = some f3 ∧ W.cell? ⟨w.heap.size + 1, 4, none⟩ = some f4 ∧ W.cell? ⟨w.heap.size + 1, 5, none⟩ = some f5 ∧ W.cell? ⟨w.heap.size + 1, 6, none⟩ = some f6 ∧ W.cell? ⟨w.heap.size + 1, 7, none⟩ = some f7) :=
  ⟨⟨h.a.cell 0, h.a.cell 1, h.a.cell 2, h.a.cell 3, h.a.cell 4, h.a.cell 5, h.a.cell 6, h.a.cell 7, h.a.cell 8⟩, ⟨h.f.cell 0, h.f.cell 1, h.f.cell 2, h.f.cell 3, h.f.cell 4, h.f.cell 5, h.f.cell 6, h.f.cell 7⟩⟩

theorem its_at {W : World} {b off n k : Nat} {l : List ItT} {p : Int} (h : ItsAt W (some ⟨b, off, none⟩) n l) (hk : k < n) (hp : (itL l k).1 = p) : W.cell? ⟨b, off + k * 3, none⟩ = some (.int .i64 p) := by
  obtain ⟨b', off', e, hc⟩ := h.2.resolve_left (by omega)
  cases e
  rw [← hp]
  exact (hc k hk).1

theorem own_ne {w W : World} {e : TypeId} {c n n' : Nat} {v : Value} {xs : List Value} (h : W.ownsRow (w.heap.size + 1 + 1 + 1) e c v n xs) {a : Option Addr} {cap : Nat} (hv : v = .slice a n' cap) : n' = 0 ∨ ∀ ad, a = some ad → ad.block < w.heap.size ∨ w.heap.size + 1 + 1 < ad.block := by
  have hl := World.ownsRow.lt h
  rcases h.2 with ⟨rfl, _⟩ | ⟨g, cap', cur, rfl, _⟩
  · cases hv; exact .inl rfl
  · cases hv
    refine .inr (fun ad e => .inr ?_)
    cases e
    have := (hl g rfl).1
    show _ < g
    omega
theorem own_ok {W : World} {B : Nat} {e : TypeId} {c n n' : Nat} {v : Value} {xs : List Value} (h : W.ownsRow B e c v n xs) {a : Option Addr} {cap : Nat} (hv : v = .slice a n' cap) : SliceOk a n' cap := by
  rcases h.2 with ⟨rfl, _⟩ | ⟨g, cap', cur, rfl, _, _, hc, _⟩
  · cases hv; exact .inl ⟨rfl, rfl, rfl⟩
  · cases hv; exact .inr ⟨_, rfl, hc⟩

theorem own_ge {W : World} {B : Nat} {e : TypeId} {c n n' : Nat} {v : Value} {xs : List Value} (h : W.ownsRow B e c v n xs) {a : Option Addr} {cap : Nat} (hv : v = .slice a n' cap) : n' = 0 ∨ ∀ ad, a = some ad → B ≤ ad.block := by
  have hl := World.ownsRow.lt h
  rcases h.2 with ⟨rfl, _⟩ | ⟨g, cap', cur, rfl, _⟩
  · cases hv; exact .inl rfl
  · cases hv
    refine .inr (fun ad e => ?_)
    cases e
    exact (hl g rfl).1

theorem its_src {w : World} {a : Option Addr} {n c : Nat} {l : List ItT} (hk : SliceOk a n c) (h : ItsAt w a n l) : SrcAt w (.slice a n c) n (cellsI l) := by
  rcases hk with ⟨rfl, rfl, rfl⟩ | ⟨x, rfl, hc⟩
  · refine .inl ⟨rfl, rfl, ?_⟩
    have := h.1
    rw [List.length_eq_zero_iff.1 this]; rfl
  · refine .inr ⟨x, c, rfl, fun j u hj => ?_⟩
    have hjl := (List.getElem?_eq_some_iff.1 hj).1
    rw [cellsI_len] at hjl
    have hln := h.1
    obtain ⟨b, off, hx, hcl⟩ := h.2.resolve_left (by omega)
    cases hx
    obtain ⟨u', h1, h2⟩ := cellsI_at l (j / 3) (by omega) (j % 3) (by omega)
    rw [show j / 3 * 3 + j % 3 = j by omega, hj] at h2
    cases h2
    obtain ⟨c0, c1, c2⟩ := hcl (j / 3) (by omega)
    rw [Go.WideShapes.add_plain]
    rcases (show j % 3 = 0 ∨ j % 3 = 1 ∨ j % 3 = 2 by omega) with e | e | e
    · rw [show off + j = off + j / 3 * 3 by omega, c0, ← h1, e]; rfl
    · rw [show off + j = off + j / 3 * 3 + 1 by omega, c1, ← h1, e]; rfl
    · rw [show off + j = off + j / 3 * 3 + 2 by omega, c2, ← h1, e]; rfl

set_option maxHeartbeats 8000000 in
theorem rappends21_any (X : RlT) (N : Nat) (hX : RlOk N X) (hN : N ≤ 4611686018427387000) (F : FrmT) (hF : FrOk F) (fa : Option Addr) (fc : Nat) (xa : Option Addr) (xc : Nat) (w : World) (hI : ItsAt w xa X.2.2.2.length X.2.2.2) (hS : SliceOk xa X.2.2.2.length xc) :
    Calls Try.prog 25 #[.agg (rdA X xa xc), .agg (frmA F fa fc)] w fun e w' => ∃ v', e = .returned (.tuple #[v', .string (putFC (withG (addR X F).2 X.1)).1]) ∧ RdTo w xa X.2.2.2.length w' v' (addR X F).1 ∧ Below w.heap.size w w' := by
  have CT' : ∀ (Q : Int) W, Calls Try.prog 28 #[.agg (rdA X xa xc), .agg (frmA (takF Q) none 0)] W fun e w' => e = .returned (.string (putFC (withG (takF Q) X.1)).1) ∧ Below W.heap.size W w' := fun Q W => ranswer21_any X xa xc (takF Q) none 0 W (by show 0 ≤ _; decide) ⟨rfl, Or.inl rfl⟩ (fun i => by show (itL [] i).2.2.size ≤ _; simp [itL]) (by show (ByteArray.mk #[]).size ≤ _; decide)
  have CE' : ∀ (er : Int) W, _ := fun er W => rfails21_any X xa xc er W
  have CY' : ∀ W, Below w.heap.size w W → _ := fun W hW => rbytes21_any X N hX xa xc W (hI.below hW)
  have f4 := hF.bl
  have q2 := hX.many
  have q3 := hX.bytes
  have q4 := hX.q1
  have q5 := hX.q0
  have q6 := hX.last
  have q7 := hX.b0
  unfold addR
  obtain ⟨Kd, G, S, E, M, B, it, er⟩ := F
  have HIX : Hid (RlOk N X ∧ N ≤ 4611686018427387000) := ⟨hX, hN⟩
  obtain ⟨XX, hXX⟩ : ∃ XX, XX = X := ⟨_, rfl⟩
  have HXX : Hid (XX = X) := hXX
  have HFO : Hid (FrOk (Kd, G, S, E, M, B, it, er)) := hF
  rw [← hXX] at HIX
  clear hXX hF hX
  obtain ⟨g, q, ⟨s, ep, bl⟩, l⟩ := X
  obtain ⟨La, hLa⟩ : ∃ La, lastL (g, q, (s, ep, bl), l) = La := ⟨_, rfl⟩
  obtain ⟨hs, hhs⟩ : ∃ hs : Bool, decide (s ≠ 0) = hs := ⟨_, rfl⟩
  obtain ⟨n, hn⟩ : ∃ n, l.length = n := ⟨_, rfl⟩
  obtain ⟨n0, hn0⟩ : ∃ n0, it.length = n0 := ⟨_, rfl⟩
  unfold rdA takF frmA at *
  simp only [hLa, hhs, hn, hn0, List.length_nil] at CT' CE' CY' f4 q2 q3 q4 q5 q6 q7 hI hS ⊢
  have HL : Hid (l.length = n) := hn
  have HI : Hid (ItsAt w xa n l) := hI
  have HSO : Hid (SliceOk xa n xc) := hS
  have HRD : Hid (∀ W, ItsAt W xa n l → RdTo w xa n W (.agg #[.int .i64 g, .int .i64 q, .int .i64 s, .int .i64 La, .slice xa n xc, .bool hs, .int .i64 s, .int .i64 ep, .string bl]) (g, q, (s, ep, bl), l)) := fun W hW => ⟨xa, xc, by unfold rdA; simp only [hLa, hhs, hn], by rw [hn]; exact hW, by rw [hn]; exact hS, fun _ _ hg => by rw [hn]; exact hg⟩
  have HLA : Hid (lastL (g, q, (s, ep, bl), l) = La) := hLa
  have HLB : Hid (0 ≤ La ∧ La ≤ 4611686018427387000) := ⟨by rw [← hLa]; unfold lastL; show 0 ≤ s + (l.length : Int); omega, by omega⟩
  have HHS : Hid (decide (s ≠ 0) = hs) := hhs
  have CT : Hid (∀ (Q : Int) W, _) := CT'
  have CE : Hid (∀ (er : Int) W, _) := CE'
  have CY : Hid (∀ W, _ → _) := CY'
  have HS : Hid (ApS w #[.int .i64 g, .int .i64 q, .int .i64 s, .int .i64 La, .slice xa n xc, .bool hs, .int .i64 s, .int .i64 ep, .string bl] #[.int .i64 Kd, .int .i64 G, .int .i64 S, .int .i64 E, .int .i64 M, .string B, .slice fa n0 fc, .int .i64 er] #[.int .i64 0, .int .i64 0, .int .i64 0, .int .i64 0, .slice none 0 0, .bool false, .int .i64 0, .int .i64 0, .string ⟨#[]⟩] xa n l _) := ApS.new w #[.int .i64 g, .int .i64 q, .int .i64 s, .int .i64 La, .slice xa n xc, .bool hs, .int .i64 s, .int .i64 ep, .string bl] #[.int .i64 Kd, .int .i64 G, .int .i64 S, .int .i64 E, .int .i64 M, .string B, .slice fa n0 fc, .int .i64 er] #[.int .i64 0, .int .i64 0, .int .i64 0, .int .i64 0, .slice none 0 0, .bool false, .int .i64 0, .int .i64 0, .string ⟨#[]⟩] hI
  clear CT' CE' CY' hI hS hn hn0 hLa hhs q6 q7 hN
  cases hf : sameA l E B with
  | some i =>
    obtain ⟨_, hi, hpi, hpm⟩ := fstN_some _ _ 0 i hf
    rw [HL.out, Nat.zero_add] at hi
    obtain ⟨Q, hQ⟩ : ∃ Q, (itL l i).1 = Q := ⟨_, rfl⟩
    simp only [hQ]
    have HQ : Hid ((itL l i).1 = Q) := hQ
    have HPI : Hid ((decide ((itL l i).2.1 = E) && decide ((itL l i).2.2 = B)) = true) := hpi
    have HPM : Hid (∀ m, m < i → (decide ((itL l m).2.1 = E) && decide ((itL l m).2.2 = B)) = false) := fun m hm => hpm m (Nat.zero_le _) hm
    have hnn : n ≤ 1024 := q2
    clear hf hpi hpm hQ f4 q2 q3 q4 q5 CE CY HIX HXX HFO
    go_enter Try.func25, Try.ntmps25
    go_wp2_with fail
    go_loopw [6] (fun iv wr => ∃ k : Nat, k ≤ i ∧ iv = .int .i64 k ∧ Hid (ApS w #[.int .i64 g, .int .i64 q, .int .i64 s, .int .i64 La, .slice xa n xc, .bool hs, .int .i64 s, .int .i64 ep, .string bl] #[.int .i64 Kd, .int .i64 G, .int .i64 S, .int .i64 E, .int .i64 M, .string B, .slice fa n0 fc, .int .i64 er] #[.int .i64 0, .int .i64 0, .int .i64 0, .int .i64 0, .slice none 0 0, .bool false, .int .i64 0, .int .i64 0, .string ⟨#[]⟩] xa n l wr)) (fun iv _ => n - (intOf iv).toNat)
    case atStart => exact ⟨0, Nat.zero_le _, rfl, HS⟩
    case round =>
      clear HS
      obtain ⟨k, hk, rfl, HS⟩ := hrel
      have b0 : (k : Int) < (n : Int) := by omega
      obtain ⟨⟨a0, a1, a2, a3, a4, a5, a6, a7, a8⟩, ⟨f0, f1, f2, f3, f4, f5, f6, f7⟩⟩ := HS.out.cells
      obtain ⟨b, off, rfl, hcl⟩ := HS.out.r.2.resolve_left (by omega)
      obtain ⟨x0, x1, x2⟩ := hcl k (by omega)
      clear hcl
      by_cases hki : k = i
      · subst hki
        have hpk := HPI.out
        have hq := HQ.out
        obtain ⟨⟨p1, p2, p3⟩, hp⟩ : ∃ s, s = itL l k := ⟨_, rfl⟩
        rw [← hp] at x0 x1 x2 hpk hq
        simp only [Bool.and_eq_true, decide_eq_true_eq] at x0 x1 x2 hpk hq
        obtain ⟨k1, k2⟩ := hpk
        subst hq
        have HP : Hid ((itL l k).1 = p1) := by show _ = _; rw [← hp]
        have q0 : (p2 == E) = true := by rw [beq_iff_eq]; exact k1
        have q1 : decide (p2 = E) = true := decide_eq_true k1
        have q2 : (p3.toList == B.toList) = true := by rw [beq_texts19]; exact decide_eq_true k2
        clear hp HPI HPM HQ k1 k2
        go_wp2_with fail
        go_quiet (fail)
        go_wp2_with fail
        have HS1 : Hid (ApS w #[.int .i64 g, .int .i64 q, .int .i64 s, .int .i64 La, .slice (some ⟨b, off, none⟩) n xc, .bool hs, .int .i64 s, .int .i64 ep, .string bl] #[.int .i64 Kd, .int .i64 G, .int .i64 S, .int .i64 E, .int .i64 M, .string B, .slice fa n0 fc, .int .i64 er] #[.int .i64 0, .int .i64 0, .int .i64 0, .int .i64 0, .slice none 0 0, .bool false, .int .i64 0, .int .i64 0, .string ⟨#[]⟩] (some ⟨b, off, none⟩) n l (wr.drewN nq)) := HS.out.on (below_drewN (Below.refl _ _) _)
        obtain ⟨Wd, hWd⟩ : ∃ Wd, wr.drewN nq = Wd := ⟨_, rfl⟩
        rw [hWd] at HS1 ⊢
        have HRD1 := HRD
        have HKN : Hid (k < n) := hi
        clear HS f0 f1 f2 f3 f4 f5 f6 f7 a0 a1 a2 a3 a4 a5 a6 a7 a8 x0 x1 x2 hWd q0 q1 q2 hk hi HRD
        have HD0 : Hid (ApS w #[.int .i64 g, .int .i64 q, .int .i64 s, .int .i64 La, .slice (some ⟨b, off, none⟩) n xc, .bool hs, .int .i64 s, .int .i64 ep, .string bl] #[.int .i64 Kd, .int .i64 G, .int .i64 S, .int .i64 E, .int .i64 M, .string B, .slice fa n0 fc, .int .i64 er] #[.int .i64 0, .int .i64 0, .int .i64 0, .int .i64 0, .slice none 0 0, .bool false, .int .i64 0, .int .i64 0, .string ⟨#[]⟩] (some ⟨b, off, none⟩) n l Wd.drew) := HS1.out.on (Below.refl _ _).drew
        have hS0 := (And.intro HD0.out.cells (its_at HD0.out.r HKN.out HP.out))
        refine wp_region_noPanic ?_
        refine wp_region_held_drew (S := fun W => ((W.cell? ⟨w.heap.size, 0, none⟩ = some (.int .i64 g) ∧ W.cell? ⟨w.heap.size, 1, none⟩ = some (.int .i64 q) ∧ W.cell? ⟨w.heap.size, 2, none⟩ = some (.int .i64 s) ∧ W.cell? ⟨w.heap.size, 3, none⟩ = some (.int .i64 La) ∧ W.cell? ⟨w.heap.size, 4, none⟩ = some (.slice (some ⟨b, off, none⟩) n xc) ∧ W.cell? ⟨w.heap.size, 5, none⟩ = some (.bool hs) ∧ W.cell? ⟨w.heap.size, 6, none⟩ = some (.int .i64 s) ∧ W.cell? ⟨w.heap.size, 7, none⟩ = some (.int .i64 ep) ∧ W.cell? ⟨w.heap.size, 8, none⟩ = some (.string bl)) ∧ (W.cell? ⟨w.heap.size + 1, 0, none⟩ = some (.int .i64 Kd) ∧ W.cell? ⟨w.heap.size + 1, 1, none⟩ = some (.int .i64 G) ∧ W.cell? ⟨w.heap.size + 1, 2, none⟩ = some (.int .i64 S) ∧ W.cell? ⟨w.heap.size + 1, 3, none⟩ = some (.int .i64 E) ∧ W.cell? ⟨w.heap.size + 1, 4, none⟩ = some (.int .i64 M) ∧ W.cell? ⟨w.heap.size + 1, 5, none⟩ = some (.string B) ∧ W.cell? ⟨w.heap.size + 1, 6, none⟩ = some (.slice fa n0 fc) ∧ W.cell? ⟨w.heap.size + 1, 7, none⟩ = some (.int .i64 er))) ∧ W.cell? ⟨b, off + k * 3, none⟩ = some (.int .i64 p1)) (by kernel_rfl) (by first | exact trivial | assumption | exact ⟨by assumption, by assumption⟩) (fun hHeld => ?_)
        refine take_at (i := 0) (v := ?_) rfl rfl (by kernel_rfl) (by kernel_rfl) (by kernel_rfl) (fun _ _ _ h => h) (Or.inl ⟨by rfl, ?_⟩) (by assumption) ?_
        rotate_left
        · intro w hSw; (try dsimp only at hSw); go_simp; try with_reducible rfl
        try simp only [Act.put, List.setIfInBounds_toArray, List.set_cons_zero, List.set_cons_succ]
        refine take_at (i := 1) (v := ?_) rfl rfl (by kernel_rfl) (by kernel_rfl) (by kernel_rfl) (fun _ _ _ h => h) (Or.inl ⟨by rfl, ?_⟩) (by assumption) ?_
        rotate_left
        · intro w hSw; (try dsimp only at hSw); go_simp; try with_reducible rfl
        try simp only [Act.put, List.setIfInBounds_toArray, List.set_cons_zero, List.set_cons_succ]
        refine take_at (i := 2) (v := ?_) rfl rfl (by kernel_rfl) (by kernel_rfl) (by kernel_rfl) (fun _ _ _ h => h) (Or.inl ⟨by rfl, ?_⟩) (by assumption) ?_
        rotate_left
        · intro w hSw; (try dsimp only at hSw); go_simp; try with_reducible rfl
        try simp only [Act.put, List.setIfInBounds_toArray, List.set_cons_zero, List.set_cons_succ]
        refine take_at (i := 3) (v := ?_) rfl rfl (by kernel_rfl) (by kernel_rfl) (by kernel_rfl) (fun _ _ _ h => h) (Or.inl ⟨by rfl, ?_⟩) (by assumption) ?_
        rotate_left
        · intro w hSw; (try dsimp only at hSw); go_simp; try with_reducible rfl
        try simp only [Act.put, List.setIfInBounds_toArray, List.set_cons_zero, List.set_cons_succ]
        refine take_at (i := 4) (v := ?_) rfl rfl (by kernel_rfl) (by kernel_rfl) (by kernel_rfl) (fun _ _ _ h => h) (Or.inl ⟨by rfl, ?_⟩) (by assumption) ?_
        rotate_left
        · intro w hSw; (try dsimp only at hSw); go_simp; try with_reducible rfl
        try simp only [Act.put, List.setIfInBounds_toArray, List.set_cons_zero, List.set_cons_succ]
        refine take_at (i := 5) (v := ?_) rfl rfl (by kernel_rfl) (by kernel_rfl) (by kernel_rfl) (fun _ _ _ h => h) (Or.inl ⟨by rfl, ?_⟩) (by assumption) ?_
        rotate_left
        · intro w hSw; (try dsimp only at hSw); go_simp; try with_reducible rfl
        try simp only [Act.put, List.setIfInBounds_toArray, List.set_cons_zero, List.set_cons_succ]
        refine take_at (i := 6) (v := ?_) rfl rfl (by kernel_rfl) (by kernel_rfl) (by kernel_rfl) (fun _ _ _ h => h) (Or.inl ⟨by rfl, ?_⟩) (by assumption) ?_
        rotate_left
        · intro w hSw; (try dsimp only at hSw); go_simp; try with_reducible rfl
        try simp only [Act.put, List.setIfInBounds_toArray, List.set_cons_zero, List.set_cons_succ]
        refine take_at (i := 7) (v := ?_) rfl rfl (by kernel_rfl) (by kernel_rfl) (by kernel_rfl) (fun _ _ _ h => h) (Or.inl ⟨by rfl, ?_⟩) (by assumption) ?_
        rotate_left
        · intro w hSw; (try dsimp only at hSw); go_simp; try with_reducible rfl
        try simp only [Act.put, List.setIfInBounds_toArray, List.set_cons_zero, List.set_cons_succ]
        refine take_at (i := 8) (v := ?_) rfl rfl (by kernel_rfl) (by kernel_rfl) (by kernel_rfl) (fun _ _ _ h => h) (Or.inl ⟨by rfl, ?_⟩) (by assumption) ?_
        rotate_left
        · intro w hSw; (try dsimp only at hSw); go_simp; try with_reducible rfl
        try simp only [Act.put, List.setIfInBounds_toArray, List.set_cons_zero, List.set_cons_succ]
        refine wpAnyH_ready (rs := [9]) (by kernel_rfl) (by simp) ?_
        refine AllReadyH.cons rfl (fun K hK => ?_) AllReadyH.nil
        go_simp
        refine (CT.out p1 _).mono ?_
        rintro e V ⟨rfl, hb⟩
        have HD1 : Hid (ApS w #[.int .i64 g, .int .i64 q, .int .i64 s, .int .i64 La, .slice (some ⟨b, off, none⟩) n xc, .bool hs, .int .i64 s, .int .i64 ep, .string bl] #[.int .i64 Kd, .int .i64 G, .int .i64 S, .int .i64 E, .int .i64 M, .string B, .slice fa n0 fc, .int .i64 er] #[.int .i64 0, .int .i64 0, .int .i64 0, .int .i64 0, .slice none 0 0, .bool false, .int .i64 0, .int .i64 0, .string ⟨#[]⟩] (some ⟨b, off, none⟩) n l V) := HD0.out.on hb
        clear hb HD0
        refine hK.out _ _ (And.intro HD1.out.cells (its_at HD1.out.r HKN.out HP.out)) (fun hHeld => ?_)
        clear hK K
        refine wpAnyH_ready (rs := [10]) (by kernel_rfl) (by simp) ?_
        refine AllReadyH.cons rfl (fun K hK => ?_) AllReadyH.nil
        refine step_storeRow rfl rfl 33 _ _ rfl (w.heap.size + 1 + 1) #[.int .i64 0, .int .i64 0, .int .i64 0, .int .i64 0, .slice none 0 0, .bool false, .int .i64 0, .int .i64 0, .string ⟨#[]⟩] #[.int .i64 g, .int .i64 q, .int .i64 s, .int .i64 La, .slice (some ⟨b, off, none⟩) n xc, .bool hs, .int .i64 s, .int .i64 ep, .string bl] (by with_unfolding_all rfl) (by with_unfolding_all rfl) HD1.out.z rfl (by kernel_rfl) (by simp [Value.oneCell']) ?_
        have HD2 : Hid (ApS w #[.int .i64 g, .int .i64 q, .int .i64 s, .int .i64 La, .slice (some ⟨b, off, none⟩) n xc, .bool hs, .int .i64 s, .int .i64 ep, .string bl] #[.int .i64 Kd, .int .i64 G, .int .i64 S, .int .i64 E, .int .i64 M, .string B, .slice fa n0 fc, .int .i64 er] #[.int .i64 g, .int .i64 q, .int .i64 s, .int .i64 La, .slice (some ⟨b, off, none⟩) n xc, .bool hs, .int .i64 s, .int .i64 ep, .string bl] (some ⟨b, off, none⟩) n l (V.setRow (w.heap.size + 1 + 1) #[.int .i64 g, .int .i64 q, .int .i64 s, .int .i64 La, .slice (some ⟨b, off, none⟩) n xc, .bool hs, .int .i64 s, .int .i64 ep, .string bl])) := HD1.out.setZ _
        clear HD1
        refine hK.out _ _ (And.intro HD2.out.cells (its_at HD2.out.r HKN.out HP.out)) (fun hHeld => ?_)
        clear hK K
        refine take_at (i := 11) (v := ?_) rfl rfl (by kernel_rfl) (by kernel_rfl) (by kernel_rfl) (fun _ _ _ h => h) (Or.inl ⟨by rfl, ?_⟩) (by assumption) ?_
        rotate_left
        · intro w hSw; (try dsimp only at hSw); go_simp; try with_reducible rfl
        try simp only [Act.put, List.setIfInBounds_toArray, List.set_cons_zero, List.set_cons_succ]
        refine wpAnyH_done (by kernel_rfl) (NoPanic.normal ?_) _
        go_wp2_with fail
        exact bodyPost_rowTmp rfl (w.heap.size + 1 + 1) #[.int .i64 g, .int .i64 q, .int .i64 s, .int .i64 La, .slice (some ⟨b, off, none⟩) n xc, .bool hs, .int .i64 s, .int .i64 ep, .string bl] _ rfl rfl rfl HD2.out.z _ Try.underlying33 rfl (by kernel_rfl) ⟨_, rfl, HRD1.out _ HD2.out.r, HD2.out.b⟩
      · have hpk := HPM.out k (by omega)
        clear HPI HPM HQ CT
        obtain ⟨⟨p1, p2, p3⟩, hp⟩ : ∃ s, s = itL l k := ⟨_, rfl⟩
        rw [← hp] at x0 x1 x2 hpk
        simp only [Bool.and_eq_false_imp, decide_eq_true_eq, decide_eq_false_iff_not] at x0 x1 x2 hpk
        clear hp
        by_cases he : p2 = E
        · subst he
          have q1 : (p3.toList == B.toList) = false := by rw [beq_texts19]; exact decide_eq_false (hpk rfl)
          clear hpk
          go_wp2_with fail
          go_quiet (fail)
          go_wp2_with fail
          refine ⟨⟨k + 1, by omega, by go_num, (HS.out.on (below_drewN (Below.refl _ _) _))⟩, ?_⟩
          simp [intOf]; omega
        · have q0 : (p2 == E) = false := by rw [beq_eq_false_iff_ne]; exact he
          have q1 : decide (p2 = E) = false := decide_eq_false he
          clear hpk he
          go_wp2_with fail
          go_quiet (fail)
          go_wp2_with fail
          refine ⟨⟨k + 1, by omega, by go_num, (HS.out.on (below_drewN (Below.refl _ _) _))⟩, ?_⟩
          simp [intOf]; omega
  | none =>
    have hno := fstN_none _ _ 0 hf
    have HPN : Hid (∀ m, m < n → (decide ((itL l m).2.1 = E) && decide ((itL l m).2.2 = B)) = false) := fun m hm => hno m (Nat.zero_le _) (by rw [HL.out]; omega)
    simp only
    obtain ⟨T, hT⟩ : ∃ T, bytesL (g, q, (s, ep, bl), l) = T := ⟨_, rfl⟩
    rw [hT] at q3 CY
    simp only [hT]
    obtain ⟨R, hR⟩ : ∃ R : RlT × FrmT, (if 1024 ≤ n then ((g, q, (s, ep, bl), l), errF 2) else if q < (T : Int) + (B.size : Int) then ((g, q, (s, ep, bl), l), errF 211) else ((g, q, (s, ep, bl), l ++ [(La + 1, E, B)]), (2, 0, La + 1, 0, 0, ⟨#[]⟩, [], 0))) = R := ⟨_, rfl⟩
    rw [hR]
    have HR : Hid (_ = R) := hR
    have HTQ : Hid ((T : Int) ≤ q ∧ q ≤ 1048576 ∧ 0 ≤ q) := ⟨q3, q4, q5⟩
    have hnn : n ≤ 1024 := q2
    have HB4 : Hid (B.size ≤ 20000) := f4
    clear hno hf hT hR f4 q2 q3 q4 q5 HIX HXX
    go_enter Try.func25, Try.ntmps25
    go_wp2_with fail
    go_loopw [6] (fun iv wr => ∃ k : Nat, k ≤ n ∧ iv = .int .i64 k ∧ Hid (ApS w #[.int .i64 g, .int .i64 q, .int .i64 s, .int .i64 La, .slice xa n xc, .bool hs, .int .i64 s, .int .i64 ep, .string bl] #[.int .i64 Kd, .int .i64 G, .int .i64 S, .int .i64 E, .int .i64 M, .string B, .slice fa n0 fc, .int .i64 er] #[.int .i64 0, .int .i64 0, .int .i64 0, .int .i64 0, .slice none 0 0, .bool false, .int .i64 0, .int .i64 0, .string ⟨#[]⟩] xa n l wr)) (fun iv _ => n - (intOf iv).toNat)
    case atStart => exact ⟨0, Nat.zero_le _, rfl, HS⟩
    case round =>
      clear HS
      obtain ⟨k, hk, rfl, HS⟩ := hrel
      obtain ⟨⟨a0, a1, a2, a3, a4, a5, a6, a7, a8⟩, ⟨f0, f1, f2, f3, f4, f5, f6, f7⟩⟩ := HS.out.cells
      by_cases hlt : k < n
      · have b0 : (k : Int) < (n : Int) := by omega
        obtain ⟨b, off, rfl, hcl⟩ := HS.out.r.2.resolve_left (by omega)
        obtain ⟨x0, x1, x2⟩ := hcl k (by omega)
        have hpk := HPN.out k (by omega)
        clear hcl HPN CT CE CY HRD
        obtain ⟨⟨p1, p2, p3⟩, hp⟩ : ∃ s, s = itL l k := ⟨_, rfl⟩
        rw [← hp] at x0 x1 x2 hpk
        simp only [Bool.and_eq_false_imp, decide_eq_true_eq, decide_eq_false_iff_not] at x0 x1 x2 hpk
        clear hp
        by_cases he : p2 = E
        · subst he
          have q1 : (p3.toList == B.toList) = false := by rw [beq_texts19]; exact decide_eq_false (hpk rfl)
          clear hpk
          go_wp2_with fail
          go_quiet (fail)
          go_wp2_with fail
          refine ⟨⟨k + 1, by omega, by go_num, (HS.out.on (below_drewN (Below.refl _ _) _))⟩, ?_⟩
          simp [intOf]; omega
        · have q0 : (p2 == E) = false := by rw [beq_eq_false_iff_ne]; exact he
          have q1 : decide (p2 = E) = false := decide_eq_false he
          clear hpk he
          go_wp2_with fail
          go_quiet (fail)
          go_wp2_with fail
          refine ⟨⟨k + 1, by omega, by go_num, (HS.out.on (below_drewN (Below.refl _ _) _))⟩, ?_⟩
          simp [intOf]; omega
      · have b0 : ¬ ((k : Int) < (n : Int)) := by omega
        by_cases h1 : 1024 ≤ n
        · have h1i : (1024 : Int) ≤ (n : Int) := by omega
          obtain rfl : R = ((g, q, (s, ep, bl), l), errF 2) := by rw [← HR.out, if_pos h1]
          clear HR
          go_wp2_with fail
          clear a0 a1 a2 a3 a4 a5 a6 a7 a8 f0 f1 f2 f3 f4 f5 f6 f7 b0 h1 h1i hk hlt
          have HD0 : Hid (ApS w #[.int .i64 g, .int .i64 q, .int .i64 s, .int .i64 La, .slice xa n xc, .bool hs, .int .i64 s, .int .i64 ep, .string bl] #[.int .i64 Kd, .int .i64 G, .int .i64 S, .int .i64 E, .int .i64 M, .string B, .slice fa n0 fc, .int .i64 er] #[.int .i64 0, .int .i64 0, .int .i64 0, .int .i64 0, .slice none 0 0, .bool false, .int .i64 0, .int .i64 0, .string ⟨#[]⟩] xa n l wr.drew) := HS.out.on (Below.refl _ _).drew
          have hS0 := HD0.out.cells
          refine wp_region_noPanic ?_
          refine wp_region_held_drew (S := fun W => (W.cell? ⟨w.heap.size, 0, none⟩ = some (.int .i64 g) ∧ W.cell? ⟨w.heap.size, 1, none⟩ = some (.int .i64 q) ∧ W.cell? ⟨w.heap.size, 2, none⟩ = some (.int .i64 s) ∧ W.cell? ⟨w.heap.size, 3, none⟩ = some (.int .i64 La) ∧ W.cell? ⟨w.heap.size, 4, none⟩ = some (.slice xa n xc) ∧ W.cell? ⟨w.heap.size, 5, none⟩ = some (.bool hs) ∧ W.cell? ⟨w.heap.size, 6, none⟩ = some (.int .i64 s) ∧ W.cell? ⟨w.heap.size, 7, none⟩ = some (.int .i64 ep) ∧ W.cell? ⟨w.heap.size, 8, none⟩ = some (.string bl)) ∧ (W.cell? ⟨w.heap.size + 1, 0, none⟩ = some (.int .i64 Kd) ∧ W.cell? ⟨w.heap.size + 1, 1, none⟩ = some (.int .i64 G) ∧ W.cell? ⟨w.heap.size + 1, 2, none⟩ = some (.int .i64 S) ∧ W.cell? ⟨w.heap.size + 1, 3, none⟩ = some (.int .i64 E) ∧ W.cell? ⟨w.heap.size + 1, 4, none⟩ = some (.int .i64 M) ∧ W.cell? ⟨w.heap.size + 1, 5, none⟩ = some (.string B) ∧ W.cell? ⟨w.heap.size + 1, 6, none⟩ = some (.slice fa n0 fc) ∧ W.cell? ⟨w.heap.size + 1, 7, none⟩ = some (.int .i64 er))) (by kernel_rfl) (by first | exact trivial | assumption | exact ⟨by assumption, by assumption⟩) (fun hHeld => ?_)
          refine take_at (i := 0) (v := ?_) rfl rfl (by kernel_rfl) (by kernel_rfl) (by kernel_rfl) (fun _ _ _ h => h) (Or.inl ⟨by rfl, ?_⟩) (by assumption) ?_
          rotate_left
          · intro w hSw; (try dsimp only at hSw); go_simp; try with_reducible rfl
          try simp only [Act.put, List.setIfInBounds_toArray, List.set_cons_zero, List.set_cons_succ]
          refine take_at (i := 1) (v := ?_) rfl rfl (by kernel_rfl) (by kernel_rfl) (by kernel_rfl) (fun _ _ _ h => h) (Or.inl ⟨by rfl, ?_⟩) (by assumption) ?_
          rotate_left
          · intro w hSw; (try dsimp only at hSw); go_simp; try with_reducible rfl
          try simp only [Act.put, List.setIfInBounds_toArray, List.set_cons_zero, List.set_cons_succ]
          refine wpAnyH_ready (rs := [2]) (by kernel_rfl) (by simp) ?_
          refine AllReadyH.cons rfl (fun K hK => ?_) AllReadyH.nil
          go_simp
          refine (CE.out 2 _).mono ?_
          rintro e V ⟨rfl, hb⟩
          have HD1 : Hid (ApS w #[.int .i64 g, .int .i64 q, .int .i64 s, .int .i64 La, .slice xa n xc, .bool hs, .int .i64 s, .int .i64 ep, .string bl] #[.int .i64 Kd, .int .i64 G, .int .i64 S, .int .i64 E, .int .i64 M, .string B, .slice fa n0 fc, .int .i64 er] #[.int .i64 0, .int .i64 0, .int .i64 0, .int .i64 0, .slice none 0 0, .bool false, .int .i64 0, .int .i64 0, .string ⟨#[]⟩] xa n l V) := HD0.out.on hb
          clear hb HD0
          refine hK.out _ _ HD1.out.cells (fun hHeld => ?_)
          clear hK K
          refine wpAnyH_ready (rs := [3]) (by kernel_rfl) (by simp) ?_
          refine AllReadyH.cons rfl (fun K hK => ?_) AllReadyH.nil
          refine step_storeRow rfl rfl 33 _ _ rfl (w.heap.size + 1 + 1) #[.int .i64 0, .int .i64 0, .int .i64 0, .int .i64 0, .slice none 0 0, .bool false, .int .i64 0, .int .i64 0, .string ⟨#[]⟩] #[.int .i64 g, .int .i64 q, .int .i64 s, .int .i64 La, .slice xa n xc, .bool hs, .int .i64 s, .int .i64 ep, .string bl] (by with_unfolding_all rfl) (by with_unfolding_all rfl) HD1.out.z rfl (by kernel_rfl) (by simp [Value.oneCell']) ?_
          have HD2 : Hid (ApS w #[.int .i64 g, .int .i64 q, .int .i64 s, .int .i64 La, .slice xa n xc, .bool hs, .int .i64 s, .int .i64 ep, .string bl] #[.int .i64 Kd, .int .i64 G, .int .i64 S, .int .i64 E, .int .i64 M, .string B, .slice fa n0 fc, .int .i64 er] #[.int .i64 g, .int .i64 q, .int .i64 s, .int .i64 La, .slice xa n xc, .bool hs, .int .i64 s, .int .i64 ep, .string bl] xa n l (V.setRow (w.heap.size + 1 + 1) #[.int .i64 g, .int .i64 q, .int .i64 s, .int .i64 La, .slice xa n xc, .bool hs, .int .i64 s, .int .i64 ep, .string bl])) := HD1.out.setZ _
          clear HD1
          refine hK.out _ _ HD2.out.cells (fun hHeld => ?_)
          clear hK K
          refine take_at (i := 4) (v := ?_) rfl rfl (by kernel_rfl) (by kernel_rfl) (by kernel_rfl) (fun _ _ _ h => h) (Or.inl ⟨by rfl, ?_⟩) (by assumption) ?_
          rotate_left
          · intro w hSw; (try dsimp only at hSw); go_simp; try with_reducible rfl
          try simp only [Act.put, List.setIfInBounds_toArray, List.set_cons_zero, List.set_cons_succ]
          refine wpAnyH_done (by kernel_rfl) (NoPanic.normal ?_) _
          go_wp2_with fail
          exact bodyPost_rowTmp rfl (w.heap.size + 1 + 1) #[.int .i64 g, .int .i64 q, .int .i64 s, .int .i64 La, .slice xa n xc, .bool hs, .int .i64 s, .int .i64 ep, .string bl] _ rfl rfl rfl HD2.out.z _ Try.underlying33 rfl (by kernel_rfl) ⟨_, rfl, HRD.out _ HD2.out.r, HD2.out.b⟩
        · have h1i : ¬ ((1024 : Int) ≤ (n : Int)) := by omega
          go_wp2_with fail
          have e0 : ∀ p : Beh wr, p.w'.cell? ⟨w.heap.size, 0, none⟩ = some (.int .i64 g) := fun p => p.cell a0
          have e1 : ∀ p : Beh wr, p.w'.cell? ⟨w.heap.size, 1, none⟩ = some (.int .i64 q) := fun p => p.cell a1
          have e2 : ∀ p : Beh wr, p.w'.cell? ⟨w.heap.size, 2, none⟩ = some (.int .i64 s) := fun p => p.cell a2
          have e3 : ∀ p : Beh wr, p.w'.cell? ⟨w.heap.size, 3, none⟩ = some (.int .i64 La) := fun p => p.cell a3
          have e4 : ∀ p : Beh wr, p.w'.cell? ⟨w.heap.size, 4, none⟩ = some (.slice xa n xc) := fun p => p.cell a4
          have e5 : ∀ p : Beh wr, p.w'.cell? ⟨w.heap.size, 5, none⟩ = some (.bool hs) := fun p => p.cell a5
          have e6 : ∀ p : Beh wr, p.w'.cell? ⟨w.heap.size, 6, none⟩ = some (.int .i64 s) := fun p => p.cell a6
          have e7 : ∀ p : Beh wr, p.w'.cell? ⟨w.heap.size, 7, none⟩ = some (.int .i64 ep) := fun p => p.cell a7
          have e8 : ∀ p : Beh wr, p.w'.cell? ⟨w.heap.size, 8, none⟩ = some (.string bl) := fun p => p.cell a8
          have g5 : ∀ p : Beh wr, p.w'.cell? ⟨w.heap.size + 1, 5, none⟩ = some (.string B) := fun p => p.cell f5
          have CY1 : Hid (∀ p : Beh wr, _) := fun p => CY.out p.w' (below_step HS.out.b (Nat.le_refl _) p.h)
          have hwt : IntKind.i64.wrap (q - (T : Int)) = q - (T : Int) := by have := HTQ.out; rw [IntKind.wrap_i64]; omega
          clear a0 a1 a2 a3 a4 a5 a6 a7 a8 f0 f1 f2 f3 f4 f5 f6 f7 b0 CY hk hlt
          by_cases h2 : q < (T : Int) + (B.size : Int)
          · have h2i : q - (T : Int) < (B.size : Int) := by omega
            obtain rfl : R = ((g, q, (s, ep, bl), l), errF 211) := by rw [← HR.out, if_neg h1, if_pos h2]
            clear HR h1 h2
            have hne_ : Nonempty (Beh wr) := ⟨⟨_, Below.refl _ _⟩⟩
            refine wp_region_quiet_beh (by kernel_rfl) (by kernel_rfl) ?_
            repeat (quiet_step (first | (go_at_call 14; refine Calls.beh_of (CY1.out _))))
            refine wpQuiet_nil ?_
            intro wq hw_
            obtain ⟨⟨wz_, hbq⟩, hw_⟩ := hw_
            subst hw_
            try dsimp only
            clear hne_
            have HS1 : Hid (ApS w #[.int .i64 g, .int .i64 q, .int .i64 s, .int .i64 La, .slice xa n xc, .bool hs, .int .i64 s, .int .i64 ep, .string bl] #[.int .i64 Kd, .int .i64 G, .int .i64 S, .int .i64 E, .int .i64 M, .string B, .slice fa n0 fc, .int .i64 er] #[.int .i64 0, .int .i64 0, .int .i64 0, .int .i64 0, .slice none 0 0, .bool false, .int .i64 0, .int .i64 0, .string ⟨#[]⟩] xa n l wq) := HS.out.on hbq
            clear HS CY1 e0 e1 e2 e3 e4 e5 e6 e7 e8 g5 hbq
            go_wp2_with fail
            clear h2i h1i hwt
            have HD0 : Hid (ApS w #[.int .i64 g, .int .i64 q, .int .i64 s, .int .i64 La, .slice xa n xc, .bool hs, .int .i64 s, .int .i64 ep, .string bl] #[.int .i64 Kd, .int .i64 G, .int .i64 S, .int .i64 E, .int .i64 M, .string B, .slice fa n0 fc, .int .i64 er] #[.int .i64 0, .int .i64 0, .int .i64 0, .int .i64 0, .slice none 0 0, .bool false, .int .i64 0, .int .i64 0, .string ⟨#[]⟩] xa n l wq.drew) := HS1.out.on (Below.refl _ _).drew
            have hS0 := HD0.out.cells
            refine wp_region_noPanic ?_
            refine wp_region_held_drew (S := fun W => (W.cell? ⟨w.heap.size, 0, none⟩ = some (.int .i64 g) ∧ W.cell? ⟨w.heap.size, 1, none⟩ = some (.int .i64 q) ∧ W.cell? ⟨w.heap.size, 2, none⟩ = some (.int .i64 s) ∧ W.cell? ⟨w.heap.size, 3, none⟩ = some (.int .i64 La) ∧ W.cell? ⟨w.heap.size, 4, none⟩ = some (.slice xa n xc) ∧ W.cell? ⟨w.heap.size, 5, none⟩ = some (.bool hs) ∧ W.cell? ⟨w.heap.size, 6, none⟩ = some (.int .i64 s) ∧ W.cell? ⟨w.heap.size, 7, none⟩ = some (.int .i64 ep) ∧ W.cell? ⟨w.heap.size, 8, none⟩ = some (.string bl)) ∧ (W.cell? ⟨w.heap.size + 1, 0, none⟩ = some (.int .i64 Kd) ∧ W.cell? ⟨w.heap.size + 1, 1, none⟩ = some (.int .i64 G) ∧ W.cell? ⟨w.heap.size + 1, 2, none⟩ = some (.int .i64 S) ∧ W.cell? ⟨w.heap.size + 1, 3, none⟩ = some (.int .i64 E) ∧ W.cell? ⟨w.heap.size + 1, 4, none⟩ = some (.int .i64 M) ∧ W.cell? ⟨w.heap.size + 1, 5, none⟩ = some (.string B) ∧ W.cell? ⟨w.heap.size + 1, 6, none⟩ = some (.slice fa n0 fc) ∧ W.cell? ⟨w.heap.size + 1, 7, none⟩ = some (.int .i64 er))) (by kernel_rfl) (by first | exact trivial | assumption | exact ⟨by assumption, by assumption⟩) (fun hHeld => ?_)
            refine take_at (i := 0) (v := ?_) rfl rfl (by kernel_rfl) (by kernel_rfl) (by kernel_rfl) (fun _ _ _ h => h) (Or.inl ⟨by rfl, ?_⟩) (by assumption) ?_
            rotate_left
            · intro w hSw; (try dsimp only at hSw); go_simp; try with_reducible rfl
            try simp only [Act.put, List.setIfInBounds_toArray, List.set_cons_zero, List.set_cons_succ]
            refine take_at (i := 1) (v := ?_) rfl rfl (by kernel_rfl) (by kernel_rfl) (by kernel_rfl) (fun _ _ _ h => h) (Or.inl ⟨by rfl, ?_⟩) (by assumption) ?_
            rotate_left
            · intro w hSw; (try dsimp only at hSw); go_simp; try with_reducible rfl
            try simp only [Act.put, List.setIfInBounds_toArray, List.set_cons_zero, List.set_cons_succ]
            refine wpAnyH_ready (rs := [2]) (by kernel_rfl) (by simp) ?_
            refine AllReadyH.cons rfl (fun K hK => ?_) AllReadyH.nil
            go_simp
            refine (CE.out 211 _).mono ?_
            rintro e V ⟨rfl, hb⟩
            have HD1 : Hid (ApS w #[.int .i64 g, .int .i64 q, .int .i64 s, .int .i64 La, .slice xa n xc, .bool hs, .int .i64 s, .int .i64 ep, .string bl] #[.int .i64 Kd, .int .i64 G, .int .i64 S, .int .i64 E, .int .i64 M, .string B, .slice fa n0 fc, .int .i64 er] #[.int .i64 0, .int .i64 0, .int .i64 0, .int .i64 0, .slice none 0 0, .bool false, .int .i64 0, .int .i64 0, .string ⟨#[]⟩] xa n l V) := HD0.out.on hb
            clear hb HD0
            refine hK.out _ _ HD1.out.cells (fun hHeld => ?_)
            clear hK K
            refine wpAnyH_ready (rs := [3]) (by kernel_rfl) (by simp) ?_
            refine AllReadyH.cons rfl (fun K hK => ?_) AllReadyH.nil
            refine step_storeRow rfl rfl 33 _ _ rfl (w.heap.size + 1 + 1) #[.int .i64 0, .int .i64 0, .int .i64 0, .int .i64 0, .slice none 0 0, .bool false, .int .i64 0, .int .i64 0, .string ⟨#[]⟩] #[.int .i64 g, .int .i64 q, .int .i64 s, .int .i64 La, .slice xa n xc, .bool hs, .int .i64 s, .int .i64 ep, .string bl] (by with_unfolding_all rfl) (by with_unfolding_all rfl) HD1.out.z rfl (by kernel_rfl) (by simp [Value.oneCell']) ?_
            have HD2 : Hid (ApS w #[.int .i64 g, .int .i64 q, .int .i64 s, .int .i64 La, .slice xa n xc, .bool hs, .int .i64 s, .int .i64 ep, .string bl] #[.int .i64 Kd, .int .i64 G, .int .i64 S, .int .i64 E, .int .i64 M, .string B, .slice fa n0 fc, .int .i64 er] #[.int .i64 g, .int .i64 q, .int .i64 s, .int .i64 La, .slice xa n xc, .bool hs, .int .i64 s, .int .i64 ep, .string bl] xa n l (V.setRow (w.heap.size + 1 + 1) #[.int .i64 g, .int .i64 q, .int .i64 s, .int .i64 La, .slice xa n xc, .bool hs, .int .i64 s, .int .i64 ep, .string bl])) := HD1.out.setZ _
            clear HD1
            refine hK.out _ _ HD2.out.cells (fun hHeld => ?_)
            clear hK K
            refine take_at (i := 4) (v := ?_) rfl rfl (by kernel_rfl) (by kernel_rfl) (by kernel_rfl) (fun _ _ _ h => h) (Or.inl ⟨by rfl, ?_⟩) (by assumption) ?_
            rotate_left
            · intro w hSw; (try dsimp only at hSw); go_simp; try with_reducible rfl
            try simp only [Act.put, List.setIfInBounds_toArray, List.set_cons_zero, List.set_cons_succ]
            refine wpAnyH_done (by kernel_rfl) (NoPanic.normal ?_) _
            go_wp2_with fail
            exact bodyPost_rowTmp rfl (w.heap.size + 1 + 1) #[.int .i64 g, .int .i64 q, .int .i64 s, .int .i64 La, .slice xa n xc, .bool hs, .int .i64 s, .int .i64 ep, .string bl] _ rfl rfl rfl HD2.out.z _ Try.underlying33 rfl (by kernel_rfl) ⟨_, rfl, HRD.out _ HD2.out.r, HD2.out.b⟩
          · have h2i : ¬ (q - (T : Int) < (B.size : Int)) := by omega
            obtain rfl : R = ((g, q, (s, ep, bl), l ++ [(La + 1, E, B)]), (2, 0, La + 1, 0, 0, ⟨#[]⟩, [], 0)) := by rw [← HR.out, if_neg h1, if_neg h2]
            clear HR h1 h2
            have hne_ : Nonempty (Beh wr) := ⟨⟨_, Below.refl _ _⟩⟩
            refine wp_region_quiet_beh (by kernel_rfl) (by kernel_rfl) ?_
            repeat (quiet_step (first | (go_at_call 14; refine Calls.beh_of (CY1.out _))))
            refine wpQuiet_nil ?_
            intro wq hw_
            obtain ⟨⟨wz_, hbq⟩, hw_⟩ := hw_
            subst hw_
            try dsimp only
            clear hne_
            have HS1 : Hid (ApS w #[.int .i64 g, .int .i64 q, .int .i64 s, .int .i64 La, .slice xa n xc, .bool hs, .int .i64 s, .int .i64 ep, .string bl] #[.int .i64 Kd, .int .i64 G, .int .i64 S, .int .i64 E, .int .i64 M, .string B, .slice fa n0 fc, .int .i64 er] #[.int .i64 0, .int .i64 0, .int .i64 0, .int .i64 0, .slice none 0 0, .bool false, .int .i64 0, .int .i64 0, .string ⟨#[]⟩] xa n l wq) := HS.out.on hbq
            clear HS CY1 e0 e1 e2 e3 e4 e5 e6 e7 e8 g5 hbq
            obtain ⟨⟨a0, a1, a2, a3, a4, a5, a6, a7, a8⟩, ⟨f0, f1, f2, f3, f4, f5, f6, f7⟩⟩ := HS1.out.cells
            have fz : wq.frozen? ⟨w.heap.size, 3, none⟩ = false := HS1.out.a.free 3
            have hwl : IntKind.i64.wrap (La + 1) = La + 1 := by have := HLB.out; rw [IntKind.wrap_i64]; omega
            have HS2 : Hid (ApS w #[.int .i64 g, .int .i64 q, .int .i64 s, .int .i64 (La + 1), .slice xa n xc, .bool hs, .int .i64 s, .int .i64 ep, .string bl] #[.int .i64 Kd, .int .i64 G, .int .i64 S, .int .i64 E, .int .i64 M, .string B, .slice fa n0 fc, .int .i64 er] #[.int .i64 0, .int .i64 0, .int .i64 0, .int .i64 0, .slice none 0 0, .bool false, .int .i64 0, .int .i64 0, .string ⟨#[]⟩] xa n l (wq.setCell ⟨w.heap.size, 3, none⟩ (.int .i64 (La + 1)))) := HS1.out.setA 3 _
            have HSRC : Hid (SrcAt (wq.setCell ⟨w.heap.size, 3, none⟩ (.int .i64 (La + 1))) (.slice xa n xc) n (cellsI l)) := its_src HSO.out HS2.out.r
            have HBS : Hid (w.heap.size + 1 + 1 + 1 ≤ (wq.setCell ⟨w.heap.size, 3, none⟩ (.int .i64 (La + 1))).heap.size) := by have := HS2.out.z.lt; show _ ≤ _; omega
            have hcl : (cellsI l).length = n * 3 := by rw [cellsI_len, HL.out]
            obtain ⟨i0, hi, hz0, hz1, hz2⟩ := info_parts Try.infoI19
            clear HS1
            go_wp2_with (at_builtin; refine wpList_appW (by rfl) (.tmp 68) (.tmp 70) 29 rfl (w.heap.size + 1 + 1 + 1) 31 i0 _ 3 32 Try.underlying29 hi hz0 hz1 hz2 rfl (by decide) (.slice none 0 0) 0 [] rfl (World.ownsRow_nil _ _ _ _) (.slice xa n xc) n (cellsI l) rfl HSRC.out hcl (cellsI_one l) (by unfold maxLen; omega) (by omega) HBS.out ?_)
            intro v5 w5 hown5 hgr5
            have W5 : Hid (World.ownsRow w5 (w.heap.size + 1 + 1 + 1) 31 3 v5 n (cellsI l)) := by
              show World.ownsRow _ _ _ _ _ _ _
              simpa using hown5
            have O5 : OwnI19 w5 (w.heap.size + 1 + 1 + 1) v5 l := by unfold OwnI19; rw [HL.out]; exact W5.out
            obtain ⟨a9, c9, hv9, hc9, _, hr9⟩ := O5.rows
            have HS5 : Hid (ApS w #[.int .i64 g, .int .i64 q, .int .i64 s, .int .i64 (La + 1), .slice xa n xc, .bool hs, .int .i64 s, .int .i64 ep, .string bl] #[.int .i64 Kd, .int .i64 G, .int .i64 S, .int .i64 E, .int .i64 M, .string B, .slice fa n0 fc, .int .i64 er] #[.int .i64 0, .int .i64 0, .int .i64 0, .int .i64 0, .slice none 0 0, .bool false, .int .i64 0, .int .i64 0, .string ⟨#[]⟩] a9 n l w5) := HS2.out.grown hgr5 (fun j hj => by simp [Value.ownBlock] at hj) (by rw [HL.out] at hr9; exact hr9) (own_ne W5.out (by rw [HL.out] at hv9; exact hv9))
            clear hown5 hgr5 HSRC HBS HS2 a0 a1 a2 a3 a4 a5 a6 a7 a8 f0 f1 f2 f3 f4 f5 f6 f7 fz O5 hv9 hc9 hr9
            obtain ⟨⟨a0, a1, a2, a3, a4, a5, a6, a7, a8⟩, ⟨f0, f1, f2, f3, f4, f5, f6, f7⟩⟩ := HS5.out.cells
            have HB5 : Hid (w.heap.size + 1 + 1 + 1 ≤ (w5.alloc (.cells (itemA (La + 1, E, B)) 31)).heap.size) := by have := HS5.out.z.lt; show _ ≤ _; simp; omega
            go_wp2_with (at_builtin; refine wpList_appW (by rfl) (.tmp 72) (.tmp 80) 29 rfl (w.heap.size + 1 + 1 + 1) 31 i0 _ 3 32 Try.underlying29 hi hz0 hz1 hz2 rfl (by decide) v5 n (cellsI l) rfl (owns_on W5.out (below_new _ _)) (.slice (some ⟨w5.heap.size, 0, none⟩) 1 1) 1 (itemA (La + 1, E, B)).toList rfl (new_src (Blk.new w5 31 (itemA (La + 1, E, B))) 1) rfl (itemA_one _) (by unfold maxLen; omega) (by omega) HB5.out ?_)
            intro v6 w6 hown6 hgr6
            have O6 : OwnI19 w6 (w.heap.size + 1 + 1 + 1) v6 (l ++ [(La + 1, E, B)]) := by
              unfold OwnI19
              rw [cellsI_snoc, List.length_append, HL.out]
              exact hown6
            obtain ⟨x6, c6, hv6, hc6, _, hr6⟩ := O6.rows
            obtain ⟨n6, hn6⟩ : ∃ n6, (l ++ [(La + 1, E, B)]).length = n6 := ⟨_, rfl⟩
            rw [hn6] at hv6 hc6 hr6
            have HS6 : Hid (ApS w #[.int .i64 g, .int .i64 q, .int .i64 s, .int .i64 (La + 1), .slice xa n xc, .bool hs, .int .i64 s, .int .i64 ep, .string bl] #[.int .i64 Kd, .int .i64 G, .int .i64 S, .int .i64 E, .int .i64 M, .string B, .slice fa n0 fc, .int .i64 er] #[.int .i64 0, .int .i64 0, .int .i64 0, .int .i64 0, .slice none 0 0, .bool false, .int .i64 0, .int .i64 0, .string ⟨#[]⟩] x6 n6 (l ++ [(La + 1, E, B)]) w6) := (HS5.out.on (below_new w5 (.cells (itemA (La + 1, E, B)) 31))).grown hgr6 (fun j hj => by have := (World.ownsRow.lt W5.out j hj).1; omega) hr6 (own_ne (show World.ownsRow _ _ _ _ _ _ _ from O6) hv6)
            have hge6 := own_ge (show World.ownsRow _ _ _ _ _ _ _ from O6) hv6
            have hso6 : SliceOk x6 n6 c6 := own_ok (show World.ownsRow _ _ _ _ _ _ _ from O6) hv6
            clear hown6 hgr6 HS5 HB5 W5 O6 a0 a1 a2 a3 a4 a5 a6 a7 a8 f0 f1 f2 f3 f4 f5 f6 f7
            subst hv6
            have HSO6 : Hid (SliceOk x6 n6 c6) := hso6
            have fz : w6.frozen? ⟨w.heap.size, 4, none⟩ = false := HS6.out.a.free 4
            have c4 : w6.cell? ⟨w.heap.size, 4, none⟩ = some (.slice xa n xc) := HS6.out.a.cell 4
            have HS7 : Hid (ApS w #[.int .i64 g, .int .i64 q, .int .i64 s, .int .i64 (La + 1), .slice x6 n6 c6, .bool hs, .int .i64 s, .int .i64 ep, .string bl] #[.int .i64 Kd, .int .i64 G, .int .i64 S, .int .i64 E, .int .i64 M, .string B, .slice fa n0 fc, .int .i64 er] #[.int .i64 0, .int .i64 0, .int .i64 0, .int .i64 0, .slice none 0 0, .bool false, .int .i64 0, .int .i64 0, .string ⟨#[]⟩] x6 n6 (l ++ [(La + 1, E, B)]) (w6.setCell ⟨w.heap.size, 4, none⟩ (.slice x6 n6 c6))) := HS6.out.setA 4 _
            have HGE6 : Hid (_ ∨ _) := hge6
            clear hso6 hge6 HS6
            go_wp2_with fail
            obtain ⟨w7, hw7⟩ : ∃ w7, w6.setCell ⟨w.heap.size, 4, none⟩ (.slice x6 n6 c6) = w7 := ⟨_, rfl⟩
            rw [hw7] at HS7 ⊢
            have hla2 : lastL (g, q, (s, ep, bl), l ++ [(La + 1, E, B)]) = La + 1 := by
              rw [← HLA.out]
              unfold lastL
              simp only [List.length_append, List.length_cons, List.length_nil]
              omega
            have HRD2 : Hid (∀ W, ItsAt W x6 n6 (l ++ [(La + 1, E, B)]) → RdTo w xa n W (.agg #[.int .i64 g, .int .i64 q, .int .i64 s, .int .i64 (La + 1), .slice x6 n6 c6, .bool hs, .int .i64 s, .int .i64 ep, .string bl]) (g, q, (s, ep, bl), l ++ [(La + 1, E, B)])) := fun W hW => ⟨x6, c6, by unfold rdA; simp only [hla2, HHS.out, hn6], by rw [hn6]; exact hW, by rw [hn6]; exact HSO6.out, fun gg hg _ => by rw [hn6]; exact HGE6.out.imp id (fun z ad e => by have := z ad e; omega)⟩
            have CT2 : Hid (∀ W, Calls Try.prog 28 #[.agg #[.int .i64 g, .int .i64 q, .int .i64 s, .int .i64 (La + 1), .slice x6 n6 c6, .bool hs, .int .i64 s, .int .i64 ep, .string bl], .agg #[.int .i64 2, .int .i64 0, .int .i64 (La + 1), .int .i64 0, .int .i64 0, .string ⟨#[]⟩, .slice none 0 0, .int .i64 0]] W fun e w' => e = .returned (.string (putFC (withG (2, 0, La + 1, 0, 0, ⟨#[]⟩, [], 0) g)).1) ∧ Below W.heap.size W w') := fun W => by
              have hh := ranswer21_any (g, q, (s, ep, bl), l ++ [(La + 1, E, B)]) x6 c6 (2, 0, La + 1, 0, 0, ⟨#[]⟩, [], 0) none 0 W (by show 0 ≤ _; decide) ⟨rfl, Or.inl rfl⟩ (fun i => by show (itL [] i).2.2.size ≤ _; simp [itL]) (by show (ByteArray.mk #[]).size ≤ _; decide)
              unfold rdA frmA at hh
              simp only [hla2, HHS.out, hn6, List.length_nil] at hh
              exact hh
            clear fz c4 hw7 hla2 hn6 h1i h2i hwt hwl hcl hi hz0 hz1 hz2 CT CE HRD
            have HD0 : Hid (ApS w #[.int .i64 g, .int .i64 q, .int .i64 s, .int .i64 (La + 1), .slice x6 n6 c6, .bool hs, .int .i64 s, .int .i64 ep, .string bl] #[.int .i64 Kd, .int .i64 G, .int .i64 S, .int .i64 E, .int .i64 M, .string B, .slice fa n0 fc, .int .i64 er] #[.int .i64 0, .int .i64 0, .int .i64 0, .int .i64 0, .slice none 0 0, .bool false, .int .i64 0, .int .i64 0, .string ⟨#[]⟩] x6 n6 (l ++ [(La + 1, E, B)]) w7.drew) := HS7.out.on (Below.refl _ _).drew
            have hS0 := HD0.out.cells
            refine wp_region_noPanic ?_
            refine wp_region_held_drew (S := fun W => (W.cell? ⟨w.heap.size, 0, none⟩ = some (.int .i64 g) ∧ W.cell? ⟨w.heap.size, 1, none⟩ = some (.int .i64 q) ∧ W.cell? ⟨w.heap.size, 2, none⟩ = some (.int .i64 s) ∧ W.cell? ⟨w.heap.size, 3, none⟩ = some (.int .i64 (La + 1)) ∧ W.cell? ⟨w.heap.size, 4, none⟩ = some (.slice x6 n6 c6) ∧ W.cell? ⟨w.heap.size, 5, none⟩ = some (.bool hs) ∧ W.cell? ⟨w.heap.size, 6, none⟩ = some (.int .i64 s) ∧ W.cell? ⟨w.heap.size, 7, none⟩ = some (.int .i64 ep) ∧ W.cell? ⟨w.heap.size, 8, none⟩ = some (.string bl)) ∧ (W.cell? ⟨w.heap.size + 1, 0, none⟩ = some (.int .i64 Kd) ∧ W.cell? ⟨w.heap.size + 1, 1, none⟩ = some (.int .i64 G) ∧ W.cell? ⟨w.heap.size + 1, 2, none⟩ = some (.int .i64 S) ∧ W.cell? ⟨w.heap.size + 1, 3, none⟩ = some (.int .i64 E) ∧ W.cell? ⟨w.heap.size + 1, 4, none⟩ = some (.int .i64 M) ∧ W.cell? ⟨w.heap.size + 1, 5, none⟩ = some (.string B) ∧ W.cell? ⟨w.heap.size + 1, 6, none⟩ = some (.slice fa n0 fc) ∧ W.cell? ⟨w.heap.size + 1, 7, none⟩ = some (.int .i64 er))) (by kernel_rfl) (by first | exact trivial | assumption | exact ⟨by assumption, by assumption⟩) (fun hHeld => ?_)
            refine take_at (i := 0) (v := ?_) rfl rfl (by kernel_rfl) (by kernel_rfl) (by kernel_rfl) (fun _ _ _ h => h) (Or.inl ⟨by rfl, ?_⟩) (by assumption) ?_
            rotate_left
            · intro w hSw; (try dsimp only at hSw); go_simp; try with_reducible rfl
            try simp only [Act.put, List.setIfInBounds_toArray, List.set_cons_zero, List.set_cons_succ]
            refine take_at (i := 1) (v := ?_) rfl rfl (by kernel_rfl) (by kernel_rfl) (by kernel_rfl) (fun _ _ _ h => h) (Or.inl ⟨by rfl, ?_⟩) (by assumption) ?_
            rotate_left
            · intro w hSw; (try dsimp only at hSw); go_simp; try with_reducible rfl
            try simp only [Act.put, List.setIfInBounds_toArray, List.set_cons_zero, List.set_cons_succ]
            refine take_at (i := 2) (v := ?_) rfl rfl (by kernel_rfl) (by kernel_rfl) (by kernel_rfl) (fun _ _ _ h => h) (Or.inl ⟨by rfl, ?_⟩) (by assumption) ?_
            rotate_left
            · intro w hSw; (try dsimp only at hSw); go_simp; try with_reducible rfl
            try simp only [Act.put, List.setIfInBounds_toArray, List.set_cons_zero, List.set_cons_succ]
            refine take_at (i := 3) (v := ?_) rfl rfl (by kernel_rfl) (by kernel_rfl) (by kernel_rfl) (fun _ _ _ h => h) (Or.inl ⟨by rfl, ?_⟩) (by assumption) ?_
            rotate_left
            · intro w hSw; (try dsimp only at hSw); go_simp; try with_reducible rfl
            try simp only [Act.put, List.setIfInBounds_toArray, List.set_cons_zero, List.set_cons_succ]
            refine take_at (i := 4) (v := ?_) rfl rfl (by kernel_rfl) (by kernel_rfl) (by kernel_rfl) (fun _ _ _ h => h) (Or.inl ⟨by rfl, ?_⟩) (by assumption) ?_
            rotate_left
            · intro w hSw; (try dsimp only at hSw); go_simp; try with_reducible rfl
            try simp only [Act.put, List.setIfInBounds_toArray, List.set_cons_zero, List.set_cons_succ]
            refine wpAnyH_ready (rs := [5]) (by kernel_rfl) (by simp) ?_
            refine AllReadyH.cons rfl (fun K hK => ?_) AllReadyH.nil
            go_simp
            refine (CT2.out _).mono ?_
            rintro e V ⟨rfl, hb⟩
            have HD1 : Hid (ApS w #[.int .i64 g, .int .i64 q, .int .i64 s, .int .i64 (La + 1), .slice x6 n6 c6, .bool hs, .int .i64 s, .int .i64 ep, .string bl] #[.int .i64 Kd, .int .i64 G, .int .i64 S, .int .i64 E, .int .i64 M, .string B, .slice fa n0 fc, .int .i64 er] #[.int .i64 0, .int .i64 0, .int .i64 0, .int .i64 0, .slice none 0 0, .bool false, .int .i64 0, .int .i64 0, .string ⟨#[]⟩] x6 n6 (l ++ [(La + 1, E, B)]) V) := HD0.out.on hb
            clear hb HD0
            refine hK.out _ _ HD1.out.cells (fun hHeld => ?_)
            clear hK K
            refine wpAnyH_ready (rs := [6]) (by kernel_rfl) (by simp) ?_
            refine AllReadyH.cons rfl (fun K hK => ?_) AllReadyH.nil
            refine step_storeRow rfl rfl 33 _ _ rfl (w.heap.size + 1 + 1) #[.int .i64 0, .int .i64 0, .int .i64 0, .int .i64 0, .slice none 0 0, .bool false, .int .i64 0, .int .i64 0, .string ⟨#[]⟩] #[.int .i64 g, .int .i64 q, .int .i64 s, .int .i64 (La + 1), .slice x6 n6 c6, .bool hs, .int .i64 s, .int .i64 ep, .string bl] (by with_unfolding_all rfl) (by with_unfolding_all rfl) HD1.out.z rfl (by kernel_rfl) (by simp [Value.oneCell']) ?_
            have HD2 : Hid (ApS w #[.int .i64 g, .int .i64 q, .int .i64 s, .int .i64 (La + 1), .slice x6 n6 c6, .bool hs, .int .i64 s, .int .i64 ep, .string bl] #[.int .i64 Kd, .int .i64 G, .int .i64 S, .int .i64 E, .int .i64 M, .string B, .slice fa n0 fc, .int .i64 er] #[.int .i64 g, .int .i64 q, .int .i64 s, .int .i64 (La + 1), .slice x6 n6 c6, .bool hs, .int .i64 s, .int .i64 ep, .string bl] x6 n6 (l ++ [(La + 1, E, B)]) (V.setRow (w.heap.size + 1 + 1) #[.int .i64 g, .int .i64 q, .int .i64 s, .int .i64 (La + 1), .slice x6 n6 c6, .bool hs, .int .i64 s, .int .i64 ep, .string bl])) := HD1.out.setZ _
            clear HD1
            refine hK.out _ _ HD2.out.cells (fun hHeld => ?_)
            clear hK K
            refine take_at (i := 7) (v := ?_) rfl rfl (by kernel_rfl) (by kernel_rfl) (by kernel_rfl) (fun _ _ _ h => h) (Or.inl ⟨by rfl, ?_⟩) (by assumption) ?_
            rotate_left
            · intro w hSw; (try dsimp only at hSw); go_simp; try with_reducible rfl
            try simp only [Act.put, List.setIfInBounds_toArray, List.set_cons_zero, List.set_cons_succ]
            refine wpAnyH_done (by kernel_rfl) (NoPanic.normal ?_) _
            go_wp2_with fail
            exact bodyPost_rowTmp rfl (w.heap.size + 1 + 1) #[.int .i64 g, .int .i64 q, .int .i64 s, .int .i64 (La + 1), .slice x6 n6 c6, .bool hs, .int .i64 s, .int .i64 ep, .string bl] _ rfl rfl rfl HD2.out.z _ Try.underlying33 rfl (by kernel_rfl) ⟨_, rfl, HRD2.out _ HD2.out.r, HD2.out.b⟩
end Go.Proofs.Ytkmdajenbidaaaa

/- The document's relay (layer 21): given. (mkrree.py) -/
namespace Go.Proofs.Ytkmdajenbidaaaa
open Go.RowKit
set_option maxRecDepth 100000
set_option linter.unusedSimpArgs false
set_option linter.unusedVariables false
set_option maxRecDepth 100000

/-- What has been gathered ahead of the record i. -/
def cutI (l : List ItT) (d i : Nat) : List ItT := (l.drop d).take (i - d)

theorem cutI_len (l : List ItT) (d i : Nat) (hi : i ≤ l.length) : (cutI l d i).length = i - d := by
  unfold cutI
  rw [List.length_take, List.length_drop]
  omega
theorem cutI_no (l : List ItT) (d i : Nat) (h : i ≤ d) : cutI l d i = [] := by
  unfold cutI
  rw [Nat.sub_eq_zero_of_le h]; rfl
theorem cutI_more (l : List ItT) (d i : Nat) (hi : i < l.length) (hd : d ≤ i) : cutI l d (i + 1) = cutI l d i ++ [itL l i] := by
  unfold cutI
  rw [show i + 1 - d = i - d + 1 by omega, List.take_succ_eq_append_getElem (by rw [List.length_drop]; omega), List.getElem_drop]
  have := itL_get l i hi
  rw [this]
  simp only [show d + (i - d) = i by omega]
theorem cutI_size (l : List ItT) (d i : Nat) (hi : i < l.length) (hd : d ≤ i) : sizeL (cutI l d (i + 1)) = sizeL (cutI l d i) + (itL l i).2.2.size := by
  rw [cutI_more l d i hi hd, sizeL_append]
  simp [sizeL]
theorem itL_cutI (l : List ItT) (d i j : Nat) (m : Nat) (h : ∀ i, (itL l i).2.2.size ≤ m) : (itL (cutI l d i) j).2.2.size ≤ m := by
  unfold cutI
  refine itL_take_any _ _ _ (fun x => x.2.2.size ≤ m) (fun j => ?_) (Nat.zero_le _)
  rw [itL_drop]
  exact h _

theorem sizeL_take_le (l : List ItT) (i : Nat) : sizeL (l.take i) ≤ sizeL l := by
  have := sizeL_split l i; omega

theorem fit_all (L : List ItT) (h : sizeL L ≤ 40000) : fitL L = L := by
  unfold fitL
  rw [fstN_no _ _ (fun m _ => by
    have := sizeL_take_le L (m + 1)
    exact decide_eq_false (by omega))]
theorem fit_at (L : List ItT) (j : Nat) (hj : j < L.length) (h1 : sizeL (L.take j) ≤ 40000) (h2 : 40000 < sizeL (L.take (j + 1))) : fitL L = L.take j := by
  unfold fitL
  rw [fstN_at _ _ j hj (decide_eq_true h2) (fun m hm => by
    have := sizeL_take_le (L.take j) (m + 1)
    rw [List.take_take, Nat.min_eq_left (by omega)] at this
    exact decide_eq_false (by omega))]

/-- The ways in which the gathering ends. -/
theorem first_all (l : List ItT) (d m : Nat) (hm : l.length - d ≤ m) (h : sizeL (cutI l d l.length) ≤ 40000) : firstL (l.drop d) m = cutI l d l.length := by
  unfold cutI at h ⊢
  unfold firstL
  rw [List.take_of_length_le (by rw [List.length_drop]; omega)] at h ⊢
  rw [List.take_of_length_le (by rw [List.length_drop]; omega)]
  exact fit_all _ h
theorem first_most (l : List ItT) (d m i : Nat) (hm : i - d = m) (h : sizeL (cutI l d i) ≤ 40000) : firstL (l.drop d) m = cutI l d i := by
  subst hm
  exact fit_all _ h
theorem first_size (l : List ItT) (d m i : Nat) (hi : i < l.length) (hd : d ≤ i) (hm : i - d < m) (h : sizeL (cutI l d i) ≤ 40000) (h2 : 40000 < sizeL (cutI l d (i + 1))) : firstL (l.drop d) m = cutI l d i := by
  unfold cutI at h h2 ⊢
  unfold firstL
  have e1 : ((l.drop d).take m).take (i - d) = (l.drop d).take (i - d) := by rw [List.take_take, Nat.min_eq_left (by omega)]
  have e2 : ((l.drop d).take m).take (i - d + 1) = (l.drop d).take (i - d + 1) := by rw [List.take_take, Nat.min_eq_left (by omega)]
  rw [← e1]
  refine fit_at _ (i - d) (by rw [List.length_take, List.length_drop]; omega) (by rw [e1]; exact h) ?_
  rw [e2, show i - d + 1 = i + 1 - d by omega]
  exact h2

/-- The relay and the frame, each in a block of its own. -/
structure GvS (w : World) (A F : Array Value) (ra : Option Addr) (rn : Nat) (rl : List ItT) (W : World) : Prop where
  a : Blk W 33 w.heap.size A
  f : Blk W 39 (w.heap.size + 1) F
  b : Below w.heap.size w W
  r : ItsAt W ra rn rl
  b2 : w.heap.size + 1 + 1 ≤ W.heap.size

theorem GvS.on {w W W' : World} {A F : Array Value} {ra : Option Addr} {rn : Nat} {rl : List ItT} (h : GvS w A F ra rn rl W) (hb : Below W.heap.size W W') : GvS w A F ra rn rl W' := ⟨h.a.on hb, h.f.on hb, below_step h.b (Nat.le_refl _) hb, h.r.below hb, Nat.le_trans h.b2 hb.size⟩
theorem GvS.new (w : World) (A F : Array Value) {ra : Option Addr} {rn : Nat} {rl : List ItT} (h : ItsAt w ra rn rl) : GvS w A F ra rn rl ((w.alloc (.cells A 33)).alloc (.cells F 39)) :=
  have hb : Below w.heap.size w ((w.alloc (.cells A 33)).alloc (.cells F 39)) := (below_new w _).alloc (by simp) _
  ⟨(Blk.new w _ _).alloc _, Blk.new' _ _ _ _ (by simp), hb, h.below hb, by simp⟩
/-- A row of the call's own grows: what came stays. -/
theorem GvS.grown {w W W' : World} {A F : Array Value} {ra : Option Addr} {rn : Nat} {rl : List ItT} {r : Option Nat} (h0 : ItsAt w ra rn rl) (h : GvS w A F ra rn rl W) (g : W.grownBy W' r) (hr : ∀ j, r = some j → w.heap.size + 1 < j) : GvS w A F ra rn rl W' :=
  have hb : Below w.heap.size w W' := h.b.grown g h.b.size (fun j hj => by have := hr _ hj; omega)
  ⟨h.a.grown g (fun e => by have := hr _ e.symm; omega), h.f.grown g (fun e => by have := hr _ e.symm; omega), hb, h0.below hb, Nat.le_trans h.b2 g.size⟩
theorem GvS.cells {w W : World} {v0 v1 v2 v3 v4 v5 v6 v7 v8 f0 f1 f2 f3 f4 f5 f6 f7 : Value} {ra : Option Addr} {rn : Nat} {rl : List ItT} (h : GvS w #[v0, v1, v2, v3, v4, v5, v6, v7, v8] #[f0, f1, f2, f3, f4, f5, f6, f7] ra rn rl W) :
    (W.cell? ⟨w.heap.size, 0, none⟩ = some v0 ∧ W.cell? ⟨w.heap.size, 1, none⟩ = some v1 ∧ W.cell? ⟨w.heap.size, 2, none⟩ = some v2 ∧ W.cell? ⟨w.heap.size, 3, none⟩ = some v3 ∧ W.cell? ⟨w.heap.size, 4, none⟩ = some v4 ∧ W.cell? ⟨w.heap.size, 5, none⟩ = some v5 ∧ W.cell? ⟨w.heap.size, 6, none⟩ = some v6 ∧ W.cell? ⟨w.heap.size, 7, none⟩ = some v7 ∧ W.cell? ⟨w.heap.size, 8, none⟩ = some v8) ∧ (W.cell? ⟨w.heap.size + 1, 0, none⟩ = some f0 ∧ W.cell? ⟨w.heap.size + 1, 1, none⟩ = some f1 ∧ W.cell? ⟨w.heap.size + 1, 2, none⟩ = some f2 ∧ W.cell? ⟨w.heap.size + 1, 3, none⟩ = some f3 ∧ W.cell? ⟨w.heap.size + 1, 4, none⟩ = some f4 ∧ W.cell? ⟨w.heap.size + 1, 5, none⟩ = some f5 ∧ W.cell? ⟨w.heap.size + 1, 6, none⟩ = some f6 ∧ W.cell? ⟨w.heap.size + 1, 7, none⟩ = some f7) :=
  ⟨⟨h.a.cell 0, h.a.cell 1, h.a.cell 2, h.a.cell 3, h.a.cell 4, h.a.cell 5, h.a.cell 6, h.a.cell 7, h.a.cell 8⟩, ⟨h.f.cell 0, h.f.cell 1, h.f.cell 2, h.f.cell 3, h.f.cell 4, h.f.cell 5, h.f.cell 6, h.f.cell 7⟩⟩

set_option maxHeartbeats 8000000 in
theorem rgiven21_any (X : RlT) (N : Nat) (hX : RlOk N X) (hN : N ≤ 4611686018427387000) (F : FrmT) (hF : FrOk F) (fa : Option Addr) (fc : Nat) (xa : Option Addr) (xc : Nat) (w : World) (hI : ItsAt w xa X.2.2.2.length X.2.2.2) (hS : SliceOk xa X.2.2.2.length xc) :
    Calls Try.prog 26 #[.agg (rdA X xa xc), .agg (frmA F fa fc)] w fun e w' => e = .returned (.string (putFC (withG (giveR X F) X.1)).1) ∧ Below w.heap.size w w' := by
  have CE' : ∀ (er : Int) W, _ := fun er W => rfails21_any X xa xc er W
  have CA' : ∀ (L : List ItT) (a : Option Addr) (c : Nat) W, L.length ≤ 1048576 → (∀ i, (itL L i).2.2.size ≤ 1000000) → ItsAt W a L.length L → Calls Try.prog 28 #[.agg (rdA X xa xc), .agg (frmA (4, 0, 0, 0, 0, ⟨#[]⟩, L, 0) a c)] W fun e w' => e = .returned (.string (putFC (withG (4, 0, 0, 0, 0, ⟨#[]⟩, L, 0) X.1)).1) ∧ Below W.heap.size W w' := fun L a c W h1 h2 h3 => ranswer21_any X xa xc (4, 0, 0, 0, 0, ⟨#[]⟩, L, 0) a c W h1 h3 h2 (by show (ByteArray.mk #[]).size ≤ _; decide)
  have q2 := hX.many
  have q6 := hX.last
  have q7 := hX.b0
  have hsm := hX.sm
  have hsq := hX.seq
  have s0 := hF.s0
  have s1 := hF.s1
  have m0 := hF.m0
  unfold giveR
  obtain ⟨Kd, G, S, E, M, B, it, er⟩ := F
  obtain ⟨g, q, ⟨s, ep, bl⟩, l⟩ := X
  clear hX hF
  obtain ⟨La, hLa⟩ : ∃ La, lastL (g, q, (s, ep, bl), l) = La := ⟨_, rfl⟩
  obtain ⟨hs, hhs⟩ : ∃ hs : Bool, decide (s ≠ 0) = hs := ⟨_, rfl⟩
  obtain ⟨n, hn⟩ : ∃ n, l.length = n := ⟨_, rfl⟩
  obtain ⟨n0, hn0⟩ : ∃ n0, it.length = n0 := ⟨_, rfl⟩
  unfold rdA frmA at *
  simp only [hLa, hhs, hn, hn0, List.length_nil] at CE' CA' q2 q6 q7 hsm hsq s0 s1 m0 hI hS ⊢
  have hla : La = s + (n : Int) := by rw [← hLa, ← hn]; rfl
  have HL : Hid (l.length = n) := hn
  have HI : Hid (ItsAt w xa n l) := hI
  have HSM : Hid (∀ i, (itL l i).2.2.size ≤ 20000) := hsm
  have HSQ : Hid (∀ i, i < n → (itL l i).1 = s + (i : Int) + 1) := hsq
  have CE : Hid (∀ (er : Int) W, _) := CE'
  have CA : Hid (∀ (L : List ItT) (a : Option Addr) (c : Nat) W, _) := CA'
  have HS : Hid (GvS w #[.int .i64 g, .int .i64 q, .int .i64 s, .int .i64 La, .slice xa n xc, .bool hs, .int .i64 s, .int .i64 ep, .string bl] #[.int .i64 Kd, .int .i64 G, .int .i64 S, .int .i64 E, .int .i64 M, .string B, .slice fa n0 fc, .int .i64 er] xa n l _) := GvS.new w #[.int .i64 g, .int .i64 q, .int .i64 s, .int .i64 La, .slice xa n xc, .bool hs, .int .i64 s, .int .i64 ep, .string bl] #[.int .i64 Kd, .int .i64 G, .int .i64 S, .int .i64 E, .int .i64 M, .string B, .slice fa n0 fc, .int .i64 er] hI
  clear CE' CA' hI hn hn0 hLa hhs hsm hsq
  by_cases h1 : S ≤ s
  · rw [if_pos h1]
    clear HSM HSQ CA q2 q6 q7 s0 s1 m0 hla hN
    have HC : Hid (Calls Try.prog 24 _ ((w.alloc (.cells #[.int .i64 g, .int .i64 q, .int .i64 s, .int .i64 La, .slice xa n xc, .bool hs, .int .i64 s, .int .i64 ep, .string bl] 33)).alloc (.cells #[.int .i64 Kd, .int .i64 G, .int .i64 S, .int .i64 E, .int .i64 M, .string B, .slice fa n0 fc, .int .i64 er] 39)) _) := CE.out 210 _
    clear CE
    go_enter Try.func26, Try.ntmps26
    go_wp2_with fail
    refine HC.out.mono ?_
    rintro e w2 ⟨rfl, hb2⟩
    have HZ : Hid (Below w.heap.size w w2) := (HS.out.on hb2).b
    clear hb2 HC HS
    go_wp2_with fail
    go_ret
    exact ⟨rfl, HZ.out⟩
  · rw [if_neg h1]
    obtain ⟨d, hd⟩ : ∃ d, (min S (La + 1) - 1 - s).toNat = d := ⟨_, rfl⟩
    obtain ⟨m, hm⟩ : ∃ m, (min M 32).toNat = m := ⟨_, rfl⟩
    rw [hd, hm]
    have HD : Hid (∀ k : Nat, k < n → ((s + (k : Int) + 1 < S) ↔ k < d)) := fun k hk => by omega
    have HM : Hid (min M 32 = (m : Int)) := by show _ = _; omega
    have hmm : m ≤ 32 := by omega
    have hdn : d ≤ n := by omega
    obtain ⟨R, hR⟩ : ∃ R, firstL (l.drop d) m = R := ⟨_, rfl⟩
    rw [hR]
    have HR : Hid (firstL (l.drop d) m = R) := hR
    obtain ⟨i0, hi, hz0, hz1, hz2⟩ := info_parts Try.infoI19
    have hmin : min M 32 = (m : Int) := HM.out
    clear q6 q7 s0 s1 m0 hla hN hd hm CE hR
    go_enter Try.func26, Try.ntmps26
    go_wp2_with fail
    go_loopw [5, 6, 7] (fun lv bv iv wr => ∃ k : Nat, k ≤ n ∧ iv = .int .i64 k ∧ bv = .int .i64 ((sizeL (cutI l d k) : Nat) : Int) ∧ Hid (sizeL (cutI l d k) ≤ 40000 ∧ k - d ≤ m) ∧ Hid (OwnI19 wr (w.heap.size + 1 + 1) lv (cutI l d k)) ∧ Hid (GvS w #[.int .i64 g, .int .i64 q, .int .i64 s, .int .i64 La, .slice xa n xc, .bool hs, .int .i64 s, .int .i64 ep, .string bl] #[.int .i64 Kd, .int .i64 G, .int .i64 S, .int .i64 E, .int .i64 M, .string B, .slice fa n0 fc, .int .i64 er] xa n l wr)) (fun _ _ iv _ => n - (intOf iv).toNat)
    case atStart => exact ⟨0, Nat.zero_le _, rfl, (by rw [cutI_no l d 0 (Nat.zero_le _)]; rfl), ⟨by rw [cutI_no l d 0 (Nat.zero_le _)]; show 0 ≤ _; omega, by omega⟩, by rw [cutI_no l d 0 (Nat.zero_le _)]; exact World.ownsRow_nil _ _ _ _, HS⟩
    case round =>
      clear HS
      obtain ⟨k, hk, rfl, rfl, HZ, HO, HS⟩ := hrel
      have hlk : (cutI l d k).length = k - d := cutI_len l d k (by rw [HL.out]; exact hk)
      obtain ⟨ca, cc, hlv, hcc, _, hca⟩ := HO.out.rows
      rw [hlk] at hlv hcc hca
      subst hlv
      obtain ⟨mz, hmz⟩ : ∃ mz, sizeL (cutI l d k) = mz := ⟨_, rfl⟩
      rw [hmz]
      have HMZ : Hid (sizeL (cutI l d k) = mz) := hmz
      have HCA : Hid (ItsAt wr ca (k - d) (cutI l d k)) := hca
      obtain ⟨⟨a0, a1, a2, a3, a4, a5, a6, a7, a8⟩, ⟨f0, f1, f2, f3, f4, f5, f6, f7⟩⟩ := HS.out.cells
      clear hca hmz
      by_cases hlt : k < n
      · have b0 : (k : Int) < (n : Int) := by omega
        by_cases hlm : k - d < m
        · have b1 : ((k - d : Nat) : Int) < (m : Int) := by omega
          obtain ⟨b, off, rfl, hcl⟩ := HS.out.r.2.resolve_left (by omega)
          obtain ⟨x0, x1, x2⟩ := hcl k (by omega)
          have hq := HSQ.out k hlt
          obtain ⟨⟨p1, p2, p3⟩, hp⟩ : ∃ s, s = itL l k := ⟨_, rfl⟩
          rw [← hp] at x0 x1 x2 hq
          simp only at x0 x1 x2 hq
          have HP : Hid ((p1, p2, p3) = itL l k) := hp
          clear hcl hp
          by_cases hkd : k < d
          · have q0 : p1 < S := by rw [hq]; exact (HD.out k hlt).2 hkd
            have q1 : decide (p1 < S) = true := decide_eq_true q0
            have ek : cutI l d k = [] := cutI_no l d k (by omega)
            have ek1 : cutI l d (k + 1) = [] := cutI_no l d (k + 1) (by omega)
            obtain rfl : mz = 0 := by have := HMZ.out; rw [ek] at this; exact this.symm
            clear HM HD HR HSQ HSM CA hq
            go_wp2_with fail
            go_quiet (fail)
            go_wp2_with fail
            refine ⟨⟨k + 1, by omega, by go_num, by rw [ek1]; rfl, by rw [ek1]; exact ⟨Nat.zero_le _, by omega⟩, by rw [ek1, ← ek]; exact owns_on HO.out (below_drewN (Below.refl _ _) _), HS.out.on (below_drewN (Below.refl _ _) _)⟩, ?_⟩
            simp [intOf]; omega
          · have q0 : ¬ p1 < S := by rw [hq]; exact fun h => hkd ((HD.out k hlt).1 h)
            have q1 : decide (p1 < S) = false := decide_eq_false q0
            have ek := cutI_size l d k (by rw [HL.out]; exact hlt) (by omega)
            rw [← HP.out, HMZ.out] at ek
            simp only at ek
            have hp3 : p3.size ≤ 20000 := by have := HSM.out k; rw [← HP.out] at this; exact this
            have hmz4 : mz ≤ 40000 := by have := HZ.out.1; rw [HMZ.out] at this; exact this
            have hwz : IntKind.i64.wrap ((mz : Int) + (p3.size : Int)) = (mz : Int) + (p3.size : Int) := by rw [IntKind.wrap_i64]; omega
            by_cases h4 : 40000 < mz + p3.size
            · have h4i : (40000 : Int) < (mz : Int) + (p3.size : Int) := by omega
              have hRR : cutI l d k = R := by rw [← HR.out]; exact (first_size l d m k (by rw [HL.out]; exact hlt) (by omega) hlm (by rw [HMZ.out]; exact hmz4) (by rw [ek]; exact h4)).symm
              go_wp2_with fail
              go_quiet (fail)
              have HW : Hid (Below wr.heap.size wr (wr.drewN nq)) := below_drewN (Below.refl _ _) _
              have HCC : Hid (∀ W, ItsAt W ca (k - d) (cutI l d k) → Calls Try.prog 28 #[.agg #[.int .i64 g, .int .i64 q, .int .i64 s, .int .i64 La, .slice (some ⟨b, off, none⟩) n xc, .bool hs, .int .i64 s, .int .i64 ep, .string bl], .agg #[.int .i64 4, .int .i64 0, .int .i64 0, .int .i64 0, .int .i64 0, .string ⟨#[]⟩, .slice ca (k - d) cc, .int .i64 0]] W fun e w' => e = .returned (.string (putFC (withG (4, 0, 0, 0, 0, ⟨#[]⟩, R, 0) g)).1) ∧ Below W.heap.size W w') := fun W hW => by
                have hh := CA.out (cutI l d k) ca cc W (by rw [hlk]; omega) (fun j => Nat.le_trans (itL_cutI l d k j 20000 HSM.out) (by decide)) (by rw [hlk]; exact hW)
                rw [hlk, hRR] at hh
                exact hh
              clear CA HR HM HD HSQ hRR
              go_wp2_with fail
              refine (HCC.out _ (HCA.out.below HW.out)).mono ?_
              rintro e w2 ⟨rfl, hb2⟩
              have HB2 : Hid (Below w.heap.size w w2) := below_step (below_step HS.out.b (Nat.le_refl _) HW.out) (Nat.le_refl _) hb2
              clear hb2 HCC HS
              go_wp2_with fail
              go_ret
              exact ⟨rfl, HB2.out⟩
            · have h4i : ¬ ((40000 : Int) < (mz : Int) + (p3.size : Int)) := by omega
              have ekm := cutI_more l d k (by rw [HL.out]; exact hlt) (by omega)
              rw [← HP.out] at ekm
              clear HM HD HR HSQ CA hq
              go_wp2_with fail
              go_quiet (fail)
              have HW : Hid (Below wr.heap.size wr (wr.drewN nq)) := below_drewN (Below.refl _ _) _
              obtain ⟨Wd, hWd⟩ : ∃ Wd, wr.drewN nq = Wd := ⟨_, rfl⟩
              rw [hWd] at HW ⊢
              have HS1 : Hid (GvS w #[.int .i64 g, .int .i64 q, .int .i64 s, .int .i64 La, .slice (some ⟨b, off, none⟩) n xc, .bool hs, .int .i64 s, .int .i64 ep, .string bl] #[.int .i64 Kd, .int .i64 G, .int .i64 S, .int .i64 E, .int .i64 M, .string B, .slice fa n0 fc, .int .i64 er] (some ⟨b, off, none⟩) n l Wd) := HS.out.on HW.out
              have HO1 : Hid (OwnI19 Wd (w.heap.size + 1 + 1) (.slice ca (k - d) cc) (cutI l d k)) := owns_on HO.out HW.out
              have HX : Hid (ItsAt Wd (some ⟨b, off, none⟩) n l) := HS1.out.r
              clear a0 a1 a2 a3 a4 a5 a6 a7 a8 f0 f1 f2 f3 f4 f5 f6 f7 x0 x1 x2 HS HO hWd HCA
              obtain ⟨⟨a0, a1, a2, a3, a4, a5, a6, a7, a8⟩, ⟨f0, f1, f2, f3, f4, f5, f6, f7⟩⟩ := HS1.out.cells
              obtain ⟨b', off', hbe, hcl⟩ := HX.out.2.resolve_left (by omega)
              cases hbe
              obtain ⟨x0, x1, x2⟩ := hcl k (by omega)
              rw [← HP.out] at x0 x1 x2
              simp only at x0 x1 x2
              clear hcl
              have hown : World.ownsRow Wd (w.heap.size + 1 + 1) 31 3 (.slice ca (k - d) cc) (k - d) (cellsI (cutI l d k)) := by have := HO1.out; unfold OwnI19 at this; rw [hlk] at this; exact this
              have HOW : Hid (World.ownsRow Wd (w.heap.size + 1 + 1) 31 3 (.slice ca (k - d) cc) (k - d) (cellsI (cutI l d k))) := hown
              have HB2 : Hid (w.heap.size + 1 + 1 ≤ Wd.heap.size) := HS1.out.b2
              clear hown
              go_wp2_with (at_builtin; refine wpList_appR2 rfl (.tmp 50) (.tmp 56) 29 rfl (w.heap.size + 1 + 1) 31 i0 _ 3 32 Try.underlying29 hi hz0 hz1 hz2 rfl (by decide) Wd (.slice ca (k - d) cc) _ _ rfl HOW.out #[.int .i64 p1, .int .i64 p2, .string p3] rfl (itemA_one (p1, p2, p3)) rfl (by omega) (by unfold maxLen; omega) HB2.out ?_)
              intro v6 w6 hown6 hgr6
              have HO6 : Hid (OwnI19 w6 (w.heap.size + 1 + 1) v6 (cutI l d (k + 1))) := by
                show OwnI19 _ _ _ _
                unfold OwnI19
                rw [ekm, cellsI_snoc, List.length_append, hlk]
                exact hown6
              have HS6 : Hid (GvS w #[.int .i64 g, .int .i64 q, .int .i64 s, .int .i64 La, .slice (some ⟨b, off, none⟩) n xc, .bool hs, .int .i64 s, .int .i64 ep, .string bl] #[.int .i64 Kd, .int .i64 G, .int .i64 S, .int .i64 E, .int .i64 M, .string B, .slice fa n0 fc, .int .i64 er] (some ⟨b, off, none⟩) n l w6) := (HS1.out.on (below_new Wd (.cells #[.int .i64 p1, .int .i64 p2, .string p3] 31))).grown HI.out hgr6 (fun j hj => by have := (World.ownsRow.lt HOW.out j hj).1; omega)
              clear hown6 hgr6 HOW HS1 HO1 HX a0 a1 a2 a3 a4 a5 a6 a7 a8 f0 f1 f2 f3 f4 f5 f6 f7 x0 x1 x2
              go_wp2_with fail
              refine ⟨⟨k + 1, by omega, by go_num, by rw [ek]; simp, ⟨by rw [ek]; omega, by omega⟩, HO6, HS6⟩, ?_⟩
              simp [intOf]; omega
        · have b1 : ¬ (((k - d : Nat) : Int) < (m : Int)) := by omega
          have hRR : cutI l d k = R := by rw [← HR.out]; exact (first_most l d m k (by have := HZ.out.2; omega) HZ.out.1).symm
          have HCC : Hid (∀ W, ItsAt W ca (k - d) (cutI l d k) → Calls Try.prog 28 #[.agg #[.int .i64 g, .int .i64 q, .int .i64 s, .int .i64 La, .slice xa n xc, .bool hs, .int .i64 s, .int .i64 ep, .string bl], .agg #[.int .i64 4, .int .i64 0, .int .i64 0, .int .i64 0, .int .i64 0, .string ⟨#[]⟩, .slice ca (k - d) cc, .int .i64 0]] W fun e w' => e = .returned (.string (putFC (withG (4, 0, 0, 0, 0, ⟨#[]⟩, R, 0) g)).1) ∧ Below W.heap.size W w') := fun W hW => by
            have hh := CA.out (cutI l d k) ca cc W (by rw [hlk]; omega) (fun j => Nat.le_trans (itL_cutI l d k j 20000 HSM.out) (by decide)) (by rw [hlk]; exact hW)
            rw [hlk, hRR] at hh
            exact hh
          clear CA HR HM HD HSQ hRR
          go_wp2_with fail
          refine (HCC.out _ HCA.out).mono ?_
          rintro e w2 ⟨rfl, hb2⟩
          have HB2 : Hid (Below w.heap.size w w2) := below_step HS.out.b (Nat.le_refl _) hb2
          clear hb2 HCC HS
          go_wp2_with fail
          go_ret
          exact ⟨rfl, HB2.out⟩
      · obtain rfl : k = n := by omega
        have b0 : ¬ ((k : Int) < (k : Int)) := by omega
        have hRR : cutI l d k = R := by rw [← HR.out]; have := first_all l d m (by have := HZ.out.2; rw [HL.out]; omega) (by rw [HL.out]; exact HZ.out.1); rw [HL.out] at this; exact this.symm
        have HCC : Hid (∀ W, ItsAt W ca (k - d) (cutI l d k) → Calls Try.prog 28 #[.agg #[.int .i64 g, .int .i64 q, .int .i64 s, .int .i64 La, .slice xa k xc, .bool hs, .int .i64 s, .int .i64 ep, .string bl], .agg #[.int .i64 4, .int .i64 0, .int .i64 0, .int .i64 0, .int .i64 0, .string ⟨#[]⟩, .slice ca (k - d) cc, .int .i64 0]] W fun e w' => e = .returned (.string (putFC (withG (4, 0, 0, 0, 0, ⟨#[]⟩, R, 0) g)).1) ∧ Below W.heap.size W w') := fun W hW => by
          have hh := CA.out (cutI l d k) ca cc W (by rw [hlk]; omega) (fun j => Nat.le_trans (itL_cutI l d k j 20000 HSM.out) (by decide)) (by rw [hlk]; exact hW)
          rw [hlk, hRR] at hh
          exact hh
        clear CA HR HM HD HSQ hRR
        go_wp2_with fail
        refine (HCC.out _ HCA.out).mono ?_
        rintro e w2 ⟨rfl, hb2⟩
        have HB2 : Hid (Below w.heap.size w w2) := below_step HS.out.b (Nat.le_refl _) hb2
        clear hb2 HCC HS
        go_wp2_with fail
        go_ret
        exact ⟨rfl, HB2.out⟩
end Go.Proofs.Ytkmdajenbidaaaa

/- The document's relay (layer 21): keeps. (mkrref.py) -/
namespace Go.Proofs.Ytkmdajenbidaaaa
open Go.RowKit
set_option maxRecDepth 100000
set_option linter.unusedSimpArgs false
set_option linter.unusedVariables false
set_option maxRecDepth 100000

/-- What a slicing from the k-th on gives. -/
theorem run_sliceFrom (b off n c k : Nat) (hk : k ≤ n) (hc : n ≤ c) : ∃ a', (∀ w, (Instr.slice 29 (.slice (some ⟨b, off, none⟩) n c) (some (.int .i64 (k : Int))) none none).run Try.prog w = .ok (.slice a' (n - k) (c - k)) w) ∧ (n - k = 0 ∨ a' = some ⟨b, off + k * 3, none⟩) ∧ (∃ x, a' = some x) := by
  obtain ⟨i0, hi, hz0, hz1, hz2⟩ := info_parts Try.infoI19
  have h1 : (0 : Int) ≤ (k : Int) ∧ (k : Int) ≤ (n : Int) := by omega
  by_cases hck : k = c
  · refine ⟨some ⟨b, off, none⟩, fun w => ?_, .inl (by omega), _, rfl⟩
    subst hck
    unfold Instr.slice
    simp [run_underlying Try.underlying29, Instr.sliceBounds, Instr.sliceBound, asIntOf, sizeOf, typeInfo, hi, hz1, h1, hk, hc]
  · refine ⟨some ⟨b, off + k * 3, none⟩, fun w => ?_, .inr rfl, _, rfl⟩
    unfold Instr.slice
    have hck2 : ¬ c = k := fun e => hck e.symm
    simp [run_underlying Try.underlying29, Instr.sliceBounds, Instr.sliceBound, asIntOf, sizeOf, typeInfo, hi, hz1, h1, hk, hc, hck, hck2, Addr.add]

/-- The relay, the frame, the result and the new relay, each in a block of its own. -/
structure KpS (w : World) (A F Z M : Array Value) (W : World) : Prop where
  a : Blk W 33 w.heap.size A
  f : Blk W 39 (w.heap.size + 1) F
  z : Blk W 33 (w.heap.size + 1 + 1) Z
  m : Blk W 33 (w.heap.size + 1 + 1 + 1) M
  b : Below w.heap.size w W

theorem KpS.on {w W W' : World} {A F Z M : Array Value} (h : KpS w A F Z M W) (hb : Below W.heap.size W W') : KpS w A F Z M W' := ⟨h.a.on hb, h.f.on hb, h.z.on hb, h.m.on hb, below_step h.b (Nat.le_refl _) hb⟩
theorem KpS.new (w : World) (A F Z M : Array Value) : KpS w A F Z M ((((w.alloc (.cells A 33)).alloc (.cells F 39)).alloc (.cells Z 33)).alloc (.cells M 33)) :=
  ⟨(((Blk.new w _ _).alloc _).alloc _).alloc _, ((Blk.new' _ _ _ _ (by simp)).alloc _).alloc _, (Blk.new' _ _ _ _ (by simp)).alloc _, Blk.new' _ _ _ _ (by simp), (((below_new w _).alloc (by simp) _).alloc (by simp; omega) _).alloc (by simp; omega) _⟩
theorem KpS.setZ {w W : World} {A F Z M : Array Value} (h : KpS w A F Z M W) (Z' : Array Value) : KpS w A F Z' M (W.setRow (w.heap.size + 1 + 1) Z') :=
  ⟨h.a.setRowOther _ (by omega) _, h.f.setRowOther _ (by omega) _, h.z.setRow _, h.m.setRowOther _ (by omega) _, below_setRow h.b (by omega) _⟩
theorem KpS.rowM {w W : World} {A F Z M : Array Value} (h : KpS w A F Z M W) (M' : Array Value) : KpS w A F Z M' (W.setRow (w.heap.size + 1 + 1 + 1) M') :=
  ⟨h.a.setRowOther _ (by omega) _, h.f.setRowOther _ (by omega) _, h.z.setRowOther _ (by omega) _, h.m.setRow _, below_setRow h.b (by omega) _⟩
theorem KpS.setM {w W : World} {A F Z M : Array Value} (h : KpS w A F Z M W) (j : Nat) (u : Value) : KpS w A F Z (M.setIfInBounds j u) (W.setCell ⟨w.heap.size + 1 + 1 + 1, j, none⟩ u) :=
  ⟨h.a.other ⟨w.heap.size + 1 + 1 + 1, j, none⟩ (by show w.heap.size ≠ w.heap.size + 1 + 1 + 1; omega) u, h.f.other ⟨w.heap.size + 1 + 1 + 1, j, none⟩ (by show w.heap.size + 1 ≠ w.heap.size + 1 + 1 + 1; omega) u, h.z.other ⟨w.heap.size + 1 + 1 + 1, j, none⟩ (by show w.heap.size + 1 + 1 ≠ w.heap.size + 1 + 1 + 1; omega) u, h.m.setAt j u, h.b.setCell (p := ⟨w.heap.size + 1 + 1 + 1, j, none⟩) (by show w.heap.size ≤ w.heap.size + 1 + 1 + 1; omega) u⟩
theorem KpS.cells {w W : World} {v0 v1 v2 v3 v4 v5 v6 v7 v8 f0 f1 f2 f3 f4 f5 f6 f7 m0 m1 m2 m3 m4 m5 m6 m7 m8 : Value} {Z : Array Value} (h : KpS w #[v0, v1, v2, v3, v4, v5, v6, v7, v8] #[f0, f1, f2, f3, f4, f5, f6, f7] Z #[m0, m1, m2, m3, m4, m5, m6, m7, m8] W) :
    (W.cell? ⟨w.heap.size, 0, none⟩ = some v0 ∧ W.cell? ⟨w.heap.size, 1, none⟩ = some v1 ∧ W.cell? ⟨w.heap.size, 2, none⟩ = some v2 ∧ W.cell? ⟨w.heap.size, 3, none⟩ = some v3 ∧ W.cell? ⟨w.heap.size, 4, none⟩ = some v4 ∧ W.cell? ⟨w.heap.size, 5, none⟩ = some v5 ∧ W.cell? ⟨w.heap.size, 6, none⟩ = some v6 ∧ W.cell? ⟨w.heap.size, 7, none⟩ = some v7 ∧ W.cell? ⟨w.heap.size, 8, none⟩ = some v8) ∧ (W.cell? ⟨w.heap.size + 1, 0, none⟩ = some f0 ∧ W.cell? ⟨w.heap.size + 1, 1, none⟩ = some f1 ∧ W.cell? ⟨w.heap.size + 1, 2, none⟩ = some f2 ∧ W.cell? ⟨w.heap.size + 1, 3, none⟩ = some f3 ∧ W.cell? ⟨w.heap.size + 1, 4, none⟩ = some f4 ∧ W.cell? ⟨w.heap.size + 1, 5, none⟩ = some f5 ∧ W.cell? ⟨w.heap.size + 1, 6, none⟩ = some f6 ∧ W.cell? ⟨w.heap.size + 1, 7, none⟩ = some f7) ∧ (W.cell? ⟨w.heap.size + 1 + 1 + 1, 0, none⟩ = some m0 ∧ W.cell? ⟨w.heap.size + 1 + 1 + 1, 1, none⟩ = some m1 ∧ W.cell? ⟨w.heap.size + 1 + 1 + 1, 2, none⟩ = some m2 ∧ W.cell? ⟨w.heap.size + 1 + 1 + 1, 3, none⟩ = some m3 ∧ W.cell? ⟨w.heap.size + 1 + 1 + 1, 4, none⟩ = some m4 ∧ W.cell? ⟨w.heap.size + 1 + 1 + 1, 5, none⟩ = some m5 ∧ W.cell? ⟨w.heap.size + 1 + 1 + 1, 6, none⟩ = some m6 ∧ W.cell? ⟨w.heap.size + 1 + 1 + 1, 7, none⟩ = some m7 ∧ W.cell? ⟨w.heap.size + 1 + 1 + 1, 8, none⟩ = some m8) :=
  ⟨⟨h.a.cell 0, h.a.cell 1, h.a.cell 2, h.a.cell 3, h.a.cell 4, h.a.cell 5, h.a.cell 6, h.a.cell 7, h.a.cell 8⟩, ⟨h.f.cell 0, h.f.cell 1, h.f.cell 2, h.f.cell 3, h.f.cell 4, h.f.cell 5, h.f.cell 6, h.f.cell 7⟩, ⟨h.m.cell 0, h.m.cell 1, h.m.cell 2, h.m.cell 3, h.m.cell 4, h.m.cell 5, h.m.cell 6, h.m.cell 7, h.m.cell 8⟩⟩

set_option maxHeartbeats 8000000 in
theorem rkeeps21_any (X : RlT) (N : Nat) (hX : RlOk N X) (hN : N ≤ 4611686018427387000) (F : FrmT) (hF : FrOk F) (fa : Option Addr) (fc : Nat) (xa : Option Addr) (xc : Nat) (w : World) (hI : ItsAt w xa X.2.2.2.length X.2.2.2) (hS : SliceOk xa X.2.2.2.length xc) :
    Calls Try.prog 27 #[.agg (rdA X xa xc), .agg (frmA F fa fc)] w fun e w' => ∃ v', e = .returned (.tuple #[v', .string (putFC (withG (keepR X F).2 X.1)).1]) ∧ RdTo w xa X.2.2.2.length w' v' (keepR X F).1 ∧ Below w.heap.size w w' := by
  have CE' : ∀ (er : Int) W, _ := fun er W => rfails21_any X xa xc er W
  have q2 := hX.many
  have q3 := hX.bytes
  have q4 := hX.q1
  have q6 := hX.last
  have q7 := hX.b0
  have hg0 := hX.g0
  have hg1 := hX.g1
  have hq0 := hX.q0
  have hsm := hX.sm
  have hsq := hX.seq
  have s1 := hF.s1
  have f4 := hF.bl
  unfold keepR
  obtain ⟨Kd, G, S, E, M, B, it, er⟩ := F
  obtain ⟨g, q, ⟨s, ep, bl⟩, l⟩ := X
  clear hF
  obtain ⟨La, hLa⟩ : ∃ La, lastL (g, q, (s, ep, bl), l) = La := ⟨_, rfl⟩
  obtain ⟨hs, hhs⟩ : ∃ hs : Bool, decide (s ≠ 0) = hs := ⟨_, rfl⟩
  obtain ⟨n, hn⟩ : ∃ n, l.length = n := ⟨_, rfl⟩
  obtain ⟨n0, hn0⟩ : ∃ n0, it.length = n0 := ⟨_, rfl⟩
  unfold rdA frmA at *
  simp only [hLa, hhs, hn, hn0, List.length_nil] at CE' q2 q3 q4 q6 q7 hg0 hg1 hq0 hsm hsq s1 f4 hI hS ⊢
  have hla : La = s + (n : Int) := by rw [← hLa, ← hn]; rfl
  have HL : Hid (l.length = n) := hn
  have HI : Hid (ItsAt w xa n l) := hI
  have HSO : Hid (SliceOk xa n xc) := hS
  have HRD : Hid (∀ W, ItsAt W xa n l → RdTo w xa n W (.agg #[.int .i64 g, .int .i64 q, .int .i64 s, .int .i64 La, .slice xa n xc, .bool hs, .int .i64 s, .int .i64 ep, .string bl]) (g, q, (s, ep, bl), l)) := fun W hW => ⟨xa, xc, by unfold rdA; simp only [hLa, hhs, hn], by rw [hn]; exact hW, by rw [hn]; exact hS, fun _ _ hg => by rw [hn]; exact hg⟩
  have CE : Hid (∀ (er : Int) W, _) := CE'
  have HS : Hid (ApS w #[.int .i64 g, .int .i64 q, .int .i64 s, .int .i64 La, .slice xa n xc, .bool hs, .int .i64 s, .int .i64 ep, .string bl] #[.int .i64 Kd, .int .i64 G, .int .i64 S, .int .i64 E, .int .i64 M, .string B, .slice fa n0 fc, .int .i64 er] #[.int .i64 0, .int .i64 0, .int .i64 0, .int .i64 0, .slice none 0 0, .bool false, .int .i64 0, .int .i64 0, .string ⟨#[]⟩] xa n l _) := ApS.new w #[.int .i64 g, .int .i64 q, .int .i64 s, .int .i64 La, .slice xa n xc, .bool hs, .int .i64 s, .int .i64 ep, .string bl] #[.int .i64 Kd, .int .i64 G, .int .i64 S, .int .i64 E, .int .i64 M, .string B, .slice fa n0 fc, .int .i64 er] #[.int .i64 0, .int .i64 0, .int .i64 0, .int .i64 0, .slice none 0 0, .bool false, .int .i64 0, .int .i64 0, .string ⟨#[]⟩] hI
  clear CE' hn0 hI
  by_cases h1 : S ≤ s
  · have g1 : decide (S ≤ s) = true := decide_eq_true h1
    rw [if_pos (Or.inl h1)]
    clear q2 q3 q4 q6 q7 hg0 hg1 hq0 hsm hsq s1 f4 hS hX hN hn hla hLa hhs
    obtain ⟨⟨a0, a1, a2, a3, a4, a5, a6, a7, a8⟩, ⟨f0, f1, f2, f3, f4, f5, f6, f7⟩⟩ := HS.out.cells
    go_enter Try.func27, Try.ntmps27
    go_wp2_with fail
    obtain ⟨W0, hW0⟩ : ∃ W0, ((w.alloc (.cells #[.int .i64 g, .int .i64 q, .int .i64 s, .int .i64 La, .slice xa n xc, .bool hs, .int .i64 s, .int .i64 ep, .string bl] 33)).alloc (.cells #[.int .i64 Kd, .int .i64 G, .int .i64 S, .int .i64 E, .int .i64 M, .string B, .slice fa n0 fc, .int .i64 er] 39)).alloc (.cells #[.int .i64 0, .int .i64 0, .int .i64 0, .int .i64 0, .slice none 0 0, .bool false, .int .i64 0, .int .i64 0, .string ⟨#[]⟩] 33) = W0 := ⟨_, rfl⟩
    rw [hW0] at HS ⊢
    clear hW0 a0 a1 a2 a3 a4 a5 a6 a7 a8 f0 f1 f2 f3 f4 f5 f6 f7
    have HD0 : Hid (ApS w #[.int .i64 g, .int .i64 q, .int .i64 s, .int .i64 La, .slice xa n xc, .bool hs, .int .i64 s, .int .i64 ep, .string bl] #[.int .i64 Kd, .int .i64 G, .int .i64 S, .int .i64 E, .int .i64 M, .string B, .slice fa n0 fc, .int .i64 er] #[.int .i64 0, .int .i64 0, .int .i64 0, .int .i64 0, .slice none 0 0, .bool false, .int .i64 0, .int .i64 0, .string ⟨#[]⟩] xa n l W0.drew) := HS.out.on (Below.refl _ _).drew
    have hS0 := HD0.out.cells
    refine wp_region_noPanic ?_
    refine wp_region_held_drew (S := fun W => (W.cell? ⟨w.heap.size, 0, none⟩ = some (.int .i64 g) ∧ W.cell? ⟨w.heap.size, 1, none⟩ = some (.int .i64 q) ∧ W.cell? ⟨w.heap.size, 2, none⟩ = some (.int .i64 s) ∧ W.cell? ⟨w.heap.size, 3, none⟩ = some (.int .i64 La) ∧ W.cell? ⟨w.heap.size, 4, none⟩ = some (.slice xa n xc) ∧ W.cell? ⟨w.heap.size, 5, none⟩ = some (.bool hs) ∧ W.cell? ⟨w.heap.size, 6, none⟩ = some (.int .i64 s) ∧ W.cell? ⟨w.heap.size, 7, none⟩ = some (.int .i64 ep) ∧ W.cell? ⟨w.heap.size, 8, none⟩ = some (.string bl)) ∧ (W.cell? ⟨w.heap.size + 1, 0, none⟩ = some (.int .i64 Kd) ∧ W.cell? ⟨w.heap.size + 1, 1, none⟩ = some (.int .i64 G) ∧ W.cell? ⟨w.heap.size + 1, 2, none⟩ = some (.int .i64 S) ∧ W.cell? ⟨w.heap.size + 1, 3, none⟩ = some (.int .i64 E) ∧ W.cell? ⟨w.heap.size + 1, 4, none⟩ = some (.int .i64 M) ∧ W.cell? ⟨w.heap.size + 1, 5, none⟩ = some (.string B) ∧ W.cell? ⟨w.heap.size + 1, 6, none⟩ = some (.slice fa n0 fc) ∧ W.cell? ⟨w.heap.size + 1, 7, none⟩ = some (.int .i64 er))) (by kernel_rfl) (by first | exact trivial | assumption | exact ⟨by assumption, by assumption⟩) (fun hHeld => ?_)
    refine take_at (i := 0) (v := ?_) rfl rfl (by kernel_rfl) (by kernel_rfl) (by kernel_rfl) (fun _ _ _ h => h) (Or.inl ⟨by rfl, ?_⟩) (by assumption) ?_
    rotate_left
    · intro w hSw; (try dsimp only at hSw); go_simp; try with_reducible rfl
    try simp only [Act.put, List.setIfInBounds_toArray, List.set_cons_zero, List.set_cons_succ]
    refine take_at (i := 1) (v := ?_) rfl rfl (by kernel_rfl) (by kernel_rfl) (by kernel_rfl) (fun _ _ _ h => h) (Or.inl ⟨by rfl, ?_⟩) (by assumption) ?_
    rotate_left
    · intro w hSw; (try dsimp only at hSw); go_simp; try with_reducible rfl
    try simp only [Act.put, List.setIfInBounds_toArray, List.set_cons_zero, List.set_cons_succ]
    refine wpAnyH_ready (rs := [2]) (by kernel_rfl) (by simp) ?_
    refine AllReadyH.cons rfl (fun K hK => ?_) AllReadyH.nil
    go_simp
    refine (CE.out 1 _).mono ?_
    rintro e V ⟨rfl, hb⟩
    have HD1 : Hid (ApS w #[.int .i64 g, .int .i64 q, .int .i64 s, .int .i64 La, .slice xa n xc, .bool hs, .int .i64 s, .int .i64 ep, .string bl] #[.int .i64 Kd, .int .i64 G, .int .i64 S, .int .i64 E, .int .i64 M, .string B, .slice fa n0 fc, .int .i64 er] #[.int .i64 0, .int .i64 0, .int .i64 0, .int .i64 0, .slice none 0 0, .bool false, .int .i64 0, .int .i64 0, .string ⟨#[]⟩] xa n l V) := HD0.out.on hb
    clear hb HD0
    refine hK.out _ _ HD1.out.cells (fun hHeld => ?_)
    clear hK K
    refine wpAnyH_ready (rs := [3]) (by kernel_rfl) (by simp) ?_
    refine AllReadyH.cons rfl (fun K hK => ?_) AllReadyH.nil
    refine step_storeRow rfl rfl 33 _ _ rfl (w.heap.size + 1 + 1) #[.int .i64 0, .int .i64 0, .int .i64 0, .int .i64 0, .slice none 0 0, .bool false, .int .i64 0, .int .i64 0, .string ⟨#[]⟩] #[.int .i64 g, .int .i64 q, .int .i64 s, .int .i64 La, .slice xa n xc, .bool hs, .int .i64 s, .int .i64 ep, .string bl] (by with_unfolding_all rfl) (by with_unfolding_all rfl) HD1.out.z rfl (by kernel_rfl) (by simp [Value.oneCell']) ?_
    have HD2 : Hid (ApS w #[.int .i64 g, .int .i64 q, .int .i64 s, .int .i64 La, .slice xa n xc, .bool hs, .int .i64 s, .int .i64 ep, .string bl] #[.int .i64 Kd, .int .i64 G, .int .i64 S, .int .i64 E, .int .i64 M, .string B, .slice fa n0 fc, .int .i64 er] #[.int .i64 g, .int .i64 q, .int .i64 s, .int .i64 La, .slice xa n xc, .bool hs, .int .i64 s, .int .i64 ep, .string bl] xa n l (V.setRow (w.heap.size + 1 + 1) #[.int .i64 g, .int .i64 q, .int .i64 s, .int .i64 La, .slice xa n xc, .bool hs, .int .i64 s, .int .i64 ep, .string bl])) := HD1.out.setZ _
    clear HD1
    refine hK.out _ _ HD2.out.cells (fun hHeld => ?_)
    clear hK K
    refine take_at (i := 4) (v := ?_) rfl rfl (by kernel_rfl) (by kernel_rfl) (by kernel_rfl) (fun _ _ _ h => h) (Or.inl ⟨by rfl, ?_⟩) (by assumption) ?_
    rotate_left
    · intro w hSw; (try dsimp only at hSw); go_simp; try with_reducible rfl
    try simp only [Act.put, List.setIfInBounds_toArray, List.set_cons_zero, List.set_cons_succ]
    refine wpAnyH_done (by kernel_rfl) (NoPanic.normal ?_) _
    go_wp2_with fail
    exact bodyPost_rowTmp rfl (w.heap.size + 1 + 1) #[.int .i64 g, .int .i64 q, .int .i64 s, .int .i64 La, .slice xa n xc, .bool hs, .int .i64 s, .int .i64 ep, .string bl] _ rfl rfl rfl HD2.out.z _ Try.underlying33 rfl (by kernel_rfl) ⟨_, rfl, HRD.out _ HD2.out.r, HD2.out.b⟩
  · have g1 : decide (S ≤ s) = false := decide_eq_false h1
    by_cases h2 : La < S
    · have g2 : decide (La < S) = true := decide_eq_true h2
      rw [if_pos (Or.inr h2)]
      clear q2 q3 q4 q6 q7 hg0 hg1 hq0 hsm hsq s1 f4 hS hX hN hn hla hLa hhs
      obtain ⟨⟨a0, a1, a2, a3, a4, a5, a6, a7, a8⟩, ⟨f0, f1, f2, f3, f4, f5, f6, f7⟩⟩ := HS.out.cells
      go_enter Try.func27, Try.ntmps27
      go_wp2_with fail
      obtain ⟨W0, hW0⟩ : ∃ W0, ((w.alloc (.cells #[.int .i64 g, .int .i64 q, .int .i64 s, .int .i64 La, .slice xa n xc, .bool hs, .int .i64 s, .int .i64 ep, .string bl] 33)).alloc (.cells #[.int .i64 Kd, .int .i64 G, .int .i64 S, .int .i64 E, .int .i64 M, .string B, .slice fa n0 fc, .int .i64 er] 39)).alloc (.cells #[.int .i64 0, .int .i64 0, .int .i64 0, .int .i64 0, .slice none 0 0, .bool false, .int .i64 0, .int .i64 0, .string ⟨#[]⟩] 33) = W0 := ⟨_, rfl⟩
      rw [hW0] at HS ⊢
      clear hW0 a0 a1 a2 a3 a4 a5 a6 a7 a8 f0 f1 f2 f3 f4 f5 f6 f7
      have HD0 : Hid (ApS w #[.int .i64 g, .int .i64 q, .int .i64 s, .int .i64 La, .slice xa n xc, .bool hs, .int .i64 s, .int .i64 ep, .string bl] #[.int .i64 Kd, .int .i64 G, .int .i64 S, .int .i64 E, .int .i64 M, .string B, .slice fa n0 fc, .int .i64 er] #[.int .i64 0, .int .i64 0, .int .i64 0, .int .i64 0, .slice none 0 0, .bool false, .int .i64 0, .int .i64 0, .string ⟨#[]⟩] xa n l W0.drew) := HS.out.on (Below.refl _ _).drew
      have hS0 := HD0.out.cells
      refine wp_region_noPanic ?_
      refine wp_region_held_drew (S := fun W => (W.cell? ⟨w.heap.size, 0, none⟩ = some (.int .i64 g) ∧ W.cell? ⟨w.heap.size, 1, none⟩ = some (.int .i64 q) ∧ W.cell? ⟨w.heap.size, 2, none⟩ = some (.int .i64 s) ∧ W.cell? ⟨w.heap.size, 3, none⟩ = some (.int .i64 La) ∧ W.cell? ⟨w.heap.size, 4, none⟩ = some (.slice xa n xc) ∧ W.cell? ⟨w.heap.size, 5, none⟩ = some (.bool hs) ∧ W.cell? ⟨w.heap.size, 6, none⟩ = some (.int .i64 s) ∧ W.cell? ⟨w.heap.size, 7, none⟩ = some (.int .i64 ep) ∧ W.cell? ⟨w.heap.size, 8, none⟩ = some (.string bl)) ∧ (W.cell? ⟨w.heap.size + 1, 0, none⟩ = some (.int .i64 Kd) ∧ W.cell? ⟨w.heap.size + 1, 1, none⟩ = some (.int .i64 G) ∧ W.cell? ⟨w.heap.size + 1, 2, none⟩ = some (.int .i64 S) ∧ W.cell? ⟨w.heap.size + 1, 3, none⟩ = some (.int .i64 E) ∧ W.cell? ⟨w.heap.size + 1, 4, none⟩ = some (.int .i64 M) ∧ W.cell? ⟨w.heap.size + 1, 5, none⟩ = some (.string B) ∧ W.cell? ⟨w.heap.size + 1, 6, none⟩ = some (.slice fa n0 fc) ∧ W.cell? ⟨w.heap.size + 1, 7, none⟩ = some (.int .i64 er))) (by kernel_rfl) (by first | exact trivial | assumption | exact ⟨by assumption, by assumption⟩) (fun hHeld => ?_)
      refine take_at (i := 0) (v := ?_) rfl rfl (by kernel_rfl) (by kernel_rfl) (by kernel_rfl) (fun _ _ _ h => h) (Or.inl ⟨by rfl, ?_⟩) (by assumption) ?_
      rotate_left
      · intro w hSw; (try dsimp only at hSw); go_simp; try with_reducible rfl
      try simp only [Act.put, List.setIfInBounds_toArray, List.set_cons_zero, List.set_cons_succ]
      refine take_at (i := 1) (v := ?_) rfl rfl (by kernel_rfl) (by kernel_rfl) (by kernel_rfl) (fun _ _ _ h => h) (Or.inl ⟨by rfl, ?_⟩) (by assumption) ?_
      rotate_left
      · intro w hSw; (try dsimp only at hSw); go_simp; try with_reducible rfl
      try simp only [Act.put, List.setIfInBounds_toArray, List.set_cons_zero, List.set_cons_succ]
      refine wpAnyH_ready (rs := [2]) (by kernel_rfl) (by simp) ?_
      refine AllReadyH.cons rfl (fun K hK => ?_) AllReadyH.nil
      go_simp
      refine (CE.out 1 _).mono ?_
      rintro e V ⟨rfl, hb⟩
      have HD1 : Hid (ApS w #[.int .i64 g, .int .i64 q, .int .i64 s, .int .i64 La, .slice xa n xc, .bool hs, .int .i64 s, .int .i64 ep, .string bl] #[.int .i64 Kd, .int .i64 G, .int .i64 S, .int .i64 E, .int .i64 M, .string B, .slice fa n0 fc, .int .i64 er] #[.int .i64 0, .int .i64 0, .int .i64 0, .int .i64 0, .slice none 0 0, .bool false, .int .i64 0, .int .i64 0, .string ⟨#[]⟩] xa n l V) := HD0.out.on hb
      clear hb HD0
      refine hK.out _ _ HD1.out.cells (fun hHeld => ?_)
      clear hK K
      refine wpAnyH_ready (rs := [3]) (by kernel_rfl) (by simp) ?_
      refine AllReadyH.cons rfl (fun K hK => ?_) AllReadyH.nil
      refine step_storeRow rfl rfl 33 _ _ rfl (w.heap.size + 1 + 1) #[.int .i64 0, .int .i64 0, .int .i64 0, .int .i64 0, .slice none 0 0, .bool false, .int .i64 0, .int .i64 0, .string ⟨#[]⟩] #[.int .i64 g, .int .i64 q, .int .i64 s, .int .i64 La, .slice xa n xc, .bool hs, .int .i64 s, .int .i64 ep, .string bl] (by with_unfolding_all rfl) (by with_unfolding_all rfl) HD1.out.z rfl (by kernel_rfl) (by simp [Value.oneCell']) ?_
      have HD2 : Hid (ApS w #[.int .i64 g, .int .i64 q, .int .i64 s, .int .i64 La, .slice xa n xc, .bool hs, .int .i64 s, .int .i64 ep, .string bl] #[.int .i64 Kd, .int .i64 G, .int .i64 S, .int .i64 E, .int .i64 M, .string B, .slice fa n0 fc, .int .i64 er] #[.int .i64 g, .int .i64 q, .int .i64 s, .int .i64 La, .slice xa n xc, .bool hs, .int .i64 s, .int .i64 ep, .string bl] xa n l (V.setRow (w.heap.size + 1 + 1) #[.int .i64 g, .int .i64 q, .int .i64 s, .int .i64 La, .slice xa n xc, .bool hs, .int .i64 s, .int .i64 ep, .string bl])) := HD1.out.setZ _
      clear HD1
      refine hK.out _ _ HD2.out.cells (fun hHeld => ?_)
      clear hK K
      refine take_at (i := 4) (v := ?_) rfl rfl (by kernel_rfl) (by kernel_rfl) (by kernel_rfl) (fun _ _ _ h => h) (Or.inl ⟨by rfl, ?_⟩) (by assumption) ?_
      rotate_left
      · intro w hSw; (try dsimp only at hSw); go_simp; try with_reducible rfl
      try simp only [Act.put, List.setIfInBounds_toArray, List.set_cons_zero, List.set_cons_succ]
      refine wpAnyH_done (by kernel_rfl) (NoPanic.normal ?_) _
      go_wp2_with fail
      exact bodyPost_rowTmp rfl (w.heap.size + 1 + 1) #[.int .i64 g, .int .i64 q, .int .i64 s, .int .i64 La, .slice xa n xc, .bool hs, .int .i64 s, .int .i64 ep, .string bl] _ rfl rfl rfl HD2.out.z _ Try.underlying33 rfl (by kernel_rfl) ⟨_, rfl, HRD.out _ HD2.out.r, HD2.out.b⟩
    · have g2 : decide (La < S) = false := decide_eq_false h2
      rw [if_neg (by rintro (h | h); exact h1 h; exact h2 h)]
      obtain ⟨k, hk⟩ : ∃ k, (S - s).toNat = k := ⟨_, rfl⟩
      have hkS : S - s = (k : Int) := by omega
      have hkn : k ≤ n := by omega
      have hk1 : 1 ≤ k := by omega
      have hwk : IntKind.i64.wrap (S - s) = (k : Int) := by rw [IntKind.wrap_i64]; omega
      obtain ⟨b, off, rfl, hcl⟩ := HI.out.2.resolve_left (by omega)
      have hnx : n ≤ xc := by
        rcases hS with ⟨e, _⟩ | ⟨_, _, h⟩
        · cases e
        · exact h
      obtain ⟨a2, hrun, ha2, y2, hy2⟩ := run_sliceFrom b off n xc k hkn hnx
      have HRUN : Hid (∀ w, _) := hrun
      have hrun1 := fun W => HRUN.out W
      have HIK : Hid (∀ W, ItsAt W (some ⟨b, off, none⟩) n l → ItsAt W a2 (n - k) (l.drop k)) := fun W hW => by
        rcases ha2 with h0 | h0
        · exact ⟨by rw [List.length_drop, hn], .inl h0⟩
        · rw [h0]; exact hW.drop k hkn
      have HAV : Hid (∀ gg, Av (some ⟨b, off, none⟩) n gg → Av a2 (n - k) gg) := fun gg hg => by
        rcases ha2 with h0 | h0
        · exact .inl h0
        · rcases hg with h1 | h1
          · exact .inl (by omega)
          · refine .inr (fun ad e => ?_)
            rw [h0] at e
            cases e
            exact h1 ⟨b, off, none⟩ rfl
      have HSO2 : Hid (SliceOk a2 (n - k) (xc - k)) := .inr ⟨y2, hy2, by omega⟩
      obtain ⟨T, hT⟩ : ∃ T, B.size + sizeL (l.drop k) = T := ⟨_, rfl⟩
      have hTb : T ≤ 1068576 := by
        have e1 := sizeL_split l k
        have e2 : (bytesL (g, q, (s, ep, bl), l) : Int) = ((bl.size + sizeL l : Nat) : Int) := rfl
        rw [e2] at q3
        omega
      have hS0 : decide (S ≠ 0) = true := decide_eq_true (by omega)
      have hla2 : lastL (g, q, (S, E, B), l.drop k) = La := by unfold lastL; simp only [List.length_drop, hn]; omega
      have hrd : rdA (g, q, (S, E, B), l.drop k) a2 (xc - k) = #[.int .i64 g, .int .i64 q, .int .i64 S, .int .i64 La, .slice a2 (n - k) (xc - k), .bool true, .int .i64 S, .int .i64 E, .string B] := by unfold rdA; simp only [hla2, hS0, List.length_drop, hn]
      have HRD2 : Hid (∀ W, ItsAt W a2 (n - k) (l.drop k) → RdTo w (some ⟨b, off, none⟩) n W (.agg #[.int .i64 g, .int .i64 q, .int .i64 S, .int .i64 La, .slice a2 (n - k) (xc - k), .bool true, .int .i64 S, .int .i64 E, .string B]) (g, q, (S, E, B), l.drop k)) := fun W hW => ⟨a2, xc - k, by rw [hrd], by simp only [List.length_drop, hn]; exact hW, by simp only [List.length_drop, hn]; exact HSO2.out, fun gg _ hg => by simp only [List.length_drop, hn]; exact HAV.out gg hg⟩
      have CB : Hid (∀ W, Below w.heap.size w W → Calls Try.prog 14 #[.agg #[.int .i64 g, .int .i64 q, .int .i64 S, .int .i64 La, .slice a2 (n - k) (xc - k), .bool true, .int .i64 S, .int .i64 E, .string B]] W fun e w' => e = .returned (.int .i64 (T : Int)) ∧ Below W.heap.size W w') := fun W hW => by
        have hh := rbytes21_gen (g, q, (S, E, B), l.drop k) (by show B.size + sizeL (l.drop k) ≤ _; omega) (by show (l.drop k).length ≤ _; rw [List.length_drop]; omega) a2 (xc - k) W (by show ItsAt W a2 (l.drop k).length _; rw [List.length_drop, hn]; exact HIK.out _ (HI.out.below hW))
        rw [hrd, show bytesL (g, q, (S, E, B), l.drop k) = T from hT] at hh
        exact hh
      have CA : Hid (∀ W, Calls Try.prog 28 #[.agg #[.int .i64 g, .int .i64 q, .int .i64 S, .int .i64 La, .slice a2 (n - k) (xc - k), .bool true, .int .i64 S, .int .i64 E, .string B], .agg #[.int .i64 6, .int .i64 0, .int .i64 S, .int .i64 0, .int .i64 0, .string ⟨#[]⟩, .slice none 0 0, .int .i64 0]] W fun e w' => e = .returned (.string (putFC (withG (6, 0, S, 0, 0, ⟨#[]⟩, [], 0) g)).1) ∧ Below W.heap.size W w') := fun W => by
        have hh := ranswer21_any (g, q, (S, E, B), l.drop k) a2 (xc - k) (6, 0, S, 0, 0, ⟨#[]⟩, [], 0) none 0 W (by show 0 ≤ _; decide) ⟨rfl, Or.inl rfl⟩ (fun i => by show (itL [] i).2.2.size ≤ _; simp [itL]) (by show (ByteArray.mk #[]).size ≤ _; decide)
        rw [hrd] at hh
        exact hh
      simp only [hk]
      obtain ⟨R, hR⟩ : ∃ R : RlT × FrmT, (if q < (sizeL (l.drop k) : Int) + (B.size : Int) then ((g, q, (s, ep, bl), l), errF 211) else ((g, q, (S, E, B), l.drop k), (6, 0, S, 0, 0, ⟨#[]⟩, [], 0))) = R := ⟨_, rfl⟩
      rw [hR]
      have HR : Hid (_ = R) := hR
      have HT : Hid ((T : Int) = (sizeL (l.drop k) : Int) + (B.size : Int)) := by show _ = _; omega
      have HK0 : Hid (KpS w #[.int .i64 g, .int .i64 q, .int .i64 s, .int .i64 La, .slice (some ⟨b, off, none⟩) n xc, .bool hs, .int .i64 s, .int .i64 ep, .string bl] #[.int .i64 Kd, .int .i64 G, .int .i64 S, .int .i64 E, .int .i64 M, .string B, .slice fa n0 fc, .int .i64 er] #[.int .i64 0, .int .i64 0, .int .i64 0, .int .i64 0, .slice none 0 0, .bool false, .int .i64 0, .int .i64 0, .string ⟨#[]⟩] #[.int .i64 0, .int .i64 0, .int .i64 0, .int .i64 0, .slice none 0 0, .bool false, .int .i64 0, .int .i64 0, .string ⟨#[]⟩] _) := KpS.new w #[.int .i64 g, .int .i64 q, .int .i64 s, .int .i64 La, .slice (some ⟨b, off, none⟩) n xc, .bool hs, .int .i64 s, .int .i64 ep, .string bl] #[.int .i64 Kd, .int .i64 G, .int .i64 S, .int .i64 E, .int .i64 M, .string B, .slice fa n0 fc, .int .i64 er] #[.int .i64 0, .int .i64 0, .int .i64 0, .int .i64 0, .slice none 0 0, .bool false, .int .i64 0, .int .i64 0, .string ⟨#[]⟩] #[.int .i64 0, .int .i64 0, .int .i64 0, .int .i64 0, .slice none 0 0, .bool false, .int .i64 0, .int .i64 0, .string ⟨#[]⟩]
      have HKW : Hid (IntKind.i64.wrap (S - s) = (k : Int)) := hwk
      have hkI : (k : Int) ≤ (n : Int) := by omega
      have HX : Blk ((((w.alloc (.cells #[.int .i64 g, .int .i64 q, .int .i64 s, .int .i64 La, .slice (some ⟨b, off, none⟩) n xc, .bool hs, .int .i64 s, .int .i64 ep, .string bl] 33)).alloc (.cells #[.int .i64 Kd, .int .i64 G, .int .i64 S, .int .i64 E, .int .i64 M, .string B, .slice fa n0 fc, .int .i64 er] 39)).alloc (.cells #[.int .i64 0, .int .i64 0, .int .i64 0, .int .i64 0, .slice none 0 0, .bool false, .int .i64 0, .int .i64 0, .string ⟨#[]⟩] 33)).alloc (.cells #[.int .i64 0, .int .i64 0, .int .i64 0, .int .i64 0, .slice none 0 0, .bool false, .int .i64 0, .int .i64 0, .string ⟨#[]⟩] 33)) 33 (w.heap.size + 1 + 1 + 1) #[.int .i64 0, .int .i64 0, .int .i64 0, .int .i64 0, .slice none 0 0, .bool false, .int .i64 0, .int .i64 0, .string ⟨#[]⟩] := HK0.out.m
      have HK5 : Hid (KpS w #[.int .i64 g, .int .i64 q, .int .i64 s, .int .i64 La, .slice (some ⟨b, off, none⟩) n xc, .bool hs, .int .i64 s, .int .i64 ep, .string bl] #[.int .i64 Kd, .int .i64 G, .int .i64 S, .int .i64 E, .int .i64 M, .string B, .slice fa n0 fc, .int .i64 er] #[.int .i64 0, .int .i64 0, .int .i64 0, .int .i64 0, .slice none 0 0, .bool false, .int .i64 0, .int .i64 0, .string ⟨#[]⟩] #[.int .i64 g, .int .i64 q, .int .i64 s, .int .i64 La, .slice (some ⟨b, off, none⟩) n xc, .bool hs, .int .i64 s, .int .i64 ep, .string bl] (((((w.alloc (.cells #[.int .i64 g, .int .i64 q, .int .i64 s, .int .i64 La, .slice (some ⟨b, off, none⟩) n xc, .bool hs, .int .i64 s, .int .i64 ep, .string bl] 33)).alloc (.cells #[.int .i64 Kd, .int .i64 G, .int .i64 S, .int .i64 E, .int .i64 M, .string B, .slice fa n0 fc, .int .i64 er] 39)).alloc (.cells #[.int .i64 0, .int .i64 0, .int .i64 0, .int .i64 0, .slice none 0 0, .bool false, .int .i64 0, .int .i64 0, .string ⟨#[]⟩] 33)).alloc (.cells #[.int .i64 0, .int .i64 0, .int .i64 0, .int .i64 0, .slice none 0 0, .bool false, .int .i64 0, .int .i64 0, .string ⟨#[]⟩] 33)).setRow (w.heap.size + 1 + 1 + 1) #[.int .i64 g, .int .i64 q, .int .i64 s, .int .i64 La, .slice (some ⟨b, off, none⟩) n xc, .bool hs, .int .i64 s, .int .i64 ep, .string bl])) := HK0.out.rowM _
      obtain ⟨W5, hW5⟩ : ∃ W5, ((((w.alloc (.cells #[.int .i64 g, .int .i64 q, .int .i64 s, .int .i64 La, .slice (some ⟨b, off, none⟩) n xc, .bool hs, .int .i64 s, .int .i64 ep, .string bl] 33)).alloc (.cells #[.int .i64 Kd, .int .i64 G, .int .i64 S, .int .i64 E, .int .i64 M, .string B, .slice fa n0 fc, .int .i64 er] 39)).alloc (.cells #[.int .i64 0, .int .i64 0, .int .i64 0, .int .i64 0, .slice none 0 0, .bool false, .int .i64 0, .int .i64 0, .string ⟨#[]⟩] 33)).alloc (.cells #[.int .i64 0, .int .i64 0, .int .i64 0, .int .i64 0, .slice none 0 0, .bool false, .int .i64 0, .int .i64 0, .string ⟨#[]⟩] 33)).setRow (w.heap.size + 1 + 1 + 1) #[.int .i64 g, .int .i64 q, .int .i64 s, .int .i64 La, .slice (some ⟨b, off, none⟩) n xc, .bool hs, .int .i64 s, .int .i64 ep, .string bl] = W5 := ⟨_, rfl⟩
      rw [hW5] at HK5
      have HK6 : Hid (KpS w #[.int .i64 g, .int .i64 q, .int .i64 s, .int .i64 La, .slice (some ⟨b, off, none⟩) n xc, .bool hs, .int .i64 s, .int .i64 ep, .string bl] #[.int .i64 Kd, .int .i64 G, .int .i64 S, .int .i64 E, .int .i64 M, .string B, .slice fa n0 fc, .int .i64 er] #[.int .i64 0, .int .i64 0, .int .i64 0, .int .i64 0, .slice none 0 0, .bool false, .int .i64 0, .int .i64 0, .string ⟨#[]⟩] #[.int .i64 g, .int .i64 q, .int .i64 s, .int .i64 La, .slice (some ⟨b, off, none⟩) n xc, .bool true, .int .i64 s, .int .i64 ep, .string bl] (W5.setCell ⟨w.heap.size + 1 + 1 + 1, 5, none⟩ (.bool true))) := HK5.out.setM 5 _
      have HXA : Blk (W5.setCell ⟨w.heap.size + 1 + 1 + 1, 5, none⟩ (.bool true)) 33 (w.heap.size + 1 + 1 + 1) #[.int .i64 g, .int .i64 q, .int .i64 s, .int .i64 La, .slice (some ⟨b, off, none⟩) n xc, .bool true, .int .i64 s, .int .i64 ep, .string bl] := HK6.out.m
      have HK7 : Hid (KpS w #[.int .i64 g, .int .i64 q, .int .i64 s, .int .i64 La, .slice (some ⟨b, off, none⟩) n xc, .bool hs, .int .i64 s, .int .i64 ep, .string bl] #[.int .i64 Kd, .int .i64 G, .int .i64 S, .int .i64 E, .int .i64 M, .string B, .slice fa n0 fc, .int .i64 er] #[.int .i64 0, .int .i64 0, .int .i64 0, .int .i64 0, .slice none 0 0, .bool false, .int .i64 0, .int .i64 0, .string ⟨#[]⟩] #[.int .i64 g, .int .i64 q, .int .i64 s, .int .i64 La, .slice (some ⟨b, off, none⟩) n xc, .bool true, .int .i64 S, .int .i64 E, .string B] ((W5.setCell ⟨w.heap.size + 1 + 1 + 1, 5, none⟩ (.bool true)).setRow (w.heap.size + 1 + 1 + 1) #[.int .i64 g, .int .i64 q, .int .i64 s, .int .i64 La, .slice (some ⟨b, off, none⟩) n xc, .bool true, .int .i64 S, .int .i64 E, .string B])) := HK6.out.rowM _
      obtain ⟨W7, hW7⟩ : ∃ W7, (W5.setCell ⟨w.heap.size + 1 + 1 + 1, 5, none⟩ (.bool true)).setRow (w.heap.size + 1 + 1 + 1) #[.int .i64 g, .int .i64 q, .int .i64 s, .int .i64 La, .slice (some ⟨b, off, none⟩) n xc, .bool true, .int .i64 S, .int .i64 E, .string B] = W7 := ⟨_, rfl⟩
      rw [hW7] at HK7
      have m5 : W5.cell? ⟨w.heap.size + 1 + 1 + 1, 5, none⟩ = some (.bool hs) := HK5.out.m.cell 5
      have z5 : W5.frozen? ⟨w.heap.size + 1 + 1 + 1, 5, none⟩ = false := HK5.out.m.free 5
      have f2 : W5.cell? ⟨w.heap.size + 1, 2, none⟩ = some (.int .i64 S) := HK5.out.f.cell 2
      have f3 : W5.cell? ⟨w.heap.size + 1, 3, none⟩ = some (.int .i64 E) := HK5.out.f.cell 3
      have f5 : W5.cell? ⟨w.heap.size + 1, 5, none⟩ = some (.string B) := HK5.out.f.cell 5
      have c2 : W7.cell? ⟨w.heap.size + 1 + 1 + 1, 2, none⟩ = some (.int .i64 s) := HK7.out.m.cell 2
      have z2 : W7.frozen? ⟨w.heap.size + 1 + 1 + 1, 2, none⟩ = false := HK7.out.m.free 2
      have c4 : W7.cell? ⟨w.heap.size + 1 + 1 + 1, 4, none⟩ = some (.slice (some ⟨b, off, none⟩) n xc) := HK7.out.m.cell 4
      have z4 : W7.frozen? ⟨w.heap.size + 1 + 1 + 1, 4, none⟩ = false := HK7.out.m.free 4
      have f7 : W7.cell? ⟨w.heap.size + 1, 2, none⟩ = some (.int .i64 S) := HK7.out.f.cell 2
      have a7 : W7.cell? ⟨w.heap.size, 2, none⟩ = some (.int .i64 s) := HK7.out.a.cell 2
      have a74 : W7.cell? ⟨w.heap.size, 4, none⟩ = some (.slice (some ⟨b, off, none⟩) n xc) := HK7.out.a.cell 4
      have HK8 : Hid (KpS w #[.int .i64 g, .int .i64 q, .int .i64 s, .int .i64 La, .slice (some ⟨b, off, none⟩) n xc, .bool hs, .int .i64 s, .int .i64 ep, .string bl] #[.int .i64 Kd, .int .i64 G, .int .i64 S, .int .i64 E, .int .i64 M, .string B, .slice fa n0 fc, .int .i64 er] #[.int .i64 0, .int .i64 0, .int .i64 0, .int .i64 0, .slice none 0 0, .bool false, .int .i64 0, .int .i64 0, .string ⟨#[]⟩] #[.int .i64 g, .int .i64 q, .int .i64 S, .int .i64 La, .slice a2 (n - k) (xc - k), .bool true, .int .i64 S, .int .i64 E, .string B] ((W7.setCell ⟨w.heap.size + 1 + 1 + 1, 2, none⟩ (.int .i64 S)).setCell ⟨w.heap.size + 1 + 1 + 1, 4, none⟩ (.slice a2 (n - k) (xc - k)))) := (HK7.out.setM 2 _).setM 4 _
      clear HK0 HK5 HK6 HK7 hS0 hla2 hrd hT hR hcl hrun ha2 hy2 q2 q3 q4 q6 q7 hg0 hg1 hq0 hsm hsq s1 f4 hS hX hN hn hla hLa hhs HS HSO h1 h2 hk hkS hk1 hnx
      go_enter Try.func27, Try.ntmps27
      go_wp2_with (with_reducible refine wpList_storeBlk rfl 33 _ _ rfl (w.heap.size + 1 + 1 + 1) #[.int .i64 0, .int .i64 0, .int .i64 0, .int .i64 0, .slice none 0 0, .bool false, .int .i64 0, .int .i64 0, .string ⟨#[]⟩] #[.int .i64 g, .int .i64 q, .int .i64 s, .int .i64 La, .slice (some ⟨b, off, none⟩) n xc, .bool hs, .int .i64 s, .int .i64 ep, .string bl] ?hx ?hy HX rfl ?hi ?h1 ?_
                   (case hx => rfl)
                   (case hy => rfl)
                   (case hi => kernel_rfl)
                   (case h1 => simp [Value.oneCell'])
                   try rw [hW5]
                   go_wp2_with (with_reducible refine wpList_storeAt rfl 31 _ _ rfl (w.heap.size + 1 + 1 + 1) 6 33 #[.int .i64 g, .int .i64 q, .int .i64 s, .int .i64 La, .slice (some ⟨b, off, none⟩) n xc, .bool true, .int .i64 s, .int .i64 ep, .string bl] #[.int .i64 S, .int .i64 E, .string B] #[.int .i64 g, .int .i64 q, .int .i64 s, .int .i64 La, .slice (some ⟨b, off, none⟩) n xc, .bool true, .int .i64 S, .int .i64 E, .string B] ?hx ?hy HXA ?hi ?hf ?h1 ?hN ?_
                                (case hx => rfl)
                                (case hy => rfl)
                                (case hi => kernel_rfl)
                                (case hf => simp)
                                (case h1 => simp [Value.oneCell'])
                                (case hN => rfl)
                                try rw [hW7]
                                go_wp2_with fail))
      obtain ⟨W8, hW8⟩ : ∃ W8, (W7.setCell ⟨w.heap.size + 1 + 1 + 1, 2, none⟩ (.int .i64 S)).setCell ⟨w.heap.size + 1 + 1 + 1, 4, none⟩ (.slice a2 (n - k) (xc - k)) = W8 := ⟨_, rfl⟩
      rw [hW8] at HK8 ⊢
      clear HX hW5 HXA hW7 m5 z5 f2 f3 f5 c2 z2 c4 z4 f7 a7 a74 hW8
      obtain ⟨⟨a0, a1, A2, a3, a4, a5, a6, a7, a8⟩, ⟨f0, f1, f2, f3, f4, f5, f6, f7⟩, ⟨m0, m1, m2, m3, m4, m5, m6, m7, m8⟩⟩ := HK8.out.cells
      have e0 : ∀ p : Beh W8, p.w'.cell? ⟨w.heap.size + 1 + 1 + 1, 0, none⟩ = some (.int .i64 g) := fun p => p.cell m0
      have e1 : ∀ p : Beh W8, p.w'.cell? ⟨w.heap.size + 1 + 1 + 1, 1, none⟩ = some (.int .i64 q) := fun p => p.cell m1
      have e2 : ∀ p : Beh W8, p.w'.cell? ⟨w.heap.size + 1 + 1 + 1, 2, none⟩ = some (.int .i64 S) := fun p => p.cell m2
      have e3 : ∀ p : Beh W8, p.w'.cell? ⟨w.heap.size + 1 + 1 + 1, 3, none⟩ = some (.int .i64 La) := fun p => p.cell m3
      have e4 : ∀ p : Beh W8, p.w'.cell? ⟨w.heap.size + 1 + 1 + 1, 4, none⟩ = some (.slice a2 (n - k) (xc - k)) := fun p => p.cell m4
      have e5 : ∀ p : Beh W8, p.w'.cell? ⟨w.heap.size + 1 + 1 + 1, 5, none⟩ = some (.bool true) := fun p => p.cell m5
      have e6 : ∀ p : Beh W8, p.w'.cell? ⟨w.heap.size + 1 + 1 + 1, 6, none⟩ = some (.int .i64 S) := fun p => p.cell m6
      have e7 : ∀ p : Beh W8, p.w'.cell? ⟨w.heap.size + 1 + 1 + 1, 7, none⟩ = some (.int .i64 E) := fun p => p.cell m7
      have e8 : ∀ p : Beh W8, p.w'.cell? ⟨w.heap.size + 1 + 1 + 1, 8, none⟩ = some (.string B) := fun p => p.cell m8
      have g1' : ∀ p : Beh W8, p.w'.cell? ⟨w.heap.size, 1, none⟩ = some (.int .i64 q) := fun p => p.cell a1
      have CY1 : Hid (∀ p : Beh W8, _) := fun p => CB.out p.w' (below_step HK8.out.b (Nat.le_refl _) p.h)
      clear a0 a1 A2 a3 a4 a5 a6 a7 a8 f0 f1 f2 f3 f4 f5 f6 f7 m0 m1 m2 m3 m4 m5 m6 m7 m8 CB
      by_cases h2 : q < (T : Int)
      · obtain rfl : R = ((g, q, (s, ep, bl), l), errF 211) := by rw [← HR.out, if_pos (by rw [← HT.out]; exact h2)]
        clear HR
        have hne_ : Nonempty (Beh W8) := ⟨⟨_, Below.refl _ _⟩⟩
        refine wp_region_quiet_beh (by kernel_rfl) (by kernel_rfl) ?_
        repeat (quiet_step (first | (go_at_call 14; refine Calls.beh_of (CY1.out _))))
        refine wpQuiet_nil ?_
        intro wq hw_
        obtain ⟨⟨wz_, hbq⟩, hw_⟩ := hw_
        subst hw_
        try dsimp only
        clear hne_
        have HS1 : Hid (KpS w #[.int .i64 g, .int .i64 q, .int .i64 s, .int .i64 La, .slice (some ⟨b, off, none⟩) n xc, .bool hs, .int .i64 s, .int .i64 ep, .string bl] #[.int .i64 Kd, .int .i64 G, .int .i64 S, .int .i64 E, .int .i64 M, .string B, .slice fa n0 fc, .int .i64 er] #[.int .i64 0, .int .i64 0, .int .i64 0, .int .i64 0, .slice none 0 0, .bool false, .int .i64 0, .int .i64 0, .string ⟨#[]⟩] #[.int .i64 g, .int .i64 q, .int .i64 S, .int .i64 La, .slice a2 (n - k) (xc - k), .bool true, .int .i64 S, .int .i64 E, .string B] wq) := HK8.out.on hbq
        clear HK8 CY1 e0 e1 e2 e3 e4 e5 e6 e7 e8 g1' hbq
        go_wp2_with fail
        clear h2 HKW hwk hkI hrun1
        have HD0 : Hid (KpS w #[.int .i64 g, .int .i64 q, .int .i64 s, .int .i64 La, .slice (some ⟨b, off, none⟩) n xc, .bool hs, .int .i64 s, .int .i64 ep, .string bl] #[.int .i64 Kd, .int .i64 G, .int .i64 S, .int .i64 E, .int .i64 M, .string B, .slice fa n0 fc, .int .i64 er] #[.int .i64 0, .int .i64 0, .int .i64 0, .int .i64 0, .slice none 0 0, .bool false, .int .i64 0, .int .i64 0, .string ⟨#[]⟩] #[.int .i64 g, .int .i64 q, .int .i64 S, .int .i64 La, .slice a2 (n - k) (xc - k), .bool true, .int .i64 S, .int .i64 E, .string B] wq.drew) := HS1.out.on (Below.refl _ _).drew
        have hS0 := HD0.out.cells
        refine wp_region_noPanic ?_
        refine wp_region_held_drew (S := fun W => (W.cell? ⟨w.heap.size, 0, none⟩ = some (.int .i64 g) ∧ W.cell? ⟨w.heap.size, 1, none⟩ = some (.int .i64 q) ∧ W.cell? ⟨w.heap.size, 2, none⟩ = some (.int .i64 s) ∧ W.cell? ⟨w.heap.size, 3, none⟩ = some (.int .i64 La) ∧ W.cell? ⟨w.heap.size, 4, none⟩ = some (.slice (some ⟨b, off, none⟩) n xc) ∧ W.cell? ⟨w.heap.size, 5, none⟩ = some (.bool hs) ∧ W.cell? ⟨w.heap.size, 6, none⟩ = some (.int .i64 s) ∧ W.cell? ⟨w.heap.size, 7, none⟩ = some (.int .i64 ep) ∧ W.cell? ⟨w.heap.size, 8, none⟩ = some (.string bl)) ∧ (W.cell? ⟨w.heap.size + 1, 0, none⟩ = some (.int .i64 Kd) ∧ W.cell? ⟨w.heap.size + 1, 1, none⟩ = some (.int .i64 G) ∧ W.cell? ⟨w.heap.size + 1, 2, none⟩ = some (.int .i64 S) ∧ W.cell? ⟨w.heap.size + 1, 3, none⟩ = some (.int .i64 E) ∧ W.cell? ⟨w.heap.size + 1, 4, none⟩ = some (.int .i64 M) ∧ W.cell? ⟨w.heap.size + 1, 5, none⟩ = some (.string B) ∧ W.cell? ⟨w.heap.size + 1, 6, none⟩ = some (.slice fa n0 fc) ∧ W.cell? ⟨w.heap.size + 1, 7, none⟩ = some (.int .i64 er)) ∧ (W.cell? ⟨w.heap.size + 1 + 1 + 1, 0, none⟩ = some (.int .i64 g) ∧ W.cell? ⟨w.heap.size + 1 + 1 + 1, 1, none⟩ = some (.int .i64 q) ∧ W.cell? ⟨w.heap.size + 1 + 1 + 1, 2, none⟩ = some (.int .i64 S) ∧ W.cell? ⟨w.heap.size + 1 + 1 + 1, 3, none⟩ = some (.int .i64 La) ∧ W.cell? ⟨w.heap.size + 1 + 1 + 1, 4, none⟩ = some (.slice a2 (n - k) (xc - k)) ∧ W.cell? ⟨w.heap.size + 1 + 1 + 1, 5, none⟩ = some (.bool true) ∧ W.cell? ⟨w.heap.size + 1 + 1 + 1, 6, none⟩ = some (.int .i64 S) ∧ W.cell? ⟨w.heap.size + 1 + 1 + 1, 7, none⟩ = some (.int .i64 E) ∧ W.cell? ⟨w.heap.size + 1 + 1 + 1, 8, none⟩ = some (.string B))) (by kernel_rfl) (by first | exact trivial | assumption | exact ⟨by assumption, by assumption⟩) (fun hHeld => ?_)
        refine take_at (i := 0) (v := ?_) rfl rfl (by kernel_rfl) (by kernel_rfl) (by kernel_rfl) (fun _ _ _ h => h) (Or.inl ⟨by rfl, ?_⟩) (by assumption) ?_
        rotate_left
        · intro w hSw; (try dsimp only at hSw); go_simp; try with_reducible rfl
        try simp only [Act.put, List.setIfInBounds_toArray, List.set_cons_zero, List.set_cons_succ]
        refine take_at (i := 1) (v := ?_) rfl rfl (by kernel_rfl) (by kernel_rfl) (by kernel_rfl) (fun _ _ _ h => h) (Or.inl ⟨by rfl, ?_⟩) (by assumption) ?_
        rotate_left
        · intro w hSw; (try dsimp only at hSw); go_simp; try with_reducible rfl
        try simp only [Act.put, List.setIfInBounds_toArray, List.set_cons_zero, List.set_cons_succ]
        refine wpAnyH_ready (rs := [2]) (by kernel_rfl) (by simp) ?_
        refine AllReadyH.cons rfl (fun K hK => ?_) AllReadyH.nil
        go_simp
        refine (CE.out 211 _).mono ?_
        rintro e V ⟨rfl, hb⟩
        have HD1 : Hid (KpS w #[.int .i64 g, .int .i64 q, .int .i64 s, .int .i64 La, .slice (some ⟨b, off, none⟩) n xc, .bool hs, .int .i64 s, .int .i64 ep, .string bl] #[.int .i64 Kd, .int .i64 G, .int .i64 S, .int .i64 E, .int .i64 M, .string B, .slice fa n0 fc, .int .i64 er] #[.int .i64 0, .int .i64 0, .int .i64 0, .int .i64 0, .slice none 0 0, .bool false, .int .i64 0, .int .i64 0, .string ⟨#[]⟩] #[.int .i64 g, .int .i64 q, .int .i64 S, .int .i64 La, .slice a2 (n - k) (xc - k), .bool true, .int .i64 S, .int .i64 E, .string B] V) := HD0.out.on hb
        clear hb HD0
        refine hK.out _ _ HD1.out.cells (fun hHeld => ?_)
        clear hK K
        refine wpAnyH_ready (rs := [3]) (by kernel_rfl) (by simp) ?_
        refine AllReadyH.cons rfl (fun K hK => ?_) AllReadyH.nil
        refine step_storeRow rfl rfl 33 _ _ rfl (w.heap.size + 1 + 1) #[.int .i64 0, .int .i64 0, .int .i64 0, .int .i64 0, .slice none 0 0, .bool false, .int .i64 0, .int .i64 0, .string ⟨#[]⟩] #[.int .i64 g, .int .i64 q, .int .i64 s, .int .i64 La, .slice (some ⟨b, off, none⟩) n xc, .bool hs, .int .i64 s, .int .i64 ep, .string bl] (by with_unfolding_all rfl) (by with_unfolding_all rfl) HD1.out.z rfl (by kernel_rfl) (by simp [Value.oneCell']) ?_
        have HD2 : Hid (KpS w #[.int .i64 g, .int .i64 q, .int .i64 s, .int .i64 La, .slice (some ⟨b, off, none⟩) n xc, .bool hs, .int .i64 s, .int .i64 ep, .string bl] #[.int .i64 Kd, .int .i64 G, .int .i64 S, .int .i64 E, .int .i64 M, .string B, .slice fa n0 fc, .int .i64 er] #[.int .i64 g, .int .i64 q, .int .i64 s, .int .i64 La, .slice (some ⟨b, off, none⟩) n xc, .bool hs, .int .i64 s, .int .i64 ep, .string bl] #[.int .i64 g, .int .i64 q, .int .i64 S, .int .i64 La, .slice a2 (n - k) (xc - k), .bool true, .int .i64 S, .int .i64 E, .string B] (V.setRow (w.heap.size + 1 + 1) #[.int .i64 g, .int .i64 q, .int .i64 s, .int .i64 La, .slice (some ⟨b, off, none⟩) n xc, .bool hs, .int .i64 s, .int .i64 ep, .string bl])) := HD1.out.setZ _
        clear HD1
        refine hK.out _ _ HD2.out.cells (fun hHeld => ?_)
        clear hK K
        refine take_at (i := 4) (v := ?_) rfl rfl (by kernel_rfl) (by kernel_rfl) (by kernel_rfl) (fun _ _ _ h => h) (Or.inl ⟨by rfl, ?_⟩) (by assumption) ?_
        rotate_left
        · intro w hSw; (try dsimp only at hSw); go_simp; try with_reducible rfl
        try simp only [Act.put, List.setIfInBounds_toArray, List.set_cons_zero, List.set_cons_succ]
        refine wpAnyH_done (by kernel_rfl) (NoPanic.normal ?_) _
        go_wp2_with fail
        exact bodyPost_rowTmp rfl (w.heap.size + 1 + 1) #[.int .i64 g, .int .i64 q, .int .i64 s, .int .i64 La, .slice (some ⟨b, off, none⟩) n xc, .bool hs, .int .i64 s, .int .i64 ep, .string bl] _ rfl rfl rfl HD2.out.z _ Try.underlying33 rfl (by kernel_rfl) ⟨_, rfl, HRD.out _ (HI.out.below HD2.out.b), HD2.out.b⟩
      · obtain rfl : R = ((g, q, (S, E, B), l.drop k), (6, 0, S, 0, 0, ⟨#[]⟩, [], 0)) := by rw [← HR.out, if_neg (by rw [← HT.out]; exact h2)]
        clear HR
        have hne_ : Nonempty (Beh W8) := ⟨⟨_, Below.refl _ _⟩⟩
        refine wp_region_quiet_beh (by kernel_rfl) (by kernel_rfl) ?_
        repeat (quiet_step (first | (go_at_call 14; refine Calls.beh_of (CY1.out _))))
        refine wpQuiet_nil ?_
        intro wq hw_
        obtain ⟨⟨wz_, hbq⟩, hw_⟩ := hw_
        subst hw_
        try dsimp only
        clear hne_
        have HS1 : Hid (KpS w #[.int .i64 g, .int .i64 q, .int .i64 s, .int .i64 La, .slice (some ⟨b, off, none⟩) n xc, .bool hs, .int .i64 s, .int .i64 ep, .string bl] #[.int .i64 Kd, .int .i64 G, .int .i64 S, .int .i64 E, .int .i64 M, .string B, .slice fa n0 fc, .int .i64 er] #[.int .i64 0, .int .i64 0, .int .i64 0, .int .i64 0, .slice none 0 0, .bool false, .int .i64 0, .int .i64 0, .string ⟨#[]⟩] #[.int .i64 g, .int .i64 q, .int .i64 S, .int .i64 La, .slice a2 (n - k) (xc - k), .bool true, .int .i64 S, .int .i64 E, .string B] wq) := HK8.out.on hbq
        clear HK8 CY1 e0 e1 e2 e3 e4 e5 e6 e7 e8 g1' hbq
        go_wp2_with fail
        clear h2 HKW hwk hkI hrun1
        have HD0 : Hid (KpS w #[.int .i64 g, .int .i64 q, .int .i64 s, .int .i64 La, .slice (some ⟨b, off, none⟩) n xc, .bool hs, .int .i64 s, .int .i64 ep, .string bl] #[.int .i64 Kd, .int .i64 G, .int .i64 S, .int .i64 E, .int .i64 M, .string B, .slice fa n0 fc, .int .i64 er] #[.int .i64 0, .int .i64 0, .int .i64 0, .int .i64 0, .slice none 0 0, .bool false, .int .i64 0, .int .i64 0, .string ⟨#[]⟩] #[.int .i64 g, .int .i64 q, .int .i64 S, .int .i64 La, .slice a2 (n - k) (xc - k), .bool true, .int .i64 S, .int .i64 E, .string B] wq.drew) := HS1.out.on (Below.refl _ _).drew
        have hS0 := HD0.out.cells
        refine wp_region_noPanic ?_
        refine wp_region_held_drew (S := fun W => (W.cell? ⟨w.heap.size, 0, none⟩ = some (.int .i64 g) ∧ W.cell? ⟨w.heap.size, 1, none⟩ = some (.int .i64 q) ∧ W.cell? ⟨w.heap.size, 2, none⟩ = some (.int .i64 s) ∧ W.cell? ⟨w.heap.size, 3, none⟩ = some (.int .i64 La) ∧ W.cell? ⟨w.heap.size, 4, none⟩ = some (.slice (some ⟨b, off, none⟩) n xc) ∧ W.cell? ⟨w.heap.size, 5, none⟩ = some (.bool hs) ∧ W.cell? ⟨w.heap.size, 6, none⟩ = some (.int .i64 s) ∧ W.cell? ⟨w.heap.size, 7, none⟩ = some (.int .i64 ep) ∧ W.cell? ⟨w.heap.size, 8, none⟩ = some (.string bl)) ∧ (W.cell? ⟨w.heap.size + 1, 0, none⟩ = some (.int .i64 Kd) ∧ W.cell? ⟨w.heap.size + 1, 1, none⟩ = some (.int .i64 G) ∧ W.cell? ⟨w.heap.size + 1, 2, none⟩ = some (.int .i64 S) ∧ W.cell? ⟨w.heap.size + 1, 3, none⟩ = some (.int .i64 E) ∧ W.cell? ⟨w.heap.size + 1, 4, none⟩ = some (.int .i64 M) ∧ W.cell? ⟨w.heap.size + 1, 5, none⟩ = some (.string B) ∧ W.cell? ⟨w.heap.size + 1, 6, none⟩ = some (.slice fa n0 fc) ∧ W.cell? ⟨w.heap.size + 1, 7, none⟩ = some (.int .i64 er)) ∧ (W.cell? ⟨w.heap.size + 1 + 1 + 1, 0, none⟩ = some (.int .i64 g) ∧ W.cell? ⟨w.heap.size + 1 + 1 + 1, 1, none⟩ = some (.int .i64 q) ∧ W.cell? ⟨w.heap.size + 1 + 1 + 1, 2, none⟩ = some (.int .i64 S) ∧ W.cell? ⟨w.heap.size + 1 + 1 + 1, 3, none⟩ = some (.int .i64 La) ∧ W.cell? ⟨w.heap.size + 1 + 1 + 1, 4, none⟩ = some (.slice a2 (n - k) (xc - k)) ∧ W.cell? ⟨w.heap.size + 1 + 1 + 1, 5, none⟩ = some (.bool true) ∧ W.cell? ⟨w.heap.size + 1 + 1 + 1, 6, none⟩ = some (.int .i64 S) ∧ W.cell? ⟨w.heap.size + 1 + 1 + 1, 7, none⟩ = some (.int .i64 E) ∧ W.cell? ⟨w.heap.size + 1 + 1 + 1, 8, none⟩ = some (.string B))) (by kernel_rfl) (by first | exact trivial | assumption | exact ⟨by assumption, by assumption⟩) (fun hHeld => ?_)
        refine take_at (i := 0) (v := ?_) rfl rfl (by kernel_rfl) (by kernel_rfl) (by kernel_rfl) (fun _ _ _ h => h) (Or.inl ⟨by rfl, ?_⟩) (by assumption) ?_
        rotate_left
        · intro w hSw; (try dsimp only at hSw); go_simp; try with_reducible rfl
        try simp only [Act.put, List.setIfInBounds_toArray, List.set_cons_zero, List.set_cons_succ]
        refine take_at (i := 1) (v := ?_) rfl rfl (by kernel_rfl) (by kernel_rfl) (by kernel_rfl) (fun _ _ _ h => h) (Or.inl ⟨by rfl, ?_⟩) (by assumption) ?_
        rotate_left
        · intro w hSw; (try dsimp only at hSw); go_simp; try with_reducible rfl
        try simp only [Act.put, List.setIfInBounds_toArray, List.set_cons_zero, List.set_cons_succ]
        refine take_at (i := 2) (v := ?_) rfl rfl (by kernel_rfl) (by kernel_rfl) (by kernel_rfl) (fun _ _ _ h => h) (Or.inl ⟨by rfl, ?_⟩) (by assumption) ?_
        rotate_left
        · intro w hSw; (try dsimp only at hSw); go_simp; try with_reducible rfl
        try simp only [Act.put, List.setIfInBounds_toArray, List.set_cons_zero, List.set_cons_succ]
        refine take_at (i := 3) (v := ?_) rfl rfl (by kernel_rfl) (by kernel_rfl) (by kernel_rfl) (fun _ _ _ h => h) (Or.inl ⟨by rfl, ?_⟩) (by assumption) ?_
        rotate_left
        · intro w hSw; (try dsimp only at hSw); go_simp; try with_reducible rfl
        try simp only [Act.put, List.setIfInBounds_toArray, List.set_cons_zero, List.set_cons_succ]
        refine take_at (i := 4) (v := ?_) rfl rfl (by kernel_rfl) (by kernel_rfl) (by kernel_rfl) (fun _ _ _ h => h) (Or.inl ⟨by rfl, ?_⟩) (by assumption) ?_
        rotate_left
        · intro w hSw; (try dsimp only at hSw); go_simp; try with_reducible rfl
        try simp only [Act.put, List.setIfInBounds_toArray, List.set_cons_zero, List.set_cons_succ]
        refine wpAnyH_ready (rs := [5]) (by kernel_rfl) (by simp) ?_
        refine AllReadyH.cons rfl (fun K hK => ?_) AllReadyH.nil
        go_simp
        refine (CA.out _).mono ?_
        rintro e V ⟨rfl, hb⟩
        have HD1 : Hid (KpS w #[.int .i64 g, .int .i64 q, .int .i64 s, .int .i64 La, .slice (some ⟨b, off, none⟩) n xc, .bool hs, .int .i64 s, .int .i64 ep, .string bl] #[.int .i64 Kd, .int .i64 G, .int .i64 S, .int .i64 E, .int .i64 M, .string B, .slice fa n0 fc, .int .i64 er] #[.int .i64 0, .int .i64 0, .int .i64 0, .int .i64 0, .slice none 0 0, .bool false, .int .i64 0, .int .i64 0, .string ⟨#[]⟩] #[.int .i64 g, .int .i64 q, .int .i64 S, .int .i64 La, .slice a2 (n - k) (xc - k), .bool true, .int .i64 S, .int .i64 E, .string B] V) := HD0.out.on hb
        clear hb HD0
        refine hK.out _ _ HD1.out.cells (fun hHeld => ?_)
        clear hK K
        refine wpAnyH_ready (rs := [6]) (by kernel_rfl) (by simp) ?_
        refine AllReadyH.cons rfl (fun K hK => ?_) AllReadyH.nil
        refine step_storeRow rfl rfl 33 _ _ rfl (w.heap.size + 1 + 1) #[.int .i64 0, .int .i64 0, .int .i64 0, .int .i64 0, .slice none 0 0, .bool false, .int .i64 0, .int .i64 0, .string ⟨#[]⟩] #[.int .i64 g, .int .i64 q, .int .i64 S, .int .i64 La, .slice a2 (n - k) (xc - k), .bool true, .int .i64 S, .int .i64 E, .string B] (by with_unfolding_all rfl) (by with_unfolding_all rfl) HD1.out.z rfl (by kernel_rfl) (by simp [Value.oneCell']) ?_
        have HD2 : Hid (KpS w #[.int .i64 g, .int .i64 q, .int .i64 s, .int .i64 La, .slice (some ⟨b, off, none⟩) n xc, .bool hs, .int .i64 s, .int .i64 ep, .string bl] #[.int .i64 Kd, .int .i64 G, .int .i64 S, .int .i64 E, .int .i64 M, .string B, .slice fa n0 fc, .int .i64 er] #[.int .i64 g, .int .i64 q, .int .i64 S, .int .i64 La, .slice a2 (n - k) (xc - k), .bool true, .int .i64 S, .int .i64 E, .string B] #[.int .i64 g, .int .i64 q, .int .i64 S, .int .i64 La, .slice a2 (n - k) (xc - k), .bool true, .int .i64 S, .int .i64 E, .string B] (V.setRow (w.heap.size + 1 + 1) #[.int .i64 g, .int .i64 q, .int .i64 S, .int .i64 La, .slice a2 (n - k) (xc - k), .bool true, .int .i64 S, .int .i64 E, .string B])) := HD1.out.setZ _
        clear HD1
        refine hK.out _ _ HD2.out.cells (fun hHeld => ?_)
        clear hK K
        refine take_at (i := 7) (v := ?_) rfl rfl (by kernel_rfl) (by kernel_rfl) (by kernel_rfl) (fun _ _ _ h => h) (Or.inl ⟨by rfl, ?_⟩) (by assumption) ?_
        rotate_left
        · intro w hSw; (try dsimp only at hSw); go_simp; try with_reducible rfl
        try simp only [Act.put, List.setIfInBounds_toArray, List.set_cons_zero, List.set_cons_succ]
        refine wpAnyH_done (by kernel_rfl) (NoPanic.normal ?_) _
        go_wp2_with fail
        exact bodyPost_rowTmp rfl (w.heap.size + 1 + 1) #[.int .i64 g, .int .i64 q, .int .i64 S, .int .i64 La, .slice a2 (n - k) (xc - k), .bool true, .int .i64 S, .int .i64 E, .string B] _ rfl rfl rfl HD2.out.z _ Try.underlying33 rfl (by kernel_rfl) ⟨_, rfl, HRD2.out _ (HIK.out _ (HI.out.below HD2.out.b)), HD2.out.b⟩
end Go.Proofs.Ytkmdajenbidaaaa

namespace Go.Proofs.Ytkmdajenbidaaaa
open Go.RowKit
set_option maxRecDepth 100000
set_option linter.unusedSimpArgs false
set_option linter.unusedVariables false
set_option maxRecDepth 100000

/-- The relay, the result and the frame, each in a block of its own. -/
structure HrS (w : World) (A Z F : Array Value) (gf : Nat) (W : World) : Prop where
  a : Blk W 33 w.heap.size A
  z : Blk W 33 (w.heap.size + 1) Z
  f : Blk W 39 gf F
  b : Below w.heap.size w W
  l : w.heap.size + 1 < gf

theorem HrS.on {w W W' : World} {A Z F : Array Value} {gf : Nat} (h : HrS w A Z F gf W) (hb : Below W.heap.size W W') : HrS w A Z F gf W' := ⟨h.a.on hb, h.z.on hb, h.f.on hb, below_step h.b (Nat.le_refl _) hb, h.l⟩
theorem HrS.setZ {w W : World} {A Z F : Array Value} {gf : Nat} (h : HrS w A Z F gf W) (Z' : Array Value) : HrS w A Z' F gf (W.setRow (w.heap.size + 1) Z') :=
  ⟨h.a.setRowOther _ (by omega) _, h.z.setRow _, h.f.setRowOther _ (by have := h.l; omega) _, below_setRow h.b (by omega) _, h.l⟩
theorem HrS.rowF {w W : World} {A Z F : Array Value} {gf : Nat} (h : HrS w A Z F gf W) (F' : Array Value) : HrS w A Z F' gf (W.setRow gf F') :=
  ⟨h.a.setRowOther _ (by have := h.l; omega) _, h.z.setRowOther _ (by have := h.l; omega) _, h.f.setRow _, below_setRow h.b (by have := h.l; omega) _, h.l⟩
theorem HrS.cells {w W : World} {v0 v1 v2 v3 v4 v5 v6 v7 v8 f0 f1 f2 f3 f4 f5 f6 f7 : Value} {Z : Array Value} {gf : Nat} (h : HrS w #[v0, v1, v2, v3, v4, v5, v6, v7, v8] Z #[f0, f1, f2, f3, f4, f5, f6, f7] gf W) :
    (W.cell? ⟨w.heap.size, 0, none⟩ = some v0 ∧ W.cell? ⟨w.heap.size, 1, none⟩ = some v1 ∧ W.cell? ⟨w.heap.size, 2, none⟩ = some v2 ∧ W.cell? ⟨w.heap.size, 3, none⟩ = some v3 ∧ W.cell? ⟨w.heap.size, 4, none⟩ = some v4 ∧ W.cell? ⟨w.heap.size, 5, none⟩ = some v5 ∧ W.cell? ⟨w.heap.size, 6, none⟩ = some v6 ∧ W.cell? ⟨w.heap.size, 7, none⟩ = some v7 ∧ W.cell? ⟨w.heap.size, 8, none⟩ = some v8) ∧ (W.cell? ⟨gf, 0, none⟩ = some f0 ∧ W.cell? ⟨gf, 1, none⟩ = some f1 ∧ W.cell? ⟨gf, 2, none⟩ = some f2 ∧ W.cell? ⟨gf, 3, none⟩ = some f3 ∧ W.cell? ⟨gf, 4, none⟩ = some f4 ∧ W.cell? ⟨gf, 5, none⟩ = some f5 ∧ W.cell? ⟨gf, 6, none⟩ = some f6 ∧ W.cell? ⟨gf, 7, none⟩ = some f7) :=
  ⟨⟨h.a.cell 0, h.a.cell 1, h.a.cell 2, h.a.cell 3, h.a.cell 4, h.a.cell 5, h.a.cell 6, h.a.cell 7, h.a.cell 8⟩, ⟨h.f.cell 0, h.f.cell 1, h.f.cell 2, h.f.cell 3, h.f.cell 4, h.f.cell 5, h.f.cell 6, h.f.cell 7⟩⟩

theorem av_old {w : World} {a : Option Addr} {n : Nat} {l : List ItT} (h : ItsAt w a n l) (g : Nat) (hg : w.heap.size ≤ g) : Av a n g := by
  rcases h.2 with h0 | ⟨b, off, rfl, hc⟩
  · exact .inl h0
  · by_cases h0 : n = 0
    · exact .inl h0
    · refine .inr (fun ad e => ?_)
      cases e
      have := World.block_lt_of_cell? w _ (hc 0 (by omega)).1
      show b ≠ g
      have h2 : b < w.heap.size := this
      omega

/-- A relay that came out of a call within, once the result is stored. -/
theorem RdTo.store {w W W' : World} {xa : Option Addr} {n : Nat} {v : Value} {X : RlT} (h : RdTo W xa n W' v X) (hw : w.heap.size ≤ W.heap.size) (g : Nat) (hg : g < W.heap.size) (hav : Av xa n g) (cs : Array Value) : RdTo w xa n (W'.setRow g cs) v X := by
  obtain ⟨a, c, rfl, h1, h2, h3⟩ := h
  exact ⟨a, c, rfl, its_row h1 g cs (h3 g hg hav), h2, fun g' hg' k => h3 g' (Nat.lt_of_lt_of_le hg' hw) k⟩

theorem rd_agg {w w' : World} {xa : Option Addr} {n : Nat} {v : Value} {X : RlT} (h : RdTo w xa n w' v X) : ∃ cs : Array Value, v = .agg cs ∧ cs.size = 9 ∧ cs.all (·.oneCell') = true := by
  obtain ⟨a, c, rfl, _⟩ := h
  exact ⟨_, rfl, rfl, by simp [rdA, Value.oneCell']⟩

set_option maxHeartbeats 16000000 in
theorem rhear21_any (X : RlT) (N : Nat) (hX : RlOk N X) (hN : N ≤ 4611686018427387000) (s0 : ByteArray) (hs : s0.size ≤ 65536) (xa : Option Addr) (xc : Nat) (w : World) (hI : ItsAt w xa X.2.2.2.length X.2.2.2) (hS : SliceOk xa X.2.2.2.length xc) :
    Calls Try.prog 9 #[.agg (rdA X xa xc), .string s0] w fun e w' => ∃ v', e = .returned (.tuple #[v', .string (hearR X s0).2]) ∧ RdTo w xa X.2.2.2.length w' v' (hearR X s0).1 ∧ Below w.heap.size w w' := by
  have CT' : ∀ W, _ := fun W => rtakeF_any s0 W (by omega)
  rw [← takeF_same s0 hs] at CT'
  have hfc : (takeFC s0).2 = 0 ∨ (takeFC s0).2 = 190 := by
    unfold takeFC
    split
    · exact .inr rfl
    · exact .inl rfl
  have hFO := takeFC_ok s0
  unfold hearR hearF
  obtain ⟨⟨F, ec⟩, hT⟩ : ∃ p, takeFC s0 = p := ⟨_, rfl⟩
  rw [hT] at CT' hfc hFO ⊢
  simp only at hfc hFO ⊢
  obtain ⟨R, hR⟩ : ∃ R : RlT × FrmT, (if ec ≠ 0 then (X, errF 190) else doR X F) = R := ⟨_, rfl⟩
  rw [hR]
  have CAP' : ∀ fa fc W, ItsAt W xa X.2.2.2.length X.2.2.2 → _ := fun fa fc W h => rappends21_any X N hX hN F hFO fa fc xa xc W h hS
  have CGV' : ∀ fa fc W, ItsAt W xa X.2.2.2.length X.2.2.2 → _ := fun fa fc W h => rgiven21_any X N hX hN F hFO fa fc xa xc W h hS
  have CKP' : ∀ fa fc W, ItsAt W xa X.2.2.2.length X.2.2.2 → _ := fun fa fc W h => rkeeps21_any X N hX hN F hFO fa fc xa xc W h hS
  have CE' : ∀ (er : Int) W, _ := fun er W => rfails21_any X xa xc er W
  have CS' : ∀ W, _ := fun W => ranswer21_any X xa xc (8, 0, X.2.2.1.1, X.2.2.1.2.1, 0, X.2.2.1.2.2, [], 0) none 0 W (by show 0 ≤ _; decide) ⟨rfl, Or.inl rfl⟩ (fun i => by show (itL [] i).2.2.size ≤ _; simp [itL]) (Nat.le_trans hX.sk (by decide))
  unfold doR showR at hR
  obtain ⟨Kd, G, S, E, M, B, it, er⟩ := F
  obtain ⟨g, q, ⟨s, ep, bl⟩, l⟩ := X
  obtain ⟨La, hLa⟩ : ∃ La, lastL (g, q, (s, ep, bl), l) = La := ⟨_, rfl⟩
  obtain ⟨hv, hhs⟩ : ∃ hs : Bool, decide (s ≠ 0) = hs := ⟨_, rfl⟩
  obtain ⟨n, hn⟩ : ∃ n, l.length = n := ⟨_, rfl⟩
  obtain ⟨n0, hn0⟩ : ∃ n0, it.length = n0 := ⟨_, rfl⟩
  unfold TakenF at CT'
  unfold rdA frmA at *
  simp only [hLa, hhs, hn, hn0, List.length_nil] at CE' CS' CT' CAP' CGV' CKP' hR hI hS ⊢
  have HI : Hid (ItsAt w xa n l) := hI
  have HRD : Hid (∀ W, ItsAt W xa n l → RdTo w xa n W (.agg #[.int .i64 g, .int .i64 q, .int .i64 s, .int .i64 La, .slice xa n xc, .bool hv, .int .i64 s, .int .i64 ep, .string bl]) (g, q, (s, ep, bl), l)) := fun W hW => ⟨xa, xc, by unfold rdA; simp only [hLa, hhs, hn], by rw [hn]; exact hW, by rw [hn]; exact hS, fun _ _ hg => by rw [hn]; exact hg⟩
  have CE : Hid (∀ (er : Int) W, _) := CE'
  have CS : Hid (∀ W, _) := CS'
  have CT : Hid (∀ W, _) := CT'
  have CAP : Hid (∀ fa fc W, _ → _) := CAP'
  have CGV : Hid (∀ fa fc W, _ → _) := CGV'
  have CKP : Hid (∀ fa fc W, _ → _) := CKP'
  have HR : Hid (_ = R) := hR
  have hB0 : Below w.heap.size w ((w.alloc (.cells #[.int .i64 g, .int .i64 q, .int .i64 s, .int .i64 La, .slice xa n xc, .bool hv, .int .i64 s, .int .i64 ep, .string bl] 33)).alloc (.cells #[.int .i64 0, .int .i64 0, .int .i64 0, .int .i64 0, .slice none 0 0, .bool false, .int .i64 0, .int .i64 0, .string ⟨#[]⟩] 33)) := (below_new w _).alloc (by simp) _
  have HA0 : Hid (Blk ((w.alloc (.cells #[.int .i64 g, .int .i64 q, .int .i64 s, .int .i64 La, .slice xa n xc, .bool hv, .int .i64 s, .int .i64 ep, .string bl] 33)).alloc (.cells #[.int .i64 0, .int .i64 0, .int .i64 0, .int .i64 0, .slice none 0 0, .bool false, .int .i64 0, .int .i64 0, .string ⟨#[]⟩] 33)) 33 w.heap.size #[.int .i64 g, .int .i64 q, .int .i64 s, .int .i64 La, .slice xa n xc, .bool hv, .int .i64 s, .int .i64 ep, .string bl]) := (Blk.new w _ _).alloc _
  have HZ0 : Hid (Blk ((w.alloc (.cells #[.int .i64 g, .int .i64 q, .int .i64 s, .int .i64 La, .slice xa n xc, .bool hv, .int .i64 s, .int .i64 ep, .string bl] 33)).alloc (.cells #[.int .i64 0, .int .i64 0, .int .i64 0, .int .i64 0, .slice none 0 0, .bool false, .int .i64 0, .int .i64 0, .string ⟨#[]⟩] 33)) 33 (w.heap.size + 1) #[.int .i64 0, .int .i64 0, .int .i64 0, .int .i64 0, .slice none 0 0, .bool false, .int .i64 0, .int .i64 0, .string ⟨#[]⟩]) := Blk.new' _ _ _ _ (by simp)
  have HB0 : Hid (Below w.heap.size w _) := hB0
  have HHV : Hid (decide (s ≠ 0) = hv) := hhs
  clear CE' CS' CT' CAP' CGV' CKP' hR hB0 hn hn0 hLa hhs hI hS hX hN hT hFO hs
  go_enter Try.func9, Try.ntmps9
  go_wp2_with fail
  refine (CT.out _).mono ?_
  rintro e V ⟨fa, fc, rfl, _, _, _, hb⟩
  have HA1 : Hid (Blk V 33 w.heap.size #[.int .i64 g, .int .i64 q, .int .i64 s, .int .i64 La, .slice xa n xc, .bool hv, .int .i64 s, .int .i64 ep, .string bl]) := HA0.out.on hb
  have HZ1 : Hid (Blk V 33 (w.heap.size + 1) #[.int .i64 0, .int .i64 0, .int .i64 0, .int .i64 0, .slice none 0 0, .bool false, .int .i64 0, .int .i64 0, .string ⟨#[]⟩]) := HZ0.out.on hb
  have HB1 : Hid (Below w.heap.size w V) := below_step HB0.out (Nat.le_refl _) hb
  have HV : Hid (w.heap.size + 1 < V.heap.size) := HZ1.out.lt
  have HS2 : Hid (HrS w #[.int .i64 g, .int .i64 q, .int .i64 s, .int .i64 La, .slice xa n xc, .bool hv, .int .i64 s, .int .i64 ep, .string bl] #[.int .i64 0, .int .i64 0, .int .i64 0, .int .i64 0, .slice none 0 0, .bool false, .int .i64 0, .int .i64 0, .string ⟨#[]⟩] #[.int .i64 Kd, .int .i64 G, .int .i64 S, .int .i64 E, .int .i64 M, .string B, .slice fa n0 fc, .int .i64 er] V.heap.size (V.alloc (.cells #[.int .i64 Kd, .int .i64 G, .int .i64 S, .int .i64 E, .int .i64 M, .string B, .slice fa n0 fc, .int .i64 er] 39))) := ⟨HA1.out.alloc _, HZ1.out.alloc _, Blk.new _ _ _, below_step HB1.out (Nat.le_refl _) (below_new _ _), HV.out⟩
  have a0 : V.cell? ⟨w.heap.size, 0, none⟩ = some (.int .i64 g) := HA1.out.cell 0
  have a1 : V.cell? ⟨w.heap.size, 1, none⟩ = some (.int .i64 q) := HA1.out.cell 1
  have a2 : V.cell? ⟨w.heap.size, 2, none⟩ = some (.int .i64 s) := HA1.out.cell 2
  have a3 : V.cell? ⟨w.heap.size, 3, none⟩ = some (.int .i64 La) := HA1.out.cell 3
  have a4 : V.cell? ⟨w.heap.size, 4, none⟩ = some (.slice xa n xc) := HA1.out.cell 4
  have a5 : V.cell? ⟨w.heap.size, 5, none⟩ = some (.bool hv) := HA1.out.cell 5
  have a6 : V.cell? ⟨w.heap.size, 6, none⟩ = some (.int .i64 s) := HA1.out.cell 6
  have a7 : V.cell? ⟨w.heap.size, 7, none⟩ = some (.int .i64 ep) := HA1.out.cell 7
  have a8 : V.cell? ⟨w.heap.size, 8, none⟩ = some (.string bl) := HA1.out.cell 8
  clear CT HA0 HZ0 HB0 HA1 HZ1 HB1 HV hb
  obtain ⟨W1, hW1⟩ : ∃ W1, V.alloc (.cells #[.int .i64 Kd, .int .i64 G, .int .i64 S, .int .i64 E, .int .i64 M, .string B, .slice fa n0 fc, .int .i64 er] 39) = W1 := ⟨_, rfl⟩
  rw [hW1] at HS2
  have HS : Hid (HrS w #[.int .i64 g, .int .i64 q, .int .i64 s, .int .i64 La, .slice xa n xc, .bool hv, .int .i64 s, .int .i64 ep, .string bl] #[.int .i64 0, .int .i64 0, .int .i64 0, .int .i64 0, .slice none 0 0, .bool false, .int .i64 0, .int .i64 0, .string ⟨#[]⟩] #[.int .i64 Kd, .int .i64 G, .int .i64 S, .int .i64 E, .int .i64 M, .string B, .slice fa n0 fc, .int .i64 er] V.heap.size W1) := HS2
  clear HS2
  clear a0 a1 a2 a3 a4 a5 a6 a7 a8
  obtain ⟨⟨a0, a1, a2, a3, a4, a5, a6, a7, a8⟩, ⟨f0, f1, f2, f3, f4, f5, f6, f7⟩⟩ := HS.out.cells
  rcases hfc with he | he
  · subst he
    have HR1 : Hid ((if G ≠ g then ((g, q, (s, ep, bl), l), errF 1) else if Kd = 1 then addR (g, q, (s, ep, bl), l) (Kd, G, S, E, M, B, it, er) else if Kd = 3 then ((g, q, (s, ep, bl), l), giveR (g, q, (s, ep, bl), l) (Kd, G, S, E, M, B, it, er)) else if Kd = 5 then keepR (g, q, (s, ep, bl), l) (Kd, G, S, E, M, B, it, er) else if Kd = 7 then ((g, q, (s, ep, bl), l), if s = 0 then errF 3 else (8, 0, s, ep, 0, bl, [], 0)) else ((g, q, (s, ep, bl), l), errF 1)) = R) := by show _ = _; rw [← HR.out]; rfl
    clear HR
    by_cases hG : G = g
    · subst hG
      by_cases k1 : Kd = 1
      · subst k1
        obtain rfl : addR _ _ = R := by have := HR1.out; rw [if_neg (by simp), if_pos rfl] at this; exact this
        clear HR1 CS CGV CKP CE HRD
        go_wp2_with fail
        try rw [hW1]
        obtain ⟨gf, hgf⟩ : ∃ gf, V.heap.size = gf := ⟨_, rfl⟩
        rw [hgf] at HS ⊢
        clear hW1 hgf
        refine (CAP.out fa fc W1 (HI.out.below HS.out.b)).mono ?_
        rintro e W2 ⟨v', rfl, hrd, hb⟩
        have HS2 : Hid (HrS w #[.int .i64 G, .int .i64 q, .int .i64 s, .int .i64 La, .slice xa n xc, .bool hv, .int .i64 s, .int .i64 ep, .string bl] #[.int .i64 0, .int .i64 0, .int .i64 0, .int .i64 0, .slice none 0 0, .bool false, .int .i64 0, .int .i64 0, .string ⟨#[]⟩] #[.int .i64 1, .int .i64 G, .int .i64 S, .int .i64 E, .int .i64 M, .string B, .slice fa n0 fc, .int .i64 er] gf W2) := HS.out.on hb
        have HL1 : Hid (w.heap.size ≤ W1.heap.size ∧ w.heap.size + 1 < W1.heap.size) := ⟨HS.out.b.size, HS.out.z.lt⟩
        have HRD2 : Hid (RdTo W1 xa n W2 v' _) := hrd
        obtain ⟨cs, hcs, hcz, hc1⟩ := rd_agg hrd
        subst hcs
        clear hrd hb HS
        have HX := HS2.out.z
        clear a0 a1 a2 a3 a4 a5 a6 a7 a8 f0 f1 f2 f3 f4 f5 f6 f7
        go_wp2_with (with_reducible refine wpList_storeBlk rfl 33 _ _ rfl (w.heap.size + 1) #[.int .i64 0, .int .i64 0, .int .i64 0, .int .i64 0, .slice none 0 0, .bool false, .int .i64 0, .int .i64 0, .string ⟨#[]⟩] cs ?hx ?hy HX ?hz ?hi ?h1 ?_
                     (case hx => rfl)
                     (case hy => rfl)
                     (case hz => first | exact hcz.symm | exact hcz)
                     (case hi => first | (rw [hcz]; kernel_rfl) | kernel_rfl)
                     (case h1 => exact hc1))
        refine bodyPost_rowTmp rfl (w.heap.size + 1) cs _ rfl rfl rfl ?_ _ Try.underlying33 rfl ?_ ?_
        · exact (HS2.out.setZ _).z
        · rw [hcz]; kernel_rfl
        · exact ⟨_, rfl, HRD2.out.store HL1.out.1 _ HL1.out.2 (av_old HI.out _ (Nat.le_succ _)) _, (HS2.out.setZ _).b⟩
      · have e1 : (Kd == 1) = false := by rw [beq_eq_false_iff_ne]; exact k1
        by_cases k3 : Kd = 3
        · subst k3
          obtain rfl : (_, giveR _ _) = R := by have := HR1.out; rw [if_neg (by simp), if_neg (by decide), if_pos rfl] at this; exact this
          clear HR1 CS CAP CKP CE e1 k1
          go_wp2_with fail
          try rw [hW1]
          obtain ⟨gf, hgf⟩ : ∃ gf, V.heap.size = gf := ⟨_, rfl⟩
          rw [hgf] at HS ⊢
          clear hW1 hgf
          clear a0 a1 a2 a3 a4 a5 a6 a7 a8 f0 f1 f2 f3 f4 f5 f6 f7
          have HD0 : Hid (HrS w #[.int .i64 G, .int .i64 q, .int .i64 s, .int .i64 La, .slice xa n xc, .bool hv, .int .i64 s, .int .i64 ep, .string bl] #[.int .i64 0, .int .i64 0, .int .i64 0, .int .i64 0, .slice none 0 0, .bool false, .int .i64 0, .int .i64 0, .string ⟨#[]⟩] #[.int .i64 3, .int .i64 G, .int .i64 S, .int .i64 E, .int .i64 M, .string B, .slice fa n0 fc, .int .i64 er] gf W1.drew) := HS.out.on (Below.refl _ _).drew
          have hS0 := HD0.out.cells
          refine wp_region_noPanic ?_
          refine wp_region_held_drew (S := fun W => (W.cell? ⟨w.heap.size, 0, none⟩ = some (.int .i64 G) ∧ W.cell? ⟨w.heap.size, 1, none⟩ = some (.int .i64 q) ∧ W.cell? ⟨w.heap.size, 2, none⟩ = some (.int .i64 s) ∧ W.cell? ⟨w.heap.size, 3, none⟩ = some (.int .i64 La) ∧ W.cell? ⟨w.heap.size, 4, none⟩ = some (.slice xa n xc) ∧ W.cell? ⟨w.heap.size, 5, none⟩ = some (.bool hv) ∧ W.cell? ⟨w.heap.size, 6, none⟩ = some (.int .i64 s) ∧ W.cell? ⟨w.heap.size, 7, none⟩ = some (.int .i64 ep) ∧ W.cell? ⟨w.heap.size, 8, none⟩ = some (.string bl)) ∧ (W.cell? ⟨gf, 0, none⟩ = some (.int .i64 3) ∧ W.cell? ⟨gf, 1, none⟩ = some (.int .i64 G) ∧ W.cell? ⟨gf, 2, none⟩ = some (.int .i64 S) ∧ W.cell? ⟨gf, 3, none⟩ = some (.int .i64 E) ∧ W.cell? ⟨gf, 4, none⟩ = some (.int .i64 M) ∧ W.cell? ⟨gf, 5, none⟩ = some (.string B) ∧ W.cell? ⟨gf, 6, none⟩ = some (.slice fa n0 fc) ∧ W.cell? ⟨gf, 7, none⟩ = some (.int .i64 er))) (by kernel_rfl) (by first | exact trivial | assumption | exact ⟨by assumption, by assumption⟩) (fun hHeld => ?_)
          refine take_at (i := 0) (v := ?_) rfl rfl (by kernel_rfl) (by kernel_rfl) (by kernel_rfl) (fun _ _ _ h => h) (Or.inl ⟨by rfl, ?_⟩) (by assumption) ?_
          rotate_left
          · intro w hSw; (try dsimp only at hSw); go_simp; try with_reducible rfl
          try simp only [Act.put, List.setIfInBounds_toArray, List.set_cons_zero, List.set_cons_succ]
          refine take_at (i := 1) (v := ?_) rfl rfl (by kernel_rfl) (by kernel_rfl) (by kernel_rfl) (fun _ _ _ h => h) (Or.inl ⟨by rfl, ?_⟩) (by assumption) ?_
          rotate_left
          · intro w hSw; (try dsimp only at hSw); go_simp; try with_reducible rfl
          try simp only [Act.put, List.setIfInBounds_toArray, List.set_cons_zero, List.set_cons_succ]
          refine take_at (i := 2) (v := ?_) rfl rfl (by kernel_rfl) (by kernel_rfl) (by kernel_rfl) (fun _ _ _ h => h) (Or.inl ⟨by rfl, ?_⟩) (by assumption) ?_
          rotate_left
          · intro w hSw; (try dsimp only at hSw); go_simp; try with_reducible rfl
          try simp only [Act.put, List.setIfInBounds_toArray, List.set_cons_zero, List.set_cons_succ]
          refine wpAnyH_ready (rs := [3]) (by kernel_rfl) (by simp) ?_
          refine AllReadyH.cons rfl (fun K hK => ?_) AllReadyH.nil
          go_simp
          refine (CGV.out fa fc _ (HI.out.below HD0.out.b)).mono ?_
          rintro e V ⟨rfl, hb⟩
          have HD1 : Hid (HrS w #[.int .i64 G, .int .i64 q, .int .i64 s, .int .i64 La, .slice xa n xc, .bool hv, .int .i64 s, .int .i64 ep, .string bl] #[.int .i64 0, .int .i64 0, .int .i64 0, .int .i64 0, .slice none 0 0, .bool false, .int .i64 0, .int .i64 0, .string ⟨#[]⟩] #[.int .i64 3, .int .i64 G, .int .i64 S, .int .i64 E, .int .i64 M, .string B, .slice fa n0 fc, .int .i64 er] gf V) := HD0.out.on hb
          clear hb HD0
          refine hK.out _ _ HD1.out.cells (fun hHeld => ?_)
          clear hK K
          refine wpAnyH_ready (rs := [4]) (by kernel_rfl) (by simp) ?_
          refine AllReadyH.cons rfl (fun K hK => ?_) AllReadyH.nil
          refine step_storeRow rfl rfl 33 _ _ rfl (w.heap.size + 1) #[.int .i64 0, .int .i64 0, .int .i64 0, .int .i64 0, .slice none 0 0, .bool false, .int .i64 0, .int .i64 0, .string ⟨#[]⟩] #[.int .i64 G, .int .i64 q, .int .i64 s, .int .i64 La, .slice xa n xc, .bool hv, .int .i64 s, .int .i64 ep, .string bl] (by with_unfolding_all rfl) (by with_unfolding_all rfl) HD1.out.z rfl (by kernel_rfl) (by simp [Value.oneCell']) ?_
          have HD2 : Hid (HrS w #[.int .i64 G, .int .i64 q, .int .i64 s, .int .i64 La, .slice xa n xc, .bool hv, .int .i64 s, .int .i64 ep, .string bl] #[.int .i64 G, .int .i64 q, .int .i64 s, .int .i64 La, .slice xa n xc, .bool hv, .int .i64 s, .int .i64 ep, .string bl] #[.int .i64 3, .int .i64 G, .int .i64 S, .int .i64 E, .int .i64 M, .string B, .slice fa n0 fc, .int .i64 er] gf (V.setRow (w.heap.size + 1) #[.int .i64 G, .int .i64 q, .int .i64 s, .int .i64 La, .slice xa n xc, .bool hv, .int .i64 s, .int .i64 ep, .string bl])) := HD1.out.setZ _
          clear HD1
          refine hK.out _ _ HD2.out.cells (fun hHeld => ?_)
          clear hK K
          refine take_at (i := 5) (v := ?_) rfl rfl (by kernel_rfl) (by kernel_rfl) (by kernel_rfl) (fun _ _ _ h => h) (Or.inl ⟨by rfl, ?_⟩) (by assumption) ?_
          rotate_left
          · intro w hSw; (try dsimp only at hSw); go_simp; try with_reducible rfl
          try simp only [Act.put, List.setIfInBounds_toArray, List.set_cons_zero, List.set_cons_succ]
          refine wpAnyH_done (by kernel_rfl) (NoPanic.normal ?_) _
          go_wp2_with fail
          exact bodyPost_rowTmp rfl (w.heap.size + 1) #[.int .i64 G, .int .i64 q, .int .i64 s, .int .i64 La, .slice xa n xc, .bool hv, .int .i64 s, .int .i64 ep, .string bl] _ rfl rfl rfl HD2.out.z _ Try.underlying33 rfl (by kernel_rfl) ⟨_, rfl, HRD.out _ (HI.out.below HD2.out.b), HD2.out.b⟩
        · have e3 : (Kd == 3) = false := by rw [beq_eq_false_iff_ne]; exact k3
          by_cases k5 : Kd = 5
          · subst k5
            obtain rfl : keepR _ _ = R := by have := HR1.out; rw [if_neg (by simp), if_neg (by decide), if_neg (by decide), if_pos rfl] at this; exact this
            clear HR1 CS CAP CGV CE HRD e1 e3 k1 k3
            go_wp2_with fail
            try rw [hW1]
            obtain ⟨gf, hgf⟩ : ∃ gf, V.heap.size = gf := ⟨_, rfl⟩
            rw [hgf] at HS ⊢
            clear hW1 hgf
            refine (CKP.out fa fc W1 (HI.out.below HS.out.b)).mono ?_
            rintro e W2 ⟨v', rfl, hrd, hb⟩
            have HS2 : Hid (HrS w #[.int .i64 G, .int .i64 q, .int .i64 s, .int .i64 La, .slice xa n xc, .bool hv, .int .i64 s, .int .i64 ep, .string bl] #[.int .i64 0, .int .i64 0, .int .i64 0, .int .i64 0, .slice none 0 0, .bool false, .int .i64 0, .int .i64 0, .string ⟨#[]⟩] #[.int .i64 5, .int .i64 G, .int .i64 S, .int .i64 E, .int .i64 M, .string B, .slice fa n0 fc, .int .i64 er] gf W2) := HS.out.on hb
            have HL1 : Hid (w.heap.size ≤ W1.heap.size ∧ w.heap.size + 1 < W1.heap.size) := ⟨HS.out.b.size, HS.out.z.lt⟩
            have HRD2 : Hid (RdTo W1 xa n W2 v' _) := hrd
            obtain ⟨cs, hcs, hcz, hc1⟩ := rd_agg hrd
            subst hcs
            clear hrd hb HS
            have HX := HS2.out.z
            clear a0 a1 a2 a3 a4 a5 a6 a7 a8 f0 f1 f2 f3 f4 f5 f6 f7
            go_wp2_with (with_reducible refine wpList_storeBlk rfl 33 _ _ rfl (w.heap.size + 1) #[.int .i64 0, .int .i64 0, .int .i64 0, .int .i64 0, .slice none 0 0, .bool false, .int .i64 0, .int .i64 0, .string ⟨#[]⟩] cs ?hx ?hy HX ?hz ?hi ?h1 ?_
                         (case hx => rfl)
                         (case hy => rfl)
                         (case hz => first | exact hcz.symm | exact hcz)
                         (case hi => first | (rw [hcz]; kernel_rfl) | kernel_rfl)
                         (case h1 => exact hc1))
            refine bodyPost_rowTmp rfl (w.heap.size + 1) cs _ rfl rfl rfl ?_ _ Try.underlying33 rfl ?_ ?_
            · exact (HS2.out.setZ _).z
            · rw [hcz]; kernel_rfl
            · exact ⟨_, rfl, HRD2.out.store HL1.out.1 _ HL1.out.2 (av_old HI.out _ (Nat.le_succ _)) _, (HS2.out.setZ _).b⟩
          · have e5 : (Kd == 5) = false := by rw [beq_eq_false_iff_ne]; exact k5
            by_cases k7 : Kd = 7
            · subst k7
              have HR2 : Hid ((((G, q, (s, ep, bl), l), if s = 0 then errF 3 else (8, 0, s, ep, 0, bl, [], 0)) : RlT × FrmT) = R) := by have := HR1.out; rw [if_neg (by simp), if_neg (by decide), if_neg (by decide), if_neg (by decide), if_pos rfl] at this; exact this
              clear HR1 CAP CGV CKP e1 e3 e5 k1 k3 k5
              by_cases hz : s = 0
              · have hv0 : hv = false := by rw [← HHV.out]; exact decide_eq_false (fun h => h hz)
                obtain rfl : ((G, q, (s, ep, bl), l), errF 3) = R := by have := HR2.out; rw [if_pos hz] at this; exact this
                clear HR2 HHV CS hz
                subst hv0
                go_wp2_with fail
                try rw [hW1]
                obtain ⟨gf, hgf⟩ : ∃ gf, V.heap.size = gf := ⟨_, rfl⟩
                rw [hgf] at HS ⊢
                clear hW1 hgf
                clear a0 a1 a2 a3 a4 a5 a6 a7 a8 f0 f1 f2 f3 f4 f5 f6 f7
                have HD0 : Hid (HrS w #[.int .i64 G, .int .i64 q, .int .i64 s, .int .i64 La, .slice xa n xc, .bool false, .int .i64 s, .int .i64 ep, .string bl] #[.int .i64 0, .int .i64 0, .int .i64 0, .int .i64 0, .slice none 0 0, .bool false, .int .i64 0, .int .i64 0, .string ⟨#[]⟩] #[.int .i64 7, .int .i64 G, .int .i64 S, .int .i64 E, .int .i64 M, .string B, .slice fa n0 fc, .int .i64 er] gf W1.drew) := HS.out.on (Below.refl _ _).drew
                have hS0 := HD0.out.cells
                refine wp_region_noPanic ?_
                refine wp_region_held_drew (S := fun W => (W.cell? ⟨w.heap.size, 0, none⟩ = some (.int .i64 G) ∧ W.cell? ⟨w.heap.size, 1, none⟩ = some (.int .i64 q) ∧ W.cell? ⟨w.heap.size, 2, none⟩ = some (.int .i64 s) ∧ W.cell? ⟨w.heap.size, 3, none⟩ = some (.int .i64 La) ∧ W.cell? ⟨w.heap.size, 4, none⟩ = some (.slice xa n xc) ∧ W.cell? ⟨w.heap.size, 5, none⟩ = some (.bool false) ∧ W.cell? ⟨w.heap.size, 6, none⟩ = some (.int .i64 s) ∧ W.cell? ⟨w.heap.size, 7, none⟩ = some (.int .i64 ep) ∧ W.cell? ⟨w.heap.size, 8, none⟩ = some (.string bl)) ∧ (W.cell? ⟨gf, 0, none⟩ = some (.int .i64 7) ∧ W.cell? ⟨gf, 1, none⟩ = some (.int .i64 G) ∧ W.cell? ⟨gf, 2, none⟩ = some (.int .i64 S) ∧ W.cell? ⟨gf, 3, none⟩ = some (.int .i64 E) ∧ W.cell? ⟨gf, 4, none⟩ = some (.int .i64 M) ∧ W.cell? ⟨gf, 5, none⟩ = some (.string B) ∧ W.cell? ⟨gf, 6, none⟩ = some (.slice fa n0 fc) ∧ W.cell? ⟨gf, 7, none⟩ = some (.int .i64 er))) (by kernel_rfl) (by first | exact trivial | assumption | exact ⟨by assumption, by assumption⟩) (fun hHeld => ?_)
                refine take_at (i := 0) (v := ?_) rfl rfl (by kernel_rfl) (by kernel_rfl) (by kernel_rfl) (fun _ _ _ h => h) (Or.inl ⟨by rfl, ?_⟩) (by assumption) ?_
                rotate_left
                · intro w hSw; (try dsimp only at hSw); go_simp; try with_reducible rfl
                try simp only [Act.put, List.setIfInBounds_toArray, List.set_cons_zero, List.set_cons_succ]
                refine take_at (i := 1) (v := ?_) rfl rfl (by kernel_rfl) (by kernel_rfl) (by kernel_rfl) (fun _ _ _ h => h) (Or.inl ⟨by rfl, ?_⟩) (by assumption) ?_
                rotate_left
                · intro w hSw; (try dsimp only at hSw); go_simp; try with_reducible rfl
                try simp only [Act.put, List.setIfInBounds_toArray, List.set_cons_zero, List.set_cons_succ]
                refine wpAnyH_ready (rs := [2]) (by kernel_rfl) (by simp) ?_
                refine AllReadyH.cons rfl (fun K hK => ?_) AllReadyH.nil
                go_simp
                refine (CE.out 3 _).mono ?_
                rintro e V ⟨rfl, hb⟩
                have HD1 : Hid (HrS w #[.int .i64 G, .int .i64 q, .int .i64 s, .int .i64 La, .slice xa n xc, .bool false, .int .i64 s, .int .i64 ep, .string bl] #[.int .i64 0, .int .i64 0, .int .i64 0, .int .i64 0, .slice none 0 0, .bool false, .int .i64 0, .int .i64 0, .string ⟨#[]⟩] #[.int .i64 7, .int .i64 G, .int .i64 S, .int .i64 E, .int .i64 M, .string B, .slice fa n0 fc, .int .i64 er] gf V) := HD0.out.on hb
                clear hb HD0
                refine hK.out _ _ HD1.out.cells (fun hHeld => ?_)
                clear hK K
                refine wpAnyH_ready (rs := [3]) (by kernel_rfl) (by simp) ?_
                refine AllReadyH.cons rfl (fun K hK => ?_) AllReadyH.nil
                refine step_storeRow rfl rfl 33 _ _ rfl (w.heap.size + 1) #[.int .i64 0, .int .i64 0, .int .i64 0, .int .i64 0, .slice none 0 0, .bool false, .int .i64 0, .int .i64 0, .string ⟨#[]⟩] #[.int .i64 G, .int .i64 q, .int .i64 s, .int .i64 La, .slice xa n xc, .bool false, .int .i64 s, .int .i64 ep, .string bl] (by with_unfolding_all rfl) (by with_unfolding_all rfl) HD1.out.z rfl (by kernel_rfl) (by simp [Value.oneCell']) ?_
                have HD2 : Hid (HrS w #[.int .i64 G, .int .i64 q, .int .i64 s, .int .i64 La, .slice xa n xc, .bool false, .int .i64 s, .int .i64 ep, .string bl] #[.int .i64 G, .int .i64 q, .int .i64 s, .int .i64 La, .slice xa n xc, .bool false, .int .i64 s, .int .i64 ep, .string bl] #[.int .i64 7, .int .i64 G, .int .i64 S, .int .i64 E, .int .i64 M, .string B, .slice fa n0 fc, .int .i64 er] gf (V.setRow (w.heap.size + 1) #[.int .i64 G, .int .i64 q, .int .i64 s, .int .i64 La, .slice xa n xc, .bool false, .int .i64 s, .int .i64 ep, .string bl])) := HD1.out.setZ _
                clear HD1
                refine hK.out _ _ HD2.out.cells (fun hHeld => ?_)
                clear hK K
                refine take_at (i := 4) (v := ?_) rfl rfl (by kernel_rfl) (by kernel_rfl) (by kernel_rfl) (fun _ _ _ h => h) (Or.inl ⟨by rfl, ?_⟩) (by assumption) ?_
                rotate_left
                · intro w hSw; (try dsimp only at hSw); go_simp; try with_reducible rfl
                try simp only [Act.put, List.setIfInBounds_toArray, List.set_cons_zero, List.set_cons_succ]
                refine wpAnyH_done (by kernel_rfl) (NoPanic.normal ?_) _
                go_wp2_with fail
                exact bodyPost_rowTmp rfl (w.heap.size + 1) #[.int .i64 G, .int .i64 q, .int .i64 s, .int .i64 La, .slice xa n xc, .bool false, .int .i64 s, .int .i64 ep, .string bl] _ rfl rfl rfl HD2.out.z _ Try.underlying33 rfl (by kernel_rfl) ⟨_, rfl, HRD.out _ (HI.out.below HD2.out.b), HD2.out.b⟩
              · have hv0 : hv = true := by rw [← HHV.out]; exact decide_eq_true hz
                obtain rfl : ((G, q, (s, ep, bl), l), (8, 0, s, ep, 0, bl, [], 0)) = R := by have := HR2.out; rw [if_neg hz] at this; exact this
                clear HR2 HHV CE hz
                subst hv0
                go_wp2_with fail
                try rw [hW1]
                obtain ⟨gf, hgf⟩ : ∃ gf, V.heap.size = gf := ⟨_, rfl⟩
                rw [hgf] at HS ⊢
                clear hW1 hgf
                clear a0 a1 a2 a3 a4 a5 a6 a7 a8 f0 f1 f2 f3 f4 f5 f6 f7
                have HD0 : Hid (HrS w #[.int .i64 G, .int .i64 q, .int .i64 s, .int .i64 La, .slice xa n xc, .bool true, .int .i64 s, .int .i64 ep, .string bl] #[.int .i64 0, .int .i64 0, .int .i64 0, .int .i64 0, .slice none 0 0, .bool false, .int .i64 0, .int .i64 0, .string ⟨#[]⟩] #[.int .i64 7, .int .i64 G, .int .i64 S, .int .i64 E, .int .i64 M, .string B, .slice fa n0 fc, .int .i64 er] gf W1.drew) := HS.out.on (Below.refl _ _).drew
                have hS0 := HD0.out.cells
                refine wp_region_noPanic ?_
                refine wp_region_held_drew (S := fun W => (W.cell? ⟨w.heap.size, 0, none⟩ = some (.int .i64 G) ∧ W.cell? ⟨w.heap.size, 1, none⟩ = some (.int .i64 q) ∧ W.cell? ⟨w.heap.size, 2, none⟩ = some (.int .i64 s) ∧ W.cell? ⟨w.heap.size, 3, none⟩ = some (.int .i64 La) ∧ W.cell? ⟨w.heap.size, 4, none⟩ = some (.slice xa n xc) ∧ W.cell? ⟨w.heap.size, 5, none⟩ = some (.bool true) ∧ W.cell? ⟨w.heap.size, 6, none⟩ = some (.int .i64 s) ∧ W.cell? ⟨w.heap.size, 7, none⟩ = some (.int .i64 ep) ∧ W.cell? ⟨w.heap.size, 8, none⟩ = some (.string bl)) ∧ (W.cell? ⟨gf, 0, none⟩ = some (.int .i64 7) ∧ W.cell? ⟨gf, 1, none⟩ = some (.int .i64 G) ∧ W.cell? ⟨gf, 2, none⟩ = some (.int .i64 S) ∧ W.cell? ⟨gf, 3, none⟩ = some (.int .i64 E) ∧ W.cell? ⟨gf, 4, none⟩ = some (.int .i64 M) ∧ W.cell? ⟨gf, 5, none⟩ = some (.string B) ∧ W.cell? ⟨gf, 6, none⟩ = some (.slice fa n0 fc) ∧ W.cell? ⟨gf, 7, none⟩ = some (.int .i64 er))) (by kernel_rfl) (by first | exact trivial | assumption | exact ⟨by assumption, by assumption⟩) (fun hHeld => ?_)
                refine take_at (i := 0) (v := ?_) rfl rfl (by kernel_rfl) (by kernel_rfl) (by kernel_rfl) (fun _ _ _ h => h) (Or.inl ⟨by rfl, ?_⟩) (by assumption) ?_
                rotate_left
                · intro w hSw; (try dsimp only at hSw); go_simp; try with_reducible rfl
                try simp only [Act.put, List.setIfInBounds_toArray, List.set_cons_zero, List.set_cons_succ]
                refine take_at (i := 1) (v := ?_) rfl rfl (by kernel_rfl) (by kernel_rfl) (by kernel_rfl) (fun _ _ _ h => h) (Or.inl ⟨by rfl, ?_⟩) (by assumption) ?_
                rotate_left
                · intro w hSw; (try dsimp only at hSw); go_simp; try with_reducible rfl
                try simp only [Act.put, List.setIfInBounds_toArray, List.set_cons_zero, List.set_cons_succ]
                refine take_at (i := 2) (v := ?_) rfl rfl (by kernel_rfl) (by kernel_rfl) (by kernel_rfl) (fun _ _ _ h => h) (Or.inl ⟨by rfl, ?_⟩) (by assumption) ?_
                rotate_left
                · intro w hSw; (try dsimp only at hSw); go_simp; try with_reducible rfl
                try simp only [Act.put, List.setIfInBounds_toArray, List.set_cons_zero, List.set_cons_succ]
                refine take_at (i := 3) (v := ?_) rfl rfl (by kernel_rfl) (by kernel_rfl) (by kernel_rfl) (fun _ _ _ h => h) (Or.inl ⟨by rfl, ?_⟩) (by assumption) ?_
                rotate_left
                · intro w hSw; (try dsimp only at hSw); go_simp; try with_reducible rfl
                try simp only [Act.put, List.setIfInBounds_toArray, List.set_cons_zero, List.set_cons_succ]
                refine take_at (i := 4) (v := ?_) rfl rfl (by kernel_rfl) (by kernel_rfl) (by kernel_rfl) (fun _ _ _ h => h) (Or.inl ⟨by rfl, ?_⟩) (by assumption) ?_
                rotate_left
                · intro w hSw; (try dsimp only at hSw); go_simp; try with_reducible rfl
                try simp only [Act.put, List.setIfInBounds_toArray, List.set_cons_zero, List.set_cons_succ]
                refine take_at (i := 5) (v := ?_) rfl rfl (by kernel_rfl) (by kernel_rfl) (by kernel_rfl) (fun _ _ _ h => h) (Or.inl ⟨by rfl, ?_⟩) (by assumption) ?_
                rotate_left
                · intro w hSw; (try dsimp only at hSw); go_simp; try with_reducible rfl
                try simp only [Act.put, List.setIfInBounds_toArray, List.set_cons_zero, List.set_cons_succ]
                refine take_at (i := 6) (v := ?_) rfl rfl (by kernel_rfl) (by kernel_rfl) (by kernel_rfl) (fun _ _ _ h => h) (Or.inl ⟨by rfl, ?_⟩) (by assumption) ?_
                rotate_left
                · intro w hSw; (try dsimp only at hSw); go_simp; try with_reducible rfl
                try simp only [Act.put, List.setIfInBounds_toArray, List.set_cons_zero, List.set_cons_succ]
                refine take_at (i := 7) (v := ?_) rfl rfl (by kernel_rfl) (by kernel_rfl) (by kernel_rfl) (fun _ _ _ h => h) (Or.inl ⟨by rfl, ?_⟩) (by assumption) ?_
                rotate_left
                · intro w hSw; (try dsimp only at hSw); go_simp; try with_reducible rfl
                try simp only [Act.put, List.setIfInBounds_toArray, List.set_cons_zero, List.set_cons_succ]
                refine take_at (i := 8) (v := ?_) rfl rfl (by kernel_rfl) (by kernel_rfl) (by kernel_rfl) (fun _ _ _ h => h) (Or.inl ⟨by rfl, ?_⟩) (by assumption) ?_
                rotate_left
                · intro w hSw; (try dsimp only at hSw); go_simp; try with_reducible rfl
                try simp only [Act.put, List.setIfInBounds_toArray, List.set_cons_zero, List.set_cons_succ]
                refine take_at (i := 9) (v := ?_) rfl rfl (by kernel_rfl) (by kernel_rfl) (by kernel_rfl) (fun _ _ _ h => h) (Or.inl ⟨by rfl, ?_⟩) (by assumption) ?_
                rotate_left
                · intro w hSw; (try dsimp only at hSw); go_simp; try with_reducible rfl
                try simp only [Act.put, List.setIfInBounds_toArray, List.set_cons_zero, List.set_cons_succ]
                refine take_at (i := 10) (v := ?_) rfl rfl (by kernel_rfl) (by kernel_rfl) (by kernel_rfl) (fun _ _ _ h => h) (Or.inl ⟨by rfl, ?_⟩) (by assumption) ?_
                rotate_left
                · intro w hSw; (try dsimp only at hSw); go_simp; try with_reducible rfl
                try simp only [Act.put, List.setIfInBounds_toArray, List.set_cons_zero, List.set_cons_succ]
                refine take_at (i := 11) (v := ?_) rfl rfl (by kernel_rfl) (by kernel_rfl) (by kernel_rfl) (fun _ _ _ h => h) (Or.inl ⟨by rfl, ?_⟩) (by assumption) ?_
                rotate_left
                · intro w hSw; (try dsimp only at hSw); go_simp; try with_reducible rfl
                try simp only [Act.put, List.setIfInBounds_toArray, List.set_cons_zero, List.set_cons_succ]
                refine wpAnyH_ready (rs := [12]) (by kernel_rfl) (by simp) ?_
                refine AllReadyH.cons rfl (fun K hK => ?_) AllReadyH.nil
                go_simp
                refine (CS.out _).mono ?_
                rintro e V ⟨rfl, hb⟩
                have HD1 : Hid (HrS w #[.int .i64 G, .int .i64 q, .int .i64 s, .int .i64 La, .slice xa n xc, .bool true, .int .i64 s, .int .i64 ep, .string bl] #[.int .i64 0, .int .i64 0, .int .i64 0, .int .i64 0, .slice none 0 0, .bool false, .int .i64 0, .int .i64 0, .string ⟨#[]⟩] #[.int .i64 7, .int .i64 G, .int .i64 S, .int .i64 E, .int .i64 M, .string B, .slice fa n0 fc, .int .i64 er] gf V) := HD0.out.on hb
                clear hb HD0
                refine hK.out _ _ HD1.out.cells (fun hHeld => ?_)
                clear hK K
                refine wpAnyH_ready (rs := [13]) (by kernel_rfl) (by simp) ?_
                refine AllReadyH.cons rfl (fun K hK => ?_) AllReadyH.nil
                refine step_storeRow rfl rfl 33 _ _ rfl (w.heap.size + 1) #[.int .i64 0, .int .i64 0, .int .i64 0, .int .i64 0, .slice none 0 0, .bool false, .int .i64 0, .int .i64 0, .string ⟨#[]⟩] #[.int .i64 G, .int .i64 q, .int .i64 s, .int .i64 La, .slice xa n xc, .bool true, .int .i64 s, .int .i64 ep, .string bl] (by with_unfolding_all rfl) (by with_unfolding_all rfl) HD1.out.z rfl (by kernel_rfl) (by simp [Value.oneCell']) ?_
                have HD2 : Hid (HrS w #[.int .i64 G, .int .i64 q, .int .i64 s, .int .i64 La, .slice xa n xc, .bool true, .int .i64 s, .int .i64 ep, .string bl] #[.int .i64 G, .int .i64 q, .int .i64 s, .int .i64 La, .slice xa n xc, .bool true, .int .i64 s, .int .i64 ep, .string bl] #[.int .i64 7, .int .i64 G, .int .i64 S, .int .i64 E, .int .i64 M, .string B, .slice fa n0 fc, .int .i64 er] gf (V.setRow (w.heap.size + 1) #[.int .i64 G, .int .i64 q, .int .i64 s, .int .i64 La, .slice xa n xc, .bool true, .int .i64 s, .int .i64 ep, .string bl])) := HD1.out.setZ _
                clear HD1
                refine hK.out _ _ HD2.out.cells (fun hHeld => ?_)
                clear hK K
                refine take_at (i := 14) (v := ?_) rfl rfl (by kernel_rfl) (by kernel_rfl) (by kernel_rfl) (fun _ _ _ h => h) (Or.inl ⟨by rfl, ?_⟩) (by assumption) ?_
                rotate_left
                · intro w hSw; (try dsimp only at hSw); go_simp; try with_reducible rfl
                try simp only [Act.put, List.setIfInBounds_toArray, List.set_cons_zero, List.set_cons_succ]
                refine wpAnyH_done (by kernel_rfl) (NoPanic.normal ?_) _
                go_wp2_with fail
                exact bodyPost_rowTmp rfl (w.heap.size + 1) #[.int .i64 G, .int .i64 q, .int .i64 s, .int .i64 La, .slice xa n xc, .bool true, .int .i64 s, .int .i64 ep, .string bl] _ rfl rfl rfl HD2.out.z _ Try.underlying33 rfl (by kernel_rfl) ⟨_, rfl, HRD.out _ (HI.out.below HD2.out.b), HD2.out.b⟩
            · have e7 : (Kd == 7) = false := by rw [beq_eq_false_iff_ne]; exact k7
              obtain rfl : ((G, q, (s, ep, bl), l), errF 1) = R := by have := HR1.out; rw [if_neg (by simp), if_neg k1, if_neg k3, if_neg k5, if_neg k7] at this; exact this
              clear HR1 CS CAP CGV CKP k1 k3 k5 k7
              go_wp2_with fail
              try rw [hW1]
              obtain ⟨gf, hgf⟩ : ∃ gf, V.heap.size = gf := ⟨_, rfl⟩
              rw [hgf] at HS ⊢
              clear hW1 hgf e1 e3 e5 e7
              clear a0 a1 a2 a3 a4 a5 a6 a7 a8 f0 f1 f2 f3 f4 f5 f6 f7
              have HD0 : Hid (HrS w #[.int .i64 G, .int .i64 q, .int .i64 s, .int .i64 La, .slice xa n xc, .bool hv, .int .i64 s, .int .i64 ep, .string bl] #[.int .i64 0, .int .i64 0, .int .i64 0, .int .i64 0, .slice none 0 0, .bool false, .int .i64 0, .int .i64 0, .string ⟨#[]⟩] #[.int .i64 Kd, .int .i64 G, .int .i64 S, .int .i64 E, .int .i64 M, .string B, .slice fa n0 fc, .int .i64 er] gf W1.drew) := HS.out.on (Below.refl _ _).drew
              have hS0 := HD0.out.cells
              refine wp_region_noPanic ?_
              refine wp_region_held_drew (S := fun W => (W.cell? ⟨w.heap.size, 0, none⟩ = some (.int .i64 G) ∧ W.cell? ⟨w.heap.size, 1, none⟩ = some (.int .i64 q) ∧ W.cell? ⟨w.heap.size, 2, none⟩ = some (.int .i64 s) ∧ W.cell? ⟨w.heap.size, 3, none⟩ = some (.int .i64 La) ∧ W.cell? ⟨w.heap.size, 4, none⟩ = some (.slice xa n xc) ∧ W.cell? ⟨w.heap.size, 5, none⟩ = some (.bool hv) ∧ W.cell? ⟨w.heap.size, 6, none⟩ = some (.int .i64 s) ∧ W.cell? ⟨w.heap.size, 7, none⟩ = some (.int .i64 ep) ∧ W.cell? ⟨w.heap.size, 8, none⟩ = some (.string bl)) ∧ (W.cell? ⟨gf, 0, none⟩ = some (.int .i64 Kd) ∧ W.cell? ⟨gf, 1, none⟩ = some (.int .i64 G) ∧ W.cell? ⟨gf, 2, none⟩ = some (.int .i64 S) ∧ W.cell? ⟨gf, 3, none⟩ = some (.int .i64 E) ∧ W.cell? ⟨gf, 4, none⟩ = some (.int .i64 M) ∧ W.cell? ⟨gf, 5, none⟩ = some (.string B) ∧ W.cell? ⟨gf, 6, none⟩ = some (.slice fa n0 fc) ∧ W.cell? ⟨gf, 7, none⟩ = some (.int .i64 er))) (by kernel_rfl) (by first | exact trivial | assumption | exact ⟨by assumption, by assumption⟩) (fun hHeld => ?_)
              refine take_at (i := 0) (v := ?_) rfl rfl (by kernel_rfl) (by kernel_rfl) (by kernel_rfl) (fun _ _ _ h => h) (Or.inl ⟨by rfl, ?_⟩) (by assumption) ?_
              rotate_left
              · intro w hSw; (try dsimp only at hSw); go_simp; try with_reducible rfl
              try simp only [Act.put, List.setIfInBounds_toArray, List.set_cons_zero, List.set_cons_succ]
              refine take_at (i := 1) (v := ?_) rfl rfl (by kernel_rfl) (by kernel_rfl) (by kernel_rfl) (fun _ _ _ h => h) (Or.inl ⟨by rfl, ?_⟩) (by assumption) ?_
              rotate_left
              · intro w hSw; (try dsimp only at hSw); go_simp; try with_reducible rfl
              try simp only [Act.put, List.setIfInBounds_toArray, List.set_cons_zero, List.set_cons_succ]
              refine wpAnyH_ready (rs := [2]) (by kernel_rfl) (by simp) ?_
              refine AllReadyH.cons rfl (fun K hK => ?_) AllReadyH.nil
              go_simp
              refine (CE.out 1 _).mono ?_
              rintro e V ⟨rfl, hb⟩
              have HD1 : Hid (HrS w #[.int .i64 G, .int .i64 q, .int .i64 s, .int .i64 La, .slice xa n xc, .bool hv, .int .i64 s, .int .i64 ep, .string bl] #[.int .i64 0, .int .i64 0, .int .i64 0, .int .i64 0, .slice none 0 0, .bool false, .int .i64 0, .int .i64 0, .string ⟨#[]⟩] #[.int .i64 Kd, .int .i64 G, .int .i64 S, .int .i64 E, .int .i64 M, .string B, .slice fa n0 fc, .int .i64 er] gf V) := HD0.out.on hb
              clear hb HD0
              refine hK.out _ _ HD1.out.cells (fun hHeld => ?_)
              clear hK K
              refine wpAnyH_ready (rs := [3]) (by kernel_rfl) (by simp) ?_
              refine AllReadyH.cons rfl (fun K hK => ?_) AllReadyH.nil
              refine step_storeRow rfl rfl 33 _ _ rfl (w.heap.size + 1) #[.int .i64 0, .int .i64 0, .int .i64 0, .int .i64 0, .slice none 0 0, .bool false, .int .i64 0, .int .i64 0, .string ⟨#[]⟩] #[.int .i64 G, .int .i64 q, .int .i64 s, .int .i64 La, .slice xa n xc, .bool hv, .int .i64 s, .int .i64 ep, .string bl] (by with_unfolding_all rfl) (by with_unfolding_all rfl) HD1.out.z rfl (by kernel_rfl) (by simp [Value.oneCell']) ?_
              have HD2 : Hid (HrS w #[.int .i64 G, .int .i64 q, .int .i64 s, .int .i64 La, .slice xa n xc, .bool hv, .int .i64 s, .int .i64 ep, .string bl] #[.int .i64 G, .int .i64 q, .int .i64 s, .int .i64 La, .slice xa n xc, .bool hv, .int .i64 s, .int .i64 ep, .string bl] #[.int .i64 Kd, .int .i64 G, .int .i64 S, .int .i64 E, .int .i64 M, .string B, .slice fa n0 fc, .int .i64 er] gf (V.setRow (w.heap.size + 1) #[.int .i64 G, .int .i64 q, .int .i64 s, .int .i64 La, .slice xa n xc, .bool hv, .int .i64 s, .int .i64 ep, .string bl])) := HD1.out.setZ _
              clear HD1
              refine hK.out _ _ HD2.out.cells (fun hHeld => ?_)
              clear hK K
              refine take_at (i := 4) (v := ?_) rfl rfl (by kernel_rfl) (by kernel_rfl) (by kernel_rfl) (fun _ _ _ h => h) (Or.inl ⟨by rfl, ?_⟩) (by assumption) ?_
              rotate_left
              · intro w hSw; (try dsimp only at hSw); go_simp; try with_reducible rfl
              try simp only [Act.put, List.setIfInBounds_toArray, List.set_cons_zero, List.set_cons_succ]
              refine wpAnyH_done (by kernel_rfl) (NoPanic.normal ?_) _
              go_wp2_with fail
              exact bodyPost_rowTmp rfl (w.heap.size + 1) #[.int .i64 G, .int .i64 q, .int .i64 s, .int .i64 La, .slice xa n xc, .bool hv, .int .i64 s, .int .i64 ep, .string bl] _ rfl rfl rfl HD2.out.z _ Try.underlying33 rfl (by kernel_rfl) ⟨_, rfl, HRD.out _ (HI.out.below HD2.out.b), HD2.out.b⟩
    · have g0 : (G != g) = true := by rw [bne_iff_ne]; exact hG
      obtain rfl : ((g, q, (s, ep, bl), l), errF 1) = R := by have := HR1.out; rw [if_pos hG] at this; exact this
      clear HR1 CS CAP CGV CKP hG
      go_wp2_with fail
      try rw [hW1]
      obtain ⟨gf, hgf⟩ : ∃ gf, V.heap.size = gf := ⟨_, rfl⟩
      rw [hgf] at HS ⊢
      clear hW1 hgf g0
      clear a0 a1 a2 a3 a4 a5 a6 a7 a8 f0 f1 f2 f3 f4 f5 f6 f7
      have HD0 : Hid (HrS w #[.int .i64 g, .int .i64 q, .int .i64 s, .int .i64 La, .slice xa n xc, .bool hv, .int .i64 s, .int .i64 ep, .string bl] #[.int .i64 0, .int .i64 0, .int .i64 0, .int .i64 0, .slice none 0 0, .bool false, .int .i64 0, .int .i64 0, .string ⟨#[]⟩] #[.int .i64 Kd, .int .i64 G, .int .i64 S, .int .i64 E, .int .i64 M, .string B, .slice fa n0 fc, .int .i64 er] gf W1.drew) := HS.out.on (Below.refl _ _).drew
      have hS0 := HD0.out.cells
      refine wp_region_noPanic ?_
      refine wp_region_held_drew (S := fun W => (W.cell? ⟨w.heap.size, 0, none⟩ = some (.int .i64 g) ∧ W.cell? ⟨w.heap.size, 1, none⟩ = some (.int .i64 q) ∧ W.cell? ⟨w.heap.size, 2, none⟩ = some (.int .i64 s) ∧ W.cell? ⟨w.heap.size, 3, none⟩ = some (.int .i64 La) ∧ W.cell? ⟨w.heap.size, 4, none⟩ = some (.slice xa n xc) ∧ W.cell? ⟨w.heap.size, 5, none⟩ = some (.bool hv) ∧ W.cell? ⟨w.heap.size, 6, none⟩ = some (.int .i64 s) ∧ W.cell? ⟨w.heap.size, 7, none⟩ = some (.int .i64 ep) ∧ W.cell? ⟨w.heap.size, 8, none⟩ = some (.string bl)) ∧ (W.cell? ⟨gf, 0, none⟩ = some (.int .i64 Kd) ∧ W.cell? ⟨gf, 1, none⟩ = some (.int .i64 G) ∧ W.cell? ⟨gf, 2, none⟩ = some (.int .i64 S) ∧ W.cell? ⟨gf, 3, none⟩ = some (.int .i64 E) ∧ W.cell? ⟨gf, 4, none⟩ = some (.int .i64 M) ∧ W.cell? ⟨gf, 5, none⟩ = some (.string B) ∧ W.cell? ⟨gf, 6, none⟩ = some (.slice fa n0 fc) ∧ W.cell? ⟨gf, 7, none⟩ = some (.int .i64 er))) (by kernel_rfl) (by first | exact trivial | assumption | exact ⟨by assumption, by assumption⟩) (fun hHeld => ?_)
      refine take_at (i := 0) (v := ?_) rfl rfl (by kernel_rfl) (by kernel_rfl) (by kernel_rfl) (fun _ _ _ h => h) (Or.inl ⟨by rfl, ?_⟩) (by assumption) ?_
      rotate_left
      · intro w hSw; (try dsimp only at hSw); go_simp; try with_reducible rfl
      try simp only [Act.put, List.setIfInBounds_toArray, List.set_cons_zero, List.set_cons_succ]
      refine take_at (i := 1) (v := ?_) rfl rfl (by kernel_rfl) (by kernel_rfl) (by kernel_rfl) (fun _ _ _ h => h) (Or.inl ⟨by rfl, ?_⟩) (by assumption) ?_
      rotate_left
      · intro w hSw; (try dsimp only at hSw); go_simp; try with_reducible rfl
      try simp only [Act.put, List.setIfInBounds_toArray, List.set_cons_zero, List.set_cons_succ]
      refine wpAnyH_ready (rs := [2]) (by kernel_rfl) (by simp) ?_
      refine AllReadyH.cons rfl (fun K hK => ?_) AllReadyH.nil
      go_simp
      refine (CE.out 1 _).mono ?_
      rintro e V ⟨rfl, hb⟩
      have HD1 : Hid (HrS w #[.int .i64 g, .int .i64 q, .int .i64 s, .int .i64 La, .slice xa n xc, .bool hv, .int .i64 s, .int .i64 ep, .string bl] #[.int .i64 0, .int .i64 0, .int .i64 0, .int .i64 0, .slice none 0 0, .bool false, .int .i64 0, .int .i64 0, .string ⟨#[]⟩] #[.int .i64 Kd, .int .i64 G, .int .i64 S, .int .i64 E, .int .i64 M, .string B, .slice fa n0 fc, .int .i64 er] gf V) := HD0.out.on hb
      clear hb HD0
      refine hK.out _ _ HD1.out.cells (fun hHeld => ?_)
      clear hK K
      refine wpAnyH_ready (rs := [3]) (by kernel_rfl) (by simp) ?_
      refine AllReadyH.cons rfl (fun K hK => ?_) AllReadyH.nil
      refine step_storeRow rfl rfl 33 _ _ rfl (w.heap.size + 1) #[.int .i64 0, .int .i64 0, .int .i64 0, .int .i64 0, .slice none 0 0, .bool false, .int .i64 0, .int .i64 0, .string ⟨#[]⟩] #[.int .i64 g, .int .i64 q, .int .i64 s, .int .i64 La, .slice xa n xc, .bool hv, .int .i64 s, .int .i64 ep, .string bl] (by with_unfolding_all rfl) (by with_unfolding_all rfl) HD1.out.z rfl (by kernel_rfl) (by simp [Value.oneCell']) ?_
      have HD2 : Hid (HrS w #[.int .i64 g, .int .i64 q, .int .i64 s, .int .i64 La, .slice xa n xc, .bool hv, .int .i64 s, .int .i64 ep, .string bl] #[.int .i64 g, .int .i64 q, .int .i64 s, .int .i64 La, .slice xa n xc, .bool hv, .int .i64 s, .int .i64 ep, .string bl] #[.int .i64 Kd, .int .i64 G, .int .i64 S, .int .i64 E, .int .i64 M, .string B, .slice fa n0 fc, .int .i64 er] gf (V.setRow (w.heap.size + 1) #[.int .i64 g, .int .i64 q, .int .i64 s, .int .i64 La, .slice xa n xc, .bool hv, .int .i64 s, .int .i64 ep, .string bl])) := HD1.out.setZ _
      clear HD1
      refine hK.out _ _ HD2.out.cells (fun hHeld => ?_)
      clear hK K
      refine take_at (i := 4) (v := ?_) rfl rfl (by kernel_rfl) (by kernel_rfl) (by kernel_rfl) (fun _ _ _ h => h) (Or.inl ⟨by rfl, ?_⟩) (by assumption) ?_
      rotate_left
      · intro w hSw; (try dsimp only at hSw); go_simp; try with_reducible rfl
      try simp only [Act.put, List.setIfInBounds_toArray, List.set_cons_zero, List.set_cons_succ]
      refine wpAnyH_done (by kernel_rfl) (NoPanic.normal ?_) _
      go_wp2_with fail
      exact bodyPost_rowTmp rfl (w.heap.size + 1) #[.int .i64 g, .int .i64 q, .int .i64 s, .int .i64 La, .slice xa n xc, .bool hv, .int .i64 s, .int .i64 ep, .string bl] _ rfl rfl rfl HD2.out.z _ Try.underlying33 rfl (by kernel_rfl) ⟨_, rfl, HRD.out _ (HI.out.below HD2.out.b), HD2.out.b⟩
  · subst he
    obtain rfl : R = ((g, q, (s, ep, bl), l), errF 190) := by rw [← HR.out]; rfl
    clear HR
    go_wp2_with fail
    try rw [hW1]
    obtain ⟨gf, hgf⟩ : ∃ gf, V.heap.size = gf := ⟨_, rfl⟩
    rw [hgf] at HS ⊢
    clear hW1 hgf CS CAP CGV CKP
    clear a0 a1 a2 a3 a4 a5 a6 a7 a8 f0 f1 f2 f3 f4 f5 f6 f7
    have HD0 : Hid (HrS w #[.int .i64 g, .int .i64 q, .int .i64 s, .int .i64 La, .slice xa n xc, .bool hv, .int .i64 s, .int .i64 ep, .string bl] #[.int .i64 0, .int .i64 0, .int .i64 0, .int .i64 0, .slice none 0 0, .bool false, .int .i64 0, .int .i64 0, .string ⟨#[]⟩] #[.int .i64 Kd, .int .i64 G, .int .i64 S, .int .i64 E, .int .i64 M, .string B, .slice fa n0 fc, .int .i64 er] gf W1.drew) := HS.out.on (Below.refl _ _).drew
    have hS0 := HD0.out.cells
    refine wp_region_noPanic ?_
    refine wp_region_held_drew (S := fun W => (W.cell? ⟨w.heap.size, 0, none⟩ = some (.int .i64 g) ∧ W.cell? ⟨w.heap.size, 1, none⟩ = some (.int .i64 q) ∧ W.cell? ⟨w.heap.size, 2, none⟩ = some (.int .i64 s) ∧ W.cell? ⟨w.heap.size, 3, none⟩ = some (.int .i64 La) ∧ W.cell? ⟨w.heap.size, 4, none⟩ = some (.slice xa n xc) ∧ W.cell? ⟨w.heap.size, 5, none⟩ = some (.bool hv) ∧ W.cell? ⟨w.heap.size, 6, none⟩ = some (.int .i64 s) ∧ W.cell? ⟨w.heap.size, 7, none⟩ = some (.int .i64 ep) ∧ W.cell? ⟨w.heap.size, 8, none⟩ = some (.string bl)) ∧ (W.cell? ⟨gf, 0, none⟩ = some (.int .i64 Kd) ∧ W.cell? ⟨gf, 1, none⟩ = some (.int .i64 G) ∧ W.cell? ⟨gf, 2, none⟩ = some (.int .i64 S) ∧ W.cell? ⟨gf, 3, none⟩ = some (.int .i64 E) ∧ W.cell? ⟨gf, 4, none⟩ = some (.int .i64 M) ∧ W.cell? ⟨gf, 5, none⟩ = some (.string B) ∧ W.cell? ⟨gf, 6, none⟩ = some (.slice fa n0 fc) ∧ W.cell? ⟨gf, 7, none⟩ = some (.int .i64 er))) (by kernel_rfl) (by first | exact trivial | assumption | exact ⟨by assumption, by assumption⟩) (fun hHeld => ?_)
    refine take_at (i := 0) (v := ?_) rfl rfl (by kernel_rfl) (by kernel_rfl) (by kernel_rfl) (fun _ _ _ h => h) (Or.inl ⟨by rfl, ?_⟩) (by assumption) ?_
    rotate_left
    · intro w hSw; (try dsimp only at hSw); go_simp; try with_reducible rfl
    try simp only [Act.put, List.setIfInBounds_toArray, List.set_cons_zero, List.set_cons_succ]
    refine take_at (i := 1) (v := ?_) rfl rfl (by kernel_rfl) (by kernel_rfl) (by kernel_rfl) (fun _ _ _ h => h) (Or.inl ⟨by rfl, ?_⟩) (by assumption) ?_
    rotate_left
    · intro w hSw; (try dsimp only at hSw); go_simp; try with_reducible rfl
    try simp only [Act.put, List.setIfInBounds_toArray, List.set_cons_zero, List.set_cons_succ]
    refine take_at (i := 2) (v := ?_) rfl rfl (by kernel_rfl) (by kernel_rfl) (by kernel_rfl) (fun _ _ _ h => h) (Or.inl ⟨by rfl, ?_⟩) (by assumption) ?_
    rotate_left
    · intro w hSw; (try dsimp only at hSw); go_simp; try with_reducible rfl
    try simp only [Act.put, List.setIfInBounds_toArray, List.set_cons_zero, List.set_cons_succ]
    refine wpAnyH_ready (rs := [3]) (by kernel_rfl) (by simp) ?_
    refine AllReadyH.cons rfl (fun K hK => ?_) AllReadyH.nil
    go_simp
    refine (CE.out 190 _).mono ?_
    rintro e V ⟨rfl, hb⟩
    have HD1 : Hid (HrS w #[.int .i64 g, .int .i64 q, .int .i64 s, .int .i64 La, .slice xa n xc, .bool hv, .int .i64 s, .int .i64 ep, .string bl] #[.int .i64 0, .int .i64 0, .int .i64 0, .int .i64 0, .slice none 0 0, .bool false, .int .i64 0, .int .i64 0, .string ⟨#[]⟩] #[.int .i64 Kd, .int .i64 G, .int .i64 S, .int .i64 E, .int .i64 M, .string B, .slice fa n0 fc, .int .i64 er] gf V) := HD0.out.on hb
    clear hb HD0
    refine hK.out _ _ HD1.out.cells (fun hHeld => ?_)
    clear hK K
    refine wpAnyH_ready (rs := [4]) (by kernel_rfl) (by simp) ?_
    refine AllReadyH.cons rfl (fun K hK => ?_) AllReadyH.nil
    refine step_storeRow rfl rfl 33 _ _ rfl (w.heap.size + 1) #[.int .i64 0, .int .i64 0, .int .i64 0, .int .i64 0, .slice none 0 0, .bool false, .int .i64 0, .int .i64 0, .string ⟨#[]⟩] #[.int .i64 g, .int .i64 q, .int .i64 s, .int .i64 La, .slice xa n xc, .bool hv, .int .i64 s, .int .i64 ep, .string bl] (by with_unfolding_all rfl) (by with_unfolding_all rfl) HD1.out.z rfl (by kernel_rfl) (by simp [Value.oneCell']) ?_
    have HD2 : Hid (HrS w #[.int .i64 g, .int .i64 q, .int .i64 s, .int .i64 La, .slice xa n xc, .bool hv, .int .i64 s, .int .i64 ep, .string bl] #[.int .i64 g, .int .i64 q, .int .i64 s, .int .i64 La, .slice xa n xc, .bool hv, .int .i64 s, .int .i64 ep, .string bl] #[.int .i64 Kd, .int .i64 G, .int .i64 S, .int .i64 E, .int .i64 M, .string B, .slice fa n0 fc, .int .i64 er] gf (V.setRow (w.heap.size + 1) #[.int .i64 g, .int .i64 q, .int .i64 s, .int .i64 La, .slice xa n xc, .bool hv, .int .i64 s, .int .i64 ep, .string bl])) := HD1.out.setZ _
    clear HD1
    refine hK.out _ _ HD2.out.cells (fun hHeld => ?_)
    clear hK K
    refine take_at (i := 5) (v := ?_) rfl rfl (by kernel_rfl) (by kernel_rfl) (by kernel_rfl) (fun _ _ _ h => h) (Or.inl ⟨by rfl, ?_⟩) (by assumption) ?_
    rotate_left
    · intro w hSw; (try dsimp only at hSw); go_simp; try with_reducible rfl
    try simp only [Act.put, List.setIfInBounds_toArray, List.set_cons_zero, List.set_cons_succ]
    refine wpAnyH_done (by kernel_rfl) (NoPanic.normal ?_) _
    go_wp2_with fail
    exact bodyPost_rowTmp rfl (w.heap.size + 1) #[.int .i64 g, .int .i64 q, .int .i64 s, .int .i64 La, .slice xa n xc, .bool hv, .int .i64 s, .int .i64 ep, .string bl] _ rfl rfl rfl HD2.out.z _ Try.underlying33 rfl (by kernel_rfl) ⟨_, rfl, HRD.out _ (HI.out.below HD2.out.b), HD2.out.b⟩
end Go.Proofs.Ytkmdajenbidaaaa

/- A row of frames among a law's parameters. -/
namespace Go.Proofs.Ytkmdajenbidaaaa
open Go.ChangeShapes Go.WideShapes Go.RowKit
set_option linter.unusedSimpArgs false
set_option linter.unusedVariables false

theorem slice_cell {H : Type} {enc : TypeId × Value → H} {P : Program} {w : World} {base : Nat} {held : Bool} {t e : TypeId} {n : Nat} {c : Value} {y : DataW H × List MemPlace} (ht : P.underlying t = some (.slice e)) (h : DataW.trod enc P w base (fun _ => true) held n t [c] = some y) :
    ∃ a len cap, c = .slice a len cap ∧ DataW.Trod enc P w base (fun _ => true) held t (.slice a len cap) y.1 y.2 := by
  rcases Go.Deep.open_slice ht h with ⟨hcs, _⟩ | ⟨x, l, cp, m, k, D, Pl, hcs, _⟩
  · simp at hcs
    subst hcs
    exact ⟨none, 0, 0, rfl, n, by simpa [Value.cells] using h⟩
  · simp at hcs
    subst hcs
    exact ⟨_, _, _, rfl, n, by simpa [Value.cells] using h⟩

theorem cap_of {H : Type} {enc : TypeId × Value → H} {P : Program} {w : World} {base : Nat} {held : Bool} {t e : TypeId} {a : Option Addr} {len cap : Nat} {d : DataW H} {p : List MemPlace} (ht : P.underlying t = some (.slice e))
    (h : DataW.Trod enc P w base (fun _ => true) held t (.slice a len cap) d p) : cap ≤ maxLen := by
  obtain ⟨fuel, hf⟩ := h
  rcases Go.Deep.open_slice ht hf with ⟨hcs, _⟩ | ⟨x, n, cp, m, k, D, Pl, hcs, hb, hl, hm, hmm, _, hx⟩
  · simp [Value.cells] at hcs
    obtain ⟨rfl, rfl, rfl⟩ := hcs
    exact Nat.zero_le _
  · simp [Value.cells] at hcs
    obtain ⟨rfl, rfl, rfl⟩ := hcs
    exact hm

theorem itL_get0 (l : List (Int × Int × ByteArray)) (i : Nat) (h : i < l.length) : itL l i = l[i] := by
  unfold itL; rw [List.getD_eq_getElem?_getD, List.getElem?_eq_getElem h]; rfl

theorem item_cells {H : Type} {enc : TypeId × Value → H} {w : World} {base : Nat} {spare : Nat → Bool} {held : Bool} {fuel : Nat} {cs : List Value} {x : DataW H × List MemPlace} (h : DataW.trod enc Try.prog w base spare held fuel 31 cs = some x) :
    ∃ q : Int × Int × ByteArray, cs = [.int .i64 q.1, .int .i64 q.2.1, .string q.2.2] ∧ q.2.2.size ≤ maxLen := by
  have hl := struct_len Try.underlying31 h
  obtain ⟨n0, y0, h0⟩ := field_of Try.underlying31 h 0 3 0 1 rfl Try.cInt
  obtain ⟨n1, y1, h1⟩ := field_of Try.underlying31 h 1 3 1 1 rfl Try.cInt
  obtain ⟨n4, y4, h4⟩ := field_of Try.underlying31 h 2 9 2 1 rfl Try.cStr
  obtain ⟨k, hk, wk⟩ := cell_int Try.underlying3 h0
  obtain ⟨m, hm, wm⟩ := cell_int Try.underlying3 h1
  obtain ⟨s, hs, ws⟩ := cell_str Try.underlying9 h4
  rw [show Try.prog.cellsOf 31 = 3 by kernel_rfl] at hl
  match cs, hl with
  | [v0, v1, v2], _ =>
    have e0 : v0 = .int .i64 k := by simpa using hk
    have e1 : v1 = .int .i64 m := by simpa using hm
    have e4 : v2 = .string s := by simpa using hs
    exact ⟨(k, m, s), by rw [e0, e1, e4], ws⟩

theorem its_of {H : Type} {enc : TypeId × Value → H} {w : World} {base : Nat} {held : Bool} {a : Option Addr} {len cap : Nat} {d : DataW H} {p : List MemPlace} (h : DataW.Trod enc Try.prog w base (fun _ => true) held 29 (.slice a len cap) d p) :
    ∃ l, ItsAt w a len l ∧ len ≤ maxLen ∧ (∀ i, (itL l i).2.2.size ≤ maxLen) ∧ (SliceOk a len cap ∧ cap ≤ maxLen) := by
  have hok := And.intro (slice_of Try.underlying29 h) (cap_of Try.underlying29 h)
  obtain ⟨hm, h0 | ⟨b, off, rfl, hr⟩⟩ := rows_of (c := 3) Try.underlying29 (by kernel_rfl) (by decide) h
  · refine ⟨List.replicate len (0, 0, ByteArray.empty), ⟨by simp, .inl h0⟩, hm, fun i => ?_, hok⟩
    subst h0
    exact Nat.zero_le _
  · obtain ⟨l, hl, hR⟩ := choose_list (n := len) (R := fun i (q : Int × Int × ByteArray) => (∀ j, j < 3 → w.cell? ⟨b, off + i * 3 + j, none⟩ = [Value.int .i64 q.1, Value.int .i64 q.2.1, Value.string q.2.2][j]?) ∧ q.2.2.size ≤ maxLen) (fun i hi => by
      obtain ⟨n, x, cs, hcl, hcell, hx⟩ := hr i hi
      obtain ⟨q, rfl, hq⟩ := item_cells hx
      refine ⟨q, fun j hj => ?_, hq⟩
      rw [Nat.add_assoc, hcell j hj])
    refine ⟨l, ⟨hl, .inr ⟨b, off, rfl, fun i hi => ?_⟩⟩, hm, fun i => ?_, hok⟩
    · have e : itL l i = l[i]'(by omega) := itL_get0 l i (by omega)
      rw [e]
      have h1 := (hR i (by omega)).1
      exact ⟨h1 0 (by decide), h1 1 (by decide), h1 2 (by decide)⟩
    · by_cases hi : i < l.length
      · rw [itL_get0 l i hi]
        exact (hR i hi).2
      · unfold itL
        rw [List.getD_eq_getElem?_getD, List.getElem?_eq_none (by omega)]
        exact Nat.zero_le _

set_option maxRecDepth 100000 in
/-- A frame's cells. -/
theorem frame_cells {H : Type} {enc : TypeId × Value → H} {w : World} {base : Nat} {held : Bool} {fuel : Nat} {cs : List Value} {x : DataW H × List MemPlace} (hx : DataW.trod enc Try.prog w base (fun _ => true) held fuel 39 cs = some x) :
    ∃ (F : FrmT) (a : Option Addr) (c : Nat), cs = (frmA F a c).toList ∧ ItsAt w a F.2.2.2.2.2.2.1.length F.2.2.2.2.2.2.1 ∧ F.2.2.2.2.2.2.1.length ≤ maxLen ∧ (∀ i, (itL F.2.2.2.2.2.2.1 i).2.2.size ≤ maxLen) ∧ (SliceOk a F.2.2.2.2.2.2.1.length c ∧ c ≤ maxLen) ∧ F.2.2.2.2.2.1.size ≤ maxLen := by
  have hl := struct_len Try.underlying39 hx
  obtain ⟨n0, y0, h0⟩ := field_of Try.underlying39 hx 0 3 0 1 rfl Try.cInt
  obtain ⟨n1, y1, h1⟩ := field_of Try.underlying39 hx 1 3 1 1 rfl Try.cInt
  obtain ⟨n2, y2, h2⟩ := field_of Try.underlying39 hx 2 3 2 1 rfl Try.cInt
  obtain ⟨n3, y3, h3⟩ := field_of Try.underlying39 hx 3 3 3 1 rfl Try.cInt
  obtain ⟨n4, y4, h4⟩ := field_of Try.underlying39 hx 4 3 4 1 rfl Try.cInt
  obtain ⟨n5, y5, h5⟩ := field_of Try.underlying39 hx 5 9 5 1 rfl Try.cStr
  obtain ⟨n6, y6, h6⟩ := field_of Try.underlying39 hx 6 29 6 1 rfl (by kernel_rfl)
  obtain ⟨n7, y7, h7⟩ := field_of Try.underlying39 hx 7 26 7 1 rfl (by kernel_rfl)
  obtain ⟨K, hK, _⟩ := cell_int Try.underlying3 h0
  obtain ⟨G, hG, _⟩ := cell_int Try.underlying3 h1
  obtain ⟨S, hS, _⟩ := cell_int Try.underlying3 h2
  obtain ⟨E, hE, _⟩ := cell_int Try.underlying3 h3
  obtain ⟨M, hM, _⟩ := cell_int Try.underlying3 h4
  obtain ⟨bl, hbl, wbl⟩ := cell_str Try.underlying9 h5
  obtain ⟨er, her, _⟩ := cell_int Try.underlying26 h7
  rw [show Try.prog.cellsOf 39 = 8 by kernel_rfl] at hl
  match cs, hl with
  | [v0, v1, v2, v3, v4, v5, v6, v7], _ =>
    have h6' : DataW.trod enc Try.prog w base (fun _ => true) held n6 29 [v6] = some y6 := by simpa using h6
    obtain ⟨a, len, c, rfl, k⟩ := slice_cell Try.underlying29 h6'
    obtain ⟨l, l1, l2, l3, l4⟩ := its_of k
    have ln : l.length = len := l1.1
    subst ln
    have e0 : v0 = .int .i64 K := by simpa using hK
    have e1 : v1 = .int .i64 G := by simpa using hG
    have e2 : v2 = .int .i64 S := by simpa using hS
    have e3 : v3 = .int .i64 E := by simpa using hE
    have e4 : v4 = .int .i64 M := by simpa using hM
    have e5 : v5 = .string bl := by simpa using hbl
    have e7 : v7 = .int .i64 er := by simpa using her
    refine ⟨(K, G, S, E, M, bl, l, er), a, c, ?_, l1, l2, l3, l4, wbl⟩
    rw [e0, e1, e2, e3, e4, e5, e7]
    rfl


/-- A frame that lies in a row: itself, and its items' row. -/
abbrev FrxT := FrmT × Option Addr × Nat
def frL (L : List FrxT) (i : Nat) : FrxT := L.getD i (frm0, none, 0)
structure FrxOk (w : World) (x : FrxT) : Prop where
  at' : ItsAt w x.2.1 x.1.2.2.2.2.2.2.1.length x.1.2.2.2.2.2.2.1
  n : x.1.2.2.2.2.2.2.1.length ≤ maxLen
  z : ∀ i, (itL x.1.2.2.2.2.2.2.1 i).2.2.size ≤ maxLen
  ok : SliceOk x.2.1 x.1.2.2.2.2.2.2.1.length x.2.2
  c : x.2.2 ≤ maxLen
  b : x.1.2.2.2.2.2.1.size ≤ maxLen

def FrsAt (w : World) (a : Option Addr) (n : Nat) (L : List FrxT) : Prop :=
  n = 0 ∨ ∃ b off, a = some ⟨b, off, none⟩ ∧ ∀ i, i < n → (∀ j, j < 8 → w.cell? ⟨b, off + i * 8 + j, none⟩ = (frmA (frL L i).1 (frL L i).2.1 (frL L i).2.2)[j]?) ∧ FrxOk w (frL L i)

theorem FrsAt.below {w w' : World} {a : Option Addr} {n : Nat} {L : List FrxT} (h : FrsAt w a n L) (hb : Below w.heap.size w w') : FrsAt w' a n L := by
  refine h.imp id (fun ⟨b, off, e, hc⟩ => ⟨b, off, e, fun i hi => ?_⟩)
  obtain ⟨h1, h2⟩ := hc i hi
  refine ⟨fun j hj => ?_, ⟨h2.at'.below hb, h2.n, h2.z, h2.ok, h2.c, h2.b⟩⟩
  have h3 := h1 j hj
  obtain ⟨u, hu⟩ : ∃ u, (frmA (frL L i).1 (frL L i).2.1 (frL L i).2.2)[j]? = some u := ⟨_, Array.getElem?_eq_getElem (by show j < 8; exact hj)⟩
  rw [hu] at h3 ⊢
  rw [hb.cell (World.block_lt_of_cell? w _ h3)]
  exact h3

theorem frames_of {H : Type} {enc : TypeId × Value → H} {w : World} {base : Nat} {held : Bool} {a : Option Addr} {len cap : Nat} {d : DataW H} {p : List MemPlace} (h : DataW.Trod enc Try.prog w base (fun _ => true) held 23 (.slice a len cap) d p) :
    ∃ L, FrsAt w a len L ∧ len ≤ maxLen := by
  obtain ⟨hm, h0 | ⟨b, off, rfl, hr⟩⟩ := rows_of (c := 8) Try.underlying23 (by kernel_rfl) (by decide) h
  · exact ⟨[], .inl h0, hm⟩
  · obtain ⟨L, hl, hR⟩ := choose_list (n := len) (R := fun i (q : FrxT) => (∀ j, j < 8 → w.cell? ⟨b, off + i * 8 + j, none⟩ = (frmA q.1 q.2.1 q.2.2)[j]?) ∧ FrxOk w q) (fun i hi => by
      obtain ⟨n, x, cs, hcl, hcell, hx⟩ := hr i hi
      obtain ⟨F, fa, fc, rfl, k1, k2, k3, k4, k5⟩ := frame_cells hx
      refine ⟨(F, fa, fc), fun j hj => ?_, ⟨k1, k2, k3, k4.1, k4.2, k5⟩⟩
      rw [Nat.add_assoc, hcell j hj]
      simp)
    refine ⟨L, .inr ⟨b, off, rfl, fun i hi => ?_⟩, hm⟩
    have e : frL L i = L[i]'(by omega) := by unfold frL; rw [List.getD_eq_getElem?_getD, List.getElem?_eq_getElem (by omega)]; rfl
    rw [e]
    exact hR i (by omega)

end Go.Proofs.Ytkmdajenbidaaaa

/- RelayPlays: what holds ahead of a round. -/
namespace Go.Proofs.Ytkmdajenbidaaaa
open Go.RowKit
set_option maxRecDepth 100000
set_option linter.unusedSimpArgs false
set_option linter.unusedVariables false

/-- Both relays: the code's at the first block of the call's own, the document's as a value in the block hq, their rows apart. -/
structure PlS (w : World) (hq : Nat) (X : RlT) (v : Value) (xa : Option Addr) (xc : Nat) (W : World) : Prop where
  bel : Below w.heap.size w W
  rel : RlAt W w.heap.size v X
  own : ∀ k, v.ownBlock = some k → w.heap.size ≤ k
  q : Blk W 33 hq (rdA X xa xc)
  lq : w.heap.size < hq
  r : ItsAt W xa X.2.2.2.length X.2.2.2
  ok : SliceOk xa X.2.2.2.length xc
  ag : Av xa X.2.2.2.length w.heap.size
  av : ∀ k, v.ownBlock = some k → Av xa X.2.2.2.length k
  aq : Av xa X.2.2.2.length hq

theorem PlS.on {w W W' : World} {hq : Nat} {X : RlT} {v : Value} {xa : Option Addr} {xc : Nat} (h : PlS w hq X v xa xc W) (hb : Below W.heap.size W W') : PlS w hq X v xa xc W' :=
  ⟨below_step h.bel (Nat.le_refl _) hb, h.rel.on hb, h.own, h.q.on hb, h.lq, h.r.below hb, h.ok, h.ag, h.av, h.aq⟩

/-- The document's next relay, ahead of the code's doing: its value, in a block of its own; its row. -/
structure PnS (w : World) (hq hn : Nat) (X X' : RlT) (v : Value) (xa xb : Option Addr) (xc xd : Nat) (W : World) : Prop where
  p : PlS w hq X v xa xc W
  n : Blk W 33 hn (rdA X' xb xd)
  ln : hq < hn
  r : ItsAt W xb X'.2.2.2.length X'.2.2.2
  ok : SliceOk xb X'.2.2.2.length xd
  ag : Av xb X'.2.2.2.length w.heap.size
  av : ∀ k, v.ownBlock = some k → Av xb X'.2.2.2.length k
  aq : Av xb X'.2.2.2.length hq

theorem PnS.on {w W W' : World} {hq hn : Nat} {X X' : RlT} {v : Value} {xa xb : Option Addr} {xc xd : Nat} (h : PnS w hq hn X X' v xa xb xc xd W) (hb : Below W.heap.size W W') : PnS w hq hn X X' v xa xb xc xd W' :=
  ⟨h.p.on hb, h.n.on hb, h.ln, h.r.below hb, h.ok, h.ag, h.av, h.aq⟩

/-- What the document's Hear gave is stored behind. -/
theorem PlS.next {w W W' : World} {hq : Nat} {X X' : RlT} {v u : Value} {xa : Option Addr} {xc : Nat} (h : PlS w hq X v xa xc W) (hb : Below W.heap.size W W') (hr : RdTo W xa X.2.2.2.length W' u X') :
    ∃ xb xd, u = .agg (rdA X' xb xd) ∧ PnS w hq W'.heap.size X X' v xa xb xc xd (W'.alloc (.cells (rdA X' xb xd) 33)) := by
  obtain ⟨xb, xd, rfl, h1, h2, h3⟩ := hr
  have hp := h.on hb
  refine ⟨xb, xd, rfl, hp.on (below_new _ _), Blk.new _ _ _, hp.q.lt, h1.below (below_new _ _), h2, h3 _ h.rel.lt h.ag, fun k hk => h3 _ (World.ownsRow.lt h.rel.own k hk).2 (h.av k hk), h3 _ h.q.lt h.aq⟩

theorem its_kept {w w' : World} {g : Nat} {r : Option Nat} {a : Option Addr} {n : Nat} {l : List ItT} (h : ItsAt w a n l) (hk : Kept2 g r w w') (hg : Av a n g) (hr : ∀ k, r = some k → Av a n k) : ItsAt w' a n l := by
  rcases h.2 with h0 | ⟨b, off, rfl, hc⟩
  · exact ⟨h.1, .inl h0⟩
  · by_cases h0 : n = 0
    · exact ⟨h.1, .inl h0⟩
    · have hbw : b < w.heap.size := World.block_lt_of_cell? w _ (hc 0 (by omega)).1
      have h1 : b ≠ g := hg.resolve_left h0 _ rfl
      have h2 : some b ≠ r := fun e => (hr b e.symm).resolve_left h0 _ rfl rfl
      have hh : w'.heap[b]? = w.heap[b]? := hk.block b hbw h1 h2
      have hkk : ∀ j, w'.cell? ⟨b, j, none⟩ = w.cell? ⟨b, j, none⟩ := fun j => by
        unfold World.cell?
        simp only [hh]
      exact ⟨h.1, .inr ⟨b, off, rfl, fun i hi => by rw [hkk, hkk, hkk]; exact hc i hi⟩⟩

/-- The code has heard it, too; the document's next one is copied over the last one. -/
theorem PnS.heard {w W W' : World} {hq hn : Nat} {X X' : RlT} {v : Value} {xa xb : Option Addr} {xc xd : Nat} (h : PnS w hq hn X X' v xa xb xc xd W) (ht : RlTo W w.heap.size v X' W') :
    Blk W' 33 hn (rdA X' xb xd) ∧ Blk W' 33 hq (rdA X xa xc) ∧ ∃ v', PlS w hq X' v' xb xd (W'.setRow hq (rdA X' xb xd)) := by
  obtain ⟨v', k1, k2, k3⟩ := ht
  have hne : ∀ c cs, Blk W 33 c cs → some c ≠ v.ownBlock := fun c cs hc e => by
    rcases h.p.rel.own.blk with ⟨e1, _⟩ | ⟨g', cap, cur, e1, _, hb', _⟩
    · rw [e1] at e; cases e
    · rw [e1] at e
      have e2 : c = g' := by injection e
      subst e2
      have := blk_types hc hb'
      revert this
      decide
  have hlq := h.p.lq
  have hln := h.ln
  have hq' : Blk W' 33 hq (rdA X xa xc) := h.p.q.kept k2 (by omega) (hne _ _ h.p.q)
  have hn' : Blk W' 33 hn (rdA X' xb xd) := h.n.kept k2 (by omega) (hne _ _ h.n)
  have hr' : ItsAt W' xb X'.2.2.2.length X'.2.2.2 := its_kept h.r k2 h.ag h.av
  have hov : v'.ownBlock ≠ some hq := fun e => by
    rcases k1.own.blk with ⟨e1, _⟩ | ⟨g', cap, cur, e1, _, hb', _⟩
    · rw [e1] at e; cases e
    · rw [e1] at e
      have e2 : g' = hq := by injection e
      subst e2
      have := blk_types hq' hb'
      revert this
      decide
  refine ⟨hn', hq', v', ?_⟩
  refine ⟨below_setRow (h.p.bel.trans (k2.below _ h.p.bel.size (Nat.le_refl _) h.p.own)) (by omega) _, k1.setRow hq (by omega) hov _, fun k hk => ?_, hq'.setRow _, hlq, its_row hr' hq _ h.aq, h.ok, h.ag, fun k hk => ?_, h.aq⟩
  · rcases k3 k hk with e | e
    · exact h.p.own k e
    · exact Nat.le_trans h.p.bel.size e
  · rcases k3 k hk with e | e
    · exact h.av k e
    · exact av_old h.r k e

end Go.Proofs.Ytkmdajenbidaaaa
