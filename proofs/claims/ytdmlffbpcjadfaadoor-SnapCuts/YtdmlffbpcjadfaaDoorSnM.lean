import Derived.Test.YtdmlffbpcjadfaaDoorSnL
import Derived.Test.YtdmlffbpcjadfaaDoorSnI
import Derived.Test.YtdmlffbpcjadfaaDoorTmPl
/- Take of what is no tree's; the document's trees, made of operations (layer 13). -/
namespace Go.Proofs.YtdmlffbpcjadfaaDoor
open Go.RowKit
set_option linter.unusedSimpArgs false

/-- Bytes as which no tree is put are none's. -/
theorem take_no (M : OpT → Bool) (hM : ∀ o, M o = true ↔ MayO o) (s : ByteArray) (w : World) (hs : s.size ≤ 65536) (hG : Glob8 w) (hno : ∀ x D E, putSP M D E x ≠ (s, 0)) : Calls Tryd.prog 10 #[.string s] w fun e w' => e = .returned (.tuple #[.agg #[.slice none 0 0, .slice none 0 0, .int .i64 0, .int .i64 0], .int .i64 91]) ∧ Below w.heap.size w w' := by
  obtain ⟨⟨l, ops, b1, b2⟩, hx⟩ : ∃ x, readSC s = x := ⟨_, rfl⟩
  obtain ⟨D, hD⟩ : ∃ D : Bool, D = true ↔ (l.length ≤ 512 ∧ RiseN l ∧ (∀ k, k < l.length → FixH (b1, b2) (nL l k)) ∧ FixC l) := ⟨@decide (l.length ≤ 512 ∧ RiseN l ∧ (∀ k, k < l.length → FixH (b1, b2) (nL l k)) ∧ FixC l) (Classical.propDecidable _), by simp⟩
  obtain ⟨E, hE⟩ : ∃ E : Bool, E = true ↔ RiseO ops := ⟨@decide (RiseO ops) (Classical.propDecidable _), by simp⟩
  obtain ⟨⟨P, Er⟩, hP⟩ : ∃ p, putSP M D E (l, ops, (b1, b2)) = p := ⟨_, rfl⟩
  have hc : Er ≠ 0 ∨ P ≠ s := by
    by_cases h1 : Er = 0
    · exact .inr fun h2 => hno _ _ _ (hP.trans (by rw [h1, h2]))
    · exact .inl h1
  refine (take_any M hM s w hs hG l ops b1 b2 hx D E hD hE P Er hP).mono ?_
  rintro e w' ⟨hb, hX⟩
  obtain ⟨a1, c1, a2, c2, _, _, rfl⟩ := hX
  rw [if_pos hc, if_pos hc]
  exact ⟨rfl, hb⟩

theorem TreeG.shape3 {F : Nat → Prop} {w : World} {v : Value} {t : TreeT} (h : TreeG F w v t) : ∃ a1 n1 c1 a2 n2 c2 b1 b2, v = .agg #[.slice a1 n1 c1, .slice a2 n2 c2, .int .i64 b1, .int .i64 b2] := by
  obtain ⟨a1, c1, a2, c2, h, _⟩ := h
  exact ⟨a1, _, c1, a2, _, c2, _, _, h⟩

theorem keptF_row3 {F : Nat → Prop} (w : World) (hx : Nat) (cs : Array Value) (h : F hx) : KeptF F w (w.setRow hx cs) := (KeptF.refl F w).grown (grown_setRow w hx cs) (fun j e _ => by cases e; exact h)

theorem TreeG.fewer3 {F G : Nat → Prop} {w : World} {v : Value} {t : TreeT} (h : TreeG F w v t) (hG : ∀ k, G k → F k) : TreeG G w v t := by
  obtain ⟨a1, c1, a2, c2, h1, h2, h3, h4, h5, h6⟩ := h
  exact ⟨a1, c1, a2, c2, h1, h2, h3, h4, fun hn x hx hk => h5 hn x hx (hG _ hk), fun hn x hx hk => h6 hn x hx (hG _ hk)⟩

theorem TreeG.more3 {F : Nat → Prop} {w : World} {v : Value} {t : TreeT} (h : TreeG F w v t) (hx : Nat) (hw : w.heap.size ≤ hx) : TreeG (fun k => F k ∨ k = hx) w v t := by
  obtain ⟨a1, c1, a2, c2, h1, h2, h3, h4, h5, h6⟩ := h
  have far : ∀ {n c : Nat} {a : Option Addr} {f : Nat → Array Value}, 0 < c → RowsAt w a n c f → Far F n a → Far (fun k => F k ∨ k = hx) n a := fun {n c a f} hc hr hF hn x hxx hk => by
    rcases hk with hk | hk
    · exact hF hn x hxx hk
    · rcases hr with h0 | ⟨b, off, ha, hcc⟩
      · omega
      · obtain ⟨u, _, h2⟩ := hcc 0 hn 0 hc
        have := World.block_lt_of_cell? w _ h2
        rw [hxx] at ha
        cases ha
        simp only at hk this
        omega
  exact ⟨a1, c1, a2, c2, h1, h2, h3, h4, far (by decide) h2.2 h5, far (by decide) h3.2 h6⟩

/-- The document's tree, and its cell. -/
structure CuS (w W : World) (T : TreeT) (cs : Array Value) (hq : Nat) : Prop where
  tg : TreeG (fun k => k = hq) W (.agg cs) T
  q : Blk W 27 hq cs
  bel : Below w.heap.size w W
  low : w.heap.size ≤ hq

theorem CuS.on {w W W' : World} {T : TreeT} {cs : Array Value} {hq : Nat} (h : CuS w W T cs hq) (hb : Below W.heap.size W W') : CuS w W' T cs hq := ⟨h.tg.on hb, h.q.on hb, below_step h.bel (Nat.le_refl _) hb, h.low⟩

theorem CuS.next {w W : World} {T T' : TreeT} {cs cs' : Array Value} {hq : Nat} (h : CuS w W T cs hq) (hG : TreeG (fun k => k = hq) W (.agg cs') T') : CuS w (W.setRow hq cs') T' cs' hq := ⟨hG.kept (keptF_row3 W hq cs' rfl), h.q.setRow _, below_setRow h.bel h.low _, h.low⟩

theorem CuS.cells {w W : World} {T : TreeT} {hq n1 n2 c1 c2 : Nat} {a1 a2 : Option Addr} {b1 b2 : Int} (h : CuS w W T #[.slice a1 n1 c1, .slice a2 n2 c2, .int .i64 b1, .int .i64 b2] hq) : W.cell? ⟨hq, 0, none⟩ = some (.slice a1 n1 c1) ∧ W.cell? ⟨hq, 1, none⟩ = some (.slice a2 n2 c2) ∧ W.cell? ⟨hq, 2, none⟩ = some (.int .i64 b1) ∧ W.cell? ⟨hq, 3, none⟩ = some (.int .i64 b2) := ⟨h.q.cell 0, h.q.cell 1, h.q.cell 2, h.q.cell 3⟩
end Go.Proofs.YtdmlffbpcjadfaaDoor
