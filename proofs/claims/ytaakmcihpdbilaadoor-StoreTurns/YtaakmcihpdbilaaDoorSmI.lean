/- Layer 18, the code's: write, its plain facts. -/
import Derived.Test.YtaakmcihpdbilaaDoorSmH
import Derived.Test.YtaakmcihpdbilaaDoorStI
namespace Go.Proofs.YtaakmcihpdbilaaDoor
open Go.RowKit
set_option maxRecDepth 100000
set_option linter.unusedSimpArgs false
set_option linter.unusedVariables false
set_option maxRecDepth 100000

theorem bt_tail18 (A : ByteArray) (n j : Nat) (h : A.size ≤ j) : bt (A ++ zeroB n) j = 0 := by
  obtain ⟨d, rfl⟩ : ∃ d, j = A.size + d := ⟨j - A.size, by omega⟩
  rw [bt_append_right, bt_noughts]
/-- What the code tells of block k of a text is its block, with noughts behind. -/
theorem fl18_blk (s : ByteArray) (k : Nat) (hk : k < (s.size + 63) / 64) : fl18 (s.extract (64 * k) (min (64 * k + 64) s.size)) = blkB (filB s) k := by
  have hz : (s.extract (64 * k) (min (64 * k + 64) s.size)).size = min (64 * k + 64) s.size - 64 * k := by rw [ByteArray.size_extract]; omega
  have hf : (filB s).size = 64 * ((s.size + 63) / 64) := filB_size s
  refine bt_ext _ _ ?_ (fun i hi => ?_)
  · rw [fl18_size _ (by rw [hz]; omega), blkB_size s k hk]
  · rw [fl18_size _ (by rw [hz]; omega)] at hi
    rw [blkB_bt s k i hi (by omega)]
    unfold fl18 filB
    by_cases h1 : 64 * k + i < s.size
    · rw [bt_append_left _ _ _ (by rw [hz]; omega), bt_append_left _ _ _ h1, bt_extract _ _ _ _ (by omega) (by omega)]
    · rw [bt_tail18 _ _ _ (by rw [hz]; omega), bt_tail18 _ _ _ (by omega)]
theorem blk_short (s : ByteArray) (k : Nat) : (s.extract (64 * k) (min (64 * k + 64) s.size)).size ≤ 64 := by rw [ByteArray.size_extract]; omega

theorem GlobB.other {w : World} {t : TypeId} {g : Nat} {cs : Array Value} {p : Option Addr} (h : GlobB w) (hg : Blk w t g cs) (hc : cs[0]? = some (.pointer p)) : 0 ≠ g := by
  intro e
  have h0 := h 0 (by decide)
  have h1 := hg.cell 0
  rw [← e, hc, h0] at h1
  cases h1
theorem GlobK.other {w : World} {t : TypeId} {g : Nat} {cs : Array Value} {p : Option Addr} (h : GlobK w) (hg : Blk w t g cs) (hc : cs[0]? = some (.pointer p)) : 1 ≠ g := by
  intro e
  have h0 := h 0 (by decide)
  have h1 := hg.cell 0
  rw [← e, hc, h0] at h1
  cases h1
theorem GlobB.otherRow {w : World} {b : Nat} {L : List ByteArray} (h : GlobB w) (hb : RowC w b L) (hl : 0 < L.length) : 0 ≠ b := by
  intro e
  obtain ⟨cs, h1, h2, h3⟩ := hb
  have h0 := h 0 (by decide)
  have h4 := h1.cell 0
  rw [h3 0 (by omega), ← e, h0] at h4
  cases h4
theorem GlobK.otherRow {w : World} {b : Nat} {L : List ByteArray} (h : GlobK w) (hb : RowC w b L) (hl : 0 < L.length) : 1 ≠ b := by
  intro e
  obtain ⟨cs, h1, h2, h3⟩ := hb
  have h0 := h 0 (by decide)
  have h4 := h1.cell 0
  rw [h3 0 (by omega), ← e, h0] at h4
  cases h4
theorem cell_same {w w' : World} {k i : Nat} (h : w'.heap[k]? = w.heap[k]?) : w'.cell? ⟨k, i, none⟩ = w.cell? ⟨k, i, none⟩ := by
  simp only [World.cell?, h]
theorem cell_lt {w : World} {k i : Nat} {v : Value} (h : w.cell? ⟨k, i, none⟩ = some v) : k < w.heap.size := by
  rcases Nat.lt_or_ge k w.heap.size with h' | h'
  · exact h'
  · simp [World.cell?, Array.getElem?_eq_none h'] at h
theorem GlobB.keptS {w w' : World} {T : Nat → Prop} (h : GlobB w) (hk : KeptS T w w') (hT : ¬ T 0) : GlobB w' := fun j hj => by
  rw [cell_same (hk.block _ (cell_lt (h j hj)) hT)]; exact h j hj
theorem GlobK.keptS {w w' : World} {T : Nat → Prop} (h : GlobK w) (hk : KeptS T w w') (hT : ¬ T 1) : GlobK w' := fun j hj => by
  rw [cell_same (hk.block _ (cell_lt (h j hj)) hT)]; exact h j hj

theorem KeptS.trans {T : Nat → Prop} {w w1 w2 : World} (h1 : KeptS T w w1) (h2 : KeptS T w1 w2) : KeptS T w w2 :=
  ⟨h2.os.trans h1.os, h2.tape.trans h1.tape, h2.output.trans h1.output, Nat.le_trans h1.size h2.size, fun k hk hn => by rw [h2.block k (Nat.lt_of_lt_of_le hk h1.size) hn]; exact h1.block k hk hn⟩
theorem KeptS.sub {T T' : Nat → Prop} {w w1 : World} (h : KeptS T w w1) (hT : ∀ k, T k → T' k) : KeptS T' w w1 := ⟨h.os, h.tape, h.output, h.size, fun k hk hn => h.block k hk (fun e => hn (hT k e))⟩
theorem KeptS.refl (T : Nat → Prop) (w : World) : KeptS T w w := ⟨rfl, rfl, rfl, Nat.le_refl _, fun _ _ _ => rfl⟩

/-- The blocks that a store on a device may turn. -/
def Tri (gs g b : Nat) : Nat → Prop := fun k => k = gs ∨ k = g ∨ k = b
/-- While blocks are written. -/
structure WrW (w W : World) (gs g b cw cf p : Nat) (D : DevT) (t : Int) (A : ByteArray) : Prop where
  d : DevAt W g b D
  s : Blk W 45 gs #[.pointer (some ⟨gs, 0, none⟩), .pointer (some ⟨g, 0, none⟩), .int .i64 t, .string A]
  t : TelS W cw cf g p
  k : KeptS (Tri gs g b) w W
theorem WrW.on {w W W' : World} {gs g b cw cf p : Nat} {D : DevT} {t : Int} {A : ByteArray} (h : WrW w W gs g b cw cf p D t A) (hb : Below W.heap.size W W') : WrW w W' gs g b cw cf p D t A :=
  ⟨h.d.on hb, h.s.on hb, h.t.on hb, h.k.trans ((KeptS.ofBelow hb).sub (fun _ e => e.elim))⟩
theorem WrW.to {w W W' : World} {gs g b cw cf p : Nat} {D D' : DevT} {t : Int} {A : ByteArray} (h : WrW w W gs g b cw cf p D t A) (hx : cw ≠ g ∧ cw ≠ b ∧ cf ≠ g ∧ cf ≠ b) (h1 : gs ≠ g) (h2 : gs ≠ b) (hd : DevTo W g b D' W') : WrW w W' gs g b cw cf p D' t A :=
  ⟨hd.1, h.s.kept hd.2 h1 (fun e => h2 (by cases e; rfl)), h.t.kept hd.2 hx.1 hx.2.1 hx.2.2.1 hx.2.2.2, h.k.trans ((KeptS.ofDev hd).sub (fun _ e => .inr e))⟩

theorem KeptS.ofKept {w w' : World} {g : Nat} (h : Kept2 g none w w') : KeptS (fun k => k = g) w w' := ⟨h.os, h.tape, h.output, h.size, fun k hk hn => h.block k hk hn (fun e => by cases e)⟩
theorem WrW.set {w W W' : World} {gs g b cw cf p : Nat} {D : DevT} {t : Int} {A : ByteArray} (h : WrW w W gs g b cw cf p D t A) (h1 : gs ≠ g) (h2 : gs ≠ b) (hk : Kept2 gs none W W') : DevAt W' g b D ∧ KeptS (Tri gs g b) w W' :=
  ⟨h.d.kept hk (fun e => h1 e.symm) (fun e => by cases e) (fun e => h2 e.symm) (fun e => by cases e), h.k.trans ((KeptS.ofKept hk).sub (fun _ e => .inl e))⟩

/-- What write leaves and answers. -/
def wrP18 (D : DevT) (turn : Nat) (A t : ByteArray) : DevT × Int :=
  if 32768 < t.size ∨ ¬ ((A.size + (t.size + 2) + 63) / 64 + 1 ≤ D.1.length / 2) then (D, 2) else writesP D turn (A.size / 64) (A ++ txB t)

end Go.Proofs.YtaakmcihpdbilaaDoor
