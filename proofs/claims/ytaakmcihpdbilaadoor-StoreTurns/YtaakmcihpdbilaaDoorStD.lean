/- Layer 18, plain: writes with the power on; measures of a device behind the calls. -/
import Derived.Test.YtaakmcihpdbilaaDoorStC
namespace Go.Proofs.YtaakmcihpdbilaaDoor
open Go.RowKit
set_option maxRecDepth 100000
set_option linter.unusedSimpArgs false
set_option maxRecDepth 100000

/-- The power is on, and there is no fuse. -/
def OnD (D : DevT) : Prop := D.2.2.1 = false ∧ D.2.1 = -1
theorem writeB_on (D : DevT) (k : Nat) (s : ByteArray) (h : OnD D) : (writeB D k s).2 = 0 ∧ OnD (writeB D k s).1 := by
  have e : writeB D k s = ((D.1.set k s, (if 0 < D.2.1 then D.2.1 - 1 else D.2.1), false, D.2.2.2 + 1), 0) := by
    unfold writeB
    rw [if_neg (by rintro (e | e); · rw [h.1] at e; cases e
                   · rw [h.2] at e; cases e)]
  rw [e]
  refine ⟨rfl, rfl, ?_⟩
  show (if 0 < D.2.1 then D.2.1 - 1 else D.2.1) = -1
  rw [h.2]; rfl
theorem wrsF_on (S : ByteArray) (p : Nat) : ∀ f i D, OnD D → (wrsF S p f i D).2 = 0 ∧ OnD (wrsF S p f i D).1
  | 0, _, _, h => ⟨rfl, h⟩
  | f + 1, i, D, h => by
    obtain ⟨h1, h2⟩ := writeB_on D (p + 1 + i) (blkB S i) h
    have e : wrsF S p (f + 1) i D = wrsF S p f (i + 1) (writeB D (p + 1 + i) (blkB S i)).1 := if_pos h1
    rw [e]
    exact wrsF_on S p f (i + 1) _ h2
theorem writesP_on (D : DevT) (turn m : Nat) (s : ByteArray) (h : OnD D) : (writesP D turn m s).2 = 0 ∧ OnD (writesP D turn m s).1 := by
  obtain ⟨h1, h2⟩ := wrsF_on (filB s) (turn % 2 * (D.1.length / 2)) ((s.size + 63) / 64 - m) m D h
  unfold writesP
  simp only
  rw [if_pos h1]
  exact writeB_on _ _ _ h2
theorem DvO.wrs {n : Nat} (S : ByteArray) (p : Nat) : ∀ (f i : Nat) (c : Int) (D : DevT), DvO n c D → DvO n (c + (f : Int)) (wrsF S p f i D).1
  | 0, _, c, _, h => h.mono (by omega)
  | f + 1, i, c, D, h => by
    show DvO n _ (if _ = _ then _ else _ : DevT × Int).1
    split
    · exact (DvO.wrs S p f (i + 1) (c + 1) _ (h.wr _ _)).mono (by omega)
    · exact (h.wr _ _).mono (by omega)
theorem DvO.writes {n : Nat} {c : Int} {D : DevT} (h : DvO n c D) (turn m : Nat) (s : ByteArray) (hr : (s.size + 63) / 64 + 1 ≤ n / 2) (hn : n ≤ 2048) : DvO n (c + 1024) (writesP D turn m s).1 := by
  have h1 := DvO.wrs (filB s) (turn % 2 * (D.1.length / 2)) ((s.size + 63) / 64 - m) m c D h
  unfold writesP
  simp only
  split
  · exact (h1.wr _ _).mono (by omega)
  · exact h1.mono (by omega)
theorem DvO.add {n : Nat} {c : Int} {D : DevT} (h : DvO n c D) (X : StoT) (t : ByteArray) (hn : n ≤ 2048) : DvO n (c + 1024) (addP D X t).1 := by
  unfold addP
  split
  · exact h.mono (by omega)
  · next hc =>
    have hr : ((X.2.2.2 ++ txB t).size + 63) / 64 + 1 ≤ n / 2 := by
      rw [ByteArray.size_append, txB_size, ← h.len]; omega
    simp only
    split
    · exact h.writes _ _ _ hr hn
    · exact h.writes _ _ _ hr hn
theorem DvO.lay {n : Nat} {c : Int} {D : DevT} (h : DvO n c D) (X : StoT) (t : ByteArray) (hn : n ≤ 2048) : DvO n (c + 1024) (layS D X t).1 := by
  unfold layS
  split
  · exact h.mono (by omega)
  · next hc =>
    have hr : ((txB t).size + 63) / 64 + 1 ≤ n / 2 := by rw [txB_size, ← h.len]; omega
    simp only
    split
    · exact h.writes _ _ _ hr hn
    · exact h.writes _ _ _ hr hn
/-- Lay with the power on, where there is room, is done. -/
theorem lay_on (D : DevT) (X : StoT) (t : ByteArray) (h : OnD D) (h1 : t.size ≤ 32768) (h2 : X.2.2.1 < 1099511627775) (h3 : (t.size + 2 + 63) / 64 + 1 ≤ D.1.length / 2) : (layS D X t).2.2 = 0 ∧ OnD (layS D X t).1 := by
  obtain ⟨w1, w2⟩ := writesP_on D (X.2.2.1 + 1).toNat 0 (txB t) h
  unfold layS
  rw [if_neg (by omega)]
  simp only
  rw [if_pos w1]
  exact ⟨rfl, w2⟩
theorem add_on (D : DevT) (X : StoT) (t : ByteArray) (h : OnD D) (h1 : t.size ≤ 32768) (h2 : ¬ X.2.2.1 = 0) (h3 : (X.2.2.2.size + (t.size + 2) + 63) / 64 + 1 ≤ D.1.length / 2) : (addP D X t).2.2 = 0 ∧ OnD (addP D X t).1 := by
  obtain ⟨w1, w2⟩ := writesP_on D X.2.2.1.toNat (X.2.2.2.size / 64) (X.2.2.2 ++ txB t) h
  unfold addP
  rw [if_neg (by omega)]
  simp only
  rw [if_pos w1]
  exact ⟨rfl, w2⟩

end Go.Proofs.YtaakmcihpdbilaaDoor
