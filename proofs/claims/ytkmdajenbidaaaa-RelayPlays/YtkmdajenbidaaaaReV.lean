/- Layer 21, the laws' ground: what must come whatever the arguments are. -/
import Derived.Test.YtkmdajenbidaaaaReU
namespace Go.Proofs.Ytkmdajenbidaaaa
open Go.RowKit
set_option maxRecDepth 100000
set_option linter.unusedSimpArgs false
set_option linter.unusedVariables false

theorem ask_gen (w0 : World) (g : Nat) (X : RlT) (N : Nat) (hX : RlOk N X) (hp : EpOk X) (hN : N ≤ 1099511627774) (F : FrmT) (hF : FitF F) (hit : F.2.2.2.2.2.2.1 = []) (X' : RlT) (A : FrmT) (hd : doR X F = (X', A)) (W : World) (h : RlV w0 g X W) :
    Calls Try.prog 17 #[.pointer (some ⟨g, 0, none⟩), .agg (frmA F none 0)] W fun e w' => ∃ a' c', e = .returned (.tuple #[.agg (frmA (withG A X.1) a' c'), .bool true]) ∧ A.2.2.2.2.2.2.1.length ≤ c' ∧ ItsAt w' a' A.2.2.2.2.2.2.1.length A.2.2.2.2.2.2.1 ∧ RlV w0 g X' w' ∧ Ot W w' := by
  have hh := asks_any w0 g X N hX hp hN F hF none 0 W (by rw [hit]; exact ⟨rfl, .inl rfl⟩) h
  rw [hd] at hh
  exact hh

theorem ItsAt.ot {w w' : World} {b off n : Nat} {l : List ItT} (h : ItsAt w (some ⟨b, off, none⟩) n l) (hh : w'.heap[b]? = w.heap[b]?) : ItsAt w' (some ⟨b, off, none⟩) n l := by
  refine ⟨h.1, ?_⟩
  by_cases e : n = 0
  · exact .inl e
  · obtain ⟨b', off', e', hc⟩ := h.2.resolve_left e
    cases e'
    refine .inr ⟨b, off, rfl, fun i hi => ?_⟩
    obtain ⟨h0, h1, h2⟩ := hc i hi
    exact ⟨by rw [World.cell?_of_block (w := w) hh]; exact h0, by rw [World.cell?_of_block (w := w) hh]; exact h1, by rw [World.cell?_of_block (w := w) hh]; exact h2⟩

/-- A frame without records is put. -/
theorem fitPlain {F : FrmT} (hit : F.2.2.2.2.2.2.1 = []) (own : ownB F = true) (k : 1 ≤ F.1 ∧ F.1 ≤ 9) (hg : InN F.2.1) (hs : InN F.2.2.1) (he : InN F.2.2.2.1) (hm : InN F.2.2.2.2.1) (hr : 0 ≤ F.2.2.2.2.2.2.2 ∧ F.2.2.2.2.2.2.2 ≤ 999) (hb : F.2.2.2.2.2.1.size ≤ 20000) : FitF F :=
  ⟨own, k, hg, hs, he, hm, hr, hb, by rw [hit]; exact Nat.zero_le _, fun i => by rw [hit]; exact ⟨inN_zero, inN_zero, by show (ByteArray.empty).size ≤ _; decide⟩, by rw [hit]; exact Nat.zero_le _⟩

def appF (g E : Int) (b : ByteArray) : FrmT := (1, g, 0, E, 0, b, [], 0)
def fetF (g s m : Int) : FrmT := (3, g, s, 0, m, ⟨#[]⟩, [], 0)
def kepF (g s E : Int) (b : ByteArray) : FrmT := (5, g, s, E, 0, b, [], 0)
def askF (g : Int) : FrmT := (7, g, 0, 0, 0, ⟨#[]⟩, [], 0)

theorem appF_fit {g E : Int} {b : ByteArray} (hg : InN g) (hE : InN E) (hb : b.size ≤ 20000) : FitF (appF g E b) :=
  fitPlain rfl (by simp [appF, ownB, nmB, nmL]) ⟨by show (1 : Int) ≤ 1; decide, by show (1 : Int) ≤ 9; decide⟩ hg inN_zero hE inN_zero ⟨by show (0 : Int) ≤ 0; decide, by show (0 : Int) ≤ 999; decide⟩ hb

theorem fetF_fit {g s m : Int} (hg : InN g) (hs : InN s) (hm : InN m) : FitF (fetF g s m) :=
  fitPlain rfl (by (simp [fetF, ownB, nmB, nmL]; try rfl)) ⟨by show (1 : Int) ≤ 3; decide, by show (3 : Int) ≤ 9; decide⟩ hg hs inN_zero hm ⟨by show (0 : Int) ≤ 0; decide, by show (0 : Int) ≤ 999; decide⟩ (by show (ByteArray.empty).size ≤ _; decide)

theorem kepF_fit {g s E : Int} {b : ByteArray} (hg : InN g) (hs : InN s) (hE : InN E) (hb : b.size ≤ 20000) : FitF (kepF g s E b) :=
  fitPlain rfl (by simp [kepF, ownB, nmB, nmL]) ⟨by show (1 : Int) ≤ 5; decide, by show (5 : Int) ≤ 9; decide⟩ hg hs hE inN_zero ⟨by show (0 : Int) ≤ 0; decide, by show (0 : Int) ≤ 999; decide⟩ hb

theorem askF_fit {g : Int} (hg : InN g) : FitF (askF g) :=
  fitPlain rfl (by (simp [askF, ownB, nmB, nmL]; try rfl)) ⟨by show (1 : Int) ≤ 7; decide, by show (7 : Int) ≤ 9; decide⟩ hg inN_zero inN_zero inN_zero ⟨by show (0 : Int) ≤ 0; decide, by show (0 : Int) ≤ 999; decide⟩ (by show (ByteArray.empty).size ≤ _; decide)

def awX1 : RlT := (0, 1000, (0, 0, ⟨#[]⟩), [(1, 1, ⟨#[97]⟩)])
def awX2 : RlT := (0, 1000, (0, 0, ⟨#[]⟩), [(1, 1, ⟨#[97]⟩), (2, 1, ⟨#[98]⟩)])
theorem aw_a : doR (newR 0 1000) (appF 0 1 ⟨#[97]⟩) = (awX1, takF 1) := by kernel_rfl
theorem aw_b : doR awX1 (appF 0 1 ⟨#[97]⟩) = (awX1, takF 1) := by kernel_rfl
theorem aw_c : doR awX1 (appF 0 1 ⟨#[98]⟩) = (awX2, takF 2) := by kernel_rfl
theorem aw_d : doR awX2 (fetF 0 1 9) = (awX2, (4, 0, 0, 0, 0, ⟨#[]⟩, [(1, 1, ⟨#[97]⟩), (2, 1, ⟨#[98]⟩)], 0)) := by kernel_rfl

theorem aw_ok0 : RlOk 0 (newR 0 1000) := newR_ok (by decide) (by decide) (by decide) (by decide)
theorem aw_ok1 : RlOk 1 awX1 := by have := doR_ok aw_ok0 (F := appF 0 1 ⟨#[97]⟩) (appF_fit inN_zero ⟨by decide, by decide⟩ (by decide)).ok; rw [aw_a] at this; exact this
theorem aw_ok2 : RlOk 2 awX2 := by have := doR_ok aw_ok1 (F := appF 0 1 ⟨#[98]⟩) (appF_fit inN_zero ⟨by decide, by decide⟩ (by decide)).ok; rw [aw_c] at this; exact this
theorem aw_ep0 : EpOk (newR 0 1000) := newR_ep _ _
theorem aw_ep1 : EpOk awX1 := by have := doR_ep aw_ep0 (F := appF 0 1 ⟨#[97]⟩) (appF_fit inN_zero ⟨by decide, by decide⟩ (by decide)).ok; rw [aw_a] at this; exact this
theorem aw_ep2 : EpOk awX2 := by have := doR_ep aw_ep1 (F := appF 0 1 ⟨#[98]⟩) (appF_fit inN_zero ⟨by decide, by decide⟩ (by decide)).ok; rw [aw_c] at this; exact this

set_option maxHeartbeats 4000000 in
theorem awake21_any (w : World) : Calls Try.prog 6 #[] w fun e w' => e = .returned (.bool true) ∧ Below w.heap.size w w' := by
  have CN : Hid (Calls _ _ _ _ _) := new_any 0 1000 w (by decide) (by decide) (by decide) (by decide)
  have CA' := fun W => ask_gen w w.heap.size _ 0 aw_ok0 aw_ep0 (by decide) _ (appF_fit inN_zero ⟨by decide, by decide⟩ (by decide)) rfl _ _ aw_a W
  have CB' := fun W => ask_gen w w.heap.size _ 1 aw_ok1 aw_ep1 (by decide) _ (appF_fit inN_zero ⟨by decide, by decide⟩ (by decide)) rfl _ _ aw_b W
  have CC' := fun W => ask_gen w w.heap.size _ 1 aw_ok1 aw_ep1 (by decide) _ (appF_fit inN_zero ⟨by decide, by decide⟩ (by decide)) rfl _ _ aw_c W
  have CD' := fun W => ask_gen w w.heap.size _ 2 aw_ok2 aw_ep2 (by decide) _ (fetF_fit inN_zero ⟨by decide, by decide⟩ ⟨by decide, by decide⟩) rfl _ _ aw_d W
  simp only [frmA, appF, fetF, withG, takF, List.length_cons, List.length_nil, Nat.zero_add, Nat.reduceAdd, show (newR 0 1000).1 = 0 from rfl, show awX1.1 = 0 from rfl, show awX2.1 = 0 from rfl] at CA' CB' CC' CD'
  have CA : Hid (∀ W, RlV w w.heap.size (newR 0 1000) W → _) := CA'
  have CB : Hid (∀ W, RlV w w.heap.size awX1 W → _) := CB'
  have CC : Hid (∀ W, RlV w w.heap.size awX1 W → _) := CC'
  have CD : Hid (∀ W, RlV w w.heap.size awX2 W → _) := CD'
  clear CA' CB' CC' CD'
  go_enter Try.func6, Try.ntmps6
  go_wp2_with fail
  refine CN.out.mono ?_
  rintro e w1 ⟨rfl, hr1, hb1⟩
  have HS1 : Hid (RlV w w.heap.size (newR 0 1000) w1) := ⟨hb1, Nat.le_refl _, _, hr1, fun k hk => by cases hk⟩
  clear hr1 hb1 CN
  go_wp2_with fail
  refine (CA.out w1 HS1.out).mono ?_
  rintro e w2 ⟨a2, c2, rfl, _, _, hs2, ho2⟩
  go_wp2_with fail
  obtain ⟨W2, hW2⟩ : ∃ W2, w2.alloc (.cells #[.int .i64 2, .int .i64 0, .int .i64 1, .int .i64 0, .int .i64 0, .string ⟨#[]⟩, .slice a2 0 c2, .int .i64 0] 39) = W2 := ⟨_, rfl⟩
  have hbw2 : Below w2.heap.size w2 W2 := by rw [← hW2]; exact below_new _ _
  have HS2 : Hid (RlV w w.heap.size awX1 W2) := hs2.on hbw2
  obtain ⟨h2, hh2⟩ : ∃ h2, w2.heap.size = h2 := ⟨_, rfl⟩
  have HB2_W2 : Hid (Blk W2 39 h2 #[.int .i64 2, .int .i64 0, .int .i64 1, .int .i64 0, .int .i64 0, .string ⟨#[]⟩, .slice a2 0 c2, .int .i64 0]) := by show Blk _ _ _ _; rw [← hW2, ← hh2]; exact Blk.new _ _ _
  rw [hW2, hh2]
  clear CA HS1 hs2 ho2 hbw2
  clear hW2 hh2
  refine (CB.out W2 HS2.out).mono ?_
  rintro e w3 ⟨a3, c3, rfl, _, _, hs3, ho3⟩
  have HB2_3 : Hid (Blk w3 39 h2 _) := ho3 _ _ _ (by decide) (by decide) HB2_W2.out
  go_wp2_with fail
  obtain ⟨W3, hW3⟩ : ∃ W3, w3.alloc (.cells #[.int .i64 2, .int .i64 0, .int .i64 1, .int .i64 0, .int .i64 0, .string ⟨#[]⟩, .slice a3 0 c3, .int .i64 0] 39) = W3 := ⟨_, rfl⟩
  have hbw3 : Below w3.heap.size w3 W3 := by rw [← hW3]; exact below_new _ _
  have HS3 : Hid (RlV w w.heap.size awX1 W3) := hs3.on hbw3
  have HB2_W3 : Hid (Blk W3 39 h2 _) := HB2_3.out.on hbw3
  obtain ⟨h3, hh3⟩ : ∃ h3, w3.heap.size = h3 := ⟨_, rfl⟩
  have HB3_W3 : Hid (Blk W3 39 h3 #[.int .i64 2, .int .i64 0, .int .i64 1, .int .i64 0, .int .i64 0, .string ⟨#[]⟩, .slice a3 0 c3, .int .i64 0]) := by show Blk _ _ _ _; rw [← hW3, ← hh3]; exact Blk.new _ _ _
  rw [hW3, hh3]
  clear CB HS2 hs3 ho3 hbw3
  clear hW3 hh3
  refine (CC.out W3 HS3.out).mono ?_
  rintro e w4 ⟨a4, c4, rfl, _, _, hs4, ho4⟩
  have HB2_4 : Hid (Blk w4 39 h2 _) := ho4 _ _ _ (by decide) (by decide) HB2_W3.out
  have HB3_4 : Hid (Blk w4 39 h3 _) := ho4 _ _ _ (by decide) (by decide) HB3_W3.out
  go_wp2_with fail
  obtain ⟨W4, hW4⟩ : ∃ W4, w4.alloc (.cells #[.int .i64 2, .int .i64 0, .int .i64 2, .int .i64 0, .int .i64 0, .string ⟨#[]⟩, .slice a4 0 c4, .int .i64 0] 39) = W4 := ⟨_, rfl⟩
  have hbw4 : Below w4.heap.size w4 W4 := by rw [← hW4]; exact below_new _ _
  have HS4 : Hid (RlV w w.heap.size awX2 W4) := hs4.on hbw4
  have HB2_W4 : Hid (Blk W4 39 h2 _) := HB2_4.out.on hbw4
  have HB3_W4 : Hid (Blk W4 39 h3 _) := HB3_4.out.on hbw4
  obtain ⟨h4, hh4⟩ : ∃ h4, w4.heap.size = h4 := ⟨_, rfl⟩
  have HB4_W4 : Hid (Blk W4 39 h4 #[.int .i64 2, .int .i64 0, .int .i64 2, .int .i64 0, .int .i64 0, .string ⟨#[]⟩, .slice a4 0 c4, .int .i64 0]) := by show Blk _ _ _ _; rw [← hW4, ← hh4]; exact Blk.new _ _ _
  rw [hW4, hh4]
  clear CC HS3 hs4 ho4 hbw4
  clear hW4 hh4
  refine (CD.out W4 HS4.out).mono ?_
  rintro e w5 ⟨a5, c5, rfl, _, hi5, hs5, ho5⟩
  have HB2_5 : Hid (Blk w5 39 h2 _) := ho5 _ _ _ (by decide) (by decide) HB2_W4.out
  have HB3_5 : Hid (Blk w5 39 h3 _) := ho5 _ _ _ (by decide) (by decide) HB3_W4.out
  have HB4_5 : Hid (Blk w5 39 h4 _) := ho5 _ _ _ (by decide) (by decide) HB4_W4.out
  obtain ⟨b, off, rfl, hc⟩ := hi5.2.resolve_left (by decide)
  have hc5 : w5.cell? ⟨b, off + 1 * 3 + 2, none⟩ = some (.string ⟨#[98]⟩) := (hc 1 (by decide)).2.2
  have hbw5 : Below w5.heap.size w5 (w5.alloc (.cells #[.int .i64 4, .int .i64 0, .int .i64 0, .int .i64 0, .int .i64 0, .string ⟨#[]⟩, .slice (some ⟨b, off, none⟩) 2 c5, .int .i64 0] 39)) := below_new _ _
  have HS5 : Hid (RlV w w.heap.size awX2 (w5.alloc (.cells #[.int .i64 4, .int .i64 0, .int .i64 0, .int .i64 0, .int .i64 0, .string ⟨#[]⟩, .slice (some ⟨b, off, none⟩) 2 c5, .int .i64 0] 39))) := hs5.on hbw5
  have g5 : (w5.alloc (.cells #[.int .i64 4, .int .i64 0, .int .i64 0, .int .i64 0, .int .i64 0, .string ⟨#[]⟩, .slice (some ⟨b, off, none⟩) 2 c5, .int .i64 0] 39)).cell? ⟨b, off + 1 * 3 + 2, none⟩ = some (.string ⟨#[98]⟩) := by rw [hbw5.cell (World.block_lt_of_cell? w5 _ hc5)]; exact hc5
  have g5' : (w5.alloc (.cells #[.int .i64 4, .int .i64 0, .int .i64 0, .int .i64 0, .int .i64 0, .string ⟨#[]⟩, .slice (some ⟨b, off, none⟩) 2 c5, .int .i64 0] 39)).cell? ⟨b, off + 3 + 2, none⟩ = some (.string ⟨#[98]⟩) := g5
  have g5'' : (w5.alloc (.cells #[.int .i64 4, .int .i64 0, .int .i64 0, .int .i64 0, .int .i64 0, .string ⟨#[]⟩, .slice (some ⟨b, off, none⟩) 2 c5, .int .i64 0] 39)).cell? ⟨b, off + 5, none⟩ = some (.string ⟨#[98]⟩) := g5
  have g2 : (w5.alloc (.cells #[.int .i64 4, .int .i64 0, .int .i64 0, .int .i64 0, .int .i64 0, .string ⟨#[]⟩, .slice (some ⟨b, off, none⟩) 2 c5, .int .i64 0] 39)).cell? ⟨h2, 2, none⟩ = some (.int .i64 1) := (HB2_5.out.on hbw5).cell 2
  have g3 : (w5.alloc (.cells #[.int .i64 4, .int .i64 0, .int .i64 0, .int .i64 0, .int .i64 0, .string ⟨#[]⟩, .slice (some ⟨b, off, none⟩) 2 c5, .int .i64 0] 39)).cell? ⟨h3, 2, none⟩ = some (.int .i64 1) := (HB3_5.out.on hbw5).cell 2
  have g4 : (w5.alloc (.cells #[.int .i64 4, .int .i64 0, .int .i64 0, .int .i64 0, .int .i64 0, .string ⟨#[]⟩, .slice (some ⟨b, off, none⟩) 2 c5, .int .i64 0] 39)).cell? ⟨h4, 2, none⟩ = some (.int .i64 2) := (HB4_5.out.on hbw5).cell 2
  have hb6 : Blk (w5.alloc (.cells #[.int .i64 4, .int .i64 0, .int .i64 0, .int .i64 0, .int .i64 0, .string ⟨#[]⟩, .slice (some ⟨b, off, none⟩) 2 c5, .int .i64 0] 39)) 39 w5.heap.size #[.int .i64 4, .int .i64 0, .int .i64 0, .int .i64 0, .int .i64 0, .string ⟨#[]⟩, .slice (some ⟨b, off, none⟩) 2 c5, .int .i64 0] := Blk.new _ _ _
  have g6 : (w5.alloc (.cells #[.int .i64 4, .int .i64 0, .int .i64 0, .int .i64 0, .int .i64 0, .string ⟨#[]⟩, .slice (some ⟨b, off, none⟩) 2 c5, .int .i64 0] 39)).cell? ⟨w5.heap.size, 6, none⟩ = some (.slice (some ⟨b, off, none⟩) 2 c5) := hb6.cell 6
  have qb : ((⟨#[98]⟩ : ByteArray).toList == (⟨#[98]⟩ : ByteArray).toList) = true := beq_self_eq_true _
  clear CD HS4 hs5 ho5 hi5 hc hc5 hbw5 hb6
  go_wp2_with fail
  obtain ⟨v5, hr5, hv5⟩ := HS5.out.rel
  refine (rlast_any w.heap.size v5 awX2 2 (by decide) aw_ok2 (w5.alloc (.cells #[.int .i64 4, .int .i64 0, .int .i64 0, .int .i64 0, .int .i64 0, .string ⟨#[]⟩, .slice (some ⟨b, off, none⟩) 2 c5, .int .i64 0] 39)) hr5).mono ?_
  rintro e w6 ⟨rfl, hb6⟩
  have HS6 : Hid (RlV w w.heap.size awX2 w6) := HS5.out.on hb6
  rw [show lastL awX2 = 2 from by kernel_rfl]
  clear hr5 hv5 hb6 HS5 g2 g3 g4 g5 g5' g5'' g6
  go_wp2_with fail
  obtain ⟨v6, hr6, hv6⟩ := HS6.out.rel
  refine (rbytes_any w.heap.size v6 awX2 2 aw_ok2 w6 hr6).mono ?_
  rintro e w7 ⟨rfl, hb7⟩
  have HS7 : Hid (RlV w w.heap.size awX2 w7) := HS6.out.on hb7
  rw [show ((bytesL awX2 : Nat) : Int) = 2 from by kernel_rfl]
  clear hr6 hv6 hb7 HS6
  go_wp2_with fail
  obtain ⟨v7, hr7, hv7⟩ := HS7.out.rel
  refine (rbase_any w.heap.size v7 awX2 w7 hr7).mono ?_
  rintro e w8 ⟨rfl, hb8⟩
  have HS8 : Hid (RlV w w.heap.size awX2 w8) := HS7.out.on hb8
  rw [show awX2.2.2.1.1 = 0 from rfl]
  clear hr7 hv7 hb8 HS7
  go_wp2_with fail
  go_ret
  exact ⟨rfl, HS8.out.bel⟩
end Go.Proofs.Ytkmdajenbidaaaa
