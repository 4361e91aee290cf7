/- The walk of ClockTwo. -/
import Derived.Test.YtegbjglkglmgiaaCkD
import Derived.Test.YtegbjglkglmgiaaRowR
namespace Go.Proofs.Ytegbjglkglmgiaa
open Go.RowKit
set_option linter.unusedSimpArgs false

theorem i64_and1d (n : Int) : bits .and .i64 n 1 = n % 2 := i64_mask n 1 (by decide) 1 (by decide)
/-- Two clocks at two blocks; what their times say of the stamps that were given, and of the last one that was seen. -/
structure Two (k : Nat) (l : List (Int × Int)) (x y : Int) (T : Nat → Int) : Prop where
  len : l.length = k
  most : ∀ i, i < 2 → T i ≤ (k : Int)
  all : ∀ s ∈ l, ∃ i : Nat, i < 2 ∧ s.2 = (i : Int) + 1 ∧ s.1 ≤ T i
  last : ∀ j : Nat, j < 2 → y = (j : Int) + 1 → x ≤ T (1 - j)
  who : y = 0 ∨ y = 1 ∨ y = 2
def atT (f : Nat → Int) (m : Nat) (v : Int) (i : Nat) : Int := if i = m then v else f i
theorem two_step {k : Nat} {l : List (Int × Int)} {x y : Int} {T : Nat → Int} (m r : Nat) (h : Two k l x y T) (hm : m < 2) (hr : m + r = 1) (h0 : 0 ≤ T m) (hk : k < 40) :
    ∃ N : Int, nextP10 ((m : Int) + 1, T m) = (((m : Int) + 1, N), (N, (m : Int) + 1), 0) ∧ (∀ i, i < l.length → stL l i ≠ (N, (m : Int) + 1)) ∧ (y ≠ 0 → y ≠ (m : Int) + 1 → LessS (x, y) (N, (m : Int) + 1)) ∧ MayS (N, (m : Int) + 1) ∧ N = T m + 1 := by
  have hmk := h.most m hm
  refine ⟨T m + 1, ?_, ?_, ?_, ?_, rfl⟩
  · unfold nextP10
    rw [if_neg (show ¬ (1099511627775 ≤ T m) by omega)]
  · intro i hi e
    have hmem : stL l i ∈ l := by
      unfold stL; rw [List.getD_eq_getElem?_getD, List.getElem?_eq_getElem hi]; exact List.getElem_mem hi
    obtain ⟨j, hj, h1, h2⟩ := h.all _ hmem
    rw [e] at h1 h2
    have hjm : j = m := by
      have : (m : Int) + 1 = (j : Int) + 1 := h1
      omega
    subst hjm
    have : T j + 1 ≤ T j := h2
    omega
  · intro hy0 hym
    left
    show x < T m + 1
    have hyr : y = (r : Int) + 1 := by
      rcases h.who with e | e | e <;> omega
    have := h.last r (by omega) hyr
    rw [show 1 - r = m by omega] at this
    omega
  · refine ⟨?_, ?_, ?_, ?_⟩
    · show 1 ≤ T m + 1; omega
    · show T m + 1 ≤ 1099511627775; omega
    · show 1 ≤ (m : Int) + 1; omega
    · show (m : Int) + 1 ≤ 6; omega
theorem two_not {k : Nat} {l : List (Int × Int)} {x y : Int} {T : Nat → Int} (m : Nat) (h : Two k l x y T) (hm : m < 2) : Two (k + 1) (l ++ [(T m + 1, (m : Int) + 1)]) 0 0 (atT T m (T m + 1)) := by
  refine ⟨by simp [h.len], fun i hi => ?_, fun s hs => ?_, fun j hj e => by omega, .inl rfl⟩
  · have a := h.most i hi
    have b := h.most m hm
    unfold atT; split <;> omega
  · rcases List.mem_append.1 hs with hs | hs
    · obtain ⟨j, hj, h1, h2⟩ := h.all s hs
      refine ⟨j, hj, h1, ?_⟩
      unfold atT; split
      · next e => subst e; omega
      · exact h2
    · rw [List.mem_singleton] at hs
      subst hs
      refine ⟨m, hm, rfl, ?_⟩
      unfold atT; rw [if_pos rfl]; exact Int.le_refl _
theorem two_seen {k : Nat} {l : List (Int × Int)} {x y : Int} {T : Nat → Int} (m r : Nat) (h : Two k l x y T) (hm : m < 2) (hr : m + r = 1) : Two (k + 1) (l ++ [(T m + 1, (m : Int) + 1)]) (T m + 1) ((m : Int) + 1) (atT (atT T m (T m + 1)) r (max (T r) (T m + 1))) := by
  have h1 := two_not m h hm
  refine ⟨h1.len, fun i hi => ?_, fun s hs => ?_, fun j hj e => ?_, by omega⟩
  · have a := h1.most i hi
    have b := h.most m hm
    have c := h.most r (by omega)
    generalize atT T m (T m + 1) = f at *
    unfold atT; split <;> omega
  · obtain ⟨j, hj, h2, h3⟩ := h1.all s hs
    refine ⟨j, hj, h2, ?_⟩
    have e : atT T m (T m + 1) r = T r := by unfold atT; rw [if_neg (by omega)]
    generalize atT T m (T m + 1) = f at *
    unfold atT; split
    · next e2 => subst e2; omega
    · exact h3
  · have hj : 1 - j = r := by omega
    rw [hj]
    generalize atT T m (T m + 1) = f
    unfold atT; rw [if_pos rfl]; omega
theorem seen10 (r : Nat) (Tr N : Int) (m : Nat) (h : MayS (N, (m : Int) + 1)) : seeP ((r : Int) + 1, Tr) (N, (m : Int) + 1) = ((r : Int) + 1, max Tr N) := by
  unfold seeP; rw [if_pos h]

theorem ClockAt.grown {w w' : World} {g : Nat} {r : Option Nat} {c : Int × Int} (h : ClockAt w g c) (k : w.grownBy w' r) (hr : some g ≠ r) : ClockAt w' g c := ⟨h.1.grown k hr, h.2⟩
theorem ClockAt.other {w : World} {g : Nat} {c : Int × Int} (h : ClockAt w g c) (p : Addr) (hp : g ≠ p.block) (u : Value) : ClockAt (w.setCell p u) g c := ⟨h.1.other p hp u, h.2⟩
/-- What stands behind reading calls, and behind one more stamp put behind the others. -/
theorem two_on {W V1 w1 wr w4 : World} {bc h gm gr : Nat} {cS cL cC cs : Array Value} {tS tC te : TypeId} {cm cr : Int × Int} {v : Value}
    (hbj : Below V1.heap.size V1 wr) (hbv : Below w1.heap.size w1 V1) (S1 : Blk V1 tS h cS) (L1 : Blk w1 tS (bc + 1) cL) (C1 : Blk w1 tC bc cC) (H1 : ClockAt w1 gm cm) (K1 : ClockAt w1 gr cr) (B1 : Below W.heap.size W w1) (LB1 : bc + 2 ≤ w1.heap.size)
    (OH : ∀ j, v.ownBlock = some j → j < h) (hg : (wr.alloc (.cells cs te)).grownBy w4 v.ownBlock) (hm : gm < bc) (hr : gr < bc) (OB : ∀ j, v.ownBlock = some j → bc + 2 ≤ j) (hWb : W.heap.size ≤ bc) :
    Hid (Blk w4 tS h cS) ∧ Hid (Blk w4 tS (bc + 1) cL) ∧ Hid (Blk w4 tC bc cC) ∧ Hid (ClockAt w4 gm cm) ∧ Hid (ClockAt w4 gr cr) ∧ Hid (Below W.heap.size W w4) ∧ Hid (bc + 2 ≤ w4.heap.size) := by
  have h1 : Below V1.heap.size V1 (wr.alloc (.cells cs te)) := below_step hbj (Nat.le_refl _) (below_new _ _)
  have h2 : Below w1.heap.size w1 (wr.alloc (.cells cs te)) := below_step hbv (Nat.le_refl _) h1
  have n1 : some (bc + 1) ≠ v.ownBlock := fun e => by have := OB _ e.symm; omega
  have n2 : some bc ≠ v.ownBlock := fun e => by have := OB _ e.symm; omega
  have n3 : some gm ≠ v.ownBlock := fun e => by have := OB _ e.symm; omega
  have n4 : some gr ≠ v.ownBlock := fun e => by have := OB _ e.symm; omega
  have n5 : some h ≠ v.ownBlock := fun e => by have := OH _ e.symm; omega
  have h3 := below_step B1 (Nat.le_refl _) h2
  refine ⟨(S1.on h1).grown hg n5, (L1.on h2).grown hg n1, (C1.on h2).grown hg n2, (H1.on h2).grown hg n3, (K1.on h2).grown hg n4, ?_, ?_⟩
  · exact h3.grown hg h3.size (fun k hk => by have := OB k hk; omega)
  · exact Nat.le_trans (Nat.le_trans LB1 h2.size) hg.size
/-- And behind a store into the last stamp. -/
theorem two_set {W w V : World} {bc h gm gr : Nat} {cS cC : Array Value} {tC : TypeId} {tS : TypeId} {cm cr : Int × Int} {v : Value} {l : List (Int × Int)} {p q p' q' : Int} (hV : V = (w.setCell ⟨bc + 1, 0, none⟩ (.int .i64 p')).setCell ⟨bc + 1, 1, none⟩ (.int .i64 q'))
    (S1 : Blk w tS h cS) (L1 : Blk w tS (bc + 1) #[.int .i64 p, .int .i64 q]) (C1 : Blk w tC bc cC) (H1 : ClockAt w gm cm) (K1 : ClockAt w gr cr) (B1 : Below W.heap.size W w) (LB1 : bc + 2 ≤ w.heap.size) (O1 : OwnS w (bc + 2) v l) (LH : bc + 2 ≤ h) (hm : gm < bc ∧ W.heap.size ≤ gm) (hr : gr < bc ∧ W.heap.size ≤ gr) :
    Hid (Blk V tS h cS) ∧ Hid (Blk V tS (bc + 1) #[.int .i64 p', .int .i64 q']) ∧ Hid (Blk V tC bc cC) ∧ Hid (ClockAt V gm cm) ∧ Hid (ClockAt V gr cr) ∧ Hid (Below W.heap.size W V) ∧ Hid (bc + 2 ≤ V.heap.size) ∧ Hid (OwnS V (bc + 2) v l) := by
  subst hV
  have n5 : h ≠ bc + 1 := by omega
  have n2 : bc ≠ bc + 1 := by omega
  have n3 : gm ≠ bc + 1 := by omega
  have n4 : gr ≠ bc + 1 := by omega
  refine ⟨(S1.other ⟨bc + 1, 0, none⟩ n5 _).other ⟨bc + 1, 1, none⟩ n5 _, (L1.setAt 0 _).setAt 1 _, (C1.other ⟨bc + 1, 0, none⟩ n2 _).other ⟨bc + 1, 1, none⟩ n2 _, (H1.other ⟨bc + 1, 0, none⟩ n3 _).other ⟨bc + 1, 1, none⟩ n3 _, (K1.other ⟨bc + 1, 0, none⟩ n4 _).other ⟨bc + 1, 1, none⟩ n4 _, ?_, ?_, ?_⟩
  · exact (B1.setCell (p := ⟨bc + 1, 0, none⟩) (show W.heap.size ≤ bc + 1 by omega) _).setCell (p := ⟨bc + 1, 1, none⟩) (show W.heap.size ≤ bc + 1 by omega) _
  · show _ ≤ _
    have := LB1
    simpa [World.setCell] using this
  · exact owns_set (owns_set O1 ⟨bc + 1, 0, none⟩ (show bc + 1 < bc + 2 by omega) _) ⟨bc + 1, 1, none⟩ (show bc + 1 < bc + 2 by omega) _
/-- And behind the other's seeing it. -/
theorem two_see {W V w : World} {bc h gm gr : Nat} {cS cL cC : Array Value} {tC tS : TypeId} {cm cr : Int × Int} {v : Value} {l : List (Int × Int)} (h6 : ClockTo V.drew gr cr w)
    (S1 : Blk V tS h cS) (L1 : Blk V tS (bc + 1) cL) (C1 : Blk V tC bc cC) (H1 : ClockAt V gm cm) (B1 : Below W.heap.size W V) (LB1 : bc + 2 ≤ V.heap.size) (O1 : OwnS V (bc + 2) v l) (LH : bc + 2 ≤ h) (hr : gr < bc ∧ W.heap.size ≤ gr) (hn : gm ≠ gr) :
    Hid (Blk w tS h cS) ∧ Hid (Blk w tS (bc + 1) cL) ∧ Hid (Blk w tC bc cC) ∧ Hid (ClockAt w gm cm) ∧ Hid (ClockAt w gr cr) ∧ Hid (Below W.heap.size W w) ∧ Hid (bc + 2 ≤ w.heap.size) ∧ Hid (OwnS w (bc + 2) v l) := by
  have hd : Below V.heap.size V V.drew := (Below.refl _ _).drew
  refine ⟨(S1.on hd).kept h6.2 (by omega) (by simp), (L1.on hd).kept h6.2 (by omega) (by simp), (C1.on hd).kept h6.2 (by omega) (by simp), (H1.on hd).kept h6.2 hn (by simp), h6.1, ?_, ?_, ?_⟩
  · have h3 := below_step B1 (Nat.le_refl _) hd
    exact h3.trans (h6.below _ h3.size hr.2)
  · exact Nat.le_trans LB1 (Nat.le_trans hd.size h6.2.size)
  · exact owns_kept (owns_on O1 hd) h6.2 (by omega) (fun j hj => by cases hj)

set_option maxHeartbeats 4000000 in
set_option maxRecDepth 100000 in
theorem clockTwo_walk (who sees : Int) (W : World) :
    Calls Try.prog 8 #[.int .i64 who, .int .i64 sees] W fun e w' => e = .returned (.bool true) ∧ Below W.heap.size W w' := by
  obtain ⟨i0, hi, hz0, hz1, hz2⟩ := info_parts Try.infoStamp
  go_enter Try.func8, Try.ntmps8
  go_wp2_with fail
  refine (cnew_yes 1 _ (by decide)).mono ?_
  rintro e w1 ⟨rfl, h1, b1⟩
  obtain ⟨ga, hga⟩ : ∃ g, g = W.heap.size := ⟨_, rfl⟩
  rw [← hga] at h1 ⊢
  have H1 : Hid (ClockAt w1 ga (1, 0)) := h1
  have B1 : Hid (Below W.heap.size W w1) := b1
  have HGA : Hid (ga = W.heap.size) := hga
  clear h1 b1 hga
  go_wp2_with fail
  refine (cnew_yes 2 _ (by decide)).mono ?_
  rintro e w2 ⟨rfl, h2, b2⟩
  obtain ⟨gb, hgb⟩ : ∃ g, g = w1.heap.size := ⟨_, rfl⟩
  rw [← hgb] at h2 ⊢
  have hbb : Hid (Below w1.heap.size w1 w2) := b2
  have H2 : Hid (ClockAt w2 ga (1, 0)) := H1.out.on b2
  have K2 : Hid (ClockAt w2 gb (2, 0)) := h2
  have B2 : Hid (Below W.heap.size W w2) := below_step B1.out (Nat.le_refl _) b2
  have Lg : Hid (ga < gb ∧ W.heap.size ≤ ga) := ⟨by rw [hgb]; exact H1.out.1.lt, Nat.le_of_eq HGA.out.symm⟩
  clear h2 b2 hgb H1 B1 HGA hbb
  obtain ⟨bc, hbc⟩ : ∃ g, g = w2.heap.size := ⟨_, rfl⟩
  obtain ⟨V, hV⟩ : ∃ V, V = (w2.alloc (.cells #[.pointer (some ⟨ga, 0, none⟩), .pointer (some ⟨gb, 0, none⟩)] 51)).alloc (.cells #[.int .i64 0, .int .i64 0] 23) := ⟨_, rfl⟩
  have hba : Hid (Below w2.heap.size w2 V) := by rw [hV]; exact (below_new _ _).alloc (by simp) _
  have H : Hid (ClockAt V ga (1, 0)) := H2.out.on hba.out
  have K : Hid (ClockAt V gb (2, 0)) := K2.out.on hba.out
  have B : Hid (Below W.heap.size W V) := below_step B2.out (Nat.le_refl _) hba.out
  have C : Hid (Blk V 51 bc #[.pointer (some ⟨ga, 0, none⟩), .pointer (some ⟨gb, 0, none⟩)]) := by show Blk _ _ _ _; rw [hV]; exact (Blk.new' _ _ _ _ hbc.symm).alloc _
  have L : Hid (Blk V 23 (bc + 1) #[.int .i64 0, .int .i64 0]) := by show Blk _ _ _ _; rw [hV]; exact Blk.new' _ _ _ _ (by simp [hbc])
  have Lc : Hid (gb < bc ∧ V.heap.size = bc + 2) := ⟨by rw [hbc]; exact K2.out.1.lt, by rw [hV]; simp [hbc]⟩
  go_wp2_with fail
  rw [← hbc, ← hV]
  clear hba hV hbc H2 K2 B2
  obtain ⟨G, hG⟩ : ∃ G : Nat → Nat, G = fun i => if i = 0 then ga else gb := ⟨_, rfl⟩
  have HG : Hid (G 0 = ga ∧ G 1 = gb) := by rw [hG]; exact ⟨rfl, rfl⟩
  clear hG
  go_loopw [10, 12] (fun v i wr => ∃ (k : Nat) (l : List (Int × Int)) (T : Nat → Int) (x y : Int), k ≤ 40 ∧ i = .int .i64 k ∧ Hid (OwnS wr (bc + 2) v l) ∧ Hid (∀ i : Nat, i < 2 → ClockAt wr (G i) ((i : Int) + 1, T i)) ∧ Hid (Blk wr 51 bc #[.pointer (some ⟨ga, 0, none⟩), .pointer (some ⟨gb, 0, none⟩)]) ∧ Hid (Blk wr 23 (bc + 1) #[.int .i64 x, .int .i64 y]) ∧ Hid (Below W.heap.size W wr) ∧ Hid (Two k l x y T) ∧ Hid (bc + 2 ≤ wr.heap.size)) (fun _ i _ => 40 - (intOf i).toNat)
  case atStart =>
    refine ⟨0, [], fun _ => 0, 0, 0, Nat.zero_le _, rfl, OwnS.nil _ _, ?_, C, L, B, ⟨rfl, fun _ _ => Int.le_refl _, fun s hs => (by cases hs), fun _ _ _ => Int.le_refl _, .inl rfl⟩, Nat.le_of_eq Lc.out.2.symm⟩
    intro i hi
    rcases (show i = 0 ∨ i = 1 by omega) with rfl | rfl
    · rw [HG.out.1]; exact H.out
    · rw [HG.out.2]; exact K.out
  case round =>
    clear H K B C L
    obtain ⟨k, l, T, x, y, hk, rfl, O, H, C, L, B, P2, LB⟩ := hrel
    by_cases hlt : k < 40
    · have d0 : (k : Int) < 40 := by omega
      obtain ⟨m, hm, hm2⟩ : ∃ m : Nat, bits .and .i64 (who / 2 ^ k) 1 = (m : Int) ∧ m < 2 := ⟨(who / 2 ^ k % 2).toNat, by rw [i64_and1d]; omega, by omega⟩
      obtain ⟨r, hr⟩ : ∃ r, m + r = 1 := ⟨1 - m, by omega⟩
      have HR : Hid (m + r = 1) := hr
      have m0 : (m : Int) < 2 := by omega
      have r0 : (r : Int) < 2 := by omega
      obtain ⟨z, hzs, hzl⟩ : ∃ z : Nat, bits .and .i64 (sees / 2 ^ k) 1 = (z : Int) ∧ z < 2 := ⟨(sees / 2 ^ k % 2).toNat, by rw [i64_and1d]; omega, by omega⟩
      have hwr : IntKind.i64.wrap (1 - (m : Int)) = (r : Int) := by rw [IntKind.wrap_i64]; omega
      have hwm : IntKind.i64.wrap ((m : Int) + 1) = (m : Int) + 1 := by rw [IntKind.wrap_i64]; omega
      clear hr
      obtain ⟨N, hN, hF, hY, hM, hNT⟩ := two_step m r P2.out hm2 HR.out (H.out m hm2).2.1 hlt
      have HF : Hid (∀ i, i < l.length → stL l i ≠ (N, (m : Int) + 1)) := hF
      have HY : Hid (y ≠ 0 → y ≠ (m : Int) + 1 → LessS (x, y) (N, (m : Int) + 1)) := hY
      have HM : Hid (MayS (N, (m : Int) + 1)) := hM
      have HNT : Hid (N = T m + 1) := hNT
      have HN : Hid (nextP10 ((m : Int) + 1, T m) = (((m : Int) + 1, N), (N, (m : Int) + 1), 0)) := hN
      clear hF hY hM hNT hN
      have HC : Hid (∀ w', Blk w' 51 bc #[.pointer (some ⟨ga, 0, none⟩), .pointer (some ⟨gb, 0, none⟩)] → w'.cell? ⟨bc, m, none⟩ = some (.pointer (some ⟨G m, 0, none⟩)) ∧ w'.cell? ⟨bc, r, none⟩ = some (.pointer (some ⟨G r, 0, none⟩))) := by
        intro w' hb
        have hr := HR.out
        rcases (show m = 0 ∨ m = 1 by omega) with e | e
        · have e2 : r = 1 := by omega
          rw [e, e2, HG.out.1, HG.out.2]; exact ⟨hb.cell 0, hb.cell 1⟩
        · have e2 : r = 0 := by omega
          rw [e, e2, HG.out.1, HG.out.2]; exact ⟨hb.cell 1, hb.cell 0⟩
      have HGL : Hid (∀ i : Nat, i < 2 → G i < bc ∧ W.heap.size ≤ G i) := by
        intro i hi
        have a := Lg.out
        have b := Lc.out
        rcases (show i = 0 ∨ i = 1 by omega) with e | e
        · rw [e, HG.out.1]; omega
        · rw [e, HG.out.2]; omega
      have hGn : Hid (G m ≠ G r) := by
        have a := Lg.out
        have hr := HR.out
        rcases (show m = 0 ∨ m = 1 by omega) with e | e
        · have e2 : r = 1 := by omega
          show _ ≠ _
          rw [e, e2, HG.out.1, HG.out.2]; omega
        · have e2 : r = 0 := by omega
          show _ ≠ _
          rw [e, e2, HG.out.1, HG.out.2]; omega
      obtain ⟨c0, _⟩ := HC.out _ C.out
      go_wp2_with fail
      have C1 := cnext_any (G m) ((m : Int) + 1, T m) wr (H.out m hm2)
      rw [HN.out] at C1
      refine C1.mono ?_
      clear C1 c0 HN
      rintro e w1 ⟨rfl, h1⟩
      have hgm := HGL.out m hm2
      have hgr := HGL.out r (by have := HR.out; omega)
      have H1 : Hid (ClockAt w1 (G m) ((m : Int) + 1, N)) := h1.1
      have K1 : Hid (ClockAt w1 (G r) ((r : Int) + 1, T r)) := (H.out r (by have := HR.out; omega)).kept h1.2 (fun e => hGn.out e.symm) (by simp)
      have C1 : Hid (Blk w1 51 bc #[.pointer (some ⟨ga, 0, none⟩), .pointer (some ⟨gb, 0, none⟩)]) := C.out.kept h1.2 (by omega) (by simp)
      have L1 : Hid (Blk w1 23 (bc + 1) #[.int .i64 x, .int .i64 y]) := L.out.kept h1.2 (by omega) (by simp)
      have O1 : Hid (OwnS w1 (bc + 2) u10 l) := owns_kept O.out h1.2 (by omega) (fun j hj => by cases hj)
      have B1 : Hid (Below W.heap.size W w1) := B.out.trans (h1.below _ B.out.size hgm.2)
      have LB1 : Hid (bc + 2 ≤ w1.heap.size) := Nat.le_trans LB.out h1.2.size
      have HGM : Hid (G m < bc ∧ W.heap.size ≤ G m) := hgm
      have HGR : Hid (G r < bc ∧ W.heap.size ≤ G r) := hgr
      clear h1 hgm hgr H C L O B LB HGL
      rw [show stampV ((((m : Int) + 1), N), (N, ((m : Int) + 1)), (0 : Int)).2.1 = .agg #[.int .i64 N, .int .i64 ((m : Int) + 1)] from rfl]
      obtain ⟨a, cap, rfl, _⟩ := OwnS.stamps O1.out
      obtain ⟨h, hh⟩ : ∃ h, h = w1.heap.size := ⟨_, rfl⟩
      obtain ⟨q1, hq1⟩ : ∃ q, q = (m : Int) + 1 := ⟨_, rfl⟩
      obtain ⟨V1, hV1⟩ : ∃ V1, V1 = w1.alloc (.cells #[.int .i64 N, .int .i64 q1] 23) := ⟨_, rfl⟩
      have hbv : Hid (Below w1.heap.size w1 V1) := by rw [hV1]; exact below_new _ _
      have S1 : Hid (Blk V1 23 h #[.int .i64 N, .int .i64 q1]) := by show Blk _ _ _ _; rw [hV1]; exact Blk.new' _ _ _ _ hh.symm
      have LH : Hid (bc + 2 ≤ h) := by rw [hh]; exact LB1.out
      have O2 : Hid (OwnS V1 (bc + 2) (.slice a l.length cap) l) := owns_on O1.out hbv.out
      have HA : Hid (∀ w', Below V1.heap.size V1 w' → (w'.cell? ⟨h, 0, none⟩ = some (.int .i64 N) ∧ w'.cell? ⟨h, 1, none⟩ = some (.int .i64 q1)) ∧ w'.cell? ⟨bc + 1, 0, none⟩ = some (.int .i64 x) ∧ w'.cell? ⟨bc + 1, 1, none⟩ = some (.int .i64 y)) := fun w' hb => ⟨⟨(S1.out.on hb).cell 0, (S1.out.on hb).cell 1⟩, ((L1.out.on hbv.out).on hb).cell 0, ((L1.out.on hbv.out).on hb).cell 1⟩
      have OH : Hid (∀ j, Value.ownBlock (.slice a l.length cap) = some j → j < h) := fun j hj => by rw [hh]; exact (World.ownsRow.lt O1.out j hj).2
      have HS : Hid (StampsAt V1 a l.length l) := by
        obtain ⟨a', cap', e, hs⟩ := OwnS.stamps O2.out
        cases e
        exact hs
      go_wp2_with fail
      rw [← hq1, ← hV1, ← hh]
      rw [← hq1] at HF HY HM
      have HQ : Hid (q1 = (m : Int) + 1) := hq1
      clear hq1 hV1 hh
      go_loopw [16] (fun j wj => ∃ q : Nat, q ≤ l.length ∧ j = .int .i64 q ∧ Hid (Below V1.heap.size V1 wj)) (fun j _ => l.length - (intOf j).toNat)
      case atStart => exact ⟨0, Nat.zero_le _, rfl, Below.refl _ _⟩
      case round =>
        obtain ⟨q, hq, rfl, hbj⟩ := hrel
        by_cases hql : q < l.length
        · obtain ⟨b, off, rfl, hcl⟩ := HS.out.some (by omega)
          obtain ⟨e0, e1⟩ := hcl q hql
          have hne := HF.out q hql
          obtain ⟨s, hs⟩ : ∃ s, s = stL l q := ⟨_, rfl⟩
          rw [← hs] at e0 e1 hne
          obtain ⟨t, u⟩ := s
          have d1 : (q : Int) < (l.length : Int) := by omega
          have d2 : (q : Int) < 40 := by have := P2.out.len; omega
          have hEq := fun w => stampEq t u N q1 w
          rw [decide_eq_false hne] at hEq
          have hS0 : (wr.drew.cell? ⟨b, off + q * 2, none⟩ = some (.int .i64 t) ∧ wr.drew.cell? ⟨b, off + q * 2 + 1, none⟩ = some (.int .i64 u)) ∧ (wr.drew.cell? ⟨h, 0, none⟩ = some (.int .i64 N) ∧ wr.drew.cell? ⟨h, 1, none⟩ = some (.int .i64 q1)) := ⟨⟨by rw [hbj.out.drew.cell (World.block_lt_of_cell? V1 _ e0)]; exact e0, by rw [hbj.out.drew.cell (World.block_lt_of_cell? V1 _ e1)]; exact e1⟩, (HA.out _ hbj.out.drew).1⟩
          clear e0 e1 hne hs hcl
          go_wp2_with fail
          refine wp_region_noPanic ?_
          refine wp_region_held_drew (S := fun w' => (w'.cell? ⟨b, off + q * 2, none⟩ = some (.int .i64 t) ∧ w'.cell? ⟨b, off + q * 2 + 1, none⟩ = some (.int .i64 u)) ∧ (w'.cell? ⟨h, 0, none⟩ = some (.int .i64 N) ∧ w'.cell? ⟨h, 1, none⟩ = some (.int .i64 q1))) (by kernel_rfl) (by first | exact trivial | assumption | exact ⟨by assumption, by assumption⟩) (fun hHeld => ?_)
          refine take_at (i := 0) (v := ?_) rfl rfl (by kernel_rfl) (by kernel_rfl) (by kernel_rfl) (fun _ _ _ h => h) (Or.inl ⟨by rfl, ?_⟩) (by assumption) ?_
          rotate_left
          · intro w hSw; (try dsimp only at hSw); go_simp; try with_reducible rfl
          try simp only [Act.put, List.setIfInBounds_toArray, List.set_cons_zero, List.set_cons_succ]
          refine take_at (i := 1) (v := ?_) rfl rfl (by kernel_rfl) (by kernel_rfl) (by kernel_rfl) (fun _ _ _ h => h) (Or.inl ⟨by rfl, ?_⟩) (by assumption) ?_
          rotate_left
          · intro w hSw; (try dsimp only at hSw); go_simp; try with_reducible rfl
          try simp only [Act.put, List.setIfInBounds_toArray, List.set_cons_zero, List.set_cons_succ]
          refine take_at (i := 2) (v := ?_) rfl rfl (by kernel_rfl) (by kernel_rfl) (by kernel_rfl) (fun _ _ _ h => h) (Or.inl ⟨by rfl, ?_⟩) (by assumption) ?_
          rotate_left
          · intro w hSw; (try dsimp only at hSw); go_simp; try with_reducible rfl
          try simp only [Act.put, List.setIfInBounds_toArray, List.set_cons_zero, List.set_cons_succ]
          refine take_at (i := 3) (v := ?_) rfl rfl (by kernel_rfl) (by kernel_rfl) (by kernel_rfl) (fun _ _ _ h => h) (Or.inl ⟨by rfl, ?_⟩) (by assumption) ?_
          rotate_left
          · intro w hSw; (try dsimp only at hSw); go_simp; try with_reducible rfl
          try simp only [Act.put, List.setIfInBounds_toArray, List.set_cons_zero, List.set_cons_succ]
          refine take_at (i := 4) (v := ?_) rfl rfl (by kernel_rfl) (by kernel_rfl) (by kernel_rfl) (fun _ _ _ h => h) (Or.inl ⟨by rfl, ?_⟩) (by assumption) ?_
          rotate_left
          · intro w hSw; (try dsimp only at hSw); go_simp; try with_reducible rfl
          try simp only [Act.put, List.setIfInBounds_toArray, List.set_cons_zero, List.set_cons_succ]
          refine take_at (i := 5) (v := ?_) rfl rfl (by kernel_rfl) (by kernel_rfl) (by kernel_rfl) (fun _ _ _ h => h) (Or.inl ⟨by rfl, ?_⟩) (by assumption) ?_
          rotate_left
          · intro w hSw; (try dsimp only at hSw); go_simp; try with_reducible rfl
          try simp only [Act.put, List.setIfInBounds_toArray, List.set_cons_zero, List.set_cons_succ]
          refine wpAnyH_done (by kernel_rfl) (NoPanic.normal ?_) _
          clear hS0
          have hbj2 : Hid (Below V1.heap.size V1 wr.drew) := hbj.out.drew
          go_wp2
          refine ⟨⟨q + 1, by omega, by go_num, hbj2⟩, ?_⟩
          simp [intOf]; omega
        · have hql' : q = l.length := by omega
          subst hql'
          obtain ⟨⟨e0, e1⟩, e2, e3⟩ := HA.out _ hbj.out
          have hl40 : l.length ≤ 40 := by have := P2.out.len; omega
          by_cases hy0 : y = 0
          · subst hy0
            go_wp2_with (at_builtin; refine wpList_appR2 rfl (.tmp 95) (.tmp 97) 29 rfl (bc + 2) 23 i0 _ 2 16 Try.underlying29 hi hz0 hz1 hz2 rfl (by decide) wr (.slice a l.length cap) _ _ rfl (show World.ownsRow _ _ _ _ _ _ _ from owns_on O2.out hbj.out) #[.int .i64 N, .int .i64 q1] rfl (stampA_one (N, q1)) rfl (by omega) (by unfold maxLen; omega) (by have a := LB1.out; have b := hbv.out.size; have c := hbj.out.size; omega) ?_)
            intro v4 w4 hown4 hgr4
            obtain ⟨S4, L4, C4, H4, K4, B4, LB4⟩ := two_on hbj.out hbv.out S1.out L1.out C1.out H1.out K1.out B1.out LB1.out OH.out hgr4 (by have := HGM.out; omega) (by have := HGR.out; omega) (fun j hj => (World.ownsRow.lt O1.out j hj).1) (by have := HGM.out; omega)
            have O4 : Hid (OwnS w4 (bc + 2) v4 (l ++ [(N, q1)])) := by
              show World.ownsRow _ _ _ _ _ _ _
              rw [cellsS_snoc, List.length_append]; exact hown4
            clear hown4 hgr4 e0 e1 e2 e3
            have l0 : w4.cell? ⟨bc + 1, 0, none⟩ = some (.int .i64 x) := L4.out.cell 0
            have l1 : w4.cell? ⟨bc + 1, 1, none⟩ = some (.int .i64 _) := L4.out.cell 1
            have f0 := L4.out.free 0
            have f1 := L4.out.free 1
            obtain ⟨V5, hV5⟩ : ∃ V5, V5 = (w4.setCell ⟨bc + 1, 0, none⟩ (.int .i64 0)).setCell ⟨bc + 1, 1, none⟩ (.int .i64 0) := ⟨_, rfl⟩
            obtain ⟨S5, L5, C5, H5, K5, B5, LB5, O5⟩ := two_set hV5 S4.out L4.out C4.out H4.out K4.out B4.out LB4.out O4.out LH.out HGM.out HGR.out
            have HV5 : Hid (V5 = (w4.setCell ⟨bc + 1, 0, none⟩ (.int .i64 0)).setCell ⟨bc + 1, 1, none⟩ (.int .i64 0)) := hV5
            clear hV5 S4 L4 C4 H4 K4 B4 LB4 O4 hbj
            by_cases hz1' : z = 1
            · subst hz1'
              go_wp2_with fail
              rw [← HV5.out]
              clear HV5 l0 l1 f0 f1
              have hS0 : V5.drew.cell? ⟨bc, r, none⟩ = some (.pointer (some ⟨G r, 0, none⟩)) ∧ V5.drew.cell? ⟨h, 0, none⟩ = some (.int .i64 N) ∧ V5.drew.cell? ⟨h, 1, none⟩ = some (.int .i64 q1) := ⟨(HC.out _ (C5.out.on (Below.refl _ _).drew)).2, (S5.out.on (Below.refl _ _).drew).cell 0, (S5.out.on (Below.refl _ _).drew).cell 1⟩
              refine wp_region_noPanic ?_
              refine wp_region_held_drew (S := fun w' => w'.cell? ⟨bc, r, none⟩ = some (.pointer (some ⟨G r, 0, none⟩)) ∧ w'.cell? ⟨h, 0, none⟩ = some (.int .i64 N) ∧ w'.cell? ⟨h, 1, none⟩ = some (.int .i64 q1)) (by kernel_rfl) (by first | exact trivial | assumption | exact ⟨by assumption, by assumption⟩) (fun hHeld => ?_)
              refine take_at (i := 0) (v := ?_) rfl rfl (by kernel_rfl) (by kernel_rfl) (by kernel_rfl) (fun _ _ _ h => h) (Or.inl ⟨by rfl, ?_⟩) (by assumption) ?_
              rotate_left
              · intro w hSw; (try dsimp only at hSw); go_simp; try with_reducible rfl
              try simp only [Act.put, List.setIfInBounds_toArray, List.set_cons_zero, List.set_cons_succ]
              refine take_at (i := 1) (v := ?_) rfl rfl (by kernel_rfl) (by kernel_rfl) (by kernel_rfl) (fun _ _ _ h => h) (Or.inl ⟨by rfl, ?_⟩) (by assumption) ?_
              rotate_left
              · intro w hSw; (try dsimp only at hSw); go_simp; try with_reducible rfl
              try simp only [Act.put, List.setIfInBounds_toArray, List.set_cons_zero, List.set_cons_succ]
              refine take_at (i := 2) (v := ?_) rfl rfl (by kernel_rfl) (by kernel_rfl) (by kernel_rfl) (fun _ _ _ h => h) (Or.inl ⟨by rfl, ?_⟩) (by assumption) ?_
              rotate_left
              · intro w hSw; (try dsimp only at hSw); go_simp; try with_reducible rfl
              try simp only [Act.put, List.setIfInBounds_toArray, List.set_cons_zero, List.set_cons_succ]
              refine take_at (i := 3) (v := ?_) rfl rfl (by kernel_rfl) (by kernel_rfl) (by kernel_rfl) (fun _ _ _ h => h) (Or.inl ⟨by rfl, ?_⟩) (by assumption) ?_
              rotate_left
              · intro w hSw; (try dsimp only at hSw); go_simp; try with_reducible rfl
              try simp only [Act.put, List.setIfInBounds_toArray, List.set_cons_zero, List.set_cons_succ]
              refine take_at (i := 4) (v := ?_) rfl rfl (by kernel_rfl) (by kernel_rfl) (by kernel_rfl) (fun _ _ _ h => h) (Or.inl ⟨by rfl, ?_⟩) (by assumption) ?_
              rotate_left
              · intro w hSw; (try dsimp only at hSw); go_simp; try with_reducible rfl
              try simp only [Act.put, List.setIfInBounds_toArray, List.set_cons_zero, List.set_cons_succ]
              refine wpAnyH_ready (rs := [5]) (by kernel_rfl) (by simp) ?_
              refine AllReadyH.cons rfl (fun K hK => ?_) AllReadyH.nil
              go_simp
              have CS := csee_any (G r) ((r : Int) + 1, T r) (N, q1) V5.drew (K5.out.on (Below.refl _ _).drew)
              rw [if_pos HM.out] at CS
              refine CS.mono ?_
              clear CS
              rintro e w6 ⟨rfl, h6⟩
              obtain ⟨S6, L6, C6, H6, K6, B6, LB6, O6⟩ := two_see h6 S5.out L5.out C5.out H5.out B5.out LB5.out O5.out LH.out HGR.out hGn.out
              clear h6 S5 L5 C5 H5 K5 B5 LB5 O5
              refine hK.out _ _ ⟨(HC.out _ C6.out).2, S6.out.cell 0, S6.out.cell 1⟩ (fun hHeld => ?_)
              clear hK K
              refine take_at (i := 6) (v := ?_) rfl rfl (by kernel_rfl) (by kernel_rfl) (by kernel_rfl) (fun _ _ _ h => h) (Or.inl ⟨by rfl, ?_⟩) (by assumption) ?_
              rotate_left
              · intro w hSw; (try dsimp only at hSw); go_simp; try with_reducible rfl
              try simp only [Act.put, List.setIfInBounds_toArray, List.set_cons_zero, List.set_cons_succ]
              refine wpAnyH_done (by kernel_rfl) (NoPanic.normal ?_) _
              have s0 : w6.cell? ⟨h, 0, none⟩ = some (.int .i64 N) := S6.out.cell 0
              have s1 : w6.cell? ⟨h, 1, none⟩ = some (.int .i64 q1) := S6.out.cell 1
              have l0 : w6.cell? ⟨bc + 1, 0, none⟩ = some (.int .i64 0) := L6.out.cell 0
              have l1 : w6.cell? ⟨bc + 1, 1, none⟩ = some (.int .i64 0) := L6.out.cell 1
              have f0 := L6.out.free 0
              have f1 := L6.out.free 1
              obtain ⟨V7, hV7⟩ : ∃ V7, V7 = (w6.setCell ⟨bc + 1, 0, none⟩ (.int .i64 N)).setCell ⟨bc + 1, 1, none⟩ (.int .i64 q1) := ⟨_, rfl⟩
              obtain ⟨S7, L7, C7, H7, K7, B7, LB7, O7⟩ := two_set hV7 S6.out L6.out C6.out H6.out K6.out B6.out LB6.out O6.out LH.out HGM.out HGR.out
              have HV7 : Hid (V7 = (w6.setCell ⟨bc + 1, 0, none⟩ (.int .i64 N)).setCell ⟨bc + 1, 1, none⟩ (.int .i64 q1)) := hV7
              clear hV7 S6 L6 C6 H6 K6 B6 LB6 O6 hHeld
              go_wp2
              rw [← HV7.out]
              refine ⟨⟨k + 1, l ++ [(N, q1)], atT (atT T m N) r (max (T r) N), N, q1, by omega, by go_num, O7, ?_, C7, L7, B7, ?_, LB7⟩, ?_⟩
              · intro i hi
                have hr := HR.out
                rcases (show i = m ∨ i = r by omega) with e | e
                · subst e
                  rw [show atT (atT T i N) r (max (T r) N) i = N by unfold atT; rw [if_neg (by omega), if_pos rfl]]
                  exact H7.out
                · subst e
                  rw [show atT (atT T m N) i (max (T i) N) i = max (T i) N by unfold atT; rw [if_pos rfl]]
                  have hq := HQ.out
                  have hM2 := HM.out
                  rw [hq] at hM2
                  have e2 := seen10 i (T i) N m hM2
                  rw [← hq] at e2
                  rw [← e2]
                  exact K7.out
              · have := two_seen m r P2.out hm2 HR.out
                rw [← HNT.out, ← HQ.out] at this
                exact this
              · simp [intOf]; omega
            · have hz0' : z = 0 := by omega
              subst hz0'
              go_wp2
              rw [← HV5.out]
              refine ⟨⟨k + 1, l ++ [(N, q1)], atT T m N, 0, 0, by omega, by go_num, O5, ?_, C5, L5, B5, ?_, LB5⟩, ?_⟩
              · intro i hi
                have hr := HR.out
                rcases (show i = m ∨ i = r by omega) with e | e
                · subst e
                  rw [show atT T i N i = N by unfold atT; rw [if_pos rfl]]
                  have hq := HQ.out
                  exact H5.out
                · subst e
                  rw [show atT T m N i = T i by unfold atT; rw [if_neg (by omega)]]
                  exact K5.out
              · have := two_not m P2.out hm2
                rw [← HNT.out, ← HQ.out] at this
                exact this
              · simp [intOf]; omega
          · have g0 : (y == 0) = false := by rw [beq_eq_false_iff_ne]; exact hy0
            by_cases hym : y = q1
            · have hy2 := hym.symm
              clear hym
              subst hy2
              go_wp2_with (at_builtin; refine wpList_appR2 rfl (.tmp 95) (.tmp 97) 29 rfl (bc + 2) 23 i0 _ 2 16 Try.underlying29 hi hz0 hz1 hz2 rfl (by decide) wr (.slice a l.length cap) _ _ rfl (show World.ownsRow _ _ _ _ _ _ _ from owns_on O2.out hbj.out) #[.int .i64 N, .int .i64 q1] rfl (stampA_one (N, q1)) rfl (by omega) (by unfold maxLen; omega) (by have a := LB1.out; have b := hbv.out.size; have c := hbj.out.size; omega) ?_)
              intro v4 w4 hown4 hgr4
              obtain ⟨S4, L4, C4, H4, K4, B4, LB4⟩ := two_on hbj.out hbv.out S1.out L1.out C1.out H1.out K1.out B1.out LB1.out OH.out hgr4 (by have := HGM.out; omega) (by have := HGR.out; omega) (fun j hj => (World.ownsRow.lt O1.out j hj).1) (by have := HGM.out; omega)
              have O4 : Hid (OwnS w4 (bc + 2) v4 (l ++ [(N, q1)])) := by
                show World.ownsRow _ _ _ _ _ _ _
                rw [cellsS_snoc, List.length_append]; exact hown4
              clear hown4 hgr4 e0 e1 e2 e3
              have l0 : w4.cell? ⟨bc + 1, 0, none⟩ = some (.int .i64 x) := L4.out.cell 0
              have l1 : w4.cell? ⟨bc + 1, 1, none⟩ = some (.int .i64 _) := L4.out.cell 1
              have f0 := L4.out.free 0
              have f1 := L4.out.free 1
              obtain ⟨V5, hV5⟩ : ∃ V5, V5 = (w4.setCell ⟨bc + 1, 0, none⟩ (.int .i64 0)).setCell ⟨bc + 1, 1, none⟩ (.int .i64 0) := ⟨_, rfl⟩
              obtain ⟨S5, L5, C5, H5, K5, B5, LB5, O5⟩ := two_set hV5 S4.out L4.out C4.out H4.out K4.out B4.out LB4.out O4.out LH.out HGM.out HGR.out
              have HV5 : Hid (V5 = (w4.setCell ⟨bc + 1, 0, none⟩ (.int .i64 0)).setCell ⟨bc + 1, 1, none⟩ (.int .i64 0)) := hV5
              clear hV5 S4 L4 C4 H4 K4 B4 LB4 O4 hbj
              by_cases hz1' : z = 1
              · subst hz1'
                go_wp2_with fail
                rw [← HV5.out]
                clear HV5 l0 l1 f0 f1
                have hS0 : V5.drew.cell? ⟨bc, r, none⟩ = some (.pointer (some ⟨G r, 0, none⟩)) ∧ V5.drew.cell? ⟨h, 0, none⟩ = some (.int .i64 N) ∧ V5.drew.cell? ⟨h, 1, none⟩ = some (.int .i64 q1) := ⟨(HC.out _ (C5.out.on (Below.refl _ _).drew)).2, (S5.out.on (Below.refl _ _).drew).cell 0, (S5.out.on (Below.refl _ _).drew).cell 1⟩
                refine wp_region_noPanic ?_
                refine wp_region_held_drew (S := fun w' => w'.cell? ⟨bc, r, none⟩ = some (.pointer (some ⟨G r, 0, none⟩)) ∧ w'.cell? ⟨h, 0, none⟩ = some (.int .i64 N) ∧ w'.cell? ⟨h, 1, none⟩ = some (.int .i64 q1)) (by kernel_rfl) (by first | exact trivial | assumption | exact ⟨by assumption, by assumption⟩) (fun hHeld => ?_)
                refine take_at (i := 0) (v := ?_) rfl rfl (by kernel_rfl) (by kernel_rfl) (by kernel_rfl) (fun _ _ _ h => h) (Or.inl ⟨by rfl, ?_⟩) (by assumption) ?_
                rotate_left
                · intro w hSw; (try dsimp only at hSw); go_simp; try with_reducible rfl
                try simp only [Act.put, List.setIfInBounds_toArray, List.set_cons_zero, List.set_cons_succ]
                refine take_at (i := 1) (v := ?_) rfl rfl (by kernel_rfl) (by kernel_rfl) (by kernel_rfl) (fun _ _ _ h => h) (Or.inl ⟨by rfl, ?_⟩) (by assumption) ?_
                rotate_left
                · intro w hSw; (try dsimp only at hSw); go_simp; try with_reducible rfl
                try simp only [Act.put, List.setIfInBounds_toArray, List.set_cons_zero, List.set_cons_succ]
                refine take_at (i := 2) (v := ?_) rfl rfl (by kernel_rfl) (by kernel_rfl) (by kernel_rfl) (fun _ _ _ h => h) (Or.inl ⟨by rfl, ?_⟩) (by assumption) ?_
                rotate_left
                · intro w hSw; (try dsimp only at hSw); go_simp; try with_reducible rfl
                try simp only [Act.put, List.setIfInBounds_toArray, List.set_cons_zero, List.set_cons_succ]
                refine take_at (i := 3) (v := ?_) rfl rfl (by kernel_rfl) (by kernel_rfl) (by kernel_rfl) (fun _ _ _ h => h) (Or.inl ⟨by rfl, ?_⟩) (by assumption) ?_
                rotate_left
                · intro w hSw; (try dsimp only at hSw); go_simp; try with_reducible rfl
                try simp only [Act.put, List.setIfInBounds_toArray, List.set_cons_zero, List.set_cons_succ]
                refine take_at (i := 4) (v := ?_) rfl rfl (by kernel_rfl) (by kernel_rfl) (by kernel_rfl) (fun _ _ _ h => h) (Or.inl ⟨by rfl, ?_⟩) (by assumption) ?_
                rotate_left
                · intro w hSw; (try dsimp only at hSw); go_simp; try with_reducible rfl
                try simp only [Act.put, List.setIfInBounds_toArray, List.set_cons_zero, List.set_cons_succ]
                refine wpAnyH_ready (rs := [5]) (by kernel_rfl) (by simp) ?_
                refine AllReadyH.cons rfl (fun K hK => ?_) AllReadyH.nil
                go_simp
                have CS := csee_any (G r) ((r : Int) + 1, T r) (N, q1) V5.drew (K5.out.on (Below.refl _ _).drew)
                rw [if_pos HM.out] at CS
                refine CS.mono ?_
                clear CS
                rintro e w6 ⟨rfl, h6⟩
                obtain ⟨S6, L6, C6, H6, K6, B6, LB6, O6⟩ := two_see h6 S5.out L5.out C5.out H5.out B5.out LB5.out O5.out LH.out HGR.out hGn.out
                clear h6 S5 L5 C5 H5 K5 B5 LB5 O5
                refine hK.out _ _ ⟨(HC.out _ C6.out).2, S6.out.cell 0, S6.out.cell 1⟩ (fun hHeld => ?_)
                clear hK K
                refine take_at (i := 6) (v := ?_) rfl rfl (by kernel_rfl) (by kernel_rfl) (by kernel_rfl) (fun _ _ _ h => h) (Or.inl ⟨by rfl, ?_⟩) (by assumption) ?_
                rotate_left
                · intro w hSw; (try dsimp only at hSw); go_simp; try with_reducible rfl
                try simp only [Act.put, List.setIfInBounds_toArray, List.set_cons_zero, List.set_cons_succ]
                refine wpAnyH_done (by kernel_rfl) (NoPanic.normal ?_) _
                have s0 : w6.cell? ⟨h, 0, none⟩ = some (.int .i64 N) := S6.out.cell 0
                have s1 : w6.cell? ⟨h, 1, none⟩ = some (.int .i64 q1) := S6.out.cell 1
                have l0 : w6.cell? ⟨bc + 1, 0, none⟩ = some (.int .i64 0) := L6.out.cell 0
                have l1 : w6.cell? ⟨bc + 1, 1, none⟩ = some (.int .i64 0) := L6.out.cell 1
                have f0 := L6.out.free 0
                have f1 := L6.out.free 1
                obtain ⟨V7, hV7⟩ : ∃ V7, V7 = (w6.setCell ⟨bc + 1, 0, none⟩ (.int .i64 N)).setCell ⟨bc + 1, 1, none⟩ (.int .i64 q1) := ⟨_, rfl⟩
                obtain ⟨S7, L7, C7, H7, K7, B7, LB7, O7⟩ := two_set hV7 S6.out L6.out C6.out H6.out K6.out B6.out LB6.out O6.out LH.out HGM.out HGR.out
                have HV7 : Hid (V7 = (w6.setCell ⟨bc + 1, 0, none⟩ (.int .i64 N)).setCell ⟨bc + 1, 1, none⟩ (.int .i64 q1)) := hV7
                clear hV7 S6 L6 C6 H6 K6 B6 LB6 O6 hHeld
                go_wp2
                rw [← HV7.out]
                refine ⟨⟨k + 1, l ++ [(N, q1)], atT (atT T m N) r (max (T r) N), N, q1, by omega, by go_num, O7, ?_, C7, L7, B7, ?_, LB7⟩, ?_⟩
                · intro i hi
                  have hr := HR.out
                  rcases (show i = m ∨ i = r by omega) with e | e
                  · subst e
                    rw [show atT (atT T i N) r (max (T r) N) i = N by unfold atT; rw [if_neg (by omega), if_pos rfl]]
                    exact H7.out
                  · subst e
                    rw [show atT (atT T m N) i (max (T i) N) i = max (T i) N by unfold atT; rw [if_pos rfl]]
                    have hq := HQ.out
                    have hM2 := HM.out
                    rw [hq] at hM2
                    have e2 := seen10 i (T i) N m hM2
                    rw [← hq] at e2
                    rw [← e2]
                    exact K7.out
                · have := two_seen m r P2.out hm2 HR.out
                  rw [← HNT.out, ← HQ.out] at this
                  exact this
                · simp [intOf]; omega
              · have hz0' : z = 0 := by omega
                subst hz0'
                go_wp2
                rw [← HV5.out]
                refine ⟨⟨k + 1, l ++ [(N, q1)], atT T m N, 0, 0, by omega, by go_num, O5, ?_, C5, L5, B5, ?_, LB5⟩, ?_⟩
                · intro i hi
                  have hr := HR.out
                  rcases (show i = m ∨ i = r by omega) with e | e
                  · subst e
                    rw [show atT T i N i = N by unfold atT; rw [if_pos rfl]]
                    have hq := HQ.out
                    exact H5.out
                  · subst e
                    rw [show atT T m N i = T i by unfold atT; rw [if_neg (by omega)]]
                    exact K5.out
                · have := two_not m P2.out hm2
                  rw [← HNT.out, ← HQ.out] at this
                  exact this
                · simp [intOf]; omega
            · have g1 : (y == q1) = false := by rw [beq_eq_false_iff_ne]; exact hym
              have hLe := HY.out hy0 hym
              have C1 := less_any (x, y) (N, q1) wr
              rw [decide_eq_true hLe] at C1
              have C2 : Hid (Calls Try.prog 9 #[.agg #[.int .i64 x, .int .i64 y], .agg #[.int .i64 N, .int .i64 q1]] wr fun e w' => e = .returned (.bool true) ∧ Below wr.heap.size wr w') := C1
              clear hLe C1
              go_wp2_with fail
              refine Calls.mono C2.out ?_
              clear C2 e0 e1 e2 e3
              rintro e w3 ⟨rfl, hb3⟩
              have hbj2 : Hid (Below V1.heap.size V1 w3) := below_step hbj.out (Nat.le_refl _) hb3
              clear hbj hb3
              have hbj := hbj2
              clear hbj2
              obtain ⟨⟨e0, e1⟩, e2, e3⟩ := HA.out _ hbj.out
              go_wp2_with (at_builtin; refine wpList_appR2 rfl (.tmp 95) (.tmp 97) 29 rfl (bc + 2) 23 i0 _ 2 16 Try.underlying29 hi hz0 hz1 hz2 rfl (by decide) w3 (.slice a l.length cap) _ _ rfl (show World.ownsRow _ _ _ _ _ _ _ from owns_on O2.out hbj.out) #[.int .i64 N, .int .i64 q1] rfl (stampA_one (N, q1)) rfl (by omega) (by unfold maxLen; omega) (by have a := LB1.out; have b := hbv.out.size; have c := hbj.out.size; omega) ?_)
              intro v4 w4 hown4 hgr4
              obtain ⟨S4, L4, C4, H4, K4, B4, LB4⟩ := two_on hbj.out hbv.out S1.out L1.out C1.out H1.out K1.out B1.out LB1.out OH.out hgr4 (by have := HGM.out; omega) (by have := HGR.out; omega) (fun j hj => (World.ownsRow.lt O1.out j hj).1) (by have := HGM.out; omega)
              have O4 : Hid (OwnS w4 (bc + 2) v4 (l ++ [(N, q1)])) := by
                show World.ownsRow _ _ _ _ _ _ _
                rw [cellsS_snoc, List.length_append]; exact hown4
              clear hown4 hgr4 e0 e1 e2 e3
              have l0 : w4.cell? ⟨bc + 1, 0, none⟩ = some (.int .i64 x) := L4.out.cell 0
              have l1 : w4.cell? ⟨bc + 1, 1, none⟩ = some (.int .i64 _) := L4.out.cell 1
              have f0 := L4.out.free 0
              have f1 := L4.out.free 1
              obtain ⟨V5, hV5⟩ : ∃ V5, V5 = (w4.setCell ⟨bc + 1, 0, none⟩ (.int .i64 0)).setCell ⟨bc + 1, 1, none⟩ (.int .i64 0) := ⟨_, rfl⟩
              obtain ⟨S5, L5, C5, H5, K5, B5, LB5, O5⟩ := two_set hV5 S4.out L4.out C4.out H4.out K4.out B4.out LB4.out O4.out LH.out HGM.out HGR.out
              have HV5 : Hid (V5 = (w4.setCell ⟨bc + 1, 0, none⟩ (.int .i64 0)).setCell ⟨bc + 1, 1, none⟩ (.int .i64 0)) := hV5
              clear hV5 S4 L4 C4 H4 K4 B4 LB4 O4 hbj
              by_cases hz1' : z = 1
              · subst hz1'
                go_wp2_with fail
                rw [← HV5.out]
                clear HV5 l0 l1 f0 f1
                have hS0 : V5.drew.cell? ⟨bc, r, none⟩ = some (.pointer (some ⟨G r, 0, none⟩)) ∧ V5.drew.cell? ⟨h, 0, none⟩ = some (.int .i64 N) ∧ V5.drew.cell? ⟨h, 1, none⟩ = some (.int .i64 q1) := ⟨(HC.out _ (C5.out.on (Below.refl _ _).drew)).2, (S5.out.on (Below.refl _ _).drew).cell 0, (S5.out.on (Below.refl _ _).drew).cell 1⟩
                refine wp_region_noPanic ?_
                refine wp_region_held_drew (S := fun w' => w'.cell? ⟨bc, r, none⟩ = some (.pointer (some ⟨G r, 0, none⟩)) ∧ w'.cell? ⟨h, 0, none⟩ = some (.int .i64 N) ∧ w'.cell? ⟨h, 1, none⟩ = some (.int .i64 q1)) (by kernel_rfl) (by first | exact trivial | assumption | exact ⟨by assumption, by assumption⟩) (fun hHeld => ?_)
                refine take_at (i := 0) (v := ?_) rfl rfl (by kernel_rfl) (by kernel_rfl) (by kernel_rfl) (fun _ _ _ h => h) (Or.inl ⟨by rfl, ?_⟩) (by assumption) ?_
                rotate_left
                · intro w hSw; (try dsimp only at hSw); go_simp; try with_reducible rfl
                try simp only [Act.put, List.setIfInBounds_toArray, List.set_cons_zero, List.set_cons_succ]
                refine take_at (i := 1) (v := ?_) rfl rfl (by kernel_rfl) (by kernel_rfl) (by kernel_rfl) (fun _ _ _ h => h) (Or.inl ⟨by rfl, ?_⟩) (by assumption) ?_
                rotate_left
                · intro w hSw; (try dsimp only at hSw); go_simp; try with_reducible rfl
                try simp only [Act.put, List.setIfInBounds_toArray, List.set_cons_zero, List.set_cons_succ]
                refine take_at (i := 2) (v := ?_) rfl rfl (by kernel_rfl) (by kernel_rfl) (by kernel_rfl) (fun _ _ _ h => h) (Or.inl ⟨by rfl, ?_⟩) (by assumption) ?_
                rotate_left
                · intro w hSw; (try dsimp only at hSw); go_simp; try with_reducible rfl
                try simp only [Act.put, List.setIfInBounds_toArray, List.set_cons_zero, List.set_cons_succ]
                refine take_at (i := 3) (v := ?_) rfl rfl (by kernel_rfl) (by kernel_rfl) (by kernel_rfl) (fun _ _ _ h => h) (Or.inl ⟨by rfl, ?_⟩) (by assumption) ?_
                rotate_left
                · intro w hSw; (try dsimp only at hSw); go_simp; try with_reducible rfl
                try simp only [Act.put, List.setIfInBounds_toArray, List.set_cons_zero, List.set_cons_succ]
                refine take_at (i := 4) (v := ?_) rfl rfl (by kernel_rfl) (by kernel_rfl) (by kernel_rfl) (fun _ _ _ h => h) (Or.inl ⟨by rfl, ?_⟩) (by assumption) ?_
                rotate_left
                · intro w hSw; (try dsimp only at hSw); go_simp; try with_reducible rfl
                try simp only [Act.put, List.setIfInBounds_toArray, List.set_cons_zero, List.set_cons_succ]
                refine wpAnyH_ready (rs := [5]) (by kernel_rfl) (by simp) ?_
                refine AllReadyH.cons rfl (fun K hK => ?_) AllReadyH.nil
                go_simp
                have CS := csee_any (G r) ((r : Int) + 1, T r) (N, q1) V5.drew (K5.out.on (Below.refl _ _).drew)
                rw [if_pos HM.out] at CS
                refine CS.mono ?_
                clear CS
                rintro e w6 ⟨rfl, h6⟩
                obtain ⟨S6, L6, C6, H6, K6, B6, LB6, O6⟩ := two_see h6 S5.out L5.out C5.out H5.out B5.out LB5.out O5.out LH.out HGR.out hGn.out
                clear h6 S5 L5 C5 H5 K5 B5 LB5 O5
                refine hK.out _ _ ⟨(HC.out _ C6.out).2, S6.out.cell 0, S6.out.cell 1⟩ (fun hHeld => ?_)
                clear hK K
                refine take_at (i := 6) (v := ?_) rfl rfl (by kernel_rfl) (by kernel_rfl) (by kernel_rfl) (fun _ _ _ h => h) (Or.inl ⟨by rfl, ?_⟩) (by assumption) ?_
                rotate_left
                · intro w hSw; (try dsimp only at hSw); go_simp; try with_reducible rfl
                try simp only [Act.put, List.setIfInBounds_toArray, List.set_cons_zero, List.set_cons_succ]
                refine wpAnyH_done (by kernel_rfl) (NoPanic.normal ?_) _
                have s0 : w6.cell? ⟨h, 0, none⟩ = some (.int .i64 N) := S6.out.cell 0
                have s1 : w6.cell? ⟨h, 1, none⟩ = some (.int .i64 q1) := S6.out.cell 1
                have l0 : w6.cell? ⟨bc + 1, 0, none⟩ = some (.int .i64 0) := L6.out.cell 0
                have l1 : w6.cell? ⟨bc + 1, 1, none⟩ = some (.int .i64 0) := L6.out.cell 1
                have f0 := L6.out.free 0
                have f1 := L6.out.free 1
                obtain ⟨V7, hV7⟩ : ∃ V7, V7 = (w6.setCell ⟨bc + 1, 0, none⟩ (.int .i64 N)).setCell ⟨bc + 1, 1, none⟩ (.int .i64 q1) := ⟨_, rfl⟩
                obtain ⟨S7, L7, C7, H7, K7, B7, LB7, O7⟩ := two_set hV7 S6.out L6.out C6.out H6.out K6.out B6.out LB6.out O6.out LH.out HGM.out HGR.out
                have HV7 : Hid (V7 = (w6.setCell ⟨bc + 1, 0, none⟩ (.int .i64 N)).setCell ⟨bc + 1, 1, none⟩ (.int .i64 q1)) := hV7
                clear hV7 S6 L6 C6 H6 K6 B6 LB6 O6 hHeld
                go_wp2
                rw [← HV7.out]
                refine ⟨⟨k + 1, l ++ [(N, q1)], atT (atT T m N) r (max (T r) N), N, q1, by omega, by go_num, O7, ?_, C7, L7, B7, ?_, LB7⟩, ?_⟩
                · intro i hi
                  have hr := HR.out
                  rcases (show i = m ∨ i = r by omega) with e | e
                  · subst e
                    rw [show atT (atT T i N) r (max (T r) N) i = N by unfold atT; rw [if_neg (by omega), if_pos rfl]]
                    exact H7.out
                  · subst e
                    rw [show atT (atT T m N) i (max (T i) N) i = max (T i) N by unfold atT; rw [if_pos rfl]]
                    have hq := HQ.out
                    have hM2 := HM.out
                    rw [hq] at hM2
                    have e2 := seen10 i (T i) N m hM2
                    rw [← hq] at e2
                    rw [← e2]
                    exact K7.out
                · have := two_seen m r P2.out hm2 HR.out
                  rw [← HNT.out, ← HQ.out] at this
                  exact this
                · simp [intOf]; omega
              · have hz0' : z = 0 := by omega
                subst hz0'
                go_wp2
                rw [← HV5.out]
                refine ⟨⟨k + 1, l ++ [(N, q1)], atT T m N, 0, 0, by omega, by go_num, O5, ?_, C5, L5, B5, ?_, LB5⟩, ?_⟩
                · intro i hi
                  have hr := HR.out
                  rcases (show i = m ∨ i = r by omega) with e | e
                  · subst e
                    rw [show atT T i N i = N by unfold atT; rw [if_pos rfl]]
                    have hq := HQ.out
                    exact H5.out
                  · subst e
                    rw [show atT T m N i = T i by unfold atT; rw [if_neg (by omega)]]
                    exact K5.out
                · have := two_not m P2.out hm2
                  rw [← HNT.out, ← HQ.out] at this
                  exact this
                · simp [intOf]; omega
    · have hend : Hid (Below W.heap.size W wr) := B
      clear H C L O B
      have hk40 : k = 40 := by omega
      subst hk40
      go_wp2_with fail
      refine (awake10 _).mono ?_
      rintro e w2 ⟨rfl, hb2⟩
      have HB2 : Hid (Below W.heap.size W w2) := below_step hend.out (Nat.le_refl _) hb2
      clear hb2
      go_wp2
      go_ret
      exact ⟨rfl, HB2.out⟩
end Go.Proofs.Ytegbjglkglmgiaa
