/- Layer 20, the code's: Take. -/
import Derived.Test.YtkmdajenbidaaaaDoorGpN
import Derived.Test.YtkmdajenbidaaaaDoorGpJ
import Derived.Test.YtkmdajenbidaaaaDoorC9
namespace Go.Proofs.YtkmdajenbidaaaaDoor
open Go.RowKit
set_option maxRecDepth 100000
set_option linter.unusedSimpArgs false
set_option linter.unusedVariables false
set_option maxRecDepth 100000

/-- A group and an error, handed out. -/
def TakenG (w : World) (X : GrpT × Int) (e : Ending) (w' : World) : Prop := ∃ a c, e = .returned (.tuple #[.agg (grpA X.1 a c), .int .i64 X.2]) ∧ X.1.2.1.length ≤ c ∧ c ≤ 9223372036854775807 ∧ MmsAt w' a X.1.2.1.length X.1.2.1 ∧ Below w.heap.size w w'
theorem MmsAt.nil (w : World) : MmsAt w none 0 [] := ⟨rfl, .inl rfl⟩

structure TkG (w : World) (g h b c : Nat) (E O : Int) (l : List MemT) (i : ByteArray × Int) (W : World) : Prop where
  inn : InAt W g i
  z : Blk W 26 w.heap.size #[.int .i64 0, .slice none 0 0, .int .i64 0]
  gg : Blk W 26 h #[.int .i64 E, .slice (some ⟨b, 0, none⟩) 6 c, .int .i64 O]
  mm : RowM W b c l
  bel : Below w.heap.size w W
  nn : w.heap.size < g ∧ w.heap.size < h ∧ w.heap.size < b ∧ h ≠ g ∧ h ≠ b ∧ b ≠ g
theorem RowM.kept {w w' : World} {b c g : Nat} {l : List MemT} {r : Option Nat} (h : RowM w b c l) (k : Kept2 g r w w') (h1 : b ≠ g) (h2 : some b ≠ r) : RowM w' b c l := h.same (k.block b h.lt h1 h2)
theorem TkG.inTo {w W W' : World} {g h b c : Nat} {E O : Int} {l : List MemT} {i i' : ByteArray × Int} (k : TkG w g h b c E O l i W) (h2 : InTo W g i' W') : TkG w g h b c E O l i' W' := by
  obtain ⟨n1, n2, n3, n4, n5, n6⟩ := k.nn
  exact ⟨h2.1, k.z.kept h2.2 (by omega) (by simp), k.gg.kept h2.2 n4 (by simp), k.mm.kept h2.2 n6 (by simp), k.bel.trans (h2.2.below _ k.bel.size (by omega) (fun _ e => by cases e)), k.nn⟩
theorem TkG.on {w W W' : World} {g h b c : Nat} {E O : Int} {l : List MemT} {i : ByteArray × Int} (k : TkG w g h b c E O l i W) (hb : Below W.heap.size W W') : TkG w g h b c E O l i W' :=
  ⟨k.inn.on hb, k.z.on hb, k.gg.on hb, k.mm.on hb, below_step k.bel (Nat.le_refl _) hb, k.nn⟩
theorem TkG.drew {w W : World} {g h b c : Nat} {E O : Int} {l : List MemT} {i : ByteArray × Int} (k : TkG w g h b c E O l i W) : TkG w g h b c E O l i W.drew := k.on (Below.refl _ _).drew
theorem TkG.setE {w W : World} {g h b c : Nat} {E O : Int} {l : List MemT} {i : ByteArray × Int} (k : TkG w g h b c E O l i W) (E' : Int) : TkG w g h b c E' O l i (W.setCell ⟨h, 0, none⟩ (.int .i64 E')) := by
  obtain ⟨n1, n2, n3, n4, n5, n6⟩ := k.nn
  exact ⟨⟨k.inn.1.other ⟨h, 0, none⟩ (fun e => n4 e.symm) _, k.inn.2⟩, k.z.other ⟨h, 0, none⟩ (by show w.heap.size ≠ h; omega) _, k.gg.setAt 0 _, k.mm.other ⟨h, 0, none⟩ (fun e => n5 e.symm) _, k.bel.setCell (p := ⟨h, 0, none⟩) (by show w.heap.size ≤ h; omega) _, k.nn⟩
theorem TkG.setO {w W : World} {g h b c : Nat} {E O : Int} {l : List MemT} {i : ByteArray × Int} (k : TkG w g h b c E O l i W) (O' : Int) : TkG w g h b c E O' l i (W.setCell ⟨h, 2, none⟩ (.int .i64 O')) := by
  obtain ⟨n1, n2, n3, n4, n5, n6⟩ := k.nn
  exact ⟨⟨k.inn.1.other ⟨h, 2, none⟩ (fun e => n4 e.symm) _, k.inn.2⟩, k.z.other ⟨h, 2, none⟩ (by show w.heap.size ≠ h; omega) _, k.gg.setAt 2 _, k.mm.other ⟨h, 2, none⟩ (fun e => n5 e.symm) _, k.bel.setCell (p := ⟨h, 2, none⟩) (by show w.heap.size ≤ h; omega) _, k.nn⟩
theorem TkG.setN {w W : World} {g h b c : Nat} {E O : Int} {l : List MemT} {i : ByteArray × Int} (k : TkG w g h b c E O l i W) (j : Nat) (hj : j < 6) (y : Int) : TkG w g h b c E O (l.set j ((mmL l j).1, y, (mmL l j).2.2)) i (W.setCell ⟨b, j * 3 + 1, none⟩ (.int .i64 y)) := by
  obtain ⟨n1, n2, n3, n4, n5, n6⟩ := k.nn
  exact ⟨⟨k.inn.1.other ⟨b, j * 3 + 1, none⟩ (fun e => n6 e.symm) _, k.inn.2⟩, k.z.other ⟨b, j * 3 + 1, none⟩ (by show w.heap.size ≠ b; omega) _, k.gg.other ⟨b, j * 3 + 1, none⟩ n5 _, k.mm.setN j hj y, k.bel.setCell (p := ⟨b, j * 3 + 1, none⟩) (by show w.heap.size ≤ b; omega) _, k.nn⟩
theorem TkG.setI {w W : World} {g h b c : Nat} {E O : Int} {l : List MemT} {i : ByteArray × Int} (k : TkG w g h b c E O l i W) (j : Nat) (hj : j < 6) (y : Bool) : TkG w g h b c E O (l.set j ((mmL l j).1, (mmL l j).2.1, y)) i (W.setCell ⟨b, j * 3 + 2, none⟩ (.bool y)) := by
  obtain ⟨n1, n2, n3, n4, n5, n6⟩ := k.nn
  exact ⟨⟨k.inn.1.other ⟨b, j * 3 + 2, none⟩ (fun e => n6 e.symm) _, k.inn.2⟩, k.z.other ⟨b, j * 3 + 2, none⟩ (by show w.heap.size ≠ b; omega) _, k.gg.other ⟨b, j * 3 + 2, none⟩ n5 _, k.mm.setI j hj y, k.bel.setCell (p := ⟨b, j * 3 + 2, none⟩) (by show w.heap.size ≤ b; omega) _, k.nn⟩

/-- The members, the first k of them read. -/
structure LsK (s : ByteArray) (k : Nat) (i : ByteArray × Int) (pk : List (Int × Int)) (l : List MemT) : Prop where
  n : pk.length = k
  rd : readGL s = ((readLW readPr (6 - k) i).1, pk ++ (readLW readPr (6 - k) i).2)
  l6 : l.length = 6
  who : ∀ j, j < 6 → (mmL l j).1 = (j : Int) + 1
  got : ∀ j, j < k → mmL l j = ((j : Int) + 1, (pk.getD j (0, 0)).1, decide ((pk.getD j (0, 0)).2 = 1))
theorem LsK.next {s : ByteArray} {k : Nat} {i : ByteArray × Int} {pk : List (Int × Int)} {l : List MemT} (h : LsK s k i pk l) (hk : k < 6) :
    LsK s (k + 1) (readPr i).1 (pk ++ [(readPr i).2]) ((l.set k ((mmL l k).1, (readPr i).2.1, (mmL l k).2.2)).set k ((mmL (l.set k ((mmL l k).1, (readPr i).2.1, (mmL l k).2.2)) k).1, (mmL (l.set k ((mmL l k).1, (readPr i).2.1, (mmL l k).2.2)) k).2.1, decide ((readPr i).2.2 = 1))) := by
  have h6 := h.l6
  obtain ⟨m, hm⟩ : ∃ m, 6 - k = m + 1 := ⟨5 - k, by omega⟩
  have hat : ∀ j, mmL ((l.set k ((mmL l k).1, (readPr i).2.1, (mmL l k).2.2)).set k ((mmL (l.set k ((mmL l k).1, (readPr i).2.1, (mmL l k).2.2)) k).1, (mmL (l.set k ((mmL l k).1, (readPr i).2.1, (mmL l k).2.2)) k).2.1, decide ((readPr i).2.2 = 1))) j = if j = k then ((mmL l k).1, (readPr i).2.1, decide ((readPr i).2.2 = 1)) else mmL l j := by
    intro j
    rw [mmL_set _ k j _ (by rw [List.length_set]; omega), mmL_set l k k _ (by omega), mmL_set l k j _ (by omega)]
    by_cases e : j = k
    · rw [if_pos e, if_pos e, if_pos rfl]
    · rw [if_neg e, if_neg e, if_neg e]
  refine ⟨by rw [List.length_append, h.n]; rfl, ?_, by rw [List.length_set, List.length_set]; exact h6, fun j hj => ?_, fun j hj => ?_⟩
  · rw [h.rd, hm, show 6 - (k + 1) = m by omega]
    show ((readLW readPr m (readPr i).1).1, pk ++ ((readPr i).2 :: (readLW readPr m (readPr i).1).2)) = _
    rw [List.append_assoc]; rfl
  · rw [hat]
    by_cases e : j = k
    · rw [if_pos e, e]; exact h.who k hk
    · rw [if_neg e]; exact h.who j hj
  · rw [hat]
    have hn := h.n
    by_cases e : j = k
    · rw [if_pos e, e, h.who k hk, List.getD_eq_getElem?_getD, List.getElem?_append_right (by omega), hn, Nat.sub_self]; rfl
    · rw [if_neg e, h.got j (by omega), List.getD_eq_getElem?_getD, List.getD_eq_getElem?_getD, List.getElem?_append_left (by omega)]
theorem LsK.last {s : ByteArray} {i : ByteArray × Int} {pk : List (Int × Int)} {l : List MemT} (h : LsK s 6 i pk l) : memsOf (readGL s).2 = l := by
  have e : readGL s = (i, pk) := by rw [h.rd]; show (i, pk ++ []) = _; rw [List.append_nil]
  rw [e]
  have hn := h.n
  apply List.ext_getElem (by rw [memsOf_len, h.l6]; exact hn)
  intro j h1 h2
  have hj : j < 6 := by rw [← h.l6]; exact h2
  have := h.got j hj
  rw [mmL_get l j h2] at this
  rw [this]
  simp only [memsOf, List.getElem_map, List.getElem_range]


set_option maxHeartbeats 8000000 in
theorem take20_any (s : ByteArray) (w : World) (hs : s.size ≤ 1048576) :
    Calls Tryd.prog 13 #[.string s] w (TakenG w (takeGC s)) := by
  obtain ⟨X, hX⟩ : ∃ X, takeGC s = X := ⟨_, rfl⟩
  rw [hX]
  have HX : Hid (takeGC s = X) := hX
  clear hX
  have HB0 : Hid (Below w.heap.size w (w.alloc (.cells #[.int .i64 0, .slice none 0 0, .int .i64 0] 26))) := below_new _ _
  have HZ0 : Hid (Blk (w.alloc (.cells #[.int .i64 0, .slice none 0 0, .int .i64 0] 26)) 26 w.heap.size #[.int .i64 0, .slice none 0 0, .int .i64 0]) := Blk.new _ _ _
  go_enter Tryd.func13, Tryd.ntmps13
  go_wp2_with fail
  obtain ⟨w0, hw0⟩ : ∃ w0, w.alloc (.cells #[.int .i64 0, .slice none 0 0, .int .i64 0] 26) = w0 := ⟨_, rfl⟩
  rw [hw0] at HB0 HZ0 ⊢
  clear hw0
  refine (newIn_any s w0 hs).mono ?_
  rintro e w1 ⟨rfl, hI1, hb1⟩
  obtain ⟨g, hg⟩ : ∃ g, w0.heap.size = g := ⟨_, rfl⟩
  have HB1 : Hid (Below w.heap.size w w1) := below_step HB0.out (Nat.le_refl _) hb1
  have HZ1 : Hid (Blk w1 26 w.heap.size #[.int .i64 0, .slice none 0 0, .int .i64 0]) := HZ0.out.on hb1
  have HI1 : Hid (InAt w1 g (s, 0)) := by show InAt _ _ _; rw [← hg]; exact hI1
  have HG : Hid (w.heap.size < g ∧ g < w1.heap.size) := ⟨by rw [← hg]; exact HZ0.out.lt, HI1.out.1.lt⟩
  rw [hg]
  clear hI1 hb1 HB0 HZ0 hg hs
  go_wp2_with fail
  refine (new20_any w1).mono ?_
  rintro e w2 ⟨b, c, rfl, hb, hm, hb2⟩
  have HT2 : Hid (TkG w g w2.heap.size b c 1 0 (newM 6) (s, 0) (w2.alloc (.cells #[.int .i64 1, .slice (some ⟨b, 0, none⟩) 6 c, .int .i64 0] 26))) := by
    have n2 := below_new w2 (.cells #[.int .i64 1, .slice (some ⟨b, 0, none⟩) 6 c, .int .i64 0] 26)
    have g1 := HG.out
    have g2 := hm.lt
    have g3 := hb2.size
    have g4 := HB1.out.size
    exact ⟨(HI1.out.on hb2).on n2, (HZ1.out.on hb2).on n2, Blk.new _ _ _, hm.on n2, below_step (below_step HB1.out (Nat.le_refl _) hb2) (Nat.le_refl _) n2, g1.1, by omega, by omega, by omega, by omega, by omega⟩
  have HIN : Hid (InAt (w2.alloc (.cells #[.int .i64 1, .slice (some ⟨b, 0, none⟩) 6 c, .int .i64 0] 26)) g (s, 0)) := HT2.out.inn
  clear hb hm hb2 HI1 HZ1 HB1 HG
  go_wp2_with fail
  obtain ⟨w3, hw3⟩ : ∃ w3, w2.alloc (.cells #[.int .i64 1, .slice (some ⟨b, 0, none⟩) 6 c, .int .i64 0] 26) = w3 := ⟨_, rfl⟩
  obtain ⟨h, hh⟩ : ∃ h, w2.heap.size = h := ⟨_, rfl⟩
  rw [hw3] at HT2 HIN
  rw [hh] at HT2
  try rw [hw3]
  try rw [hh]
  clear hw3 hh
  refine (inum_any g (s, 0) w3 HT2.out.inn).mono ?_
  rintro e w4 ⟨rfl, h4⟩
  have HT4 : Hid (TkG w g h b c 1 0 (newM 6) (inNumP (s, 0)).1 w4) := HT2.out.inTo h4
  have HT5 : Hid (TkG w g h b c (readGE s) 0 (newM 6) (inNumP (s, 0)).1 (w4.setCell ⟨h, 0, none⟩ (.int .i64 (readGE s)))) := HT4.out.setE (readGE s)
  rw [show ((inNumP (s, 0)).2 : Int) = readGE s from rfl]
  have q0 : w4.cell? ⟨h, 0, none⟩ = some (.int .i64 1) := HT4.out.gg.cell 0
  have q1 : w4.frozen? ⟨h, 0, none⟩ = false := HT4.out.gg.free 0
  clear HT2 HIN h4 HT4
  obtain ⟨e1, he1⟩ : ∃ e1, readGE s = e1 := ⟨_, rfl⟩
  rw [he1] at HT5 ⊢
  have HE1 : Hid (readGE s = e1) := he1
  clear he1
  go_wp2_with fail
  obtain ⟨w5, hw5⟩ : ∃ w5, w4.setCell ⟨h, 0, none⟩ (.int .i64 e1) = w5 := ⟨_, rfl⟩
  rw [hw5] at HT5
  try rw [hw5]
  clear hw5 q0 q1
  refine (inum_any g _ w5 HT5.out.inn).mono ?_
  rintro e w6 ⟨rfl, h6⟩
  have HT6 : Hid (TkG w g h b c e1 0 (newM 6) (readGI s) w6) := HT5.out.inTo h6
  have HT7 : Hid (TkG w g h b c e1 (readGO s) (newM 6) (readGI s) (w6.setCell ⟨h, 2, none⟩ (.int .i64 (readGO s)))) := HT6.out.setO (readGO s)
  rw [show ((inNumP (inNumP (s, 0)).1).2 : Int) = readGO s from rfl]
  have q0 : w6.cell? ⟨h, 2, none⟩ = some (.int .i64 0) := HT6.out.gg.cell 2
  have q1 : w6.frozen? ⟨h, 2, none⟩ = false := HT6.out.gg.free 2
  clear HT5 h6 HT6
  obtain ⟨o1, ho1⟩ : ∃ o1, readGO s = o1 := ⟨_, rfl⟩
  rw [ho1] at HT7 ⊢
  have HO1 : Hid (readGO s = o1) := ho1
  clear ho1
  obtain ⟨w7, hw7⟩ : ∃ w7, w6.setCell ⟨h, 2, none⟩ (.int .i64 o1) = w7 := ⟨_, rfl⟩
  rw [hw7] at HT7
  have q2 : w7.cell? ⟨h, 1, none⟩ = some (.slice (some ⟨b, 0, none⟩) 6 c) := HT7.out.gg.cell 1
  have HW7 : Hid (w6.setCell ⟨h, 2, none⟩ (.int .i64 o1) = w7) := hw7
  rw [← hw7] at q2
  clear hw7
  go_wp2_with fail
  try rw [HW7.out]
  clear q0 q1 q2 HW7
  as_aux_lemma =>
  go_loopw [21] (fun v wr => ∃ k : Nat, k ≤ 6 ∧ v = .int .i64 (k : Int) ∧ Hid (∃ i pk l, LsK s k i pk l ∧ TkG w g h b c e1 o1 l i wr)) (fun i _ => 6 - (intOf i).toNat)
  case atStart =>
    exact ⟨0, Nat.zero_le _, rfl, readGI s, [], newM 6, ⟨rfl, by show readGL s = ((readLW readPr 6 (readGI s)).1, (readLW readPr 6 (readGI s)).2); rfl, newM_len 6, fun j hj => by
      rcases (by omega : j = 0 ∨ j = 1 ∨ j = 2 ∨ j = 3 ∨ j = 4 ∨ j = 5) with rfl | rfl | rfl | rfl | rfl | rfl <;> rfl, fun j hj => absurd hj (Nat.not_lt_zero _)⟩, HT7.out⟩
  case round =>
    clear HT7
    obtain ⟨k, hk, rfl, HQ⟩ := hrel
    obtain ⟨i, pk, l, hL, hT⟩ := HQ.out
    have HLK : Hid (LsK s k i pk l) := hL
    have HT : Hid (TkG w g h b c e1 o1 l i wr) := hT
    clear HQ hL hT
    by_cases hlt : k < 6
    · have b0 : (k : Int) < 6 := by omega
      have b1 : (0 : Int) ≤ (k : Int) := by omega
      have HK6 : Hid (k < 6) := hlt
      obtain ⟨o, ho⟩ : ∃ o, k * 3 = o := ⟨_, rfl⟩
      have HO3 : Hid (k * 3 = o) := ho
      clear ho
      go_wp2_with fail
      have hS0 : wr.drew.cell? ⟨h, 1, none⟩ = some (.slice (some ⟨b, 0, none⟩) 6 c) := HT.out.drew.gg.cell 1
      refine wp_region_noPanic ?_
      refine wp_region_held_drew (S := fun w' => w'.cell? ⟨h, 1, none⟩ = some (.slice (some ⟨b, 0, none⟩) 6 c)) (by kernel_rfl) (by first | exact trivial | assumption | exact ⟨by assumption, by assumption⟩) (fun hHeld => ?_)
      refine take_at (i := 0) (v := ?_) rfl rfl (by kernel_rfl) (by kernel_rfl) (by kernel_rfl) (fun _ _ _ h => h) (Or.inl ⟨by rfl, ?_⟩) (by assumption) ?_
      rotate_left
      · intro w hSw; (try dsimp only at hSw); go_simp; try with_reducible rfl
      try simp only [Act.put, List.setIfInBounds_toArray, List.set_cons_zero, List.set_cons_succ]
      refine take_at (i := 1) (v := ?_) rfl rfl (by kernel_rfl) (by kernel_rfl) (by kernel_rfl) (fun _ _ _ h => h) (Or.inl ⟨by rfl, ?_⟩) (by assumption) ?_
      rotate_left
      · intro w hSw; (try dsimp only at hSw); go_simp; try with_reducible rfl
      try simp only [Act.put, List.setIfInBounds_toArray, List.set_cons_zero, List.set_cons_succ]
      refine take_at (i := 2) (v := ?_) rfl rfl (by kernel_rfl) (by kernel_rfl) (by kernel_rfl) (fun _ _ _ h => h) (Or.inl ⟨by rfl, ?_⟩) (by assumption) ?_
      rotate_left
      · intro w hSw; (try dsimp only at hSw); go_simp; try with_reducible rfl
      try simp only [Act.put, List.setIfInBounds_toArray, List.set_cons_zero, List.set_cons_succ]
      refine take_at (i := 3) (v := ?_) rfl rfl (by kernel_rfl) (by kernel_rfl) (by kernel_rfl) (fun _ _ _ h => h) (Or.inl ⟨by rfl, ?_⟩) (by assumption) ?_
      rotate_left
      · intro w hSw; (try dsimp only at hSw); go_simp; try with_reducible rfl
      try simp only [Act.put, List.setIfInBounds_toArray, List.set_cons_zero, List.set_cons_succ]
      clear hS0
      refine wpAnyH_ready (rs := [4]) (by kernel_rfl) (by simp) ?_
      refine AllReadyH.cons rfl (fun K hK => ?_) AllReadyH.nil
      go_simp
      refine (inum_any g i _ HT.out.drew.inn).mono ?_
      rintro e v1 ⟨rfl, h1⟩
      have HT1 : Hid (TkG w g h b c e1 o1 l (inNumP i).1 v1) := HT.out.drew.inTo h1
      clear HT h1
      refine hK.out _ _ (HT1.out.gg.cell 1) (fun hHeld => ?_)
      clear hK K
      refine take_at (i := 5) (v := ?_) rfl rfl (by kernel_rfl) (by kernel_rfl) (by kernel_rfl) (fun _ _ _ h => h) (Or.inl ⟨by rfl, ?_⟩) (by assumption) ?_
      rotate_left
      · intro w hSw; (try dsimp only at hSw); go_simp; try with_reducible rfl
      try simp only [Act.put, List.setIfInBounds_toArray, List.set_cons_zero, List.set_cons_succ]
      refine take_at (i := 6) (v := ?_) rfl rfl (by kernel_rfl) (by kernel_rfl) (by kernel_rfl) (fun _ _ _ h => h) (Or.inl ⟨by rfl, ?_⟩) (by assumption) ?_
      rotate_left
      · intro w hSw; (try dsimp only at hSw); go_simp; try with_reducible rfl
      try simp only [Act.put, List.setIfInBounds_toArray, List.set_cons_zero, List.set_cons_succ]
      have HT2 := HT1.out.setN k HK6.out ((inNumP i).2 : Int)
      rw [HO3.out] at HT2
      have HT2 : Hid (TkG w g h b c e1 o1 (l.set k ((mmL l k).1, (readPr i).2.1, (mmL l k).2.2)) (inNumP i).1 (v1.setCell ⟨b, o + 1, none⟩ (.int .i64 ((inNumP i).2 : Int)))) := HT2
      obtain ⟨y2, hy2⟩ : ∃ y2, v1.cell? ⟨b, o + 1, none⟩ = some (.int .i64 y2) := by
        obtain ⟨_, _, _, cur, hb, _, hc⟩ := HT1.out.mm
        exact ⟨_, by rw [← HO3.out, hb.cell]; exact (hc k HK6.out).2.1⟩
      have hf2 : v1.frozen? ⟨b, o + 1, none⟩ = false := HT1.out.mm.free _
      rw [HO3.out]
      refine wpAnyH_ready (rs := [7]) (by kernel_rfl) (by simp) ?_
      refine AllReadyH.cons rfl (fun K hK => ?_) AllReadyH.nil
      go_simp
      refine hK.out _ _ (HT2.out.gg.cell 1) (fun hHeld => ?_)
      clear hK K
      refine wpAnyH_done (by kernel_rfl) (NoPanic.normal ?_) _
      obtain ⟨v2, hv2⟩ : ∃ v2, v1.setCell ⟨b, o + 1, none⟩ (.int .i64 ((inNumP i).2 : Int)) = v2 := ⟨_, rfl⟩
      rw [hv2] at HT2 ⊢
      clear hv2 hy2 hf2 HT1
      have HS1 : Hid (v2.drew.cell? ⟨h, 1, none⟩ = some (.slice (some ⟨b, 0, none⟩) 6 c)) := HT2.out.drew.gg.cell 1
      obtain ⟨l2, hl2⟩ : ∃ l2, l.set k ((mmL l k).1, (readPr i).2.1, (mmL l k).2.2) = l2 := ⟨_, rfl⟩
      have HLN := HLK.out.next HK6.out
      rw [hl2] at HLN HT2
      have HLN : Hid (LsK s (k + 1) (readPr i).1 (pk ++ [(readPr i).2]) (l2.set k ((mmL l2 k).1, (mmL l2 k).2.1, decide ((readPr i).2.2 = 1)))) := HLN
      clear hl2 HLK
      have HT3 : Hid (TkG w g h b c e1 o1 l2 (inNumP i).1 v2) := HT2
      clear HT2
      go_wp2_with fail
      have hS0 := HS1.out
      refine wp_region_noPanic ?_
      refine wp_region_held_drew (S := fun w' => w'.cell? ⟨h, 1, none⟩ = some (.slice (some ⟨b, 0, none⟩) 6 c)) (by kernel_rfl) (by first | exact trivial | assumption | exact ⟨by assumption, by assumption⟩) (fun hHeld => ?_)
      refine take_at (i := 0) (v := ?_) rfl rfl (by kernel_rfl) (by kernel_rfl) (by kernel_rfl) (fun _ _ _ h => h) (Or.inl ⟨by rfl, ?_⟩) (by assumption) ?_
      rotate_left
      · intro w hSw; (try dsimp only at hSw); go_simp; try with_reducible rfl
      try simp only [Act.put, List.setIfInBounds_toArray, List.set_cons_zero, List.set_cons_succ]
      refine take_at (i := 1) (v := ?_) rfl rfl (by kernel_rfl) (by kernel_rfl) (by kernel_rfl) (fun _ _ _ h => h) (Or.inl ⟨by rfl, ?_⟩) (by assumption) ?_
      rotate_left
      · intro w hSw; (try dsimp only at hSw); go_simp; try with_reducible rfl
      try simp only [Act.put, List.setIfInBounds_toArray, List.set_cons_zero, List.set_cons_succ]
      refine take_at (i := 2) (v := ?_) rfl rfl (by kernel_rfl) (by kernel_rfl) (by kernel_rfl) (fun _ _ _ h => h) (Or.inl ⟨by rfl, ?_⟩) (by assumption) ?_
      rotate_left
      · intro w hSw; (try dsimp only at hSw); go_simp; try with_reducible rfl
      try simp only [Act.put, List.setIfInBounds_toArray, List.set_cons_zero, List.set_cons_succ]
      refine take_at (i := 3) (v := ?_) rfl rfl (by kernel_rfl) (by kernel_rfl) (by kernel_rfl) (fun _ _ _ h => h) (Or.inl ⟨by rfl, ?_⟩) (by assumption) ?_
      rotate_left
      · intro w hSw; (try dsimp only at hSw); go_simp; try with_reducible rfl
      try simp only [Act.put, List.setIfInBounds_toArray, List.set_cons_zero, List.set_cons_succ]
      clear hS0 HS1
      refine wpAnyH_ready (rs := [4]) (by kernel_rfl) (by simp) ?_
      refine AllReadyH.cons rfl (fun K hK => ?_) AllReadyH.nil
      go_simp
      refine (ibyte_any g _ _ HT3.out.drew.inn).mono ?_
      rintro e v3 ⟨rfl, h3⟩
      have HT4 : Hid (TkG w g h b c e1 o1 l2 (readPr i).1 v3) := HT3.out.drew.inTo h3
      clear HT3 h3
      refine hK.out _ _ (HT4.out.gg.cell 1) (fun hHeld => ?_)
      clear hK K
      obtain ⟨z, hz⟩ : ∃ z, decide ((readPr i).2.2 = 1) = z := ⟨_, rfl⟩
      have b3 : (((numberP (inNumP i).1 1).2 : Int) == 1) = z := by
        rw [← hz]
        show (((numberP (inNumP i).1 1).2 : Int) == 1) = decide (((numberP (inNumP i).1 1).2 : Int) = 1)
        by_cases e : ((numberP (inNumP i).1 1).2 : Int) = 1 <;> simp [e]
      rw [hz] at HLN
      clear hz
      refine take_at (i := 5) (v := ?_) rfl rfl (by kernel_rfl) (by kernel_rfl) (by kernel_rfl) (fun _ _ _ h => h) (Or.inl ⟨by rfl, ?_⟩) (by assumption) ?_
      rotate_left
      · intro w hSw; (try dsimp only at hSw); go_simp; try with_reducible rfl
      try simp only [Act.put, List.setIfInBounds_toArray, List.set_cons_zero, List.set_cons_succ]
      refine take_at (i := 6) (v := ?_) rfl rfl (by kernel_rfl) (by kernel_rfl) (by kernel_rfl) (fun _ _ _ h => h) (Or.inl ⟨by rfl, ?_⟩) (by assumption) ?_
      rotate_left
      · intro w hSw; (try dsimp only at hSw); go_simp; try with_reducible rfl
      try simp only [Act.put, List.setIfInBounds_toArray, List.set_cons_zero, List.set_cons_succ]
      refine take_at (i := 7) (v := ?_) rfl rfl (by kernel_rfl) (by kernel_rfl) (by kernel_rfl) (fun _ _ _ h => h) (Or.inl ⟨by rfl, ?_⟩) (by assumption) ?_
      rotate_left
      · intro w hSw; (try dsimp only at hSw); go_simp; try with_reducible rfl
      try simp only [Act.put, List.setIfInBounds_toArray, List.set_cons_zero, List.set_cons_succ]
      have HT5 := HT4.out.setI k HK6.out z
      rw [HO3.out] at HT5
      have HT5 : Hid (TkG w g h b c e1 o1 (l2.set k ((mmL l2 k).1, (mmL l2 k).2.1, z)) (readPr i).1 (v3.setCell ⟨b, o + 2, none⟩ (.bool z))) := HT5
      obtain ⟨y2, hy2⟩ : ∃ y2, v3.cell? ⟨b, o + 2, none⟩ = some (.bool y2) := by
        obtain ⟨_, _, _, cur, hb, _, hc⟩ := HT4.out.mm
        exact ⟨_, by rw [← HO3.out, hb.cell]; exact (hc k HK6.out).2.2⟩
      have hf2 : v3.frozen? ⟨b, o + 2, none⟩ = false := HT4.out.mm.free _
      try rw [HO3.out]
      refine wpAnyH_ready (rs := [8]) (by kernel_rfl) (by simp) ?_
      refine AllReadyH.cons rfl (fun K hK => ?_) AllReadyH.nil
      go_simp
      refine hK.out _ _ (HT5.out.gg.cell 1) (fun hHeld => ?_)
      clear hK K
      refine wpAnyH_done (by kernel_rfl) (NoPanic.normal ?_) _
      obtain ⟨v4, hv4⟩ : ∃ v4, v3.setCell ⟨b, o + 2, none⟩ (.bool z) = v4 := ⟨_, rfl⟩
      rw [hv4] at HT5 ⊢
      clear hv4 hy2 hf2 HT4 HO3 HK6
      go_wp2_with fail
      refine ⟨?_, ?_⟩
      · first
        | exact ⟨k + 1, by omega, by go_num, ⟨_, _, _, HLN.out, HT5.out⟩⟩
        | ((repeat apply Exists.intro); refine ⟨?_, rfl⟩; exact ⟨k + 1, by omega, by go_num, ⟨_, _, _, HLN.out, HT5.out⟩⟩)
      · simp [intOf] <;> omega
    · obtain rfl : k = 6 := by omega
      have b0 : ¬ ((6 : Int) < 6) := by omega
      have HLST : Hid (memsOf (readGL s).2 = l) := HLK.out.last
      have HRD : Hid (readG s = (e1, l, o1)) := by
        show readG s = _
        unfold readG
        rw [HLST.out, HE1.out, HO1.out]
      have HL6 : Hid (l.length = 6) := HLK.out.l6
      have HX2 := HX.out
      unfold takeGC at HX2
      rw [HRD.out] at HX2
      obtain ⟨⟨B, E⟩, hp⟩ : ∃ p, putGC (e1, l, o1) = p := ⟨_, rfl⟩
      rw [hp] at HX2
      have CPP : Hid (∀ W, TkG w g h b c e1 o1 l i W → Calls Tryd.prog 12 #[.agg #[.int .i64 e1, .slice (some ⟨b, 0, none⟩) 6 c, .int .i64 o1]] W fun e w' => e = .returned (.tuple #[.string B, .int .i64 E]) ∧ Below W.heap.size W w') := fun W hW => by
        have h := put20_any (e1, l, o1) (some ⟨b, 0, none⟩) c W (by show l.length ≤ _; rw [HL6.out]; decide) (by show MmsAt W _ l.length l; rw [HL6.out]; exact hW.mm.at)
        rw [hp] at h
        unfold grpA at h
        simp only [HL6.out] at h
        exact h
      have HXX : Hid (_ = X) := HX2
      clear HX2 HX hp HRD HLST HLK
      have d0 : wr.cell? ⟨h, 0, none⟩ = some (.int .i64 e1) := HT.out.gg.cell 0
      have d1 : wr.cell? ⟨h, 1, none⟩ = some (.slice (some ⟨b, 0, none⟩) 6 c) := HT.out.gg.cell 1
      have d2 : wr.cell? ⟨h, 2, none⟩ = some (.int .i64 o1) := HT.out.gg.cell 2
      go_wp2_with fail
      refine (CPP.out wr HT.out).mono ?_
      rintro e w9 ⟨rfl, hb9⟩
      have HT9 : Hid (TkG w g h b c e1 o1 l i w9) := HT.out.on hb9
      clear hb9 HT CPP d0 d1 d2
      by_cases hE : E = 0
      · subst hE
        by_cases hB : B = s
        · subst hB
          obtain rfl : ((e1, l, o1), 0) = X := by have h := HXX.out; rwa [if_neg (by simp)] at h
          have d0 : w9.cell? ⟨h, 0, none⟩ = some (.int .i64 e1) := HT9.out.gg.cell 0
          have d1 : w9.cell? ⟨h, 1, none⟩ = some (.slice (some ⟨b, 0, none⟩) 6 c) := HT9.out.gg.cell 1
          have d2 : w9.cell? ⟨h, 2, none⟩ = some (.int .i64 o1) := HT9.out.gg.cell 2
          have X1 := HT9.out.z
          have HB9 : Hid (Below w.heap.size w (w9.setRow w.heap.size #[.int .i64 e1, .slice (some ⟨b, 0, none⟩) 6 c, .int .i64 o1])) := below_setRow HT9.out.bel (Nat.le_refl _) _
          have HM9 : Hid (RowM (w9.setRow w.heap.size #[.int .i64 e1, .slice (some ⟨b, 0, none⟩) 6 c, .int .i64 o1]) b c l) := HT9.out.mm.same (setRow_other w9 w.heap.size b _ (by have := HT9.out.nn; omega))
          go_wp2_with (with_reducible refine wpList_storeBlk rfl 26 _ _ rfl w.heap.size #[.int .i64 0, .slice none 0 0, .int .i64 0] #[.int .i64 e1, .slice (some ⟨b, 0, none⟩) 6 c, .int .i64 o1] (by with_unfolding_all rfl) (by with_unfolding_all rfl) X1 rfl (by kernel_rfl) (by kernel_rfl) ?_)
          exact bodyPost_rowTmp rfl w.heap.size #[.int .i64 e1, .slice (some ⟨b, 0, none⟩) 6 c, .int .i64 o1] (.int .i64 0) rfl rfl rfl (X1.setRow _) _ Tryd.underlying26 rfl (by kernel_rfl) ⟨some ⟨b, 0, none⟩, c, by show _ = Ending.returned (.tuple #[.agg #[.int .i64 e1, .slice (some ⟨b, 0, none⟩) l.length c, .int .i64 o1], .int .i64 0]); rw [HL6.out], by show l.length ≤ c; rw [HL6.out]; exact HM9.out.2.1, HM9.out.2.2.1, by show MmsAt _ _ l.length l; rw [HL6.out]; exact HM9.out.at, HB9.out⟩
        · obtain rfl : (grp0, 91) = X := by have h := HXX.out; rwa [if_pos (.inr hB)] at h
          have hB' := text_ne hB
          have X1 := HT9.out.z
          have HB9 : Hid (Below w.heap.size w (w9.setRow w.heap.size #[.int .i64 0, .slice none 0 0, .int .i64 0])) := below_setRow HT9.out.bel (Nat.le_refl _) _
          go_wp2_with (with_reducible refine wpList_storeBlk rfl 26 _ _ rfl w.heap.size #[.int .i64 0, .slice none 0 0, .int .i64 0] #[.int .i64 0, .slice none 0 0, .int .i64 0] (by with_unfolding_all rfl) (by with_unfolding_all rfl) X1 rfl (by kernel_rfl) (by kernel_rfl) ?_)
          exact bodyPost_rowTmp rfl w.heap.size #[.int .i64 0, .slice none 0 0, .int .i64 0] (.int .i64 91) rfl rfl rfl (X1.setRow _) _ Tryd.underlying26 rfl (by kernel_rfl) ⟨none, 0, rfl, Nat.zero_le _, by decide, MmsAt.nil _, HB9.out⟩
      · obtain rfl : (grp0, 91) = X := by have h := HXX.out; rwa [if_pos (.inl hE)] at h
        have hE' : (E != 0) = true := by simp [hE]
        have X1 := HT9.out.z
        have HB9 : Hid (Below w.heap.size w (w9.setRow w.heap.size #[.int .i64 0, .slice none 0 0, .int .i64 0])) := below_setRow HT9.out.bel (Nat.le_refl _) _
        go_wp2_with (with_reducible refine wpList_storeBlk rfl 26 _ _ rfl w.heap.size #[.int .i64 0, .slice none 0 0, .int .i64 0] #[.int .i64 0, .slice none 0 0, .int .i64 0] (by with_unfolding_all rfl) (by with_unfolding_all rfl) X1 rfl (by kernel_rfl) (by kernel_rfl) ?_)
        exact bodyPost_rowTmp rfl w.heap.size #[.int .i64 0, .slice none 0 0, .int .i64 0] (.int .i64 91) rfl rfl rfl (X1.setRow _) _ Tryd.underlying26 rfl (by kernel_rfl) ⟨none, 0, rfl, Nat.zero_le _, by decide, MmsAt.nil _, HB9.out⟩

end Go.Proofs.YtkmdajenbidaaaaDoor
