/- Layer 21, the code: a relay's object; New, given, Last, Base, Bytes, Items, refusal, above. -/
import Derived.Test.YtkmdajenbidaaaaReP
import Derived.Test.YtkmdajenbidaaaaWiC
import Derived.Test.YtkmdajenbidaaaaTA
import Derived.LaidEqlPtr
import Derived.Laws.CopyOwn
import Derived.Lib.AppendZeros
namespace Go.Proofs.Ytkmdajenbidaaaa
open Go.RowKit
set_option maxRecDepth 100000
set_option linter.unusedSimpArgs false
set_option linter.unusedVariables false

theorem Try.relInfo : (Try.prog.info? 51).map (·.size) = some 7 := by kernel_rfl

def rlC (g : Nat) (X : RlT) (v : Value) : Array Value := #[.pointer (some ⟨g, 0, none⟩), .int .i64 X.1, .int .i64 X.2.1, .int .i64 X.2.2.1.1, .int .i64 X.2.2.1.2.1, .string X.2.2.1.2.2, v]

/-- The code's relay at block g, its records' row v. -/
structure RlAt (w : World) (g : Nat) (v : Value) (X : RlT) : Prop where
  blk : Blk w 51 g (rlC g X v)
  own : OwnI19 w 0 v X.2.2.2
  ne : v.ownBlock ≠ some g

theorem RlAt.lt {w : World} {g : Nat} {v : Value} {X : RlT} (h : RlAt w g v X) : g < w.heap.size := h.blk.lt

theorem RlAt.on {w w' : World} {g : Nat} {v : Value} {X : RlT} (h : RlAt w g v X) (hb : Below w.heap.size w w') : RlAt w' g v X :=
  ⟨h.blk.on hb, owns_same h.own (fun j hj => hb.block j (World.ownsRow.lt h.own j hj).2), h.ne⟩

/-- What a call on a relay leaves. -/
def RlTo (w : World) (g : Nat) (v : Value) (X : RlT) (w' : World) : Prop := ∃ v', RlAt w' g v' X ∧ Kept2 g v.ownBlock w w' ∧ Nx w v.ownBlock v'.ownBlock

theorem RlAt.to {w w' : World} {g : Nat} {v : Value} {X : RlT} (h : RlAt w g v X) (hb : Below w.heap.size w w') : RlTo w g v X w' := ⟨v, h.on hb, Kept2.ofBelow _ _ hb, Nx.refl _ _⟩

theorem RlTo.on {w w' w'' : World} {g : Nat} {v : Value} {X : RlT} (h : RlTo w g v X w') (hb : Below w'.heap.size w' w'') : RlTo w g v X w'' := by
  obtain ⟨v', h1, h2, h3⟩ := h
  exact ⟨v', h1.on hb, h2.on hb, h3⟩

theorem RlTo.behind {a b c : World} {g : Nat} {v : Value} {X : RlT} (hb : Below a.heap.size a b) (h : RlTo b g v X c) : RlTo a g v X c := by
  obtain ⟨v', h1, h2, h3⟩ := h
  exact ⟨v', h1, Kept2.behind hb h2, fun k hk => (h3 k hk).imp id (fun h => Nat.le_trans hb.size h)⟩

set_option maxHeartbeats 1000000 in
theorem rgiven_any (g : Nat) (v : Value) (X : RlT) (w : World) (h : RlAt w g v X) : Calls Try.prog 29 #[.pointer (some ⟨g, 0, none⟩)] w fun e w' => e = .returned (.bool true) ∧ w' = w := by
  have c0 : w.cell? ⟨g, 0, none⟩ = some (.pointer (some ⟨g, 0, none⟩)) := h.blk.cell 0
  obtain ⟨j, hj, _⟩ := Option.map_eq_some_iff.1 Try.relInfo
  have hq := run_eql_ptr_same (P := Try.prog) w ⟨g, 0, none⟩ Try.underlying25 hj
  clear h
  go_enter Try.func29, Try.ntmps29
  go_wp2
  go_ret
  exact ⟨rfl, rfl⟩

/-- One that nobody made. -/
def NoR (w : World) (p : Value) : Prop := ∀ W, Below w.heap.size w W → Calls Try.prog 29 #[p] W fun e w' => e = .returned (.bool false) ∧ w' = W

theorem NoR.on {w w' : World} {p : Value} (h : NoR w p) (hb : Below w.heap.size w w') : NoR w' p := fun W hW => h W (below_step hb (Nat.le_refl _) hW)

set_option maxHeartbeats 1000000 in
theorem nor_nil (w : World) : NoR w (.pointer none) := fun W _ => by
  go_enter Try.func29, Try.ntmps29
  go_wp2
  go_ret
  exact ⟨rfl, rfl⟩

set_option maxHeartbeats 1000000 in
theorem nor_emp (w : World) (g : Nat) (h : w.cell? ⟨g, 0, none⟩ = some (.pointer none)) : NoR w (.pointer (some ⟨g, 0, none⟩)) := fun W hW => by
  have c0 : W.cell? ⟨g, 0, none⟩ = some (.pointer none) := by rw [hW.cell (World.block_lt_of_cell? w _ h)]; exact h
  have hq : (binOp .eql 25 (.pointer none) (.pointer (some ⟨g, 0, none⟩))).run Try.prog W = .ok (.bool false) W := by
    obtain ⟨j, hj, _⟩ := Option.map_eq_some_iff.1 Try.relInfo
    have h : ∀ d : Nat, (Op.equalIn (d + 1) 25 (.pointer none) (.pointer (some ⟨g, 0, none⟩))).run Try.prog W = .ok false W := fun d => by
      simp [Op.equalIn, run_underlying Try.underlying25]
    simp only [binOp]
    simp [Op.equal, Op.maxDepth, h 9999]
  clear h hW
  go_enter Try.func29, Try.ntmps29
  go_wp2_with fail
  go_ret
  exact ⟨rfl, rfl⟩

set_option maxHeartbeats 1000000 in
theorem rbase_any (g : Nat) (v : Value) (X : RlT) (w : World) (h : RlAt w g v X) : Calls Try.prog 12 #[.pointer (some ⟨g, 0, none⟩)] w fun e w' => e = .returned (.int .i64 X.2.2.1.1) ∧ Below w.heap.size w w' := by
  have CG : Hid (Calls _ _ _ _ _) := rgiven_any g v X w h
  have c3 : w.cell? ⟨g, 3, none⟩ = some (.int .i64 X.2.2.1.1) := h.blk.cell 3
  obtain ⟨B, hB⟩ : ∃ B, X.2.2.1.1 = B := ⟨_, rfl⟩
  rw [hB] at c3 ⊢
  clear h hB
  go_enter Try.func12, Try.ntmps12
  go_wp2_with fail
  refine CG.out.mono ?_
  rintro e w1 ⟨rfl, rfl⟩
  go_wp2_with fail
  go_ret
  exact ⟨rfl, Below.refl _ _⟩

set_option maxHeartbeats 2000000 in
theorem rlast_any (g : Nat) (v : Value) (X : RlT) (N : Nat) (hN : N ≤ 4611686018427387904) (hX : RlOk N X) (w : World) (h : RlAt w g v X) : Calls Try.prog 11 #[.pointer (some ⟨g, 0, none⟩)] w fun e w' => e = .returned (.int .i64 (lastL X)) ∧ Below w.heap.size w w' := by
  have CG : Hid (Calls _ _ _ _ _) := rgiven_any g v X w h
  have CB : Hid (∀ p : Beh w, _) := fun p => rbase_any g v X p.w' (h.on p.h)
  obtain ⟨a, c, hv, _, _, hI⟩ := h.own.rows
  have e0 : ∀ p : Beh w, p.w'.cell? ⟨g, 6, none⟩ = some (.slice a X.2.2.2.length c) := fun p => p.cell (by rw [← hv]; exact h.blk.cell 6)
  have h0 := hX.b0
  have h1 := hX.last
  have h2 := hX.many
  unfold lastL at h1 ⊢
  obtain ⟨B, hB⟩ : ∃ B, X.2.2.1.1 = B := ⟨_, rfl⟩
  obtain ⟨n, hn⟩ : ∃ n, X.2.2.2.length = n := ⟨_, rfl⟩
  rw [hB] at CB h0 h1 ⊢
  rw [hn] at e0 h1 h2 ⊢
  have hw : IntKind.i64.wrap (B + (n : Int)) = B + (n : Int) := by rw [IntKind.wrap_i64]; omega
  clear h hB hn hX hI hv h0 h1 h2 hN
  go_enter Try.func11, Try.ntmps11
  go_wp2_with fail
  refine CG.out.mono ?_
  rintro e w1 ⟨rfl, hw1⟩
  subst hw1
  go_wp2_with fail
  have hne_ : Nonempty (Beh w1) := ⟨⟨_, Below.refl _ _⟩⟩
  refine wp_region_quiet_beh (by kernel_rfl) (by kernel_rfl) ?_
  repeat (quiet_step (first | (go_at_call 12; refine Calls.beh_of (CB.out _))))
  refine wpQuiet_nil ?_
  intro wq hw_
  obtain ⟨⟨wz_, hbq⟩, hw_⟩ := hw_
  subst hw_
  try dsimp only
  clear hne_
  go_wp2_with fail
  go_ret
  exact ⟨rfl, hbq⟩

set_option maxHeartbeats 2000000 in
theorem rsize_any (l : List ItT) (a : Option Addr) (n c : Nat) (w : World) (hI : ItsAt w a n l) (hn : n ≤ 1048576) (hz : sizeL l ≤ 4611686018427387904) :
    Calls Try.prog 32 #[.slice a n c] w fun e w' => e = .returned (.int .i64 (sizeL l : Int)) ∧ Below w.heap.size w w' := by
  obtain ⟨M, hM⟩ : ∃ M, sizeL l = M := ⟨_, rfl⟩
  have HM : Hid (sizeL l = M) := hM
  rw [hM]
  have HL : Hid (l.length = n) := hI.1
  have HI : Hid (ItsAt w a n l) := hI
  have HZ : Hid (sizeL l ≤ 4611686018427387904) := hz
  clear hI hz hM
  go_enter Try.func32, Try.ntmps32
  go_wp2_with fail
  go_loopw [3, 8] (fun x i wr => ∃ k : Nat, k ≤ n ∧ i = .int .i64 k ∧ x = .int .i64 (sizeL (l.take k) : Int) ∧ Hid (Below w.heap.size w wr)) (fun _ i _ => n - (intOf i).toNat)
  case atStart => exact ⟨0, Nat.zero_le _, rfl, rfl, Below.refl _ _⟩
  case round =>
    obtain ⟨k, hk, rfl, rfl, HB⟩ := hrel
    by_cases hlt : k < n
    · have b0 : (k : Int) < (n : Int) := by omega
      obtain ⟨lb, off, rfl, hcl⟩ := (HI.out.below HB.out).2.resolve_left (by omega)
      obtain ⟨k0, k1, k2⟩ := hcl k hlt
      have hs := sizeL_take l k (by rw [HL.out]; exact hlt)
      have hs2 := sizeL_split l (k + 1)
      obtain ⟨⟨x0, x1, x2⟩, hx⟩ : ∃ x, itL l k = x := ⟨_, rfl⟩
      rw [hx] at k0 k1 k2 hs
      simp only at k0 k1 k2 hs
      obtain ⟨m, hm⟩ : ∃ m, sizeL (l.take k) = m := ⟨_, rfl⟩
      rw [hm] at hs ⊢
      have hz := HZ.out
      have hw : IntKind.i64.wrap ((m : Int) + (x2.size : Int)) = ((sizeL (l.take (k + 1)) : Nat) : Int) := by rw [IntKind.wrap_i64, hs]; omega
      have y2 : (wr.alloc (.cells #[.int .i64 x0, .int .i64 x1, .string x2] 31)).cell? ⟨wr.heap.size, 2, none⟩ = some (.string x2) := (Blk.new wr 31 #[.int .i64 x0, .int .i64 x1, .string x2]).cell 2
      have HB2 : Hid (Below w.heap.size w (wr.alloc (.cells #[.int .i64 x0, .int .i64 x1, .string x2] 31))) := HB.out.alloc HB.out.size _
      clear hx hcl HB hm hs hs2 hz
      go_wp2_with fail
      refine ⟨?_, ?_⟩
      · first
        | exact ⟨k + 1, by omega, by go_num, by first | rfl | (rw [hw]) | (simp only [hw]), HB2⟩
        | ((repeat apply Exists.intro); refine ⟨?_, rfl⟩; exact ⟨k + 1, by omega, by go_num, by first | rfl | (rw [hw]) | (simp only [hw]), HB2⟩)
      · simp [intOf] <;> omega
    · obtain rfl : k = n := by omega
      have b0 : ¬ ((k : Int) < (k : Int)) := by omega
      have ht : l.take k = l := List.take_of_length_le (by rw [HL.out]; exact Nat.le_refl _)
      rw [ht, HM.out]
      clear ht HM HZ HI HL
      go_wp2_with fail
      go_ret
      exact ⟨rfl, HB.out⟩

set_option maxHeartbeats 2000000 in
theorem rbytes_any (g : Nat) (v : Value) (X : RlT) (N : Nat) (hX : RlOk N X) (w : World) (h : RlAt w g v X) : Calls Try.prog 13 #[.pointer (some ⟨g, 0, none⟩)] w fun e w' => e = .returned (.int .i64 (bytesL X : Int)) ∧ Below w.heap.size w w' := by
  have CG : Hid (Calls _ _ _ _ _) := rgiven_any g v X w h
  obtain ⟨a, c, hv, _, _, hI⟩ := h.own.rows
  have h1 := hX.bytes
  have h2 := hX.q1
  have h3 : sizeL X.2.2.2 ≤ bytesL X := by unfold bytesL; omega
  have CS : Hid (∀ p : Beh w, _) := fun p => rsize_any X.2.2.2 a X.2.2.2.length c p.w' (hI.below p.h) (by have := hX.many; omega) (by omega)
  have e0 : ∀ p : Beh w, p.w'.cell? ⟨g, 6, none⟩ = some (.slice a X.2.2.2.length c) := fun p => p.cell (by rw [← hv]; exact h.blk.cell 6)
  have e1 : ∀ p : Beh w, p.w'.cell? ⟨g, 5, none⟩ = some (.string X.2.2.1.2.2) := fun p => p.cell (h.blk.cell 5)
  unfold bytesL at h1 h3 ⊢
  obtain ⟨b, hb⟩ : ∃ b, X.2.2.1.2.2 = b := ⟨_, rfl⟩
  obtain ⟨n, hn⟩ : ∃ n, X.2.2.2.length = n := ⟨_, rfl⟩
  obtain ⟨m, hm⟩ : ∃ m, sizeL X.2.2.2 = m := ⟨_, rfl⟩
  rw [hm] at h1 h3 CS ⊢
  rw [hb] at h1 h3 e1 ⊢
  rw [hn] at e0 CS
  have hw : IntKind.i64.wrap ((b.size : Int) + (m : Int)) = ((b.size + m : Nat) : Int) := by rw [IntKind.wrap_i64]; omega
  clear h hb hn hX hI hv h1 h2 h3 hm
  go_enter Try.func13, Try.ntmps13
  go_wp2_with fail
  refine CG.out.mono ?_
  rintro e w1 ⟨rfl, hw1⟩
  subst hw1
  go_wp2_with fail
  have hne_ : Nonempty (Beh w1) := ⟨⟨_, Below.refl _ _⟩⟩
  refine wp_region_quiet_beh (by kernel_rfl) (by kernel_rfl) ?_
  repeat (quiet_step (first | (go_at_call 32; refine Calls.beh_of (CS.out _))))
  refine wpQuiet_nil ?_
  intro wq hw_
  obtain ⟨⟨wz_, hbq⟩, hw_⟩ := hw_
  subst hw_
  try dsimp only
  clear hne_
  go_wp2_with fail
  go_ret
  exact ⟨rfl, hbq⟩


theorem cellsI_len (l : List ItT) : (cellsI l).length = l.length * 3 := by
  induction l with
  | nil => rfl
  | cons x l ih => show ((itemA x).toList ++ cellsI l).length = _; rw [List.length_append, ih]; simp [itemA]; omega

theorem cellsI_one (l : List ItT) : ∀ u ∈ cellsI l, u.oneCell' = true := by
  intro u hu
  obtain ⟨x, _, hx⟩ := List.mem_flatMap.1 hu
  exact itemA_one x u hx

/-- A row of records of the call's own, with its block. -/
theorem OwnI19.blk {w : World} {B : Nat} {v : Value} {l : List ItT} (h : OwnI19 w B v l) : (v = .slice none 0 0 ∧ l = []) ∨ ∃ g cap cur, v = .slice (some ⟨g, 0, none⟩) l.length cap ∧ B ≤ g ∧ Blk w 31 g cur ∧ l.length ≤ cap ∧ cap ≤ maxLen ∧ cur.size = cap * 3 ∧ cur.toList.take (l.length * 3) = cellsI l := by
  rcases h.2 with ⟨rfl, h0⟩ | ⟨g, cap, cur, h1, h2, h3, h4, h5, h6, h7⟩
  · exact .inl ⟨rfl, List.length_eq_zero_iff.1 h0⟩
  · exact .inr ⟨g, cap, cur, h1, h2, h3, h4, h5, h6, h7⟩

theorem OwnI19.of {w : World} {B g cap : Nat} {cur : Array Value} {l : List ItT} {n : Nat} (hn : l.length = n) (hB : B ≤ g) (h : Blk w 31 g cur) (h1 : l.length ≤ cap) (h2 : cap ≤ maxLen) (h3 : cur.size = cap * 3) (h4 : cur.toList.take (l.length * 3) = cellsI l) : OwnI19 w B (.slice (some ⟨g, 0, none⟩) n cap) l := by
  subst hn
  exact ⟨cellsI_len l, .inr ⟨g, cap, cur, rfl, hB, h, h1, h2, h3, h4⟩⟩

set_option maxHeartbeats 1000000 in
theorem cloneI_any (l : List ItT) (sl : Value) (w : World) (hO : OwnI19 w 0 sl l) (hn : l.length ≤ 60000) :
    Calls Try.prog 33 #[sl] w fun e w' => ∃ v, e = .returned v ∧ OwnI19 w' w.heap.size v l ∧ Below w.heap.size w w' := by
  obtain ⟨i0, hi, hz0, hz1, hz2⟩ := info_parts Try.infoI19
  have heq := fun (w : World) a n c => Lib.run_eql_slice_nil (P := Try.prog) w 29 31 a n c 0 0 Try.underlying29
  rcases hO.blk with ⟨rfl, rfl⟩ | ⟨g, cap, cur, rfl, _, hb, k1, k2, k3, k4⟩
  · clear hO hi hz0 hz1 hz2
    go_enter Try.func33, Try.ntmps33
    go_wp2_with fail
    go_ret
    exact ⟨_, rfl, World.ownsRow_nil _ _ _ _, Below.refl _ _⟩
  · have hB0 : Below w.heap.size w (w.alloc (.cells #[] 31)) := below_new w _
    have hown : (w.alloc (.cells #[] 31)).ownsRow w.heap.size 31 3 (.slice (some ⟨w.heap.size, 0, none⟩) 0 0) 0 [] := ⟨rfl, .inr ⟨w.heap.size, 0, #[], rfl, Nat.le_refl _, Blk.new w _ _, Nat.le_refl _, Nat.zero_le _, rfl, rfl⟩⟩
    obtain ⟨v', w', hr, h2, h3, _⟩ := run_append_own (P := Try.prog) (w.alloc (.cells #[] 31)) w.heap.size 29 0 31 i0 _ 3 32 Try.underlying29 hi hz0 hz1 hz2 rfl (by decide) _ 0 [] hown ⟨g, 0, none⟩ l.length cap (cellsI l) (cellsI_len l) (fun j u hj => by
      have hjl := (List.getElem?_eq_some_iff.1 hj).1
      rw [cellsI_len] at hjl
      rw [Go.WideShapes.add_plain, Nat.zero_add, (hb.alloc _).cell]
      rw [← k4, List.getElem?_take_of_lt hjl] at hj
      rw [← Array.getElem?_toList]; exact hj) (cellsI_one l) (by unfold maxLen; omega) (by omega) (by simp)
    rw [Nat.zero_add, List.nil_append] at h2
    have hA : ∀ ty, (Builtin.append_ #[29, 29] ty #[.slice (some ⟨w.heap.size, 0, none⟩) 0 0, .slice (some ⟨g, 0, none⟩) l.length cap]).run Try.prog (w.alloc (.cells #[] 31)) = .ok v' w' := fun _ => hr
    have HF : Hid (OwnI19 w' w.heap.size v' l) := h2
    have HG : Hid (Below w.heap.size w w') := hB0.grown h3 hB0.size (fun k e => by cases e; exact Nat.le_refl _)
    clear h2 h3 hr hown hB0 hO hb k3 k4 hi hz0 hz1 hz2
    go_enter Try.func33, Try.ntmps33
    go_wp2_with (at_builtin; refine Lib.wpList_append_run _ rfl _ _ 29 29 rfl _ _ rfl rfl _ _ (hA _) ?_)
    go_ret
    exact ⟨_, rfl, HF.out, HG.out⟩

set_option maxHeartbeats 1000000 in
theorem ritems_any (g : Nat) (v : Value) (X : RlT) (hn : X.2.2.2.length ≤ 60000) (w : World) (h : RlAt w g v X) : Calls Try.prog 16 #[.pointer (some ⟨g, 0, none⟩)] w fun e w' => ∃ v', e = .returned v' ∧ OwnI19 w' w.heap.size v' X.2.2.2 ∧ Below w.heap.size w w' := by
  have CG : Hid (Calls _ _ _ _ _) := rgiven_any g v X w h
  have CC : Hid (Calls _ _ _ _ _) := cloneI_any X.2.2.2 v w h.own hn
  have c3 : w.cell? ⟨g, 6, none⟩ = some v := h.blk.cell 6
  clear h hn
  go_enter Try.func16, Try.ntmps16
  go_wp2_with fail
  refine CG.out.mono ?_
  rintro e w1 ⟨rfl, rfl⟩
  go_wp2_with fail
  refine CC.out.mono ?_
  rintro e w1 ⟨v', rfl, h1, h2⟩
  go_wp2_with fail
  go_ret
  exact ⟨_, rfl, h1, h2⟩


set_option maxHeartbeats 1000000 in
theorem rbase_no (p : Value) (w : World) (h : NoR w p) : Calls Try.prog 12 #[p] w fun e w' => e = .returned (.int .i64 0) ∧ Below w.heap.size w w' := by
  go_enter Try.func12, Try.ntmps12
  go_wp2_with fail
  refine (h _ (Below.refl _ _)).mono ?_
  rintro e w1 ⟨rfl, rfl⟩
  go_wp2_with fail
  go_ret
  exact ⟨rfl, Below.refl _ _⟩

set_option maxHeartbeats 1000000 in
theorem rlast_no (p : Value) (w : World) (h : NoR w p) : Calls Try.prog 11 #[p] w fun e w' => e = .returned (.int .i64 0) ∧ Below w.heap.size w w' := by
  go_enter Try.func11, Try.ntmps11
  go_wp2_with fail
  refine (h _ (Below.refl _ _)).mono ?_
  rintro e w1 ⟨rfl, rfl⟩
  go_wp2_with fail
  go_ret
  exact ⟨rfl, Below.refl _ _⟩

set_option maxHeartbeats 1000000 in
theorem rbytes_no (p : Value) (w : World) (h : NoR w p) : Calls Try.prog 13 #[p] w fun e w' => e = .returned (.int .i64 0) ∧ Below w.heap.size w w' := by
  go_enter Try.func13, Try.ntmps13
  go_wp2_with fail
  refine (h _ (Below.refl _ _)).mono ?_
  rintro e w1 ⟨rfl, rfl⟩
  go_wp2_with fail
  go_ret
  exact ⟨rfl, Below.refl _ _⟩

set_option maxHeartbeats 1000000 in
theorem ritems_no (p : Value) (w : World) (h : NoR w p) : Calls Try.prog 16 #[p] w fun e w' => e = .returned (.slice none 0 0) ∧ Below w.heap.size w w' := by
  go_enter Try.func16, Try.ntmps16
  go_wp2_with fail
  refine (h _ (Below.refl _ _)).mono ?_
  rintro e w1 ⟨rfl, rfl⟩
  go_wp2_with fail
  go_ret
  exact ⟨rfl, Below.refl _ _⟩

set_option maxHeartbeats 1000000 in
theorem rhear_no (p : Value) (s : ByteArray) (w : World) (h : NoR w p) : Calls Try.prog 10 #[p, .string s] w fun e w' => e = .returned (.string ⟨#[]⟩) ∧ Below w.heap.size w w' := by
  go_enter Try.func10, Try.ntmps10
  go_wp2_with fail
  refine (h _ (Below.refl _ _)).mono ?_
  rintro e w1 ⟨rfl, rfl⟩
  go_wp2_with fail
  go_ret
  exact ⟨rfl, Below.refl _ _⟩

set_option maxHeartbeats 1000000 in
theorem refusal_any (e0 : Int) (w : World) : Calls Try.prog 43 #[.int .i64 e0] w fun e w' => e = .returned (.agg (frmA (errF e0) none 0)) ∧ Below w.heap.size w w' := by
  have X1 : Blk (w.alloc (.cells #[.int .i64 0, .int .i64 0, .int .i64 0, .int .i64 0, .int .i64 0, .string ⟨#[]⟩, .slice none 0 0, .int .i64 0] 39)) 39 w.heap.size #[.int .i64 0, .int .i64 0, .int .i64 0, .int .i64 0, .int .i64 0, .string ⟨#[]⟩, .slice none 0 0, .int .i64 0] := Blk.new _ _ _
  go_enter Try.func43, Try.ntmps43
  go_wp2_with (with_reducible refine wpList_storeBlk rfl 39 _ _ rfl w.heap.size #[.int .i64 0, .int .i64 0, .int .i64 0, .int .i64 0, .int .i64 0, .string ⟨#[]⟩, .slice none 0 0, .int .i64 0] #[.int .i64 9, .int .i64 0, .int .i64 0, .int .i64 0, .int .i64 0, .string ⟨#[]⟩, .slice none 0 0, .int .i64 e0] ?hx ?hy X1 rfl ?hi ?h1 ?_)
  try (case hx => rfl)
  try (case hy => rfl)
  try (case hi => kernel_rfl)
  try (case h1 => simp [Value.oneCell'])
  exact bodyPost_row rfl w.heap.size #[.int .i64 9, .int .i64 0, .int .i64 0, .int .i64 0, .int .i64 0, .string ⟨#[]⟩, .slice none 0 0, .int .i64 e0] rfl rfl (X1.setRow _) _ Try.underlying39 rfl (by kernel_rfl) ⟨rfl, below_setRow (below_new _ _) (Nat.le_refl _) _⟩

end Go.Proofs.Ytkmdajenbidaaaa
