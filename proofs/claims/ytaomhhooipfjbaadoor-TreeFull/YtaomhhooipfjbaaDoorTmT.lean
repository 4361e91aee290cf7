/- The code's tree: its object; New, given, Base, Ops, Fixed (layer 11). -/
import Derived.Test.YtaomhhooipfjbaaDoorTmU
import Derived.Test.YtaomhhooipfjbaaDoorTmE
import Derived.Test.YtaomhhooipfjbaaDoorTmL
import Derived.Test.YtaomhhooipfjbaaDoorTmP
import Derived.Test.YtaomhhooipfjbaaDoorTrE
import Derived.LaidEqlPtr
namespace Go.Proofs.YtaomhhooipfjbaaDoor
open Go.RowKit
set_option linter.unusedSimpArgs false

/-- Of what was there only some blocks may have turned. -/
structure KeptF (F : Nat → Prop) (w w' : World) : Prop where
  os : w'.os = w.os
  tape : w'.tape = w.tape
  output : w'.output = w.output
  size : w.heap.size ≤ w'.heap.size
  block : ∀ k, k < w.heap.size → ¬ F k → w'.heap[k]? = w.heap[k]?

theorem KeptF.refl (F : Nat → Prop) (w : World) : KeptF F w w := ⟨rfl, rfl, rfl, Nat.le_refl _, fun _ _ _ => rfl⟩

theorem KeptF.trans {F G : Nat → Prop} {a b c : World} (h : KeptF F a b) (k : KeptF G b c) (hG : ∀ j, j < a.heap.size → G j → F j) : KeptF F a c :=
  ⟨k.os.trans h.os, k.tape.trans h.tape, k.output.trans h.output, Nat.le_trans h.size k.size, fun j hj hF => (k.block j (Nat.lt_of_lt_of_le hj h.size) (fun g => hF (hG j hj g))).trans (h.block j hj hF)⟩

theorem KeptF.ofBelow (F : Nat → Prop) {w w' : World} (h : Below w.heap.size w w') : KeptF F w w' := ⟨h.os, h.tape, h.output, h.size, fun k hk _ => h.block k hk⟩

theorem KeptF.ofGrown {F : Nat → Prop} {w w' : World} {r : Option Nat} (h : w.grownBy w' r) (hr : ∀ k, r = some k → F k) : KeptF F w w' := ⟨h.os, h.tape, h.output, h.size, fun k hk hF => h.block k hk (fun e => hF (hr k e.symm))⟩

theorem KeptF.on {F : Nat → Prop} {a b c : World} (h : KeptF F a b) (k : Below b.heap.size b c) : KeptF F a c := h.trans (KeptF.ofBelow F k) (fun _ _ h => h)

theorem KeptF.grown {F : Nat → Prop} {a b c : World} {r : Option Nat} (h : KeptF F a b) (k : b.grownBy c r) (hr : ∀ j, r = some j → j < a.heap.size → F j) : KeptF F a c :=
  ⟨k.os.trans h.os, k.tape.trans h.tape, k.output.trans h.output, Nat.le_trans h.size k.size, fun j hj hF => (k.block j (Nat.lt_of_lt_of_le hj h.size) (fun e => hF (hr j e.symm hj))).trans (h.block j hj hF)⟩

theorem KeptF.setCell {F : Nat → Prop} {a b : World} (h : KeptF F a b) (g j : Nat) (v : Value) (hg : g < a.heap.size → F g) : KeptF F a (b.setCell ⟨g, j, none⟩ v) := h.grown (grown_set b g j v) (fun k e hk => by cases e; exact hg hk)

theorem KeptF.below {F : Nat → Prop} {w w' : World} (h : KeptF F w w') (B : Nat) (hB : B ≤ w.heap.size) (hF : ∀ k, F k → B ≤ k) : Below B w w' :=
  ⟨h.os, h.tape, h.output, h.size, fun k hk => h.block k (by omega) (fun f => by have := hF k f; omega)⟩

/-- The blocks of a tree. -/
def tfoot (g f m : Nat) (r : Option Nat) (k : Nat) : Prop := k = g ∨ k = f ∨ k = m ∨ some k = r

/-- A tree on plain data that may be one. -/
structure TreeOk (T : TreeT) : Prop where
  rooted : Rooted T.1
  sort : SortO T.2.1
  may : ∀ o ∈ T.2.1, MayO o

def treeC (g f m : Nat) (sl : Value) (b : Int × Int) (st : Bool) : Array Value := #[.pointer (some ⟨g, 0, none⟩), .int .i64 b.1, .int .i64 b.2, .map (some f), sl, .map (some m), .bool st]

/-- The code's tree at block g, its maps at f and m, its operations' row r. -/
structure TreeIn (w : World) (g f m : Nat) (r : Option Nat) (T : TreeT) : Prop where
  ok : TreeOk T
  ne : f ≠ m
  obj : ∃ sl st, sl.ownBlock = r ∧ Blk w 52 g (treeC g f m sl T.2.2 st) ∧ OwnO w 0 sl T.2.1 ∧ MapN w f T.1 ∧ ∃ ms, MapN w m ms ∧ (st = false → ms = nodesP T.1 T.2.1)

theorem mapN_obj {w : World} {r : Nat} {ns : List NodeT} (h : MapN w r ns) : ∃ es clock, w.heap[r]? = some (.map es clock) := by
  obtain ⟨es, clock, h1, _⟩ := h.len
  exact ⟨es, clock, h1⟩

theorem blk_map {w : World} {t : TypeId} {g r : Nat} {cs : Array Value} {ns : List NodeT} (h : Blk w t g cs) (k : MapN w r ns) : g ≠ r := by
  obtain ⟨es, clock, h1⟩ := mapN_obj k
  intro e
  subst e
  unfold Blk at h
  rw [h1] at h; cases h

theorem own_map {w : World} {B r j : Nat} {v : Value} {l : List OpT} {ns : List NodeT} (h : OwnO w B v l) (k : MapN w r ns) (hj : v.ownBlock = some j) : j ≠ r := by
  rcases h.blk with ⟨rfl, _⟩ | ⟨g, cap, cur, rfl, _, hb, _⟩
  · cases hj
  · cases hj; exact blk_map hb k

theorem own_blk {w : World} {B g j : Nat} {v : Value} {l : List OpT} {cs : Array Value} (h : OwnO w B v l) (k : Blk w 52 g cs) (hj : v.ownBlock = some j) : j ≠ g := by
  rcases h.blk with ⟨rfl, _⟩ | ⟨g', cap, cur, rfl, _, hb, _⟩
  · cases hj
  · cases hj
    intro e
    subst e
    unfold Blk at hb k
    rw [hb] at k
    cases k

theorem TreeIn.lt {w : World} {g f m : Nat} {r : Option Nat} {T : TreeT} (h : TreeIn w g f m r T) {k : Nat} (hk : tfoot g f m r k) : k < w.heap.size := by
  obtain ⟨sl, st, h1, h2, h3, h4, ms, h5, _⟩ := h.obj
  rcases hk with rfl | rfl | rfl | hk
  · exact h2.lt
  · exact h4.lt
  · exact h5.lt
  · rw [← h1] at hk; exact (World.ownsRow.lt h3 k hk.symm).2

theorem TreeIn.same {w w' : World} {g f m : Nat} {r : Option Nat} {T : TreeT} (h : TreeIn w g f m r T) (hs : ∀ k, tfoot g f m r k → w'.heap[k]? = w.heap[k]?) : TreeIn w' g f m r T := by
  obtain ⟨sl, st, h1, h2, h3, h4, ms, h5, h6⟩ := h.obj
  refine ⟨h.ok, h.ne, sl, st, h1, ?_, owns_same h3 (fun k hk => hs k (.inr (.inr (.inr (by rw [← h1]; exact hk.symm))))), h4.block (hs f (.inr (.inl rfl))), ms, h5.block (hs m (.inr (.inr (.inl rfl)))), h6⟩
  unfold Blk
  rw [hs g (.inl rfl)]; exact h2

theorem TreeIn.on {w w' : World} {g f m : Nat} {r : Option Nat} {T : TreeT} (h : TreeIn w g f m r T) (hb : Below w.heap.size w w') : TreeIn w' g f m r T := h.same (fun k hk => hb.block k (h.lt hk))

theorem TreeIn.kept {w w' : World} {F : Nat → Prop} {g f m : Nat} {r : Option Nat} {T : TreeT} (h : TreeIn w g f m r T) (hk : KeptF F w w') (hF : ∀ k, tfoot g f m r k → ¬ F k) : TreeIn w' g f m r T := h.same (fun k hf => hk.block k (h.lt hf) (hF k hf))

set_option maxRecDepth 100000 in
set_option maxHeartbeats 2000000 in
theorem new_any (w : World) : Calls Tryd.prog 7 #[] w fun e w' => ∃ g f m, e = .returned (.pointer (some ⟨g, 0, none⟩)) ∧ TreeIn w' g f m none ([], [], (0, 0)) ∧ (∀ k, tfoot g f m none k → w.heap.size ≤ k) ∧ Below w.heap.size w w' := by
  have hmm := @run_makeMap Tryd.prog
  go_enter Tryd.func7, Tryd.ntmps7
  go_wp2_with fail
  refine (root_any w).mono ?_
  rintro e w1 ⟨rfl, hb1⟩
  go_wp2_with fail
  go_ret
  have hs := hb1.size
  have h1 := MapN.made w1
  have h2 := MapN.made (w1.alloc (.map #[] 0))
  rw [World.size_alloc] at h2
  refine ⟨w1.heap.size + 1 + 1, w1.heap.size, w1.heap.size + 1, rfl, ⟨⟨rooted_nil, List.Pairwise.nil, fun _ h => absurd h List.not_mem_nil⟩, by omega, .slice none 0 0, false, rfl, Blk.new' _ _ _ _ (by simp), OwnO.nil _ _, (h1.on (below_new _ _)).on (below_new _ _), [], h2.on (below_new _ _), fun _ => rfl⟩, ?_, ?_⟩
  · rintro k (rfl | rfl | rfl | h)
    · omega
    · omega
    · omega
    · cases h
  · exact ((hb1.alloc hs _).alloc (by simp; omega) _).alloc (by simp; omega) _

theorem Tryd.treeInfo : (Tryd.prog.info? 52).map (·.size) = some 7 := by kernel_rfl

set_option maxRecDepth 100000 in
set_option maxHeartbeats 2000000 in
theorem given_any (g : Nat) (w : World) (sl : Value) (b : Int × Int) (f m : Nat) (st : Bool) (h : Blk w 52 g (treeC g f m sl b st)) : Calls Tryd.prog 23 #[.pointer (some ⟨g, 0, none⟩)] w fun e w' => e = .returned (.bool true) ∧ w' = w := by
  have c0 : w.cell? ⟨g, 0, none⟩ = some (.pointer (some ⟨g, 0, none⟩)) := h.cell 0
  obtain ⟨j, hj, _⟩ := Option.map_eq_some_iff.1 Tryd.treeInfo
  have hq := run_eql_ptr_same (P := Tryd.prog) w ⟨g, 0, none⟩ Tryd.underlying23 hj
  clear h
  go_enter Tryd.func23, Tryd.ntmps23
  go_wp2
  go_ret
  exact ⟨rfl, rfl⟩

set_option maxRecDepth 100000 in
set_option maxHeartbeats 2000000 in
theorem base_any (g f m : Nat) (r : Option Nat) (T : TreeT) (w : World) (h : TreeIn w g f m r T) : Calls Tryd.prog 22 #[.pointer (some ⟨g, 0, none⟩)] w fun e w' => e = .returned (stampV T.2.2) ∧ Below w.heap.size w w' := by
  obtain ⟨fx, ops, b1, b2⟩ := T
  obtain ⟨sl, st, h1, h2, _⟩ := h.obj
  have hK := h2.alloc (.cells #[.int .i64 0, .int .i64 0] 28)
  have CG : Hid (Calls _ _ _ _ _) := given_any g _ sl (b1, b2) f m st hK
  have c1 : (w.alloc (.cells #[.int .i64 0, .int .i64 0] 28)).cell? ⟨g, 1, none⟩ = some (.int .i64 b1) := hK.cell 1
  have c2 : (w.alloc (.cells #[.int .i64 0, .int .i64 0] 28)).cell? ⟨g, 2, none⟩ = some (.int .i64 b2) := hK.cell 2
  have HB : Hid (Blk (w.alloc (.cells #[.int .i64 0, .int .i64 0] 28)) 28 w.heap.size #[.int .i64 0, .int .i64 0]) := Blk.new _ _ _
  clear h hK h2
  go_enter Tryd.func22, Tryd.ntmps22
  go_wp2_with fail
  refine CG.out.mono ?_
  rintro e w1 ⟨rfl, rfl⟩
  clear CG
  go_wp2_with (with_reducible refine wpList_storeBlk rfl 28 _ _ rfl w.heap.size #[.int .i64 0, .int .i64 0] #[.int .i64 b1, .int .i64 b2] ?hx ?hy HB.out rfl ?hi ?h1 ?_)
  try (case hx => rfl)
  try (case hy => rfl)
  try (case hi => first | kernel_rfl | (refine Option.map_eq_some_iff.1 (?_ : (Tryd.prog.info? 28).map (·.size) = some 2); kernel_rfl))
  try (case h1 => simp [Value.oneCell'])
  exact bodyPost_row rfl w.heap.size #[.int .i64 b1, .int .i64 b2] rfl rfl (HB.out.setRow _) _ Tryd.underlying28 rfl (by kernel_rfl) ⟨rfl, below_setRow (below_new w _) (Nat.le_refl _) _⟩

set_option maxRecDepth 100000 in
set_option maxHeartbeats 2000000 in
theorem ops_any (g f m : Nat) (r : Option Nat) (T : TreeT) (w : World) (h : TreeIn w g f m r T) (hn : T.1.length + T.2.1.length ≤ 60000) : Calls Tryd.prog 14 #[.pointer (some ⟨g, 0, none⟩)] w fun e w' => ∃ v, e = .returned v ∧ OwnO w' w.heap.size v T.2.1 ∧ Below w.heap.size w w' := by
  obtain ⟨fx, ops, b⟩ := T
  obtain ⟨sl, st, h1, h2, h3, _⟩ := h.obj
  have CG : Hid (Calls _ _ _ _ _) := given_any g w sl b f m st h2
  have CC : Hid (Calls _ _ _ _ _) := clone_any ops sl w h3 (by simp only at hn; omega)
  have c4 : w.cell? ⟨g, 4, none⟩ = some sl := h2.cell 4
  obtain ⟨a, cap, rfl, _⟩ := OwnO.ops h3
  clear h h2 h3
  go_enter Tryd.func14, Tryd.ntmps14
  go_wp2_with fail
  refine CG.out.mono ?_
  rintro e w1 ⟨rfl, rfl⟩
  clear CG
  go_wp2_with fail
  refine CC.out.mono ?_
  rintro e w2 ⟨v, rfl, ho, hb⟩
  clear CC
  go_wp2_with fail
  go_ret
  exact ⟨v, rfl, ho, hb⟩

set_option maxRecDepth 100000 in
set_option maxHeartbeats 2000000 in
theorem fixed_any (g f m : Nat) (r : Option Nat) (T : TreeT) (w : World) (h : TreeIn w g f m r T) (hn : T.1.length + T.2.1.length ≤ 60000) : Calls Tryd.prog 21 #[.pointer (some ⟨g, 0, none⟩)] w fun e w' => ∃ v, e = .returned v ∧ OwnN w' w.heap.size v T.1 ∧ Below w.heap.size w w' := by
  obtain ⟨fx, ops, b⟩ := T
  obtain ⟨sl, st, h1, h2, h3, h4, _⟩ := h.obj
  have CG : Hid (Calls _ _ _ _ _) := given_any g w sl b f m st h2
  have CC : Hid (Calls _ _ _ _ _) := list_any f fx (by simp only at hn; omega) w h4
  have c3 : w.cell? ⟨g, 3, none⟩ = some (.map (some f)) := h2.cell 3
  clear h h2 h3 h4
  go_enter Tryd.func21, Tryd.ntmps21
  go_wp2_with fail
  refine CG.out.mono ?_
  rintro e w1 ⟨rfl, rfl⟩
  clear CG
  go_wp2_with fail
  refine CC.out.mono ?_
  rintro e w2 ⟨v, rfl, ho, hb⟩
  clear CC
  go_wp2_with fail
  go_ret
  exact ⟨v, rfl, ho, hb⟩
end Go.Proofs.YtaomhhooipfjbaaDoor
