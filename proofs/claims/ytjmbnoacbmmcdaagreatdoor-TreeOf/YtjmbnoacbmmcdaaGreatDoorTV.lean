import Derived.Test.YtjmbnoacbmmcdaaGreatDoorTS
import Derived.Test.YtjmbnoacbmmcdaaGreatDoorTA
import Derived.Test.YtjmbnoacbmmcdaaGreatDoorTC
import Derived.Test.YtjmbnoacbmmcdaaGreatDoorTX
import Derived.LaidEqlPtr
/- The code's tree: its object; New, given, Base, Ops, Fixed (layer 11). -/
namespace Go.Proofs.YtjmbnoacbmmcdaaGreatDoor
open Go.RowKit
set_option linter.unusedSimpArgs false

/-- Of what was there only some blocks may have turned. -/
structure KeptF (F : Nat → Prop) (w w' : World) : Prop where
  os : w'.os = w.os
  tape : w'.tape = w.tape
  output : w'.output = w.output
  size : w.heap.size ≤ w'.heap.size
  block : ∀ k, k < w.heap.size → ¬ F k → w'.heap[k]? = w.heap[k]?

theorem KeptF.refl (F : Nat → Prop) (w : World) : KeptF F w w := ⟨rfl, rfl, rfl, Nat.le_refl _, fun _ _ _ => rfl⟩

theorem KeptF.trans {F G : Nat → Prop} {a b c : World} (h : KeptF F a b) (k : KeptF G b c) (hG : ∀ j, j < a.heap.size → G j → F j) : KeptF F a c :=
  ⟨k.os.trans h.os, k.tape.trans h.tape, k.output.trans h.output, Nat.le_trans h.size k.size, fun j hj hF => (k.block j (Nat.lt_of_lt_of_le hj h.size) (fun g => hF (hG j hj g))).trans (h.block j hj hF)⟩

theorem KeptF.ofBelow (F : Nat → Prop) {w w' : World} (h : Below w.heap.size w w') : KeptF F w w' := ⟨h.os, h.tape, h.output, h.size, fun k hk _ => h.block k hk⟩

theorem KeptF.ofGrown {F : Nat → Prop} {w w' : World} {r : Option Nat} (h : w.grownBy w' r) (hr : ∀ k, r = some k → F k) : KeptF F w w' := ⟨h.os, h.tape, h.output, h.size, fun k hk hF => h.block k hk (fun e => hF (hr k e.symm))⟩

theorem KeptF.on {F : Nat → Prop} {a b c : World} (h : KeptF F a b) (k : Below b.heap.size b c) : KeptF F a c := h.trans (KeptF.ofBelow F k) (fun _ _ h => h)

theorem KeptF.grown {F : Nat → Prop} {a b c : World} {r : Option Nat} (h : KeptF F a b) (k : b.grownBy c r) (hr : ∀ j, r = some j → j < a.heap.size → F j) : KeptF F a c :=
  ⟨k.os.trans h.os, k.tape.trans h.tape, k.output.trans h.output, Nat.le_trans h.size k.size, fun j hj hF => (k.block j (Nat.lt_of_lt_of_le hj h.size) (fun e => hF (hr j e.symm hj))).trans (h.block j hj hF)⟩

theorem KeptF.setCell {F : Nat → Prop} {a b : World} (h : KeptF F a b) (g j : Nat) (v : Value) (hg : g < a.heap.size → F g) : KeptF F a (b.setCell ⟨g, j, none⟩ v) := h.grown (grown_set b g j v) (fun k e hk => by cases e; exact hg hk)

theorem KeptF.below {F : Nat → Prop} {w w' : World} (h : KeptF F w w') (B : Nat) (hB : B ≤ w.heap.size) (hF : ∀ k, F k → B ≤ k) : Below B w w' :=
  ⟨h.os, h.tape, h.output, h.size, fun k hk => h.block k (by omega) (fun f => by have := hF k f; omega)⟩

/-- The blocks of a tree. -/
def tfoot (g f m : Nat) (r : Option Nat) (k : Nat) : Prop := k = g ∨ k = f ∨ k = m ∨ some k = r

/-- A tree on plain data that may be one. -/
structure TreeOk (T : TreeT) : Prop where
  rooted : Rooted T.1
  sort : SortO T.2.1
  may : ∀ o ∈ T.2.1, MayO o

def treeC (g f m : Nat) (sl : Value) (b : Int × Int) (st : Bool) : Array Value := #[.pointer (some ⟨g, 0, none⟩), .int .i64 b.1, .int .i64 b.2, .map (some f), sl, .map (some m), .bool st]

/-- The code's tree at block g, its maps at f and m, its operations' row r. -/
structure TreeIn (w : World) (g f m : Nat) (r : Option Nat) (T : TreeT) : Prop where
  ok : TreeOk T
  ne : f ≠ m
  obj : ∃ sl st, sl.ownBlock = r ∧ Blk w 62 g (treeC g f m sl T.2.2 st) ∧ OwnO w 0 sl T.2.1 ∧ MapN w f T.1 ∧ ∃ ms, MapN w m ms ∧ (st = false → ms = nodesP T.1 T.2.1)

theorem mapN_obj {w : World} {r : Nat} {ns : List NodeT} (h : MapN w r ns) : ∃ es clock, w.heap[r]? = some (.map es clock) := by
  obtain ⟨es, clock, h1, _⟩ := h.len
  exact ⟨es, clock, h1⟩

theorem blk_map {w : World} {t : TypeId} {g r : Nat} {cs : Array Value} {ns : List NodeT} (h : Blk w t g cs) (k : MapN w r ns) : g ≠ r := by
  obtain ⟨es, clock, h1⟩ := mapN_obj k
  intro e
  subst e
  unfold Blk at h
  rw [h1] at h; cases h

theorem own_map {w : World} {B r j : Nat} {v : Value} {l : List OpT} {ns : List NodeT} (h : OwnO w B v l) (k : MapN w r ns) (hj : v.ownBlock = some j) : j ≠ r := by
  rcases h.blk with ⟨rfl, _⟩ | ⟨g, cap, cur, rfl, _, hb, _⟩
  · cases hj
  · cases hj; exact blk_map hb k

theorem own_blk {w : World} {B g j : Nat} {v : Value} {l : List OpT} {cs : Array Value} (h : OwnO w B v l) (k : Blk w 62 g cs) (hj : v.ownBlock = some j) : j ≠ g := by
  rcases h.blk with ⟨rfl, _⟩ | ⟨g', cap, cur, rfl, _, hb, _⟩
  · cases hj
  · cases hj
    intro e
    subst e
    unfold Blk at hb k
    rw [hb] at k
    cases k

theorem TreeIn.lt {w : World} {g f m : Nat} {r : Option Nat} {T : TreeT} (h : TreeIn w g f m r T) {k : Nat} (hk : tfoot g f m r k) : k < w.heap.size := by
  obtain ⟨sl, st, h1, h2, h3, h4, ms, h5, _⟩ := h.obj
  rcases hk with rfl | rfl | rfl | hk
  · exact h2.lt
  · exact h4.lt
  · exact h5.lt
  · rw [← h1] at hk; exact (World.ownsRow.lt h3 k hk.symm).2

theorem TreeIn.same {w w' : World} {g f m : Nat} {r : Option Nat} {T : TreeT} (h : TreeIn w g f m r T) (hs : ∀ k, tfoot g f m r k → w'.heap[k]? = w.heap[k]?) : TreeIn w' g f m r T := by
  obtain ⟨sl, st, h1, h2, h3, h4, ms, h5, h6⟩ := h.obj
  refine ⟨h.ok, h.ne, sl, st, h1, ?_, owns_same h3 (fun k hk => hs k (.inr (.inr (.inr (by rw [← h1]; exact hk.symm))))), h4.block (hs f (.inr (.inl rfl))), ms, h5.block (hs m (.inr (.inr (.inl rfl)))), h6⟩
  unfold Blk
  rw [hs g (.inl rfl)]; exact h2

theorem TreeIn.on {w w' : World} {g f m : Nat} {r : Option Nat} {T : TreeT} (h : TreeIn w g f m r T) (hb : Below w.heap.size w w') : TreeIn w' g f m r T := h.same (fun k hk => hb.block k (h.lt hk))

theorem TreeIn.kept {w w' : World} {F : Nat → Prop} {g f m : Nat} {r : Option Nat} {T : TreeT} (h : TreeIn w g f m r T) (hk : KeptF F w w') (hF : ∀ k, tfoot g f m r k → ¬ F k) : TreeIn w' g f m r T := h.same (fun k hf => hk.block k (h.lt hf) (hF k hf))

set_option maxRecDepth 100000 in
set_option maxHeartbeats 2000000 in
theorem new_any (w : World) : Calls Tryz.prog 5 #[] w fun e w' => ∃ g f m, e = .returned (.pointer (some ⟨g, 0, none⟩)) ∧ TreeIn w' g f m none ([], [], (0, 0)) ∧ (∀ k, tfoot g f m none k → w.heap.size ≤ k) ∧ Below w.heap.size w w' := by
  have hmm := @run_makeMap Tryz.prog
  go_enter Tryz.func5, Tryz.ntmps5
  go_wp2_with fail
  refine (root_any w).mono ?_
  rintro e w1 ⟨rfl, hb1⟩
  go_wp2_with fail
  go_ret
  have hs := hb1.size
  have h1 := MapN.made w1
  have h2 := MapN.made (w1.alloc (.map #[] 0))
  rw [World.size_alloc] at h2
  refine ⟨w1.heap.size + 1 + 1, w1.heap.size, w1.heap.size + 1, rfl, ⟨⟨rooted_nil, List.Pairwise.nil, fun _ h => absurd h List.not_mem_nil⟩, by omega, .slice none 0 0, false, rfl, Blk.new' _ _ _ _ (by simp), OwnO.nil _ _, (h1.on (below_new _ _)).on (below_new _ _), [], h2.on (below_new _ _), fun _ => rfl⟩, ?_, ?_⟩
  · rintro k (rfl | rfl | rfl | h)
    · omega
    · omega
    · omega
    · cases h
  · exact ((hb1.alloc hs _).alloc (by simp; omega) _).alloc (by simp; omega) _

theorem Tryz.treeInfo : (Tryz.prog.info? 62).map (·.size) = some 7 := by kernel_rfl

set_option maxRecDepth 100000 in
set_option maxHeartbeats 2000000 in
theorem given_any (g : Nat) (w : World) (sl : Value) (b : Int × Int) (f m : Nat) (st : Bool) (h : Blk w 62 g (treeC g f m sl b st)) : Calls Tryz.prog 31 #[.pointer (some ⟨g, 0, none⟩)] w fun e w' => e = .returned (.bool true) ∧ w' = w := by
  have c0 : w.cell? ⟨g, 0, none⟩ = some (.pointer (some ⟨g, 0, none⟩)) := h.cell 0
  obtain ⟨j, hj, _⟩ := Option.map_eq_some_iff.1 Tryz.treeInfo
  have hq := run_eql_ptr_same (P := Tryz.prog) w ⟨g, 0, none⟩ Tryz.underlying26 hj
  clear h
  go_enter Tryz.func31, Tryz.ntmps31
  go_wp2
  go_ret
  exact ⟨rfl, rfl⟩

set_option maxRecDepth 100000 in
set_option maxHeartbeats 2000000 in
theorem base_any (g f m : Nat) (r : Option Nat) (T : TreeT) (w : World) (h : TreeIn w g f m r T) : Calls Tryz.prog 21 #[.pointer (some ⟨g, 0, none⟩)] w fun e w' => e = .returned (stampV T.2.2) ∧ Below w.heap.size w w' := by
  obtain ⟨fx, ops, b1, b2⟩ := T
  obtain ⟨sl, st, h1, h2, _⟩ := h.obj
  have hK := h2.alloc (.cells #[.int .i64 0, .int .i64 0] 25)
  have CG : Hid (Calls _ _ _ _ _) := given_any g _ sl (b1, b2) f m st hK
  have c1 : (w.alloc (.cells #[.int .i64 0, .int .i64 0] 25)).cell? ⟨g, 1, none⟩ = some (.int .i64 b1) := hK.cell 1
  have c2 : (w.alloc (.cells #[.int .i64 0, .int .i64 0] 25)).cell? ⟨g, 2, none⟩ = some (.int .i64 b2) := hK.cell 2
  have HB : Hid (Blk (w.alloc (.cells #[.int .i64 0, .int .i64 0] 25)) 25 w.heap.size #[.int .i64 0, .int .i64 0]) := Blk.new _ _ _
  clear h hK h2
  go_enter Tryz.func21, Tryz.ntmps21
  go_wp2_with fail
  refine CG.out.mono ?_
  rintro e w1 ⟨rfl, rfl⟩
  clear CG
  go_wp2_with (with_reducible refine wpList_storeBlk rfl 25 _ _ rfl w.heap.size #[.int .i64 0, .int .i64 0] #[.int .i64 b1, .int .i64 b2] ?hx ?hy HB.out rfl ?hi ?h1 ?_)
  try (case hx => rfl)
  try (case hy => rfl)
  try (case hi => first | kernel_rfl | (refine Option.map_eq_some_iff.1 (?_ : (Tryz.prog.info? 25).map (·.size) = some 2); kernel_rfl))
  try (case h1 => simp [Value.oneCell'])
  exact bodyPost_row rfl w.heap.size #[.int .i64 b1, .int .i64 b2] rfl rfl (HB.out.setRow _) _ Tryz.underlying25 rfl (by kernel_rfl) ⟨rfl, below_setRow (below_new w _) (Nat.le_refl _) _⟩

set_option maxRecDepth 100000 in
set_option maxHeartbeats 2000000 in
theorem ops_any (g f m : Nat) (r : Option Nat) (T : TreeT) (w : World) (h : TreeIn w g f m r T) (hn : T.1.length + T.2.1.length ≤ 60000) : Calls Tryz.prog 20 #[.pointer (some ⟨g, 0, none⟩)] w fun e w' => ∃ v, e = .returned v ∧ OwnO w' w.heap.size v T.2.1 ∧ Below w.heap.size w w' := by
  obtain ⟨fx, ops, b⟩ := T
  obtain ⟨sl, st, h1, h2, h3, _⟩ := h.obj
  have CG : Hid (Calls _ _ _ _ _) := given_any g w sl b f m st h2
  have CC : Hid (Calls _ _ _ _ _) := clone_any ops sl w h3 (by simp only at hn; omega)
  have c4 : w.cell? ⟨g, 4, none⟩ = some sl := h2.cell 4
  obtain ⟨a, cap, rfl, _⟩ := OwnO.ops h3
  clear h h2 h3
  go_enter Tryz.func20, Tryz.ntmps20
  go_wp2_with fail
  refine CG.out.mono ?_
  rintro e w1 ⟨rfl, rfl⟩
  clear CG
  go_wp2_with fail
  refine CC.out.mono ?_
  rintro e w2 ⟨v, rfl, ho, hb⟩
  clear CC
  go_wp2_with fail
  go_ret
  exact ⟨v, rfl, ho, hb⟩

set_option maxRecDepth 100000 in
set_option maxHeartbeats 2000000 in
theorem fixed_any (g f m : Nat) (r : Option Nat) (T : TreeT) (w : World) (h : TreeIn w g f m r T) (hn : T.1.length + T.2.1.length ≤ 60000) : Calls Tryz.prog 19 #[.pointer (some ⟨g, 0, none⟩)] w fun e w' => ∃ v, e = .returned v ∧ OwnN w' w.heap.size v T.1 ∧ Below w.heap.size w w' := by
  obtain ⟨fx, ops, b⟩ := T
  obtain ⟨sl, st, h1, h2, h3, h4, _⟩ := h.obj
  have CG : Hid (Calls _ _ _ _ _) := given_any g w sl b f m st h2
  have CC : Hid (Calls _ _ _ _ _) := list_any f fx (by simp only at hn; omega) w h4
  have c3 : w.cell? ⟨g, 3, none⟩ = some (.map (some f)) := h2.cell 3
  clear h h2 h3 h4
  go_enter Tryz.func19, Tryz.ntmps19
  go_wp2_with fail
  refine CG.out.mono ?_
  rintro e w1 ⟨rfl, rfl⟩
  clear CG
  go_wp2_with fail
  refine CC.out.mono ?_
  rintro e w2 ⟨v, rfl, ho, hb⟩
  clear CC
  go_wp2_with fail
  go_ret
  exact ⟨v, rfl, ho, hb⟩
end Go.Proofs.YtjmbnoacbmmcdaaGreatDoor

/- The code's done, Nodes, Get (layer 11). -/
namespace Go.Proofs.YtjmbnoacbmmcdaaGreatDoor
open Go.RowKit
set_option linter.unusedSimpArgs false

theorem own_grown {w w' : World} {r : Option Nat} {v : Value} {l : List OpT} (h : OwnO w 0 v l) (hg : w.grownBy w' r) (hr : ∀ k, v.ownBlock = some k → r ≠ some k) : OwnO w' 0 v l := owns_same h (fun k hv => hg.block k (World.ownsRow.lt h k hv).2 (fun e => hr k hv e.symm))

theorem own_on2 {w w' : World} {v : Value} {l : List OpT} (h : OwnO w 0 v l) (hb : Below w.heap.size w w') : OwnO w' 0 v l := owns_same h (fun k hv => hb.block k (World.ownsRow.lt h k hv).2)

set_option maxRecDepth 100000 in
set_option maxHeartbeats 4000000 in
theorem done_any (g f m : Nat) (r : Option Nat) (T : TreeT) (w : World) (h : TreeIn w g f m r T) (hn : T.1.length + T.2.1.length ≤ 60000) :
    Calls Tryz.prog 42 #[.pointer (some ⟨g, 0, none⟩)] w fun e w' => e = .returned (.map (some m)) ∧ TreeIn w' g f m r T ∧ MapN w' m (nodesP T.1 T.2.1) ∧ KeptF (tfoot g f m r) w w' := by
  have HT : Hid (TreeIn w g f m r T) := h
  have hfm := h.ne
  obtain ⟨fx, ops, b1, b2⟩ := T
  obtain ⟨sl, st, h1, h2, h3, h4, ms, h5, h6⟩ := h.obj
  have c5 : w.cell? ⟨g, 5, none⟩ = some (.map (some m)) := h2.cell 5
  have c6 : w.cell? ⟨g, 6, none⟩ = some (.bool st) := h2.cell 6
  have hgf := blk_map h2 h4
  have hgm := blk_map h2 h5
  cases st with
  | false =>
    have HM : Hid (MapN w m (nodesP fx ops)) := by show MapN _ _ _; rw [← h6 rfl]; exact h5
    clear h h2 h3 h4 h5 h6
    go_enter Tryz.func42, Tryz.ntmps42
    go_wp2_with fail
    go_ret
    exact ⟨rfl, HT.out, HM.out, KeptF.refl _ _⟩
  | true =>
    have hok := h.ok
    have hrf : ∀ k, sl.ownBlock = some k → k ≠ f := fun k hk => own_map h3 h4 hk
    have hrm : ∀ k, sl.ownBlock = some k → k ≠ m := fun k hk => own_map h3 h5 hk
    have hrg : ∀ k, sl.ownBlock = some k → k ≠ g := fun k hk => own_blk h3 h2 hk
    obtain ⟨w1, hcl, hM1, hg1⟩ := h5.clear 0
    have hcl' : ∀ ty, (Builtin.clear_ #[60] ty #[.map (some m)]).run Tryz.prog w = .ok (.tuple #[]) w1 := fun _ => hcl
    have hb1 := h2.grown hg1 (by simp; omega)
    have hf1 := h4.grown hg1 (by simp; omega)
    have ho1 := own_grown h3 hg1 (fun k hk => by simp; exact fun e => hrm k hk e.symm)
    have HK1 : Hid (KeptF (tfoot g f m r) w w1) := KeptF.ofGrown hg1 (fun k e => by cases e; exact .inr (.inr (.inl rfl)))
    have CC : Hid (Calls _ _ _ _ _) := copy_any fx m f w1.drew (by omega) (hM1.on (Below.refl _ _).drew) (hf1.on (Below.refl _ _).drew)
    have HO : Hid (OwnO w1 0 sl ops) := ho1
    have HB : Hid (Blk w1 62 g (treeC g f m sl (b1, b2) true)) := hb1
    have HF : Hid (MapN w1 f fx) := hf1
    have hS0 : (w1.cell? ⟨g, 5, none⟩ = some (.map (some m))) ∧ (w1.cell? ⟨g, 3, none⟩ = some (.map (some f))) := ⟨hb1.cell 5, hb1.cell 3⟩
    have hsg := hb1.lt
    clear hcl h2 h3 h4 h5 h6 hM1 hg1 hb1 hf1 ho1 h
    go_enter Tryz.func42, Tryz.ntmps42
    go_wp2_with (at_builtin; refine wpList_clearR _ rfl _ 60 rfl _ rfl (hcl' _) ?_)
    refine wp_region_noPanic ?_
    refine wp_region_held_drew (S := fun W => (W.cell? ⟨g, 5, none⟩ = some (.map (some m))) ∧ (W.cell? ⟨g, 3, none⟩ = some (.map (some f)))) (by kernel_rfl) (by first | exact trivial | assumption | exact ⟨by assumption, by assumption⟩) (fun hHeld => ?_)
    refine tk 0 (v := ?_) rfl rfl ?_ ?_
    rotate_left
    · intro w hSw; (try dsimp only at hSw); go_simp; try with_reducible rfl
    try simp only [Act.put, za, zb, zc]
    refine tk 1 (v := ?_) rfl rfl ?_ ?_
    rotate_left
    · intro w hSw; (try dsimp only at hSw); go_simp; try with_reducible rfl
    try simp only [Act.put, za, zb, zc]
    refine tk 2 (v := ?_) rfl rfl ?_ ?_
    rotate_left
    · intro w hSw; (try dsimp only at hSw); go_simp; try with_reducible rfl
    try simp only [Act.put, za, zb, zc]
    refine tk 3 (v := ?_) rfl rfl ?_ ?_
    rotate_left
    · intro w hSw; (try dsimp only at hSw); go_simp; try with_reducible rfl
    try simp only [Act.put, za, zb, zc]
    refine tk 4 (v := ?_) rfl rfl ?_ ?_
    rotate_left
    · intro w hSw; (try dsimp only at hSw); go_simp; try with_reducible rfl
    try simp only [Act.put, za, zb, zc]
    refine tk 5 (v := ?_) rfl rfl ?_ ?_
    rotate_left
    · intro w hSw; (try dsimp only at hSw); go_simp; try with_reducible rfl
    try simp only [Act.put, za, zb, zc]
    refine tk 6 (v := ?_) rfl rfl ?_ ?_
    rotate_left
    · intro w hSw; (try dsimp only at hSw); go_simp; try with_reducible rfl
    try simp only [Act.put, za, zb, zc]
    refine tk 7 (v := ?_) rfl rfl ?_ ?_
    rotate_left
    · intro w hSw; (try dsimp only at hSw); go_simp; try with_reducible rfl
    try simp only [Act.put, za, zb, zc]
    refine wpAnyH_ready (rs := [8]) (by kernel_rfl) (by simp) ?_
    refine AllReadyH.cons rfl (fun K hK => ?_) AllReadyH.nil
    go_simp
    refine CC.out.mono ?_
    rintro e w2 ⟨rfl, hM2, hg2⟩
    have hb2 := (HB.out.on (Below.refl _ _).drew).grown hg2 (by simp; omega)
    refine hK.out _ _ ⟨hb2.cell 5, hb2.cell 3⟩ (fun hHeld => ?_)
    clear hK K
    refine wpAnyH_done (by kernel_rfl) (NoPanic.normal ?_) _
    have hf2 := (HF.out.on (Below.refl _ _).drew).grown hg2 (by simp; omega)
    have ho2 := own_grown (own_on2 HO.out (Below.refl _ _).drew) hg2 (fun k hk => by simp; exact fun e => hrm k hk e.symm)
    have HK2 : Hid (KeptF (tfoot g f m r) w w2) := (HK1.out.on (Below.refl _ _).drew).grown hg2 (fun k e _ => by cases e; exact .inr (.inr (.inl rfl)))
    have c4 : w2.cell? ⟨g, 4, none⟩ = some sl := hb2.cell 4
    clear CC HB HF HO HK1 hS0 hcl' c5 c6
    obtain ⟨a, cap, rfl, hop2, _⟩ := OwnO.ops ho2
    obtain ⟨n, hnn⟩ : ∃ n, ops.length = n := ⟨_, rfl⟩
    rw [hnn] at ho2 hb2 c4 h1 hop2 hrf hrm hrg hn
    have HN : Hid (ops.length = n) := hnn
    have HB2 : Hid (Blk w2 62 g (treeC g f m (.slice a n cap) (b1, b2) true)) := hb2
    have HO2 : Hid (OwnO w2 0 (.slice a n cap) ops) := ho2
    have HF2 : Hid (MapN w2 f fx) := hf2
    have HM2 : Hid (MapN w2 m (nodesP fx (ops.take 0))) := hM2
    have HOK : Hid (TreeOk (fx, ops, b1, b2)) := hok
    have h1' : Hid ((Value.slice a n cap).ownBlock = r) := h1
    have HX : Hid ((∀ k, (Value.slice a n cap).ownBlock = some k → k ≠ f) ∧ (∀ k, (Value.slice a n cap).ownBlock = some k → k ≠ m) ∧ (∀ k, (Value.slice a n cap).ownBlock = some k → k ≠ g)) := ⟨hrf, hrm, hrg⟩
    clear hb2 ho2 hf2 hM2 hop2 hnn hg2 hrf hrm hrg hok h1
    go_wp2_with fail
    go_loopw [32] (fun i wr => ∃ k : Nat, k ≤ n ∧ i = .int .i64 k ∧ Hid (Blk wr 62 g (treeC g f m (.slice a n cap) (b1, b2) true)) ∧ Hid (OwnO wr 0 (.slice a n cap) ops) ∧ Hid (MapN wr f fx) ∧ Hid (MapN wr m (nodesP fx (ops.take k))) ∧ Hid (KeptF (tfoot g f m r) w wr)) (fun i _ => n - (intOf i).toNat)
    case atStart => exact ⟨0, Nat.zero_le _, rfl, HB2, HO2, HF2, HM2, HK2⟩
    case round =>
      clear HB2 HO2 HF2 HM2 HK2 c4
      obtain ⟨k, hk, rfl, HB, HO, HF, HM, HK⟩ := hrel
      by_cases hlt : k < n
      · have b0 : (k : Int) < (n : Int) := by omega
        obtain ⟨a', cap', e', hat, _⟩ := OwnO.ops HO.out
        rw [HN.out] at e' hat
        cases e'
        obtain ⟨b, off, rfl, _⟩ := hat.2.some (by omega)
        obtain ⟨x0, x1, x2, x3, x4, x5, x6, x7, x8⟩ := hat.cells k hlt
        have hmay : MayO (oL ops k) := HOK.out.may _ (by rw [oL_get ops k (by rw [HN.out]; exact hlt)]; exact List.getElem_mem _)
        have hroot : Rooted (nodesP fx (ops.take k)) := rooted_nodes HOK.out.rooted _ (fun o ho => HOK.out.may o (List.mem_of_mem_take ho))
        have hstep : nodesP fx (ops.take (k + 1)) = doC (nodesP fx (ops.take k)) (oL ops k) := by rw [nodesP_step fx ops k (by rw [HN.out]; exact hlt), doP_C hroot hmay]
        have hlen : (nodesP fx (ops.take k)).length ≤ 1048576 := by
          have := nodesP_len fx (ops.take k)
          rw [List.length_take, HN.out] at this
          omega
        have HST : Hid (nodesP fx (ops.take (k + 1)) = doC (nodesP fx (ops.take k)) (oL ops k)) := hstep
        have CD : Hid (∀ W, MapN W m (nodesP fx (ops.take k)) → _) := fun W hW => do_any (nodesP fx (ops.take k)) m (oL ops k) W hW hlen
        obtain ⟨⟨k0, ⟨k1, k2⟩, ⟨k3, k4⟩, ⟨k5, k6⟩, s7, s8⟩, hkk⟩ : ∃ s, s = oL ops k := ⟨_, rfl⟩
        rw [← hkk] at x0 x1 x2 x3 x4 x5 x6 x7 x8 CD HST
        simp only [opA] at CD
        clear hkk hstep hmay hroot hlen hat
        go_wp2_with fail
        obtain ⟨W0, hW0⟩ : ∃ W0, wr.alloc (.cells #[.int .i64 k0, .int .i64 k1, .int .i64 k2, .int .i64 k3, .int .i64 k4, .int .i64 k5, .int .i64 k6, .string s7, .string s8] 37) = W0 := ⟨_, rfl⟩
        rw [hW0]
        have hB0 : Below wr.heap.size wr W0 := by rw [← hW0]; exact below_new _ _
        have K0 : Blk W0 37 wr.heap.size #[.int .i64 k0, .int .i64 k1, .int .i64 k2, .int .i64 k3, .int .i64 k4, .int .i64 k5, .int .i64 k6, .string s7, .string s8] := by rw [← hW0]; exact Blk.new _ _ _
        have hBt := HB.out.on hB0
        have hMt := HM.out.on hB0
        have hml := HM.out.lt
        have hgl := HB.out.lt
        have HSS : Hid (∀ W, Blk W 37 wr.heap.size #[.int .i64 k0, .int .i64 k1, .int .i64 k2, .int .i64 k3, .int .i64 k4, .int .i64 k5, .int .i64 k6, .string s7, .string s8] → Blk W 62 g (treeC g f m (.slice (some ⟨b, off, none⟩) n cap) (b1, b2) true) → W.cell? ⟨g, 5, none⟩ = some (.map (some m)) ∧ (W.cell? ⟨wr.heap.size, 0, none⟩ = some (.int .i64 k0) ∧ W.cell? ⟨wr.heap.size, 1, none⟩ = some (.int .i64 k1) ∧ W.cell? ⟨wr.heap.size, 2, none⟩ = some (.int .i64 k2) ∧ W.cell? ⟨wr.heap.size, 3, none⟩ = some (.int .i64 k3) ∧ W.cell? ⟨wr.heap.size, 4, none⟩ = some (.int .i64 k4) ∧ W.cell? ⟨wr.heap.size, 5, none⟩ = some (.int .i64 k5) ∧ W.cell? ⟨wr.heap.size, 6, none⟩ = some (.int .i64 k6) ∧ W.cell? ⟨wr.heap.size, 7, none⟩ = some (.string s7) ∧ W.cell? ⟨wr.heap.size, 8, none⟩ = some (.string s8))) := fun W q1 q2 => ⟨q2.cell 5, q1.cell 0, q1.cell 1, q1.cell 2, q1.cell 3, q1.cell 4, q1.cell 5, q1.cell 6, q1.cell 7, q1.cell 8⟩
        have hS0 := HSS.out W0 K0 hBt
        clear hW0 x0 x1 x2 x3 x4 x5 x6 x7 x8
        refine wp_region_noPanic ?_
        refine wp_region_held_drew (S := fun W => W.cell? ⟨g, 5, none⟩ = some (.map (some m)) ∧ (W.cell? ⟨wr.heap.size, 0, none⟩ = some (.int .i64 k0) ∧ W.cell? ⟨wr.heap.size, 1, none⟩ = some (.int .i64 k1) ∧ W.cell? ⟨wr.heap.size, 2, none⟩ = some (.int .i64 k2) ∧ W.cell? ⟨wr.heap.size, 3, none⟩ = some (.int .i64 k3) ∧ W.cell? ⟨wr.heap.size, 4, none⟩ = some (.int .i64 k4) ∧ W.cell? ⟨wr.heap.size, 5, none⟩ = some (.int .i64 k5) ∧ W.cell? ⟨wr.heap.size, 6, none⟩ = some (.int .i64 k6) ∧ W.cell? ⟨wr.heap.size, 7, none⟩ = some (.string s7) ∧ W.cell? ⟨wr.heap.size, 8, none⟩ = some (.string s8))) (by kernel_rfl) (by first | exact trivial | assumption | exact ⟨by assumption, by assumption⟩) (fun hHeld => ?_)
        refine tk 0 (v := ?_) rfl rfl ?_ ?_
        rotate_left
        · intro w hSw; (try dsimp only at hSw); go_simp; try with_reducible rfl
        try simp only [Act.put, za, zb, zc]
        refine tk 1 (v := ?_) rfl rfl ?_ ?_
        rotate_left
        · intro w hSw; (try dsimp only at hSw); go_simp; try with_reducible rfl
        try simp only [Act.put, za, zb, zc]
        refine tk 2 (v := ?_) rfl rfl ?_ ?_
        rotate_left
        · intro w hSw; (try dsimp only at hSw); go_simp; try with_reducible rfl
        try simp only [Act.put, za, zb, zc]
        refine tk 3 (v := ?_) rfl rfl ?_ ?_
        rotate_left
        · intro w hSw; (try dsimp only at hSw); go_simp; try with_reducible rfl
        try simp only [Act.put, za, zb, zc]
        refine tk 4 (v := ?_) rfl rfl ?_ ?_
        rotate_left
        · intro w hSw; (try dsimp only at hSw); go_simp; try with_reducible rfl
        try simp only [Act.put, za, zb, zc]
        refine wpAnyH_ready (rs := [5]) (by kernel_rfl) (by simp) ?_
        refine AllReadyH.cons rfl (fun K hK => ?_) AllReadyH.nil
        go_simp
        refine (CD.out W0.drew (hMt.on (Below.refl _ _).drew)).mono ?_
        rintro e w3 ⟨rfl, hM3, hg3⟩
        have hB3 := (hBt.on (Below.refl _ _).drew).grown hg3 (by simp; omega)
        have K3 := (K0.on (Below.refl _ _).drew).grown hg3 (by simp; omega)
        refine hK.out _ _ (HSS.out _ K3 hB3) (fun hHeld => ?_)
        clear hK K
        refine wpAnyH_done (by kernel_rfl) (NoPanic.normal ?_) _
        have HB3 : Hid (Blk w3 62 g (treeC g f m (.slice (some ⟨b, off, none⟩) n cap) (b1, b2) true)) := hB3
        have HM3 : Hid (MapN w3 m (nodesP fx (ops.take (k + 1)))) := by show MapN _ _ _; rw [HST.out]; exact hM3
        have HF3 : Hid (MapN w3 f fx) := ((HF.out.on hB0).on (Below.refl _ _).drew).grown hg3 (by simp; omega)
        have HO3 : Hid (OwnO w3 0 (.slice (some ⟨b, off, none⟩) n cap) ops) := own_grown (own_on2 (own_on2 HO.out hB0) (Below.refl _ _).drew) hg3 (fun j hj => by simp; exact fun e => HX.out.2.1 j hj e.symm)
        have HK3 : Hid (KeptF (tfoot g f m r) w w3) := ((HK.out.on hB0).on (Below.refl _ _).drew).grown hg3 (fun j e _ => by cases e; exact .inr (.inr (.inl rfl)))
        clear HB HO HF HM HK hB0 K0 hBt hMt hS0 hB3 K3 hM3 hg3 HSS HST CD
        go_wp2_with fail
        refine ⟨⟨k + 1, by omega, by go_num, HB3, HO3, HF3, HM3, HK3⟩, ?_⟩
        simp [intOf]; omega
      · obtain rfl : k = n := by omega
        have b0 : ¬ ((k : Int) < (k : Int)) := by omega
        have HE : Hid (ops.take k = ops) := List.take_of_length_le (by rw [HN.out]; omega)
        have c6 : wr.cell? ⟨g, 6, none⟩ = some (.bool true) := HB.out.cell 6
        have f6 : wr.frozen? ⟨g, 6, none⟩ = false := HB.out.free 6
        have c5 : (wr.setCell ⟨g, 6, none⟩ (.bool false)).cell? ⟨g, 5, none⟩ = some (.map (some m)) := (HB.out.setAt 6 (.bool false)).cell 5
        have hgl := HB.out.lt
        go_wp2_with fail
        go_ret
        have hbs := HB.out.setAt 6 (.bool false)
        have hgs := grown_set wr g 6 (.bool false)
        have hM' : MapN (wr.setCell ⟨g, 6, none⟩ (.bool false)) m (nodesP fx ops) := by
          have := HM.out.grown hgs (by simp; omega)
          rw [HE.out] at this
          exact this
        refine ⟨rfl, ⟨HOK.out, hfm, .slice a k cap, false, h1'.out, hbs, own_grown HO.out hgs (fun j hj => by simp; exact fun e => HX.out.2.2 j hj e.symm), HF.out.grown hgs (by simp; omega), _, hM', fun _ => rfl⟩, hM', HK.out.setCell g 6 _ (fun _ => .inl rfl)⟩

set_option maxRecDepth 100000 in
set_option maxHeartbeats 2000000 in
theorem nodes_any (g f m : Nat) (r : Option Nat) (T : TreeT) (w : World) (h : TreeIn w g f m r T) (hn : T.1.length + T.2.1.length ≤ 60000) :
    Calls Tryz.prog 23 #[.pointer (some ⟨g, 0, none⟩)] w fun e w' => ∃ v, e = .returned v ∧ TreeIn w' g f m r T ∧ OwnN w' w.heap.size v (nodesP T.1 T.2.1) ∧ KeptF (tfoot g f m r) w w' := by
  have hlen := nodesP_len T.1 T.2.1
  have CD : Hid (Calls _ _ _ _ _) := done_any g f m r T w h hn
  obtain ⟨sl, st, h1, h2, _⟩ := h.obj
  have CG : Hid (Calls _ _ _ _ _) := given_any g w sl T.2.2 f m st h2
  have CL : Hid (∀ W, MapN W m (nodesP T.1 T.2.1) → _) := fun W hW => list_any m (nodesP T.1 T.2.1) (by omega) W hW
  obtain ⟨N, hN⟩ : ∃ N, nodesP T.1 T.2.1 = N := ⟨_, rfl⟩
  rw [hN] at CD CL ⊢
  clear h h2 h1 hN hlen
  go_enter Tryz.func23, Tryz.ntmps23
  go_wp2_with fail
  refine CG.out.mono ?_
  rintro e w1 ⟨rfl, rfl⟩
  clear CG
  go_wp2_with fail
  refine CD.out.mono ?_
  rintro e w2 ⟨rfl, hT, hM, hK⟩
  clear CD
  have HT : Hid (TreeIn w2 g f m r T) := hT
  have HK : Hid (KeptF (tfoot g f m r) w1 w2) := hK
  have CL' : Hid (Calls _ _ _ _ _) := CL.out w2 hM
  clear hT hM hK CL
  go_wp2_with fail
  refine CL'.out.mono ?_
  rintro e w3 ⟨v, rfl, ho, hb⟩
  clear CL'
  have HO : Hid (OwnN w3 w1.heap.size v N) := own_less ho HK.out.size
  have HB : Hid (Below w2.heap.size w2 w3) := hb
  clear ho hb
  go_wp2_with fail
  go_ret
  exact ⟨v, rfl, HT.out.on HB.out, HO.out, HK.out.on HB.out⟩

end Go.Proofs.YtjmbnoacbmmcdaaGreatDoor

/- The code's Get (layer 11). -/
namespace Go.Proofs.YtjmbnoacbmmcdaaGreatDoor
open Go.RowKit
set_option linter.unusedSimpArgs false

set_option maxRecDepth 100000 in
theorem look_res {w : World} {m : Nat} {N : List NodeT} {x y : Int} {nd : NodeT} {b : Bool} (hM : MapN w m N) (hl : ∀ w', Below w.heap.size w w' → (Instr.lookup 60 (.map (some m)) (.agg #[.int .i64 x, .int .i64 y]) true).run Tryz.prog w' = .ok (.tuple #[.agg #[.int .i64 nd.1.1, .int .i64 nd.1.2, .int .i64 nd.2.1.1, .int .i64 nd.2.1.2, .string nd.2.2.1, .string nd.2.2.2], .bool b]) w') :
    Ending.returned (.tuple #[.agg #[.int .i64 nd.1.1, .int .i64 nd.1.2, .int .i64 nd.2.1.1, .int .i64 nd.2.1.2, .string nd.2.2.1, .string nd.2.2.2], .bool b]) = .returned (.tuple #[nodeV ((look N (x, y)).getD node0), .bool (look N (x, y)).isSome]) := by
  have h1 := hl w (Below.refl _ _)
  have h2 := hM.look (x, y) true
  have h3 : (Result.ok (Value.tuple #[.agg #[.int .i64 nd.1.1, .int .i64 nd.1.2, .int .i64 nd.2.1.1, .int .i64 nd.2.1.2, .string nd.2.2.1, .string nd.2.2.2], .bool b]) w : Result Value) = .ok (.tuple #[nodeV ((look N (x, y)).getD node0), .bool (look N (x, y)).isSome]) w := h1.symm.trans h2
  injection h3 with h4
  rw [h4]

set_option maxRecDepth 100000 in
set_option maxHeartbeats 2000000 in
theorem get_any (g f m : Nat) (r : Option Nat) (T : TreeT) (id : Int × Int) (w : World) (h : TreeIn w g f m r T) (hn : T.1.length + T.2.1.length ≤ 60000) :
    Calls Tryz.prog 15 #[.pointer (some ⟨g, 0, none⟩), stampV id] w fun e w' => e = .returned (.tuple #[nodeV ((look (nodesP T.1 T.2.1) id).getD node0), .bool (look (nodesP T.1 T.2.1) id).isSome]) ∧ TreeIn w' g f m r T ∧ KeptF (tfoot g f m r) w w' := by
  obtain ⟨x, y⟩ := id
  obtain ⟨sl, st, h1, h2, _⟩ := h.obj
  obtain ⟨W0, hW0⟩ : ∃ W0, (w.alloc (.cells #[.int .i64 x, .int .i64 y] 25)).alloc (.cells #[.int .i64 0, .int .i64 0, .int .i64 0, .int .i64 0, .string ⟨#[]⟩, .string ⟨#[]⟩] 44) = W0 := ⟨_, rfl⟩
  have hB0 : Below w.heap.size w W0 := by rw [← hW0]; exact (below_new w _).alloc (by simp) _
  have hS : W0.heap.size = w.heap.size + 2 := by rw [← hW0]; simp
  have K0 : Blk W0 25 w.heap.size #[.int .i64 x, .int .i64 y] := by rw [← hW0]; exact (Blk.new _ _ _).alloc _
  have K1 : Blk W0 44 (w.heap.size + 1) #[.int .i64 0, .int .i64 0, .int .i64 0, .int .i64 0, .string ⟨#[]⟩, .string ⟨#[]⟩] := by rw [← hW0]; exact Blk.new' _ _ _ _ (by simp)
  have CG : Hid (Calls _ _ _ _ _) := given_any g W0 sl T.2.2 f m st (h2.on hB0)
  have CD : Hid (∀ W, Below W0.heap.size W0 W → _) := fun W hW => done_any g f m r T W ((h.on hB0).on hW) hn
  have HH : Hid (TreeIn w g f m r T) := h
  have HW0 : Hid ((w.alloc (.cells #[.int .i64 x, .int .i64 y] 25)).alloc (.cells #[.int .i64 0, .int .i64 0, .int .i64 0, .int .i64 0, .string ⟨#[]⟩, .string ⟨#[]⟩] 44) = W0) := hW0
  obtain ⟨N, hN⟩ : ∃ N, nodesP T.1 T.2.1 = N := ⟨_, rfl⟩
  rw [hN] at CD ⊢
  show Calls Tryz.prog _ #[_, .agg #[.int .i64 x, .int .i64 y]] w _
  clear h h2 h1 hN hW0
  go_enter Tryz.func15, Tryz.ntmps15
  go_wp2_with fail
  rw [HW0.out]
  refine CG.out.mono ?_
  rintro e w1 ⟨rfl, rfl⟩
  clear CG
  have HBw : Hid (Below w.heap.size w w1) := hB0
  clear hB0
  go_wp2_with fail
  have hS0 : w1.cell? ⟨w.heap.size, 0, none⟩ = some (.int .i64 x) ∧ w1.cell? ⟨w.heap.size, 1, none⟩ = some (.int .i64 y) := ⟨K0.cell 0, K0.cell 1⟩
  refine wp_region_noPanic ?_
  refine wp_region_held_drew (S := fun W => W.cell? ⟨w.heap.size, 0, none⟩ = some (.int .i64 x) ∧ W.cell? ⟨w.heap.size, 1, none⟩ = some (.int .i64 y)) (by kernel_rfl) (by first | exact trivial | assumption | exact ⟨by assumption, by assumption⟩) (fun hHeld => ?_)
  refine tk 0 (v := ?_) rfl rfl ?_ ?_
  rotate_left
  · intro w hSw; (try dsimp only at hSw); go_simp; try with_reducible rfl
  try simp only [Act.put, za, zb, zc]
  refine tk 2 (v := ?_) rfl rfl ?_ ?_
  rotate_left
  · intro w hSw; (try dsimp only at hSw); go_simp; try with_reducible rfl
  try simp only [Act.put, za, zb, zc]
  refine wpAnyH_ready (rs := [1, 7]) (by kernel_rfl) (by simp) ?_
  refine AllReadyH.cons rfl (fun K hK => ?_) (AllReadyH.cons rfl (fun K hK => ?_) AllReadyH.nil)
  · go_simp
    refine (CD.out w1.drew (Below.refl _ _).drew).mono ?_
    rintro e V1 ⟨rfl, hT, hM, hKp⟩
    have hKw : KeptF (tfoot g f m r) w V1 := (KeptF.ofBelow (tfoot g f m r) (HBw.out.drew)).trans hKp (fun _ _ h => h)
    have hsV : w.heap.size + 2 ≤ V1.heap.size := by have := hKp.size; show _ ≤ _; rw [← hS]; exact this
    have nf : ∀ k, w.heap.size ≤ k → ¬ tfoot g f m r k := fun k hk ht => by have := HH.out.lt ht; omega
    have KU0 : Blk V1 25 w.heap.size #[.int .i64 x, .int .i64 y] := by unfold Blk; rw [hKp.block _ (by show _ < w1.heap.size; omega) (nf _ (Nat.le_refl _))]; exact K0
    have KU1 : Blk V1 44 (w.heap.size + 1) #[.int .i64 0, .int .i64 0, .int .i64 0, .int .i64 0, .string ⟨#[]⟩, .string ⟨#[]⟩] := by unfold Blk; rw [hKp.block _ (by show _ < w1.heap.size; omega) (nf _ (by omega))]; exact K1
    obtain ⟨nd, b, hb, hl⟩ := mapN_two hM x y
    have HRes : Hid (Ending.returned (.tuple #[.agg #[.int .i64 nd.1.1, .int .i64 nd.1.2, .int .i64 nd.2.1.1, .int .i64 nd.2.1.2, .string nd.2.2.1, .string nd.2.2.2], .bool b]) = .returned (.tuple #[nodeV ((look N (x, y)).getD node0), .bool (look N (x, y)).isSome])) := look_res hM hl
    clear hb
    have hlk := hl V1 (Below.refl _ _)
    have hlkd : ∀ o, (Instr.lookup 60 (.map (some m)) (.agg #[.int .i64 x, .int .i64 y]) true).run Tryz.prog (V1.alloc o) = _ := fun o => hl (V1.alloc o) (below_new V1 o)
    obtain ⟨⟨n1, n2⟩, ⟨n3, n4⟩, n5, n6⟩ := nd
    clear CD K0 K1 hM hl
    refine hK.out _ _ (show _ ∧ _ from ⟨KU0.cell 0, KU0.cell 1⟩) (fun hHeld => ?_)
    clear hK K
    refine wpAnyH_ready (rs := [3, 7]) (by kernel_rfl) (by simp) ?_
    refine AllReadyH.cons rfl (fun K hK => ?_) (AllReadyH.cons rfl (fun K hK => ?_) AllReadyH.nil)
    · go_simp
      refine hK.out _ _ (show _ ∧ _ from ⟨KU0.cell 0, KU0.cell 1⟩) (fun hHeld => ?_)
      clear hK K
      refine tk 4 (v := ?_) rfl rfl ?_ ?_
      rotate_left
      · intro w hSw; (try dsimp only at hSw); go_simp; try with_reducible rfl
      try simp only [Act.put, za, zb, zc]
      refine tk 5 (v := ?_) rfl rfl ?_ ?_
      rotate_left
      · intro w hSw; (try dsimp only at hSw); go_simp; try with_reducible rfl
      try simp only [Act.put, za, zb, zc]
      refine tk 6 (v := ?_) rfl rfl ?_ ?_
      rotate_left
      · intro w hSw; (try dsimp only at hSw); go_simp; try with_reducible rfl
      try simp only [Act.put, za, zb, zc]
      refine wpAnyH_ready (rs := [7]) (by kernel_rfl) (by simp) ?_
      refine AllReadyH.cons rfl (fun K hK => ?_) AllReadyH.nil
      go_simp
      obtain ⟨h, hh⟩ : ∃ h, V1.heap.size = h := ⟨_, rfl⟩
      have hlk2 := hlkd (.cells #[.int .i64 0, .int .i64 0, .int .i64 0, .int .i64 0, .string ⟨#[]⟩, .string ⟨#[]⟩] 44)
      obtain ⟨V, hV2⟩ : ∃ V, V1.alloc (.cells #[.int .i64 0, .int .i64 0, .int .i64 0, .int .i64 0, .string ⟨#[]⟩, .string ⟨#[]⟩] 44) = V := ⟨_, rfl⟩
      rw [hV2] at hlk2
      have KVh : Blk V 44 h #[.int .i64 0, .int .i64 0, .int .i64 0, .int .i64 0, .string ⟨#[]⟩, .string ⟨#[]⟩] := by rw [← hV2, ← hh]; exact Blk.new _ _ _
      have KV0 : Blk V 25 w.heap.size #[.int .i64 x, .int .i64 y] := by rw [← hV2]; exact KU0.alloc _
      have KV1 : Blk V 44 (w.heap.size + 1) #[.int .i64 0, .int .i64 0, .int .i64 0, .int .i64 0, .string ⟨#[]⟩, .string ⟨#[]⟩] := by rw [← hV2]; exact KU1.alloc _
      have hBV : Below V1.heap.size V1 V := by rw [← hV2]; exact below_new _ _
      have HTV : Hid (TreeIn V g f m r T) := hT.on hBV
      have HKV : Hid (KeptF (tfoot g f m r) w V) := hKw.on hBV
      rw [hV2, hh]
      have hlh : w.heap.size + 2 ≤ h := by omega
      clear hV2 KU0 KU1 hT hKw hlk hlkd hh hBV hsV hKp
      refine hK.out _ _ (show _ ∧ _ from ⟨KV0.cell 0, KV0.cell 1⟩) (fun hHeld => ?_)
      clear hK K
      refine wpAnyH_ready (rs := [8]) (by kernel_rfl) (by simp) ?_
      refine AllReadyH.cons rfl (fun K hK => ?_) AllReadyH.nil
      refine step_storeRow rfl rfl 44 _ _ rfl h #[.int .i64 0, .int .i64 0, .int .i64 0, .int .i64 0, .string ⟨#[]⟩, .string ⟨#[]⟩] #[.int .i64 n1, .int .i64 n2, .int .i64 n3, .int .i64 n4, .string n5, .string n6] rfl rfl KVh rfl (by kernel_rfl) (by simp [Value.oneCell']) ?_
      have KV2 : Blk (V.setRow h #[.int .i64 n1, .int .i64 n2, .int .i64 n3, .int .i64 n4, .string n5, .string n6]) 25 w.heap.size #[.int .i64 x, .int .i64 y] := KV0.setRowOther _ (by omega) _
      refine hK.out _ _ (show _ ∧ _ from ⟨KV2.cell 0, KV2.cell 1⟩) (fun hHeld => ?_)
      clear hK K
      refine tk 9 (v := ?_) rfl rfl ?_ ?_
      rotate_left
      · intro w hSw; (try dsimp only at hSw); go_simp; try with_reducible rfl
      try simp only [Act.put, za, zb, zc]
      refine wpAnyH_done (by kernel_rfl) (NoPanic.normal ?_) _
      have KS := KVh.setRow #[.int .i64 n1, .int .i64 n2, .int .i64 n3, .int .i64 n4, .string n5, .string n6]
      have K1S : Blk (V.setRow h #[.int .i64 n1, .int .i64 n2, .int .i64 n3, .int .i64 n4, .string n5, .string n6]) 44 (w.heap.size + 1) #[.int .i64 0, .int .i64 0, .int .i64 0, .int .i64 0, .string ⟨#[]⟩, .string ⟨#[]⟩] := KV1.setRowOther _ (by omega) _
      have HTS : Hid (TreeIn (V.setRow h #[.int .i64 n1, .int .i64 n2, .int .i64 n3, .int .i64 n4, .string n5, .string n6]) g f m r T) := HTV.out.same (fun k hk => setRow_other V h k _ (fun e => by have := HH.out.lt hk; omega))
      have HKS : Hid (KeptF (tfoot g f m r) w (V.setRow h #[.int .i64 n1, .int .i64 n2, .int .i64 n3, .int .i64 n4, .string n5, .string n6])) := HKV.out.grown (grown_setRow _ _ _) (fun j e hj => by cases e; omega)
      obtain ⟨U, hU⟩ : ∃ U, V.setRow h #[.int .i64 n1, .int .i64 n2, .int .i64 n3, .int .i64 n4, .string n5, .string n6] = U := ⟨_, rfl⟩
      rw [hU] at KS K1S HTS HKS ⊢
      have k0 : U.cell? ⟨h, 0, none⟩ = some (.int .i64 n1) := KS.cell 0
      have k1 : U.cell? ⟨h, 1, none⟩ = some (.int .i64 n2) := KS.cell 1
      have k2 : U.cell? ⟨h, 2, none⟩ = some (.int .i64 n3) := KS.cell 2
      have k3 : U.cell? ⟨h, 3, none⟩ = some (.int .i64 n4) := KS.cell 3
      have k4 : U.cell? ⟨h, 4, none⟩ = some (.string n5) := KS.cell 4
      have k5 : U.cell? ⟨h, 5, none⟩ = some (.string n6) := KS.cell 5
      clear hU KV2 KVh KV0 KV1 HTV HKV
      go_wp2_with (with_reducible refine wpList_storeBlkH rfl 44 _ _ rfl (w.heap.size + 1) #[.int .i64 0, .int .i64 0, .int .i64 0, .int .i64 0, .string ⟨#[]⟩, .string ⟨#[]⟩] #[.int .i64 n1, .int .i64 n2, .int .i64 n3, .int .i64 n4, .string n5, .string n6] ?hx1 ?hy1 K1S rfl ?hi1 ?h11 ?_)
      try (case hx1 => rfl)
      try (case hy1 => rfl)
      try (case hi1 => first | kernel_rfl | (refine Option.map_eq_some_iff.1 (?_ : (Tryz.prog.info? 44).map (·.size) = some 6); kernel_rfl))
      try (case h11 => simp [Value.oneCell'])
      unfold Hid
      go_wp2_with fail
      refine bodyPost_rowTmp rfl (w.heap.size + 1) #[.int .i64 n1, .int .i64 n2, .int .i64 n3, .int .i64 n4, .string n5, .string n6] _ rfl rfl rfl (K1S.setRow _) _ Tryz.underlying44 rfl (by kernel_rfl) ⟨HRes.out, HTS.out.same (fun k hk => setRow_other U _ k _ (fun e => by have := HH.out.lt hk; omega)), HKS.out.grown (grown_setRow _ _ _) (fun j e hj => by cases e; omega)⟩
    · go_simp
      obtain ⟨h, hh⟩ : ∃ h, V1.heap.size = h := ⟨_, rfl⟩
      have hlk2 := hlkd (.cells #[.int .i64 0, .int .i64 0, .int .i64 0, .int .i64 0, .string ⟨#[]⟩, .string ⟨#[]⟩] 44)
      obtain ⟨V, hV2⟩ : ∃ V, V1.alloc (.cells #[.int .i64 0, .int .i64 0, .int .i64 0, .int .i64 0, .string ⟨#[]⟩, .string ⟨#[]⟩] 44) = V := ⟨_, rfl⟩
      rw [hV2] at hlk2
      have KVh : Blk V 44 h #[.int .i64 0, .int .i64 0, .int .i64 0, .int .i64 0, .string ⟨#[]⟩, .string ⟨#[]⟩] := by rw [← hV2, ← hh]; exact Blk.new _ _ _
      have KV0 : Blk V 25 w.heap.size #[.int .i64 x, .int .i64 y] := by rw [← hV2]; exact KU0.alloc _
      have KV1 : Blk V 44 (w.heap.size + 1) #[.int .i64 0, .int .i64 0, .int .i64 0, .int .i64 0, .string ⟨#[]⟩, .string ⟨#[]⟩] := by rw [← hV2]; exact KU1.alloc _
      have hBV : Below V1.heap.size V1 V := by rw [← hV2]; exact below_new _ _
      have HTV : Hid (TreeIn V g f m r T) := hT.on hBV
      have HKV : Hid (KeptF (tfoot g f m r) w V) := hKw.on hBV
      rw [hV2, hh]
      have hlh : w.heap.size + 2 ≤ h := by omega
      clear hV2 KU0 KU1 hT hKw hlk hlkd hh hBV hsV hKp
      refine hK.out _ _ (show _ ∧ _ from ⟨KV0.cell 0, KV0.cell 1⟩) (fun hHeld => ?_)
      clear hK K
      refine wpAnyH_ready (rs := [3]) (by kernel_rfl) (by simp) ?_
      refine AllReadyH.cons rfl (fun K hK => ?_) AllReadyH.nil
      go_simp
      refine hK.out _ _ (show _ ∧ _ from ⟨KV0.cell 0, KV0.cell 1⟩) (fun hHeld => ?_)
      clear hK K
      refine tk 4 (v := ?_) rfl rfl ?_ ?_
      rotate_left
      · intro w hSw; (try dsimp only at hSw); go_simp; try with_reducible rfl
      try simp only [Act.put, za, zb, zc]
      refine tk 5 (v := ?_) rfl rfl ?_ ?_
      rotate_left
      · intro w hSw; (try dsimp only at hSw); go_simp; try with_reducible rfl
      try simp only [Act.put, za, zb, zc]
      refine tk 6 (v := ?_) rfl rfl ?_ ?_
      rotate_left
      · intro w hSw; (try dsimp only at hSw); go_simp; try with_reducible rfl
      try simp only [Act.put, za, zb, zc]
      refine wpAnyH_ready (rs := [8]) (by kernel_rfl) (by simp) ?_
      refine AllReadyH.cons rfl (fun K hK => ?_) AllReadyH.nil
      refine step_storeRow rfl rfl 44 _ _ rfl h #[.int .i64 0, .int .i64 0, .int .i64 0, .int .i64 0, .string ⟨#[]⟩, .string ⟨#[]⟩] #[.int .i64 n1, .int .i64 n2, .int .i64 n3, .int .i64 n4, .string n5, .string n6] rfl rfl KVh rfl (by kernel_rfl) (by simp [Value.oneCell']) ?_
      have KV2 : Blk (V.setRow h #[.int .i64 n1, .int .i64 n2, .int .i64 n3, .int .i64 n4, .string n5, .string n6]) 25 w.heap.size #[.int .i64 x, .int .i64 y] := KV0.setRowOther _ (by omega) _
      refine hK.out _ _ (show _ ∧ _ from ⟨KV2.cell 0, KV2.cell 1⟩) (fun hHeld => ?_)
      clear hK K
      refine tk 9 (v := ?_) rfl rfl ?_ ?_
      rotate_left
      · intro w hSw; (try dsimp only at hSw); go_simp; try with_reducible rfl
      try simp only [Act.put, za, zb, zc]
      refine wpAnyH_done (by kernel_rfl) (NoPanic.normal ?_) _
      have KS := KVh.setRow #[.int .i64 n1, .int .i64 n2, .int .i64 n3, .int .i64 n4, .string n5, .string n6]
      have K1S : Blk (V.setRow h #[.int .i64 n1, .int .i64 n2, .int .i64 n3, .int .i64 n4, .string n5, .string n6]) 44 (w.heap.size + 1) #[.int .i64 0, .int .i64 0, .int .i64 0, .int .i64 0, .string ⟨#[]⟩, .string ⟨#[]⟩] := KV1.setRowOther _ (by omega) _
      have HTS : Hid (TreeIn (V.setRow h #[.int .i64 n1, .int .i64 n2, .int .i64 n3, .int .i64 n4, .string n5, .string n6]) g f m r T) := HTV.out.same (fun k hk => setRow_other V h k _ (fun e => by have := HH.out.lt hk; omega))
      have HKS : Hid (KeptF (tfoot g f m r) w (V.setRow h #[.int .i64 n1, .int .i64 n2, .int .i64 n3, .int .i64 n4, .string n5, .string n6])) := HKV.out.grown (grown_setRow _ _ _) (fun j e hj => by cases e; omega)
      obtain ⟨U, hU⟩ : ∃ U, V.setRow h #[.int .i64 n1, .int .i64 n2, .int .i64 n3, .int .i64 n4, .string n5, .string n6] = U := ⟨_, rfl⟩
      rw [hU] at KS K1S HTS HKS ⊢
      have k0 : U.cell? ⟨h, 0, none⟩ = some (.int .i64 n1) := KS.cell 0
      have k1 : U.cell? ⟨h, 1, none⟩ = some (.int .i64 n2) := KS.cell 1
      have k2 : U.cell? ⟨h, 2, none⟩ = some (.int .i64 n3) := KS.cell 2
      have k3 : U.cell? ⟨h, 3, none⟩ = some (.int .i64 n4) := KS.cell 3
      have k4 : U.cell? ⟨h, 4, none⟩ = some (.string n5) := KS.cell 4
      have k5 : U.cell? ⟨h, 5, none⟩ = some (.string n6) := KS.cell 5
      clear hU KV2 KVh KV0 KV1 HTV HKV
      go_wp2_with (with_reducible refine wpList_storeBlkH rfl 44 _ _ rfl (w.heap.size + 1) #[.int .i64 0, .int .i64 0, .int .i64 0, .int .i64 0, .string ⟨#[]⟩, .string ⟨#[]⟩] #[.int .i64 n1, .int .i64 n2, .int .i64 n3, .int .i64 n4, .string n5, .string n6] ?hx2 ?hy2 K1S rfl ?hi2 ?h12 ?_)
      try (case hx2 => rfl)
      try (case hy2 => rfl)
      try (case hi2 => first | kernel_rfl | (refine Option.map_eq_some_iff.1 (?_ : (Tryz.prog.info? 44).map (·.size) = some 6); kernel_rfl))
      try (case h12 => simp [Value.oneCell'])
      unfold Hid
      go_wp2_with fail
      refine bodyPost_rowTmp rfl (w.heap.size + 1) #[.int .i64 n1, .int .i64 n2, .int .i64 n3, .int .i64 n4, .string n5, .string n6] _ rfl rfl rfl (K1S.setRow _) _ Tryz.underlying44 rfl (by kernel_rfl) ⟨HRes.out, HTS.out.same (fun k hk => setRow_other U _ k _ (fun e => by have := HH.out.lt hk; omega)), HKS.out.grown (grown_setRow _ _ _) (fun j e hj => by cases e; omega)⟩
  · go_simp
    obtain ⟨h, hh⟩ : ∃ h, w1.heap.size = h := ⟨_, rfl⟩
    have CD' : Hid (∀ W, Below w1.heap.size w1 W → _) := CD
    obtain ⟨w2, hw2⟩ : ∃ w2, w1.alloc (.cells #[.int .i64 0, .int .i64 0, .int .i64 0, .int .i64 0, .string ⟨#[]⟩, .string ⟨#[]⟩] 44) = w2 := ⟨_, rfl⟩
    have hs2 : w2.heap.size = w.heap.size + 3 := by rw [← hw2]; simp; omega
    have hB2 : Below w1.heap.size w1 w2 := by rw [← hw2]; exact below_new _ _
    have K20 : Blk w2 25 w.heap.size #[.int .i64 x, .int .i64 y] := K0.on hB2
    have K21 : Blk w2 44 (w.heap.size + 1) #[.int .i64 0, .int .i64 0, .int .i64 0, .int .i64 0, .string ⟨#[]⟩, .string ⟨#[]⟩] := K1.on hB2
    have K2h : Blk w2 44 h #[.int .i64 0, .int .i64 0, .int .i64 0, .int .i64 0, .string ⟨#[]⟩, .string ⟨#[]⟩] := by rw [← hw2, ← hh]; exact Blk.new _ _ _
    rw [hw2]
    rw [← hS, hh]
    refine hK.out _ _ (show _ ∧ _ from ⟨K20.cell 0, K20.cell 1⟩) (fun hHeld => ?_)
    clear hK K
    refine wpAnyH_ready (rs := [1]) (by kernel_rfl) (by simp) ?_
    refine AllReadyH.cons rfl (fun K hK => ?_) AllReadyH.nil
    go_simp
    refine (CD.out w2.drew hB2.drew).mono ?_
    rintro e V ⟨rfl, hT, hM, hKp⟩
    have hKw : KeptF (tfoot g f m r) w V := (KeptF.ofBelow (tfoot g f m r) (below_step HBw.out (by omega) hB2).drew).trans hKp (fun _ _ h => h)
    have hlh : w.heap.size + 2 ≤ h := by omega
    have nf : ∀ k, w.heap.size ≤ k → ¬ tfoot g f m r k := fun k hk ht => by have := HH.out.lt ht; omega
    have KV0 : Blk V 25 w.heap.size #[.int .i64 x, .int .i64 y] := by unfold Blk; rw [hKp.block _ (by show _ < w2.heap.size; omega) (nf _ (Nat.le_refl _))]; exact K20
    have KV1 : Blk V 44 (w.heap.size + 1) #[.int .i64 0, .int .i64 0, .int .i64 0, .int .i64 0, .string ⟨#[]⟩, .string ⟨#[]⟩] := by unfold Blk; rw [hKp.block _ (by show _ < w2.heap.size; omega) (nf _ (by omega))]; exact K21
    obtain ⟨nd, b, hb, hl⟩ := mapN_two hM x y
    have HRes : Hid (Ending.returned (.tuple #[.agg #[.int .i64 nd.1.1, .int .i64 nd.1.2, .int .i64 nd.2.1.1, .int .i64 nd.2.1.2, .string nd.2.2.1, .string nd.2.2.2], .bool b]) = .returned (.tuple #[nodeV ((look N (x, y)).getD node0), .bool (look N (x, y)).isSome])) := look_res hM hl
    clear hb
    have hlk := hl V (Below.refl _ _)
    have hlkd : ∀ o, (Instr.lookup 60 (.map (some m)) (.agg #[.int .i64 x, .int .i64 y]) true).run Tryz.prog (V.alloc o) = _ := fun o => hl (V.alloc o) (below_new V o)
    obtain ⟨⟨n1, n2⟩, ⟨n3, n4⟩, n5, n6⟩ := nd
    have KVh : Blk V 44 h #[.int .i64 0, .int .i64 0, .int .i64 0, .int .i64 0, .string ⟨#[]⟩, .string ⟨#[]⟩] := by unfold Blk; rw [hKp.block _ (by show _ < w2.heap.size; omega) (nf _ (by omega))]; exact K2h
    have HTV : Hid (TreeIn V g f m r T) := hT
    have HKV : Hid (KeptF (tfoot g f m r) w V) := hKw
    clear CD CD' K0 K1 hM hl K20 K21 K2h hT hKw hw2 hh hs2 hB2
    refine hK.out _ _ (show _ ∧ _ from ⟨KV0.cell 0, KV0.cell 1⟩) (fun hHeld => ?_)
    clear hK K
    refine wpAnyH_ready (rs := [3]) (by kernel_rfl) (by simp) ?_
    refine AllReadyH.cons rfl (fun K hK => ?_) AllReadyH.nil
    go_simp
    refine hK.out _ _ (show _ ∧ _ from ⟨KV0.cell 0, KV0.cell 1⟩) (fun hHeld => ?_)
    clear hK K
    refine tk 4 (v := ?_) rfl rfl ?_ ?_
    rotate_left
    · intro w hSw; (try dsimp only at hSw); go_simp; try with_reducible rfl
    try simp only [Act.put, za, zb, zc]
    refine tk 5 (v := ?_) rfl rfl ?_ ?_
    rotate_left
    · intro w hSw; (try dsimp only at hSw); go_simp; try with_reducible rfl
    try simp only [Act.put, za, zb, zc]
    refine tk 6 (v := ?_) rfl rfl ?_ ?_
    rotate_left
    · intro w hSw; (try dsimp only at hSw); go_simp; try with_reducible rfl
    try simp only [Act.put, za, zb, zc]
    refine wpAnyH_ready (rs := [8]) (by kernel_rfl) (by simp) ?_
    refine AllReadyH.cons rfl (fun K hK => ?_) AllReadyH.nil
    refine step_storeRow rfl rfl 44 _ _ rfl h #[.int .i64 0, .int .i64 0, .int .i64 0, .int .i64 0, .string ⟨#[]⟩, .string ⟨#[]⟩] #[.int .i64 n1, .int .i64 n2, .int .i64 n3, .int .i64 n4, .string n5, .string n6] rfl rfl KVh rfl (by kernel_rfl) (by simp [Value.oneCell']) ?_
    have KV2 : Blk (V.setRow h #[.int .i64 n1, .int .i64 n2, .int .i64 n3, .int .i64 n4, .string n5, .string n6]) 25 w.heap.size #[.int .i64 x, .int .i64 y] := KV0.setRowOther _ (by omega) _
    refine hK.out _ _ (show _ ∧ _ from ⟨KV2.cell 0, KV2.cell 1⟩) (fun hHeld => ?_)
    clear hK K
    refine tk 9 (v := ?_) rfl rfl ?_ ?_
    rotate_left
    · intro w hSw; (try dsimp only at hSw); go_simp; try with_reducible rfl
    try simp only [Act.put, za, zb, zc]
    refine wpAnyH_done (by kernel_rfl) (NoPanic.normal ?_) _
    have KS := KVh.setRow #[.int .i64 n1, .int .i64 n2, .int .i64 n3, .int .i64 n4, .string n5, .string n6]
    have K1S : Blk (V.setRow h #[.int .i64 n1, .int .i64 n2, .int .i64 n3, .int .i64 n4, .string n5, .string n6]) 44 (w.heap.size + 1) #[.int .i64 0, .int .i64 0, .int .i64 0, .int .i64 0, .string ⟨#[]⟩, .string ⟨#[]⟩] := KV1.setRowOther _ (by omega) _
    have HTS : Hid (TreeIn (V.setRow h #[.int .i64 n1, .int .i64 n2, .int .i64 n3, .int .i64 n4, .string n5, .string n6]) g f m r T) := HTV.out.same (fun k hk => setRow_other V h k _ (fun e => by have := HH.out.lt hk; omega))
    have HKS : Hid (KeptF (tfoot g f m r) w (V.setRow h #[.int .i64 n1, .int .i64 n2, .int .i64 n3, .int .i64 n4, .string n5, .string n6])) := HKV.out.grown (grown_setRow _ _ _) (fun j e hj => by cases e; omega)
    obtain ⟨U, hU⟩ : ∃ U, V.setRow h #[.int .i64 n1, .int .i64 n2, .int .i64 n3, .int .i64 n4, .string n5, .string n6] = U := ⟨_, rfl⟩
    rw [hU] at KS K1S HTS HKS ⊢
    have k0 : U.cell? ⟨h, 0, none⟩ = some (.int .i64 n1) := KS.cell 0
    have k1 : U.cell? ⟨h, 1, none⟩ = some (.int .i64 n2) := KS.cell 1
    have k2 : U.cell? ⟨h, 2, none⟩ = some (.int .i64 n3) := KS.cell 2
    have k3 : U.cell? ⟨h, 3, none⟩ = some (.int .i64 n4) := KS.cell 3
    have k4 : U.cell? ⟨h, 4, none⟩ = some (.string n5) := KS.cell 4
    have k5 : U.cell? ⟨h, 5, none⟩ = some (.string n6) := KS.cell 5
    clear hU KV2 KVh KV0 KV1 HTV HKV
    go_wp2_with (with_reducible refine wpList_storeBlkH rfl 44 _ _ rfl (w.heap.size + 1) #[.int .i64 0, .int .i64 0, .int .i64 0, .int .i64 0, .string ⟨#[]⟩, .string ⟨#[]⟩] #[.int .i64 n1, .int .i64 n2, .int .i64 n3, .int .i64 n4, .string n5, .string n6] ?hx3 ?hy3 K1S rfl ?hi3 ?h13 ?_)
    try (case hx3 => rfl)
    try (case hy3 => rfl)
    try (case hi3 => first | kernel_rfl | (refine Option.map_eq_some_iff.1 (?_ : (Tryz.prog.info? 44).map (·.size) = some 6); kernel_rfl))
    try (case h13 => simp [Value.oneCell'])
    unfold Hid
    go_wp2_with fail
    refine bodyPost_rowTmp rfl (w.heap.size + 1) #[.int .i64 n1, .int .i64 n2, .int .i64 n3, .int .i64 n4, .string n5, .string n6] _ rfl rfl rfl (K1S.setRow _) _ Tryz.underlying44 rfl (by kernel_rfl) ⟨HRes.out, HTS.out.same (fun k hk => setRow_other U _ k _ (fun e => by have := HH.out.lt hk; omega)), HKS.out.grown (grown_setRow _ _ _) (fun j e hj => by cases e; omega)⟩
end Go.Proofs.YtjmbnoacbmmcdaaGreatDoor
