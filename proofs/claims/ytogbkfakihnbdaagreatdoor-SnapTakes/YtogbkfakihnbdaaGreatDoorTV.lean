import Derived.Test.YtogbkfakihnbdaaGreatDoorTS
import Derived.Test.YtogbkfakihnbdaaGreatDoorTA
import Derived.Test.YtogbkfakihnbdaaGreatDoorTC
import Derived.Test.YtogbkfakihnbdaaGreatDoorTX
import Derived.LaidEqlPtr
/- The code's tree: its object; New, given, Base, Ops, Fixed (layer 11). -/
namespace Go.Proofs.YtogbkfakihnbdaaGreatDoor
open Go.RowKit
set_option linter.unusedSimpArgs false

/-- Of what was there only some blocks may have turned. -/
structure KeptF (F : Nat → Prop) (w w' : World) : Prop where
  os : w'.os = w.os
  tape : w'.tape = w.tape
  output : w'.output = w.output
  size : w.heap.size ≤ w'.heap.size
  block : ∀ k, k < w.heap.size → ¬ F k → w'.heap[k]? = w.heap[k]?

theorem KeptF.refl (F : Nat → Prop) (w : World) : KeptF F w w := ⟨rfl, rfl, rfl, Nat.le_refl _, fun _ _ _ => rfl⟩

theorem KeptF.trans {F G : Nat → Prop} {a b c : World} (h : KeptF F a b) (k : KeptF G b c) (hG : ∀ j, j < a.heap.size → G j → F j) : KeptF F a c :=
  ⟨k.os.trans h.os, k.tape.trans h.tape, k.output.trans h.output, Nat.le_trans h.size k.size, fun j hj hF => (k.block j (Nat.lt_of_lt_of_le hj h.size) (fun g => hF (hG j hj g))).trans (h.block j hj hF)⟩

theorem KeptF.ofBelow (F : Nat → Prop) {w w' : World} (h : Below w.heap.size w w') : KeptF F w w' := ⟨h.os, h.tape, h.output, h.size, fun k hk _ => h.block k hk⟩

theorem KeptF.ofGrown {F : Nat → Prop} {w w' : World} {r : Option Nat} (h : w.grownBy w' r) (hr : ∀ k, r = some k → F k) : KeptF F w w' := ⟨h.os, h.tape, h.output, h.size, fun k hk hF => h.block k hk (fun e => hF (hr k e.symm))⟩

theorem KeptF.on {F : Nat → Prop} {a b c : World} (h : KeptF F a b) (k : Below b.heap.size b c) : KeptF F a c := h.trans (KeptF.ofBelow F k) (fun _ _ h => h)

theorem KeptF.grown {F : Nat → Prop} {a b c : World} {r : Option Nat} (h : KeptF F a b) (k : b.grownBy c r) (hr : ∀ j, r = some j → j < a.heap.size → F j) : KeptF F a c :=
  ⟨k.os.trans h.os, k.tape.trans h.tape, k.output.trans h.output, Nat.le_trans h.size k.size, fun j hj hF => (k.block j (Nat.lt_of_lt_of_le hj h.size) (fun e => hF (hr j e.symm hj))).trans (h.block j hj hF)⟩

theorem KeptF.setCell {F : Nat → Prop} {a b : World} (h : KeptF F a b) (g j : Nat) (v : Value) (hg : g < a.heap.size → F g) : KeptF F a (b.setCell ⟨g, j, none⟩ v) := h.grown (grown_set b g j v) (fun k e hk => by cases e; exact hg hk)

theorem KeptF.below {F : Nat → Prop} {w w' : World} (h : KeptF F w w') (B : Nat) (hB : B ≤ w.heap.size) (hF : ∀ k, F k → B ≤ k) : Below B w w' :=
  ⟨h.os, h.tape, h.output, h.size, fun k hk => h.block k (by omega) (fun f => by have := hF k f; omega)⟩

/-- The blocks of a tree. -/
def tfoot (g f m : Nat) (r : Option Nat) (k : Nat) : Prop := k = g ∨ k = f ∨ k = m ∨ some k = r

/-- A tree on plain data that may be one. -/
structure TreeOk (T : TreeT) : Prop where
  rooted : Rooted T.1
  sort : SortO T.2.1
  may : ∀ o ∈ T.2.1, MayO o

def treeC (g f m : Nat) (sl : Value) (b : Int × Int) (st : Bool) : Array Value := #[.pointer (some ⟨g, 0, none⟩), .int .i64 b.1, .int .i64 b.2, .map (some f), sl, .map (some m), .bool st]

/-- The code's tree at block g, its maps at f and m, its operations' row r. -/
structure TreeIn (w : World) (g f m : Nat) (r : Option Nat) (T : TreeT) : Prop where
  ok : TreeOk T
  ne : f ≠ m
  obj : ∃ sl st, sl.ownBlock = r ∧ Blk w 101 g (treeC g f m sl T.2.2 st) ∧ OwnO w 0 sl T.2.1 ∧ MapN w f T.1 ∧ ∃ ms, MapN w m ms ∧ (st = false → ms = nodesP T.1 T.2.1)

theorem mapN_obj {w : World} {r : Nat} {ns : List NodeT} (h : MapN w r ns) : ∃ es clock, w.heap[r]? = some (.map es clock) := by
  obtain ⟨es, clock, h1, _⟩ := h.len
  exact ⟨es, clock, h1⟩

theorem blk_map {w : World} {t : TypeId} {g r : Nat} {cs : Array Value} {ns : List NodeT} (h : Blk w t g cs) (k : MapN w r ns) : g ≠ r := by
  obtain ⟨es, clock, h1⟩ := mapN_obj k
  intro e
  subst e
  unfold Blk at h
  rw [h1] at h; cases h

theorem own_map {w : World} {B r j : Nat} {v : Value} {l : List OpT} {ns : List NodeT} (h : OwnO w B v l) (k : MapN w r ns) (hj : v.ownBlock = some j) : j ≠ r := by
  rcases h.blk with ⟨rfl, _⟩ | ⟨g, cap, cur, rfl, _, hb, _⟩
  · cases hj
  · cases hj; exact blk_map hb k

theorem own_blk {w : World} {B g j : Nat} {v : Value} {l : List OpT} {cs : Array Value} (h : OwnO w B v l) (k : Blk w 101 g cs) (hj : v.ownBlock = some j) : j ≠ g := by
  rcases h.blk with ⟨rfl, _⟩ | ⟨g', cap, cur, rfl, _, hb, _⟩
  · cases hj
  · cases hj
    intro e
    subst e
    unfold Blk at hb k
    rw [hb] at k
    cases k

theorem TreeIn.lt {w : World} {g f m : Nat} {r : Option Nat} {T : TreeT} (h : TreeIn w g f m r T) {k : Nat} (hk : tfoot g f m r k) : k < w.heap.size := by
  obtain ⟨sl, st, h1, h2, h3, h4, ms, h5, _⟩ := h.obj
  rcases hk with rfl | rfl | rfl | hk
  · exact h2.lt
  · exact h4.lt
  · exact h5.lt
  · rw [← h1] at hk; exact (World.ownsRow.lt h3 k hk.symm).2

theorem TreeIn.same {w w' : World} {g f m : Nat} {r : Option Nat} {T : TreeT} (h : TreeIn w g f m r T) (hs : ∀ k, tfoot g f m r k → w'.heap[k]? = w.heap[k]?) : TreeIn w' g f m r T := by
  obtain ⟨sl, st, h1, h2, h3, h4, ms, h5, h6⟩ := h.obj
  refine ⟨h.ok, h.ne, sl, st, h1, ?_, owns_same h3 (fun k hk => hs k (.inr (.inr (.inr (by rw [← h1]; exact hk.symm))))), h4.block (hs f (.inr (.inl rfl))), ms, h5.block (hs m (.inr (.inr (.inl rfl)))), h6⟩
  unfold Blk
  rw [hs g (.inl rfl)]; exact h2

theorem TreeIn.on {w w' : World} {g f m : Nat} {r : Option Nat} {T : TreeT} (h : TreeIn w g f m r T) (hb : Below w.heap.size w w') : TreeIn w' g f m r T := h.same (fun k hk => hb.block k (h.lt hk))

theorem TreeIn.kept {w w' : World} {F : Nat → Prop} {g f m : Nat} {r : Option Nat} {T : TreeT} (h : TreeIn w g f m r T) (hk : KeptF F w w') (hF : ∀ k, tfoot g f m r k → ¬ F k) : TreeIn w' g f m r T := h.same (fun k hf => hk.block k (h.lt hf) (hF k hf))

theorem Tryz.treeInfo : (Tryz.prog.info? 101).map (·.size) = some 7 := by kernel_rfl

set_option maxRecDepth 100000 in
set_option maxHeartbeats 2000000 in
theorem given_any (g : Nat) (w : World) (sl : Value) (b : Int × Int) (f m : Nat) (st : Bool) (h : Blk w 101 g (treeC g f m sl b st)) : Calls Tryz.prog 90 #[.pointer (some ⟨g, 0, none⟩)] w fun e w' => e = .returned (.bool true) ∧ w' = w := by
  have c0 : w.cell? ⟨g, 0, none⟩ = some (.pointer (some ⟨g, 0, none⟩)) := h.cell 0
  obtain ⟨j, hj, _⟩ := Option.map_eq_some_iff.1 Tryz.treeInfo
  have hq := run_eql_ptr_same (P := Tryz.prog) w ⟨g, 0, none⟩ Tryz.underlying68 hj
  clear h
  go_enter Tryz.func90, Tryz.ntmps90
  go_wp2
  go_ret
  exact ⟨rfl, rfl⟩

end Go.Proofs.YtogbkfakihnbdaaGreatDoor

/- The code's done, Nodes, Get (layer 11). -/
namespace Go.Proofs.YtogbkfakihnbdaaGreatDoor
open Go.RowKit
set_option linter.unusedSimpArgs false

theorem own_grown {w w' : World} {r : Option Nat} {v : Value} {l : List OpT} (h : OwnO w 0 v l) (hg : w.grownBy w' r) (hr : ∀ k, v.ownBlock = some k → r ≠ some k) : OwnO w' 0 v l := owns_same h (fun k hv => hg.block k (World.ownsRow.lt h k hv).2 (fun e => hr k hv e.symm))

theorem own_on2 {w w' : World} {v : Value} {l : List OpT} (h : OwnO w 0 v l) (hb : Below w.heap.size w w') : OwnO w' 0 v l := owns_same h (fun k hv => hb.block k (World.ownsRow.lt h k hv).2)

end Go.Proofs.YtogbkfakihnbdaaGreatDoor

/- The code's Get (layer 11). -/
namespace Go.Proofs.YtogbkfakihnbdaaGreatDoor
open Go.RowKit
set_option linter.unusedSimpArgs false

end Go.Proofs.YtogbkfakihnbdaaGreatDoor
