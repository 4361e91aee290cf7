import Derived.Test.YtogbkfakihnbdaaGreatDoorL1
import Derived.Test.YtogbkfakihnbdaaGreatDoorTmOf
import Derived.Test.YtogbkfakihnbdaaGreatDoorTmPl
/- The code's fix (layer 11). -/
namespace Go.Proofs.YtogbkfakihnbdaaGreatDoor
open Go.RowKit
set_option linter.unusedSimpArgs false

/-- What may be told of a node on its own. -/
def FixH (s : Int × Int) (x : NodeT) : Prop := MayS x.1 ∧ ¬ LessS s x.1 ∧ NameP x.2.2.1 ∧ x.2.2.2.size ≤ 64

/-- A tree in the making: its object, its nodes so far. -/
structure FxS (w0 w : World) (g f m : Nat) (b1 b2 : Int) (ns : List NodeT) : Prop where
  obj : Blk w 101 g (treeC g f m (.slice none 0 0) (b1, b2) true)
  fx : MapN w f ns
  nd : MapN w m []
  ne : f ≠ m
  kept : KeptF (tfoot g f m none) w0 w

theorem FxS.on {w0 w w' : World} {g f m : Nat} {b1 b2 : Int} {ns : List NodeT} (h : FxS w0 w g f m b1 b2 ns) (hb : Below w.heap.size w w') : FxS w0 w' g f m b1 b2 ns := ⟨h.obj.on hb, h.fx.on hb, h.nd.on hb, h.ne, h.kept.on hb⟩

theorem FxS.put {w0 w w' : World} {g f m : Nat} {b1 b2 : Int} {ns ns' : List NodeT} (h : FxS w0 w g f m b1 b2 ns) (hM : MapN w' f ns') (hg : w.grownBy w' (some f)) : FxS w0 w' g f m b1 b2 ns' := by
  have h1 := blk_map h.obj h.fx
  exact ⟨h.obj.grown hg (by simp; exact h1), hM, h.nd.grown hg (by simp; exact fun e => h.ne e.symm), h.ne, h.kept.grown hg (fun j e _ => by cases e; exact .inr (.inl rfl))⟩

theorem withR_last (x : NodeT) (l : List NodeT) (h : ∀ y ∈ l, LessS y.1 x.1) : withR x l = l ++ [x] := by
  induction l with
  | nil => rfl
  | cons y l ih =>
    rw [show withR x (y :: l) = if LessS y.1 x.1 then y :: withR x l else x :: (y :: l).filter (fun z => decide (z.1 ≠ x.1)) from rfl, if_pos (h y (List.mem_cons_self ..)), ih (fun z hz => h z (List.mem_cons_of_mem _ hz))]
    rfl

theorem take_nL (l : List NodeT) (k : Nat) (h : k < l.length) : l.take (k + 1) = l.take k ++ [nL l k] := by
  have e : nL l k = l[k] := by unfold nL; rw [List.getD_eq_getElem?_getD, List.getElem?_eq_getElem h]; rfl
  rw [e]; exact List.take_succ_eq_append_getElem h

theorem take_with {l : List NodeT} (hs : SortN l) (k : Nat) (h : k < l.length) : withR (nL l k) (l.take k) = l.take (k + 1) := by
  have e : nL l k = l[k] := by unfold nL; rw [List.getD_eq_getElem?_getD, List.getElem?_eq_getElem h]; rfl
  rw [withR_last, take_nL l k h]
  intro y hy
  obtain ⟨i, hi, rfl⟩ := List.getElem_of_mem hy
  rw [List.length_take] at hi
  rw [List.getElem_take, e]
  exact List.pairwise_iff_getElem.1 hs i k (by omega) h (by omega)

set_option maxRecDepth 100000 in
set_option maxHeartbeats 8000000 in
theorem fix_any (g f m : Nat) (b1 b2 : Int) (l : List NodeT) (a : Option Addr) (n c : Nat) (w : World) (hn : n ≤ 60000) (hO : Blk w 101 g (treeC g f m (.slice none 0 0) (b1, b2) true)) (hf : MapN w f []) (hm : MapN w m []) (hne : f ≠ m) (hI : NodesAt w a n l) (hFar : Far (tfoot g f m none) n a)
    (hz : ∀ k, k < n → (nL l k).2.2.1.size ≤ 1048576 ∧ (nL l k).2.2.2.size ≤ 9223372036854775807) (hG : ∀ W, KeptF (tfoot g f m none) w W → Glob8 W) (D : Bool) (hD : D = true ↔ (l.length ≤ 512 ∧ RiseN l ∧ (∀ k, k < n → FixH (b1, b2) (nL l k)) ∧ FixC l)) :
    Calls Tryz.prog 55 #[.pointer (some ⟨g, 0, none⟩), .slice a n c] w fun e w' => e = .returned (.bool D) ∧ KeptF (tfoot g f m none) w w' ∧ (D = true → FxS w w' g f m b1 b2 l) := by
  have HI : Hid (NodesAt w a n l) := hI
  have HN : Hid (l.length = n) := hI.1
  have HFar : Hid (Far (tfoot g f m none) n a) := hFar
  have HZ : Hid (∀ k, k < n → (nL l k).2.2.1.size ≤ 1048576 ∧ (nL l k).2.2.2.size ≤ 9223372036854775807) := hz
  have HGk : Hid (∀ W, KeptF (tfoot g f m none) w W → Glob8 W) := hG
  have HD : Hid (D = true ↔ (l.length ≤ 512 ∧ RiseN l ∧ (∀ k, k < n → FixH (b1, b2) (nL l k)) ∧ FixC l)) := hD
  have HS0 : Hid (FxS w w g f m b1 b2 (l.take 0)) := ⟨hO, hf, hm, hne, KeptF.refl _ _⟩
  have CR1 : Hid (RiseN l → ∀ W, Below w.heap.size w W → Calls Tryz.prog 69 #[.slice a n c] W fun e w' => e = .returned (.bool true) ∧ Below W.heap.size W w') := fun h W hW => rise_any l a n c W hn (hI.below hW) true ⟨fun _ => h, fun _ => rfl⟩
  have CR0 : Hid (¬ RiseN l → ∀ W, Below w.heap.size w W → Calls Tryz.prog 69 #[.slice a n c] W fun e w' => e = .returned (.bool false) ∧ Below W.heap.size W w') := fun h W hW => rise_any l a n c W hn (hI.below hW) false ⟨fun h' => (by cases h'), fun h' => absurd h' h⟩
  clear hI hFar hz hG hD hO hf hm hne
  by_cases h512 : n ≤ 512
  · have g0 : ¬ ((512 : Int) < (n : Int)) := by omega
    have g0' : decide ((n : Int) > 512) = false := by simp; omega
    by_cases hr : RiseN l
    · have CR : Hid (Calls _ _ _ _ _) := CR1.out hr w (Below.refl _ _)
      have HSo : Hid (SortN l) := rise_sort hr
      have HR : Hid (RiseN l) := hr
      clear CR1 CR0 hr
      go_enter Tryz.func55, Tryz.ntmps55
      go_wp2_with fail
      refine CR.out.mono ?_
      rintro e w1 ⟨rfl, hb1⟩
      have HS1 : Hid (FxS w w1 g f m b1 b2 (l.take 0)) := HS0.out.on hb1
      clear CR hb1 HS0
      go_wp2_with fail
      go_loopw [19] (fun i wr => ∃ k : Nat, k ≤ n ∧ i = .int .i64 k ∧ Hid (∀ j, j < k → FixH (b1, b2) (nL l j)) ∧ Hid (FxS w wr g f m b1 b2 (l.take k))) (fun i _ => n - (intOf i).toNat)
      case atStart => exact ⟨0, by omega, rfl, fun j hj => absurd hj (Nat.not_lt_zero _), HS1⟩
      case round =>
        clear HS1
        obtain ⟨k, hk, rfl, HL, HS⟩ := hrel
        by_cases hlt : k < n
        · have b0 : (k : Int) < (n : Int) := by omega
          obtain ⟨b, off, rfl, _⟩ := HI.out.2.some (by omega)
          have hrk := rows_kept HI.out.2 HFar.out HS.out.kept
          obtain ⟨x0, x1', x2', x3', x4', x5'⟩ := NodesAt.cells (l := l) ⟨HI.out.1, hrk⟩ k hlt
          have C1' : ∀ W, _ := fun W => isStamp_any (nL l k).1 W
          have C2' : ∀ W, _ := fun W => less_any (b1, b2) (nL l k).1 W
          have C4' : ∀ W, _ := fun W => isValue_any (nL l k).2.2.2 W (HZ.out k hlt).2
          obtain ⟨bn, hbn⟩ : ∃ bn : Bool, bn = true ↔ NameP (nL l k).2.2.1 := ⟨@decide (NameP (nL l k).2.2.1) (Classical.propDecidable _), by simp⟩
          have C3' : ∀ W, Glob8 W → _ := fun W hG => isName_any (nL l k).2.2.1 bn hbn W (HZ.out k hlt).1 hG
          have HTk : Hid (withR (nL l k) (l.take k) = l.take (k + 1)) := take_with HSo.out k (by rw [HN.out]; exact hlt)
          have HH : True := trivial
          have HDk : Hid (D = true → FixH (b1, b2) (nL l k)) := fun h => (HD.out.1 h).2.2.1 k hlt
          obtain ⟨⟨⟨m1, m2⟩, ⟨m3, m4⟩, m5, m6⟩, hnd⟩ : ∃ nd, nd = nL l k := ⟨_, rfl⟩
          rw [← hnd] at x0 x1' x2' x3' x4' x5' HTk HDk hbn
          simp only [← hnd, stampV] at C1' C2' C3' C4'
          simp only at hbn
          clear hrk
          go_wp2_with fail
          obtain ⟨W1, hW1⟩ : ∃ W1, wr.alloc (.cells #[.int .i64 m1, .int .i64 m2, .int .i64 m3, .int .i64 m4, .string m5, .string m6] 47) = W1 := ⟨_, rfl⟩
          obtain ⟨hp, hhp⟩ : ∃ hp, wr.heap.size = hp := ⟨_, rfl⟩
          have HB1w : Hid (Below wr.heap.size wr W1) := by show Below _ _ _; rw [← hW1]; exact below_new _ _
          have HKn : Hid (Blk W1 47 hp #[.int .i64 m1, .int .i64 m2, .int .i64 m3, .int .i64 m4, .string m5, .string m6]) := by show Blk _ _ _ _; rw [← hW1, ← hhp]; exact Blk.new _ _ _
          have HS1 : Hid (FxS w W1 g f m b1 b2 (l.take k)) := HS.out.on HB1w.out
          have HBw : Hid (Below W1.heap.size W1 W1) := Below.refl _ _
          have HGl : Hid (Glob8 W1) := HGk.out W1 HS1.out.kept
          have HSS : Hid (∀ W, Below W1.heap.size W1 W → (W.cell? ⟨g, 1, none⟩ = some (.int .i64 b1) ∧ W.cell? ⟨g, 2, none⟩ = some (.int .i64 b2)) ∧ (W.cell? ⟨hp, 0, none⟩ = some (.int .i64 m1) ∧ W.cell? ⟨hp, 1, none⟩ = some (.int .i64 m2) ∧ W.cell? ⟨hp, 2, none⟩ = some (.int .i64 m3) ∧ W.cell? ⟨hp, 3, none⟩ = some (.int .i64 m4) ∧ W.cell? ⟨hp, 4, none⟩ = some (.string m5) ∧ W.cell? ⟨hp, 5, none⟩ = some (.string m6))) := fun W hW => by
            have o := HS1.out.obj.on hW
            have n := HKn.out.on hW
            exact ⟨⟨o.cell 1, o.cell 2⟩, n.cell 0, n.cell 1, n.cell 2, n.cell 3, n.cell 4, n.cell 5⟩
          have hS0 := HSS.out W1 (Below.refl _ _)
          rw [hW1, hhp]
          have HND : Hid (((m1, m2), (m3, m4), m5, m6) = nL l k) := hnd
          clear hW1 hhp x0 x1' x2' x3' x4' x5' hnd
          by_cases h1 : MayS (m1, m2)
          · rw [decide_eq_true h1] at C1'
            have C1 : Hid (∀ W, _) := C1'
            by_cases h2 : LessS (b1, b2) (m1, m2)
            · rw [decide_eq_true h2] at C2'
              have C2 : Hid (∀ W, _) := C2'
              have C3 : Hid (∀ W, Glob8 W → _) := C3'
              have C4 : Hid (∀ W, _) := C4'
              have hno : ¬ FixH (b1, b2) ((m1, m2), (m3, m4), m5, m6) := fun hh => hh.2.1 h2
              clear C1' C2' C3' C4' HH hbn h1 h2
              refine wp_region_noPanic ?_
              refine wp_region_held_drew (S := fun W => (W.cell? ⟨g, 1, none⟩ = some (.int .i64 b1) ∧ W.cell? ⟨g, 2, none⟩ = some (.int .i64 b2)) ∧ (W.cell? ⟨hp, 0, none⟩ = some (.int .i64 m1) ∧ W.cell? ⟨hp, 1, none⟩ = some (.int .i64 m2) ∧ W.cell? ⟨hp, 2, none⟩ = some (.int .i64 m3) ∧ W.cell? ⟨hp, 3, none⟩ = some (.int .i64 m4) ∧ W.cell? ⟨hp, 4, none⟩ = some (.string m5) ∧ W.cell? ⟨hp, 5, none⟩ = some (.string m6))) (by kernel_rfl) (by first | exact trivial | assumption | exact ⟨by assumption, by assumption⟩) (fun hHeld => ?_)
              refine tk 0 (v := ?_) rfl rfl ?_ ?_
              rotate_left
              · intro w hSw; (try dsimp only at hSw); go_simp; try with_reducible rfl
              try simp only [Act.put, za, zb, zc]
              refine tk 1 (v := ?_) rfl rfl ?_ ?_
              rotate_left
              · intro w hSw; (try dsimp only at hSw); go_simp; try with_reducible rfl
              try simp only [Act.put, za, zb, zc]
              refine wpAnyH_ready (rs := [2]) (by kernel_rfl) (by simp) ?_
              refine AllReadyH.cons rfl (fun K hK => ?_) AllReadyH.nil
              go_simp
              refine (C1.out _).mono ?_
              rintro e x1 ⟨rfl, hb1⟩
              have hB1 : Below W1.heap.size W1 x1 := below_step (Below.refl _ _).drew (Nat.le_refl _) hb1
              refine hK.out _ _ (HSS.out _ hB1) (fun hHeld => ?_)
              clear hK K
              refine tk 3 (v := ?_) rfl rfl ?_ ?_
              rotate_left
              · intro w hSw; (try dsimp only at hSw); go_simp; try with_reducible rfl
              try simp only [Act.put, za, zb, zc]
              refine tk 4 (v := ?_) rfl rfl ?_ ?_
              rotate_left
              · intro w hSw; (try dsimp only at hSw); go_simp; try with_reducible rfl
              try simp only [Act.put, za, zb, zc]
              refine tk 5 (v := ?_) rfl rfl ?_ ?_
              rotate_left
              · intro w hSw; (try dsimp only at hSw); go_simp; try with_reducible rfl
              try simp only [Act.put, za, zb, zc]
              refine tk 6 (v := ?_) rfl rfl ?_ ?_
              rotate_left
              · intro w hSw; (try dsimp only at hSw); go_simp; try with_reducible rfl
              try simp only [Act.put, za, zb, zc]
              refine tk 7 (v := ?_) rfl rfl ?_ ?_
              rotate_left
              · intro w hSw; (try dsimp only at hSw); go_simp; try with_reducible rfl
              try simp only [Act.put, za, zb, zc]
              refine tk 8 (v := ?_) rfl rfl ?_ ?_
              rotate_left
              · intro w hSw; (try dsimp only at hSw); go_simp; try with_reducible rfl
              try simp only [Act.put, za, zb, zc]
              refine tk 9 (v := ?_) rfl rfl ?_ ?_
              rotate_left
              · intro w hSw; (try dsimp only at hSw); go_simp; try with_reducible rfl
              try simp only [Act.put, za, zb, zc]
              refine tk 10 (v := ?_) rfl rfl ?_ ?_
              rotate_left
              · intro w hSw; (try dsimp only at hSw); go_simp; try with_reducible rfl
              try simp only [Act.put, za, zb, zc]
              refine wpAnyH_ready (rs := [11]) (by kernel_rfl) (by simp) ?_
              refine AllReadyH.cons rfl (fun K hK => ?_) AllReadyH.nil
              go_simp
              refine (C2.out _).mono ?_
              rintro e x2 ⟨rfl, hb2⟩
              have hB2 : Below W1.heap.size W1 x2 := below_step hB1 (Nat.le_refl _) hb2
              refine hK.out _ _ (HSS.out _ hB2) (fun hHeld => ?_)
              clear hK K
              refine tk 12 (v := ?_) rfl rfl ?_ ?_
              rotate_left
              · intro w hSw; (try dsimp only at hSw); go_simp; try with_reducible rfl
              try simp only [Act.put, za, zb, zc]
              refine tk 13 (v := ?_) rfl rfl ?_ ?_
              rotate_left
              · intro w hSw; (try dsimp only at hSw); go_simp; try with_reducible rfl
              try simp only [Act.put, za, zb, zc]
              refine tn 14 rfl rfl ?_
              try simp only [Act.put, za, zb, zc]
              refine tn 15 rfl rfl ?_
              try simp only [Act.put, za, zb, zc]
              refine tn 16 rfl rfl ?_
              try simp only [Act.put, za, zb, zc]
              refine tn 17 rfl rfl ?_
              try simp only [Act.put, za, zb, zc]
              refine tk 18 (v := ?_) rfl rfl ?_ ?_
              rotate_left
              · intro w hSw; (try dsimp only at hSw); go_simp; try with_reducible rfl
              try simp only [Act.put, za, zb, zc]
              refine tk 19 (v := ?_) rfl rfl ?_ ?_
              rotate_left
              · intro w hSw; (try dsimp only at hSw); go_simp; try with_reducible rfl
              try simp only [Act.put, za, zb, zc]
              refine tn 20 rfl rfl ?_
              try simp only [Act.put, za, zb, zc]
              refine tn 21 rfl rfl ?_
              try simp only [Act.put, za, zb, zc]
              refine tn 22 rfl rfl ?_
              try simp only [Act.put, za, zb, zc]
              refine tn 23 rfl rfl ?_
              try simp only [Act.put, za, zb, zc]
              refine tk 24 (v := ?_) rfl rfl ?_ ?_
              rotate_left
              · intro w hSw; (try dsimp only at hSw); go_simp; try with_reducible rfl
              try simp only [Act.put, za, zb, zc]
              refine wpAnyH_done (by kernel_rfl) (NoPanic.normal ?_) _
              obtain rfl : D = false := by
                cases D with
                | false => rfl
                | true => exact absurd (HDk.out rfl) hno
              have HKe : Hid (KeptF (tfoot g f m none) w x2) := (HS1.out.on hB2).kept
              clear HS HSS C1 C2 C3 C4 hno HS1
              go_wp2_with fail
              go_ret
              first | exact ⟨rfl, HKe.out⟩ | exact ⟨rfl, HKe.out, fun h => (by cases h)⟩
            · rw [decide_eq_false h2] at C2'
              have C2 : Hid (∀ W, _) := C2'
              by_cases h3 : NameP m5
              · obtain rfl : bn = true := hbn.2 h3
                have C3 : Hid (∀ W, Glob8 W → _) := C3'
                by_cases h4 : m6.size ≤ 64
                · rw [decide_eq_true h4] at C4'
                  have C4 : Hid (∀ W, _) := C4'
                  have HHk : Hid (FixH (b1, b2) ((m1, m2), (m3, m4), m5, m6)) := ⟨h1, h2, h3, h4⟩
                  clear C1' C2' C3' C4' HH hbn h1 h2 h3 h4
                  refine wp_region_noPanic ?_
                  refine wp_region_held_drew (S := fun W => (W.cell? ⟨g, 1, none⟩ = some (.int .i64 b1) ∧ W.cell? ⟨g, 2, none⟩ = some (.int .i64 b2)) ∧ (W.cell? ⟨hp, 0, none⟩ = some (.int .i64 m1) ∧ W.cell? ⟨hp, 1, none⟩ = some (.int .i64 m2) ∧ W.cell? ⟨hp, 2, none⟩ = some (.int .i64 m3) ∧ W.cell? ⟨hp, 3, none⟩ = some (.int .i64 m4) ∧ W.cell? ⟨hp, 4, none⟩ = some (.string m5) ∧ W.cell? ⟨hp, 5, none⟩ = some (.string m6))) (by kernel_rfl) (by first | exact trivial | assumption | exact ⟨by assumption, by assumption⟩) (fun hHeld => ?_)
                  refine tk 0 (v := ?_) rfl rfl ?_ ?_
                  rotate_left
                  · intro w hSw; (try dsimp only at hSw); go_simp; try with_reducible rfl
                  try simp only [Act.put, za, zb, zc]
                  refine tk 1 (v := ?_) rfl rfl ?_ ?_
                  rotate_left
                  · intro w hSw; (try dsimp only at hSw); go_simp; try with_reducible rfl
                  try simp only [Act.put, za, zb, zc]
                  refine wpAnyH_ready (rs := [2]) (by kernel_rfl) (by simp) ?_
                  refine AllReadyH.cons rfl (fun K hK => ?_) AllReadyH.nil
                  go_simp
                  refine (C1.out _).mono ?_
                  rintro e x1 ⟨rfl, hb1⟩
                  have hB1 : Below W1.heap.size W1 x1 := below_step (Below.refl _ _).drew (Nat.le_refl _) hb1
                  refine hK.out _ _ (HSS.out _ hB1) (fun hHeld => ?_)
                  clear hK K
                  refine tk 3 (v := ?_) rfl rfl ?_ ?_
                  rotate_left
                  · intro w hSw; (try dsimp only at hSw); go_simp; try with_reducible rfl
                  try simp only [Act.put, za, zb, zc]
                  refine tk 4 (v := ?_) rfl rfl ?_ ?_
                  rotate_left
                  · intro w hSw; (try dsimp only at hSw); go_simp; try with_reducible rfl
                  try simp only [Act.put, za, zb, zc]
                  refine tk 5 (v := ?_) rfl rfl ?_ ?_
                  rotate_left
                  · intro w hSw; (try dsimp only at hSw); go_simp; try with_reducible rfl
                  try simp only [Act.put, za, zb, zc]
                  refine tk 6 (v := ?_) rfl rfl ?_ ?_
                  rotate_left
                  · intro w hSw; (try dsimp only at hSw); go_simp; try with_reducible rfl
                  try simp only [Act.put, za, zb, zc]
                  refine tk 7 (v := ?_) rfl rfl ?_ ?_
                  rotate_left
                  · intro w hSw; (try dsimp only at hSw); go_simp; try with_reducible rfl
                  try simp only [Act.put, za, zb, zc]
                  refine tk 8 (v := ?_) rfl rfl ?_ ?_
                  rotate_left
                  · intro w hSw; (try dsimp only at hSw); go_simp; try with_reducible rfl
                  try simp only [Act.put, za, zb, zc]
                  refine tk 9 (v := ?_) rfl rfl ?_ ?_
                  rotate_left
                  · intro w hSw; (try dsimp only at hSw); go_simp; try with_reducible rfl
                  try simp only [Act.put, za, zb, zc]
                  refine tk 10 (v := ?_) rfl rfl ?_ ?_
                  rotate_left
                  · intro w hSw; (try dsimp only at hSw); go_simp; try with_reducible rfl
                  try simp only [Act.put, za, zb, zc]
                  refine wpAnyH_ready (rs := [11]) (by kernel_rfl) (by simp) ?_
                  refine AllReadyH.cons rfl (fun K hK => ?_) AllReadyH.nil
                  go_simp
                  refine (C2.out _).mono ?_
                  rintro e x2 ⟨rfl, hb2⟩
                  have hB2 : Below W1.heap.size W1 x2 := below_step hB1 (Nat.le_refl _) hb2
                  refine hK.out _ _ (HSS.out _ hB2) (fun hHeld => ?_)
                  clear hK K
                  refine tk 12 (v := ?_) rfl rfl ?_ ?_
                  rotate_left
                  · intro w hSw; (try dsimp only at hSw); go_simp; try with_reducible rfl
                  try simp only [Act.put, za, zb, zc]
                  refine tk 13 (v := ?_) rfl rfl ?_ ?_
                  rotate_left
                  · intro w hSw; (try dsimp only at hSw); go_simp; try with_reducible rfl
                  try simp only [Act.put, za, zb, zc]
                  refine tk 14 (v := ?_) rfl rfl ?_ ?_
                  rotate_left
                  · intro w hSw; (try dsimp only at hSw); go_simp; try with_reducible rfl
                  try simp only [Act.put, za, zb, zc]
                  refine tk 15 (v := ?_) rfl rfl ?_ ?_
                  rotate_left
                  · intro w hSw; (try dsimp only at hSw); go_simp; try with_reducible rfl
                  try simp only [Act.put, za, zb, zc]
                  refine wpAnyH_ready (rs := [16]) (by kernel_rfl) (by simp) ?_
                  refine AllReadyH.cons rfl (fun K hK => ?_) AllReadyH.nil
                  go_simp
                  refine (C3.out _ (HGl.out.below (below_step HBw.out (Nat.le_refl _) hB2))).mono ?_
                  rintro e x3 ⟨rfl, hb3⟩
                  have hB3 : Below W1.heap.size W1 x3 := below_step hB2 (Nat.le_refl _) hb3
                  refine hK.out _ _ (HSS.out _ hB3) (fun hHeld => ?_)
                  clear hK K
                  refine tk 17 (v := ?_) rfl rfl ?_ ?_
                  rotate_left
                  · intro w hSw; (try dsimp only at hSw); go_simp; try with_reducible rfl
                  try simp only [Act.put, za, zb, zc]
                  refine tk 18 (v := ?_) rfl rfl ?_ ?_
                  rotate_left
                  · intro w hSw; (try dsimp only at hSw); go_simp; try with_reducible rfl
                  try simp only [Act.put, za, zb, zc]
                  refine tk 19 (v := ?_) rfl rfl ?_ ?_
                  rotate_left
                  · intro w hSw; (try dsimp only at hSw); go_simp; try with_reducible rfl
                  try simp only [Act.put, za, zb, zc]
                  refine tk 20 (v := ?_) rfl rfl ?_ ?_
                  rotate_left
                  · intro w hSw; (try dsimp only at hSw); go_simp; try with_reducible rfl
                  try simp only [Act.put, za, zb, zc]
                  refine tk 21 (v := ?_) rfl rfl ?_ ?_
                  rotate_left
                  · intro w hSw; (try dsimp only at hSw); go_simp; try with_reducible rfl
                  try simp only [Act.put, za, zb, zc]
                  refine wpAnyH_ready (rs := [22]) (by kernel_rfl) (by simp) ?_
                  refine AllReadyH.cons rfl (fun K hK => ?_) AllReadyH.nil
                  go_simp
                  refine (C4.out _).mono ?_
                  rintro e x4 ⟨rfl, hx4⟩
                  subst x4
                  refine hK.out _ _ (HSS.out _ hB3) (fun hHeld => ?_)
                  clear hK K
                  refine tk 23 (v := ?_) rfl rfl ?_ ?_
                  rotate_left
                  · intro w hSw; (try dsimp only at hSw); go_simp; try with_reducible rfl
                  try simp only [Act.put, za, zb, zc]
                  refine tk 24 (v := ?_) rfl rfl ?_ ?_
                  rotate_left
                  · intro w hSw; (try dsimp only at hSw); go_simp; try with_reducible rfl
                  try simp only [Act.put, za, zb, zc]
                  refine wpAnyH_done (by kernel_rfl) (NoPanic.normal ?_) _
                  have HS3 : Hid (FxS w x3 g f m b1 b2 (l.take k)) := HS1.out.on hB3
                  have HK3 : Hid (Blk x3 47 hp #[.int .i64 m1, .int .i64 m2, .int .i64 m3, .int .i64 m4, .string m5, .string m6]) := HKn.out.on hB3
                  obtain ⟨Wp, hput, hMp, hgp⟩ := (HS3.out.on (Below.refl _ _).drew).fx.put ((m1, m2), (m3, m4), m5, m6)
                  simp only [keyV, nodeV, nodeA] at hput
                  have HSp : Hid (FxS w Wp g f m b1 b2 (l.take (k + 1))) := by
                    have h := (HS3.out.on (Below.refl _ _).drew).put hMp hgp
                    rw [HTk.out] at h
                    exact h
                  have HKp : Hid (Blk Wp 47 hp #[.int .i64 m1, .int .i64 m2, .int .i64 m3, .int .i64 m4, .string m5, .string m6]) := (HK3.out.on (Below.refl _ _).drew).grown hgp (by
                    have h1 := blk_map HK3.out HS3.out.fx
                    simp
                    exact h1)
                  have hS8 : (x3.cell? ⟨g, 3, none⟩ = some (.map (some f))) ∧ (x3.cell? ⟨hp, 0, none⟩ = some (.int .i64 m1) ∧ x3.cell? ⟨hp, 1, none⟩ = some (.int .i64 m2) ∧ x3.cell? ⟨hp, 2, none⟩ = some (.int .i64 m3) ∧ x3.cell? ⟨hp, 3, none⟩ = some (.int .i64 m4) ∧ x3.cell? ⟨hp, 4, none⟩ = some (.string m5) ∧ x3.cell? ⟨hp, 5, none⟩ = some (.string m6)) := ⟨HS3.out.obj.cell 3, HK3.out.cell 0, HK3.out.cell 1, HK3.out.cell 2, HK3.out.cell 3, HK3.out.cell 4, HK3.out.cell 5⟩
                  have HL' : Hid (∀ j, j < k + 1 → FixH (b1, b2) (nL l j)) := fun j hj => by
                    by_cases e : j = k
                    · rw [e, ← HND.out]; exact HHk.out
                    · exact HL.out j (by omega)
                  clear HS HSS C1 C2 C3 C4 HS1 hMp hgp hS0
                  go_wp2_with fail
                  refine wp_region_noPanic ?_
                  refine wp_region_held_drew (S := fun W => (W.cell? ⟨g, 3, none⟩ = some (.map (some f))) ∧ (W.cell? ⟨hp, 0, none⟩ = some (.int .i64 m1) ∧ W.cell? ⟨hp, 1, none⟩ = some (.int .i64 m2) ∧ W.cell? ⟨hp, 2, none⟩ = some (.int .i64 m3) ∧ W.cell? ⟨hp, 3, none⟩ = some (.int .i64 m4) ∧ W.cell? ⟨hp, 4, none⟩ = some (.string m5) ∧ W.cell? ⟨hp, 5, none⟩ = some (.string m6))) (by kernel_rfl) (by first | exact trivial | assumption | exact ⟨by assumption, by assumption⟩) (fun hHeld => ?_)
                  refine tk 0 (v := ?_) rfl rfl ?_ ?_
                  rotate_left
                  · intro w hSw; (try dsimp only at hSw); go_simp; try with_reducible rfl
                  try simp only [Act.put, za, zb, zc]
                  refine tk 1 (v := ?_) rfl rfl ?_ ?_
                  rotate_left
                  · intro w hSw; (try dsimp only at hSw); go_simp; try with_reducible rfl
                  try simp only [Act.put, za, zb, zc]
                  refine tk 2 (v := ?_) rfl rfl ?_ ?_
                  rotate_left
                  · intro w hSw; (try dsimp only at hSw); go_simp; try with_reducible rfl
                  try simp only [Act.put, za, zb, zc]
                  refine tk 3 (v := ?_) rfl rfl ?_ ?_
                  rotate_left
                  · intro w hSw; (try dsimp only at hSw); go_simp; try with_reducible rfl
                  try simp only [Act.put, za, zb, zc]
                  refine tk 4 (v := ?_) rfl rfl ?_ ?_
                  rotate_left
                  · intro w hSw; (try dsimp only at hSw); go_simp; try with_reducible rfl
                  try simp only [Act.put, za, zb, zc]
                  refine tk 5 (v := ?_) rfl rfl ?_ ?_
                  rotate_left
                  · intro w hSw; (try dsimp only at hSw); go_simp; try with_reducible rfl
                  try simp only [Act.put, za, zb, zc]
                  refine tk 6 (v := ?_) rfl rfl ?_ ?_
                  rotate_left
                  · intro w hSw; (try dsimp only at hSw); go_simp; try with_reducible rfl
                  try simp only [Act.put, za, zb, zc]
                  refine wpAnyH_ready (rs := [7]) (by kernel_rfl) (by simp) ?_
                  refine AllReadyH.cons rfl (fun K hK => ?_) AllReadyH.nil
                  go_simp
                  refine hK.out _ _ ⟨HSp.out.obj.cell 3, HKp.out.cell 0, HKp.out.cell 1, HKp.out.cell 2, HKp.out.cell 3, HKp.out.cell 4, HKp.out.cell 5⟩ (fun hHeld => ?_)
                  clear hK K
                  refine wpAnyH_done (by kernel_rfl) (NoPanic.normal ?_) _
                  clear hput HS3 HK3 HKp hS8
                  go_wp2_with fail
                  refine ⟨?_, ?_⟩
                  · first
                    | exact ⟨k + 1, by omega, by go_num, HL', HSp⟩
                    | ((repeat apply Exists.intro); refine ⟨?_, rfl⟩; exact ⟨k + 1, by omega, by go_num, HL', HSp⟩)
                  · simp [intOf] <;> omega
                · rw [decide_eq_false h4] at C4'
                  have C4 : Hid (∀ W, _) := C4'
                  have hno : ¬ FixH (b1, b2) ((m1, m2), (m3, m4), m5, m6) := fun hh => h4 hh.2.2.2
                  clear C1' C2' C3' C4' HH hbn h1 h2 h3 h4
                  refine wp_region_noPanic ?_
                  refine wp_region_held_drew (S := fun W => (W.cell? ⟨g, 1, none⟩ = some (.int .i64 b1) ∧ W.cell? ⟨g, 2, none⟩ = some (.int .i64 b2)) ∧ (W.cell? ⟨hp, 0, none⟩ = some (.int .i64 m1) ∧ W.cell? ⟨hp, 1, none⟩ = some (.int .i64 m2) ∧ W.cell? ⟨hp, 2, none⟩ = some (.int .i64 m3) ∧ W.cell? ⟨hp, 3, none⟩ = some (.int .i64 m4) ∧ W.cell? ⟨hp, 4, none⟩ = some (.string m5) ∧ W.cell? ⟨hp, 5, none⟩ = some (.string m6))) (by kernel_rfl) (by first | exact trivial | assumption | exact ⟨by assumption, by assumption⟩) (fun hHeld => ?_)
                  refine tk 0 (v := ?_) rfl rfl ?_ ?_
                  rotate_left
                  · intro w hSw; (try dsimp only at hSw); go_simp; try with_reducible rfl
                  try simp only [Act.put, za, zb, zc]
                  refine tk 1 (v := ?_) rfl rfl ?_ ?_
                  rotate_left
                  · intro w hSw; (try dsimp only at hSw); go_simp; try with_reducible rfl
                  try simp only [Act.put, za, zb, zc]
                  refine wpAnyH_ready (rs := [2]) (by kernel_rfl) (by simp) ?_
                  refine AllReadyH.cons rfl (fun K hK => ?_) AllReadyH.nil
                  go_simp
                  refine (C1.out _).mono ?_
                  rintro e x1 ⟨rfl, hb1⟩
                  have hB1 : Below W1.heap.size W1 x1 := below_step (Below.refl _ _).drew (Nat.le_refl _) hb1
                  refine hK.out _ _ (HSS.out _ hB1) (fun hHeld => ?_)
                  clear hK K
                  refine tk 3 (v := ?_) rfl rfl ?_ ?_
                  rotate_left
                  · intro w hSw; (try dsimp only at hSw); go_simp; try with_reducible rfl
                  try simp only [Act.put, za, zb, zc]
                  refine tk 4 (v := ?_) rfl rfl ?_ ?_
                  rotate_left
                  · intro w hSw; (try dsimp only at hSw); go_simp; try with_reducible rfl
                  try simp only [Act.put, za, zb, zc]
                  refine tk 5 (v := ?_) rfl rfl ?_ ?_
                  rotate_left
                  · intro w hSw; (try dsimp only at hSw); go_simp; try with_reducible rfl
                  try simp only [Act.put, za, zb, zc]
                  refine tk 6 (v := ?_) rfl rfl ?_ ?_
                  rotate_left
                  · intro w hSw; (try dsimp only at hSw); go_simp; try with_reducible rfl
                  try simp only [Act.put, za, zb, zc]
                  refine tk 7 (v := ?_) rfl rfl ?_ ?_
                  rotate_left
                  · intro w hSw; (try dsimp only at hSw); go_simp; try with_reducible rfl
                  try simp only [Act.put, za, zb, zc]
                  refine tk 8 (v := ?_) rfl rfl ?_ ?_
                  rotate_left
                  · intro w hSw; (try dsimp only at hSw); go_simp; try with_reducible rfl
                  try simp only [Act.put, za, zb, zc]
                  refine tk 9 (v := ?_) rfl rfl ?_ ?_
                  rotate_left
                  · intro w hSw; (try dsimp only at hSw); go_simp; try with_reducible rfl
                  try simp only [Act.put, za, zb, zc]
                  refine tk 10 (v := ?_) rfl rfl ?_ ?_
                  rotate_left
                  · intro w hSw; (try dsimp only at hSw); go_simp; try with_reducible rfl
                  try simp only [Act.put, za, zb, zc]
                  refine wpAnyH_ready (rs := [11]) (by kernel_rfl) (by simp) ?_
                  refine AllReadyH.cons rfl (fun K hK => ?_) AllReadyH.nil
                  go_simp
                  refine (C2.out _).mono ?_
                  rintro e x2 ⟨rfl, hb2⟩
                  have hB2 : Below W1.heap.size W1 x2 := below_step hB1 (Nat.le_refl _) hb2
                  refine hK.out _ _ (HSS.out _ hB2) (fun hHeld => ?_)
                  clear hK K
                  refine tk 12 (v := ?_) rfl rfl ?_ ?_
                  rotate_left
                  · intro w hSw; (try dsimp only at hSw); go_simp; try with_reducible rfl
                  try simp only [Act.put, za, zb, zc]
                  refine tk 13 (v := ?_) rfl rfl ?_ ?_
                  rotate_left
                  · intro w hSw; (try dsimp only at hSw); go_simp; try with_reducible rfl
                  try simp only [Act.put, za, zb, zc]
                  refine tk 14 (v := ?_) rfl rfl ?_ ?_
                  rotate_left
                  · intro w hSw; (try dsimp only at hSw); go_simp; try with_reducible rfl
                  try simp only [Act.put, za, zb, zc]
                  refine tk 15 (v := ?_) rfl rfl ?_ ?_
                  rotate_left
                  · intro w hSw; (try dsimp only at hSw); go_simp; try with_reducible rfl
                  try simp only [Act.put, za, zb, zc]
                  refine wpAnyH_ready (rs := [16]) (by kernel_rfl) (by simp) ?_
                  refine AllReadyH.cons rfl (fun K hK => ?_) AllReadyH.nil
                  go_simp
                  refine (C3.out _ (HGl.out.below (below_step HBw.out (Nat.le_refl _) hB2))).mono ?_
                  rintro e x3 ⟨rfl, hb3⟩
                  have hB3 : Below W1.heap.size W1 x3 := below_step hB2 (Nat.le_refl _) hb3
                  refine hK.out _ _ (HSS.out _ hB3) (fun hHeld => ?_)
                  clear hK K
                  refine tk 17 (v := ?_) rfl rfl ?_ ?_
                  rotate_left
                  · intro w hSw; (try dsimp only at hSw); go_simp; try with_reducible rfl
                  try simp only [Act.put, za, zb, zc]
                  refine tk 18 (v := ?_) rfl rfl ?_ ?_
                  rotate_left
                  · intro w hSw; (try dsimp only at hSw); go_simp; try with_reducible rfl
                  try simp only [Act.put, za, zb, zc]
                  refine tk 19 (v := ?_) rfl rfl ?_ ?_
                  rotate_left
                  · intro w hSw; (try dsimp only at hSw); go_simp; try with_reducible rfl
                  try simp only [Act.put, za, zb, zc]
                  refine tk 20 (v := ?_) rfl rfl ?_ ?_
                  rotate_left
                  · intro w hSw; (try dsimp only at hSw); go_simp; try with_reducible rfl
                  try simp only [Act.put, za, zb, zc]
                  refine tk 21 (v := ?_) rfl rfl ?_ ?_
                  rotate_left
                  · intro w hSw; (try dsimp only at hSw); go_simp; try with_reducible rfl
                  try simp only [Act.put, za, zb, zc]
                  refine wpAnyH_ready (rs := [22]) (by kernel_rfl) (by simp) ?_
                  refine AllReadyH.cons rfl (fun K hK => ?_) AllReadyH.nil
                  go_simp
                  refine (C4.out _).mono ?_
                  rintro e x4 ⟨rfl, hx4⟩
                  subst x4
                  refine hK.out _ _ (HSS.out _ hB3) (fun hHeld => ?_)
                  clear hK K
                  refine tk 23 (v := ?_) rfl rfl ?_ ?_
                  rotate_left
                  · intro w hSw; (try dsimp only at hSw); go_simp; try with_reducible rfl
                  try simp only [Act.put, za, zb, zc]
                  refine tk 24 (v := ?_) rfl rfl ?_ ?_
                  rotate_left
                  · intro w hSw; (try dsimp only at hSw); go_simp; try with_reducible rfl
                  try simp only [Act.put, za, zb, zc]
                  refine wpAnyH_done (by kernel_rfl) (NoPanic.normal ?_) _
                  obtain rfl : D = false := by
                    cases D with
                    | false => rfl
                    | true => exact absurd (HDk.out rfl) hno
                  have HKe : Hid (KeptF (tfoot g f m none) w x3) := (HS1.out.on hB3).kept
                  clear HS HSS C1 C2 C3 C4 hno HS1
                  go_wp2_with fail
                  go_ret
                  first | exact ⟨rfl, HKe.out⟩ | exact ⟨rfl, HKe.out, fun h => (by cases h)⟩
              · obtain rfl : bn = false := by
                  cases bn with
                  | false => rfl
                  | true => exact absurd (hbn.1 rfl) h3
                have C3 : Hid (∀ W, Glob8 W → _) := C3'
                have C4 : Hid (∀ W, _) := C4'
                have hno : ¬ FixH (b1, b2) ((m1, m2), (m3, m4), m5, m6) := fun hh => h3 hh.2.2.1
                clear C1' C2' C3' C4' HH hbn h1 h2 h3
                refine wp_region_noPanic ?_
                refine wp_region_held_drew (S := fun W => (W.cell? ⟨g, 1, none⟩ = some (.int .i64 b1) ∧ W.cell? ⟨g, 2, none⟩ = some (.int .i64 b2)) ∧ (W.cell? ⟨hp, 0, none⟩ = some (.int .i64 m1) ∧ W.cell? ⟨hp, 1, none⟩ = some (.int .i64 m2) ∧ W.cell? ⟨hp, 2, none⟩ = some (.int .i64 m3) ∧ W.cell? ⟨hp, 3, none⟩ = some (.int .i64 m4) ∧ W.cell? ⟨hp, 4, none⟩ = some (.string m5) ∧ W.cell? ⟨hp, 5, none⟩ = some (.string m6))) (by kernel_rfl) (by first | exact trivial | assumption | exact ⟨by assumption, by assumption⟩) (fun hHeld => ?_)
                refine tk 0 (v := ?_) rfl rfl ?_ ?_
                rotate_left
                · intro w hSw; (try dsimp only at hSw); go_simp; try with_reducible rfl
                try simp only [Act.put, za, zb, zc]
                refine tk 1 (v := ?_) rfl rfl ?_ ?_
                rotate_left
                · intro w hSw; (try dsimp only at hSw); go_simp; try with_reducible rfl
                try simp only [Act.put, za, zb, zc]
                refine wpAnyH_ready (rs := [2]) (by kernel_rfl) (by simp) ?_
                refine AllReadyH.cons rfl (fun K hK => ?_) AllReadyH.nil
                go_simp
                refine (C1.out _).mono ?_
                rintro e x1 ⟨rfl, hb1⟩
                have hB1 : Below W1.heap.size W1 x1 := below_step (Below.refl _ _).drew (Nat.le_refl _) hb1
                refine hK.out _ _ (HSS.out _ hB1) (fun hHeld => ?_)
                clear hK K
                refine tk 3 (v := ?_) rfl rfl ?_ ?_
                rotate_left
                · intro w hSw; (try dsimp only at hSw); go_simp; try with_reducible rfl
                try simp only [Act.put, za, zb, zc]
                refine tk 4 (v := ?_) rfl rfl ?_ ?_
                rotate_left
                · intro w hSw; (try dsimp only at hSw); go_simp; try with_reducible rfl
                try simp only [Act.put, za, zb, zc]
                refine tk 5 (v := ?_) rfl rfl ?_ ?_
                rotate_left
                · intro w hSw; (try dsimp only at hSw); go_simp; try with_reducible rfl
                try simp only [Act.put, za, zb, zc]
                refine tk 6 (v := ?_) rfl rfl ?_ ?_
                rotate_left
                · intro w hSw; (try dsimp only at hSw); go_simp; try with_reducible rfl
                try simp only [Act.put, za, zb, zc]
                refine tk 7 (v := ?_) rfl rfl ?_ ?_
                rotate_left
                · intro w hSw; (try dsimp only at hSw); go_simp; try with_reducible rfl
                try simp only [Act.put, za, zb, zc]
                refine tk 8 (v := ?_) rfl rfl ?_ ?_
                rotate_left
                · intro w hSw; (try dsimp only at hSw); go_simp; try with_reducible rfl
                try simp only [Act.put, za, zb, zc]
                refine tk 9 (v := ?_) rfl rfl ?_ ?_
                rotate_left
                · intro w hSw; (try dsimp only at hSw); go_simp; try with_reducible rfl
                try simp only [Act.put, za, zb, zc]
                refine tk 10 (v := ?_) rfl rfl ?_ ?_
                rotate_left
                · intro w hSw; (try dsimp only at hSw); go_simp; try with_reducible rfl
                try simp only [Act.put, za, zb, zc]
                refine wpAnyH_ready (rs := [11]) (by kernel_rfl) (by simp) ?_
                refine AllReadyH.cons rfl (fun K hK => ?_) AllReadyH.nil
                go_simp
                refine (C2.out _).mono ?_
                rintro e x2 ⟨rfl, hb2⟩
                have hB2 : Below W1.heap.size W1 x2 := below_step hB1 (Nat.le_refl _) hb2
                refine hK.out _ _ (HSS.out _ hB2) (fun hHeld => ?_)
                clear hK K
                refine tk 12 (v := ?_) rfl rfl ?_ ?_
                rotate_left
                · intro w hSw; (try dsimp only at hSw); go_simp; try with_reducible rfl
                try simp only [Act.put, za, zb, zc]
                refine tk 13 (v := ?_) rfl rfl ?_ ?_
                rotate_left
                · intro w hSw; (try dsimp only at hSw); go_simp; try with_reducible rfl
                try simp only [Act.put, za, zb, zc]
                refine tk 14 (v := ?_) rfl rfl ?_ ?_
                rotate_left
                · intro w hSw; (try dsimp only at hSw); go_simp; try with_reducible rfl
                try simp only [Act.put, za, zb, zc]
                refine tk 15 (v := ?_) rfl rfl ?_ ?_
                rotate_left
                · intro w hSw; (try dsimp only at hSw); go_simp; try with_reducible rfl
                try simp only [Act.put, za, zb, zc]
                refine wpAnyH_ready (rs := [16]) (by kernel_rfl) (by simp) ?_
                refine AllReadyH.cons rfl (fun K hK => ?_) AllReadyH.nil
                go_simp
                refine (C3.out _ (HGl.out.below (below_step HBw.out (Nat.le_refl _) hB2))).mono ?_
                rintro e x3 ⟨rfl, hb3⟩
                have hB3 : Below W1.heap.size W1 x3 := below_step hB2 (Nat.le_refl _) hb3
                refine hK.out _ _ (HSS.out _ hB3) (fun hHeld => ?_)
                clear hK K
                refine tk 17 (v := ?_) rfl rfl ?_ ?_
                rotate_left
                · intro w hSw; (try dsimp only at hSw); go_simp; try with_reducible rfl
                try simp only [Act.put, za, zb, zc]
                refine tk 18 (v := ?_) rfl rfl ?_ ?_
                rotate_left
                · intro w hSw; (try dsimp only at hSw); go_simp; try with_reducible rfl
                try simp only [Act.put, za, zb, zc]
                refine tk 19 (v := ?_) rfl rfl ?_ ?_
                rotate_left
                · intro w hSw; (try dsimp only at hSw); go_simp; try with_reducible rfl
                try simp only [Act.put, za, zb, zc]
                refine tn 20 rfl rfl ?_
                try simp only [Act.put, za, zb, zc]
                refine tn 21 rfl rfl ?_
                try simp only [Act.put, za, zb, zc]
                refine tn 22 rfl rfl ?_
                try simp only [Act.put, za, zb, zc]
                refine tn 23 rfl rfl ?_
                try simp only [Act.put, za, zb, zc]
                refine tk 24 (v := ?_) rfl rfl ?_ ?_
                rotate_left
                · intro w hSw; (try dsimp only at hSw); go_simp; try with_reducible rfl
                try simp only [Act.put, za, zb, zc]
                refine wpAnyH_done (by kernel_rfl) (NoPanic.normal ?_) _
                obtain rfl : D = false := by
                  cases D with
                  | false => rfl
                  | true => exact absurd (HDk.out rfl) hno
                have HKe : Hid (KeptF (tfoot g f m none) w x3) := (HS1.out.on hB3).kept
                clear HS HSS C1 C2 C3 C4 hno HS1
                go_wp2_with fail
                go_ret
                first | exact ⟨rfl, HKe.out⟩ | exact ⟨rfl, HKe.out, fun h => (by cases h)⟩
          · rw [decide_eq_false h1] at C1'
            have C1 : Hid (∀ W, _) := C1'
            have C2 : Hid (∀ W, _) := C2'
            have C3 : Hid (∀ W, Glob8 W → _) := C3'
            have C4 : Hid (∀ W, _) := C4'
            have hno : ¬ FixH (b1, b2) ((m1, m2), (m3, m4), m5, m6) := fun hh => h1 hh.1
            clear C1' C2' C3' C4' HH hbn h1
            refine wp_region_noPanic ?_
            refine wp_region_held_drew (S := fun W => (W.cell? ⟨g, 1, none⟩ = some (.int .i64 b1) ∧ W.cell? ⟨g, 2, none⟩ = some (.int .i64 b2)) ∧ (W.cell? ⟨hp, 0, none⟩ = some (.int .i64 m1) ∧ W.cell? ⟨hp, 1, none⟩ = some (.int .i64 m2) ∧ W.cell? ⟨hp, 2, none⟩ = some (.int .i64 m3) ∧ W.cell? ⟨hp, 3, none⟩ = some (.int .i64 m4) ∧ W.cell? ⟨hp, 4, none⟩ = some (.string m5) ∧ W.cell? ⟨hp, 5, none⟩ = some (.string m6))) (by kernel_rfl) (by first | exact trivial | assumption | exact ⟨by assumption, by assumption⟩) (fun hHeld => ?_)
            refine tk 0 (v := ?_) rfl rfl ?_ ?_
            rotate_left
            · intro w hSw; (try dsimp only at hSw); go_simp; try with_reducible rfl
            try simp only [Act.put, za, zb, zc]
            refine tk 1 (v := ?_) rfl rfl ?_ ?_
            rotate_left
            · intro w hSw; (try dsimp only at hSw); go_simp; try with_reducible rfl
            try simp only [Act.put, za, zb, zc]
            refine wpAnyH_ready (rs := [2]) (by kernel_rfl) (by simp) ?_
            refine AllReadyH.cons rfl (fun K hK => ?_) AllReadyH.nil
            go_simp
            refine (C1.out _).mono ?_
            rintro e x1 ⟨rfl, hb1⟩
            have hB1 : Below W1.heap.size W1 x1 := below_step (Below.refl _ _).drew (Nat.le_refl _) hb1
            refine hK.out _ _ (HSS.out _ hB1) (fun hHeld => ?_)
            clear hK K
            refine tk 3 (v := ?_) rfl rfl ?_ ?_
            rotate_left
            · intro w hSw; (try dsimp only at hSw); go_simp; try with_reducible rfl
            try simp only [Act.put, za, zb, zc]
            refine tk 4 (v := ?_) rfl rfl ?_ ?_
            rotate_left
            · intro w hSw; (try dsimp only at hSw); go_simp; try with_reducible rfl
            try simp only [Act.put, za, zb, zc]
            refine tn 5 rfl rfl ?_
            try simp only [Act.put, za, zb, zc]
            refine tn 6 rfl rfl ?_
            try simp only [Act.put, za, zb, zc]
            refine tn 7 rfl rfl ?_
            try simp only [Act.put, za, zb, zc]
            refine tn 8 rfl rfl ?_
            try simp only [Act.put, za, zb, zc]
            refine tn 9 rfl rfl ?_
            try simp only [Act.put, za, zb, zc]
            refine tn 10 rfl rfl ?_
            try simp only [Act.put, za, zb, zc]
            refine tn 11 rfl rfl ?_
            try simp only [Act.put, za, zb, zc]
            refine tk 12 (v := ?_) rfl rfl ?_ ?_
            rotate_left
            · intro w hSw; (try dsimp only at hSw); go_simp; try with_reducible rfl
            try simp only [Act.put, za, zb, zc]
            refine tk 13 (v := ?_) rfl rfl ?_ ?_
            rotate_left
            · intro w hSw; (try dsimp only at hSw); go_simp; try with_reducible rfl
            try simp only [Act.put, za, zb, zc]
            refine tn 14 rfl rfl ?_
            try simp only [Act.put, za, zb, zc]
            refine tn 15 rfl rfl ?_
            try simp only [Act.put, za, zb, zc]
            refine tn 16 rfl rfl ?_
            try simp only [Act.put, za, zb, zc]
            refine tn 17 rfl rfl ?_
            try simp only [Act.put, za, zb, zc]
            refine tk 18 (v := ?_) rfl rfl ?_ ?_
            rotate_left
            · intro w hSw; (try dsimp only at hSw); go_simp; try with_reducible rfl
            try simp only [Act.put, za, zb, zc]
            refine tk 19 (v := ?_) rfl rfl ?_ ?_
            rotate_left
            · intro w hSw; (try dsimp only at hSw); go_simp; try with_reducible rfl
            try simp only [Act.put, za, zb, zc]
            refine tn 20 rfl rfl ?_
            try simp only [Act.put, za, zb, zc]
            refine tn 21 rfl rfl ?_
            try simp only [Act.put, za, zb, zc]
            refine tn 22 rfl rfl ?_
            try simp only [Act.put, za, zb, zc]
            refine tn 23 rfl rfl ?_
            try simp only [Act.put, za, zb, zc]
            refine tk 24 (v := ?_) rfl rfl ?_ ?_
            rotate_left
            · intro w hSw; (try dsimp only at hSw); go_simp; try with_reducible rfl
            try simp only [Act.put, za, zb, zc]
            refine wpAnyH_done (by kernel_rfl) (NoPanic.normal ?_) _
            obtain rfl : D = false := by
              cases D with
              | false => rfl
              | true => exact absurd (HDk.out rfl) hno
            have HKe : Hid (KeptF (tfoot g f m none) w x1) := (HS1.out.on hB1).kept
            clear HS HSS C1 C2 C3 C4 hno HS1
            go_wp2_with fail
            go_ret
            first | exact ⟨rfl, HKe.out⟩ | exact ⟨rfl, HKe.out, fun h => (by cases h)⟩
        · obtain rfl : k = n := by omega
          have b0 : ¬ ((k : Int) < (k : Int)) := by omega
          have HSe : Hid (FxS w wr g f m b1 b2 l) := by show FxS _ _ _ _ _ _ _ _; rw [← List.take_of_length_le (show l.length ≤ k by rw [HN.out]; omega)]; exact HS.out
          have HLa : Hid (∀ j, j < k → FixH (b1, b2) (nL l j)) := HL
          obtain ⟨n, hnk⟩ : ∃ n, n = k := ⟨_, rfl⟩
          rw [← hnk] at hn h512 g0 g0' HI HN HFar HZ HD HLa ⊢
          clear HS HL b0 hlt hk hnk
          go_wp2_with fail
          go_loopw [58] (fun i wr => ∃ k : Nat, k ≤ n ∧ i = .int .i64 k ∧ Hid (∀ j, j < k → holdB l (nL l j).2.1 = true ∧ withinF l (nL l j).1 l.length (nL l j).2.1 = false) ∧ Hid (FxS w wr g f m b1 b2 l)) (fun i _ => n - (intOf i).toNat)
          case atStart => exact ⟨0, by omega, rfl, fun j hj => absurd hj (Nat.not_lt_zero _), HSe⟩
          case round =>
            clear HSe
            obtain ⟨k, hk, rfl, HL, HS⟩ := hrel
            by_cases hlt : k < n
            · have b0 : (k : Int) < (n : Int) := by omega
              obtain ⟨b, off, rfl, _⟩ := HI.out.2.some (by omega)
              have hrk := rows_kept HI.out.2 HFar.out HS.out.kept
              obtain ⟨x0, x1', x2', x3', x4', x5'⟩ := NodesAt.cells (l := l) ⟨HI.out.1, hrk⟩ k hlt
              have CH' : ∀ W, MapN W f l → _ := fun W hW => hold_any l f (nL l k).2.1 W hW
              have CWi' : ∀ W, MapN W f l → _ := fun W hW => within_any l f (nL l k).2.1 (nL l k).1 W hW (by rw [HN.out]; omega)
              have HCk : Hid (D = true → holdB l (nL l k).2.1 = true ∧ withinF l (nL l k).1 l.length (nL l k).2.1 = false) := fun h => (HD.out.1 h).2.2.2 (nL l k) (nL_mem l k (by rw [HN.out]; exact hlt))
              have HOk : Hid (∀ (hh : holdB l (nL l k).2.1 = true ∧ withinF l (nL l k).1 l.length (nL l k).2.1 = false), ∀ j, j < k + 1 → holdB l (nL l j).2.1 = true ∧ withinF l (nL l j).1 l.length (nL l j).2.1 = false) := fun hh j hj => by
                by_cases e : j = k
                · rw [e]; exact hh
                · exact HL.out j (by omega)
              obtain ⟨hb', hhb⟩ : ∃ hb', holdB l (nL l k).2.1 = hb' := ⟨_, rfl⟩
              obtain ⟨wi, hwi⟩ : ∃ wi, withinF l (nL l k).1 l.length (nL l k).2.1 = wi := ⟨_, rfl⟩
              rw [hhb, hwi] at HCk HOk
              simp only [hhb] at CH'
              simp only [hwi] at CWi'
              obtain ⟨⟨⟨m1, m2⟩, ⟨m3, m4⟩, m5, m6⟩, hnd⟩ : ∃ nd, nd = nL l k := ⟨_, rfl⟩
              rw [← hnd] at x0 x1' x2' x3' x4' x5'
              simp only [← hnd, stampV] at CH' CWi'
              have CH : Hid (∀ W, MapN W f l → _) := CH'
              have CWi : Hid (∀ W, MapN W f l → _) := CWi'
              clear hrk CH' CWi'
              go_wp2_with fail
              obtain ⟨W1, hW1⟩ : ∃ W1, wr.alloc (.cells #[.int .i64 m1, .int .i64 m2, .int .i64 m3, .int .i64 m4, .string m5, .string m6] 47) = W1 := ⟨_, rfl⟩
              obtain ⟨hp, hhp⟩ : ∃ hp, wr.heap.size = hp := ⟨_, rfl⟩
              have HKn : Hid (Blk W1 47 hp #[.int .i64 m1, .int .i64 m2, .int .i64 m3, .int .i64 m4, .string m5, .string m6]) := by show Blk _ _ _ _; rw [← hW1, ← hhp]; exact Blk.new _ _ _
              have HS1 : Hid (FxS w W1 g f m b1 b2 l) := by show FxS _ _ _ _ _ _ _ _; rw [← hW1]; exact HS.out.on (below_new _ _)
              have HSS : Hid (∀ W, Below W1.heap.size W1 W → (W.cell? ⟨g, 3, none⟩ = some (.map (some f))) ∧ (W.cell? ⟨hp, 0, none⟩ = some (.int .i64 m1) ∧ W.cell? ⟨hp, 1, none⟩ = some (.int .i64 m2) ∧ W.cell? ⟨hp, 2, none⟩ = some (.int .i64 m3) ∧ W.cell? ⟨hp, 3, none⟩ = some (.int .i64 m4) ∧ W.cell? ⟨hp, 4, none⟩ = some (.string m5) ∧ W.cell? ⟨hp, 5, none⟩ = some (.string m6))) := fun W hW => by
                have o := HS1.out.obj.on hW
                have n := HKn.out.on hW
                exact ⟨o.cell 3, n.cell 0, n.cell 1, n.cell 2, n.cell 3, n.cell 4, n.cell 5⟩
              have hS0 := HSS.out W1 (Below.refl _ _)
              rw [hW1, hhp]
              clear hW1 hhp x0 x1' x2' x3' x4' x5' hnd hhb hwi
              cases hb' with
              | false =>
                obtain rfl : D = false := by
                  cases D with
                  | false => rfl
                  | true => exact absurd (HCk.out rfl).1 (by decide)
                refine wp_region_noPanic ?_
                refine wp_region_held_drew (S := fun W => (W.cell? ⟨g, 3, none⟩ = some (.map (some f))) ∧ (W.cell? ⟨hp, 0, none⟩ = some (.int .i64 m1) ∧ W.cell? ⟨hp, 1, none⟩ = some (.int .i64 m2) ∧ W.cell? ⟨hp, 2, none⟩ = some (.int .i64 m3) ∧ W.cell? ⟨hp, 3, none⟩ = some (.int .i64 m4) ∧ W.cell? ⟨hp, 4, none⟩ = some (.string m5) ∧ W.cell? ⟨hp, 5, none⟩ = some (.string m6))) (by kernel_rfl) (by first | exact trivial | assumption | exact ⟨by assumption, by assumption⟩) (fun hHeld => ?_)
                refine tk 0 (v := ?_) rfl rfl ?_ ?_
                rotate_left
                · intro w hSw; (try dsimp only at hSw); go_simp; try with_reducible rfl
                try simp only [Act.put, za, zb, zc]
                refine tk 1 (v := ?_) rfl rfl ?_ ?_
                rotate_left
                · intro w hSw; (try dsimp only at hSw); go_simp; try with_reducible rfl
                try simp only [Act.put, za, zb, zc]
                refine tk 2 (v := ?_) rfl rfl ?_ ?_
                rotate_left
                · intro w hSw; (try dsimp only at hSw); go_simp; try with_reducible rfl
                try simp only [Act.put, za, zb, zc]
                refine tk 3 (v := ?_) rfl rfl ?_ ?_
                rotate_left
                · intro w hSw; (try dsimp only at hSw); go_simp; try with_reducible rfl
                try simp only [Act.put, za, zb, zc]
                refine tk 4 (v := ?_) rfl rfl ?_ ?_
                rotate_left
                · intro w hSw; (try dsimp only at hSw); go_simp; try with_reducible rfl
                try simp only [Act.put, za, zb, zc]
                refine tk 5 (v := ?_) rfl rfl ?_ ?_
                rotate_left
                · intro w hSw; (try dsimp only at hSw); go_simp; try with_reducible rfl
                try simp only [Act.put, za, zb, zc]
                refine wpAnyH_ready (rs := [6]) (by kernel_rfl) (by simp) ?_
                refine AllReadyH.cons rfl (fun K hK => ?_) AllReadyH.nil
                go_simp
                refine (CH.out _ (HS1.out.on (Below.refl _ _).drew).fx).mono ?_
                rintro e x1 ⟨rfl, hb1⟩
                have hB1 : Below W1.heap.size W1 x1 := below_step (Below.refl _ _).drew (Nat.le_refl _) hb1
                refine hK.out _ _ (HSS.out _ hB1) (fun hHeld => ?_)
                clear hK K
                refine tk 7 (v := ?_) rfl rfl ?_ ?_
                rotate_left
                · intro w hSw; (try dsimp only at hSw); go_simp; try with_reducible rfl
                try simp only [Act.put, za, zb, zc]
                refine tk 8 (v := ?_) rfl rfl ?_ ?_
                rotate_left
                · intro w hSw; (try dsimp only at hSw); go_simp; try with_reducible rfl
                try simp only [Act.put, za, zb, zc]
                refine tn 9 rfl rfl ?_
                try simp only [Act.put, za, zb, zc]
                refine tn 10 rfl rfl ?_
                try simp only [Act.put, za, zb, zc]
                refine tn 11 rfl rfl ?_
                try simp only [Act.put, za, zb, zc]
                refine tn 12 rfl rfl ?_
                try simp only [Act.put, za, zb, zc]
                refine tn 13 rfl rfl ?_
                try simp only [Act.put, za, zb, zc]
                refine tn 14 rfl rfl ?_
                try simp only [Act.put, za, zb, zc]
                refine tn 15 rfl rfl ?_
                try simp only [Act.put, za, zb, zc]
                refine tn 16 rfl rfl ?_
                try simp only [Act.put, za, zb, zc]
                refine tn 17 rfl rfl ?_
                try simp only [Act.put, za, zb, zc]
                refine tk 18 (v := ?_) rfl rfl ?_ ?_
                rotate_left
                · intro w hSw; (try dsimp only at hSw); go_simp; try with_reducible rfl
                try simp only [Act.put, za, zb, zc]
                refine wpAnyH_done (by kernel_rfl) (NoPanic.normal ?_) _
                have HKe : Hid (KeptF (tfoot g f m none) w x1) := (HS1.out.on hB1).kept
                clear HS HSS CH CWi HS1
                go_wp2_with fail
                go_ret
                first | exact ⟨rfl, HKe.out⟩ | exact ⟨rfl, HKe.out, fun h => (by cases h)⟩
              | true =>
                refine wp_region_noPanic ?_
                refine wp_region_held_drew (S := fun W => (W.cell? ⟨g, 3, none⟩ = some (.map (some f))) ∧ (W.cell? ⟨hp, 0, none⟩ = some (.int .i64 m1) ∧ W.cell? ⟨hp, 1, none⟩ = some (.int .i64 m2) ∧ W.cell? ⟨hp, 2, none⟩ = some (.int .i64 m3) ∧ W.cell? ⟨hp, 3, none⟩ = some (.int .i64 m4) ∧ W.cell? ⟨hp, 4, none⟩ = some (.string m5) ∧ W.cell? ⟨hp, 5, none⟩ = some (.string m6))) (by kernel_rfl) (by first | exact trivial | assumption | exact ⟨by assumption, by assumption⟩) (fun hHeld => ?_)
                refine tk 0 (v := ?_) rfl rfl ?_ ?_
                rotate_left
                · intro w hSw; (try dsimp only at hSw); go_simp; try with_reducible rfl
                try simp only [Act.put, za, zb, zc]
                refine tk 1 (v := ?_) rfl rfl ?_ ?_
                rotate_left
                · intro w hSw; (try dsimp only at hSw); go_simp; try with_reducible rfl
                try simp only [Act.put, za, zb, zc]
                refine tk 2 (v := ?_) rfl rfl ?_ ?_
                rotate_left
                · intro w hSw; (try dsimp only at hSw); go_simp; try with_reducible rfl
                try simp only [Act.put, za, zb, zc]
                refine tk 3 (v := ?_) rfl rfl ?_ ?_
                rotate_left
                · intro w hSw; (try dsimp only at hSw); go_simp; try with_reducible rfl
                try simp only [Act.put, za, zb, zc]
                refine tk 4 (v := ?_) rfl rfl ?_ ?_
                rotate_left
                · intro w hSw; (try dsimp only at hSw); go_simp; try with_reducible rfl
                try simp only [Act.put, za, zb, zc]
                refine tk 5 (v := ?_) rfl rfl ?_ ?_
                rotate_left
                · intro w hSw; (try dsimp only at hSw); go_simp; try with_reducible rfl
                try simp only [Act.put, za, zb, zc]
                refine wpAnyH_ready (rs := [6]) (by kernel_rfl) (by simp) ?_
                refine AllReadyH.cons rfl (fun K hK => ?_) AllReadyH.nil
                go_simp
                refine (CH.out _ (HS1.out.on (Below.refl _ _).drew).fx).mono ?_
                rintro e x1 ⟨rfl, hb1⟩
                have hB1 : Below W1.heap.size W1 x1 := below_step (Below.refl _ _).drew (Nat.le_refl _) hb1
                refine hK.out _ _ (HSS.out _ hB1) (fun hHeld => ?_)
                clear hK K
                refine tk 7 (v := ?_) rfl rfl ?_ ?_
                rotate_left
                · intro w hSw; (try dsimp only at hSw); go_simp; try with_reducible rfl
                try simp only [Act.put, za, zb, zc]
                refine tk 8 (v := ?_) rfl rfl ?_ ?_
                rotate_left
                · intro w hSw; (try dsimp only at hSw); go_simp; try with_reducible rfl
                try simp only [Act.put, za, zb, zc]
                refine tk 9 (v := ?_) rfl rfl ?_ ?_
                rotate_left
                · intro w hSw; (try dsimp only at hSw); go_simp; try with_reducible rfl
                try simp only [Act.put, za, zb, zc]
                refine tk 10 (v := ?_) rfl rfl ?_ ?_
                rotate_left
                · intro w hSw; (try dsimp only at hSw); go_simp; try with_reducible rfl
                try simp only [Act.put, za, zb, zc]
                refine tk 11 (v := ?_) rfl rfl ?_ ?_
                rotate_left
                · intro w hSw; (try dsimp only at hSw); go_simp; try with_reducible rfl
                try simp only [Act.put, za, zb, zc]
                refine tk 12 (v := ?_) rfl rfl ?_ ?_
                rotate_left
                · intro w hSw; (try dsimp only at hSw); go_simp; try with_reducible rfl
                try simp only [Act.put, za, zb, zc]
                refine tk 13 (v := ?_) rfl rfl ?_ ?_
                rotate_left
                · intro w hSw; (try dsimp only at hSw); go_simp; try with_reducible rfl
                try simp only [Act.put, za, zb, zc]
                refine tk 14 (v := ?_) rfl rfl ?_ ?_
                rotate_left
                · intro w hSw; (try dsimp only at hSw); go_simp; try with_reducible rfl
                try simp only [Act.put, za, zb, zc]
                refine tk 15 (v := ?_) rfl rfl ?_ ?_
                rotate_left
                · intro w hSw; (try dsimp only at hSw); go_simp; try with_reducible rfl
                try simp only [Act.put, za, zb, zc]
                refine tk 16 (v := ?_) rfl rfl ?_ ?_
                rotate_left
                · intro w hSw; (try dsimp only at hSw); go_simp; try with_reducible rfl
                try simp only [Act.put, za, zb, zc]
                refine wpAnyH_ready (rs := [17]) (by kernel_rfl) (by simp) ?_
                refine AllReadyH.cons rfl (fun K hK => ?_) AllReadyH.nil
                go_simp
                refine (CWi.out _ (HS1.out.on hB1).fx).mono ?_
                rintro e x2 ⟨rfl, hb2⟩
                have hB2 : Below W1.heap.size W1 x2 := below_step hB1 (Nat.le_refl _) hb2
                refine hK.out _ _ (HSS.out _ hB2) (fun hHeld => ?_)
                clear hK K
                refine tk 18 (v := ?_) rfl rfl ?_ ?_
                rotate_left
                · intro w hSw; (try dsimp only at hSw); go_simp; try with_reducible rfl
                try simp only [Act.put, za, zb, zc]
                refine wpAnyH_done (by kernel_rfl) (NoPanic.normal ?_) _
                cases wi with
                | true =>
                  obtain rfl : D = false := by
                    cases D with
                    | false => rfl
                    | true => exact absurd (HCk.out rfl).2 (by decide)
                  have HKe : Hid (KeptF (tfoot g f m none) w x2) := (HS1.out.on hB2).kept
                  clear HS HSS CH CWi HS1
                  go_wp2_with fail
                  go_ret
                  first | exact ⟨rfl, HKe.out⟩ | exact ⟨rfl, HKe.out, fun h => (by cases h)⟩
                | false =>
                  have HL' : Hid (∀ j, j < k + 1 → holdB l (nL l j).2.1 = true ∧ withinF l (nL l j).1 l.length (nL l j).2.1 = false) := HOk.out ⟨by first | rfl | trivial, by first | rfl | trivial⟩
                  have HS2 : Hid (FxS w x2 g f m b1 b2 l) := HS1.out.on hB2
                  clear HS HSS CH CWi HS1 HOk HCk
                  go_wp2_with fail
                  refine ⟨?_, ?_⟩
                  · first
                    | exact ⟨k + 1, by omega, by go_num, HL', HS2⟩
                    | ((repeat apply Exists.intro); refine ⟨?_, rfl⟩; exact ⟨k + 1, by omega, by go_num, HL', HS2⟩)
                  · simp [intOf] <;> omega
            · obtain rfl : k = n := by omega
              have b0 : ¬ ((k : Int) < (k : Int)) := by omega
              obtain rfl : D = true := HD.out.2 ⟨by rw [HN.out]; exact h512, HR.out, HLa.out, fun x hx => by
                obtain ⟨i, hi, rfl⟩ := List.getElem_of_mem hx
                have e : nL l i = l[i] := by unfold nL; rw [List.getD_eq_getElem?_getD, List.getElem?_eq_getElem hi]; rfl
                rw [← e]
                exact HL.out i (by rw [← HN.out]; exact hi)⟩
              go_wp2_with fail
              go_ret
              first | exact ⟨rfl, HS.out.kept, HS.out⟩ | exact ⟨rfl, HS.out.kept, fun _ => HS.out⟩
    · have CR : Hid (Calls _ _ _ _ _) := CR0.out hr w (Below.refl _ _)
      obtain rfl : D = false := by
        cases D with
        | false => rfl
        | true => exact absurd (HD.out.1 rfl).2.1 hr
      clear CR1 CR0 hr
      go_enter Tryz.func55, Tryz.ntmps55
      go_wp2_with fail
      refine CR.out.mono ?_
      rintro e w1 ⟨rfl, hb1⟩
      have HKe : Hid (KeptF (tfoot g f m none) w w1) := KeptF.ofBelow _ hb1
      clear CR hb1 HS0
      go_wp2_with fail
      go_ret
      first | exact ⟨rfl, HKe.out⟩ | exact ⟨rfl, HKe.out, fun h => (by cases h)⟩
  · have g0 : (512 : Int) < (n : Int) := by omega
    obtain rfl : D = false := by
      cases D with
      | false => rfl
      | true => exact absurd (HD.out.1 rfl).1 (by rw [HN.out]; exact h512)
    clear CR1 CR0
    go_enter Tryz.func55, Tryz.ntmps55
    go_wp2_with fail
    go_ret
    exact ⟨rfl, KeptF.refl _ _, fun h => by cases h⟩
end Go.Proofs.YtogbkfakihnbdaaGreatDoor
