/- Layer 20, the document's: Check, Same. -/
import Derived.Test.YtkmdajenbidaaaaDoorRGpB
import Derived.Test.YtkmdajenbidaaaaDoorBA
import Derived.BigQuiet
namespace Go.Proofs.YtkmdajenbidaaaaDoor
open Go.RowKit
set_option maxRecDepth 100000
set_option linter.unusedSimpArgs false
set_option linter.unusedVariables false
set_option maxRecDepth 100000

set_option maxHeartbeats 1000000 in
theorem memEq (x y : MemT) (w : World) : (Op.equalIn 10000 42 (.agg (memA x)) (.agg (memA y))).run Tryd.prog w = .ok (decide (x = y)) w := by
  obtain ⟨a, b, s⟩ := x
  obtain ⟨a', b', s'⟩ := y
  have u3 := Tryd.underlying3
  have a3 := Tryd.isAgg3
  have z3 := Tryd.sizeOf3
  have u9 := Tryd.underlying4
  have a9 := Tryd.isAgg4
  have z9 := Tryd.sizeOf4
  unfold memA
  rw [show (10000 : Nat) = 9999 + 1 from rfl, Op.equalIn]
  simp only [Sem.run_bind, run_underlying Tryd.underlying42, Result.andThen_ok]
  go_simp
  simp only [ite_ok, Bool.and_true, Bool.and_assoc]
theorem memEq_is (x y : MemT) (D : Bool) (h : decide (x = y) = D) (w : World) : (Op.equalIn 10000 42 (.agg (memA x)) (.agg (memA y))).run Tryd.prog w = .ok D w := by
  rw [memEq, ← h]
theorem same_list20 {α : Type} (d : α) (l m : List α) (h : l.length = m.length) (k : ∀ i, i < l.length → l.getD i d = m.getD i d) : l = m := by
  apply List.ext_getElem h
  intro i h1 h2
  have := k i h1
  rw [List.getD_eq_getElem?_getD, List.getD_eq_getElem?_getD, List.getElem?_eq_getElem h1, List.getElem?_eq_getElem h2] at this
  exact this

/-- Both groups as the call has them. -/
structure GpS (w W : World) (A B : Array Value) : Prop where
  a : Blk W 26 w.heap.size A
  b : Blk W 26 (w.heap.size + 1) B
  w : Below w.heap.size w W
theorem GpS.on {w W W' : World} {A B : Array Value} (h : GpS w W A B) (hb : Below W.heap.size W W') : GpS w W' A B := ⟨h.a.on hb, h.b.on hb, below_step h.w (Nat.le_refl _) hb⟩
theorem GpS.new (w : World) (A B : Array Value) : GpS w ((w.alloc (.cells A 26)).alloc (.cells B 26)) A B := ⟨(Blk.new w _ _).alloc _, Blk.new' _ _ _ _ (by simp), (below_new w _).alloc (by simp) _⟩

set_option maxHeartbeats 1000000 in
theorem rsame20_no0 (E O E' O' : Int) (n n' : Nat) (a a' : Option Addr) (c c' : Nat) (w : World) (h : ¬ E = E') :
    Calls Tryd.prog 14 #[.agg #[.int .i64 E, .slice a n c, .int .i64 O], .agg #[.int .i64 E', .slice a' n' c', .int .i64 O']] w fun e w' => e = .returned (.bool false) ∧ Below w.heap.size w w' := by
  have q : (E != E') = true := by rw [bne_iff_ne]; exact h
  have HB : Hid (Below w.heap.size w ((w.alloc (.cells #[.int .i64 E, .slice a n c, .int .i64 O] 26)).alloc (.cells #[.int .i64 E', .slice a' n' c', .int .i64 O'] 26))) := (GpS.new w _ _).w
  clear h
  go_enter Tryd.func14, Tryd.ntmps14
  go_wp2_with fail
  go_ret
  exact ⟨rfl, HB.out⟩

set_option maxHeartbeats 1000000 in
theorem rsame20_no1 (E O O' : Int) (n n' : Nat) (a a' : Option Addr) (c c' : Nat) (w : World) (h : ¬ O = O') :
    Calls Tryd.prog 14 #[.agg #[.int .i64 E, .slice a n c, .int .i64 O], .agg #[.int .i64 E, .slice a' n' c', .int .i64 O']] w fun e w' => e = .returned (.bool false) ∧ Below w.heap.size w w' := by
  have q : (O != O') = true := by rw [bne_iff_ne]; exact h
  have q0 : (E != E) = false := by simp
  have HB : Hid (Below w.heap.size w ((w.alloc (.cells #[.int .i64 E, .slice a n c, .int .i64 O] 26)).alloc (.cells #[.int .i64 E, .slice a' n' c', .int .i64 O'] 26))) := (GpS.new w _ _).w
  clear h
  go_enter Tryd.func14, Tryd.ntmps14
  go_wp2_with fail
  go_ret
  exact ⟨rfl, HB.out⟩

set_option maxHeartbeats 1000000 in
theorem rsame20_no2 (E O : Int) (n n' : Nat) (a a' : Option Addr) (c c' : Nat) (w : World) (h : ¬ n = n') :
    Calls Tryd.prog 14 #[.agg #[.int .i64 E, .slice a n c, .int .i64 O], .agg #[.int .i64 E, .slice a' n' c', .int .i64 O]] w fun e w' => e = .returned (.bool false) ∧ Below w.heap.size w w' := by
  have q : ((n : Int) != (n' : Int)) = true := by rw [bne_iff_ne]; omega
  have q0 : (E != E) = false := by simp
  have q1 : (O != O) = false := by simp
  have HB : Hid (Below w.heap.size w ((w.alloc (.cells #[.int .i64 E, .slice a n c, .int .i64 O] 26)).alloc (.cells #[.int .i64 E, .slice a' n' c', .int .i64 O] 26))) := (GpS.new w _ _).w
  clear h
  go_enter Tryd.func14, Tryd.ntmps14
  go_wp2_with fail
  go_ret
  exact ⟨rfl, HB.out⟩

set_option maxHeartbeats 2000000 in
theorem rsame20_yes (E O : Int) (l m : List MemT) (D : Bool) (hD : D = true ↔ l = m) (n : Nat) (a a' : Option Addr) (c c' : Nat) (w : World) (hn : n ≤ 1048576) (hI : MmsAt w a n l) (hI' : MmsAt w a' n m) :
    Calls Tryd.prog 14 #[.agg #[.int .i64 E, .slice a n c, .int .i64 O], .agg #[.int .i64 E, .slice a' n c', .int .i64 O]] w fun e w' => e = .returned (.bool D) ∧ Below w.heap.size w w' := by
  have HI : Hid (MmsAt w a n l) := hI
  have HI' : Hid (MmsAt w a' n m) := hI'
  have HD : Hid (D = true ↔ l = m) := hD
  have HS0 : Hid (GpS w ((w.alloc (.cells #[.int .i64 E, .slice a n c, .int .i64 O] 26)).alloc (.cells #[.int .i64 E, .slice a' n c', .int .i64 O] 26)) #[.int .i64 E, .slice a n c, .int .i64 O] #[.int .i64 E, .slice a' n c', .int .i64 O]) := GpS.new w _ _
  clear hI hI' hD
  go_enter Tryd.func14, Tryd.ntmps14
  go_wp2_with fail
  go_loopw [5] (fun i wr => ∃ k : Nat, k ≤ n ∧ i = .int .i64 k ∧ Hid (∀ j, j < k → mmL l j = mmL m j) ∧ Hid (GpS w wr #[.int .i64 E, .slice a n c, .int .i64 O] #[.int .i64 E, .slice a' n c', .int .i64 O])) (fun i _ => n - (intOf i).toNat)
  case atStart => exact ⟨0, Nat.zero_le _, rfl, fun j hj => absurd hj (Nat.not_lt_zero _), HS0⟩
  case round =>
    clear HS0
    obtain ⟨k, hk, rfl, HN, HS⟩ := hrel
    have f6 : wr.cell? ⟨w.heap.size, 1, none⟩ = some (.slice a n c) := HS.out.a.cell 1
    have g6 : wr.cell? ⟨w.heap.size + 1, 1, none⟩ = some (.slice a' n c') := HS.out.b.cell 1
    by_cases hlt : k < n
    · have HIr := HI.out.below HS.out.w
      have HIr' := HI'.out.below HS.out.w
      obtain ⟨b, off, rfl, x⟩ := HIr.2.resolve_left (by omega)
      obtain ⟨b', off', rfl, y⟩ := HIr'.2.resolve_left (by omega)
      obtain ⟨x0, x1, x2⟩ := x k hlt
      obtain ⟨y0, y1, y2⟩ := y k hlt
      have b0 : (k : Int) < (n : Int) := by omega
      clear HIr HIr' x y
      by_cases he : mmL l k = mmL m k
      · have hE := fun w => memEq_is (mmL l k) (mmL m k) true (decide_eq_true he) w
        have HN' : Hid (∀ j, j < k + 1 → mmL l j = mmL m j) := by
          show ∀ j, _
          intro j hj
          by_cases e : j = k
          · subst e; exact he
          · exact HN.out j (by omega)
        clear HN he
        obtain ⟨⟨p1, p2, p3⟩, hp⟩ : ∃ s, s = mmL l k := ⟨_, rfl⟩
        obtain ⟨⟨q1, q2, q3⟩, hq⟩ : ∃ s, s = mmL m k := ⟨_, rfl⟩
        rw [← hp] at x0 x1 x2 hE
        rw [← hq] at y0 y1 y2 hE
        simp only [memA] at hE
        clear hp hq
        go_wp2_with fail
        go_quiet (fail)
        go_wp2_with fail
        refine ⟨⟨k + 1, by omega, by go_num, HN', HS.out.on (below_drewN (Below.refl _ _) _)⟩, ?_⟩
        simp [intOf]; omega
      · have hE := fun w => memEq_is (mmL l k) (mmL m k) false (decide_eq_false he) w
        obtain rfl : D = false := by
          cases D with
          | false => rfl
          | true => exact absurd (congrArg (fun z => mmL z k) (HD.out.1 rfl)) he
        clear HN he HD
        obtain ⟨⟨p1, p2, p3⟩, hp⟩ : ∃ s, s = mmL l k := ⟨_, rfl⟩
        obtain ⟨⟨q1, q2, q3⟩, hq⟩ : ∃ s, s = mmL m k := ⟨_, rfl⟩
        rw [← hp] at x0 x1 x2 hE
        rw [← hq] at y0 y1 y2 hE
        simp only [memA] at hE
        clear hp hq
        go_wp2_with fail
        go_quiet (fail)
        go_wp2_with fail
        go_ret
        exact ⟨rfl, below_drewN HS.out.w _⟩
    · have b0 : ¬ ((k : Int) < (n : Int)) := by omega
      obtain rfl : D = true := HD.out.2 (same_list20 _ l m (by rw [HI.out.1, HI'.out.1]) (fun i hi => HN.out i (by rw [HI.out.1] at hi; omega)))
      go_wp2_with fail
      go_ret
      exact ⟨rfl, HS.out.w⟩

theorem rsame20_any (F F' : GrpT) (D : Bool) (hD : D = true ↔ F = F') (a a' : Option Addr) (c c' : Nat) (w : World) (hn : F.2.1.length ≤ 1048576) (hI : MmsAt w a F.2.1.length F.2.1) (hI' : MmsAt w a' F'.2.1.length F'.2.1) :
    Calls Tryd.prog 14 #[.agg (grpA F a c), .agg (grpA F' a' c')] w fun e w' => e = .returned (.bool D) ∧ Below w.heap.size w w' := by
  obtain ⟨E, l, O⟩ := F
  obtain ⟨E', l', O'⟩ := F'
  simp only [grpA] at hn hI hI' hD ⊢
  have no : ∀ {p : Prop}, ¬ p → ((E, l, O) = (E', l', O') → p) → D = false := fun h1 h2 => Bool.eq_false_iff.2 (fun e => h1 (h2 (hD.1 e)))
  by_cases h0 : E = E'
  · subst h0
    by_cases h1 : O = O'
    · subst h1
      by_cases h2 : l.length = l'.length
      · rw [← h2] at hI' ⊢
        exact rsame20_yes E O l l' D (hD.trans ⟨fun e => by simpa using e, fun e => by rw [e]⟩) l.length a a' c c' w hn hI hI'
      · rw [no h2 (fun e => by have : l = l' := by simpa using e
                               rw [this])]
        exact rsame20_no2 E O l.length l'.length a a' c c' w h2
    · rw [no h1 (fun e => by simp at e; exact e.2)]
      exact rsame20_no1 E O O' l.length l'.length a a' c c' w h1
  · rw [no h0 (fun e => by simp at e; exact e.1)]
    exact rsame20_no0 E O E' O' l.length l'.length a a' c c' w h0

end Go.Proofs.YtkmdajenbidaaaaDoor
