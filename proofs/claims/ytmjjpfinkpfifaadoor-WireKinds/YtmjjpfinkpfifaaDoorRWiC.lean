/- Layer 19, the document's: Same of frames. -/
import Derived.Test.YtmjjpfinkpfifaaDoorRWiB
import Derived.Test.YtmjjpfinkpfifaaDoorBA
import Derived.BigQuiet
namespace Go.Proofs.YtmjjpfinkpfifaaDoor
open Go.RowKit
set_option maxRecDepth 100000
set_option linter.unusedSimpArgs false
set_option linter.unusedVariables false
set_option maxRecDepth 100000

def itemA (x : Int × Int × ByteArray) : Array Value := #[.int .i64 x.1, .int .i64 x.2.1, .string x.2.2]
set_option maxHeartbeats 1000000 in
theorem itemEq (x y : Int × Int × ByteArray) (w : World) : (Op.equalIn 10000 52 (.agg (itemA x)) (.agg (itemA y))).run Tryd.prog w = .ok (decide (x = y)) w := by
  obtain ⟨a, b, s⟩ := x
  obtain ⟨a', b', s'⟩ := y
  have u3 := Tryd.underlying3
  have a3 := Tryd.isAgg3
  have z3 := Tryd.sizeOf3
  have u9 := Tryd.underlying9
  have a9 := Tryd.isAgg9
  have z9 := Tryd.sizeOf9
  unfold itemA
  rw [show (10000 : Nat) = 9999 + 1 from rfl, Op.equalIn]
  simp only [Sem.run_bind, run_underlying Tryd.underlying52, Result.andThen_ok]
  go_simp
  simp only [txt_iff, ite_ok, Bool.and_true, Bool.and_assoc]
theorem itemEq_is (x y : Int × Int × ByteArray) (D : Bool) (h : decide (x = y) = D) (w : World) : (Op.equalIn 10000 52 (.agg (itemA x)) (.agg (itemA y))).run Tryd.prog w = .ok D w := by
  rw [itemEq, ← h]
theorem same_list19 {α : Type} (d : α) (l m : List α) (h : l.length = m.length) (k : ∀ i, i < l.length → l.getD i d = m.getD i d) : l = m := by
  apply List.ext_getElem h
  intro i h1 h2
  have := k i h1
  rw [List.getD_eq_getElem?_getD, List.getD_eq_getElem?_getD, List.getElem?_eq_getElem h1, List.getElem?_eq_getElem h2] at this
  exact this
theorem beq_texts19 (a b : ByteArray) : (a.toList == b.toList) = decide (a = b) := beq_texts a b

/-- Both frames as the call has them. -/
structure SmS (w W : World) (A B : Array Value) : Prop where
  a : Blk W 41 w.heap.size A
  b : Blk W 41 (w.heap.size + 1) B
  w : Below w.heap.size w W
theorem SmS.on {w W W' : World} {A B : Array Value} (h : SmS w W A B) (hb : Below W.heap.size W W') : SmS w W' A B := ⟨h.a.on hb, h.b.on hb, below_step h.w (Nat.le_refl _) hb⟩
theorem SmS.new (w : World) (A B : Array Value) : SmS w ((w.alloc (.cells A 41)).alloc (.cells B 41)) A B := ⟨(Blk.new w _ _).alloc _, Blk.new' _ _ _ _ (by simp), (below_new w _).alloc (by simp) _⟩

set_option maxHeartbeats 1000000 in
theorem rsame19_no0 (K G S E M er K' G' S' E' M' er' : Int) (bl bl' : ByteArray) (n n' : Nat) (a a' : Option Addr) (c c' : Nat) (w : World) (h : ¬ K = K') :
    Calls Tryd.prog 22 #[.agg #[.int .i64 K, .int .i64 G, .int .i64 S, .int .i64 E, .int .i64 M, .string bl, .slice a n c, .int .i64 er], .agg #[.int .i64 K', .int .i64 G', .int .i64 S', .int .i64 E', .int .i64 M', .string bl', .slice a' n' c', .int .i64 er']] w fun e w' => e = .returned (.bool false) ∧ Below w.heap.size w w' := by
  have q : (K != K') = true := by rw [bne_iff_ne]; exact h
  have HB : Hid (Below w.heap.size w ((w.alloc (.cells #[.int .i64 K, .int .i64 G, .int .i64 S, .int .i64 E, .int .i64 M, .string bl, .slice a n c, .int .i64 er] 41)).alloc (.cells #[.int .i64 K', .int .i64 G', .int .i64 S', .int .i64 E', .int .i64 M', .string bl', .slice a' n' c', .int .i64 er'] 41))) := (SmS.new w _ _).w
  clear h
  go_enter Tryd.func22, Tryd.ntmps22
  go_wp2_with fail
  go_ret
  exact ⟨rfl, HB.out⟩

set_option maxHeartbeats 1000000 in
theorem rsame19_no1 (K G S E M er G' S' E' M' er' : Int) (bl bl' : ByteArray) (n n' : Nat) (a a' : Option Addr) (c c' : Nat) (w : World) (h : ¬ G = G') :
    Calls Tryd.prog 22 #[.agg #[.int .i64 K, .int .i64 G, .int .i64 S, .int .i64 E, .int .i64 M, .string bl, .slice a n c, .int .i64 er], .agg #[.int .i64 K, .int .i64 G', .int .i64 S', .int .i64 E', .int .i64 M', .string bl', .slice a' n' c', .int .i64 er']] w fun e w' => e = .returned (.bool false) ∧ Below w.heap.size w w' := by
  have q : (G != G') = true := by rw [bne_iff_ne]; exact h
  have HB : Hid (Below w.heap.size w ((w.alloc (.cells #[.int .i64 K, .int .i64 G, .int .i64 S, .int .i64 E, .int .i64 M, .string bl, .slice a n c, .int .i64 er] 41)).alloc (.cells #[.int .i64 K, .int .i64 G', .int .i64 S', .int .i64 E', .int .i64 M', .string bl', .slice a' n' c', .int .i64 er'] 41))) := (SmS.new w _ _).w
  clear h
  go_enter Tryd.func22, Tryd.ntmps22
  go_wp2_with fail
  go_ret
  exact ⟨rfl, HB.out⟩

set_option maxHeartbeats 1000000 in
theorem rsame19_no2 (K G S E M er S' E' M' er' : Int) (bl bl' : ByteArray) (n n' : Nat) (a a' : Option Addr) (c c' : Nat) (w : World) (h : ¬ S = S') :
    Calls Tryd.prog 22 #[.agg #[.int .i64 K, .int .i64 G, .int .i64 S, .int .i64 E, .int .i64 M, .string bl, .slice a n c, .int .i64 er], .agg #[.int .i64 K, .int .i64 G, .int .i64 S', .int .i64 E', .int .i64 M', .string bl', .slice a' n' c', .int .i64 er']] w fun e w' => e = .returned (.bool false) ∧ Below w.heap.size w w' := by
  have q : (S != S') = true := by rw [bne_iff_ne]; exact h
  have HB : Hid (Below w.heap.size w ((w.alloc (.cells #[.int .i64 K, .int .i64 G, .int .i64 S, .int .i64 E, .int .i64 M, .string bl, .slice a n c, .int .i64 er] 41)).alloc (.cells #[.int .i64 K, .int .i64 G, .int .i64 S', .int .i64 E', .int .i64 M', .string bl', .slice a' n' c', .int .i64 er'] 41))) := (SmS.new w _ _).w
  clear h
  go_enter Tryd.func22, Tryd.ntmps22
  go_wp2_with fail
  go_ret
  exact ⟨rfl, HB.out⟩

set_option maxHeartbeats 1000000 in
theorem rsame19_no3 (K G S E M er E' M' er' : Int) (bl bl' : ByteArray) (n n' : Nat) (a a' : Option Addr) (c c' : Nat) (w : World) (h : ¬ E = E') :
    Calls Tryd.prog 22 #[.agg #[.int .i64 K, .int .i64 G, .int .i64 S, .int .i64 E, .int .i64 M, .string bl, .slice a n c, .int .i64 er], .agg #[.int .i64 K, .int .i64 G, .int .i64 S, .int .i64 E', .int .i64 M', .string bl', .slice a' n' c', .int .i64 er']] w fun e w' => e = .returned (.bool false) ∧ Below w.heap.size w w' := by
  have q : (E != E') = true := by rw [bne_iff_ne]; exact h
  have HB : Hid (Below w.heap.size w ((w.alloc (.cells #[.int .i64 K, .int .i64 G, .int .i64 S, .int .i64 E, .int .i64 M, .string bl, .slice a n c, .int .i64 er] 41)).alloc (.cells #[.int .i64 K, .int .i64 G, .int .i64 S, .int .i64 E', .int .i64 M', .string bl', .slice a' n' c', .int .i64 er'] 41))) := (SmS.new w _ _).w
  clear h
  go_enter Tryd.func22, Tryd.ntmps22
  go_wp2_with fail
  go_ret
  exact ⟨rfl, HB.out⟩

set_option maxHeartbeats 1000000 in
theorem rsame19_no4 (K G S E M er M' er' : Int) (bl bl' : ByteArray) (n n' : Nat) (a a' : Option Addr) (c c' : Nat) (w : World) (h : ¬ M = M') :
    Calls Tryd.prog 22 #[.agg #[.int .i64 K, .int .i64 G, .int .i64 S, .int .i64 E, .int .i64 M, .string bl, .slice a n c, .int .i64 er], .agg #[.int .i64 K, .int .i64 G, .int .i64 S, .int .i64 E, .int .i64 M', .string bl', .slice a' n' c', .int .i64 er']] w fun e w' => e = .returned (.bool false) ∧ Below w.heap.size w w' := by
  have q : (M != M') = true := by rw [bne_iff_ne]; exact h
  have HB : Hid (Below w.heap.size w ((w.alloc (.cells #[.int .i64 K, .int .i64 G, .int .i64 S, .int .i64 E, .int .i64 M, .string bl, .slice a n c, .int .i64 er] 41)).alloc (.cells #[.int .i64 K, .int .i64 G, .int .i64 S, .int .i64 E, .int .i64 M', .string bl', .slice a' n' c', .int .i64 er'] 41))) := (SmS.new w _ _).w
  clear h
  go_enter Tryd.func22, Tryd.ntmps22
  go_wp2_with fail
  go_ret
  exact ⟨rfl, HB.out⟩

set_option maxHeartbeats 1000000 in
theorem rsame19_no7 (K G S E M er er' : Int) (bl bl' : ByteArray) (n n' : Nat) (a a' : Option Addr) (c c' : Nat) (w : World) (h : ¬ er = er') :
    Calls Tryd.prog 22 #[.agg #[.int .i64 K, .int .i64 G, .int .i64 S, .int .i64 E, .int .i64 M, .string bl, .slice a n c, .int .i64 er], .agg #[.int .i64 K, .int .i64 G, .int .i64 S, .int .i64 E, .int .i64 M, .string bl', .slice a' n' c', .int .i64 er']] w fun e w' => e = .returned (.bool false) ∧ Below w.heap.size w w' := by
  have q : (er != er') = true := by rw [bne_iff_ne]; exact h
  have HB : Hid (Below w.heap.size w ((w.alloc (.cells #[.int .i64 K, .int .i64 G, .int .i64 S, .int .i64 E, .int .i64 M, .string bl, .slice a n c, .int .i64 er] 41)).alloc (.cells #[.int .i64 K, .int .i64 G, .int .i64 S, .int .i64 E, .int .i64 M, .string bl', .slice a' n' c', .int .i64 er'] 41))) := (SmS.new w _ _).w
  clear h
  go_enter Tryd.func22, Tryd.ntmps22
  go_wp2_with fail
  go_ret
  exact ⟨rfl, HB.out⟩

set_option maxHeartbeats 1000000 in
theorem rsame19_no5 (K G S E M er : Int) (bl bl' : ByteArray) (n n' : Nat) (a a' : Option Addr) (c c' : Nat) (w : World) (h : ¬ bl = bl') :
    Calls Tryd.prog 22 #[.agg #[.int .i64 K, .int .i64 G, .int .i64 S, .int .i64 E, .int .i64 M, .string bl, .slice a n c, .int .i64 er], .agg #[.int .i64 K, .int .i64 G, .int .i64 S, .int .i64 E, .int .i64 M, .string bl', .slice a' n' c', .int .i64 er]] w fun e w' => e = .returned (.bool false) ∧ Below w.heap.size w w' := by
  have q : (bl.toList != bl'.toList) = true := by
    have := beq_texts19 bl bl'
    rw [bne, this, decide_eq_false h]; rfl
  have q1 : (bl.toList == bl'.toList) = false := by rw [beq_texts19]; exact decide_eq_false h
  have HB : Hid (Below w.heap.size w ((w.alloc (.cells #[.int .i64 K, .int .i64 G, .int .i64 S, .int .i64 E, .int .i64 M, .string bl, .slice a n c, .int .i64 er] 41)).alloc (.cells #[.int .i64 K, .int .i64 G, .int .i64 S, .int .i64 E, .int .i64 M, .string bl', .slice a' n' c', .int .i64 er] 41))) := (SmS.new w _ _).w
  clear h
  go_enter Tryd.func22, Tryd.ntmps22
  go_wp2_with fail
  go_ret
  exact ⟨rfl, HB.out⟩

set_option maxHeartbeats 1000000 in
theorem rsame19_no6 (K G S E M er : Int) (bl : ByteArray) (n n' : Nat) (a a' : Option Addr) (c c' : Nat) (w : World) (h : ¬ n = n') :
    Calls Tryd.prog 22 #[.agg #[.int .i64 K, .int .i64 G, .int .i64 S, .int .i64 E, .int .i64 M, .string bl, .slice a n c, .int .i64 er], .agg #[.int .i64 K, .int .i64 G, .int .i64 S, .int .i64 E, .int .i64 M, .string bl, .slice a' n' c', .int .i64 er]] w fun e w' => e = .returned (.bool false) ∧ Below w.heap.size w w' := by
  have q : ((n : Int) != (n' : Int)) = true := by rw [bne_iff_ne]; omega
  have eb : (bl.toList != bl.toList) = false := by simp
  have HB : Hid (Below w.heap.size w ((w.alloc (.cells #[.int .i64 K, .int .i64 G, .int .i64 S, .int .i64 E, .int .i64 M, .string bl, .slice a n c, .int .i64 er] 41)).alloc (.cells #[.int .i64 K, .int .i64 G, .int .i64 S, .int .i64 E, .int .i64 M, .string bl, .slice a' n' c', .int .i64 er] 41))) := (SmS.new w _ _).w
  clear h
  go_enter Tryd.func22, Tryd.ntmps22
  go_wp2_with fail
  go_ret
  exact ⟨rfl, HB.out⟩

set_option maxHeartbeats 2000000 in
theorem rsame19_yes (K G S E M er : Int) (bl : ByteArray) (l m : List (Int × Int × ByteArray)) (D : Bool) (hD : D = true ↔ l = m) (n : Nat) (a a' : Option Addr) (c c' : Nat) (w : World) (hn : n ≤ 1048576) (hc : n ≤ c) (hc' : n ≤ c') (hI : ItsAt w a n l) (hI' : ItsAt w a' n m) :
    Calls Tryd.prog 22 #[.agg #[.int .i64 K, .int .i64 G, .int .i64 S, .int .i64 E, .int .i64 M, .string bl, .slice a n c, .int .i64 er], .agg #[.int .i64 K, .int .i64 G, .int .i64 S, .int .i64 E, .int .i64 M, .string bl, .slice a' n c', .int .i64 er]] w fun e w' => e = .returned (.bool D) ∧ Below w.heap.size w w' := by
  have HI : Hid (ItsAt w a n l) := hI
  have HI' : Hid (ItsAt w a' n m) := hI'
  have HD : Hid (D = true ↔ l = m) := hD
  have eb : (bl.toList != bl.toList) = false := by simp
  have HS0 : Hid (SmS w ((w.alloc (.cells #[.int .i64 K, .int .i64 G, .int .i64 S, .int .i64 E, .int .i64 M, .string bl, .slice a n c, .int .i64 er] 41)).alloc (.cells #[.int .i64 K, .int .i64 G, .int .i64 S, .int .i64 E, .int .i64 M, .string bl, .slice a' n c', .int .i64 er] 41)) #[.int .i64 K, .int .i64 G, .int .i64 S, .int .i64 E, .int .i64 M, .string bl, .slice a n c, .int .i64 er] #[.int .i64 K, .int .i64 G, .int .i64 S, .int .i64 E, .int .i64 M, .string bl, .slice a' n c', .int .i64 er]) := SmS.new w _ _
  clear hI hI' hD
  go_enter Tryd.func22, Tryd.ntmps22
  go_wp2_with fail
  go_loopw [5] (fun i wr => ∃ k : Nat, k ≤ n ∧ i = .int .i64 k ∧ Hid (∀ j, j < k → itL l j = itL m j) ∧ Hid (SmS w wr #[.int .i64 K, .int .i64 G, .int .i64 S, .int .i64 E, .int .i64 M, .string bl, .slice a n c, .int .i64 er] #[.int .i64 K, .int .i64 G, .int .i64 S, .int .i64 E, .int .i64 M, .string bl, .slice a' n c', .int .i64 er])) (fun i _ => n - (intOf i).toNat)
  case atStart => exact ⟨0, Nat.zero_le _, rfl, fun j hj => absurd hj (Nat.not_lt_zero _), HS0⟩
  case round =>
    clear HS0
    obtain ⟨k, hk, rfl, HN, HS⟩ := hrel
    have f6 : wr.cell? ⟨w.heap.size, 6, none⟩ = some (.slice a n c) := HS.out.a.cell 6
    have g6 : wr.cell? ⟨w.heap.size + 1, 6, none⟩ = some (.slice a' n c') := HS.out.b.cell 6
    by_cases hlt : k < n
    · have HIr := HI.out.below HS.out.w
      have HIr' := HI'.out.below HS.out.w
      obtain ⟨b, off, rfl, x⟩ := HIr.2.resolve_left (by omega)
      obtain ⟨b', off', rfl, y⟩ := HIr'.2.resolve_left (by omega)
      obtain ⟨x0, x1, x2⟩ := x k hlt
      obtain ⟨y0, y1, y2⟩ := y k hlt
      have b0 : (k : Int) < (n : Int) := by omega
      clear HIr HIr' x y
      by_cases he : itL l k = itL m k
      · have hE := fun w => itemEq_is (itL l k) (itL m k) true (decide_eq_true he) w
        have HN' : Hid (∀ j, j < k + 1 → itL l j = itL m j) := by
          show ∀ j, _
          intro j hj
          by_cases e : j = k
          · subst e; exact he
          · exact HN.out j (by omega)
        clear HN he
        obtain ⟨⟨p1, p2, p3⟩, hp⟩ : ∃ s, s = itL l k := ⟨_, rfl⟩
        obtain ⟨⟨q1, q2, q3⟩, hq⟩ : ∃ s, s = itL m k := ⟨_, rfl⟩
        rw [← hp] at x0 x1 x2 hE
        rw [← hq] at y0 y1 y2 hE
        simp only [itemA] at hE
        clear hp hq
        go_wp2_with fail
        go_quiet (fail)
        go_wp2_with fail
        refine ⟨⟨k + 1, by omega, by go_num, HN', HS.out.on (below_drewN (Below.refl _ _) _)⟩, ?_⟩
        simp [intOf]; omega
      · have hE := fun w => itemEq_is (itL l k) (itL m k) false (decide_eq_false he) w
        obtain rfl : D = false := by
          cases D with
          | false => rfl
          | true => exact absurd (congrArg (fun z => itL z k) (HD.out.1 rfl)) he
        clear HN he HD
        obtain ⟨⟨p1, p2, p3⟩, hp⟩ : ∃ s, s = itL l k := ⟨_, rfl⟩
        obtain ⟨⟨q1, q2, q3⟩, hq⟩ : ∃ s, s = itL m k := ⟨_, rfl⟩
        rw [← hp] at x0 x1 x2 hE
        rw [← hq] at y0 y1 y2 hE
        simp only [itemA] at hE
        clear hp hq
        go_wp2_with fail
        go_quiet (fail)
        go_wp2_with fail
        go_ret
        exact ⟨rfl, below_drewN HS.out.w _⟩
    · have b0 : ¬ ((k : Int) < (n : Int)) := by omega
      obtain rfl : D = true := HD.out.2 (same_list19 _ l m (by rw [HI.out.1, HI'.out.1]) (fun i hi => HN.out i (by rw [HI.out.1] at hi; omega)))
      go_wp2_with fail
      go_ret
      exact ⟨rfl, HS.out.w⟩

end Go.Proofs.YtmjjpfinkpfifaaDoor
