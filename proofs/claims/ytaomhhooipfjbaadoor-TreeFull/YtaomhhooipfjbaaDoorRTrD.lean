/- The document's SameNodes, SameOps, Light (layer 11). -/
import Derived.Test.YtaomhhooipfjbaaDoorRTrC
namespace Go.Proofs.YtaomhhooipfjbaaDoor
open Go.RowKit
set_option linter.unusedSimpArgs false

/-- Operations. -/
def oL (l : List (Int × (Int × Int) × (Int × Int) × (Int × Int) × ByteArray × ByteArray)) (i : Nat) : Int × (Int × Int) × (Int × Int) × (Int × Int) × ByteArray × ByteArray := l.getD i (0, (0, 0), (0, 0), (0, 0), ByteArray.empty, ByteArray.empty)

def OpsAt (w : World) (a : Option Addr) (n : Nat) (l : List (Int × (Int × Int) × (Int × Int) × (Int × Int) × ByteArray × ByteArray)) : Prop := l.length = n ∧ RowsAt w a n 9 (fun i => opA (oL l i))

theorem OpsAt.below {w w' : World} {a : Option Addr} {n : Nat} {l : List (Int × (Int × Int) × (Int × Int) × (Int × Int) × ByteArray × ByteArray)} (h : OpsAt w a n l) (hb : Below w.heap.size w w') : OpsAt w' a n l := ⟨h.1, h.2.below (Nat.le_refl _) hb⟩

theorem OpsAt.cells {w : World} {b off n : Nat} {l : List (Int × (Int × Int) × (Int × Int) × (Int × Int) × ByteArray × ByteArray)} (h : OpsAt w (some ⟨b, off, none⟩) n l) (i : Nat) (hi : i < n) :
    w.cell? ⟨b, off + i * 9, none⟩ = some (.int .i64 (oL l i).1) ∧ w.cell? ⟨b, off + i * 9 + 1, none⟩ = some (.int .i64 (oL l i).2.1.1) ∧ w.cell? ⟨b, off + i * 9 + 2, none⟩ = some (.int .i64 (oL l i).2.1.2) ∧ w.cell? ⟨b, off + i * 9 + 3, none⟩ = some (.int .i64 (oL l i).2.2.1.1) ∧ w.cell? ⟨b, off + i * 9 + 4, none⟩ = some (.int .i64 (oL l i).2.2.1.2) ∧ w.cell? ⟨b, off + i * 9 + 5, none⟩ = some (.int .i64 (oL l i).2.2.2.1.1) ∧ w.cell? ⟨b, off + i * 9 + 6, none⟩ = some (.int .i64 (oL l i).2.2.2.1.2) ∧ w.cell? ⟨b, off + i * 9 + 7, none⟩ = some (.string (oL l i).2.2.2.2.1) ∧ w.cell? ⟨b, off + i * 9 + 8, none⟩ = some (.string (oL l i).2.2.2.2.2) := by
  obtain ⟨b', off', ha, hc⟩ := h.2.some (by omega)
  simp only [Option.some.injEq, Addr.mk.injEq] at ha
  obtain ⟨rfl, rfl, _⟩ := ha
  have hh : ∀ j, j < 9 → ∀ v, (opA (oL l i))[j]? = some v → w.cell? ⟨b, off + i * 9 + j, none⟩ = some v := fun j hj v hv => by
    obtain ⟨u, h1, h2⟩ := hc i hi j hj
    rw [h2, ← h1]; exact hv
  exact ⟨hh 0 (by decide) _ rfl, hh 1 (by decide) _ rfl, hh 2 (by decide) _ rfl, hh 3 (by decide) _ rfl, hh 4 (by decide) _ rfl, hh 5 (by decide) _ rfl, hh 6 (by decide) _ rfl, hh 7 (by decide) _ rfl, hh 8 (by decide) _ rfl⟩

theorem nodeEq_is (x y : (Int × Int) × (Int × Int) × ByteArray × ByteArray) (D : Bool) (h : decide (x = y) = D) (w : World) : (Op.equalIn 10000 40 (.agg (nodeA x)) (.agg (nodeA y))).run Tryd.prog w = .ok D w := by
  rw [nodeEq, ← h]

theorem opEq_is (x y : Int × (Int × Int) × (Int × Int) × (Int × Int) × ByteArray × ByteArray) (D : Bool) (h : decide (x = y) = D) (w : World) : (Op.equalIn 10000 30 (.agg (opA x)) (.agg (opA y))).run Tryd.prog w = .ok D w := by
  rw [opEq, ← h]

theorem same_list {α : Type} (d : α) (l m : List α) (h : l.length = m.length) (k : ∀ i, i < l.length → l.getD i d = m.getD i d) : l = m := by
  apply List.ext_getElem h
  intro i h1 h2
  have := k i h1
  rw [List.getD_eq_getElem?_getD, List.getD_eq_getElem?_getD, List.getElem?_eq_getElem h1, List.getElem?_eq_getElem h2] at this
  exact this

set_option maxRecDepth 100000 in
set_option maxHeartbeats 2000000 in
theorem rsameNodes_any (l m : List ((Int × Int) × (Int × Int) × ByteArray × ByteArray)) (D : Bool) (hD : D = true ↔ l = m) (a a' : Option Addr) (n n' c c' : Nat) (w : World) (hn : n ≤ 1048576) (hn' : n' ≤ 1048576) (hI : NodesAt w a n l) (hI' : NodesAt w a' n' m) :
    Calls Tryd.prog 11 #[.slice a n c, .slice a' n' c'] w fun e w' => e = .returned (.bool D) ∧ Below w.heap.size w w' := by
  have HI : Hid (NodesAt w a n l) := hI
  have HI' : Hid (NodesAt w a' n' m) := hI'
  have HD : Hid (D = true ↔ l = m) := hD
  have hl := hI.1
  have hl' := hI'.1
  clear hI hI' hD
  by_cases hnn : n = n'
  · subst hnn
    have g0 : ((n : Int) != (n : Int)) = false := by simp
    go_enter Tryd.func11, Tryd.ntmps11
    go_wp2_with fail
    go_loopw [5] (fun i wr => ∃ k : Nat, k ≤ n ∧ i = .int .i64 k ∧ Hid (∀ j, j < k → nL l j = nL m j) ∧ Below w.heap.size w wr) (fun i _ => n - (intOf i).toNat)
    case atStart => exact ⟨0, Nat.zero_le _, rfl, fun j hj => absurd hj (Nat.not_lt_zero _), Below.refl _ _⟩
    case round =>
      obtain ⟨k, hk, rfl, HN, hbl⟩ := hrel
      by_cases hlt : k < n
      · have HIr := HI.out.below hbl
        have HIr' := HI'.out.below hbl
        obtain ⟨b, off, rfl, _⟩ := HIr.2.some (by omega)
        obtain ⟨b', off', rfl, _⟩ := HIr'.2.some (by omega)
        obtain ⟨x0, x1, x2, x3, x4, x5⟩ := HIr.cells k hlt
        obtain ⟨y0, y1, y2, y3, y4, y5⟩ := HIr'.cells k hlt
        have b0 : (k : Int) < (n : Int) := by omega
        clear HIr HIr'
        by_cases he : nL l k = nL m k
        · have hE := fun w => nodeEq_is (nL l k) (nL m k) true (decide_eq_true he) w
          have HN' : Hid (∀ j, j < k + 1 → nL l j = nL m j) := by
            show ∀ j, _
            intro j hj
            by_cases e : j = k
            · subst e; exact he
            · exact HN.out j (by omega)
          clear HN he
          obtain ⟨⟨⟨p1, p2⟩, ⟨p3, p4⟩, p5, p6⟩, hp⟩ : ∃ s, s = nL l k := ⟨_, rfl⟩
          obtain ⟨⟨⟨q1, q2⟩, ⟨q3, q4⟩, q5, q6⟩, hq⟩ : ∃ s, s = nL m k := ⟨_, rfl⟩
          rw [← hp] at x0 x1 x2 x3 x4 x5 hE
          rw [← hq] at y0 y1 y2 y3 y4 y5 hE
          simp only [nodeA] at hE
          clear hp hq
          go_wp2_with fail
          go_quiet (fail)
          go_wp2_with fail
          refine ⟨⟨k + 1, by omega, by go_num, HN', below_drewN hbl _⟩, ?_⟩
          simp [intOf]; omega
        · have hE := fun w => nodeEq_is (nL l k) (nL m k) false (decide_eq_false he) w
          obtain rfl : D = false := by
            cases D with
            | false => rfl
            | true => exact absurd (congrArg (fun z => nL z k) (HD.out.1 rfl)) he
          clear HN he HD
          obtain ⟨⟨⟨p1, p2⟩, ⟨p3, p4⟩, p5, p6⟩, hp⟩ : ∃ s, s = nL l k := ⟨_, rfl⟩
          obtain ⟨⟨⟨q1, q2⟩, ⟨q3, q4⟩, q5, q6⟩, hq⟩ : ∃ s, s = nL m k := ⟨_, rfl⟩
          rw [← hp] at x0 x1 x2 x3 x4 x5 hE
          rw [← hq] at y0 y1 y2 y3 y4 y5 hE
          simp only [nodeA] at hE
          clear hp hq
          go_wp2_with fail
          go_quiet (fail)
          go_wp2_with fail
          go_ret
          exact ⟨rfl, below_drewN hbl _⟩
      · have hk' : k = n := by omega
        subst hk'
        obtain rfl : D = true := HD.out.2 (same_list _ l m (by omega) (fun i hi => HN.out i (by omega)))
        go_wp2
        go_ret
        exact ⟨rfl, hbl⟩
  · have g0 : ((n : Int) != (n' : Int)) = true := by rw [bne_iff_ne]; omega
    obtain rfl : D = false := by
      cases D with
      | false => rfl
      | true => have := congrArg List.length (HD.out.1 rfl); omega
    clear HD HI HI'
    go_enter Tryd.func11, Tryd.ntmps11
    go_wp2_with fail
    go_ret
    exact ⟨rfl, Below.refl _ _⟩

set_option maxRecDepth 100000 in
set_option maxHeartbeats 2000000 in
theorem rsameOps_any (l m : List (Int × (Int × Int) × (Int × Int) × (Int × Int) × ByteArray × ByteArray)) (D : Bool) (hD : D = true ↔ l = m) (a a' : Option Addr) (n n' c c' : Nat) (w : World) (hn : n ≤ 1048576) (hn' : n' ≤ 1048576) (hI : OpsAt w a n l) (hI' : OpsAt w a' n' m) :
    Calls Tryd.prog 13 #[.slice a n c, .slice a' n' c'] w fun e w' => e = .returned (.bool D) ∧ Below w.heap.size w w' := by
  have HI : Hid (OpsAt w a n l) := hI
  have HI' : Hid (OpsAt w a' n' m) := hI'
  have HD : Hid (D = true ↔ l = m) := hD
  have hl := hI.1
  have hl' := hI'.1
  clear hI hI' hD
  by_cases hnn : n = n'
  · subst hnn
    have g0 : ((n : Int) != (n : Int)) = false := by simp
    go_enter Tryd.func13, Tryd.ntmps13
    go_wp2_with fail
    go_loopw [5] (fun i wr => ∃ k : Nat, k ≤ n ∧ i = .int .i64 k ∧ Hid (∀ j, j < k → oL l j = oL m j) ∧ Below w.heap.size w wr) (fun i _ => n - (intOf i).toNat)
    case atStart => exact ⟨0, Nat.zero_le _, rfl, fun j hj => absurd hj (Nat.not_lt_zero _), Below.refl _ _⟩
    case round =>
      obtain ⟨k, hk, rfl, HN, hbl⟩ := hrel
      by_cases hlt : k < n
      · have HIr := HI.out.below hbl
        have HIr' := HI'.out.below hbl
        obtain ⟨b, off, rfl, _⟩ := HIr.2.some (by omega)
        obtain ⟨b', off', rfl, _⟩ := HIr'.2.some (by omega)
        obtain ⟨x0, x1, x2, x3, x4, x5, x6, x7, x8⟩ := HIr.cells k hlt
        obtain ⟨y0, y1, y2, y3, y4, y5, y6, y7, y8⟩ := HIr'.cells k hlt
        have b0 : (k : Int) < (n : Int) := by omega
        clear HIr HIr'
        by_cases he : oL l k = oL m k
        · have hE := fun w => opEq_is (oL l k) (oL m k) true (decide_eq_true he) w
          have HN' : Hid (∀ j, j < k + 1 → oL l j = oL m j) := by
            show ∀ j, _
            intro j hj
            by_cases e : j = k
            · subst e; exact he
            · exact HN.out j (by omega)
          clear HN he
          obtain ⟨⟨p0, ⟨p1, p2⟩, ⟨p3, p4⟩, ⟨p5, p6⟩, p7, p8⟩, hp⟩ : ∃ s, s = oL l k := ⟨_, rfl⟩
          obtain ⟨⟨q0, ⟨q1, q2⟩, ⟨q3, q4⟩, ⟨q5, q6⟩, q7, q8⟩, hq⟩ : ∃ s, s = oL m k := ⟨_, rfl⟩
          rw [← hp] at x0 x1 x2 x3 x4 x5 x6 x7 x8 hE
          rw [← hq] at y0 y1 y2 y3 y4 y5 y6 y7 y8 hE
          simp only [opA] at hE
          clear hp hq
          go_wp2_with fail
          go_quiet (fail)
          go_wp2_with fail
          refine ⟨⟨k + 1, by omega, by go_num, HN', below_drewN hbl _⟩, ?_⟩
          simp [intOf]; omega
        · have hE := fun w => opEq_is (oL l k) (oL m k) false (decide_eq_false he) w
          obtain rfl : D = false := by
            cases D with
            | false => rfl
            | true => exact absurd (congrArg (fun z => oL z k) (HD.out.1 rfl)) he
          clear HN he HD
          obtain ⟨⟨p0, ⟨p1, p2⟩, ⟨p3, p4⟩, ⟨p5, p6⟩, p7, p8⟩, hp⟩ : ∃ s, s = oL l k := ⟨_, rfl⟩
          obtain ⟨⟨q0, ⟨q1, q2⟩, ⟨q3, q4⟩, ⟨q5, q6⟩, q7, q8⟩, hq⟩ : ∃ s, s = oL m k := ⟨_, rfl⟩
          rw [← hp] at x0 x1 x2 x3 x4 x5 x6 x7 x8 hE
          rw [← hq] at y0 y1 y2 y3 y4 y5 y6 y7 y8 hE
          simp only [opA] at hE
          clear hp hq
          go_wp2_with fail
          go_quiet (fail)
          go_wp2_with fail
          go_ret
          exact ⟨rfl, below_drewN hbl _⟩
      · have hk' : k = n := by omega
        subst hk'
        obtain rfl : D = true := HD.out.2 (same_list _ l m (by omega) (fun i hi => HN.out i (by omega)))
        go_wp2
        go_ret
        exact ⟨rfl, hbl⟩
  · have g0 : ((n : Int) != (n' : Int)) = true := by rw [bne_iff_ne]; omega
    obtain rfl : D = false := by
      cases D with
      | false => rfl
      | true => have := congrArg List.length (HD.out.1 rfl); omega
    clear HD HI HI'
    go_enter Tryd.func13, Tryd.ntmps13
    go_wp2_with fail
    go_ret
    exact ⟨rfl, Below.refl _ _⟩

/-- Has an operation few bytes? -/
def LightO (o : Int × (Int × Int) × (Int × Int) × (Int × Int) × ByteArray × ByteArray) : Prop := o.2.2.2.2.1.size ≤ 200 ∧ o.2.2.2.2.2.size ≤ 200


set_option maxRecDepth 100000 in
set_option maxHeartbeats 2000000 in
theorem rlight_any (o : Int × (Int × Int) × (Int × Int) × (Int × Int) × ByteArray × ByteArray) (D : Bool) (hD : D = true ↔ LightO o) (w : World) (h7 : o.2.2.2.2.1.size ≤ maxLen) (h8 : o.2.2.2.2.2.size ≤ maxLen) :
    Calls Tryd.prog 20 #[.agg (opA o)] w fun e w' => e = .returned (.bool D) ∧ Below w.heap.size w w' := by
  obtain ⟨k, ⟨a, b⟩, ⟨c, d⟩, ⟨e, f⟩, s, t⟩ := o
  have h7' : s.size ≤ 9223372036854775807 := h7
  have h8' : t.size ≤ 9223372036854775807 := h8
  unfold opA
  show Calls Tryd.prog _ #[.agg #[.int .i64 k, .int .i64 a, .int .i64 b, .int .i64 c, .int .i64 d, .int .i64 e, .int .i64 f, .string s, .string t]] w _
  by_cases h1 : s.size ≤ 200
  · have g1 : decide ((s.size : Int) ≤ 200) = true := by simp; omega
    by_cases h2 : t.size ≤ 200
    · have g2 : decide ((t.size : Int) ≤ 200) = true := by simp; omega
      obtain rfl : D = true := hD.2 ⟨h1, h2⟩
      clear hD h1 h2 h7 h8
      go_enter Tryd.func20, Tryd.ntmps20
      go_wp2
      go_ret
      exact ⟨rfl, below_new w _⟩
    · have g2 : decide ((t.size : Int) ≤ 200) = false := by simp; omega
      obtain rfl : D = false := by
        cases D with
        | false => rfl
        | true => exact absurd (hD.1 rfl).2 h2
      clear hD h1 h2 h7 h8
      go_enter Tryd.func20, Tryd.ntmps20
      go_wp2
      go_ret
      exact ⟨rfl, below_new w _⟩
  · have g1 : decide ((s.size : Int) ≤ 200) = false := by simp; omega
    obtain rfl : D = false := by
      cases D with
      | false => rfl
      | true => exact absurd (hD.1 rfl).1 h1
    clear hD h1 h7 h8
    go_enter Tryd.func20, Tryd.ntmps20
    go_wp2
    go_ret
    exact ⟨rfl, below_new w _⟩

end Go.Proofs.YtaomhhooipfjbaaDoor
