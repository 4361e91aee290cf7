/- The code's Out (layer 9): its methods, of one that NewOut gave. -/
import Derived.Test.YtmpjhflbmngajaaCdD
namespace Go.Proofs.Ytmpjhflbmngajaa
open Go.RowKit
set_option linter.unusedSimpArgs false

/-- The Out at g, whose row was v in w, is o' in w'; nothing else has turned. -/
def OutTo (w : World) (g : Nat) (v : Value) (o' : ByteArray × Bool) (w' : World) : Prop := ∃ v', OutAt w' g v' o' ∧ Kept2 g v.ownBlock w w' ∧ Nx w v.ownBlock v'.ownBlock
theorem OutTo.same {w : World} {g : Nat} {v : Value} {o : ByteArray × Bool} (h : OutAt w g v o) : OutTo w g v o w := ⟨v, h, Kept2.refl _ _ _, Nx.refl _ _⟩
theorem OutTo.bad {w w' : World} {g : Nat} {v : Value} {S : ByteArray} (h : OutBad w' g) (k : Kept2 g none w w') : OutTo w g v (S, true) w' :=
  ⟨_, OutAt.bad.2 ⟨h, rfl⟩, ⟨k.os, k.tape, k.output, k.size, fun j a b _ => k.block j a b (by simp)⟩, fun k hk => by simp [Value.ownBlock] at hk⟩
theorem OutTo.irr {w w' : World} {g : Nat} {v : Value} {S S' : ByteArray} (h : OutTo w g v (S, true) w') : OutTo w g v (S', true) w' := by
  obtain ⟨v', h1, h2⟩ := h
  exact ⟨v', OutAt.bad.2 (OutAt.bad.1 h1), h2⟩
theorem OutTo.cast {w w' : World} {g : Nat} {v : Value} {o o' : ByteArray × Bool} (h : OutTo w g v o w') (e : o.2 = o'.2) (e2 : o.2 = false → o.1 = o'.1) : OutTo w g v o' w' := by
  obtain ⟨S, b⟩ := o
  obtain ⟨S', b'⟩ := o'
  have e' : b = b' := e
  subst e'
  cases b with
  | true => exact h.irr
  | false =>
    have := e2 rfl
    have e3 : S = S' := this
    subst e3; exact h
theorem OutTo.trans {w w1 w2 : World} {g : Nat} {v : Value} {o' : ByteArray × Bool} {v1 : Value} (k1 : Kept2 g v.ownBlock w w1) (n1 : Nx w v.ownBlock v1.ownBlock) (h2 : OutTo w1 g v1 o' w2) : OutTo w g v o' w2 := by
  obtain ⟨v2, a, k2, n2⟩ := h2
  exact ⟨v2, a, k1.trans k2 n1, n1.trans k1.size n2⟩
theorem OutTo.behind {w w1 w2 : World} {g : Nat} {v : Value} {o' : ByteArray × Bool} (hb : Below w.heap.size w w1) (h2 : OutTo w1 g v o' w2) : OutTo w g v o' w2 := OutTo.trans (Kept2.ofBelow g _ hb) (Nx.refl _ _) h2
theorem OutTo.on {w w1 w2 : World} {g : Nat} {v : Value} {o' : ByteArray × Bool} (h : OutTo w g v o' w1) (hb : Below w1.heap.size w1 w2) : OutTo w g v o' w2 := by
  obtain ⟨v2, a, k2, n2⟩ := h
  exact ⟨v2, a.on hb, k2.on hb, n2⟩

theorem number_any (g : Nat) (v : Value) (o : ByteArray × Bool) (n most : Int) (size : Nat) (w : World) (h : OutAt w g v o) (hs : size ≤ 6) :
    Calls Try.prog 40 #[.pointer (some ⟨g, 0, none⟩), .int .i64 n, .int .i64 most, .int .i64 (size : Int)] w fun e w' => e = .returned (.bool (!(withP o (bigB n size) (oneOk n most)).2)) ∧ OutTo w g v (withP o (bigB n size) (oneOk n most)) w' := by
  obtain ⟨S, b⟩ := o
  cases b with
  | true =>
    rw [withP_bad]
    refine (number_off g n most size w (OutAt.bad.1 h).1).mono ?_
    rintro e w' ⟨rfl, rfl⟩
    exact ⟨rfl, OutTo.same h⟩
  | false =>
    have h' := OutAt.ok.1 h
    cases hq : oneOk n most with
    | false =>
      rw [withP_not]
      refine (number_no g v S n most size w h' hq).mono ?_
      rintro e w' ⟨rfl, h1, h2⟩
      exact ⟨rfl, OutTo.bad h1 h2⟩
    | true =>
      obtain ⟨N, rfl, hN⟩ := oneOk_nat n most hq
      refine (number_yes g v S N most size w h' hN hs).mono ?_
      rintro e w' ⟨rfl, h1⟩
      exact ⟨rfl, h1⟩

set_option maxHeartbeats 1000000 in
set_option maxRecDepth 100000 in
theorem obyte_any (g : Nat) (v : Value) (o : ByteArray × Bool) (n : Int) (w : World) (h : OutAt w g v o) :
    Calls Try.prog 22 #[.pointer (some ⟨g, 0, none⟩), .int .i64 n] w fun e w' => e = .returned (.tuple #[]) ∧ OutTo w g v (numP o n 1 255) w' := by
  have HN : Hid (∀ w', w' = w → Calls Try.prog 40 #[.pointer (some ⟨g, 0, none⟩), .int .i64 n, .int .i64 255, .int .i64 1] w' fun e w'' => e = .returned (.bool (!(numP o n 1 255).2)) ∧ OutTo w' g v (numP o n 1 255) w'') := fun w' e => by subst e; exact number_any g v o n 255 1 _ h (by decide)
  go_enter Try.func22, Try.ntmps22
  go_wp2_with fail
  refine (HN.out _ rfl).mono ?_
  rintro e w1 ⟨rfl, h1⟩
  go_wp2
  go_end0
  exact ⟨rfl, h1⟩
set_option maxHeartbeats 1000000 in
set_option maxRecDepth 100000 in
theorem onum_any (g : Nat) (v : Value) (o : ByteArray × Bool) (n : Int) (w : World) (h : OutAt w g v o) :
    Calls Try.prog 23 #[.pointer (some ⟨g, 0, none⟩), .int .i64 n] w fun e w' => e = .returned (.tuple #[]) ∧ OutTo w g v (numP o n 6 1099511627775) w' := by
  have HN : Hid (∀ w', w' = w → Calls Try.prog 40 #[.pointer (some ⟨g, 0, none⟩), .int .i64 n, .int .i64 1099511627775, .int .i64 6] w' fun e w'' => e = .returned (.bool (!(numP o n 6 1099511627775).2)) ∧ OutTo w' g v (numP o n 6 1099511627775) w'') := fun w' e => by subst e; exact number_any g v o n 1099511627775 6 _ h (by decide)
  go_enter Try.func23, Try.ntmps23
  go_wp2_with fail
  refine (HN.out _ rfl).mono ?_
  rintro e w1 ⟨rfl, h1⟩
  go_wp2
  go_end0
  exact ⟨rfl, h1⟩

theorem stamp_two (o : ByteArray × Bool) (t u : Int) : (numP (numP o t 6 1099511627775) u 1 255).2 = (stampP o t u).2 ∧ ((numP (numP o t 6 1099511627775) u 1 255).2 = false → (numP (numP o t 6 1099511627775) u 1 255).1 = (stampP o t u).1) := by
  obtain ⟨S, b⟩ := o
  unfold numP stampP stampOk
  cases b with
  | true => rw [withP_bad, withP_bad, withP_bad]; exact ⟨rfl, fun h => by cases h⟩
  | false =>
    cases h1 : oneOk t 1099511627775 with
    | false => rw [withP_not, withP_bad, Bool.false_and, withP_not]; exact ⟨rfl, fun h => by cases h⟩
    | true =>
      rw [Bool.true_and]
      cases h2 : oneOk u 255 with
      | false => rw [withP_not, withP_not]; exact ⟨rfl, fun h => by cases h⟩
      | true =>
        have e2 : (bigB t 6 ++ bigB u 1).size = 7 := by rw [ByteArray.size_append, bigB_size, bigB_size]
        by_cases c1 : S.size + 7 ≤ 65536
        · rw [withP_true S (bigB t 6) (by rw [bigB_size]; omega), withP_true _ _ (by rw [ByteArray.size_append, bigB_size, bigB_size]; omega), withP_true S _ (by rw [e2]; exact c1)]
          exact ⟨rfl, fun _ => ByteArray.append_assoc⟩
        · rw [withP_long S (bigB t 6 ++ bigB u 1) (by rw [e2]; omega)]
          by_cases c2 : S.size + 6 ≤ 65536
          · rw [withP_true S (bigB t 6) (by rw [bigB_size]; omega), withP_long _ _ (by rw [ByteArray.size_append, bigB_size, bigB_size]; omega)]
            exact ⟨rfl, fun h => by cases h⟩
          · rw [withP_long S (bigB t 6) (by rw [bigB_size]; omega), withP_bad]
            exact ⟨rfl, fun h => by cases h⟩

set_option maxHeartbeats 1000000 in
set_option maxRecDepth 100000 in
theorem ostamp_any (g : Nat) (v : Value) (o : ByteArray × Bool) (t u : Int) (w : World) (h : OutAt w g v o) :
    Calls Try.prog 24 #[.pointer (some ⟨g, 0, none⟩), .agg #[.int .i64 t, .int .i64 u]] w fun e w' => e = .returned (.tuple #[]) ∧ OutTo w g v (stampP o t u) w' := by
  have hO : Hid (OutAt w g v o) := h
  have hlt := h.lt.1
  have hrl : Hid (∀ k, v.ownBlock = some k → k < w.heap.size) := h.lt.2
  clear h
  have HB : Hid (Blk (w.alloc (.cells #[.int .i64 t, .int .i64 u] 40)) 40 w.heap.size #[.int .i64 t, .int .i64 u]) := Blk.new _ _ _
  go_enter Try.func24, Try.ntmps24
  go_wp2_with fail
  refine (onum_any g v o t _ (hO.out.on (below_new w _))).mono ?_
  rintro e w1 ⟨rfl, v1, a1, k1, n1⟩
  have hb1 : Blk w1 40 w.heap.size #[.int .i64 t, .int .i64 u] := HB.out.kept k1 (by omega) (fun e => by have := hrl.out _ e.symm; omega)
  have c1 : w1.cell? ⟨w.heap.size, 1, none⟩ = some (.int .i64 u) := hb1.cell 1
  go_wp2_with fail
  refine (obyte_any g v1 _ u _ a1).mono ?_
  rintro e w2 ⟨rfl, h2⟩
  go_wp2
  go_end0
  obtain ⟨e1, e2⟩ := stamp_two o t u
  exact ⟨rfl, ((OutTo.trans k1 n1 h2).cast e1 e2).behind (below_new w _)⟩
end Go.Proofs.Ytmpjhflbmngajaa
