/- The code's Out (layer 9): a number written. -/
import Derived.Test.YtmpjhflbmngajaaCdB
namespace Go.Proofs.Ytmpjhflbmngajaa
open Go.RowKit
set_option linter.unusedSimpArgs false

def OutAt (w : World) (g : Nat) (v : Value) (o : ByteArray × Bool) : Prop := if o.2 = true then OutBad w g ∧ v = .slice none 0 0 else OutOk w g v o.1
theorem OutAt.bad {w : World} {g : Nat} {v : Value} {S : ByteArray} : OutAt w g v (S, true) ↔ OutBad w g ∧ v = .slice none 0 0 := by unfold OutAt; rw [if_pos rfl]
theorem OutAt.ok {w : World} {g : Nat} {v : Value} {S : ByteArray} : OutAt w g v (S, false) ↔ OutOk w g v S := by unfold OutAt; rw [if_neg (by simp)]
theorem OutAt.on {w w' : World} {g : Nat} {v : Value} {o : ByteArray × Bool} (h : OutAt w g v o) (hb : Below w.heap.size w w') : OutAt w' g v o := by
  obtain ⟨S, b⟩ := o
  cases b with
  | true => exact OutAt.bad.2 ⟨(OutAt.bad.1 h).1.on hb, (OutAt.bad.1 h).2⟩
  | false => exact OutAt.ok.2 ((OutAt.ok.1 h).on hb)
theorem OutAt.lt {w : World} {g : Nat} {v : Value} {o : ByteArray × Bool} (h : OutAt w g v o) : g < w.heap.size ∧ ∀ k, v.ownBlock = some k → k < w.heap.size := by
  obtain ⟨S, b⟩ := o
  cases b with
  | true =>
    obtain ⟨h1, h2⟩ := OutAt.bad.1 h
    subst h2
    exact ⟨Blk.lt h1, fun k hk => by simp [Value.ownBlock] at hk⟩
  | false =>
    have h' := OutAt.ok.1 h
    exact ⟨h'.1.lt, h'.2.1.lt⟩
theorem withP_true (S T : ByteArray) (h : S.size + T.size ≤ 65536) : withP (S, false) T true = (S ++ T, false) := by unfold withP; rw [if_pos ⟨rfl, rfl, h⟩]
theorem withP_long (S T : ByteArray) (h : 65536 < S.size + T.size) : withP (S, false) T true = (S, true) := by unfold withP; rw [if_neg (fun k => by have h1 : S.size + T.size ≤ 65536 := k.2.2; omega)]
theorem withP_bad (S T : ByteArray) (b : Bool) : withP (S, true) T b = (S, true) := by unfold withP; rw [if_neg (fun k => by cases k.2.1)]
theorem withP_not (o : ByteArray × Bool) (T : ByteArray) : withP o T false = (o.1, true) := by unfold withP; rw [if_neg (fun k => by cases k.1)]

theorem lay_any (g : Nat) (v : Value) (S T : ByteArray) (b c : Nat) (w : World) (h : OutOk w g v S) (hb : Row8 w b T.size (bt T)) (hT : T.size ≤ 1048576) :
    Calls Try.prog 41 #[.pointer (some ⟨g, 0, none⟩), .slice (some ⟨b, 0, none⟩) T.size c] w fun e w' => e = .returned (.bool (!(withP (S, false) T true).2)) ∧ ∃ v', OutAt w' g v' (withP (S, false) T true) ∧ Kept2 g v.ownBlock w w' ∧ Nx w v.ownBlock v'.ownBlock := by
  by_cases hn : S.size + T.size ≤ 65536
  · refine (lay_ok g v S T b c w h hb hn).mono ?_
    rintro e w' ⟨rfl, v', h1, h2, h3⟩
    rw [withP_true S T hn]
    exact ⟨rfl, v', OutAt.ok.2 h1, h2, h3⟩
  · refine (lay_no g v S T b c w h (by omega) hT).mono ?_
    rintro e w' ⟨rfl, h1, h2⟩
    rw [withP_long S T (by omega)]
    exact ⟨rfl, _, OutAt.bad.2 ⟨h1, rfl⟩, ⟨h2.os, h2.tape, h2.output, h2.size, fun k a b _ => h2.block k a b (by simp)⟩, fun k hk => by simp [Value.ownBlock] at hk⟩

set_option maxHeartbeats 1000000 in
set_option maxRecDepth 100000 in
theorem number_off (g : Nat) (n most size : Int) (w : World) (h : OutBad w g) :
    Calls Try.prog 40 #[.pointer (some ⟨g, 0, none⟩), .int .i64 n, .int .i64 most, .int .i64 size] w fun e w' => e = .returned (.bool false) ∧ w' = w := by
  have HC : Hid (∀ w', w' = w → Calls Try.prog 30 #[.pointer (some ⟨g, 0, none⟩)] w' fun e w'' => e = .returned (.bool false) ∧ w'' = w') := fun w' e => by subst e; exact owell_bad g _ h
  go_enter Try.func40, Try.ntmps40
  go_wp2_with fail
  refine (HC.out _ rfl).mono ?_
  rintro e w1 ⟨rfl, rfl⟩
  go_wp2
  go_ret
  exact ⟨rfl, rfl⟩
set_option maxHeartbeats 1000000 in
set_option maxRecDepth 100000 in
theorem number_nil (n most size : Int) (w : World) :
    Calls Try.prog 40 #[.pointer none, .int .i64 n, .int .i64 most, .int .i64 size] w fun e w' => e = .returned (.bool false) ∧ w' = w := by
  go_enter Try.func40, Try.ntmps40
  go_wp2_with fail
  refine (owell_nil _).mono ?_
  rintro e w1 ⟨rfl, rfl⟩
  go_wp2
  go_ret
  exact ⟨rfl, rfl⟩
set_option maxHeartbeats 1000000 in
set_option maxRecDepth 100000 in
theorem number_no (g : Nat) (v : Value) (S : ByteArray) (n most size : Int) (w : World) (h : OutOk w g v S) (hn : oneOk n most = false) :
    Calls Try.prog 40 #[.pointer (some ⟨g, 0, none⟩), .int .i64 n, .int .i64 most, .int .i64 size] w fun e w' => e = .returned (.bool false) ∧ OutBad w' g ∧ Kept2 g none w w' := by
  have HC : Hid (∀ w', w' = w → Calls Try.prog 30 #[.pointer (some ⟨g, 0, none⟩)] w' fun e w'' => e = .returned (.bool true) ∧ w'' = w') := fun w' e => by subst e; exact owell_ok g _ _ h.1
  have HS : Hid (∀ w', w' = w → Calls Try.prog 46 #[.pointer (some ⟨g, 0, none⟩)] w' fun e w'' => e = .returned (.bool false) ∧ OutBad w'' g ∧ Kept2 g none w' w'') := fun w' e => by subst e; exact ospoil_any g _ _ h.1
  unfold oneOk at hn
  have hor : n < 0 ∨ ¬ n < 0 ∧ most < n := by
    rw [Bool.and_eq_false_iff, decide_eq_false_iff_not, decide_eq_false_iff_not] at hn
    omega
  clear hn
  rcases hor with hl | ⟨hl, hm⟩
  · go_enter Try.func40, Try.ntmps40
    go_wp2_with fail
    refine (HC.out _ rfl).mono ?_
    rintro e w1 ⟨rfl, rfl⟩
    go_wp2_with fail
    refine (HS.out _ rfl).mono ?_
    rintro e w2 ⟨rfl, h1, h2⟩
    go_wp2
    go_ret
    exact ⟨rfl, h1, h2⟩
  · go_enter Try.func40, Try.ntmps40
    go_wp2_with fail
    refine (HC.out _ rfl).mono ?_
    rintro e w1 ⟨rfl, rfl⟩
    go_wp2_with fail
    refine (HS.out _ rfl).mono ?_
    rintro e w2 ⟨rfl, h1, h2⟩
    go_wp2
    go_ret
    exact ⟨rfl, h1, h2⟩
end Go.Proofs.Ytmpjhflbmngajaa
