/- The code's Out (layer 9): a text; Done; an Out that nobody made. -/
import Derived.Test.YtmpjhflbmngajaaCdE
namespace Go.Proofs.Ytmpjhflbmngajaa
open Go.RowKit
set_option linter.unusedSimpArgs false

theorem text_two (S s : ByteArray) (hs : s.size ≤ 65535) : (withP (S ++ bigB (s.size : Int) 2, false) s true).2 = (textP (S, false) s).2 ∧ ((withP (S ++ bigB (s.size : Int) 2, false) s true).2 = false → (withP (S ++ bigB (s.size : Int) 2, false) s true).1 = (textP (S, false) s).1) := by
  unfold textP
  rw [if_neg (by omega)]
  have e2 : (bigB (s.size : Int) 2 ++ s).size = 2 + s.size := by rw [ByteArray.size_append, bigB_size]
  have e3 : (S ++ bigB (s.size : Int) 2).size = S.size + 2 := by rw [ByteArray.size_append, bigB_size]
  by_cases c : S.size + 2 + s.size ≤ 65536
  · rw [withP_true _ _ (by rw [e3]; exact c), withP_true S _ (by rw [e2]; omega)]
    exact ⟨rfl, fun _ => ByteArray.append_assoc⟩
  · rw [withP_long _ _ (by rw [e3]; omega), withP_long S _ (by rw [e2]; omega)]
    exact ⟨rfl, fun h => by cases h⟩

set_option maxHeartbeats 1000000 in
set_option maxRecDepth 100000 in
theorem otext_stop (g : Nat) (v : Value) (o o' : ByteArray × Bool) (s : ByteArray) (w : World) (h : OutAt w g v o) (hz : withP o (bigB (s.size : Int) 2) (oneOk (s.size : Int) 65535) = o') (hb : o'.2 = true) :
    Calls Try.prog 25 #[.pointer (some ⟨g, 0, none⟩), .string s] w fun e w' => e = .returned (.tuple #[]) ∧ OutTo w g v o' w' := by
  have HN : Hid (∀ w', w' = w → Calls Try.prog 40 #[.pointer (some ⟨g, 0, none⟩), .int .i64 (s.size : Int), .int .i64 65535, .int .i64 2] w' fun e w'' => e = .returned (.bool false) ∧ OutTo w' g v o' w'') := fun w' e => by
    subst e
    have := number_any g v o (s.size : Int) 65535 2 _ h (by decide)
    rw [hz, hb] at this
    exact this
  clear hz hb h
  go_enter Try.func25, Try.ntmps25
  go_wp2_with fail
  refine (HN.out _ rfl).mono ?_
  rintro e w1 ⟨rfl, h1⟩
  go_wp2
  go_end0
  exact ⟨rfl, h1⟩
set_option maxHeartbeats 1000000 in
set_option maxRecDepth 100000 in
theorem otext_on (g : Nat) (v : Value) (S s : ByteArray) (w : World) (h : OutOk w g v S) (hs : s.size ≤ 65535) (hS : S.size + 2 ≤ 65536) :
    Calls Try.prog 25 #[.pointer (some ⟨g, 0, none⟩), .string s] w fun e w' => e = .returned (.tuple #[]) ∧ OutTo w g v (textP (S, false) s) w' := by
  obtain ⟨E, hE⟩ : ∃ E, S ++ bigB (s.size : Int) 2 = E := ⟨_, rfl⟩
  have HN : Hid (∀ w', w' = w → Calls Try.prog 40 #[.pointer (some ⟨g, 0, none⟩), .int .i64 (s.size : Int), .int .i64 65535, .int .i64 2] w' fun e w'' => e = .returned (.bool true) ∧ OutTo w' g v (E, false) w'') := fun w' e => by
    subst e
    have hq : oneOk (s.size : Int) 65535 = true := by unfold oneOk; rw [Bool.and_eq_true, decide_eq_true_iff, decide_eq_true_iff]; omega
    have := number_any g v (S, false) (s.size : Int) 65535 2 _ (OutAt.ok.2 h) (by decide)
    rw [hq, withP_true _ _ (by rw [bigB_size]; exact hS), hE] at this
    exact this
  have HT : Hid ((withP (E, false) s true).2 = (textP (S, false) s).2 ∧ ((withP (E, false) s true).2 = false → (withP (E, false) s true).1 = (textP (S, false) s).1)) := by
    have := text_two S s hs
    rw [hE] at this; exact this
  clear hE h
  obtain ⟨o', ho'⟩ : ∃ o', textP (S, false) s = o' := ⟨_, rfl⟩
  rw [ho'] at HT ⊢
  clear ho'
  go_enter Try.func25, Try.ntmps25
  go_wp2_with fail
  refine (HN.out _ rfl).mono ?_
  rintro e w1 ⟨rfl, v1, a1, k1, n1⟩
  obtain ⟨c, w2, hcv, hc, hrow, hb2⟩ := bytes_new (P := Try.prog) w1 9 49 5 s Try.underlying9 Try.underlying49 Try.underlying5
  have HL : Hid (Calls Try.prog 41 #[.pointer (some ⟨g, 0, none⟩), .slice (some ⟨w1.heap.size, 0, none⟩) s.size c] w2 fun e w' => e = .returned (.bool (!(withP (E, false) s true).2)) ∧ OutTo w2 g v1 (withP (E, false) s true) w') := lay_any g v1 E s w1.heap.size c w2 ((OutAt.ok.1 a1).on hb2) hrow (by omega)
  have HR : Hid (∀ w', OutTo w2 g v1 (withP (E, false) s true) w' → OutTo w g v o' w') := fun w' h => (OutTo.trans k1 n1 (OutTo.behind hb2 h)).cast HT.out.1 HT.out.2
  generalize withP (E, false) s true = o2 at HL HR
  clear HT HN a1 k1 n1 hrow hb2 hc
  go_wp2_with fail
  refine HL.out.mono ?_
  rintro e w3 ⟨rfl, h3⟩
  go_wp2
  go_end0
  exact ⟨rfl, HR.out _ h3⟩
theorem otext_any (g : Nat) (v : Value) (o : ByteArray × Bool) (s : ByteArray) (w : World) (h : OutAt w g v o) :
    Calls Try.prog 25 #[.pointer (some ⟨g, 0, none⟩), .string s] w fun e w' => e = .returned (.tuple #[]) ∧ OutTo w g v (textP o s) w' := by
  obtain ⟨S, b⟩ := o
  cases b with
  | true =>
    have e : textP (S, true) s = (S, true) := by unfold textP; rw [withP_bad, withP_bad]; split <;> rfl
    rw [e]
    exact otext_stop g v (S, true) (S, true) s w h (withP_bad _ _ _) rfl
  | false =>
    have hok := OutAt.ok.1 h
    have hSs : S.size ≤ 65536 := hok.2.2.2
    by_cases hs : s.size ≤ 65535
    · by_cases hS : S.size + 2 ≤ 65536
      · exact otext_on g v S s w hok hs hS
      · have hq : oneOk (s.size : Int) 65535 = true := by unfold oneOk; rw [Bool.and_eq_true, decide_eq_true_iff, decide_eq_true_iff]; omega
        have e : textP (S, false) s = (S, true) := by
          unfold textP
          rw [if_neg (by omega), withP_long _ _ (by rw [ByteArray.size_append, bigB_size]; omega)]
        rw [e]
        exact otext_stop g v (S, false) (S, true) s w h (by rw [hq, withP_long _ _ (by rw [bigB_size]; omega)]) rfl
    · have hq : oneOk (s.size : Int) 65535 = false := by unfold oneOk; rw [Bool.and_eq_false_iff, decide_eq_false_iff_not, decide_eq_false_iff_not]; omega
      have e : textP (S, false) s = (S, true) := by unfold textP; rw [if_pos (by omega), withP_not]
      rw [e]
      exact otext_stop g v (S, false) (S, true) s w h (by rw [hq, withP_not]) rfl

set_option maxHeartbeats 1000000 in
set_option maxRecDepth 100000 in
theorem odone_any (g : Nat) (v : Value) (o : ByteArray × Bool) (w : World) (h : OutAt w g v o) :
    Calls Try.prog 12 #[.pointer (some ⟨g, 0, none⟩)] w fun e w' => e = .returned (doneP o) ∧ w' = w := by
  obtain ⟨S, b⟩ := o
  cases b with
  | true =>
    have HC : Hid (∀ w', w' = w → Calls Try.prog 30 #[.pointer (some ⟨g, 0, none⟩)] w' fun e w'' => e = .returned (.bool false) ∧ w'' = w') := fun w' e => by subst e; exact owell_bad g _ (OutAt.bad.1 h).1
    clear h
    go_enter Try.func12, Try.ntmps12
    go_wp2_with fail
    refine (HC.out _ rfl).mono ?_
    rintro e w1 ⟨rfl, rfl⟩
    go_wp2
    go_ret2
    exact ⟨rfl, rfl⟩
  | false =>
    have h' := OutAt.ok.1 h
    have HC : Hid (∀ w', w' = w → Calls Try.prog 30 #[.pointer (some ⟨g, 0, none⟩)] w' fun e w'' => e = .returned (.bool true) ∧ w'' = w') := fun w' e => by subst e; exact owell_ok g _ _ h'.1
    have c1 : w.cell? ⟨g, 1, none⟩ = some v := h'.1.cell 1
    have hcv := h'.2.1.conv (P := Try.prog) 49 9 Try.underlying49 Try.underlying5 Try.underlying9
    obtain ⟨ao, cap, hv⟩ := h'.2.1.slice
    subst hv
    clear h h'
    go_enter Try.func12, Try.ntmps12
    go_wp2_with fail
    refine (HC.out _ rfl).mono ?_
    rintro e w1 ⟨rfl, rfl⟩
    go_wp2
    go_ret2
    exact ⟨rfl, rfl⟩

set_option maxHeartbeats 1000000 in
theorem obyte_nil (n : Int) (w : World) : Calls Try.prog 22 #[.pointer none, .int .i64 n] w fun e w' => e = .returned (.tuple #[]) ∧ w' = w := by
  go_enter Try.func22, Try.ntmps22
  go_wp2_with fail
  refine (number_nil _ _ _ _).mono ?_
  rintro e w1 ⟨rfl, rfl⟩
  go_wp2
  go_end0
  exact ⟨rfl, rfl⟩
set_option maxHeartbeats 1000000 in
theorem onum_nil (n : Int) (w : World) : Calls Try.prog 23 #[.pointer none, .int .i64 n] w fun e w' => e = .returned (.tuple #[]) ∧ w' = w := by
  go_enter Try.func23, Try.ntmps23
  go_wp2_with fail
  refine (number_nil _ _ _ _).mono ?_
  rintro e w1 ⟨rfl, rfl⟩
  go_wp2
  go_end0
  exact ⟨rfl, rfl⟩
set_option maxHeartbeats 1000000 in
theorem otext_nil (s : ByteArray) (w : World) : Calls Try.prog 25 #[.pointer none, .string s] w fun e w' => e = .returned (.tuple #[]) ∧ w' = w := by
  go_enter Try.func25, Try.ntmps25
  go_wp2_with fail
  refine (number_nil _ _ _ _).mono ?_
  rintro e w1 ⟨rfl, rfl⟩
  go_wp2
  go_end0
  exact ⟨rfl, rfl⟩
set_option maxHeartbeats 1000000 in
theorem ostamp_nil (t u : Int) (w : World) : Calls Try.prog 24 #[.pointer none, .agg #[.int .i64 t, .int .i64 u]] w fun e w' => e = .returned (.tuple #[]) ∧ Below w.heap.size w w' := by
  go_enter Try.func24, Try.ntmps24
  go_wp2_with fail
  refine (onum_nil _ _).mono ?_
  rintro e w1 ⟨rfl, hw1⟩
  subst hw1
  go_wp2_with fail
  refine (obyte_nil _ _).mono ?_
  rintro e w2 ⟨rfl, hw2⟩
  subst hw2
  go_wp2
  go_end0
  exact ⟨rfl, below_new w _⟩
set_option maxHeartbeats 1000000 in
theorem odone_nil (w : World) : Calls Try.prog 12 #[.pointer none] w fun e w' => e = .returned (.tuple #[.string ⟨#[]⟩, .int .i64 1]) ∧ w' = w := by
  go_enter Try.func12, Try.ntmps12
  go_wp2_with fail
  refine (owell_nil _).mono ?_
  rintro e w1 ⟨rfl, rfl⟩
  go_wp2
  go_ret2
  exact ⟨rfl, rfl⟩
end Go.Proofs.Ytmpjhflbmngajaa
