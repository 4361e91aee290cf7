/- The code's sealer (layer 16): Seal, Open, Drawn, of an ideal one, of the real one, of one that nobody made. -/
import Derived.Test.YtfajkkjppelgcaaVtD
namespace Go.Proofs.Ytfajkkjppelgcaa
open Go.RowKit
set_option maxRecDepth 100000
set_option linter.unusedSimpArgs false
set_option linter.unusedSectionVars false
variable [Inhabited TabZ]


/-- By which function an ideal sealer's way seals, opens. -/
theorem Try.mSeal (i : Nat) (w : World) : (method 40 35 (.pointer (some ⟨i, 0, none⟩)) "samphire/vault.seal").run Try.prog w = .ok (30, .pointer (some ⟨i, 0, none⟩)) w := by kernel_rfl

theorem Try.mOpen (i : Nat) (w : World) : (method 40 35 (.pointer (some ⟨i, 0, none⟩)) "samphire/vault.open").run Try.prog w = .ok (28, .pointer (some ⟨i, 0, none⟩)) w := by kernel_rfl

set_option maxHeartbeats 2000000 in
theorem vseal_ideal (g i m N : Nat) (S key nonce bound text : ByteArray) (T : List (ByteArray × Value)) (w : World) (hh : Hsh w) (hI : SlrAt w g i m S N T) (h : MayA key nonce bound.size text.size) (hS : S.size ≤ 65472) (hN : N < 1152921504606000000) :
    Calls Try.prog 6 #[.pointer (some ⟨g, 0, none⟩), .string key, .string nonce, .string bound, .string text] w fun e w' => e = .returned (.tuple #[.string (drawV S N (text.size + 16)), .int .i64 0]) ∧ SlrAt w' g i m S (N + upV (text.size + 16)) (putX T (drawV S N (text.size + 16)) (entV key nonce bound text)) ∧ Kept2 i (some m) w w' := by
  have C1 : Hid (∀ w', w' = w → _) := fun w' (e : w' = w) => by subst e; exact vhow_any g 35 (.pointer (some ⟨i, 0, none⟩)) w' hI.1
  have C2 : Hid (Calls _ _ _ _ _) := iseal_yes i m N S key nonce bound text T w hh hI.2 h hS hN
  have HI : Hid (SlrAt w g i m S N T) := hI
  have hms := Try.mSeal i
  generalize drawV S N (text.size + 16) = D at *
  generalize N + upV (text.size + 16) = N2 at *
  clear hh hI h hS hN
  go_enter Try.func6, Try.ntmps6
  go_wp2_with fail
  refine (C1.out _ rfl).mono ?_
  rintro e w1 ⟨rfl, hw1⟩
  subst hw1
  go_wp2_with fail
  refine C2.out.mono ?_
  rintro e w2 ⟨rfl, h2, k2⟩
  have X2 : Hid (SlrAt w2 g i m S N2 (putX T D (entV key nonce bound text))) := HI.out.turn k2 h2
  have K2 : Hid (Kept2 i (some m) w1 w2) := k2
  clear C1 C2 HI h2 k2
  go_wp2_with fail
  go_ret2
  exact ⟨rfl, X2.out, K2.out⟩

set_option maxHeartbeats 2000000 in
theorem vseal_idealNo (g i m N : Nat) (S key nonce bound text : ByteArray) (T : List (ByteArray × Value)) (w : World) (hI : SlrAt w g i m S N T) (h : ¬ MayA key nonce bound.size text.size) (hs : bound.size + text.size ≤ 4503599627370496) :
    Calls Try.prog 6 #[.pointer (some ⟨g, 0, none⟩), .string key, .string nonce, .string bound, .string text] w fun e w' => e = .returned (.tuple #[.string ⟨#[]⟩, .int .i64 1]) ∧ Below w.heap.size w w' := by
  have C1 : Hid (∀ w', w' = w → _) := fun w' (e : w' = w) => by subst e; exact vhow_any g 35 (.pointer (some ⟨i, 0, none⟩)) w' hI.1
  have C2 : Hid (Calls _ _ _ _ _) := iseal_no i key nonce bound text w h hs
  have hms := Try.mSeal i
  clear hI h hs
  go_enter Try.func6, Try.ntmps6
  go_wp2_with fail
  refine (C1.out _ rfl).mono ?_
  rintro e w1 ⟨rfl, hw1⟩
  subst hw1
  go_wp2_with fail
  refine C2.out.mono ?_
  rintro e w2 ⟨rfl, hb2⟩
  clear C1 C2
  go_wp2_with fail
  go_ret2
  exact ⟨rfl, hb2⟩

set_option maxHeartbeats 2000000 in
theorem vopen_lift (g i m N : Nat) (S key nonce bound sealed r : ByteArray) (n : Int) (T : List (ByteArray × Value)) (w : World) (hI : SlrAt w g i m S N T)
    (C : Calls Try.prog 28 #[.pointer (some ⟨i, 0, none⟩), .string key, .string nonce, .string bound, .string sealed] w fun e w' => e = .returned (.tuple #[.string r, .int .i64 n]) ∧ Below w.heap.size w w') :
    Calls Try.prog 7 #[.pointer (some ⟨g, 0, none⟩), .string key, .string nonce, .string bound, .string sealed] w fun e w' => e = .returned (.tuple #[.string r, .int .i64 n]) ∧ Below w.heap.size w w' := by
  have C1 : Hid (∀ w', w' = w → _) := fun w' (e : w' = w) => by subst e; exact vhow_any g 35 (.pointer (some ⟨i, 0, none⟩)) w' hI.1
  have C2 : Hid (Calls _ _ _ _ _) := C
  have hms := Try.mOpen i
  clear hI C
  go_enter Try.func7, Try.ntmps7
  go_wp2_with fail
  refine (C1.out _ rfl).mono ?_
  rintro e w1 ⟨rfl, hw1⟩
  subst hw1
  go_wp2_with fail
  refine C2.out.mono ?_
  rintro e w2 ⟨rfl, hb2⟩
  clear C1 C2
  go_wp2_with fail
  go_ret2
  exact ⟨rfl, hb2⟩

theorem Try.mSealR (w : World) : (method 40 45 (.agg #[]) "samphire/vault.seal").run Try.prog w = .ok (68, .agg #[]) w := by kernel_rfl

theorem Try.mOpenR (w : World) : (method 40 45 (.agg #[]) "samphire/vault.open").run Try.prog w = .ok (67, .agg #[]) w := by kernel_rfl

set_option maxHeartbeats 2000000 in
theorem cseal_lift (key nonce bound text r : ByteArray) (n : Int) (w : World)
    (C : ∀ w', Below w.heap.size w w' → Calls Try.prog 70 #[.string key, .string nonce, .string bound, .string text] w' fun e w'' => e = .returned (.tuple #[.string r, .int .i64 n]) ∧ Below w.heap.size w w'') :
    Calls Try.prog 68 #[.agg #[], .string key, .string nonce, .string bound, .string text] w fun e w' => e = .returned (.tuple #[.string r, .int .i64 n]) ∧ Below w.heap.size w w' := by
  have C2 : Hid (∀ w', _) := C
  clear C
  go_enter Try.func68, Try.ntmps68
  go_wp2_with fail
  refine (C2.out _ (below_new w _)).mono ?_
  rintro e w2 ⟨rfl, hb2⟩
  clear C2
  go_wp2_with fail
  go_ret2
  exact ⟨rfl, hb2⟩

set_option maxHeartbeats 2000000 in
theorem copen_lift (key nonce bound text r : ByteArray) (n : Int) (w : World)
    (C : ∀ w', Below w.heap.size w w' → Calls Try.prog 69 #[.string key, .string nonce, .string bound, .string text] w' fun e w'' => e = .returned (.tuple #[.string r, .int .i64 n]) ∧ Below w.heap.size w w'') :
    Calls Try.prog 67 #[.agg #[], .string key, .string nonce, .string bound, .string text] w fun e w' => e = .returned (.tuple #[.string r, .int .i64 n]) ∧ Below w.heap.size w w' := by
  have C2 : Hid (∀ w', _) := C
  clear C
  go_enter Try.func67, Try.ntmps67
  go_wp2_with fail
  refine (C2.out _ (below_new w _)).mono ?_
  rintro e w2 ⟨rfl, hb2⟩
  clear C2
  go_wp2_with fail
  go_ret2
  exact ⟨rfl, hb2⟩

set_option maxHeartbeats 2000000 in
theorem vseal_real (g : Nat) (key nonce bound text r : ByteArray) (n : Int) (w : World) (hI : RealAt w g)
    (C : ∀ w', Below w.heap.size w w' → Calls Try.prog 70 #[.string key, .string nonce, .string bound, .string text] w' fun e w'' => e = .returned (.tuple #[.string r, .int .i64 n]) ∧ Below w.heap.size w w'') :
    Calls Try.prog 6 #[.pointer (some ⟨g, 0, none⟩), .string key, .string nonce, .string bound, .string text] w fun e w' => e = .returned (.tuple #[.string r, .int .i64 n]) ∧ Below w.heap.size w w' := by
  have C1 : Hid (∀ w', w' = w → _) := fun w' (e : w' = w) => by subst e; exact vhow_any g 45 (.agg #[]) w' hI
  have C2 : Hid (Calls _ _ _ _ _) := cseal_lift key nonce bound text r n w C
  have hms := Try.mSealR
  clear hI C
  go_enter Try.func6, Try.ntmps6
  go_wp2_with fail
  refine (C1.out _ rfl).mono ?_
  rintro e w1 ⟨rfl, hw1⟩
  subst hw1
  go_wp2_with fail
  refine C2.out.mono ?_
  rintro e w2 ⟨rfl, hb2⟩
  clear C1 C2
  go_wp2_with fail
  go_ret2
  exact ⟨rfl, hb2⟩

set_option maxHeartbeats 2000000 in
theorem vopen_real (g : Nat) (key nonce bound text r : ByteArray) (n : Int) (w : World) (hI : RealAt w g)
    (C : ∀ w', Below w.heap.size w w' → Calls Try.prog 69 #[.string key, .string nonce, .string bound, .string text] w' fun e w'' => e = .returned (.tuple #[.string r, .int .i64 n]) ∧ Below w.heap.size w w'') :
    Calls Try.prog 7 #[.pointer (some ⟨g, 0, none⟩), .string key, .string nonce, .string bound, .string text] w fun e w' => e = .returned (.tuple #[.string r, .int .i64 n]) ∧ Below w.heap.size w w' := by
  have C1 : Hid (∀ w', w' = w → _) := fun w' (e : w' = w) => by subst e; exact vhow_any g 45 (.agg #[]) w' hI
  have C2 : Hid (Calls _ _ _ _ _) := copen_lift key nonce bound text r n w C
  have hms := Try.mOpenR
  clear hI C
  go_enter Try.func7, Try.ntmps7
  go_wp2_with fail
  refine (C1.out _ rfl).mono ?_
  rintro e w1 ⟨rfl, hw1⟩
  subst hw1
  go_wp2_with fail
  refine C2.out.mono ?_
  rintro e w2 ⟨rfl, hb2⟩
  clear C1 C2
  go_wp2_with fail
  go_ret2
  exact ⟨rfl, hb2⟩

set_option maxHeartbeats 2000000 in
theorem vseal_no (p : Value) (key nonce bound text : ByteArray) (w : World) (h : NoSlr w p) :
    Calls Try.prog 6 #[p, .string key, .string nonce, .string bound, .string text] w fun e w' => e = .returned (.tuple #[.string ⟨#[]⟩, .int .i64 1]) ∧ w' = w := by
  have C1 : Hid (∀ w', w' = w → _) := fun w' (e : w' = w) => by subst e; exact vhow_no p w' h
  clear h
  go_enter Try.func6, Try.ntmps6
  go_wp2_with fail
  refine (C1.out _ rfl).mono ?_
  rintro e w1 ⟨rfl, hw1⟩
  subst hw1
  go_wp2_with fail
  go_ret2
  exact ⟨rfl, rfl⟩

set_option maxHeartbeats 2000000 in
theorem vopen_no (p : Value) (key nonce bound text : ByteArray) (w : World) (h : NoSlr w p) :
    Calls Try.prog 7 #[p, .string key, .string nonce, .string bound, .string text] w fun e w' => e = .returned (.tuple #[.string ⟨#[]⟩, .int .i64 1]) ∧ w' = w := by
  have C1 : Hid (∀ w', w' = w → _) := fun w' (e : w' = w) => by subst e; exact vhow_no p w' h
  clear h
  go_enter Try.func7, Try.ntmps7
  go_wp2_with fail
  refine (C1.out _ rfl).mono ?_
  rintro e w1 ⟨rfl, hw1⟩
  subst hw1
  go_wp2_with fail
  go_ret2
  exact ⟨rfl, rfl⟩

end Go.Proofs.Ytfajkkjppelgcaa
