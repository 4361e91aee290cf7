/- The code's sealer (layer 16): Seal, Open, Drawn, of an ideal one, of the real one, of one that nobody made. -/
import Derived.Test.YtfajkkjppelgcaaDoorVtD
namespace Go.Proofs.YtfajkkjppelgcaaDoor
open Go.RowKit
set_option maxRecDepth 100000
set_option linter.unusedSimpArgs false
set_option linter.unusedSectionVars false
variable [Inhabited TabZ]


/-- By which function an ideal sealer's way seals, opens. -/
theorem Tryd.mSeal (i : Nat) (w : World) : (method 35 44 (.pointer (some ⟨i, 0, none⟩)) "samphire/vault.seal").run Tryd.prog w = .ok (103, .pointer (some ⟨i, 0, none⟩)) w := by kernel_rfl

theorem Tryd.mOpen (i : Nat) (w : World) : (method 35 44 (.pointer (some ⟨i, 0, none⟩)) "samphire/vault.open").run Tryd.prog w = .ok (102, .pointer (some ⟨i, 0, none⟩)) w := by kernel_rfl

set_option maxHeartbeats 2000000 in
theorem vseal_ideal (g i m N : Nat) (S key nonce bound text : ByteArray) (T : List (ByteArray × Value)) (w : World) (hh : Hsh w) (hI : SlrAt w g i m S N T) (h : MayA key nonce bound.size text.size) (hS : S.size ≤ 65472) (hN : N < 1152921504606000000) :
    Calls Tryd.prog 9 #[.pointer (some ⟨g, 0, none⟩), .string key, .string nonce, .string bound, .string text] w fun e w' => e = .returned (.tuple #[.string (drawV S N (text.size + 16)), .int .i64 0]) ∧ SlrAt w' g i m S (N + upV (text.size + 16)) (putX T (drawV S N (text.size + 16)) (entV key nonce bound text)) ∧ Kept2 i (some m) w w' := by
  have C1 : Hid (∀ w', w' = w → _) := fun w' (e : w' = w) => by subst e; exact vhow_any g 44 (.pointer (some ⟨i, 0, none⟩)) w' hI.1
  have C2 : Hid (Calls _ _ _ _ _) := iseal_yes i m N S key nonce bound text T w hh hI.2 h hS hN
  have HI : Hid (SlrAt w g i m S N T) := hI
  have hms := Tryd.mSeal i
  generalize drawV S N (text.size + 16) = D at *
  generalize N + upV (text.size + 16) = N2 at *
  clear hh hI h hS hN
  go_enter Tryd.func9, Tryd.ntmps9
  go_wp2_with fail
  refine (C1.out _ rfl).mono ?_
  rintro e w1 ⟨rfl, hw1⟩
  subst hw1
  go_wp2_with fail
  refine C2.out.mono ?_
  rintro e w2 ⟨rfl, h2, k2⟩
  have X2 : Hid (SlrAt w2 g i m S N2 (putX T D (entV key nonce bound text))) := HI.out.turn k2 h2
  have K2 : Hid (Kept2 i (some m) w1 w2) := k2
  clear C1 C2 HI h2 k2
  go_wp2_with fail
  go_ret2
  exact ⟨rfl, X2.out, K2.out⟩

set_option maxHeartbeats 2000000 in
theorem vseal_idealNo (g i m N : Nat) (S key nonce bound text : ByteArray) (T : List (ByteArray × Value)) (w : World) (hI : SlrAt w g i m S N T) (h : ¬ MayA key nonce bound.size text.size) (hs : bound.size + text.size ≤ 4503599627370496) :
    Calls Tryd.prog 9 #[.pointer (some ⟨g, 0, none⟩), .string key, .string nonce, .string bound, .string text] w fun e w' => e = .returned (.tuple #[.string ⟨#[]⟩, .int .i64 1]) ∧ Below w.heap.size w w' := by
  have C1 : Hid (∀ w', w' = w → _) := fun w' (e : w' = w) => by subst e; exact vhow_any g 44 (.pointer (some ⟨i, 0, none⟩)) w' hI.1
  have C2 : Hid (Calls _ _ _ _ _) := iseal_no i key nonce bound text w h hs
  have hms := Tryd.mSeal i
  clear hI h hs
  go_enter Tryd.func9, Tryd.ntmps9
  go_wp2_with fail
  refine (C1.out _ rfl).mono ?_
  rintro e w1 ⟨rfl, hw1⟩
  subst hw1
  go_wp2_with fail
  refine C2.out.mono ?_
  rintro e w2 ⟨rfl, hb2⟩
  clear C1 C2
  go_wp2_with fail
  go_ret2
  exact ⟨rfl, hb2⟩

set_option maxHeartbeats 2000000 in
theorem vopen_lift (g i m N : Nat) (S key nonce bound sealed r : ByteArray) (n : Int) (T : List (ByteArray × Value)) (w : World) (hI : SlrAt w g i m S N T)
    (C : Calls Tryd.prog 102 #[.pointer (some ⟨i, 0, none⟩), .string key, .string nonce, .string bound, .string sealed] w fun e w' => e = .returned (.tuple #[.string r, .int .i64 n]) ∧ Below w.heap.size w w') :
    Calls Tryd.prog 10 #[.pointer (some ⟨g, 0, none⟩), .string key, .string nonce, .string bound, .string sealed] w fun e w' => e = .returned (.tuple #[.string r, .int .i64 n]) ∧ Below w.heap.size w w' := by
  have C1 : Hid (∀ w', w' = w → _) := fun w' (e : w' = w) => by subst e; exact vhow_any g 44 (.pointer (some ⟨i, 0, none⟩)) w' hI.1
  have C2 : Hid (Calls _ _ _ _ _) := C
  have hms := Tryd.mOpen i
  clear hI C
  go_enter Tryd.func10, Tryd.ntmps10
  go_wp2_with fail
  refine (C1.out _ rfl).mono ?_
  rintro e w1 ⟨rfl, hw1⟩
  subst hw1
  go_wp2_with fail
  refine C2.out.mono ?_
  rintro e w2 ⟨rfl, hb2⟩
  clear C1 C2
  go_wp2_with fail
  go_ret2
  exact ⟨rfl, hb2⟩

theorem Tryd.mSealR (w : World) : (method 35 43 (.agg #[]) "samphire/vault.seal").run Tryd.prog w = .ok (98, .agg #[]) w := by kernel_rfl

theorem Tryd.mOpenR (w : World) : (method 35 43 (.agg #[]) "samphire/vault.open").run Tryd.prog w = .ok (97, .agg #[]) w := by kernel_rfl

set_option maxHeartbeats 2000000 in
theorem cseal_lift (key nonce bound text r : ByteArray) (n : Int) (w : World)
    (C : ∀ w', Below w.heap.size w w' → Calls Tryd.prog 11 #[.string key, .string nonce, .string bound, .string text] w' fun e w'' => e = .returned (.tuple #[.string r, .int .i64 n]) ∧ Below w.heap.size w w'') :
    Calls Tryd.prog 98 #[.agg #[], .string key, .string nonce, .string bound, .string text] w fun e w' => e = .returned (.tuple #[.string r, .int .i64 n]) ∧ Below w.heap.size w w' := by
  have C2 : Hid (∀ w', _) := C
  clear C
  go_enter Tryd.func98, Tryd.ntmps98
  go_wp2_with fail
  refine (C2.out _ (below_new w _)).mono ?_
  rintro e w2 ⟨rfl, hb2⟩
  clear C2
  go_wp2_with fail
  go_ret2
  exact ⟨rfl, hb2⟩

set_option maxHeartbeats 2000000 in
theorem copen_lift (key nonce bound text r : ByteArray) (n : Int) (w : World)
    (C : ∀ w', Below w.heap.size w w' → Calls Tryd.prog 99 #[.string key, .string nonce, .string bound, .string text] w' fun e w'' => e = .returned (.tuple #[.string r, .int .i64 n]) ∧ Below w.heap.size w w'') :
    Calls Tryd.prog 97 #[.agg #[], .string key, .string nonce, .string bound, .string text] w fun e w' => e = .returned (.tuple #[.string r, .int .i64 n]) ∧ Below w.heap.size w w' := by
  have C2 : Hid (∀ w', _) := C
  clear C
  go_enter Tryd.func97, Tryd.ntmps97
  go_wp2_with fail
  refine (C2.out _ (below_new w _)).mono ?_
  rintro e w2 ⟨rfl, hb2⟩
  clear C2
  go_wp2_with fail
  go_ret2
  exact ⟨rfl, hb2⟩

set_option maxHeartbeats 2000000 in
theorem vseal_real (g : Nat) (key nonce bound text r : ByteArray) (n : Int) (w : World) (hI : RealAt w g)
    (C : ∀ w', Below w.heap.size w w' → Calls Tryd.prog 11 #[.string key, .string nonce, .string bound, .string text] w' fun e w'' => e = .returned (.tuple #[.string r, .int .i64 n]) ∧ Below w.heap.size w w'') :
    Calls Tryd.prog 9 #[.pointer (some ⟨g, 0, none⟩), .string key, .string nonce, .string bound, .string text] w fun e w' => e = .returned (.tuple #[.string r, .int .i64 n]) ∧ Below w.heap.size w w' := by
  have C1 : Hid (∀ w', w' = w → _) := fun w' (e : w' = w) => by subst e; exact vhow_any g 43 (.agg #[]) w' hI
  have C2 : Hid (Calls _ _ _ _ _) := cseal_lift key nonce bound text r n w C
  have hms := Tryd.mSealR
  clear hI C
  go_enter Tryd.func9, Tryd.ntmps9
  go_wp2_with fail
  refine (C1.out _ rfl).mono ?_
  rintro e w1 ⟨rfl, hw1⟩
  subst hw1
  go_wp2_with fail
  refine C2.out.mono ?_
  rintro e w2 ⟨rfl, hb2⟩
  clear C1 C2
  go_wp2_with fail
  go_ret2
  exact ⟨rfl, hb2⟩

set_option maxHeartbeats 2000000 in
theorem vopen_real (g : Nat) (key nonce bound text r : ByteArray) (n : Int) (w : World) (hI : RealAt w g)
    (C : ∀ w', Below w.heap.size w w' → Calls Tryd.prog 99 #[.string key, .string nonce, .string bound, .string text] w' fun e w'' => e = .returned (.tuple #[.string r, .int .i64 n]) ∧ Below w.heap.size w w'') :
    Calls Tryd.prog 10 #[.pointer (some ⟨g, 0, none⟩), .string key, .string nonce, .string bound, .string text] w fun e w' => e = .returned (.tuple #[.string r, .int .i64 n]) ∧ Below w.heap.size w w' := by
  have C1 : Hid (∀ w', w' = w → _) := fun w' (e : w' = w) => by subst e; exact vhow_any g 43 (.agg #[]) w' hI
  have C2 : Hid (Calls _ _ _ _ _) := copen_lift key nonce bound text r n w C
  have hms := Tryd.mOpenR
  clear hI C
  go_enter Tryd.func10, Tryd.ntmps10
  go_wp2_with fail
  refine (C1.out _ rfl).mono ?_
  rintro e w1 ⟨rfl, hw1⟩
  subst hw1
  go_wp2_with fail
  refine C2.out.mono ?_
  rintro e w2 ⟨rfl, hb2⟩
  clear C1 C2
  go_wp2_with fail
  go_ret2
  exact ⟨rfl, hb2⟩

set_option maxHeartbeats 2000000 in
theorem vseal_no (p : Value) (key nonce bound text : ByteArray) (w : World) (h : NoSlr w p) :
    Calls Tryd.prog 9 #[p, .string key, .string nonce, .string bound, .string text] w fun e w' => e = .returned (.tuple #[.string ⟨#[]⟩, .int .i64 1]) ∧ w' = w := by
  have C1 : Hid (∀ w', w' = w → _) := fun w' (e : w' = w) => by subst e; exact vhow_no p w' h
  clear h
  go_enter Tryd.func9, Tryd.ntmps9
  go_wp2_with fail
  refine (C1.out _ rfl).mono ?_
  rintro e w1 ⟨rfl, hw1⟩
  subst hw1
  go_wp2_with fail
  go_ret2
  exact ⟨rfl, rfl⟩

set_option maxHeartbeats 2000000 in
theorem vopen_no (p : Value) (key nonce bound text : ByteArray) (w : World) (h : NoSlr w p) :
    Calls Tryd.prog 10 #[p, .string key, .string nonce, .string bound, .string text] w fun e w' => e = .returned (.tuple #[.string ⟨#[]⟩, .int .i64 1]) ∧ w' = w := by
  have C1 : Hid (∀ w', w' = w → _) := fun w' (e : w' = w) => by subst e; exact vhow_no p w' h
  clear h
  go_enter Tryd.func10, Tryd.ntmps10
  go_wp2_with fail
  refine (C1.out _ rfl).mono ?_
  rintro e w1 ⟨rfl, hw1⟩
  subst hw1
  go_wp2_with fail
  go_ret2
  exact ⟨rfl, rfl⟩

set_option maxHeartbeats 2000000 in
theorem vdrawn_ideal (g i m N n : Nat) (S : ByteArray) (T : List (ByteArray × Value)) (w : World) (hh : Hsh w) (hI : SlrAt w g i m S N T) (hn : n ≤ 32768) (hS : S.size ≤ 65472) (hN : N < 1152921504606000000) :
    Calls Tryd.prog 12 #[.pointer (some ⟨g, 0, none⟩), .int .i64 (n : Int)] w fun e w' => e = .returned (.string (drawV S N n)) ∧ SlrAt w' g i m S (N + upV n) T ∧ Kept2 i (some m) w w' := by
  have C1 : Hid (∀ w', w' = w → _) := fun w' (e : w' = w) => by subst e; exact vhow_any g 44 (.pointer (some ⟨i, 0, none⟩)) w' hI.1
  have C2 : Hid (Calls _ _ _ _ _) := caught_yes (some ⟨i, 0, none⟩) w
  have C3 : Hid (∀ w', Below w.heap.size w w' → Calls Tryd.prog 22 #[.pointer (some ⟨i, 0, none⟩), .int .i64 (n : Int)] w' fun e w'' => e = .returned (.string (drawV S N n)) ∧ IdlAt w'' i m S (N + upV n) T ∧ Kept2 i (some m) w' w'') := fun w' hb => draw_any i m N n S T w' (hh.below hb) (hI.2.on hb) hS hN (by omega)
  have HI : Hid (SlrAt w g i m S N T) := hI
  have b0 : ¬ ((n : Int) < 0) := by omega
  have b1 : ¬ ((32768 : Int) < (n : Int)) := by omega
  have q0 : decide ((n : Int) < 0) = false := decide_eq_false b0
  have q1 : decide ((32768 : Int) < (n : Int)) = false := decide_eq_false b1
  generalize drawV S N n = D at *
  generalize N + upV n = N2 at *
  clear hh hI hS hN hn
  go_enter Tryd.func12, Tryd.ntmps12
  go_wp2_with fail
  refine (C1.out _ rfl).mono ?_
  rintro e w1 ⟨rfl, hw1⟩
  subst hw1
  go_wp2_with fail
  refine C2.out.mono ?_
  rintro e w2 ⟨rfl, hb2⟩
  have HB2 : Hid (Below w1.heap.size w1 w2) := hb2
  clear C1 C2 hb2
  go_wp2_with fail
  refine (C3.out _ HB2.out).mono ?_
  rintro e w3 ⟨rfl, h3, k3⟩
  have K3 : Hid (Kept2 i (some m) w1 w3) := Kept2.behind HB2.out k3
  have X3 : Hid (SlrAt w3 g i m S N2 T) := HI.out.turn K3.out h3
  clear C3 h3 k3 HB2 HI
  go_wp2_with fail
  go_ret
  exact ⟨rfl, X3.out, K3.out⟩


set_option maxHeartbeats 2000000 in
theorem vdrawn_out (g i m N : Nat) (S : ByteArray) (n : Int) (T : List (ByteArray × Value)) (w : World) (hI : SlrAt w g i m S N T) (hn : n < 0 ∨ 32768 < n) :
    Calls Tryd.prog 12 #[.pointer (some ⟨g, 0, none⟩), .int .i64 n] w fun e w' => e = .returned (.string ⟨#[]⟩) ∧ Below w.heap.size w w' := by
  have C1 : Hid (∀ w', w' = w → _) := fun w' (e : w' = w) => by subst e; exact vhow_any g 44 (.pointer (some ⟨i, 0, none⟩)) w' hI.1
  have C2 : Hid (Calls _ _ _ _ _) := caught_yes (some ⟨i, 0, none⟩) w
  clear hI
  by_cases h0 : n < 0
  · have q0 : decide (n < 0) = true := decide_eq_true h0
    clear hn
    go_enter Tryd.func12, Tryd.ntmps12
    go_wp2_with fail
    refine (C1.out _ rfl).mono ?_
    rintro e w1 ⟨rfl, hw1⟩
    subst hw1
    go_wp2_with fail
    refine C2.out.mono ?_
    rintro e w2 ⟨rfl, hb2⟩
    clear C1 C2
    go_wp2_with fail
    go_ret
    exact ⟨rfl, hb2⟩
  · have h1 : 32768 < n := by omega
    have q0 : decide (n < 0) = false := decide_eq_false h0
    have q1 : decide (32768 < n) = true := decide_eq_true h1
    clear hn
    go_enter Tryd.func12, Tryd.ntmps12
    go_wp2_with fail
    refine (C1.out _ rfl).mono ?_
    rintro e w1 ⟨rfl, hw1⟩
    subst hw1
    go_wp2_with fail
    refine C2.out.mono ?_
    rintro e w2 ⟨rfl, hb2⟩
    clear C1 C2
    go_wp2_with fail
    go_ret
    exact ⟨rfl, hb2⟩

set_option maxHeartbeats 2000000 in
theorem vdrawn_real (g : Nat) (n : Int) (w : World) (hI : RealAt w g) :
    Calls Tryd.prog 12 #[.pointer (some ⟨g, 0, none⟩), .int .i64 n] w fun e w' => e = .returned (.string ⟨#[]⟩) ∧ Below w.heap.size w w' := by
  have C1 : Hid (∀ w', w' = w → _) := fun w' (e : w' = w) => by subst e; exact vhow_any g 43 (.agg #[]) w' hI
  have C2 : Hid (Calls _ _ _ _ _) := caught_no (.iface 43 (.agg #[])) w (.inr rfl)
  clear hI
  go_enter Tryd.func12, Tryd.ntmps12
  go_wp2_with fail
  refine (C1.out _ rfl).mono ?_
  rintro e w1 ⟨rfl, hw1⟩
  subst hw1
  go_wp2_with fail
  refine C2.out.mono ?_
  rintro e w2 ⟨rfl, hb2⟩
  clear C1 C2
  go_wp2_with fail
  go_ret
  exact ⟨rfl, hb2⟩

set_option maxHeartbeats 2000000 in
theorem vdrawn_no (p : Value) (n : Int) (w : World) (h : NoSlr w p) :
    Calls Tryd.prog 12 #[p, .int .i64 n] w fun e w' => e = .returned (.string ⟨#[]⟩) ∧ Below w.heap.size w w' := by
  have C1 : Hid (∀ w', w' = w → _) := fun w' (e : w' = w) => by subst e; exact vhow_no p w' h
  have C2 : Hid (Calls _ _ _ _ _) := caught_no .nilIface w (.inl rfl)
  clear h
  go_enter Tryd.func12, Tryd.ntmps12
  go_wp2_with fail
  refine (C1.out _ rfl).mono ?_
  rintro e w1 ⟨rfl, hw1⟩
  subst hw1
  go_wp2_with fail
  refine C2.out.mono ?_
  rintro e w2 ⟨rfl, hb2⟩
  clear C1 C2
  go_wp2_with fail
  go_ret
  exact ⟨rfl, hb2⟩

end Go.Proofs.YtfajkkjppelgcaaDoor
