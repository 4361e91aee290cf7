import Derived.Test.YtabhkebkbidfhaaGreatDoorC9
import Derived.Test.YtabhkebkbidfhaaGreatDoorRT
import Derived.Test.YtabhkebkbidfhaaGreatDoorTY
/- An operation as bytes, there and back, on plain data (layer 13). -/
namespace Go.Proofs.YtabhkebkbidfhaaGreatDoor
open Go.RowKit
set_option maxRecDepth 100000
set_option linter.unusedSimpArgs false

theorem enc1 (a b : Int) (s : ByteArray) : encP (1, a, b, s) = bigB a 1 := by
  unfold encP kd pn
  rw [if_pos rfl]

theorem encA_snoc (l : List (Int × Int × Int × ByteArray)) (m : List (Int × Int × Int × ByteArray)) : encA (l ++ m) = encA l ++ encA m := by
  induction l with
  | nil => show encA m = ByteArray.empty ++ encA m; rw [ByteArray.empty_append]
  | cons p l ih => show encP p ++ encA (l ++ m) = (encP p ++ encA l) ++ encA m; rw [ih, append_mid]

theorem backC1 (n a : Int) (s T : ByteArray) (h : okP (1, n, a, s) = true) : (numberP (encP (1, n, a, s) ++ T, 0) 1).1 = (T, 0) ∧ ((numberP (encP (1, n, a, s) ++ T, 0) 1).2 : Int) = n := by
  obtain ⟨N, h1, h2⟩ := back1 (1, n, a, s) T rfl h
  rw [h1]
  exact ⟨rfl, h2⟩

theorem writeA_fit : ∀ (l : List (Int × Int × Int × ByteArray)) (S : ByteArray), (∀ p ∈ l, okP p = true) → S.size + (encA l).size ≤ 65536 → writeA (S, false) l = (S ++ encA l, false) := by
  intro l
  induction l with
  | nil => intro S _ _; show (S, false) = (S ++ ByteArray.empty, false); rw [ByteArray.append_empty]
  | cons p l ih =>
    intro S h hn
    have hn' : S.size + ((encP p).size + (encA l).size) ≤ 65536 := by rw [← ByteArray.size_append]; exact hn
    show writeA (writeP (S, false) p) l = _
    rw [writeP_eq, h p (List.mem_cons_self ..), layP_true _ _ (by omega), ih _ (fun q hq => h q (List.mem_cons_of_mem _ hq)) (by rw [ByteArray.size_append]; omega)]
    show _ = (S ++ (encP p ++ encA l), false)
    rw [append_mid]

def doneQ (x : ByteArray × Bool) : ByteArray × Int := if x.2 = true then (⟨#[]⟩, 1) else (x.1, 0)

def op0 : OpT := (0, (0, 0), (0, 0), (0, 0), ⟨#[]⟩, ⟨#[]⟩)

end Go.Proofs.YtabhkebkbidfhaaGreatDoor

/- The code's writeOp, PutOp (layer 13). -/
namespace Go.Proofs.YtabhkebkbidfhaaGreatDoor
open Go.RowKit
set_option maxRecDepth 100000
set_option linter.unusedSimpArgs false

theorem doneP_Q (x : ByteArray × Bool) : doneP x = .tuple #[.string (doneQ x).1, .int .i64 (doneQ x).2] := by
  unfold doneP doneQ
  obtain ⟨S, b⟩ := x
  cases b <;> rfl

end Go.Proofs.YtabhkebkbidfhaaGreatDoor

/- The code's readOp, asPut of operations, TakeOp (layer 13). -/
namespace Go.Proofs.YtabhkebkbidfhaaGreatDoor
open Go.RowKit
set_option maxRecDepth 100000
set_option linter.unusedSimpArgs false

end Go.Proofs.YtabhkebkbidfhaaGreatDoor

/- The code's asPut of operations, TakeOp (layer 13). -/
namespace Go.Proofs.YtabhkebkbidfhaaGreatDoor
open Go.RowKit
set_option maxRecDepth 100000
set_option linter.unusedSimpArgs false

theorem text_ne {a b : ByteArray} (h : ¬ a = b) : (a.toList == b.toList) = false := by
  cases e : (a.toList == b.toList) with
  | false => rfl
  | true =>
    refine absurd ?_ h
    have := eq_of_beq e
    rw [toList_data, toList_data] at this
    exact ByteArray.ext (Array.toList_inj.1 this)

end Go.Proofs.YtabhkebkbidfhaaGreatDoor
