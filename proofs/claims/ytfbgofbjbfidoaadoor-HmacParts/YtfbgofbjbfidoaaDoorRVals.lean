import Derived.Test.YtfbgofbjbfidoaaDoorRSched
namespace Go.Proofs.YtfbgofbjbfidoaaDoor
open Go.RowKit

theorem w64_small (n : Int) (h0 : 0 ≤ n) (h1 : n < 9223372036854775808) : wrap64 n = n := by unfold wrap64; omega
theorem IntsAt.cellAt {w : World} {g n : Nat} {l : List Int} (h : IntsAt w .i64 (some ⟨g, 0, none⟩) n l) (j : Nat) (hj : j < n) : w.cell? ⟨g, j, none⟩ = some (.int .i64 (l.getD j 0)) := by
  rcases h.2 with h0 | ⟨b, off, he, hc⟩
  · omega
  · cases he
    have := hc j hj
    rw [Nat.zero_add] at this; exact this

/-- What the rounds hold. -/
def Rounds (R : Nat → List Nat) (W : Nat → Nat) (x : List Nat) : Prop := R 0 = x ∧ (∀ k, R (k + 1) = rnd (kN.getD k 0) (W k) (R k)) ∧ ∀ k, Ok (R k)
theorem tV_lt (E F G H Z Y : Nat) : tV E F G H Z Y < 4294967296 := Nat.mod_lt _ (by decide)
theorem uV_lt (A B C : Nat) : uV A B C < 4294967296 := Nat.mod_lt _ (by decide)
theorem i64_not (E : Nat) (h : E < 4294967296) : bits .xor .i64 (if IntKind.i64.signed = true then -1 else 9223372036854775807) (E : Int) % 4294967296 = ((4294967295 - E : Nat) : Int) := by
  show IntKind.i64.wrap ((BitVec.ofInt 64 (-1) ^^^ BitVec.ofInt 64 (E : Int)).toNat : Int) % 4294967296 = _
  rw [show BitVec.ofInt 64 (-1) = BitVec.allOnes 64 by decide, BitVec.allOnes_xor, BitVec.toNat_not, BitVec.ofInt_natCast, BitVec.toNat_ofNat, Nat.mod_eq_of_lt (show E < 2 ^ 64 by omega), IntKind.wrap_i64]
  omega
theorem rt_val (E F G H Z Y : Nat) (lE : E < 4294967296) (lF : F < 4294967296) (lG : G < 4294967296) (lH : H < 4294967296) (lZ : Z < 4294967296) (lY : Y < 4294967296) :
    wrap64 (wrap64 (wrap64 (wrap64 ((H : Int) + bits .xor .i64 (bits .xor .i64 ((rr E 6 : Nat) : Int) ((rr E 11 : Nat) : Int)) ((rr E 25 : Nat) : Int)) +
      bits .xor .i64 (bits .and .i64 (E : Int) (F : Int)) (bits .and .i64 (bits .xor .i64 (if IntKind.i64.signed = true then -1 else 9223372036854775807) (E : Int) % 4294967296) (G : Int))) + (Z : Int)) + (Y : Int)) % 4294967296 = ((tV E F G H Z Y : Nat) : Int) := by
  have h6 := rr_lt E 6 lE
  have h11 := rr_lt E 11 lE
  have h25 := rr_lt E 25 lE
  have hx := xor_lt32 _ _ h6 h11
  have hb := bs1_lt E lE
  have ha := and_lt32 E F lE
  have ha' := and_lt32 (4294967295 - E) G (by omega)
  have hc := chN_lt E F G lE
  rw [i64_not E lE, i64_xor_nat (rr E 6) (rr E 11) (by omega) (by omega), i64_xor_nat (rr E 6 ^^^ rr E 11) (rr E 25) (by omega) (by omega), i64_and_nat E F (by omega) (by omega), i64_and_nat (4294967295 - E) G (by omega) (by omega), i64_xor_nat (E &&& F) ((4294967295 - E) &&& G) (by omega) (by omega)]
  change wrap64 (wrap64 (wrap64 (wrap64 ((H : Int) + ((bs1 E : Nat) : Int)) + ((chN E F G : Nat) : Int)) + (Z : Int)) + (Y : Int)) % 4294967296 = _
  unfold tV
  generalize bs1 E = P at *
  generalize chN E F G = Q at *
  rw [w64_small ((H : Int) + (P : Int)) (by omega) (by omega), w64_small ((H : Int) + (P : Int) + (Q : Int)) (by omega) (by omega), w64_small ((H : Int) + (P : Int) + (Q : Int) + (Z : Int)) (by omega) (by omega), w64_small ((H : Int) + (P : Int) + (Q : Int) + (Z : Int) + (Y : Int)) (by omega) (by omega)]
  omega
theorem ru_val (A B C : Nat) (lA : A < 4294967296) (lB : B < 4294967296) (lC : C < 4294967296) :
    wrap64 (bits .xor .i64 (bits .xor .i64 ((rr A 2 : Nat) : Int) ((rr A 13 : Nat) : Int)) ((rr A 22 : Nat) : Int) +
      bits .xor .i64 (bits .xor .i64 (bits .and .i64 (A : Int) (B : Int)) (bits .and .i64 (A : Int) (C : Int))) (bits .and .i64 (B : Int) (C : Int))) % 4294967296 = ((uV A B C : Nat) : Int) := by
  have h6 := rr_lt A 2 lA
  have h11 := rr_lt A 13 lA
  have h25 := rr_lt A 22 lA
  have hx := xor_lt32 _ _ h6 h11
  have hb := bs0_lt A lA
  have ha := and_lt32 A B lA
  have ha' := and_lt32 A C lA
  have ha'' := and_lt32 B C lB
  have hy := xor_lt32 _ _ ha ha'
  have hc := majN_lt A B C lA lB
  rw [i64_xor_nat (rr A 2) (rr A 13) (by omega) (by omega), i64_xor_nat (rr A 2 ^^^ rr A 13) (rr A 22) (by omega) (by omega), i64_and_nat A B (by omega) (by omega), i64_and_nat A C (by omega) (by omega), i64_and_nat B C (by omega) (by omega), i64_xor_nat (A &&& B) (A &&& C) (by omega) (by omega), i64_xor_nat ((A &&& B) ^^^ (A &&& C)) (B &&& C) (by omega) (by omega)]
  change wrap64 (((bs0 A : Nat) : Int) + ((majN A B C : Nat) : Int)) % 4294967296 = _
  unfold uV
  generalize bs0 A = P at *
  generalize majN A B C = Q at *
  rw [w64_small ((P : Int) + (Q : Int)) (by omega) (by omega)]
  omega
end Go.Proofs.YtfbgofbjbfidoaaDoor
