/- Layer 17: the document's device and the code's, side by side: any call. -/
import Derived.Test.YtaakmcihpdbilaaGreatDoorBK
namespace Go.Proofs.YtaakmcihpdbilaaGreatDoor
open Go.RowKit
set_option maxRecDepth 100000
set_option linter.unusedSimpArgs false
set_option maxRecDepth 100000

/-- What Write leaves and answers; what Read answers. -/
def wrP (D : DevT) (k : Int) (s : ByteArray) : DevT × Int := if (0 ≤ k ∧ k < (D.1.length : Int)) ∧ s.size = 64 then writeB D k.toNat s else (D, 1)

def rdP (D : DevT) (k : Int) : ByteArray × Int := if 0 ≤ k ∧ k < (D.1.length : Int) then readB D k.toNat else (⟨#[]⟩, 1)

def OkD (D : DevT) : Prop := D.1.length ≤ 4096 ∧ (0 ≤ D.2.2.2 ∧ D.2.2.2 < 1152921504606846976) ∧ -1 ≤ D.2.1 ∧ D.2.1 ≤ 9223372036854775807

theorem writeB_err (D : DevT) (k : Nat) (s : ByteArray) (h : D.2.2.1 = true ∨ D.2.1 = 0) : writeB D k s = (offB D, 170) := by
  unfold writeB
  rw [if_pos h]
theorem writeB_ok (D : DevT) (k : Nat) (s : ByteArray) (h1 : D.2.2.1 = false) (h2 : D.2.1 ≠ 0) : (writeB D k s).2 = 0 := by
  unfold writeB
  rw [if_neg (by rintro (e | e); · rw [h1] at e; cases e
                 · exact h2 e)]

theorem dwrite_all (g b : Nat) (D : DevT) (k : Int) (s : ByteArray) (w : World) (h : DevAt w g b D) (hD : OkD D) :
    Calls Tryz.prog 11 #[.pointer (some ⟨g, 0, none⟩), .int .i64 k, .string s] w fun e w' => e = .returned (.int .i64 (wrP D k s).2) ∧ DevTo w g b (wrP D k s).1 w' := by
  unfold wrP
  by_cases hm : MayWr D k s
  · rw [if_pos (show (0 ≤ k ∧ k < (D.1.length : Int)) ∧ s.size = 64 from hm)]
    obtain ⟨n, rfl⟩ : ∃ n : Nat, k = (n : Int) := ⟨k.toNat, by have := hm.1.1; omega⟩
    rw [Int.toNat_natCast]
    have hk : n < D.1.length := by have := hm.1.2; omega
    by_cases ho : D.2.2.1 = true ∨ D.2.1 = 0
    · rw [writeB_err D n s ho]
      exact dwrite_off g b D n s w h hk hm.2 ho
    · have h1 : D.2.2.1 = false := Bool.eq_false_iff.2 (fun e => ho (.inl e))
      have h2 : D.2.1 ≠ 0 := fun e => ho (.inr e)
      rw [writeB_ok D n s h1 h2]
      exact dwrite_yes g b D n s w h hk hm.2 h1 h2 hD.2.1
  · rw [if_neg (show ¬ ((0 ≤ k ∧ k < (D.1.length : Int)) ∧ s.size = 64) from hm)]
    exact (dwrite_arg g b D k s w h hm).mono fun e w' h' => ⟨h'.1, by rw [h'.2]; exact DevTo.same h⟩

theorem rwrite_all (D : DevT) (v : Value) (k : Int) (s : ByteArray) (w : World) (h : DevIn w v D) (hD : OkD D) :
    Calls Tryz.prog 10 #[v, .int .i64 k, .string s] w fun e w' => ∃ v', e = .returned (.tuple #[v', .int .i64 (wrP D k s).2]) ∧ DevIn w' v' (wrP D k s).1 ∧ Below w.heap.size w w' := by
  have hl : D.1.length ≤ 1048576 := by have := hD.1; omega
  unfold wrP
  by_cases hm : MayWr D k s
  · rw [if_pos (show (0 ≤ k ∧ k < (D.1.length : Int)) ∧ s.size = 64 from hm)]
    obtain ⟨n, rfl⟩ : ∃ n : Nat, k = (n : Int) := ⟨k.toNat, by have := hm.1.1; omega⟩
    rw [Int.toNat_natCast]
    have hk : n < D.1.length := by have := hm.1.2; omega
    by_cases ho : D.2.2.1 = true ∨ D.2.1 = 0
    · rw [writeB_err D n s ho]
      exact rwrite17_off D v n s w h hl hk hm.2 ho
    · have h1 : D.2.2.1 = false := Bool.eq_false_iff.2 (fun e => ho (.inl e))
      have h2 : D.2.1 ≠ 0 := fun e => ho (.inr e)
      rw [writeB_ok D n s h1 h2]
      exact rwrite17_yes D v n s w h hl hk hm.2 h1 h2 hD.2.1 hD.2.2
  · rw [if_neg (show ¬ ((0 ≤ k ∧ k < (D.1.length : Int)) ∧ s.size = 64) from hm)]
    exact rwrite17_arg D v k s w h hl hm

theorem dread_all (g b : Nat) (D : DevT) (k : Int) (w : World) (h : DevAt w g b D) :
    Calls Tryz.prog 14 #[.pointer (some ⟨g, 0, none⟩), .int .i64 k] w fun e w' => e = .returned (.tuple #[.string (rdP D k).1, .int .i64 (rdP D k).2]) ∧ w' = w := by
  unfold rdP
  by_cases hm : MayB D k
  · rw [if_pos (show 0 ≤ k ∧ k < (D.1.length : Int) from hm)]
    obtain ⟨n, rfl⟩ : ∃ n : Nat, k = (n : Int) := ⟨k.toNat, by have := hm.1; omega⟩
    rw [Int.toNat_natCast]
    exact dread_any g b D n w h (by have := hm.2; omega)
  · rw [if_neg (show ¬ (0 ≤ k ∧ k < (D.1.length : Int)) from hm)]
    exact dread_arg g b D k w h hm

/-- What the calls leave of a device's measures. -/
theorem wrP_len (D : DevT) (k : Int) (s : ByteArray) : (wrP D k s).1.1.length = D.1.length := by
  unfold wrP
  split
  · unfold writeB
    split
    · rfl
    · exact List.length_set
  · rfl
theorem wrP_N (D : DevT) (k : Int) (s : ByteArray) (c : Int) (h : 0 ≤ D.2.2.2 ∧ D.2.2.2 ≤ c) : 0 ≤ (wrP D k s).1.2.2.2 ∧ (wrP D k s).1.2.2.2 ≤ c + 1 := by
  unfold wrP
  split
  · unfold writeB
    split
    · exact ⟨h.1, by show D.2.2.2 ≤ c + 1; omega⟩
    · exact ⟨by show 0 ≤ D.2.2.2 + 1; omega, by show D.2.2.2 + 1 ≤ c + 1; omega⟩
  · exact ⟨h.1, by show D.2.2.2 ≤ c + 1; omega⟩
theorem wrP_F (D : DevT) (k : Int) (s : ByteArray) (h : -1 ≤ D.2.1 ∧ D.2.1 ≤ 9223372036854775807) : -1 ≤ (wrP D k s).1.2.1 ∧ (wrP D k s).1.2.1 ≤ 9223372036854775807 := by
  unfold wrP
  split
  · unfold writeB
    split
    · exact ⟨by show (-1 : Int) ≤ -1; omega, by show (-1 : Int) ≤ _; omega⟩
    · show -1 ≤ (if 0 < D.2.1 then D.2.1 - 1 else D.2.1) ∧ (if 0 < D.2.1 then D.2.1 - 1 else D.2.1) ≤ 9223372036854775807
      split <;> omega
  · exact h

/-- The document's row lies apart from the code's blocks, for another thing is there. -/
theorem RowD.apart {w : World} {r c g b : Nat} {L : List ByteArray} {D : DevT} (h : RowD w r c L) (hl : 0 < L.length) (hd : DevAt w g b D) (hD : 0 < D.1.length) : r ≠ g ∧ r ≠ b := by
  have h0 := h.2 0 hl
  obtain ⟨F, a1, ⟨cs, b1, b2, b3⟩, _⟩ := hd
  constructor
  · rintro rfl
    have e : w.cell? ⟨r, 0, none⟩ = some (.pointer (some ⟨r, 0, none⟩)) := a1.cell 0
    rw [h0] at e
    cases e
  · rintro rfl
    rw [b1.cell 0, b3 0 (by omega)] at h0
    cases h0
theorem RowD.apartQ {w : World} {r c q : Nat} {L : List ByteArray} {t : TypeId} {cs : Array Value} {a : Option Addr} {n m : Nat} (h : RowD w r c L) (hl : 0 < L.length) (hq : Blk w t q cs) (hc : cs[0]? = some (.slice a n m)) : r ≠ q := by
  have h0 := h.2 0 hl
  rintro rfl
  rw [hq.cell 0, hc] at h0
  cases h0
theorem RowD.dev {w w' : World} {r c g b : Nat} {L : List ByteArray} {D : DevT} (h : RowD w r c L) (hd : DevTo w g b D w') (h1 : r ≠ g) (h2 : r ≠ b) : RowD w' r c L :=
  ⟨h.1, fun i hi => by
    have h0 := h.2 i hi
    have hlt := World.block_lt_of_cell? w _ h0
    have e := hd.2.block r hlt h1 (fun e => h2 (by cases e; rfl))
    rw [← h0]
    unfold World.cell?
    simp only [e]⟩

end Go.Proofs.YtaakmcihpdbilaaGreatDoor
