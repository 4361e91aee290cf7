import Derived.Test.YtagmfgaojmholaaDoorShaBehind
import Derived.Test.YtagmfgaojmholaaDoorRBlock
import Derived.Deep.MidRow
namespace Go.Proofs.YtagmfgaojmholaaDoor
open Go.RowKit
set_option linter.unusedSimpArgs false

section
variable {P : Program} {ops : Array Oper} {rest : List Oper} {o : Oper} {a : Act} {w : World} {Q : Exit → Act → World → Prop}
/-- Words that lie somewhere, read as a whole. -/
theorem wpList_loadCells (hgd : o.guard = none) (t : TypeId) (x : Operand) (ho : o.op = .load t x) (g : Nat) (l : List Nat) (hx : a.eval x = .pointer (some ⟨g, 0, none⟩)) (h : ∀ j, j < l.length → w.cell? ⟨g, j, none⟩ = some (.int .u32 ((l.getD j 0 : Nat) : Int)))
    (n : Nat) (e : TypeId) (hu : P.underlying t = some (.array n e)) (hi : (P.info? t).map (·.size) = some l.length) (hk : wpList P ops Q rest (a.put o.dst (.agg (vals l))) w) : wpList P ops Q (o :: rest) a w := by
  refine wpList_load_mid hgd t x ho g 0 hx (vals l).toList _ (fun j v hv => ?_) hu rfl ?_ ?_
  · rw [Nat.zero_add]
    have hj : j < l.length := by
      have := (List.getElem?_eq_some_iff.1 hv).1
      simpa [vals_size] using this
    rw [h j hj, ← vals_get l j hj, ← hv]; simp
  · rw [hi]; simp [vals_size]
  · simpa using hk
end

set_option maxHeartbeats 2000000 in
theorem begin_any (w : World) (hB : GlobB w) :
    Calls Tryd.prog 8 #[] w fun e w' => e = .returned (.string (ofN bN)) ∧ Below w.heap.size w w' := by
  have HB : Hid (∀ j, j < bN.length → w.cell? ⟨0, j, none⟩ = some (.int .u32 ((bN.getD j 0 : Nat) : Int))) := hB
  clear hB
  go_enter Tryd.func8, Tryd.ntmps8
  go_wp2_with (with_reducible refine wpList_loadCells rfl 36 _ rfl 0 bN ?hx HB.out 8 35 Tryd.underlying36 ?hi ?_)
  case hx => rfl
  case hi => exact Tryd.arr8
  refine (put_any bN _ rfl bN_ok).mono ?_
  rintro e w1 ⟨rfl, hb1⟩
  go_wp2_with fail
  go_ret
  exact ⟨rfl, hb1⟩

set_option maxHeartbeats 400000 in
theorem block_bad1 (s b : ByteArray) (w : World) (h : ¬ s.size = 32) :
    Calls Tryd.prog 10 #[.string s, .string b] w fun e w' => e = .returned (.tuple #[.string ⟨#[]⟩, .int .i64 1]) ∧ Below w.heap.size w w' := by
  have hn : (((s.size : Int) != 32)) = true := by rw [bne_iff_ne]; omega
  go_enter Tryd.func10, Tryd.ntmps10
  go_wp2
  go_ret2
  exact ⟨rfl, Below.refl _ _⟩

set_option maxHeartbeats 400000 in
theorem block_bad2 (s b : ByteArray) (w : World) (h : s.size = 32) (h' : ¬ b.size = 64) :
    Calls Tryd.prog 10 #[.string s, .string b] w fun e w' => e = .returned (.tuple #[.string ⟨#[]⟩, .int .i64 1]) ∧ Below w.heap.size w w' := by
  have hn : (((s.size : Int) != 32)) = false := by rw [bne_eq_false_iff_eq]; omega
  have hn' : (((b.size : Int) != 64)) = true := by rw [bne_iff_ne]; omega
  go_enter Tryd.func10, Tryd.ntmps10
  go_wp2
  go_ret2
  exact ⟨rfl, Below.refl _ _⟩

set_option maxHeartbeats 2000000 in
theorem block_ok (s b : ByteArray) (w : World) (hs : s.size = 32) (hb : b.size = 64) (hK : GlobK w) :
    Calls Tryd.prog 10 #[.string s, .string b] w fun e w' => e = .returned (.tuple #[.string (ofN (behindN (wordsN s) (bt b))), .int .i64 0]) ∧ Below w.heap.size w w' := by
  have hn : (((s.size : Int) != 32)) = false := by rw [bne_eq_false_iff_eq]; omega
  have hn' : (((b.size : Int) != 64)) = false := by rw [bne_eq_false_iff_eq]; omega
  have HK : Hid (GlobK w) := hK
  have HL : Hid ((wordsN s).length = 8) := by show _ = _; rw [wordsN_length, hs]
  have CR : Hid (∀ w, _) := fun w => read_any s w hs
  have CB : Hid (∀ w, GlobK w → _) := fun w h => behind_any (wordsN s) b w (by rw [wordsN_length, hs]) (wordsN_ok s) hb h
  clear hK
  go_enter Tryd.func10, Tryd.ntmps10
  go_wp2_with fail
  refine (CR.out _).mono ?_
  rintro e w1 ⟨rfl, hb1⟩
  go_wp2_with fail
  refine (CB.out _ (HK.out.below hb1)).mono ?_
  rintro e w2 ⟨rfl, hb2⟩
  go_wp2_with fail
  refine (put_any _ _ (behindN_length _ _) (behindN_ok _ _)).mono ?_
  rintro e w3 ⟨rfl, hb3⟩
  go_wp2_with fail
  go_ret2
  exact ⟨rfl, below_step (below_step hb1 (Nat.le_refl _) hb2) (Nat.le_refl _) hb3⟩
end Go.Proofs.YtagmfgaojmholaaDoor
