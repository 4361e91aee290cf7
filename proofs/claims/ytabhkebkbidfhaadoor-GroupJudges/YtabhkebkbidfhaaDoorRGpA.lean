/- Layer 20, the document's: groups; In, May. -/
import Derived.Test.YtabhkebkbidfhaaDoorBA
namespace Go.Proofs.YtabhkebkbidfhaaDoor
open Go.RowKit
set_option maxRecDepth 100000
set_option linter.unusedSimpArgs false
set_option linter.unusedVariables false
set_option maxRecDepth 100000

/-- A group's members: Who, Count, In. -/
abbrev MemT := Int × Int × Bool
def mmL (l : List MemT) (i : Nat) : MemT := l.getD i (0, 0, false)
def memA (x : MemT) : Array Value := #[.int .i64 x.1, .int .i64 x.2.1, .bool x.2.2]
def MmsAt (w : World) (a : Option Addr) (n : Nat) (l : List MemT) : Prop :=
  l.length = n ∧ (n = 0 ∨ ∃ b off, a = some ⟨b, off, none⟩ ∧ ∀ i, i < n → w.cell? ⟨b, off + i * 3, none⟩ = some (.int .i64 (mmL l i).1) ∧ w.cell? ⟨b, off + i * 3 + 1, none⟩ = some (.int .i64 (mmL l i).2.1) ∧ w.cell? ⟨b, off + i * 3 + 2, none⟩ = some (.bool (mmL l i).2.2))
theorem MmsAt.below {w w' : World} {a : Option Addr} {n : Nat} {l : List MemT} (h : MmsAt w a n l) (hb : Below w.heap.size w w') : MmsAt w' a n l := by
  refine ⟨h.1, h.2.imp id (fun ⟨b, off, e, hc⟩ => ⟨b, off, e, fun i hi => ?_⟩)⟩
  obtain ⟨h0, h1, h2⟩ := hc i hi
  exact ⟨by rw [hb.cell (World.block_lt_of_cell? w _ h0)]; exact h0, by rw [hb.cell (World.block_lt_of_cell? w _ h1)]; exact h1, by rw [hb.cell (World.block_lt_of_cell? w _ h2)]; exact h2⟩

/-- A group: Epoch, Members, Ops. -/
abbrev GrpT := Int × List MemT × Int
def grpA (G : GrpT) (a : Option Addr) (c : Nat) : Array Value := #[.int .i64 G.1, .slice a G.2.1.length c, .int .i64 G.2.2]

/-- Is there a member that is in? -/
def inB (l : List MemT) (who : Int) : Bool := l.any (fun x => decide (x.1 = who) && x.2.2)
theorem mmL_get (l : List MemT) (i : Nat) (h : i < l.length) : mmL l i = l[i] := by
  unfold mmL; rw [List.getD_eq_getElem?_getD, List.getElem?_eq_getElem h]; rfl
theorem inB_yes (l : List MemT) (who : Int) (i : Nat) (h : i < l.length) (h1 : (mmL l i).1 = who) (h2 : (mmL l i).2.2 = true) : inB l who = true := by
  unfold inB
  rw [List.any_eq_true]
  rw [mmL_get l i h] at h1 h2
  exact ⟨l[i], List.getElem_mem h, by rw [decide_eq_true h1, h2]; rfl⟩
theorem inB_no (l : List MemT) (who : Int) (h : ∀ i, i < l.length → ¬ ((mmL l i).1 = who ∧ (mmL l i).2.2 = true)) : inB l who = false := by
  unfold inB
  rw [List.any_eq_false]
  intro x hx
  obtain ⟨i, hi, e⟩ := List.mem_iff_getElem.1 hx
  have := h i hi
  rw [mmL_get l i hi, e] at this
  simpa using this

/-- May a group be? -/
def MayG (G : GrpT) : Prop := (1 ≤ G.1 ∧ G.1 ≤ 1099511627775) ∧ (0 ≤ G.2.2 ∧ G.2.2 ≤ 500) ∧ G.2.1.length = 6 ∧ ∀ i, i < 6 → (mmL G.2.1 i).1 = (i : Int) + 1 ∧ 0 ≤ (mmL G.2.1 i).2.1 ∧ (mmL G.2.1 i).2.1 ≤ 1099511627775 ∧ (i = 0 → (mmL G.2.1 i).2.2 = true)

set_option maxHeartbeats 2000000 in
theorem rin20_any (G : GrpT) (a : Option Addr) (c : Nat) (who : Int) (w : World) (hn : G.2.1.length ≤ 1048576) (hI : MmsAt w a G.2.1.length G.2.1) :
    Calls Tryd.prog 17 #[.agg (grpA G a c), .int .i64 who] w fun e w' => e = .returned (.bool (inB G.2.1 who)) ∧ Below w.heap.size w w' := by
  obtain ⟨Ep, l, Op⟩ := G
  simp only [grpA] at hI hn ⊢
  obtain ⟨D, hD⟩ : ∃ D, inB l who = D := ⟨_, rfl⟩
  rw [hD]
  have HD : Hid (inB l who = D) := hD
  clear hD
  obtain ⟨n, hnn⟩ : ∃ n, l.length = n := ⟨_, rfl⟩
  rw [hnn] at hI hn ⊢
  have HL : Hid (l.length = n) := hnn
  obtain ⟨w0, hw0⟩ : ∃ w0, w.alloc (.cells #[.int .i64 Ep, .slice a n c, .int .i64 Op] 24) = w0 := ⟨_, rfl⟩
  have HB0 : Hid (Below w.heap.size w w0) := by rw [← hw0]; exact below_new w _
  have HF0 : Hid (Blk w0 24 w.heap.size #[.int .i64 Ep, .slice a n c, .int .i64 Op]) := by rw [← hw0]; exact Blk.new _ _ _
  have HI : Hid (MmsAt w0 a n l) := hI.below HB0.out
  have HW0 : Hid (w.alloc (.cells #[.int .i64 Ep, .slice a n c, .int .i64 Op] 24) = w0) := hw0
  clear hI hnn hw0
  go_enter Tryd.func17, Tryd.ntmps17
  go_wp2_with fail
  rw [HW0.out]
  have c1 : w0.cell? ⟨w.heap.size, 1, none⟩ = some (.slice a n c) := HF0.out.cell 1
  go_loopw [5] (fun v wr => ∃ k : Nat, k ≤ n ∧ v = .int .i64 k ∧ wr = w0 ∧ Hid (∀ i, i < k → ¬ ((mmL l i).1 = who ∧ (mmL l i).2.2 = true))) (fun v _ => n - (intOf v).toNat)
  case atStart => exact ⟨0, Nat.zero_le _, rfl, rfl, fun i h => absurd h (Nat.not_lt_zero _)⟩
  case round =>
    obtain ⟨k, hk, rfl, rfl, HK⟩ := hrel
    by_cases hlt : k < n
    · have d0 : (k : Int) < (n : Int) := by omega
      have d1 : (0 : Int) ≤ (k : Int) := by omega
      obtain ⟨lb, off, rfl, hcl⟩ : ∃ lb off, a = some ⟨lb, off, none⟩ ∧ ∀ i, i < n → wr.cell? ⟨lb, off + i * 3, none⟩ = some (.int .i64 (mmL l i).1) ∧ wr.cell? ⟨lb, off + i * 3 + 1, none⟩ = some (.int .i64 (mmL l i).2.1) ∧ wr.cell? ⟨lb, off + i * 3 + 2, none⟩ = some (.bool (mmL l i).2.2) := by
        rcases HI.out.2 with h | h
        · omega
        · exact h
      have k0 := (hcl k hlt).1
      have k2 := (hcl k hlt).2.2
      obtain ⟨x, hx⟩ : ∃ x, (mmL l k).1 = x := ⟨_, rfl⟩
      obtain ⟨y, hy⟩ : ∃ y, (mmL l k).2.2 = y := ⟨_, rfl⟩
      rw [hx] at k0
      rw [hy] at k2
      have Hx : Hid ((mmL l k).1 = x) := hx
      have Hy : Hid ((mmL l k).2.2 = y) := hy
      clear hcl hx hy
      by_cases e0 : x = who
      · have b0 : (x == who) = true := by simp [e0]
        cases y with
        | true =>
          obtain rfl : D = true := by rw [← HD.out]; exact inB_yes l who k (by rw [HL.out]; exact hlt) (by rw [Hx.out]; exact e0) Hy.out
          clear e0
          go_wp2_with fail
          go_ret
          exact ⟨rfl, HB0.out⟩
        | false =>
          have HE : Hid (x = who) := e0
          clear e0
          go_wp2_with fail
          refine ⟨⟨k + 1, by omega, by go_num, trivial, fun i hi => ?_⟩, ?_⟩
          · by_cases e : i = k
            · rw [e, Hy.out]; exact fun h => Bool.noConfusion h.2
            · exact HK.out i (by omega)
          · simp [intOf]; omega
      · have b0 : (x == who) = false := by simp [e0]
        go_wp2_with fail
        refine ⟨⟨k + 1, by omega, by go_num, trivial, fun i hi => ?_⟩, ?_⟩
        · by_cases e : i = k
          · rw [e, Hx.out]; exact fun h => e0 h.1
          · exact HK.out i (by omega)
        · simp [intOf]; omega
    · obtain rfl : k = n := by omega
      obtain rfl : D = false := by rw [← HD.out]; exact inB_no l who (fun i hi => HK.out i (by rw [HL.out] at hi; exact hi))
      have d0 : ¬ ((k : Int) < (k : Int)) := by omega
      go_wp2_with fail
      go_ret
      exact ⟨rfl, HB0.out⟩

end Go.Proofs.YtabhkebkbidfhaaDoor
