/- Layer 17, the code's device: has, New, Read, Fuse, On. -/
import Derived.Test.YtaakmcihpdbilaaDoorBkA
namespace Go.Proofs.YtaakmcihpdbilaaDoor
open Go.RowKit
set_option maxRecDepth 100000
set_option linter.unusedSimpArgs false
set_option maxRecDepth 100000


set_option maxHeartbeats 1000000 in
theorem dhas_any (g b : Nat) (D : DevT) (k : Int) (w : World) (h : DevAt w g b D) (r : Bool) (hr : r = true ↔ MayB D k) :
    Calls Tryd.prog 53 #[.pointer (some ⟨g, 0, none⟩), .int .i64 k] w fun e w' => e = .returned (.bool r) ∧ w' = w := by
  have HC : Hid (∀ w', w' = w → Calls Tryd.prog 22 #[.pointer (some ⟨g, 0, none⟩)] w' fun e w'' => e = .returned (.bool true) ∧ w'' = w') := fun w' e => by subst e; exact dgiven_any g b D _ h
  obtain ⟨F, h, _⟩ := h
  have c1 : w.cell? ⟨g, 1, none⟩ = some (.slice (some ⟨b, 0, none⟩) D.1.length D.1.length) := h.cell 1
  clear h
  by_cases h0 : 0 ≤ k
  · have q0 : decide (0 ≤ k) = true := decide_eq_true h0
    by_cases h1 : k < (D.1.length : Int)
    · have q1 : decide (k < (D.1.length : Int)) = true := decide_eq_true h1
      obtain rfl : r = true := hr.2 ⟨h0, h1⟩
      clear hr
      go_enter Tryd.func53, Tryd.ntmps53
      go_wp2_with fail
      refine (HC.out _ rfl).mono ?_
      rintro e w1 ⟨rfl, hw1⟩
      subst hw1
      go_wp2
      go_ret
      exact ⟨rfl, rfl⟩
    · have q1 : decide (k < (D.1.length : Int)) = false := decide_eq_false h1
      obtain rfl : r = false := Bool.eq_false_iff.2 (fun e => h1 (hr.1 e).2)
      clear hr
      go_enter Tryd.func53, Tryd.ntmps53
      go_wp2_with fail
      refine (HC.out _ rfl).mono ?_
      rintro e w1 ⟨rfl, hw1⟩
      subst hw1
      go_wp2
      go_ret
      exact ⟨rfl, rfl⟩
  · have q0 : decide (0 ≤ k) = false := decide_eq_false h0
    obtain rfl : r = false := Bool.eq_false_iff.2 (fun e => h0 (hr.1 e).1)
    clear hr
    go_enter Tryd.func53, Tryd.ntmps53
    go_wp2_with fail
    refine (HC.out _ rfl).mono ?_
    rintro e w1 ⟨rfl, hw1⟩
    subst hw1
    go_wp2
    go_ret
    exact ⟨rfl, rfl⟩

set_option maxHeartbeats 1000000 in
theorem dhas_no (p : Value) (k : Int) (w : World) (h : NoDev w p) :
    Calls Tryd.prog 53 #[p, .int .i64 k] w fun e w' => e = .returned (.bool false) ∧ w' = w := by
  have HC : Hid (∀ w', w' = w → Calls Tryd.prog 22 #[p] w' fun e w'' => e = .returned (.bool false) ∧ w'' = w') := fun w' e => by subst e; exact dgiven_no p _ h
  clear h
  go_enter Tryd.func53, Tryd.ntmps53
  go_wp2_with fail
  refine (HC.out _ rfl).mono ?_
  rintro e w1 ⟨rfl, hw1⟩
  subst hw1
  go_wp2
  go_ret
  exact ⟨rfl, rfl⟩


set_option maxHeartbeats 1000000 in
theorem dread_no (p : Value) (k : Int) (w : World) (h : NoDev w p) :
    Calls Tryd.prog 42 #[p, .int .i64 k] w fun e w' => e = .returned (.tuple #[.string ⟨#[]⟩, .int .i64 1]) ∧ w' = w := by
  have HC : Hid (∀ w', w' = w → Calls Tryd.prog 53 #[p, .int .i64 k] w' fun e w'' => e = .returned (.bool false) ∧ w'' = w') := fun w' e => by subst e; exact dhas_no p k _ h
  clear h
  go_enter Tryd.func42, Tryd.ntmps42
  go_wp2_with fail
  refine (HC.out _ rfl).mono ?_
  rintro e w1 ⟨rfl, hw1⟩
  subst hw1
  go_wp2
  go_ret2
  exact ⟨rfl, rfl⟩

set_option maxHeartbeats 1000000 in
theorem dread_arg (g b : Nat) (D : DevT) (k : Int) (w : World) (h : DevAt w g b D) (hk : ¬ MayB D k) :
    Calls Tryd.prog 42 #[.pointer (some ⟨g, 0, none⟩), .int .i64 k] w fun e w' => e = .returned (.tuple #[.string ⟨#[]⟩, .int .i64 1]) ∧ w' = w := by
  have HC : Hid (∀ w', w' = w → Calls Tryd.prog 53 #[.pointer (some ⟨g, 0, none⟩), .int .i64 k] w' fun e w'' => e = .returned (.bool false) ∧ w'' = w') := fun w' e => by
    subst e
    exact dhas_any g b D k _ h false ⟨fun e => (by cases e), fun e => absurd e hk⟩
  clear h hk
  go_enter Tryd.func42, Tryd.ntmps42
  go_wp2_with fail
  refine (HC.out _ rfl).mono ?_
  rintro e w1 ⟨rfl, hw1⟩
  subst hw1
  go_wp2
  go_ret2
  exact ⟨rfl, rfl⟩

set_option maxHeartbeats 1000000 in
theorem dread_any (g b : Nat) (D : DevT) (k : Nat) (w : World) (h : DevAt w g b D) (hk : k < D.1.length) :
    Calls Tryd.prog 42 #[.pointer (some ⟨g, 0, none⟩), .int .i64 (k : Int)] w fun e w' => e = .returned (.tuple #[.string (readB D k).1, .int .i64 (readB D k).2]) ∧ w' = w := by
  have HC : Hid (∀ w', w' = w → Calls Tryd.prog 53 #[.pointer (some ⟨g, 0, none⟩), .int .i64 (k : Int)] w' fun e w'' => e = .returned (.bool true) ∧ w'' = w') := fun w' e => by
    subst e
    exact dhas_any g b D k _ h true ⟨fun _ => ⟨by omega, by omega⟩, fun _ => rfl⟩
  obtain ⟨F, h, hr, _, ha, hl, _⟩ := h
  have c1 : w.cell? ⟨g, 1, none⟩ = some (.slice (some ⟨b, 0, none⟩) D.1.length D.1.length) := h.cell 1
  have c2 : w.cell? ⟨g, 2, none⟩ = some (.bool D.2.2.1) := h.cell 2
  have hcv := hr.conv ha k 64 hk
  have q1 : (k : Int) < (D.1.length : Int) := by omega
  have q0 : (0 : Int) ≤ (k : Int) := by omega
  unfold readB
  clear h hr ha
  obtain ⟨L, F2, O, N⟩ := D
  simp only at c1 c2 hcv q1 hk hl ⊢
  cases O with
  | true =>
    go_enter Tryd.func42, Tryd.ntmps42
    go_wp2_with fail
    refine (HC.out _ rfl).mono ?_
    rintro e w1 ⟨rfl, hw1⟩
    subst hw1
    go_wp2
    go_ret2
    exact ⟨rfl, rfl⟩
  | false =>
    go_enter Tryd.func42, Tryd.ntmps42
    go_wp2_with fail
    refine (HC.out _ rfl).mono ?_
    rintro e w1 ⟨rfl, hw1⟩
    subst hw1
    go_wp2
    go_ret2
    exact ⟨rfl, rfl⟩

set_option maxHeartbeats 1000000 in
theorem don_no (p : Value) (w : World) (h : NoDev w p) :
    Calls Tryd.prog 12 #[p] w fun e w' => e = .returned (.int .i64 1) ∧ w' = w := by
  have HC : Hid (∀ w', w' = w → Calls Tryd.prog 22 #[p] w' fun e w'' => e = .returned (.bool false) ∧ w'' = w') := fun w' e => by subst e; exact dgiven_no p _ h
  clear h
  go_enter Tryd.func12, Tryd.ntmps12
  go_wp2_with fail
  refine (HC.out _ rfl).mono ?_
  rintro e w1 ⟨rfl, hw1⟩
  subst hw1
  go_wp2
  go_ret
  exact ⟨rfl, rfl⟩

set_option maxHeartbeats 1000000 in
theorem dfuse_no (p : Value) (k : Int) (w : World) (h : NoDev w p) :
    Calls Tryd.prog 10 #[p, .int .i64 k] w fun e w' => e = .returned (.int .i64 1) ∧ w' = w := by
  have HC : Hid (∀ w', w' = w → Calls Tryd.prog 22 #[p] w' fun e w'' => e = .returned (.bool false) ∧ w'' = w') := fun w' e => by subst e; exact dgiven_no p _ h
  clear h
  go_enter Tryd.func10, Tryd.ntmps10
  go_wp2_with fail
  refine (HC.out _ rfl).mono ?_
  rintro e w1 ⟨rfl, hw1⟩
  subst hw1
  go_wp2
  go_ret
  exact ⟨rfl, rfl⟩

/-- The cells of a device turned: its blocks stay. -/
theorem DevAt.turn {w w' : World} {g b : Nat} {D D' : DevT} {F : Int} (h : DevAt w g b D) (hL : D'.1 = D.1) (hk : Kept2 g none w w') (hb : Blk w' 43 g #[.pointer (some ⟨g, 0, none⟩), .slice (some ⟨b, 0, none⟩) D.1.length D.1.length, .bool D'.2.2.1, .int .i64 F, .int .i64 D'.2.2.2]) (hF : D'.2.2.1 = false → F = D'.2.1) (h1 : -1 ≤ F) (h2 : F ≤ 9223372036854775807) : DevTo w g b D' w' := by
  obtain ⟨F0, _, a2, a3, a4, a5, _⟩ := h
  refine ⟨⟨F, by rw [hL]; exact hb, by rw [hL]; exact a2.kept hk (fun e => a3 e.symm) (fun e => by cases e), a3, by rw [hL]; exact a4, by rw [hL]; exact a5, hF, h1, h2⟩, ⟨hk.os, hk.tape, hk.output, hk.size, fun k h1 h2 _ => hk.block k h1 h2 (fun e => by cases e)⟩⟩

set_option maxHeartbeats 2000000 in
theorem don_any (g b : Nat) (D : DevT) (w : World) (h : DevAt w g b D) :
    Calls Tryd.prog 12 #[.pointer (some ⟨g, 0, none⟩)] w fun e w' => e = .returned (.int .i64 0) ∧ DevTo w g b (onB D) w' := by
  have HC : Hid (∀ w', w' = w → Calls Tryd.prog 22 #[.pointer (some ⟨g, 0, none⟩)] w' fun e w'' => e = .returned (.bool true) ∧ w'' = w') := fun w' e => by subst e; exact dgiven_any g b D _ h
  obtain ⟨F, hb, _⟩ := id h
  have H : Hid (DevAt w g b D) := h
  have HB : Hid (Blk w 43 g #[.pointer (some ⟨g, 0, none⟩), .slice (some ⟨b, 0, none⟩) D.1.length D.1.length, .bool D.2.2.1, .int .i64 F, .int .i64 D.2.2.2]) := hb
  have c2 : w.cell? ⟨g, 2, none⟩ = some (.bool D.2.2.1) := hb.cell 2
  have f2 := hb.free 2
  have c3 : (w.setCell ⟨g, 2, none⟩ (.bool false)).cell? ⟨g, 3, none⟩ = some (.int .i64 F) := (hb.setAt 2 _).cell 3
  have f3 := (hb.setAt 2 (.bool false)).free 3
  clear hb h
  go_enter Tryd.func12, Tryd.ntmps12
  go_wp2_with fail
  refine (HC.out _ rfl).mono ?_
  rintro e w1 ⟨rfl, hw1⟩
  subst hw1
  go_wp2
  go_ret
  refine ⟨rfl, H.out.turn rfl (((Kept2.refl g none w1).setCell ⟨g, 2, none⟩ rfl _).setCell ⟨g, 3, none⟩ rfl _) ((HB.out.setAt 2 _).setAt 3 _) (fun _ => rfl) (by decide) (by decide)⟩


set_option maxHeartbeats 2000000 in
theorem dfuse_any (g b : Nat) (D : DevT) (n : Int) (w : World) (h : DevAt w g b D) (hn : n ≤ 9223372036854775807) :
    Calls Tryd.prog 10 #[.pointer (some ⟨g, 0, none⟩), .int .i64 n] w fun e w' => e = .returned (.int .i64 0) ∧ DevTo w g b (fuseB D n) w' := by
  have HC : Hid (∀ w', w' = w → Calls Tryd.prog 22 #[.pointer (some ⟨g, 0, none⟩)] w' fun e w'' => e = .returned (.bool true) ∧ w'' = w') := fun w' e => by subst e; exact dgiven_any g b D _ h
  obtain ⟨F, hb, _⟩ := id h
  have H : Hid (DevAt w g b D) := h
  have HB : Hid (Blk w 43 g #[.pointer (some ⟨g, 0, none⟩), .slice (some ⟨b, 0, none⟩) D.1.length D.1.length, .bool D.2.2.1, .int .i64 F, .int .i64 D.2.2.2]) := hb
  have c3 : w.cell? ⟨g, 3, none⟩ = some (.int .i64 F) := hb.cell 3
  have f3 := hb.free 3
  clear hb h
  by_cases h1 : n < -1
  · skip
    go_enter Tryd.func10, Tryd.ntmps10
    go_wp2_with fail
    refine (HC.out _ rfl).mono ?_
    rintro e w1 ⟨rfl, hw1⟩
    subst hw1
    go_wp2
    go_ret
    refine ⟨rfl, H.out.turn rfl ((Kept2.refl g none w1).setCell ⟨g, 3, none⟩ rfl _) (HB.out.setAt 3 _) (fun _ => by unfold fuseB; simp only; omega) (by omega) (by omega)⟩
  · skip
    go_enter Tryd.func10, Tryd.ntmps10
    go_wp2_with fail
    refine (HC.out _ rfl).mono ?_
    rintro e w1 ⟨rfl, hw1⟩
    subst hw1
    go_wp2
    go_ret
    refine ⟨rfl, H.out.turn rfl ((Kept2.refl g none w1).setCell ⟨g, 3, none⟩ rfl _) (HB.out.setAt 3 _) (fun _ => by unfold fuseB; simp only; omega) (by omega) (by omega)⟩

theorem Tryd.infoCell : (Tryd.prog.info? 86).map (fun i => (i.zero, i.size, i.bytes)) = some (some (.agg (List.replicate 64 (Value.int .u8 0)).toArray), 64, 64) := by kernel_rfl

theorem bt_noughts (m i : Nat) : bt (zeroB m) i = 0 := by
  rw [bt_eq]
  unfold zeroB
  by_cases h : i < m
  · simp [h]
  · simp [h]
theorem made_noughts (m n j : Nat) (hm : 0 < m) (hj : j < m * n) : (madeCells (Value.agg (List.replicate m (Value.int .u8 0)).toArray).cells (n * m))[j]? = some (.int .u8 (((0 : Nat)) : Int)) := by
  have hj2 : j < n * m := by rw [Nat.mul_comm]; exact hj
  have h6 : j % m < m := Nat.mod_lt _ hm
  unfold madeCells
  simp [hj2, Value.cells, h6]

theorem made_blocks (w : World) (n : Nat) (hn : n ≤ 4096) :
    ∃ w', (Instr.makeSlice 41 (.int .i64 (n : Int)) (.int .i64 (n : Int))).run Tryd.prog w = .ok (.slice (some ⟨w.heap.size, 0, none⟩) n n) w' ∧ RowC w' w.heap.size (List.replicate n (zeroB 64)) ∧ Below w.heap.size w w' ∧ w'.heap.size = w.heap.size + 1 := by
  obtain ⟨i0, hi, hz0, hz1, hz2⟩ := info_parts Tryd.infoCell
  have hr := run_make (P := Tryd.prog) w 41 86 i0 _ Tryd.underlying41 hi hz0 .i64 .i64 n n (by omega) (Int.le_refl _) (by rw [hz2]; omega) (by omega)
  rw [hz1, Int.toNat_natCast] at hr
  refine ⟨_, hr, ⟨_, Blk.new _ _ _, by rw [size_madeCells, List.length_replicate]; omega, fun j hj => ?_⟩, below_new w _, by simp⟩
  rw [List.length_replicate] at hj
  have e1 : flatB (List.replicate n (zeroB 64)) j = 0 := by
    unfold flatB strL
    rw [List.getD_eq_getElem?_getD, List.getElem?_replicate, if_pos (by omega)]
    exact bt_noughts 64 _
  rw [e1]
  exact made_noughts 64 n j (by decide) hj

set_option maxHeartbeats 1000000 in
theorem dnew_no (n : Int) (w : World) (h : ¬ (1 ≤ n ∧ n ≤ 4096)) :
    Calls Tryd.prog 6 #[.int .i64 n] w fun e w' => e = .returned (.tuple #[.pointer none, .int .i64 1]) ∧ w' = w := by
  by_cases h0 : n < 1
  · have q0 : decide (n < 1) = true := decide_eq_true h0
    clear h
    go_enter Tryd.func6, Tryd.ntmps6
    go_wp2
    go_ret2
    exact ⟨rfl, rfl⟩
  · have q0 : decide (n < 1) = false := decide_eq_false h0
    have q1 : decide (4096 < n) = true := decide_eq_true (by omega)
    clear h
    go_enter Tryd.func6, Tryd.ntmps6
    go_wp2
    go_ret2
    exact ⟨rfl, rfl⟩

theorem newB_all (n : Nat) : AllB (newB n).1 := by
  intro i hi
  unfold newB at hi ⊢
  simp only [List.length_replicate] at hi
  unfold strL
  rw [List.getD_eq_getElem?_getD, List.getElem?_replicate, if_pos hi]
  rfl

set_option maxHeartbeats 2000000 in
theorem dnew_any (n : Nat) (w : World) (h : 1 ≤ n ∧ n ≤ 4096) :
    Calls Tryd.prog 6 #[.int .i64 (n : Int)] w fun e w' => ∃ g b, e = .returned (.tuple #[.pointer (some ⟨g, 0, none⟩), .int .i64 0]) ∧ DevAt w' g b (newB n) ∧ w.heap.size ≤ g ∧ w.heap.size ≤ b ∧ Below w.heap.size w w' := by
  have q0 : decide ((n : Int) < 1) = false := decide_eq_false (by omega)
  have q1 : decide ((4096 : Int) < (n : Int)) = false := decide_eq_false (by omega)
  obtain ⟨w2, hmk, R2, hb2, hs2⟩ := made_blocks w n h.2
  have HR2 : Hid (RowC w2 w.heap.size (List.replicate n (zeroB 64))) := R2
  have HB2 : Hid (Below w.heap.size w w2) := hb2
  have HS2 : Hid (w2.heap.size = w.heap.size + 1) := hs2
  have A1 : Blk (w2.alloc (.cells #[.pointer none, .slice (some ⟨w.heap.size, 0, none⟩) n n, .bool false, .int .i64 (-1), .int .i64 0] 43)) 43 w2.heap.size #[.pointer none, .slice (some ⟨w.heap.size, 0, none⟩) n n, .bool false, .int .i64 (-1), .int .i64 0] := Blk.new _ _ _
  have c0 : (w2.alloc (.cells #[.pointer none, .slice (some ⟨w.heap.size, 0, none⟩) n n, .bool false, .int .i64 (-1), .int .i64 0] 43)).cell? ⟨w2.heap.size, 0, none⟩ = some (.pointer none) := A1.cell 0
  have f0 := A1.free 0
  have HA : Hid (Blk (w2.alloc (.cells #[.pointer none, .slice (some ⟨w.heap.size, 0, none⟩) n n, .bool false, .int .i64 (-1), .int .i64 0] 43)) 43 w2.heap.size #[.pointer none, .slice (some ⟨w.heap.size, 0, none⟩) n n, .bool false, .int .i64 (-1), .int .i64 0]) := A1
  have HN : Hid (n ≤ 4096) := h.2
  clear A1 R2 hb2 hs2 h
  go_enter Tryd.func6, Tryd.ntmps6
  go_wp2
  go_ret2
  have hs := HS2.out
  have hlen : (newB n).1.length = n := by unfold newB; simp
  refine ⟨_, _, rfl, ⟨-1, ?_, HR2.out.on (below_new w2 _), by omega, newB_all n, by rw [hlen]; exact HN.out, fun _ => rfl, by decide, by decide⟩, by omega, Nat.le_refl _, HB2.out.alloc (by omega) _⟩
  rw [hlen]
  exact Blk.new _ _ _

end Go.Proofs.YtaakmcihpdbilaaDoor
