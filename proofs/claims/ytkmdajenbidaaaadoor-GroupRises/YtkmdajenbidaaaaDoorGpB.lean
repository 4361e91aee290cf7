/- Layer 20, the code's: byWho, In, areMembers, Check. -/
import Derived.Test.YtkmdajenbidaaaaDoorGpA
namespace Go.Proofs.YtkmdajenbidaaaaDoor
open Go.RowKit
set_option maxRecDepth 100000
set_option linter.unusedSimpArgs false
set_option linter.unusedVariables false
set_option maxRecDepth 100000

set_option maxHeartbeats 1000000 in
theorem byWho_any (l : List MemT) (b off n c k : Nat) (who : Int) (w : World) (hn : n ≤ 1048576) (hI : MmsAt w (some ⟨b, off, none⟩) n l) (hk : k < n) (h0 : ∀ i, i < k → (mmL l i).1 ≠ who) (h1 : (mmL l k).1 = who) :
    Calls Tryd.prog 9 #[.slice (some ⟨b, off, none⟩) n c, .int .i64 who] w fun e w' => e = .returned (.pointer (some ⟨b, off + k * 3, none⟩)) ∧ Below w.heap.size w w' := by
  have hmf : ∀ (fn : Fn) (first cap : Array Value) (w : World), (Instr.makeFunc fn first cap).run Tryd.prog w = .ok (.func fn first cap) w := fun _ _ _ _ => rfl
  have n0 := below_new w (.cells #[.int .i64 who] 3)
  have C := findW_any l b off n c k who w.heap.size (w.alloc (.cells #[.int .i64 who] 3)) hn (hI.below n0) hk h0 h1 ((Blk.new w _ _).cell 0)
  have HC : Hid (Calls Tryd.prog 21 #[.slice (some ⟨b, off, none⟩) n c, .func (.func 23) #[] #[.pointer (some ⟨w.heap.size, 0, none⟩)]] (w.alloc (.cells #[.int .i64 who] 3)) fun e w' => e = .returned (.pointer (some ⟨b, off + k * 3, none⟩)) ∧ Below (w.alloc (.cells #[.int .i64 who] 3)).heap.size (w.alloc (.cells #[.int .i64 who] 3)) w') := C
  have HB : Hid (Below w.heap.size w (w.alloc (.cells #[.int .i64 who] 3))) := n0
  clear C n0 hI hk h0 h1 hn
  go_enter Tryd.func9, Tryd.ntmps9
  go_wp2_with fail
  refine Calls.mono HC.out ?_
  rintro e w1 ⟨rfl, hb⟩
  have HB1 : Hid (Below w.heap.size w w1) := below_step HB.out (Nat.le_refl _) hb
  clear hb HB HC
  go_wp2_with fail
  go_ret
  exact ⟨rfl, HB1.out⟩

set_option maxHeartbeats 1000000 in
theorem in20_any (G : GrpT) (a : Option Addr) (c : Nat) (who : Int) (w : World) (D : Bool) (hD : inB G.2.1 who = D) (hn : G.2.1.length ≤ 1048576) (hI : MmsAt w a G.2.1.length G.2.1) :
    Calls Tryd.prog 8 #[.agg (grpA G a c), .int .i64 who] w fun e w' => e = .returned (.bool D) ∧ Below w.heap.size w w' := by
  have hmf : ∀ (fn : Fn) (first cap : Array Value) (w : World), (Instr.makeFunc fn first cap).run Tryd.prog w = .ok (.func fn first cap) w := fun _ _ _ _ => rfl
  obtain ⟨Ep, l, Op⟩ := G
  simp only [grpA] at hI hn hD ⊢
  obtain ⟨n, hnn⟩ : ∃ n, l.length = n := ⟨_, rfl⟩
  rw [hnn] at hI hn ⊢
  have n0 := below_new w (.cells #[.int .i64 Ep, .slice a n c, .int .i64 Op] 26)
  have n1 := below_new (w.alloc (.cells #[.int .i64 Ep, .slice a n c, .int .i64 Op] 26)) (.cells #[.int .i64 who] 3)
  obtain ⟨W, hW⟩ : ∃ W, (w.alloc (.cells #[.int .i64 Ep, .slice a n c, .int .i64 Op] 26)).alloc (.cells #[.int .i64 who] 3) = W := ⟨_, rfl⟩
  have HB : Hid (Below w.heap.size w W) := by rw [← hW]; exact below_step n0 (Nat.le_refl _) n1
  have HP : Hid (Blk W 3 (w.heap.size + 1) #[.int .i64 who]) := by rw [← hW]; exact Blk.new' _ _ _ _ (by simp)
  have HG : Blk W 26 w.heap.size #[.int .i64 Ep, .slice a n c, .int .i64 Op] := by rw [← hW]; exact (Blk.new w _ _).on n1
  have c1 : W.cell? ⟨w.heap.size, 1, none⟩ = some (.slice a n c) := HG.cell 1
  have C := findI_any l a n c who (w.heap.size + 1) W D hD hn (hI.below HB.out) (HP.out.cell 0)
  have HC : Hid (Calls Tryd.prog 21 #[.slice a n c, .func (.func 22) #[] #[.pointer (some ⟨w.heap.size + 1, 0, none⟩)]] W fun e w' => (∃ p, e = .returned (.pointer p) ∧ (p != none) = D) ∧ Below W.heap.size W w') := C
  have HW : Hid ((w.alloc (.cells #[.int .i64 Ep, .slice a n c, .int .i64 Op] 26)).alloc (.cells #[.int .i64 who] 3) = W) := hW
  rw [← hW] at c1
  clear C n0 n1 hI hn hW HG hnn hD
  go_enter Tryd.func8, Tryd.ntmps8
  go_wp2_with fail
  try rw [HW.out]
  clear c1
  refine Calls.mono HC.out ?_
  rintro e w1 ⟨⟨p, rfl, hp⟩, hb⟩
  have HB1 : Hid (Below w.heap.size w w1) := below_step HB.out (Nat.le_refl _) hb
  clear hb HB HC
  cases p with
  | none =>
    obtain rfl : false = D := by rw [← hp]; rfl
    clear hp
    go_wp2_with fail
    go_ret
    exact ⟨rfl, HB1.out⟩
  | some q =>
    obtain rfl : true = D := by rw [← hp]; rfl
    clear hp
    go_wp2_with fail
    go_ret
    exact ⟨rfl, HB1.out⟩

/-- Are members all that may be? -/
def MayL (l : List MemT) : Prop := l.length = 6 ∧ ∀ i, i < 6 → (mmL l i).1 = (i : Int) + 1 ∧ 0 ≤ (mmL l i).2.1 ∧ (mmL l i).2.1 ≤ 1099511627775 ∧ (i = 0 → (mmL l i).2.2 = true)


set_option maxHeartbeats 4000000 in
theorem areMembers_any (l : List MemT) (a : Option Addr) (n c : Nat) (w : World) (D : Bool) (hD : D = true ↔ MayL l) (hn : n ≤ 1048576) (hI : MmsAt w a n l) :
    Calls Tryd.prog 33 #[.slice a n c] w fun e w' => e = .returned (.bool D) ∧ Below w.heap.size w w' := by
  have HD : Hid (D = true ↔ MayL l) := hD
  have HL : Hid (l.length = n) := hI.1
  have HI : Hid (MmsAt w a n l) := hI
  clear hD hI
  by_cases h6 : ¬ n = 6
  · obtain rfl : D = false := Bool.eq_false_iff.2 (fun e => h6 (by rw [← HL.out]; exact (HD.out.1 e).1))
    have b4 : ((n : Int) != 6) = true := by simp; omega
    clear h6
    go_enter Tryd.func33, Tryd.ntmps33
    go_wp2_with fail
    go_ret
    exact ⟨rfl, Below.refl _ _⟩
  obtain rfl : n = 6 := by omega
  obtain ⟨lb, off, rfl, hcl⟩ : ∃ lb off, a = some ⟨lb, off, none⟩ ∧ ∀ i, i < 6 → w.cell? ⟨lb, off + i * 3, none⟩ = some (.int .i64 (mmL l i).1) ∧ w.cell? ⟨lb, off + i * 3 + 1, none⟩ = some (.int .i64 (mmL l i).2.1) ∧ w.cell? ⟨lb, off + i * 3 + 2, none⟩ = some (.bool (mmL l i).2.2) := by
    rcases HI.out.2 with h | h
    · omega
    · exact h
  have HCL : Hid (∀ i, i < 6 → w.cell? ⟨lb, off + i * 3, none⟩ = some (.int .i64 (mmL l i).1) ∧ w.cell? ⟨lb, off + i * 3 + 1, none⟩ = some (.int .i64 (mmL l i).2.1) ∧ w.cell? ⟨lb, off + i * 3 + 2, none⟩ = some (.bool (mmL l i).2.2)) := hcl
  clear hcl h6
  go_enter Tryd.func33, Tryd.ntmps33
  go_wp2_with fail
  go_loopw [10] (fun v wr => ∃ k : Nat, k ≤ 6 ∧ v = .int .i64 k ∧ Hid (Below w.heap.size w wr) ∧ Hid (∀ i, i < k → (mmL l i).1 = (i : Int) + 1 ∧ 0 ≤ (mmL l i).2.1 ∧ (mmL l i).2.1 ≤ 1099511627775)) (fun v _ => 6 - (intOf v).toNat)
  case atStart => exact ⟨0, Nat.zero_le _, rfl, Below.refl _ _, fun i h => absurd h (Nat.not_lt_zero _)⟩
  case round =>
    obtain ⟨k, hk, rfl, HB, HK⟩ := hrel
    have cell : ∀ {p : Addr} {v : Value}, w.cell? p = some v → wr.cell? p = some v := fun h => by rw [HB.out.cell (World.block_lt_of_cell? w _ h)]; exact h
    by_cases hlt : k < 6
    · have d0 : (k : Int) < 6 := by omega
      have d1 : (0 : Int) ≤ (k : Int) := by omega
      have d2 : IntKind.i64.wrap ((k : Int) + 1) = (k : Int) + 1 := by rw [IntKind.wrap_i64]; omega
      have k0 := cell (HCL.out k hlt).1
      have k1 := cell (HCL.out k hlt).2.1
      have k2 := cell (HCL.out k hlt).2.2
      obtain ⟨x, hx⟩ : ∃ x, (mmL l k).1 = x := ⟨_, rfl⟩
      obtain ⟨y, hy⟩ : ∃ y, (mmL l k).2.1 = y := ⟨_, rfl⟩
      obtain ⟨z, hz⟩ : ∃ z, (mmL l k).2.2 = z := ⟨_, rfl⟩
      rw [hx] at k0
      rw [hy] at k1
      rw [hz] at k2
      have HXYZ : Hid ((mmL l k).1 = x ∧ (mmL l k).2.1 = y ∧ (mmL l k).2.2 = z) := ⟨hx, hy, hz⟩
      have n0 := below_new wr (.cells #[.int .i64 x, .int .i64 y, .bool z] 42)
      have HB0 : Hid (Below w.heap.size w (wr.alloc (.cells #[.int .i64 x, .int .i64 y, .bool z] 42))) := below_step HB.out (Nat.le_refl _) n0
      clear hx hy hz cell n0
      by_cases e0 : x = (k : Int) + 1
      · have b0 : (x != (k : Int) + 1) = false := by simp [e0]
        have HX1 : Hid (x = (k : Int) + 1) := e0
        clear e0
        obtain ⟨E, hE⟩ : ∃ E : Bool, E = true ↔ (0 ≤ y ∧ y ≤ 1099511627775) := ⟨decide (0 ≤ y ∧ y ≤ 1099511627775), by simp⟩
        have CN : Hid (∀ W, Calls Tryd.prog 32 #[.int .i64 y] W fun e w' => e = .returned (.bool E) ∧ w' = W) := fun W => isNum20_any y W E hE
        have HE : Hid (E = true ↔ (0 ≤ y ∧ y ≤ 1099511627775)) := hE
        clear hE
        cases E with
        | false =>
          have WHY : Hid (¬ (x = (k : Int) + 1 ∧ 0 ≤ y ∧ y ≤ 1099511627775 ∧ (k = 0 → z = true))) := fun h => Bool.noConfusion (HE.out.2 ⟨h.2.1, h.2.2.1⟩)
          obtain rfl : D = false := Bool.eq_false_iff.2 (fun e => by have q := (HD.out.1 e).2 k hlt; rw [HXYZ.out.1, HXYZ.out.2.1, HXYZ.out.2.2] at q; exact WHY.out q)
          clear WHY
          go_wp2_with fail
          refine (CN.out _).mono ?_
          rintro e w1 ⟨rfl, hw1⟩
          subst hw1
          clear CN
          go_wp2_with fail
          go_ret
          exact ⟨rfl, HB0.out⟩
        | true =>
          have HEY : Hid (0 ≤ y ∧ y ≤ 1099511627775) := HE.out.1 rfl
          clear HE
          go_wp2_with fail
          refine (CN.out _).mono ?_
          rintro e w1 ⟨rfl, hw1⟩
          subst hw1
          clear CN
          go_wp2_with fail
          refine ⟨⟨k + 1, by omega, by go_num, HB0, ?_⟩, ?_⟩
          · intro i hi
            by_cases e : i = k
            · rw [e, HXYZ.out.1, HXYZ.out.2.1]; exact ⟨HX1.out, HEY.out⟩
            · exact HK.out i (by omega)
          · simp [intOf]; omega
      · have b0 : (x != (k : Int) + 1) = true := by simp [e0]
        have WHY : Hid (¬ (x = (k : Int) + 1 ∧ 0 ≤ y ∧ y ≤ 1099511627775 ∧ (k = 0 → z = true))) := fun h => e0 h.1
        clear e0
        obtain rfl : D = false := Bool.eq_false_iff.2 (fun e => by have q := (HD.out.1 e).2 k hlt; rw [HXYZ.out.1, HXYZ.out.2.1, HXYZ.out.2.2] at q; exact WHY.out q)
        clear WHY
        go_wp2_with fail
        go_ret
        exact ⟨rfl, HB0.out⟩
    · obtain rfl : k = 6 := by omega
      have CB : Hid (Calls Tryd.prog 9 #[.slice (some ⟨lb, off, none⟩) 6 c, .int .i64 1] wr fun e w' => e = .returned (.pointer (some ⟨lb, off, none⟩)) ∧ Below wr.heap.size wr w') := by
        have := byWho_any l lb off 6 c 0 1 wr (by decide) (HI.out.below HB.out) (by decide) (fun i h => absurd h (Nat.not_lt_zero _)) (HK.out 0 (by decide)).1
        rw [Nat.zero_mul, Nat.add_zero] at this
        exact this
      have z2 : wr.cell? ⟨lb, off + 2, none⟩ = some (.bool (mmL l 0).2.2) := by have := cell (HCL.out 0 (by decide)).2.2; simpa using this
      obtain ⟨z, hz⟩ : ∃ z, (mmL l 0).2.2 = z := ⟨_, rfl⟩
      rw [hz] at z2
      obtain rfl : D = z := by
        cases z with
        | true => exact HD.out.2 ⟨HL.out, fun i hi => ⟨(HK.out i hi).1, (HK.out i hi).2.1, (HK.out i hi).2.2, fun e => by rw [e]; exact hz⟩⟩
        | false => exact Bool.eq_false_iff.2 (fun e => by have q := ((HD.out.1 e).2 0 (by decide)).2.2.2 rfl; rw [hz] at q; exact Bool.noConfusion q)
      have HZ2 : Hid (wr.cell? ⟨lb, off + 2, none⟩ = some (.bool D)) := z2
      clear cell hz z2
      go_wp2_with fail
      refine Calls.mono CB.out ?_
      rintro e w1 ⟨rfl, hb⟩
      have HB1 : Hid (Below w.heap.size w w1) := below_step HB.out (Nat.le_refl _) hb
      have c2 : w1.cell? ⟨lb, off + 2, none⟩ = some (.bool D) := by rw [hb.cell (World.block_lt_of_cell? wr _ HZ2.out)]; exact HZ2.out
      clear hb HB HZ2 CB
      go_wp2_with fail
      go_ret
      exact ⟨rfl, HB1.out⟩


set_option maxHeartbeats 4000000 in
theorem check20_any (G : GrpT) (a : Option Addr) (c : Nat) (w : World) (D : Bool) (hD : D = true ↔ MayG G) (hn : G.2.1.length ≤ 1048576) (hI : MmsAt w a G.2.1.length G.2.1) :
    Calls Tryd.prog 15 #[.agg (grpA G a c)] w fun e w' => e = .returned (.int .i64 (if D = true then 0 else 1)) ∧ Below w.heap.size w w' := by
  obtain ⟨Ep, l, Op⟩ := G
  have HD : Hid (D = true ↔ MayG (Ep, l, Op)) := hD
  simp only [grpA] at hI hn ⊢
  obtain ⟨A, hA⟩ : ∃ A : Bool, A = true ↔ MayL l := by
    by_cases h : MayL l
    · exact ⟨true, ⟨fun _ => h, fun _ => rfl⟩⟩
    · exact ⟨false, ⟨fun e => Bool.noConfusion e, fun e => absurd e h⟩⟩
  obtain ⟨E, hE⟩ : ∃ E : Bool, E = true ↔ (0 ≤ Ep ∧ Ep ≤ 1099511627775) := ⟨decide (0 ≤ Ep ∧ Ep ≤ 1099511627775), by simp⟩
  obtain ⟨n, hnn⟩ : ∃ n, l.length = n := ⟨_, rfl⟩
  rw [hnn] at hI hn ⊢
  have CA : Hid (∀ W, Below w.heap.size w W → Calls Tryd.prog 33 #[.slice a n c] W fun e w' => e = .returned (.bool A) ∧ Below W.heap.size W w') := fun W hW => areMembers_any l a n c W A hA hn (hI.below hW)
  have CN : Hid (∀ W, Calls Tryd.prog 32 #[.int .i64 Ep] W fun e w' => e = .returned (.bool E) ∧ w' = W) := fun W => isNum20_any Ep W E hE
  have HA : Hid (A = true ↔ MayL l) := hA
  have HE : Hid (E = true ↔ (0 ≤ Ep ∧ Ep ≤ 1099511627775)) := hE
  have HBN : Hid (Below w.heap.size w (w.alloc (.cells #[.int .i64 Ep, .slice a n c, .int .i64 Op] 26))) := below_new w _
  clear hA hE hI hD hnn hn
  have NO : (¬ (1 ≤ Ep) ∨ E = false ∨ ¬ (0 ≤ Op) ∨ ¬ (Op ≤ 500)) → D = false := fun h => Bool.eq_false_iff.2 (fun e => by
    have q := HD.out.1 e
    obtain ⟨q1, q2, q3, q4⟩ := q
    have t1 : 1 ≤ Ep ∧ Ep ≤ 1099511627775 := q1
    have t2 : 0 ≤ Op ∧ Op ≤ 500 := q2
    rcases h with h | h | h | h
    · exact h t1.1
    · rw [HE.out.2 ⟨by omega, t1.2⟩] at h; cases h
    · exact h t2.1
    · exact h t2.2)
  have HNO : Hid ((¬ (1 ≤ Ep) ∨ E = false ∨ ¬ (0 ≤ Op) ∨ ¬ (Op ≤ 500)) → D = false) := NO
  clear NO
  by_cases h0 : Ep < 1
  · obtain rfl : D = false := HNO.out (.inl (by omega))
    have b0 : decide (1 ≤ Ep) = false := decide_eq_false (by omega)
    clear HNO HD
    go_enter Tryd.func15, Tryd.ntmps15
    go_wp2_with fail
    go_ret
    exact ⟨rfl, HBN.out⟩
  have b0 : decide (1 ≤ Ep) = true := decide_eq_true (by omega)
  go_enter Tryd.func15, Tryd.ntmps15
  go_wp2_with fail
  refine (CN.out _).mono ?_
  rintro e w1 ⟨rfl, hw1⟩
  subst hw1
  clear CN
  cases E with
  | false =>
    obtain rfl : D = false := HNO.out (.inr (.inl rfl))
    go_wp2_with fail
    go_ret
    exact ⟨rfl, HBN.out⟩
  | true =>
    by_cases h1 : Op < 0
    · obtain rfl : D = false := HNO.out (.inr (.inr (.inl (by omega))))
      have b1 : decide (0 ≤ Op) = false := decide_eq_false (by omega)
      go_wp2_with fail
      go_ret
      exact ⟨rfl, HBN.out⟩
    have b1 : decide (0 ≤ Op) = true := decide_eq_true (by omega)
    by_cases h2 : 500 < Op
    · obtain rfl : D = false := HNO.out (.inr (.inr (.inr (by omega))))
      have b2 : decide (Op ≤ 500) = false := decide_eq_false (by omega)
      go_wp2_with fail
      go_ret
      exact ⟨rfl, HBN.out⟩
    have b2 : decide (Op ≤ 500) = true := decide_eq_true (by omega)
    obtain rfl : D = A := by
      cases A with
      | true => exact HD.out.2 ⟨⟨by show 1 ≤ Ep; omega, (HE.out.1 rfl).2⟩, ⟨by show 0 ≤ Op; omega, by show Op ≤ 500; omega⟩, HA.out.1 rfl⟩
      | false => exact Bool.eq_false_iff.2 (fun e => by have q := HA.out.2 (HD.out.1 e).2.2; cases q)
    have C := CA.out _ HBN.out
    have HC : Hid (Calls Tryd.prog 33 #[.slice a n c] (w.alloc (.cells #[.int .i64 Ep, .slice a n c, .int .i64 Op] 26)) fun e w' => e = .returned (.bool D) ∧ Below (w.alloc (.cells #[.int .i64 Ep, .slice a n c, .int .i64 Op] 26)).heap.size (w.alloc (.cells #[.int .i64 Ep, .slice a n c, .int .i64 Op] 26)) w') := C
    clear C CA HA HD HNO
    go_wp2_with fail
    refine Calls.mono HC.out ?_
    rintro e w1 ⟨rfl, hb⟩
    have HB1 : Hid (Below w.heap.size w w1) := below_step HBN.out (Nat.le_refl _) hb
    clear hb HC
    cases D with
    | true =>
      go_wp2_with fail
      go_ret
      exact ⟨rfl, HB1.out⟩
    | false =>
      go_wp2_with fail
      go_ret
      exact ⟨rfl, HB1.out⟩

end Go.Proofs.YtkmdajenbidaaaaDoor
