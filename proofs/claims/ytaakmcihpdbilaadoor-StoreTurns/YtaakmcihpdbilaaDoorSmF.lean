/- Layer 18, the code's store: what it is; given, Base, Behind, Turn. -/
import Derived.Test.YtaakmcihpdbilaaDoorSmE
import Derived.LaidEqlPtr
namespace Go.Proofs.YtaakmcihpdbilaaDoor
open Go.RowKit
set_option maxRecDepth 100000
set_option linter.unusedSimpArgs false
set_option linter.unusedVariables false
set_option maxRecDepth 100000

/-- What a store holds is of a piece. -/
structure StW (X : StoT) : Prop where
  t : (X = zeroT) ∨ (1 ≤ X.2.2.1 ∧ txsP X.2.2.2 = some (X.1 :: X.2.1))
  u : X.2.2.1 ≤ 1099511627775
  b : X.2.2.2.size ≤ 65536
/-- The code's store at gs, on the device at g. -/
def StC (w : World) (S : Nat → Prop) (gs g : Nat) (X : StoT) : Prop :=
  Blk w 45 gs #[.pointer (some ⟨gs, 0, none⟩), .pointer (some ⟨g, 0, none⟩), .int .i64 X.2.2.1, .string X.2.2.2] ∧ (∀ k, S k ↔ k = gs) ∧ StW X
def StBad (w : World) (gs : Nat) : Prop := Blk w 45 gs #[.pointer none, .pointer none, .int .i64 0, .string ⟨#[]⟩]
def NoSto (w : World) (p : Value) : Prop := p = .pointer none ∨ ∃ g, p = .pointer (some ⟨g, 0, none⟩) ∧ StBad w g
theorem NoSto.on {w w' : World} {p : Value} (h : NoSto w p) (hb : Below w.heap.size w w') : NoSto w' p := h.imp id (fun ⟨g, e, h⟩ => ⟨g, e, Blk.on h hb⟩)

theorem Tryd.stoInfo : (Tryd.prog.info? 45).map (·.size) = some 4 := by kernel_rfl

set_option maxHeartbeats 1000000 in
theorem sgiven_any (gs g : Nat) (S : Nat → Prop) (X : StoT) (w : World) (h : StC w S gs g X) :
    Calls Tryd.prog 20 #[.pointer (some ⟨gs, 0, none⟩)] w fun e w' => e = .returned (.bool true) ∧ w' = w := by
  obtain ⟨h, _⟩ := h
  obtain ⟨j, hj, _⟩ := Option.map_eq_some_iff.1 Tryd.stoInfo
  have c0 : w.cell? ⟨gs, 0, none⟩ = some (.pointer (some ⟨gs, 0, none⟩)) := h.cell 0
  have hq := run_eql_ptr_same (P := Tryd.prog) w ⟨gs, 0, none⟩ Tryd.underlying28 hj
  clear h
  go_enter Tryd.func20, Tryd.ntmps20
  go_wp2
  go_ret
  exact ⟨rfl, rfl⟩

set_option maxHeartbeats 1000000 in
theorem sgiven_no (p : Value) (w : World) (h : NoSto w p) :
    Calls Tryd.prog 20 #[p] w fun e w' => e = .returned (.bool false) ∧ w' = w := by
  rcases h with rfl | ⟨g, rfl, h⟩
  · go_enter Tryd.func20, Tryd.ntmps20
    go_wp2
    go_ret
    exact ⟨rfl, rfl⟩
  · have c0 : w.cell? ⟨g, 0, none⟩ = some (.pointer none) := Blk.cell h 0
    have hq := eql_nil_ptr17 (P := Tryd.prog) w ⟨g, 0, none⟩ Tryd.underlying28
    go_enter Tryd.func20, Tryd.ntmps20
    go_wp2
    go_ret
    exact ⟨rfl, rfl⟩


set_option maxHeartbeats 1000000 in
theorem sturn_any (gs g : Nat) (S : Nat → Prop) (X : StoT) (w : World) (h : StC w S gs g X) :
    Calls Tryd.prog 16 #[.pointer (some ⟨gs, 0, none⟩)] w fun e w' => e = .returned (.int .i64 X.2.2.1) ∧ w' = w := by
  have HC : Hid (∀ w', w' = w → Calls Tryd.prog 20 #[.pointer (some ⟨gs, 0, none⟩)] w' fun e w'' => e = .returned (.bool true) ∧ w'' = w') := fun w' e => by subst e; exact sgiven_any gs g S X _ h
  obtain ⟨h, _⟩ := h
  have c1 : w.cell? ⟨gs, 2, none⟩ = some (.int .i64 X.2.2.1) := h.cell 2
  clear h
  go_enter Tryd.func16, Tryd.ntmps16
  go_wp2_with fail
  refine (HC.out _ rfl).mono ?_
  rintro e w1 ⟨rfl, hw1⟩
  subst hw1
  go_wp2
  go_ret
  exact ⟨rfl, rfl⟩

set_option maxHeartbeats 1000000 in
theorem sturn_no (p : Value) (w : World) (h : NoSto w p) :
    Calls Tryd.prog 16 #[p] w fun e w' => e = .returned (.int .i64 0) ∧ w' = w := by
  have HC : Hid (∀ w', w' = w → Calls Tryd.prog 20 #[p] w' fun e w'' => e = .returned (.bool false) ∧ w'' = w') := fun w' e => by subst e; exact sgiven_no p _ h
  clear h
  go_enter Tryd.func16, Tryd.ntmps16
  go_wp2_with fail
  refine (HC.out _ rfl).mono ?_
  rintro e w1 ⟨rfl, hw1⟩
  subst hw1
  go_wp2
  go_ret
  exact ⟨rfl, rfl⟩

theorem txs_head (S x : ByteArray) (l : List ByteArray) (h : txsP S = some (x :: l)) : (inTextP (S, 0) 32768).2 = x := by
  by_cases h0 : S.size = 0
  · rw [txsP_none S h0] at h; cases h
  · by_cases he : (inTextP (S, 0) 32768).1.2 = 0
    · obtain ⟨⟨⟨S1, e1⟩, T⟩, r1⟩ : ∃ p, inTextP (S, 0) 32768 = p := ⟨_, rfl⟩
      rw [r1] at he
      have he' : e1 = 0 := he
      subst he'
      rw [txsP_next S S1 T h0 r1] at h
      rw [r1]
      cases hx : txsP S1 with
      | none => rw [hx] at h; cases h
      | some l2 =>
        rw [hx] at h
        simp only [Option.map_some, Option.some.injEq, List.cons.injEq] at h
        exact h.1
    · rw [txsP_bad S h0 he] at h; cases h
theorem base_is (X : StoT) (h : StW X) : (inTextC (X.2.2.2, 0) 32768).2 = X.1 := by
  rw [text_same18]
  rcases h.t with rfl | ⟨_, h⟩
  · decide +kernel
  · exact txs_head _ _ _ h

set_option maxHeartbeats 1000000 in
theorem sbase_any (gs g : Nat) (S : Nat → Prop) (X : StoT) (w : World) (h : StC w S gs g X) :
    Calls Tryd.prog 13 #[.pointer (some ⟨gs, 0, none⟩)] w fun e w' => e = .returned (.string X.1) ∧ Below w.heap.size w w' := by
  have HC : Hid (∀ w', w' = w → Calls Tryd.prog 20 #[.pointer (some ⟨gs, 0, none⟩)] w' fun e w'' => e = .returned (.bool true) ∧ w'' = w') := fun w' e => by subst e; exact sgiven_any gs g S X _ h
  obtain ⟨h, _, hW⟩ := h
  have c1 : w.cell? ⟨gs, 3, none⟩ = some (.string X.2.2.2) := h.cell 3
  have e9 := base_is X hW
  have hb9 := hW.b
  obtain ⟨T, hT⟩ : ∃ T, X.1 = T := ⟨_, rfl⟩
  obtain ⟨A, hA⟩ : ∃ A, X.2.2.2 = A := ⟨_, rfl⟩
  rw [hA] at c1 hb9 e9
  rw [hT] at e9 ⊢
  clear h hT hA hW
  go_enter Tryd.func13, Tryd.ntmps13
  go_wp2_with fail
  refine (HC.out _ rfl).mono ?_
  rintro e w1 ⟨rfl, hw1⟩
  subst hw1
  go_wp2_with fail
  refine (newIn_any A w1 (by omega)).mono ?_
  rintro e w2 ⟨rfl, hI, hb⟩
  go_wp2_with fail
  refine (itext_any _ _ 32768 _ hI).mono ?_
  rintro e w3 ⟨rfl, h3, hk3⟩
  rw [e9]
  have hB : Below w1.heap.size w1 w3 := hb.trans (hk3.below _ hb.size (Nat.le_refl _) (fun _ e => by cases e))
  clear hI hb h3 hk3
  go_wp2
  go_ret
  exact ⟨rfl, hB⟩

set_option maxHeartbeats 1000000 in
theorem sbase_no (p : Value) (w : World) (h : NoSto w p) :
    Calls Tryd.prog 13 #[p] w fun e w' => e = .returned (.string ⟨#[]⟩) ∧ w' = w := by
  have HC : Hid (∀ w', w' = w → Calls Tryd.prog 20 #[p] w' fun e w'' => e = .returned (.bool false) ∧ w'' = w') := fun w' e => by subst e; exact sgiven_no p _ h
  clear h
  go_enter Tryd.func13, Tryd.ntmps13
  go_wp2_with fail
  refine (HC.out _ rfl).mono ?_
  rintro e w1 ⟨rfl, hw1⟩
  subst hw1
  go_wp2
  go_ret
  exact ⟨rfl, rfl⟩

set_option maxHeartbeats 1000000 in
theorem sbehind_no (p : Value) (w : World) (h : NoSto w p) :
    Calls Tryd.prog 15 #[p] w fun e w' => e = .returned (.slice none 0 0) ∧ w' = w := by
  have HC : Hid (∀ w', w' = w → Calls Tryd.prog 20 #[p] w' fun e w'' => e = .returned (.bool false) ∧ w'' = w') := fun w' e => by subst e; exact sgiven_no p _ h
  clear h
  go_enter Tryd.func15, Tryd.ntmps15
  go_wp2_with fail
  refine (HC.out _ rfl).mono ?_
  rintro e w1 ⟨rfl, hw1⟩
  subst hw1
  go_wp2
  go_ret
  exact ⟨rfl, rfl⟩

set_option maxHeartbeats 1000000 in
theorem sadd_no (p : Value) (t : ByteArray) (w : World) (h : NoSto w p) :
    Calls Tryd.prog 11 #[p, .string t] w fun e w' => e = .returned (.int .i64 1) ∧ w' = w := by
  have HC : Hid (∀ w', w' = w → Calls Tryd.prog 20 #[p] w' fun e w'' => e = .returned (.bool false) ∧ w'' = w') := fun w' e => by subst e; exact sgiven_no p _ h
  clear h
  go_enter Tryd.func11, Tryd.ntmps11
  go_wp2_with fail
  refine (HC.out _ rfl).mono ?_
  rintro e w1 ⟨rfl, hw1⟩
  subst hw1
  go_wp2
  go_ret
  exact ⟨rfl, rfl⟩

set_option maxHeartbeats 1000000 in
theorem slay_no (p : Value) (t : ByteArray) (w : World) (h : NoSto w p) :
    Calls Tryd.prog 8 #[p, .string t] w fun e w' => e = .returned (.int .i64 1) ∧ w' = w := by
  have HC : Hid (∀ w', w' = w → Calls Tryd.prog 20 #[p] w' fun e w'' => e = .returned (.bool false) ∧ w'' = w') := fun w' e => by subst e; exact sgiven_no p _ h
  clear h
  go_enter Tryd.func8, Tryd.ntmps8
  go_wp2_with fail
  refine (HC.out _ rfl).mono ?_
  rintro e w1 ⟨rfl, hw1⟩
  subst hw1
  go_wp2
  go_ret
  exact ⟨rfl, rfl⟩

set_option maxHeartbeats 2000000 in
theorem sbehind_any (gs g : Nat) (S : Nat → Prop) (X : StoT) (w : World) (h : StC w S gs g X) :
    Calls Tryd.prog 15 #[.pointer (some ⟨gs, 0, none⟩)] w fun e w' => ∃ a c, e = .returned (.slice a X.2.1.length c) ∧ StrsAt w' a X.2.1.length X.2.1 ∧ (∀ x, a = some x → X.2.1.length = 0 ∨ w.heap.size ≤ x.block) ∧ Below w.heap.size w w' := by
  have HC : Hid (∀ w', w' = w → Calls Tryd.prog 20 #[.pointer (some ⟨gs, 0, none⟩)] w' fun e w'' => e = .returned (.bool true) ∧ w'' = w') := fun w' e => by subst e; exact sgiven_any gs g S X _ h
  obtain ⟨h, _, hW⟩ := h
  have c1 : w.cell? ⟨gs, 3, none⟩ = some (.string X.2.2.2) := h.cell 3
  have c2 : w.cell? ⟨gs, 2, none⟩ = some (.int .i64 X.2.2.1) := h.cell 2
  have hb9 := hW.b
  obtain ⟨B, l, t, A⟩ := X
  simp only at c1 c2 hb9 ⊢
  rcases hW.t with e | ⟨h1, h2⟩
  · cases e
    clear h hW
    go_enter Tryd.func15, Tryd.ntmps15
    go_wp2_with fail
    refine (HC.out _ rfl).mono ?_
    rintro e w1 ⟨rfl, hw1⟩
    subst hw1
    go_wp2
    go_ret
    exact ⟨none, 0, rfl, ⟨rfl, .inl rfl⟩, (fun _ e => by cases e), Below.refl _ _⟩
  · have h1' : (1 : Int) ≤ t := h1
    have h2' : txsP A = some (B :: l) := h2
    have q0 : (t == 0) = false := by rw [beq_eq_false_iff_ne]; omega
    clear h hW h1 h2
    go_enter Tryd.func15, Tryd.ntmps15
    go_wp2_with fail
    refine (HC.out _ rfl).mono ?_
    rintro e w1 ⟨rfl, hw1⟩
    subst hw1
    go_wp2_with fail
    refine (texts18_any A w1 (by omega)).mono ?_
    rintro e w2 ⟨v, rfl, hb2, hv⟩
    rcases hv with ⟨hv1, _⟩ | ⟨l', hv1, hv2⟩
    · rw [h2'] at hv1; cases hv1
    rw [h2'] at hv1
    cases hv1
    obtain ⟨a13, c13, rfl, hst⟩ := hv2.strs
    obtain ⟨b13, o13, rfl, hc13⟩ := hst.some (by simp)
    have hl13 : (B :: l).length = l.length + 1 := rfl
    have hb13 : w1.heap.size ≤ b13 := by have := (World.ownsRow.lt hv2 b13 rfl).1; omega
    have hcap13 : l.length + 1 ≤ c13 := owns_cap hv2
    obtain ⟨Aq, hA⟩ : ∃ A : Option Addr, (if c13 = 1 then some ⟨b13, o13, none⟩ else some ⟨b13, o13 + 1, none⟩) = A := ⟨_, rfl⟩
    have HA : Hid (StrsAt w2 Aq l.length l) := by
      have hc := own_cells hv2
      refine ⟨rfl, ?_⟩
      by_cases hl0 : l.length = 0
      · exact .inl hl0
      · refine .inr ⟨b13, o13 + 1, ?_, fun i hi => ?_⟩
        · rw [← hA, if_neg (by omega)]
        · have h := hc (i + 1) (by rw [hl13]; omega)
          rw [show o13 + 1 + i = o13 + (i + 1) by omega, h]
          rfl
    have HAb : Hid (∀ z, Aq = some z → w1.heap.size ≤ z.block) := by
      intro z hz
      rw [← hA] at hz
      split at hz <;> cases hz <;> exact hb13
    have z1 : (1 : Int) ≤ ((l.length + 1 : Nat) : Int) := by omega
    have z2 : ((l.length + 1 : Nat) : Int) ≤ (c13 : Int) := by omega
    have z3 : (1 : Int) ≤ (l.length : Int) + 1 := by omega
    rw [hl13]
    clear hst hc13 hv2 h2' HC
    go_wp2
    go_ret
    exact ⟨Aq, c13 - 1, rfl, HA.out, fun x hx => .inr (HAb.out x hx), hb2⟩

end Go.Proofs.YtaakmcihpdbilaaDoor
