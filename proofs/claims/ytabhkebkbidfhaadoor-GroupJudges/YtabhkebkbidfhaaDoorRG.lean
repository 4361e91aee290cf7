import Derived.Test.YtabhkebkbidfhaaDoorRT
import Derived.Test.YtabhkebkbidfhaaDoorR8
/- The document's with (layer 11). -/
namespace Go.Proofs.YtabhkebkbidfhaaDoor
open Go.RowKit
set_option maxRecDepth 100000
set_option linter.unusedSimpArgs false

theorem nodeA_one (x : (Int × Int) × (Int × Int) × ByteArray × ByteArray) : ∀ u ∈ (nodeA x).toList, u.oneCell' = true := by
  intro u hu
  simp [nodeA] at hu
  rcases hu with rfl | rfl | rfl | rfl | rfl | rfl <;> rfl



end Go.Proofs.YtabhkebkbidfhaaDoor

/- The document's May, Check (layer 11). -/
namespace Go.Proofs.YtabhkebkbidfhaaDoor
open Go.RowKit
set_option maxRecDepth 100000
set_option linter.unusedSimpArgs false

/-- May an operation be? -/
def MayO (o : Int × (Int × Int) × (Int × Int) × (Int × Int) × ByteArray × ByteArray) : Prop :=
  MayS o.2.1 ∧ MayS o.2.2.1 ∧
  ((o.1 = 1 ∧ o.2.2.1 = o.2.1 ∧ ParS o.2.2.2.1 ∧ NameP o.2.2.2.2.1 ∧ o.2.2.2.2.2.size = 0) ∨
   (o.1 = 2 ∧ ParS o.2.2.2.1 ∧ o.2.2.2.2.1.size = 0 ∧ o.2.2.2.2.2.size = 0) ∨
   (o.1 = 3 ∧ o.2.2.2.1 = (0, 0) ∧ NameP o.2.2.2.2.1 ∧ o.2.2.2.2.2.size = 0) ∨
   (o.1 = 4 ∧ o.2.2.2.1 = (0, 0) ∧ o.2.2.2.2.1.size = 0 ∧ o.2.2.2.2.2.size ≤ 64) ∨
   (o.1 = 5 ∧ o.2.2.2.1 = (0, 0) ∧ o.2.2.2.2.1.size = 0 ∧ o.2.2.2.2.2.size = 0))

theorem mayS_on (s : Int × Int) (A : Bool) (hA : decide (MayS s) = A) (w w' : World) (hb : Below w.heap.size w w') :
    Calls Tryd.prog 72 #[.agg #[.int .i64 s.1, .int .i64 s.2]] w' fun e w'' => e = .returned (.bool A) ∧ Below w.heap.size w w'' := by
  have h := rmayS_any s w'
  rw [hA] at h
  exact h.mono (fun e w'' h => ⟨h.1, below_step hb (Nat.le_refl _) h.2⟩)

theorem par_on (s : Int × Int) (A : Bool) (hA : decide (ParS s) = A) (w w' : World) (hb : Below w.heap.size w w') :
    Calls Tryd.prog 73 #[.agg #[.int .i64 s.1, .int .i64 s.2]] w' fun e w'' => e = .returned (.bool A) ∧ Below w.heap.size w w'' := by
  have h := rparent_any s w'
  rw [hA] at h
  exact h.mono (fun e w'' h => ⟨h.1, below_step hb (Nat.le_refl _) h.2⟩)

theorem name_on (s : ByteArray) (x : Int) (hx : NameE s x) (w w' : World) (hb : Below w.heap.size w w') (hs : s.size ≤ 1048576) :
    Calls Tryd.prog 74 #[.string s] w' fun e w'' => e = .returned (.int .i64 x) ∧ Below w.heap.size w w'' := by
  refine (rcheckN_any s w' hs).mono ?_
  rintro e w'' ⟨y, rfl, hy, rfl⟩
  rw [NameE.uniq hy hx]
  exact ⟨rfl, hb⟩

theorem nameX_is (s : ByteArray) : ∃ x, NameE s x := by
  by_cases h : NameP s
  · exact ⟨0, .inl ⟨rfl, h⟩⟩
  · exact ⟨80, .inr ⟨rfl, h⟩⟩

theorem isE_yes (s : ByteArray) (h : s.size = 0) : s.toList.isEmpty = true := by
  have h0 : s.data.size = 0 := h
  rw [toList_data, Array.eq_empty_of_size_eq_zero h0]; rfl

theorem isE_no (s : ByteArray) (h : ¬ s.size = 0) : s.toList.isEmpty = false := by
  rw [toList_data]
  cases hl : s.data.toList with
  | nil =>
    have h2 : s.data.toList.length = 0 := by rw [hl]; rfl
    rw [Array.length_toList] at h2
    exact absurd h2 h
  | cons x r => rfl


set_option maxRecDepth 100000 in
set_option maxHeartbeats 8000000 in
theorem rmayO_any (o : Int × (Int × Int) × (Int × Int) × (Int × Int) × ByteArray × ByteArray) (D : Bool) (hD : D = true ↔ MayO o) (w : World) (hs : o.2.2.2.2.1.size ≤ 1048576) (ht : o.2.2.2.2.2.size ≤ 9223372036854775807) :
    Calls Tryd.prog 59 #[.agg (opA o)] w fun x w' => x = .returned (.bool D) ∧ Below w.heap.size w w' := by
  obtain ⟨k, ⟨a, b⟩, ⟨c, d⟩, ⟨e, f⟩, s, t⟩ := o
  unfold opA
  unfold MayO at hD
  have ht' : t.size ≤ 9223372036854775807 := ht
  show Calls Tryd.prog _ #[.agg #[.int .i64 k, .int .i64 a, .int .i64 b, .int .i64 c, .int .i64 d, .int .i64 e, .int .i64 f, .string s, .string t]] w _
  by_cases h1 : MayS (a, b)
  · obtain ⟨A1, hA1, rfl⟩ : ∃ A, decide (MayS (a, b)) = A ∧ A = true := ⟨_, rfl, decide_eq_true h1⟩
    by_cases h2 : MayS (c, d)
    · obtain ⟨A2, hA2, rfl⟩ : ∃ A, decide (MayS (c, d)) = A ∧ A = true := ⟨_, rfl, decide_eq_true h2⟩
      by_cases hk1 : k = 1
      · skip
        have gk : (k == 1) = true := by rw [beq_iff_eq]; exact hk1
        by_cases H0 : (c, d) = (a, b)
        · skip
          have hE1 := fun w => stampEq_is (c, d) (a, b) true (decide_eq_true H0) w
          by_cases H1 : ParS (e, f)
          · skip
            have hA3 : decide (ParS (e, f)) = true := decide_eq_true H1
            by_cases H2 : NameP s
            · skip
              have hA4 : NameE s 0 := .inl ⟨rfl, H2⟩
              by_cases H3 : t.size = 0
              · skip
                have gt := isE_yes t H3
                obtain rfl : D = true := hD.2 ⟨h1, h2, .inl ⟨hk1, H0, H1, H2, H3⟩⟩
                have hE2 := fun w => stampEq e f 0 0 w
                clear hD h1 h2 hk1 H0 H1 H2 H3
                go_enter Tryd.func59, Tryd.ntmps59
                go_wp2_with fail
                generalize hq : World.alloc w _ = w0
                have hb0 : Below w.heap.size w w0 := by rw [← hq]; exact below_new w _
                have hr0 : Below w0.heap.size w0 w0 := Below.refl _ _
                have hlt : w.heap.size < w0.heap.size := by rw [← hq]; simp
                have c0 : ∀ w', Below w0.heap.size w0 w' → w'.cell? ⟨w.heap.size, 0, none⟩ = some (.int .i64 k) := fun w' hb => by
                  rw [hb.cell (p := ⟨w.heap.size, 0, none⟩) hlt, ← hq]; simp
                have c1 : ∀ w', Below w0.heap.size w0 w' → w'.cell? ⟨w.heap.size, 1, none⟩ = some (.int .i64 a) := fun w' hb => by
                  rw [hb.cell (p := ⟨w.heap.size, 1, none⟩) hlt, ← hq]; simp
                have c2 : ∀ w', Below w0.heap.size w0 w' → w'.cell? ⟨w.heap.size, 2, none⟩ = some (.int .i64 b) := fun w' hb => by
                  rw [hb.cell (p := ⟨w.heap.size, 2, none⟩) hlt, ← hq]; simp
                have c3 : ∀ w', Below w0.heap.size w0 w' → w'.cell? ⟨w.heap.size, 3, none⟩ = some (.int .i64 c) := fun w' hb => by
                  rw [hb.cell (p := ⟨w.heap.size, 3, none⟩) hlt, ← hq]; simp
                have c4 : ∀ w', Below w0.heap.size w0 w' → w'.cell? ⟨w.heap.size, 4, none⟩ = some (.int .i64 d) := fun w' hb => by
                  rw [hb.cell (p := ⟨w.heap.size, 4, none⟩) hlt, ← hq]; simp
                have c5 : ∀ w', Below w0.heap.size w0 w' → w'.cell? ⟨w.heap.size, 5, none⟩ = some (.int .i64 e) := fun w' hb => by
                  rw [hb.cell (p := ⟨w.heap.size, 5, none⟩) hlt, ← hq]; simp
                have c6 : ∀ w', Below w0.heap.size w0 w' → w'.cell? ⟨w.heap.size, 6, none⟩ = some (.int .i64 f) := fun w' hb => by
                  rw [hb.cell (p := ⟨w.heap.size, 6, none⟩) hlt, ← hq]; simp
                have c7 : ∀ w', Below w0.heap.size w0 w' → w'.cell? ⟨w.heap.size, 7, none⟩ = some (.string s) := fun w' hb => by
                  rw [hb.cell (p := ⟨w.heap.size, 7, none⟩) hlt, ← hq]; simp
                have c8 : ∀ w', Below w0.heap.size w0 w' → w'.cell? ⟨w.heap.size, 8, none⟩ = some (.string t) := fun w' hb => by
                  rw [hb.cell (p := ⟨w.heap.size, 8, none⟩) hlt, ← hq]; simp
                have C1 : Hid (∀ w', Below w0.heap.size w0 w' → _) := fun w' hb => mayS_on (a, b) _ hA1 w0 w' hb
                have C2 : Hid (∀ w', Below w0.heap.size w0 w' → _) := fun w' hb => mayS_on (c, d) _ hA2 w0 w' hb
                have C3 : Hid (∀ w', Below w0.heap.size w0 w' → _) := fun w' hb => par_on (e, f) _ hA3 w0 w' hb
                have C4 : Hid (∀ w', Below w0.heap.size w0 w' → _) := fun w' hb => name_on s _ hA4 w0 w' hb hs
                clear hq hA1 hA2 hA3 hA4 hs
                refine (C1.out _ hr0).mono ?_
                rintro e1 w1 ⟨rfl, hb1⟩
                clear C1
                go_wp2_with (first
                  | (go_at_call 72; refine (C2.out _ (by assumption)).mono ?_; rintro e1 w2 ⟨rfl, hb2⟩)
                  | (go_at_call 73; refine (C3.out _ (by assumption)).mono ?_; rintro e1 w3 ⟨rfl, hb3⟩)
                  | (go_at_call 74; refine (C4.out _ (by assumption)).mono ?_; rintro e1 w4 ⟨rfl, hb4⟩))
                go_ret
                exact ⟨rfl, below_step hb0 (Nat.le_refl _) (by assumption)⟩
              · skip
                have gt := isE_no t H3
                obtain rfl : D = false := by
                  cases D with
                  | false => rfl
                  | true =>
                    exfalso
                    obtain ⟨x1, x2, x3⟩ := hD.1 rfl
                    rcases x3 with ⟨y, z0, z1, z2, z3⟩ | ⟨y, _⟩ | ⟨y, _⟩ | ⟨y, _⟩ | ⟨y, _⟩
                    · exact H3 z3
                    · exact absurd (show k = 2 from y) (by omega)
                    · exact absurd (show k = 3 from y) (by omega)
                    · exact absurd (show k = 4 from y) (by omega)
                    · exact absurd (show k = 5 from y) (by omega)
                have hE2 := fun w => stampEq e f 0 0 w
                clear hD h1 h2 hk1 H0 H1 H2 H3
                go_enter Tryd.func59, Tryd.ntmps59
                go_wp2_with fail
                generalize hq : World.alloc w _ = w0
                have hb0 : Below w.heap.size w w0 := by rw [← hq]; exact below_new w _
                have hr0 : Below w0.heap.size w0 w0 := Below.refl _ _
                have hlt : w.heap.size < w0.heap.size := by rw [← hq]; simp
                have c0 : ∀ w', Below w0.heap.size w0 w' → w'.cell? ⟨w.heap.size, 0, none⟩ = some (.int .i64 k) := fun w' hb => by
                  rw [hb.cell (p := ⟨w.heap.size, 0, none⟩) hlt, ← hq]; simp
                have c1 : ∀ w', Below w0.heap.size w0 w' → w'.cell? ⟨w.heap.size, 1, none⟩ = some (.int .i64 a) := fun w' hb => by
                  rw [hb.cell (p := ⟨w.heap.size, 1, none⟩) hlt, ← hq]; simp
                have c2 : ∀ w', Below w0.heap.size w0 w' → w'.cell? ⟨w.heap.size, 2, none⟩ = some (.int .i64 b) := fun w' hb => by
                  rw [hb.cell (p := ⟨w.heap.size, 2, none⟩) hlt, ← hq]; simp
                have c3 : ∀ w', Below w0.heap.size w0 w' → w'.cell? ⟨w.heap.size, 3, none⟩ = some (.int .i64 c) := fun w' hb => by
                  rw [hb.cell (p := ⟨w.heap.size, 3, none⟩) hlt, ← hq]; simp
                have c4 : ∀ w', Below w0.heap.size w0 w' → w'.cell? ⟨w.heap.size, 4, none⟩ = some (.int .i64 d) := fun w' hb => by
                  rw [hb.cell (p := ⟨w.heap.size, 4, none⟩) hlt, ← hq]; simp
                have c5 : ∀ w', Below w0.heap.size w0 w' → w'.cell? ⟨w.heap.size, 5, none⟩ = some (.int .i64 e) := fun w' hb => by
                  rw [hb.cell (p := ⟨w.heap.size, 5, none⟩) hlt, ← hq]; simp
                have c6 : ∀ w', Below w0.heap.size w0 w' → w'.cell? ⟨w.heap.size, 6, none⟩ = some (.int .i64 f) := fun w' hb => by
                  rw [hb.cell (p := ⟨w.heap.size, 6, none⟩) hlt, ← hq]; simp
                have c7 : ∀ w', Below w0.heap.size w0 w' → w'.cell? ⟨w.heap.size, 7, none⟩ = some (.string s) := fun w' hb => by
                  rw [hb.cell (p := ⟨w.heap.size, 7, none⟩) hlt, ← hq]; simp
                have c8 : ∀ w', Below w0.heap.size w0 w' → w'.cell? ⟨w.heap.size, 8, none⟩ = some (.string t) := fun w' hb => by
                  rw [hb.cell (p := ⟨w.heap.size, 8, none⟩) hlt, ← hq]; simp
                have C1 : Hid (∀ w', Below w0.heap.size w0 w' → _) := fun w' hb => mayS_on (a, b) _ hA1 w0 w' hb
                have C2 : Hid (∀ w', Below w0.heap.size w0 w' → _) := fun w' hb => mayS_on (c, d) _ hA2 w0 w' hb
                have C3 : Hid (∀ w', Below w0.heap.size w0 w' → _) := fun w' hb => par_on (e, f) _ hA3 w0 w' hb
                have C4 : Hid (∀ w', Below w0.heap.size w0 w' → _) := fun w' hb => name_on s _ hA4 w0 w' hb hs
                clear hq hA1 hA2 hA3 hA4 hs
                refine (C1.out _ hr0).mono ?_
                rintro e1 w1 ⟨rfl, hb1⟩
                clear C1
                go_wp2_with (first
                  | (go_at_call 72; refine (C2.out _ (by assumption)).mono ?_; rintro e1 w2 ⟨rfl, hb2⟩)
                  | (go_at_call 73; refine (C3.out _ (by assumption)).mono ?_; rintro e1 w3 ⟨rfl, hb3⟩)
                  | (go_at_call 74; refine (C4.out _ (by assumption)).mono ?_; rintro e1 w4 ⟨rfl, hb4⟩))
                go_ret
                exact ⟨rfl, below_step hb0 (Nat.le_refl _) (by assumption)⟩
            · skip
              have hA4 : NameE s 80 := .inr ⟨rfl, H2⟩
              obtain rfl : D = false := by
                cases D with
                | false => rfl
                | true =>
                  exfalso
                  obtain ⟨x1, x2, x3⟩ := hD.1 rfl
                  rcases x3 with ⟨y, z0, z1, z2, z3⟩ | ⟨y, _⟩ | ⟨y, _⟩ | ⟨y, _⟩ | ⟨y, _⟩
                  · exact H2 z2
                  · exact absurd (show k = 2 from y) (by omega)
                  · exact absurd (show k = 3 from y) (by omega)
                  · exact absurd (show k = 4 from y) (by omega)
                  · exact absurd (show k = 5 from y) (by omega)
              have hE2 := fun w => stampEq e f 0 0 w
              clear hD h1 h2 hk1 H0 H1 H2
              go_enter Tryd.func59, Tryd.ntmps59
              go_wp2_with fail
              generalize hq : World.alloc w _ = w0
              have hb0 : Below w.heap.size w w0 := by rw [← hq]; exact below_new w _
              have hr0 : Below w0.heap.size w0 w0 := Below.refl _ _
              have hlt : w.heap.size < w0.heap.size := by rw [← hq]; simp
              have c0 : ∀ w', Below w0.heap.size w0 w' → w'.cell? ⟨w.heap.size, 0, none⟩ = some (.int .i64 k) := fun w' hb => by
                rw [hb.cell (p := ⟨w.heap.size, 0, none⟩) hlt, ← hq]; simp
              have c1 : ∀ w', Below w0.heap.size w0 w' → w'.cell? ⟨w.heap.size, 1, none⟩ = some (.int .i64 a) := fun w' hb => by
                rw [hb.cell (p := ⟨w.heap.size, 1, none⟩) hlt, ← hq]; simp
              have c2 : ∀ w', Below w0.heap.size w0 w' → w'.cell? ⟨w.heap.size, 2, none⟩ = some (.int .i64 b) := fun w' hb => by
                rw [hb.cell (p := ⟨w.heap.size, 2, none⟩) hlt, ← hq]; simp
              have c3 : ∀ w', Below w0.heap.size w0 w' → w'.cell? ⟨w.heap.size, 3, none⟩ = some (.int .i64 c) := fun w' hb => by
                rw [hb.cell (p := ⟨w.heap.size, 3, none⟩) hlt, ← hq]; simp
              have c4 : ∀ w', Below w0.heap.size w0 w' → w'.cell? ⟨w.heap.size, 4, none⟩ = some (.int .i64 d) := fun w' hb => by
                rw [hb.cell (p := ⟨w.heap.size, 4, none⟩) hlt, ← hq]; simp
              have c5 : ∀ w', Below w0.heap.size w0 w' → w'.cell? ⟨w.heap.size, 5, none⟩ = some (.int .i64 e) := fun w' hb => by
                rw [hb.cell (p := ⟨w.heap.size, 5, none⟩) hlt, ← hq]; simp
              have c6 : ∀ w', Below w0.heap.size w0 w' → w'.cell? ⟨w.heap.size, 6, none⟩ = some (.int .i64 f) := fun w' hb => by
                rw [hb.cell (p := ⟨w.heap.size, 6, none⟩) hlt, ← hq]; simp
              have c7 : ∀ w', Below w0.heap.size w0 w' → w'.cell? ⟨w.heap.size, 7, none⟩ = some (.string s) := fun w' hb => by
                rw [hb.cell (p := ⟨w.heap.size, 7, none⟩) hlt, ← hq]; simp
              have c8 : ∀ w', Below w0.heap.size w0 w' → w'.cell? ⟨w.heap.size, 8, none⟩ = some (.string t) := fun w' hb => by
                rw [hb.cell (p := ⟨w.heap.size, 8, none⟩) hlt, ← hq]; simp
              have C1 : Hid (∀ w', Below w0.heap.size w0 w' → _) := fun w' hb => mayS_on (a, b) _ hA1 w0 w' hb
              have C2 : Hid (∀ w', Below w0.heap.size w0 w' → _) := fun w' hb => mayS_on (c, d) _ hA2 w0 w' hb
              have C3 : Hid (∀ w', Below w0.heap.size w0 w' → _) := fun w' hb => par_on (e, f) _ hA3 w0 w' hb
              have C4 : Hid (∀ w', Below w0.heap.size w0 w' → _) := fun w' hb => name_on s _ hA4 w0 w' hb hs
              clear hq hA1 hA2 hA3 hA4 hs
              refine (C1.out _ hr0).mono ?_
              rintro e1 w1 ⟨rfl, hb1⟩
              clear C1
              go_wp2_with (first
                | (go_at_call 72; refine (C2.out _ (by assumption)).mono ?_; rintro e1 w2 ⟨rfl, hb2⟩)
                | (go_at_call 73; refine (C3.out _ (by assumption)).mono ?_; rintro e1 w3 ⟨rfl, hb3⟩)
                | (go_at_call 74; refine (C4.out _ (by assumption)).mono ?_; rintro e1 w4 ⟨rfl, hb4⟩))
              go_ret
              exact ⟨rfl, below_step hb0 (Nat.le_refl _) (by assumption)⟩
          · skip
            have hA3 : decide (ParS (e, f)) = false := decide_eq_false H1
            obtain rfl : D = false := by
              cases D with
              | false => rfl
              | true =>
                exfalso
                obtain ⟨x1, x2, x3⟩ := hD.1 rfl
                rcases x3 with ⟨y, z0, z1, z2, z3⟩ | ⟨y, _⟩ | ⟨y, _⟩ | ⟨y, _⟩ | ⟨y, _⟩
                · exact H1 z1
                · exact absurd (show k = 2 from y) (by omega)
                · exact absurd (show k = 3 from y) (by omega)
                · exact absurd (show k = 4 from y) (by omega)
                · exact absurd (show k = 5 from y) (by omega)
            obtain ⟨A4, hA4⟩ : ∃ x, NameE s x := nameX_is s
            have hE2 := fun w => stampEq e f 0 0 w
            clear hD h1 h2 hk1 H0 H1
            go_enter Tryd.func59, Tryd.ntmps59
            go_wp2_with fail
            generalize hq : World.alloc w _ = w0
            have hb0 : Below w.heap.size w w0 := by rw [← hq]; exact below_new w _
            have hr0 : Below w0.heap.size w0 w0 := Below.refl _ _
            have hlt : w.heap.size < w0.heap.size := by rw [← hq]; simp
            have c0 : ∀ w', Below w0.heap.size w0 w' → w'.cell? ⟨w.heap.size, 0, none⟩ = some (.int .i64 k) := fun w' hb => by
              rw [hb.cell (p := ⟨w.heap.size, 0, none⟩) hlt, ← hq]; simp
            have c1 : ∀ w', Below w0.heap.size w0 w' → w'.cell? ⟨w.heap.size, 1, none⟩ = some (.int .i64 a) := fun w' hb => by
              rw [hb.cell (p := ⟨w.heap.size, 1, none⟩) hlt, ← hq]; simp
            have c2 : ∀ w', Below w0.heap.size w0 w' → w'.cell? ⟨w.heap.size, 2, none⟩ = some (.int .i64 b) := fun w' hb => by
              rw [hb.cell (p := ⟨w.heap.size, 2, none⟩) hlt, ← hq]; simp
            have c3 : ∀ w', Below w0.heap.size w0 w' → w'.cell? ⟨w.heap.size, 3, none⟩ = some (.int .i64 c) := fun w' hb => by
              rw [hb.cell (p := ⟨w.heap.size, 3, none⟩) hlt, ← hq]; simp
            have c4 : ∀ w', Below w0.heap.size w0 w' → w'.cell? ⟨w.heap.size, 4, none⟩ = some (.int .i64 d) := fun w' hb => by
              rw [hb.cell (p := ⟨w.heap.size, 4, none⟩) hlt, ← hq]; simp
            have c5 : ∀ w', Below w0.heap.size w0 w' → w'.cell? ⟨w.heap.size, 5, none⟩ = some (.int .i64 e) := fun w' hb => by
              rw [hb.cell (p := ⟨w.heap.size, 5, none⟩) hlt, ← hq]; simp
            have c6 : ∀ w', Below w0.heap.size w0 w' → w'.cell? ⟨w.heap.size, 6, none⟩ = some (.int .i64 f) := fun w' hb => by
              rw [hb.cell (p := ⟨w.heap.size, 6, none⟩) hlt, ← hq]; simp
            have c7 : ∀ w', Below w0.heap.size w0 w' → w'.cell? ⟨w.heap.size, 7, none⟩ = some (.string s) := fun w' hb => by
              rw [hb.cell (p := ⟨w.heap.size, 7, none⟩) hlt, ← hq]; simp
            have c8 : ∀ w', Below w0.heap.size w0 w' → w'.cell? ⟨w.heap.size, 8, none⟩ = some (.string t) := fun w' hb => by
              rw [hb.cell (p := ⟨w.heap.size, 8, none⟩) hlt, ← hq]; simp
            have C1 : Hid (∀ w', Below w0.heap.size w0 w' → _) := fun w' hb => mayS_on (a, b) _ hA1 w0 w' hb
            have C2 : Hid (∀ w', Below w0.heap.size w0 w' → _) := fun w' hb => mayS_on (c, d) _ hA2 w0 w' hb
            have C3 : Hid (∀ w', Below w0.heap.size w0 w' → _) := fun w' hb => par_on (e, f) _ hA3 w0 w' hb
            have C4 : Hid (∀ w', Below w0.heap.size w0 w' → _) := fun w' hb => name_on s _ hA4 w0 w' hb hs
            clear hq hA1 hA2 hA3 hA4 hs
            refine (C1.out _ hr0).mono ?_
            rintro e1 w1 ⟨rfl, hb1⟩
            clear C1
            go_wp2_with (first
              | (go_at_call 72; refine (C2.out _ (by assumption)).mono ?_; rintro e1 w2 ⟨rfl, hb2⟩)
              | (go_at_call 73; refine (C3.out _ (by assumption)).mono ?_; rintro e1 w3 ⟨rfl, hb3⟩)
              | (go_at_call 74; refine (C4.out _ (by assumption)).mono ?_; rintro e1 w4 ⟨rfl, hb4⟩))
            go_ret
            exact ⟨rfl, below_step hb0 (Nat.le_refl _) (by assumption)⟩
        · skip
          have hE1 := fun w => stampEq_is (c, d) (a, b) false (decide_eq_false H0) w
          obtain rfl : D = false := by
            cases D with
            | false => rfl
            | true =>
              exfalso
              obtain ⟨x1, x2, x3⟩ := hD.1 rfl
              rcases x3 with ⟨y, z0, z1, z2, z3⟩ | ⟨y, _⟩ | ⟨y, _⟩ | ⟨y, _⟩ | ⟨y, _⟩
              · exact H0 z0
              · exact absurd (show k = 2 from y) (by omega)
              · exact absurd (show k = 3 from y) (by omega)
              · exact absurd (show k = 4 from y) (by omega)
              · exact absurd (show k = 5 from y) (by omega)
          obtain ⟨A3, hA3⟩ : ∃ A, decide (ParS (e, f)) = A := ⟨_, rfl⟩
          obtain ⟨A4, hA4⟩ : ∃ x, NameE s x := nameX_is s
          have hE2 := fun w => stampEq e f 0 0 w
          clear hD h1 h2 hk1 H0
          go_enter Tryd.func59, Tryd.ntmps59
          go_wp2_with fail
          generalize hq : World.alloc w _ = w0
          have hb0 : Below w.heap.size w w0 := by rw [← hq]; exact below_new w _
          have hr0 : Below w0.heap.size w0 w0 := Below.refl _ _
          have hlt : w.heap.size < w0.heap.size := by rw [← hq]; simp
          have c0 : ∀ w', Below w0.heap.size w0 w' → w'.cell? ⟨w.heap.size, 0, none⟩ = some (.int .i64 k) := fun w' hb => by
            rw [hb.cell (p := ⟨w.heap.size, 0, none⟩) hlt, ← hq]; simp
          have c1 : ∀ w', Below w0.heap.size w0 w' → w'.cell? ⟨w.heap.size, 1, none⟩ = some (.int .i64 a) := fun w' hb => by
            rw [hb.cell (p := ⟨w.heap.size, 1, none⟩) hlt, ← hq]; simp
          have c2 : ∀ w', Below w0.heap.size w0 w' → w'.cell? ⟨w.heap.size, 2, none⟩ = some (.int .i64 b) := fun w' hb => by
            rw [hb.cell (p := ⟨w.heap.size, 2, none⟩) hlt, ← hq]; simp
          have c3 : ∀ w', Below w0.heap.size w0 w' → w'.cell? ⟨w.heap.size, 3, none⟩ = some (.int .i64 c) := fun w' hb => by
            rw [hb.cell (p := ⟨w.heap.size, 3, none⟩) hlt, ← hq]; simp
          have c4 : ∀ w', Below w0.heap.size w0 w' → w'.cell? ⟨w.heap.size, 4, none⟩ = some (.int .i64 d) := fun w' hb => by
            rw [hb.cell (p := ⟨w.heap.size, 4, none⟩) hlt, ← hq]; simp
          have c5 : ∀ w', Below w0.heap.size w0 w' → w'.cell? ⟨w.heap.size, 5, none⟩ = some (.int .i64 e) := fun w' hb => by
            rw [hb.cell (p := ⟨w.heap.size, 5, none⟩) hlt, ← hq]; simp
          have c6 : ∀ w', Below w0.heap.size w0 w' → w'.cell? ⟨w.heap.size, 6, none⟩ = some (.int .i64 f) := fun w' hb => by
            rw [hb.cell (p := ⟨w.heap.size, 6, none⟩) hlt, ← hq]; simp
          have c7 : ∀ w', Below w0.heap.size w0 w' → w'.cell? ⟨w.heap.size, 7, none⟩ = some (.string s) := fun w' hb => by
            rw [hb.cell (p := ⟨w.heap.size, 7, none⟩) hlt, ← hq]; simp
          have c8 : ∀ w', Below w0.heap.size w0 w' → w'.cell? ⟨w.heap.size, 8, none⟩ = some (.string t) := fun w' hb => by
            rw [hb.cell (p := ⟨w.heap.size, 8, none⟩) hlt, ← hq]; simp
          have C1 : Hid (∀ w', Below w0.heap.size w0 w' → _) := fun w' hb => mayS_on (a, b) _ hA1 w0 w' hb
          have C2 : Hid (∀ w', Below w0.heap.size w0 w' → _) := fun w' hb => mayS_on (c, d) _ hA2 w0 w' hb
          have C3 : Hid (∀ w', Below w0.heap.size w0 w' → _) := fun w' hb => par_on (e, f) _ hA3 w0 w' hb
          have C4 : Hid (∀ w', Below w0.heap.size w0 w' → _) := fun w' hb => name_on s _ hA4 w0 w' hb hs
          clear hq hA1 hA2 hA3 hA4 hs
          refine (C1.out _ hr0).mono ?_
          rintro e1 w1 ⟨rfl, hb1⟩
          clear C1
          go_wp2_with (first
            | (go_at_call 72; refine (C2.out _ (by assumption)).mono ?_; rintro e1 w2 ⟨rfl, hb2⟩)
            | (go_at_call 73; refine (C3.out _ (by assumption)).mono ?_; rintro e1 w3 ⟨rfl, hb3⟩)
            | (go_at_call 74; refine (C4.out _ (by assumption)).mono ?_; rintro e1 w4 ⟨rfl, hb4⟩))
          go_ret
          exact ⟨rfl, below_step hb0 (Nat.le_refl _) (by assumption)⟩
      · skip
        have gk1 : (k == 1) = false := by rw [beq_eq_false_iff_ne]; exact hk1
        by_cases hk2 : k = 2
        · skip
          have gk : (k == 2) = true := by rw [beq_iff_eq]; exact hk2
          by_cases H0 : ParS (e, f)
          · skip
            have hA3 : decide (ParS (e, f)) = true := decide_eq_true H0
            by_cases H1 : s.size = 0
            · skip
              have gs := isE_yes s H1
              by_cases H2 : t.size = 0
              · skip
                have gt := isE_yes t H2
                obtain rfl : D = true := hD.2 ⟨h1, h2, .inr (.inl ⟨hk2, H0, H1, H2⟩)⟩
                obtain ⟨A4, hA4⟩ : ∃ x, NameE s x := nameX_is s
                have hE2 := fun w => stampEq e f 0 0 w
                clear hD h1 h2 hk1 hk2 H0 H1 H2
                go_enter Tryd.func59, Tryd.ntmps59
                go_wp2_with fail
                generalize hq : World.alloc w _ = w0
                have hb0 : Below w.heap.size w w0 := by rw [← hq]; exact below_new w _
                have hr0 : Below w0.heap.size w0 w0 := Below.refl _ _
                have hlt : w.heap.size < w0.heap.size := by rw [← hq]; simp
                have c0 : ∀ w', Below w0.heap.size w0 w' → w'.cell? ⟨w.heap.size, 0, none⟩ = some (.int .i64 k) := fun w' hb => by
                  rw [hb.cell (p := ⟨w.heap.size, 0, none⟩) hlt, ← hq]; simp
                have c1 : ∀ w', Below w0.heap.size w0 w' → w'.cell? ⟨w.heap.size, 1, none⟩ = some (.int .i64 a) := fun w' hb => by
                  rw [hb.cell (p := ⟨w.heap.size, 1, none⟩) hlt, ← hq]; simp
                have c2 : ∀ w', Below w0.heap.size w0 w' → w'.cell? ⟨w.heap.size, 2, none⟩ = some (.int .i64 b) := fun w' hb => by
                  rw [hb.cell (p := ⟨w.heap.size, 2, none⟩) hlt, ← hq]; simp
                have c3 : ∀ w', Below w0.heap.size w0 w' → w'.cell? ⟨w.heap.size, 3, none⟩ = some (.int .i64 c) := fun w' hb => by
                  rw [hb.cell (p := ⟨w.heap.size, 3, none⟩) hlt, ← hq]; simp
                have c4 : ∀ w', Below w0.heap.size w0 w' → w'.cell? ⟨w.heap.size, 4, none⟩ = some (.int .i64 d) := fun w' hb => by
                  rw [hb.cell (p := ⟨w.heap.size, 4, none⟩) hlt, ← hq]; simp
                have c5 : ∀ w', Below w0.heap.size w0 w' → w'.cell? ⟨w.heap.size, 5, none⟩ = some (.int .i64 e) := fun w' hb => by
                  rw [hb.cell (p := ⟨w.heap.size, 5, none⟩) hlt, ← hq]; simp
                have c6 : ∀ w', Below w0.heap.size w0 w' → w'.cell? ⟨w.heap.size, 6, none⟩ = some (.int .i64 f) := fun w' hb => by
                  rw [hb.cell (p := ⟨w.heap.size, 6, none⟩) hlt, ← hq]; simp
                have c7 : ∀ w', Below w0.heap.size w0 w' → w'.cell? ⟨w.heap.size, 7, none⟩ = some (.string s) := fun w' hb => by
                  rw [hb.cell (p := ⟨w.heap.size, 7, none⟩) hlt, ← hq]; simp
                have c8 : ∀ w', Below w0.heap.size w0 w' → w'.cell? ⟨w.heap.size, 8, none⟩ = some (.string t) := fun w' hb => by
                  rw [hb.cell (p := ⟨w.heap.size, 8, none⟩) hlt, ← hq]; simp
                have C1 : Hid (∀ w', Below w0.heap.size w0 w' → _) := fun w' hb => mayS_on (a, b) _ hA1 w0 w' hb
                have C2 : Hid (∀ w', Below w0.heap.size w0 w' → _) := fun w' hb => mayS_on (c, d) _ hA2 w0 w' hb
                have C3 : Hid (∀ w', Below w0.heap.size w0 w' → _) := fun w' hb => par_on (e, f) _ hA3 w0 w' hb
                have C4 : Hid (∀ w', Below w0.heap.size w0 w' → _) := fun w' hb => name_on s _ hA4 w0 w' hb hs
                clear hq hA1 hA2 hA3 hA4 hs
                refine (C1.out _ hr0).mono ?_
                rintro e1 w1 ⟨rfl, hb1⟩
                clear C1
                go_wp2_with (first
                  | (go_at_call 72; refine (C2.out _ (by assumption)).mono ?_; rintro e1 w2 ⟨rfl, hb2⟩)
                  | (go_at_call 73; refine (C3.out _ (by assumption)).mono ?_; rintro e1 w3 ⟨rfl, hb3⟩)
                  | (go_at_call 74; refine (C4.out _ (by assumption)).mono ?_; rintro e1 w4 ⟨rfl, hb4⟩))
                go_ret
                exact ⟨rfl, below_step hb0 (Nat.le_refl _) (by assumption)⟩
              · skip
                have gt := isE_no t H2
                obtain rfl : D = false := by
                  cases D with
                  | false => rfl
                  | true =>
                    exfalso
                    obtain ⟨x1, x2, x3⟩ := hD.1 rfl
                    rcases x3 with ⟨y, _⟩ | ⟨y, z0, z1, z2⟩ | ⟨y, _⟩ | ⟨y, _⟩ | ⟨y, _⟩
                    · exact absurd (show k = 1 from y) (by omega)
                    · exact H2 z2
                    · exact absurd (show k = 3 from y) (by omega)
                    · exact absurd (show k = 4 from y) (by omega)
                    · exact absurd (show k = 5 from y) (by omega)
                obtain ⟨A4, hA4⟩ : ∃ x, NameE s x := nameX_is s
                have hE2 := fun w => stampEq e f 0 0 w
                clear hD h1 h2 hk1 hk2 H0 H1 H2
                go_enter Tryd.func59, Tryd.ntmps59
                go_wp2_with fail
                generalize hq : World.alloc w _ = w0
                have hb0 : Below w.heap.size w w0 := by rw [← hq]; exact below_new w _
                have hr0 : Below w0.heap.size w0 w0 := Below.refl _ _
                have hlt : w.heap.size < w0.heap.size := by rw [← hq]; simp
                have c0 : ∀ w', Below w0.heap.size w0 w' → w'.cell? ⟨w.heap.size, 0, none⟩ = some (.int .i64 k) := fun w' hb => by
                  rw [hb.cell (p := ⟨w.heap.size, 0, none⟩) hlt, ← hq]; simp
                have c1 : ∀ w', Below w0.heap.size w0 w' → w'.cell? ⟨w.heap.size, 1, none⟩ = some (.int .i64 a) := fun w' hb => by
                  rw [hb.cell (p := ⟨w.heap.size, 1, none⟩) hlt, ← hq]; simp
                have c2 : ∀ w', Below w0.heap.size w0 w' → w'.cell? ⟨w.heap.size, 2, none⟩ = some (.int .i64 b) := fun w' hb => by
                  rw [hb.cell (p := ⟨w.heap.size, 2, none⟩) hlt, ← hq]; simp
                have c3 : ∀ w', Below w0.heap.size w0 w' → w'.cell? ⟨w.heap.size, 3, none⟩ = some (.int .i64 c) := fun w' hb => by
                  rw [hb.cell (p := ⟨w.heap.size, 3, none⟩) hlt, ← hq]; simp
                have c4 : ∀ w', Below w0.heap.size w0 w' → w'.cell? ⟨w.heap.size, 4, none⟩ = some (.int .i64 d) := fun w' hb => by
                  rw [hb.cell (p := ⟨w.heap.size, 4, none⟩) hlt, ← hq]; simp
                have c5 : ∀ w', Below w0.heap.size w0 w' → w'.cell? ⟨w.heap.size, 5, none⟩ = some (.int .i64 e) := fun w' hb => by
                  rw [hb.cell (p := ⟨w.heap.size, 5, none⟩) hlt, ← hq]; simp
                have c6 : ∀ w', Below w0.heap.size w0 w' → w'.cell? ⟨w.heap.size, 6, none⟩ = some (.int .i64 f) := fun w' hb => by
                  rw [hb.cell (p := ⟨w.heap.size, 6, none⟩) hlt, ← hq]; simp
                have c7 : ∀ w', Below w0.heap.size w0 w' → w'.cell? ⟨w.heap.size, 7, none⟩ = some (.string s) := fun w' hb => by
                  rw [hb.cell (p := ⟨w.heap.size, 7, none⟩) hlt, ← hq]; simp
                have c8 : ∀ w', Below w0.heap.size w0 w' → w'.cell? ⟨w.heap.size, 8, none⟩ = some (.string t) := fun w' hb => by
                  rw [hb.cell (p := ⟨w.heap.size, 8, none⟩) hlt, ← hq]; simp
                have C1 : Hid (∀ w', Below w0.heap.size w0 w' → _) := fun w' hb => mayS_on (a, b) _ hA1 w0 w' hb
                have C2 : Hid (∀ w', Below w0.heap.size w0 w' → _) := fun w' hb => mayS_on (c, d) _ hA2 w0 w' hb
                have C3 : Hid (∀ w', Below w0.heap.size w0 w' → _) := fun w' hb => par_on (e, f) _ hA3 w0 w' hb
                have C4 : Hid (∀ w', Below w0.heap.size w0 w' → _) := fun w' hb => name_on s _ hA4 w0 w' hb hs
                clear hq hA1 hA2 hA3 hA4 hs
                refine (C1.out _ hr0).mono ?_
                rintro e1 w1 ⟨rfl, hb1⟩
                clear C1
                go_wp2_with (first
                  | (go_at_call 72; refine (C2.out _ (by assumption)).mono ?_; rintro e1 w2 ⟨rfl, hb2⟩)
                  | (go_at_call 73; refine (C3.out _ (by assumption)).mono ?_; rintro e1 w3 ⟨rfl, hb3⟩)
                  | (go_at_call 74; refine (C4.out _ (by assumption)).mono ?_; rintro e1 w4 ⟨rfl, hb4⟩))
                go_ret
                exact ⟨rfl, below_step hb0 (Nat.le_refl _) (by assumption)⟩
            · skip
              have gs := isE_no s H1
              obtain rfl : D = false := by
                cases D with
                | false => rfl
                | true =>
                  exfalso
                  obtain ⟨x1, x2, x3⟩ := hD.1 rfl
                  rcases x3 with ⟨y, _⟩ | ⟨y, z0, z1, z2⟩ | ⟨y, _⟩ | ⟨y, _⟩ | ⟨y, _⟩
                  · exact absurd (show k = 1 from y) (by omega)
                  · exact H1 z1
                  · exact absurd (show k = 3 from y) (by omega)
                  · exact absurd (show k = 4 from y) (by omega)
                  · exact absurd (show k = 5 from y) (by omega)
              obtain ⟨A4, hA4⟩ : ∃ x, NameE s x := nameX_is s
              have hE2 := fun w => stampEq e f 0 0 w
              clear hD h1 h2 hk1 hk2 H0 H1
              go_enter Tryd.func59, Tryd.ntmps59
              go_wp2_with fail
              generalize hq : World.alloc w _ = w0
              have hb0 : Below w.heap.size w w0 := by rw [← hq]; exact below_new w _
              have hr0 : Below w0.heap.size w0 w0 := Below.refl _ _
              have hlt : w.heap.size < w0.heap.size := by rw [← hq]; simp
              have c0 : ∀ w', Below w0.heap.size w0 w' → w'.cell? ⟨w.heap.size, 0, none⟩ = some (.int .i64 k) := fun w' hb => by
                rw [hb.cell (p := ⟨w.heap.size, 0, none⟩) hlt, ← hq]; simp
              have c1 : ∀ w', Below w0.heap.size w0 w' → w'.cell? ⟨w.heap.size, 1, none⟩ = some (.int .i64 a) := fun w' hb => by
                rw [hb.cell (p := ⟨w.heap.size, 1, none⟩) hlt, ← hq]; simp
              have c2 : ∀ w', Below w0.heap.size w0 w' → w'.cell? ⟨w.heap.size, 2, none⟩ = some (.int .i64 b) := fun w' hb => by
                rw [hb.cell (p := ⟨w.heap.size, 2, none⟩) hlt, ← hq]; simp
              have c3 : ∀ w', Below w0.heap.size w0 w' → w'.cell? ⟨w.heap.size, 3, none⟩ = some (.int .i64 c) := fun w' hb => by
                rw [hb.cell (p := ⟨w.heap.size, 3, none⟩) hlt, ← hq]; simp
              have c4 : ∀ w', Below w0.heap.size w0 w' → w'.cell? ⟨w.heap.size, 4, none⟩ = some (.int .i64 d) := fun w' hb => by
                rw [hb.cell (p := ⟨w.heap.size, 4, none⟩) hlt, ← hq]; simp
              have c5 : ∀ w', Below w0.heap.size w0 w' → w'.cell? ⟨w.heap.size, 5, none⟩ = some (.int .i64 e) := fun w' hb => by
                rw [hb.cell (p := ⟨w.heap.size, 5, none⟩) hlt, ← hq]; simp
              have c6 : ∀ w', Below w0.heap.size w0 w' → w'.cell? ⟨w.heap.size, 6, none⟩ = some (.int .i64 f) := fun w' hb => by
                rw [hb.cell (p := ⟨w.heap.size, 6, none⟩) hlt, ← hq]; simp
              have c7 : ∀ w', Below w0.heap.size w0 w' → w'.cell? ⟨w.heap.size, 7, none⟩ = some (.string s) := fun w' hb => by
                rw [hb.cell (p := ⟨w.heap.size, 7, none⟩) hlt, ← hq]; simp
              have c8 : ∀ w', Below w0.heap.size w0 w' → w'.cell? ⟨w.heap.size, 8, none⟩ = some (.string t) := fun w' hb => by
                rw [hb.cell (p := ⟨w.heap.size, 8, none⟩) hlt, ← hq]; simp
              have C1 : Hid (∀ w', Below w0.heap.size w0 w' → _) := fun w' hb => mayS_on (a, b) _ hA1 w0 w' hb
              have C2 : Hid (∀ w', Below w0.heap.size w0 w' → _) := fun w' hb => mayS_on (c, d) _ hA2 w0 w' hb
              have C3 : Hid (∀ w', Below w0.heap.size w0 w' → _) := fun w' hb => par_on (e, f) _ hA3 w0 w' hb
              have C4 : Hid (∀ w', Below w0.heap.size w0 w' → _) := fun w' hb => name_on s _ hA4 w0 w' hb hs
              clear hq hA1 hA2 hA3 hA4 hs
              refine (C1.out _ hr0).mono ?_
              rintro e1 w1 ⟨rfl, hb1⟩
              clear C1
              go_wp2_with (first
                | (go_at_call 72; refine (C2.out _ (by assumption)).mono ?_; rintro e1 w2 ⟨rfl, hb2⟩)
                | (go_at_call 73; refine (C3.out _ (by assumption)).mono ?_; rintro e1 w3 ⟨rfl, hb3⟩)
                | (go_at_call 74; refine (C4.out _ (by assumption)).mono ?_; rintro e1 w4 ⟨rfl, hb4⟩))
              go_ret
              exact ⟨rfl, below_step hb0 (Nat.le_refl _) (by assumption)⟩
          · skip
            have hA3 : decide (ParS (e, f)) = false := decide_eq_false H0
            obtain rfl : D = false := by
              cases D with
              | false => rfl
              | true =>
                exfalso
                obtain ⟨x1, x2, x3⟩ := hD.1 rfl
                rcases x3 with ⟨y, _⟩ | ⟨y, z0, z1, z2⟩ | ⟨y, _⟩ | ⟨y, _⟩ | ⟨y, _⟩
                · exact absurd (show k = 1 from y) (by omega)
                · exact H0 z0
                · exact absurd (show k = 3 from y) (by omega)
                · exact absurd (show k = 4 from y) (by omega)
                · exact absurd (show k = 5 from y) (by omega)
            obtain ⟨A4, hA4⟩ : ∃ x, NameE s x := nameX_is s
            have hE2 := fun w => stampEq e f 0 0 w
            clear hD h1 h2 hk1 hk2 H0
            go_enter Tryd.func59, Tryd.ntmps59
            go_wp2_with fail
            generalize hq : World.alloc w _ = w0
            have hb0 : Below w.heap.size w w0 := by rw [← hq]; exact below_new w _
            have hr0 : Below w0.heap.size w0 w0 := Below.refl _ _
            have hlt : w.heap.size < w0.heap.size := by rw [← hq]; simp
            have c0 : ∀ w', Below w0.heap.size w0 w' → w'.cell? ⟨w.heap.size, 0, none⟩ = some (.int .i64 k) := fun w' hb => by
              rw [hb.cell (p := ⟨w.heap.size, 0, none⟩) hlt, ← hq]; simp
            have c1 : ∀ w', Below w0.heap.size w0 w' → w'.cell? ⟨w.heap.size, 1, none⟩ = some (.int .i64 a) := fun w' hb => by
              rw [hb.cell (p := ⟨w.heap.size, 1, none⟩) hlt, ← hq]; simp
            have c2 : ∀ w', Below w0.heap.size w0 w' → w'.cell? ⟨w.heap.size, 2, none⟩ = some (.int .i64 b) := fun w' hb => by
              rw [hb.cell (p := ⟨w.heap.size, 2, none⟩) hlt, ← hq]; simp
            have c3 : ∀ w', Below w0.heap.size w0 w' → w'.cell? ⟨w.heap.size, 3, none⟩ = some (.int .i64 c) := fun w' hb => by
              rw [hb.cell (p := ⟨w.heap.size, 3, none⟩) hlt, ← hq]; simp
            have c4 : ∀ w', Below w0.heap.size w0 w' → w'.cell? ⟨w.heap.size, 4, none⟩ = some (.int .i64 d) := fun w' hb => by
              rw [hb.cell (p := ⟨w.heap.size, 4, none⟩) hlt, ← hq]; simp
            have c5 : ∀ w', Below w0.heap.size w0 w' → w'.cell? ⟨w.heap.size, 5, none⟩ = some (.int .i64 e) := fun w' hb => by
              rw [hb.cell (p := ⟨w.heap.size, 5, none⟩) hlt, ← hq]; simp
            have c6 : ∀ w', Below w0.heap.size w0 w' → w'.cell? ⟨w.heap.size, 6, none⟩ = some (.int .i64 f) := fun w' hb => by
              rw [hb.cell (p := ⟨w.heap.size, 6, none⟩) hlt, ← hq]; simp
            have c7 : ∀ w', Below w0.heap.size w0 w' → w'.cell? ⟨w.heap.size, 7, none⟩ = some (.string s) := fun w' hb => by
              rw [hb.cell (p := ⟨w.heap.size, 7, none⟩) hlt, ← hq]; simp
            have c8 : ∀ w', Below w0.heap.size w0 w' → w'.cell? ⟨w.heap.size, 8, none⟩ = some (.string t) := fun w' hb => by
              rw [hb.cell (p := ⟨w.heap.size, 8, none⟩) hlt, ← hq]; simp
            have C1 : Hid (∀ w', Below w0.heap.size w0 w' → _) := fun w' hb => mayS_on (a, b) _ hA1 w0 w' hb
            have C2 : Hid (∀ w', Below w0.heap.size w0 w' → _) := fun w' hb => mayS_on (c, d) _ hA2 w0 w' hb
            have C3 : Hid (∀ w', Below w0.heap.size w0 w' → _) := fun w' hb => par_on (e, f) _ hA3 w0 w' hb
            have C4 : Hid (∀ w', Below w0.heap.size w0 w' → _) := fun w' hb => name_on s _ hA4 w0 w' hb hs
            clear hq hA1 hA2 hA3 hA4 hs
            refine (C1.out _ hr0).mono ?_
            rintro e1 w1 ⟨rfl, hb1⟩
            clear C1
            go_wp2_with (first
              | (go_at_call 72; refine (C2.out _ (by assumption)).mono ?_; rintro e1 w2 ⟨rfl, hb2⟩)
              | (go_at_call 73; refine (C3.out _ (by assumption)).mono ?_; rintro e1 w3 ⟨rfl, hb3⟩)
              | (go_at_call 74; refine (C4.out _ (by assumption)).mono ?_; rintro e1 w4 ⟨rfl, hb4⟩))
            go_ret
            exact ⟨rfl, below_step hb0 (Nat.le_refl _) (by assumption)⟩
        · skip
          have gk2 : (k == 2) = false := by rw [beq_eq_false_iff_ne]; exact hk2
          by_cases hk3 : k = 3
          · skip
            have gk : (k == 3) = true := by rw [beq_iff_eq]; exact hk3
            by_cases H0 : (e, f) = (0, 0)
            · skip
              have hE2 := fun w => stampEq_is (e, f) (0, 0) true (decide_eq_true H0) w
              by_cases H1 : NameP s
              · skip
                have hA4 : NameE s 0 := .inl ⟨rfl, H1⟩
                by_cases H2 : t.size = 0
                · skip
                  have gt := isE_yes t H2
                  obtain rfl : D = true := hD.2 ⟨h1, h2, .inr (.inr (.inl ⟨hk3, H0, H1, H2⟩))⟩
                  obtain ⟨A3, hA3⟩ : ∃ A, decide (ParS (e, f)) = A := ⟨_, rfl⟩
                  clear hD h1 h2 hk1 hk2 hk3 H0 H1 H2
                  go_enter Tryd.func59, Tryd.ntmps59
                  go_wp2_with fail
                  generalize hq : World.alloc w _ = w0
                  have hb0 : Below w.heap.size w w0 := by rw [← hq]; exact below_new w _
                  have hr0 : Below w0.heap.size w0 w0 := Below.refl _ _
                  have hlt : w.heap.size < w0.heap.size := by rw [← hq]; simp
                  have c0 : ∀ w', Below w0.heap.size w0 w' → w'.cell? ⟨w.heap.size, 0, none⟩ = some (.int .i64 k) := fun w' hb => by
                    rw [hb.cell (p := ⟨w.heap.size, 0, none⟩) hlt, ← hq]; simp
                  have c1 : ∀ w', Below w0.heap.size w0 w' → w'.cell? ⟨w.heap.size, 1, none⟩ = some (.int .i64 a) := fun w' hb => by
                    rw [hb.cell (p := ⟨w.heap.size, 1, none⟩) hlt, ← hq]; simp
                  have c2 : ∀ w', Below w0.heap.size w0 w' → w'.cell? ⟨w.heap.size, 2, none⟩ = some (.int .i64 b) := fun w' hb => by
                    rw [hb.cell (p := ⟨w.heap.size, 2, none⟩) hlt, ← hq]; simp
                  have c3 : ∀ w', Below w0.heap.size w0 w' → w'.cell? ⟨w.heap.size, 3, none⟩ = some (.int .i64 c) := fun w' hb => by
                    rw [hb.cell (p := ⟨w.heap.size, 3, none⟩) hlt, ← hq]; simp
                  have c4 : ∀ w', Below w0.heap.size w0 w' → w'.cell? ⟨w.heap.size, 4, none⟩ = some (.int .i64 d) := fun w' hb => by
                    rw [hb.cell (p := ⟨w.heap.size, 4, none⟩) hlt, ← hq]; simp
                  have c5 : ∀ w', Below w0.heap.size w0 w' → w'.cell? ⟨w.heap.size, 5, none⟩ = some (.int .i64 e) := fun w' hb => by
                    rw [hb.cell (p := ⟨w.heap.size, 5, none⟩) hlt, ← hq]; simp
                  have c6 : ∀ w', Below w0.heap.size w0 w' → w'.cell? ⟨w.heap.size, 6, none⟩ = some (.int .i64 f) := fun w' hb => by
                    rw [hb.cell (p := ⟨w.heap.size, 6, none⟩) hlt, ← hq]; simp
                  have c7 : ∀ w', Below w0.heap.size w0 w' → w'.cell? ⟨w.heap.size, 7, none⟩ = some (.string s) := fun w' hb => by
                    rw [hb.cell (p := ⟨w.heap.size, 7, none⟩) hlt, ← hq]; simp
                  have c8 : ∀ w', Below w0.heap.size w0 w' → w'.cell? ⟨w.heap.size, 8, none⟩ = some (.string t) := fun w' hb => by
                    rw [hb.cell (p := ⟨w.heap.size, 8, none⟩) hlt, ← hq]; simp
                  have C1 : Hid (∀ w', Below w0.heap.size w0 w' → _) := fun w' hb => mayS_on (a, b) _ hA1 w0 w' hb
                  have C2 : Hid (∀ w', Below w0.heap.size w0 w' → _) := fun w' hb => mayS_on (c, d) _ hA2 w0 w' hb
                  have C3 : Hid (∀ w', Below w0.heap.size w0 w' → _) := fun w' hb => par_on (e, f) _ hA3 w0 w' hb
                  have C4 : Hid (∀ w', Below w0.heap.size w0 w' → _) := fun w' hb => name_on s _ hA4 w0 w' hb hs
                  clear hq hA1 hA2 hA3 hA4 hs
                  refine (C1.out _ hr0).mono ?_
                  rintro e1 w1 ⟨rfl, hb1⟩
                  clear C1
                  go_wp2_with (first
                    | (go_at_call 72; refine (C2.out _ (by assumption)).mono ?_; rintro e1 w2 ⟨rfl, hb2⟩)
                    | (go_at_call 73; refine (C3.out _ (by assumption)).mono ?_; rintro e1 w3 ⟨rfl, hb3⟩)
                    | (go_at_call 74; refine (C4.out _ (by assumption)).mono ?_; rintro e1 w4 ⟨rfl, hb4⟩))
                  go_ret
                  exact ⟨rfl, below_step hb0 (Nat.le_refl _) (by assumption)⟩
                · skip
                  have gt := isE_no t H2
                  obtain rfl : D = false := by
                    cases D with
                    | false => rfl
                    | true =>
                      exfalso
                      obtain ⟨x1, x2, x3⟩ := hD.1 rfl
                      rcases x3 with ⟨y, _⟩ | ⟨y, _⟩ | ⟨y, z0, z1, z2⟩ | ⟨y, _⟩ | ⟨y, _⟩
                      · exact absurd (show k = 1 from y) (by omega)
                      · exact absurd (show k = 2 from y) (by omega)
                      · exact H2 z2
                      · exact absurd (show k = 4 from y) (by omega)
                      · exact absurd (show k = 5 from y) (by omega)
                  obtain ⟨A3, hA3⟩ : ∃ A, decide (ParS (e, f)) = A := ⟨_, rfl⟩
                  clear hD h1 h2 hk1 hk2 hk3 H0 H1 H2
                  go_enter Tryd.func59, Tryd.ntmps59
                  go_wp2_with fail
                  generalize hq : World.alloc w _ = w0
                  have hb0 : Below w.heap.size w w0 := by rw [← hq]; exact below_new w _
                  have hr0 : Below w0.heap.size w0 w0 := Below.refl _ _
                  have hlt : w.heap.size < w0.heap.size := by rw [← hq]; simp
                  have c0 : ∀ w', Below w0.heap.size w0 w' → w'.cell? ⟨w.heap.size, 0, none⟩ = some (.int .i64 k) := fun w' hb => by
                    rw [hb.cell (p := ⟨w.heap.size, 0, none⟩) hlt, ← hq]; simp
                  have c1 : ∀ w', Below w0.heap.size w0 w' → w'.cell? ⟨w.heap.size, 1, none⟩ = some (.int .i64 a) := fun w' hb => by
                    rw [hb.cell (p := ⟨w.heap.size, 1, none⟩) hlt, ← hq]; simp
                  have c2 : ∀ w', Below w0.heap.size w0 w' → w'.cell? ⟨w.heap.size, 2, none⟩ = some (.int .i64 b) := fun w' hb => by
                    rw [hb.cell (p := ⟨w.heap.size, 2, none⟩) hlt, ← hq]; simp
                  have c3 : ∀ w', Below w0.heap.size w0 w' → w'.cell? ⟨w.heap.size, 3, none⟩ = some (.int .i64 c) := fun w' hb => by
                    rw [hb.cell (p := ⟨w.heap.size, 3, none⟩) hlt, ← hq]; simp
                  have c4 : ∀ w', Below w0.heap.size w0 w' → w'.cell? ⟨w.heap.size, 4, none⟩ = some (.int .i64 d) := fun w' hb => by
                    rw [hb.cell (p := ⟨w.heap.size, 4, none⟩) hlt, ← hq]; simp
                  have c5 : ∀ w', Below w0.heap.size w0 w' → w'.cell? ⟨w.heap.size, 5, none⟩ = some (.int .i64 e) := fun w' hb => by
                    rw [hb.cell (p := ⟨w.heap.size, 5, none⟩) hlt, ← hq]; simp
                  have c6 : ∀ w', Below w0.heap.size w0 w' → w'.cell? ⟨w.heap.size, 6, none⟩ = some (.int .i64 f) := fun w' hb => by
                    rw [hb.cell (p := ⟨w.heap.size, 6, none⟩) hlt, ← hq]; simp
                  have c7 : ∀ w', Below w0.heap.size w0 w' → w'.cell? ⟨w.heap.size, 7, none⟩ = some (.string s) := fun w' hb => by
                    rw [hb.cell (p := ⟨w.heap.size, 7, none⟩) hlt, ← hq]; simp
                  have c8 : ∀ w', Below w0.heap.size w0 w' → w'.cell? ⟨w.heap.size, 8, none⟩ = some (.string t) := fun w' hb => by
                    rw [hb.cell (p := ⟨w.heap.size, 8, none⟩) hlt, ← hq]; simp
                  have C1 : Hid (∀ w', Below w0.heap.size w0 w' → _) := fun w' hb => mayS_on (a, b) _ hA1 w0 w' hb
                  have C2 : Hid (∀ w', Below w0.heap.size w0 w' → _) := fun w' hb => mayS_on (c, d) _ hA2 w0 w' hb
                  have C3 : Hid (∀ w', Below w0.heap.size w0 w' → _) := fun w' hb => par_on (e, f) _ hA3 w0 w' hb
                  have C4 : Hid (∀ w', Below w0.heap.size w0 w' → _) := fun w' hb => name_on s _ hA4 w0 w' hb hs
                  clear hq hA1 hA2 hA3 hA4 hs
                  refine (C1.out _ hr0).mono ?_
                  rintro e1 w1 ⟨rfl, hb1⟩
                  clear C1
                  go_wp2_with (first
                    | (go_at_call 72; refine (C2.out _ (by assumption)).mono ?_; rintro e1 w2 ⟨rfl, hb2⟩)
                    | (go_at_call 73; refine (C3.out _ (by assumption)).mono ?_; rintro e1 w3 ⟨rfl, hb3⟩)
                    | (go_at_call 74; refine (C4.out _ (by assumption)).mono ?_; rintro e1 w4 ⟨rfl, hb4⟩))
                  go_ret
                  exact ⟨rfl, below_step hb0 (Nat.le_refl _) (by assumption)⟩
              · skip
                have hA4 : NameE s 80 := .inr ⟨rfl, H1⟩
                obtain rfl : D = false := by
                  cases D with
                  | false => rfl
                  | true =>
                    exfalso
                    obtain ⟨x1, x2, x3⟩ := hD.1 rfl
                    rcases x3 with ⟨y, _⟩ | ⟨y, _⟩ | ⟨y, z0, z1, z2⟩ | ⟨y, _⟩ | ⟨y, _⟩
                    · exact absurd (show k = 1 from y) (by omega)
                    · exact absurd (show k = 2 from y) (by omega)
                    · exact H1 z1
                    · exact absurd (show k = 4 from y) (by omega)
                    · exact absurd (show k = 5 from y) (by omega)
                obtain ⟨A3, hA3⟩ : ∃ A, decide (ParS (e, f)) = A := ⟨_, rfl⟩
                clear hD h1 h2 hk1 hk2 hk3 H0 H1
                go_enter Tryd.func59, Tryd.ntmps59
                go_wp2_with fail
                generalize hq : World.alloc w _ = w0
                have hb0 : Below w.heap.size w w0 := by rw [← hq]; exact below_new w _
                have hr0 : Below w0.heap.size w0 w0 := Below.refl _ _
                have hlt : w.heap.size < w0.heap.size := by rw [← hq]; simp
                have c0 : ∀ w', Below w0.heap.size w0 w' → w'.cell? ⟨w.heap.size, 0, none⟩ = some (.int .i64 k) := fun w' hb => by
                  rw [hb.cell (p := ⟨w.heap.size, 0, none⟩) hlt, ← hq]; simp
                have c1 : ∀ w', Below w0.heap.size w0 w' → w'.cell? ⟨w.heap.size, 1, none⟩ = some (.int .i64 a) := fun w' hb => by
                  rw [hb.cell (p := ⟨w.heap.size, 1, none⟩) hlt, ← hq]; simp
                have c2 : ∀ w', Below w0.heap.size w0 w' → w'.cell? ⟨w.heap.size, 2, none⟩ = some (.int .i64 b) := fun w' hb => by
                  rw [hb.cell (p := ⟨w.heap.size, 2, none⟩) hlt, ← hq]; simp
                have c3 : ∀ w', Below w0.heap.size w0 w' → w'.cell? ⟨w.heap.size, 3, none⟩ = some (.int .i64 c) := fun w' hb => by
                  rw [hb.cell (p := ⟨w.heap.size, 3, none⟩) hlt, ← hq]; simp
                have c4 : ∀ w', Below w0.heap.size w0 w' → w'.cell? ⟨w.heap.size, 4, none⟩ = some (.int .i64 d) := fun w' hb => by
                  rw [hb.cell (p := ⟨w.heap.size, 4, none⟩) hlt, ← hq]; simp
                have c5 : ∀ w', Below w0.heap.size w0 w' → w'.cell? ⟨w.heap.size, 5, none⟩ = some (.int .i64 e) := fun w' hb => by
                  rw [hb.cell (p := ⟨w.heap.size, 5, none⟩) hlt, ← hq]; simp
                have c6 : ∀ w', Below w0.heap.size w0 w' → w'.cell? ⟨w.heap.size, 6, none⟩ = some (.int .i64 f) := fun w' hb => by
                  rw [hb.cell (p := ⟨w.heap.size, 6, none⟩) hlt, ← hq]; simp
                have c7 : ∀ w', Below w0.heap.size w0 w' → w'.cell? ⟨w.heap.size, 7, none⟩ = some (.string s) := fun w' hb => by
                  rw [hb.cell (p := ⟨w.heap.size, 7, none⟩) hlt, ← hq]; simp
                have c8 : ∀ w', Below w0.heap.size w0 w' → w'.cell? ⟨w.heap.size, 8, none⟩ = some (.string t) := fun w' hb => by
                  rw [hb.cell (p := ⟨w.heap.size, 8, none⟩) hlt, ← hq]; simp
                have C1 : Hid (∀ w', Below w0.heap.size w0 w' → _) := fun w' hb => mayS_on (a, b) _ hA1 w0 w' hb
                have C2 : Hid (∀ w', Below w0.heap.size w0 w' → _) := fun w' hb => mayS_on (c, d) _ hA2 w0 w' hb
                have C3 : Hid (∀ w', Below w0.heap.size w0 w' → _) := fun w' hb => par_on (e, f) _ hA3 w0 w' hb
                have C4 : Hid (∀ w', Below w0.heap.size w0 w' → _) := fun w' hb => name_on s _ hA4 w0 w' hb hs
                clear hq hA1 hA2 hA3 hA4 hs
                refine (C1.out _ hr0).mono ?_
                rintro e1 w1 ⟨rfl, hb1⟩
                clear C1
                go_wp2_with (first
                  | (go_at_call 72; refine (C2.out _ (by assumption)).mono ?_; rintro e1 w2 ⟨rfl, hb2⟩)
                  | (go_at_call 73; refine (C3.out _ (by assumption)).mono ?_; rintro e1 w3 ⟨rfl, hb3⟩)
                  | (go_at_call 74; refine (C4.out _ (by assumption)).mono ?_; rintro e1 w4 ⟨rfl, hb4⟩))
                go_ret
                exact ⟨rfl, below_step hb0 (Nat.le_refl _) (by assumption)⟩
            · skip
              have hE2 := fun w => stampEq_is (e, f) (0, 0) false (decide_eq_false H0) w
              obtain rfl : D = false := by
                cases D with
                | false => rfl
                | true =>
                  exfalso
                  obtain ⟨x1, x2, x3⟩ := hD.1 rfl
                  rcases x3 with ⟨y, _⟩ | ⟨y, _⟩ | ⟨y, z0, z1, z2⟩ | ⟨y, _⟩ | ⟨y, _⟩
                  · exact absurd (show k = 1 from y) (by omega)
                  · exact absurd (show k = 2 from y) (by omega)
                  · exact H0 z0
                  · exact absurd (show k = 4 from y) (by omega)
                  · exact absurd (show k = 5 from y) (by omega)
              obtain ⟨A3, hA3⟩ : ∃ A, decide (ParS (e, f)) = A := ⟨_, rfl⟩
              obtain ⟨A4, hA4⟩ : ∃ x, NameE s x := nameX_is s
              clear hD h1 h2 hk1 hk2 hk3 H0
              go_enter Tryd.func59, Tryd.ntmps59
              go_wp2_with fail
              generalize hq : World.alloc w _ = w0
              have hb0 : Below w.heap.size w w0 := by rw [← hq]; exact below_new w _
              have hr0 : Below w0.heap.size w0 w0 := Below.refl _ _
              have hlt : w.heap.size < w0.heap.size := by rw [← hq]; simp
              have c0 : ∀ w', Below w0.heap.size w0 w' → w'.cell? ⟨w.heap.size, 0, none⟩ = some (.int .i64 k) := fun w' hb => by
                rw [hb.cell (p := ⟨w.heap.size, 0, none⟩) hlt, ← hq]; simp
              have c1 : ∀ w', Below w0.heap.size w0 w' → w'.cell? ⟨w.heap.size, 1, none⟩ = some (.int .i64 a) := fun w' hb => by
                rw [hb.cell (p := ⟨w.heap.size, 1, none⟩) hlt, ← hq]; simp
              have c2 : ∀ w', Below w0.heap.size w0 w' → w'.cell? ⟨w.heap.size, 2, none⟩ = some (.int .i64 b) := fun w' hb => by
                rw [hb.cell (p := ⟨w.heap.size, 2, none⟩) hlt, ← hq]; simp
              have c3 : ∀ w', Below w0.heap.size w0 w' → w'.cell? ⟨w.heap.size, 3, none⟩ = some (.int .i64 c) := fun w' hb => by
                rw [hb.cell (p := ⟨w.heap.size, 3, none⟩) hlt, ← hq]; simp
              have c4 : ∀ w', Below w0.heap.size w0 w' → w'.cell? ⟨w.heap.size, 4, none⟩ = some (.int .i64 d) := fun w' hb => by
                rw [hb.cell (p := ⟨w.heap.size, 4, none⟩) hlt, ← hq]; simp
              have c5 : ∀ w', Below w0.heap.size w0 w' → w'.cell? ⟨w.heap.size, 5, none⟩ = some (.int .i64 e) := fun w' hb => by
                rw [hb.cell (p := ⟨w.heap.size, 5, none⟩) hlt, ← hq]; simp
              have c6 : ∀ w', Below w0.heap.size w0 w' → w'.cell? ⟨w.heap.size, 6, none⟩ = some (.int .i64 f) := fun w' hb => by
                rw [hb.cell (p := ⟨w.heap.size, 6, none⟩) hlt, ← hq]; simp
              have c7 : ∀ w', Below w0.heap.size w0 w' → w'.cell? ⟨w.heap.size, 7, none⟩ = some (.string s) := fun w' hb => by
                rw [hb.cell (p := ⟨w.heap.size, 7, none⟩) hlt, ← hq]; simp
              have c8 : ∀ w', Below w0.heap.size w0 w' → w'.cell? ⟨w.heap.size, 8, none⟩ = some (.string t) := fun w' hb => by
                rw [hb.cell (p := ⟨w.heap.size, 8, none⟩) hlt, ← hq]; simp
              have C1 : Hid (∀ w', Below w0.heap.size w0 w' → _) := fun w' hb => mayS_on (a, b) _ hA1 w0 w' hb
              have C2 : Hid (∀ w', Below w0.heap.size w0 w' → _) := fun w' hb => mayS_on (c, d) _ hA2 w0 w' hb
              have C3 : Hid (∀ w', Below w0.heap.size w0 w' → _) := fun w' hb => par_on (e, f) _ hA3 w0 w' hb
              have C4 : Hid (∀ w', Below w0.heap.size w0 w' → _) := fun w' hb => name_on s _ hA4 w0 w' hb hs
              clear hq hA1 hA2 hA3 hA4 hs
              refine (C1.out _ hr0).mono ?_
              rintro e1 w1 ⟨rfl, hb1⟩
              clear C1
              go_wp2_with (first
                | (go_at_call 72; refine (C2.out _ (by assumption)).mono ?_; rintro e1 w2 ⟨rfl, hb2⟩)
                | (go_at_call 73; refine (C3.out _ (by assumption)).mono ?_; rintro e1 w3 ⟨rfl, hb3⟩)
                | (go_at_call 74; refine (C4.out _ (by assumption)).mono ?_; rintro e1 w4 ⟨rfl, hb4⟩))
              go_ret
              exact ⟨rfl, below_step hb0 (Nat.le_refl _) (by assumption)⟩
          · skip
            have gk3 : (k == 3) = false := by rw [beq_eq_false_iff_ne]; exact hk3
            by_cases hk4 : k = 4
            · skip
              have gk : (k == 4) = true := by rw [beq_iff_eq]; exact hk4
              by_cases H0 : (e, f) = (0, 0)
              · skip
                have hE2 := fun w => stampEq_is (e, f) (0, 0) true (decide_eq_true H0) w
                by_cases H1 : s.size = 0
                · skip
                  have gs := isE_yes s H1
                  by_cases H2 : t.size ≤ 64
                  · skip
                    have gt : decide ((t.size : Int) ≤ 64) = true := by simp; omega
                    obtain rfl : D = true := hD.2 ⟨h1, h2, .inr (.inr (.inr (.inl ⟨hk4, H0, H1, H2⟩)))⟩
                    obtain ⟨A3, hA3⟩ : ∃ A, decide (ParS (e, f)) = A := ⟨_, rfl⟩
                    obtain ⟨A4, hA4⟩ : ∃ x, NameE s x := nameX_is s
                    clear hD h1 h2 hk1 hk2 hk3 hk4 H0 H1 H2
                    go_enter Tryd.func59, Tryd.ntmps59
                    go_wp2_with fail
                    generalize hq : World.alloc w _ = w0
                    have hb0 : Below w.heap.size w w0 := by rw [← hq]; exact below_new w _
                    have hr0 : Below w0.heap.size w0 w0 := Below.refl _ _
                    have hlt : w.heap.size < w0.heap.size := by rw [← hq]; simp
                    have c0 : ∀ w', Below w0.heap.size w0 w' → w'.cell? ⟨w.heap.size, 0, none⟩ = some (.int .i64 k) := fun w' hb => by
                      rw [hb.cell (p := ⟨w.heap.size, 0, none⟩) hlt, ← hq]; simp
                    have c1 : ∀ w', Below w0.heap.size w0 w' → w'.cell? ⟨w.heap.size, 1, none⟩ = some (.int .i64 a) := fun w' hb => by
                      rw [hb.cell (p := ⟨w.heap.size, 1, none⟩) hlt, ← hq]; simp
                    have c2 : ∀ w', Below w0.heap.size w0 w' → w'.cell? ⟨w.heap.size, 2, none⟩ = some (.int .i64 b) := fun w' hb => by
                      rw [hb.cell (p := ⟨w.heap.size, 2, none⟩) hlt, ← hq]; simp
                    have c3 : ∀ w', Below w0.heap.size w0 w' → w'.cell? ⟨w.heap.size, 3, none⟩ = some (.int .i64 c) := fun w' hb => by
                      rw [hb.cell (p := ⟨w.heap.size, 3, none⟩) hlt, ← hq]; simp
                    have c4 : ∀ w', Below w0.heap.size w0 w' → w'.cell? ⟨w.heap.size, 4, none⟩ = some (.int .i64 d) := fun w' hb => by
                      rw [hb.cell (p := ⟨w.heap.size, 4, none⟩) hlt, ← hq]; simp
                    have c5 : ∀ w', Below w0.heap.size w0 w' → w'.cell? ⟨w.heap.size, 5, none⟩ = some (.int .i64 e) := fun w' hb => by
                      rw [hb.cell (p := ⟨w.heap.size, 5, none⟩) hlt, ← hq]; simp
                    have c6 : ∀ w', Below w0.heap.size w0 w' → w'.cell? ⟨w.heap.size, 6, none⟩ = some (.int .i64 f) := fun w' hb => by
                      rw [hb.cell (p := ⟨w.heap.size, 6, none⟩) hlt, ← hq]; simp
                    have c7 : ∀ w', Below w0.heap.size w0 w' → w'.cell? ⟨w.heap.size, 7, none⟩ = some (.string s) := fun w' hb => by
                      rw [hb.cell (p := ⟨w.heap.size, 7, none⟩) hlt, ← hq]; simp
                    have c8 : ∀ w', Below w0.heap.size w0 w' → w'.cell? ⟨w.heap.size, 8, none⟩ = some (.string t) := fun w' hb => by
                      rw [hb.cell (p := ⟨w.heap.size, 8, none⟩) hlt, ← hq]; simp
                    have C1 : Hid (∀ w', Below w0.heap.size w0 w' → _) := fun w' hb => mayS_on (a, b) _ hA1 w0 w' hb
                    have C2 : Hid (∀ w', Below w0.heap.size w0 w' → _) := fun w' hb => mayS_on (c, d) _ hA2 w0 w' hb
                    have C3 : Hid (∀ w', Below w0.heap.size w0 w' → _) := fun w' hb => par_on (e, f) _ hA3 w0 w' hb
                    have C4 : Hid (∀ w', Below w0.heap.size w0 w' → _) := fun w' hb => name_on s _ hA4 w0 w' hb hs
                    clear hq hA1 hA2 hA3 hA4 hs
                    refine (C1.out _ hr0).mono ?_
                    rintro e1 w1 ⟨rfl, hb1⟩
                    clear C1
                    go_wp2_with (first
                      | (go_at_call 72; refine (C2.out _ (by assumption)).mono ?_; rintro e1 w2 ⟨rfl, hb2⟩)
                      | (go_at_call 73; refine (C3.out _ (by assumption)).mono ?_; rintro e1 w3 ⟨rfl, hb3⟩)
                      | (go_at_call 74; refine (C4.out _ (by assumption)).mono ?_; rintro e1 w4 ⟨rfl, hb4⟩))
                    go_ret
                    exact ⟨rfl, below_step hb0 (Nat.le_refl _) (by assumption)⟩
                  · skip
                    have gt : decide ((t.size : Int) ≤ 64) = false := by simp; omega
                    obtain rfl : D = false := by
                      cases D with
                      | false => rfl
                      | true =>
                        exfalso
                        obtain ⟨x1, x2, x3⟩ := hD.1 rfl
                        rcases x3 with ⟨y, _⟩ | ⟨y, _⟩ | ⟨y, _⟩ | ⟨y, z0, z1, z2⟩ | ⟨y, _⟩
                        · exact absurd (show k = 1 from y) (by omega)
                        · exact absurd (show k = 2 from y) (by omega)
                        · exact absurd (show k = 3 from y) (by omega)
                        · exact H2 z2
                        · exact absurd (show k = 5 from y) (by omega)
                    obtain ⟨A3, hA3⟩ : ∃ A, decide (ParS (e, f)) = A := ⟨_, rfl⟩
                    obtain ⟨A4, hA4⟩ : ∃ x, NameE s x := nameX_is s
                    clear hD h1 h2 hk1 hk2 hk3 hk4 H0 H1 H2
                    go_enter Tryd.func59, Tryd.ntmps59
                    go_wp2_with fail
                    generalize hq : World.alloc w _ = w0
                    have hb0 : Below w.heap.size w w0 := by rw [← hq]; exact below_new w _
                    have hr0 : Below w0.heap.size w0 w0 := Below.refl _ _
                    have hlt : w.heap.size < w0.heap.size := by rw [← hq]; simp
                    have c0 : ∀ w', Below w0.heap.size w0 w' → w'.cell? ⟨w.heap.size, 0, none⟩ = some (.int .i64 k) := fun w' hb => by
                      rw [hb.cell (p := ⟨w.heap.size, 0, none⟩) hlt, ← hq]; simp
                    have c1 : ∀ w', Below w0.heap.size w0 w' → w'.cell? ⟨w.heap.size, 1, none⟩ = some (.int .i64 a) := fun w' hb => by
                      rw [hb.cell (p := ⟨w.heap.size, 1, none⟩) hlt, ← hq]; simp
                    have c2 : ∀ w', Below w0.heap.size w0 w' → w'.cell? ⟨w.heap.size, 2, none⟩ = some (.int .i64 b) := fun w' hb => by
                      rw [hb.cell (p := ⟨w.heap.size, 2, none⟩) hlt, ← hq]; simp
                    have c3 : ∀ w', Below w0.heap.size w0 w' → w'.cell? ⟨w.heap.size, 3, none⟩ = some (.int .i64 c) := fun w' hb => by
                      rw [hb.cell (p := ⟨w.heap.size, 3, none⟩) hlt, ← hq]; simp
                    have c4 : ∀ w', Below w0.heap.size w0 w' → w'.cell? ⟨w.heap.size, 4, none⟩ = some (.int .i64 d) := fun w' hb => by
                      rw [hb.cell (p := ⟨w.heap.size, 4, none⟩) hlt, ← hq]; simp
                    have c5 : ∀ w', Below w0.heap.size w0 w' → w'.cell? ⟨w.heap.size, 5, none⟩ = some (.int .i64 e) := fun w' hb => by
                      rw [hb.cell (p := ⟨w.heap.size, 5, none⟩) hlt, ← hq]; simp
                    have c6 : ∀ w', Below w0.heap.size w0 w' → w'.cell? ⟨w.heap.size, 6, none⟩ = some (.int .i64 f) := fun w' hb => by
                      rw [hb.cell (p := ⟨w.heap.size, 6, none⟩) hlt, ← hq]; simp
                    have c7 : ∀ w', Below w0.heap.size w0 w' → w'.cell? ⟨w.heap.size, 7, none⟩ = some (.string s) := fun w' hb => by
                      rw [hb.cell (p := ⟨w.heap.size, 7, none⟩) hlt, ← hq]; simp
                    have c8 : ∀ w', Below w0.heap.size w0 w' → w'.cell? ⟨w.heap.size, 8, none⟩ = some (.string t) := fun w' hb => by
                      rw [hb.cell (p := ⟨w.heap.size, 8, none⟩) hlt, ← hq]; simp
                    have C1 : Hid (∀ w', Below w0.heap.size w0 w' → _) := fun w' hb => mayS_on (a, b) _ hA1 w0 w' hb
                    have C2 : Hid (∀ w', Below w0.heap.size w0 w' → _) := fun w' hb => mayS_on (c, d) _ hA2 w0 w' hb
                    have C3 : Hid (∀ w', Below w0.heap.size w0 w' → _) := fun w' hb => par_on (e, f) _ hA3 w0 w' hb
                    have C4 : Hid (∀ w', Below w0.heap.size w0 w' → _) := fun w' hb => name_on s _ hA4 w0 w' hb hs
                    clear hq hA1 hA2 hA3 hA4 hs
                    refine (C1.out _ hr0).mono ?_
                    rintro e1 w1 ⟨rfl, hb1⟩
                    clear C1
                    go_wp2_with (first
                      | (go_at_call 72; refine (C2.out _ (by assumption)).mono ?_; rintro e1 w2 ⟨rfl, hb2⟩)
                      | (go_at_call 73; refine (C3.out _ (by assumption)).mono ?_; rintro e1 w3 ⟨rfl, hb3⟩)
                      | (go_at_call 74; refine (C4.out _ (by assumption)).mono ?_; rintro e1 w4 ⟨rfl, hb4⟩))
                    go_ret
                    exact ⟨rfl, below_step hb0 (Nat.le_refl _) (by assumption)⟩
                · skip
                  have gs := isE_no s H1
                  obtain rfl : D = false := by
                    cases D with
                    | false => rfl
                    | true =>
                      exfalso
                      obtain ⟨x1, x2, x3⟩ := hD.1 rfl
                      rcases x3 with ⟨y, _⟩ | ⟨y, _⟩ | ⟨y, _⟩ | ⟨y, z0, z1, z2⟩ | ⟨y, _⟩
                      · exact absurd (show k = 1 from y) (by omega)
                      · exact absurd (show k = 2 from y) (by omega)
                      · exact absurd (show k = 3 from y) (by omega)
                      · exact H1 z1
                      · exact absurd (show k = 5 from y) (by omega)
                  obtain ⟨A3, hA3⟩ : ∃ A, decide (ParS (e, f)) = A := ⟨_, rfl⟩
                  obtain ⟨A4, hA4⟩ : ∃ x, NameE s x := nameX_is s
                  clear hD h1 h2 hk1 hk2 hk3 hk4 H0 H1
                  go_enter Tryd.func59, Tryd.ntmps59
                  go_wp2_with fail
                  generalize hq : World.alloc w _ = w0
                  have hb0 : Below w.heap.size w w0 := by rw [← hq]; exact below_new w _
                  have hr0 : Below w0.heap.size w0 w0 := Below.refl _ _
                  have hlt : w.heap.size < w0.heap.size := by rw [← hq]; simp
                  have c0 : ∀ w', Below w0.heap.size w0 w' → w'.cell? ⟨w.heap.size, 0, none⟩ = some (.int .i64 k) := fun w' hb => by
                    rw [hb.cell (p := ⟨w.heap.size, 0, none⟩) hlt, ← hq]; simp
                  have c1 : ∀ w', Below w0.heap.size w0 w' → w'.cell? ⟨w.heap.size, 1, none⟩ = some (.int .i64 a) := fun w' hb => by
                    rw [hb.cell (p := ⟨w.heap.size, 1, none⟩) hlt, ← hq]; simp
                  have c2 : ∀ w', Below w0.heap.size w0 w' → w'.cell? ⟨w.heap.size, 2, none⟩ = some (.int .i64 b) := fun w' hb => by
                    rw [hb.cell (p := ⟨w.heap.size, 2, none⟩) hlt, ← hq]; simp
                  have c3 : ∀ w', Below w0.heap.size w0 w' → w'.cell? ⟨w.heap.size, 3, none⟩ = some (.int .i64 c) := fun w' hb => by
                    rw [hb.cell (p := ⟨w.heap.size, 3, none⟩) hlt, ← hq]; simp
                  have c4 : ∀ w', Below w0.heap.size w0 w' → w'.cell? ⟨w.heap.size, 4, none⟩ = some (.int .i64 d) := fun w' hb => by
                    rw [hb.cell (p := ⟨w.heap.size, 4, none⟩) hlt, ← hq]; simp
                  have c5 : ∀ w', Below w0.heap.size w0 w' → w'.cell? ⟨w.heap.size, 5, none⟩ = some (.int .i64 e) := fun w' hb => by
                    rw [hb.cell (p := ⟨w.heap.size, 5, none⟩) hlt, ← hq]; simp
                  have c6 : ∀ w', Below w0.heap.size w0 w' → w'.cell? ⟨w.heap.size, 6, none⟩ = some (.int .i64 f) := fun w' hb => by
                    rw [hb.cell (p := ⟨w.heap.size, 6, none⟩) hlt, ← hq]; simp
                  have c7 : ∀ w', Below w0.heap.size w0 w' → w'.cell? ⟨w.heap.size, 7, none⟩ = some (.string s) := fun w' hb => by
                    rw [hb.cell (p := ⟨w.heap.size, 7, none⟩) hlt, ← hq]; simp
                  have c8 : ∀ w', Below w0.heap.size w0 w' → w'.cell? ⟨w.heap.size, 8, none⟩ = some (.string t) := fun w' hb => by
                    rw [hb.cell (p := ⟨w.heap.size, 8, none⟩) hlt, ← hq]; simp
                  have C1 : Hid (∀ w', Below w0.heap.size w0 w' → _) := fun w' hb => mayS_on (a, b) _ hA1 w0 w' hb
                  have C2 : Hid (∀ w', Below w0.heap.size w0 w' → _) := fun w' hb => mayS_on (c, d) _ hA2 w0 w' hb
                  have C3 : Hid (∀ w', Below w0.heap.size w0 w' → _) := fun w' hb => par_on (e, f) _ hA3 w0 w' hb
                  have C4 : Hid (∀ w', Below w0.heap.size w0 w' → _) := fun w' hb => name_on s _ hA4 w0 w' hb hs
                  clear hq hA1 hA2 hA3 hA4 hs
                  refine (C1.out _ hr0).mono ?_
                  rintro e1 w1 ⟨rfl, hb1⟩
                  clear C1
                  go_wp2_with (first
                    | (go_at_call 72; refine (C2.out _ (by assumption)).mono ?_; rintro e1 w2 ⟨rfl, hb2⟩)
                    | (go_at_call 73; refine (C3.out _ (by assumption)).mono ?_; rintro e1 w3 ⟨rfl, hb3⟩)
                    | (go_at_call 74; refine (C4.out _ (by assumption)).mono ?_; rintro e1 w4 ⟨rfl, hb4⟩))
                  go_ret
                  exact ⟨rfl, below_step hb0 (Nat.le_refl _) (by assumption)⟩
              · skip
                have hE2 := fun w => stampEq_is (e, f) (0, 0) false (decide_eq_false H0) w
                obtain rfl : D = false := by
                  cases D with
                  | false => rfl
                  | true =>
                    exfalso
                    obtain ⟨x1, x2, x3⟩ := hD.1 rfl
                    rcases x3 with ⟨y, _⟩ | ⟨y, _⟩ | ⟨y, _⟩ | ⟨y, z0, z1, z2⟩ | ⟨y, _⟩
                    · exact absurd (show k = 1 from y) (by omega)
                    · exact absurd (show k = 2 from y) (by omega)
                    · exact absurd (show k = 3 from y) (by omega)
                    · exact H0 z0
                    · exact absurd (show k = 5 from y) (by omega)
                obtain ⟨A3, hA3⟩ : ∃ A, decide (ParS (e, f)) = A := ⟨_, rfl⟩
                obtain ⟨A4, hA4⟩ : ∃ x, NameE s x := nameX_is s
                clear hD h1 h2 hk1 hk2 hk3 hk4 H0
                go_enter Tryd.func59, Tryd.ntmps59
                go_wp2_with fail
                generalize hq : World.alloc w _ = w0
                have hb0 : Below w.heap.size w w0 := by rw [← hq]; exact below_new w _
                have hr0 : Below w0.heap.size w0 w0 := Below.refl _ _
                have hlt : w.heap.size < w0.heap.size := by rw [← hq]; simp
                have c0 : ∀ w', Below w0.heap.size w0 w' → w'.cell? ⟨w.heap.size, 0, none⟩ = some (.int .i64 k) := fun w' hb => by
                  rw [hb.cell (p := ⟨w.heap.size, 0, none⟩) hlt, ← hq]; simp
                have c1 : ∀ w', Below w0.heap.size w0 w' → w'.cell? ⟨w.heap.size, 1, none⟩ = some (.int .i64 a) := fun w' hb => by
                  rw [hb.cell (p := ⟨w.heap.size, 1, none⟩) hlt, ← hq]; simp
                have c2 : ∀ w', Below w0.heap.size w0 w' → w'.cell? ⟨w.heap.size, 2, none⟩ = some (.int .i64 b) := fun w' hb => by
                  rw [hb.cell (p := ⟨w.heap.size, 2, none⟩) hlt, ← hq]; simp
                have c3 : ∀ w', Below w0.heap.size w0 w' → w'.cell? ⟨w.heap.size, 3, none⟩ = some (.int .i64 c) := fun w' hb => by
                  rw [hb.cell (p := ⟨w.heap.size, 3, none⟩) hlt, ← hq]; simp
                have c4 : ∀ w', Below w0.heap.size w0 w' → w'.cell? ⟨w.heap.size, 4, none⟩ = some (.int .i64 d) := fun w' hb => by
                  rw [hb.cell (p := ⟨w.heap.size, 4, none⟩) hlt, ← hq]; simp
                have c5 : ∀ w', Below w0.heap.size w0 w' → w'.cell? ⟨w.heap.size, 5, none⟩ = some (.int .i64 e) := fun w' hb => by
                  rw [hb.cell (p := ⟨w.heap.size, 5, none⟩) hlt, ← hq]; simp
                have c6 : ∀ w', Below w0.heap.size w0 w' → w'.cell? ⟨w.heap.size, 6, none⟩ = some (.int .i64 f) := fun w' hb => by
                  rw [hb.cell (p := ⟨w.heap.size, 6, none⟩) hlt, ← hq]; simp
                have c7 : ∀ w', Below w0.heap.size w0 w' → w'.cell? ⟨w.heap.size, 7, none⟩ = some (.string s) := fun w' hb => by
                  rw [hb.cell (p := ⟨w.heap.size, 7, none⟩) hlt, ← hq]; simp
                have c8 : ∀ w', Below w0.heap.size w0 w' → w'.cell? ⟨w.heap.size, 8, none⟩ = some (.string t) := fun w' hb => by
                  rw [hb.cell (p := ⟨w.heap.size, 8, none⟩) hlt, ← hq]; simp
                have C1 : Hid (∀ w', Below w0.heap.size w0 w' → _) := fun w' hb => mayS_on (a, b) _ hA1 w0 w' hb
                have C2 : Hid (∀ w', Below w0.heap.size w0 w' → _) := fun w' hb => mayS_on (c, d) _ hA2 w0 w' hb
                have C3 : Hid (∀ w', Below w0.heap.size w0 w' → _) := fun w' hb => par_on (e, f) _ hA3 w0 w' hb
                have C4 : Hid (∀ w', Below w0.heap.size w0 w' → _) := fun w' hb => name_on s _ hA4 w0 w' hb hs
                clear hq hA1 hA2 hA3 hA4 hs
                refine (C1.out _ hr0).mono ?_
                rintro e1 w1 ⟨rfl, hb1⟩
                clear C1
                go_wp2_with (first
                  | (go_at_call 72; refine (C2.out _ (by assumption)).mono ?_; rintro e1 w2 ⟨rfl, hb2⟩)
                  | (go_at_call 73; refine (C3.out _ (by assumption)).mono ?_; rintro e1 w3 ⟨rfl, hb3⟩)
                  | (go_at_call 74; refine (C4.out _ (by assumption)).mono ?_; rintro e1 w4 ⟨rfl, hb4⟩))
                go_ret
                exact ⟨rfl, below_step hb0 (Nat.le_refl _) (by assumption)⟩
            · skip
              have gk4 : (k == 4) = false := by rw [beq_eq_false_iff_ne]; exact hk4
              by_cases hk5 : k = 5
              · skip
                have gk : (k == 5) = true := by rw [beq_iff_eq]; exact hk5
                by_cases H0 : (e, f) = (0, 0)
                · skip
                  have hE2 := fun w => stampEq_is (e, f) (0, 0) true (decide_eq_true H0) w
                  by_cases H1 : s.size = 0
                  · skip
                    have gs := isE_yes s H1
                    by_cases H2 : t.size = 0
                    · skip
                      have gt := isE_yes t H2
                      obtain rfl : D = true := hD.2 ⟨h1, h2, .inr (.inr (.inr (.inr (⟨hk5, H0, H1, H2⟩))))⟩
                      obtain ⟨A3, hA3⟩ : ∃ A, decide (ParS (e, f)) = A := ⟨_, rfl⟩
                      obtain ⟨A4, hA4⟩ : ∃ x, NameE s x := nameX_is s
                      clear hD h1 h2 hk1 hk2 hk3 hk4 hk5 H0 H1 H2
                      go_enter Tryd.func59, Tryd.ntmps59
                      go_wp2_with fail
                      generalize hq : World.alloc w _ = w0
                      have hb0 : Below w.heap.size w w0 := by rw [← hq]; exact below_new w _
                      have hr0 : Below w0.heap.size w0 w0 := Below.refl _ _
                      have hlt : w.heap.size < w0.heap.size := by rw [← hq]; simp
                      have c0 : ∀ w', Below w0.heap.size w0 w' → w'.cell? ⟨w.heap.size, 0, none⟩ = some (.int .i64 k) := fun w' hb => by
                        rw [hb.cell (p := ⟨w.heap.size, 0, none⟩) hlt, ← hq]; simp
                      have c1 : ∀ w', Below w0.heap.size w0 w' → w'.cell? ⟨w.heap.size, 1, none⟩ = some (.int .i64 a) := fun w' hb => by
                        rw [hb.cell (p := ⟨w.heap.size, 1, none⟩) hlt, ← hq]; simp
                      have c2 : ∀ w', Below w0.heap.size w0 w' → w'.cell? ⟨w.heap.size, 2, none⟩ = some (.int .i64 b) := fun w' hb => by
                        rw [hb.cell (p := ⟨w.heap.size, 2, none⟩) hlt, ← hq]; simp
                      have c3 : ∀ w', Below w0.heap.size w0 w' → w'.cell? ⟨w.heap.size, 3, none⟩ = some (.int .i64 c) := fun w' hb => by
                        rw [hb.cell (p := ⟨w.heap.size, 3, none⟩) hlt, ← hq]; simp
                      have c4 : ∀ w', Below w0.heap.size w0 w' → w'.cell? ⟨w.heap.size, 4, none⟩ = some (.int .i64 d) := fun w' hb => by
                        rw [hb.cell (p := ⟨w.heap.size, 4, none⟩) hlt, ← hq]; simp
                      have c5 : ∀ w', Below w0.heap.size w0 w' → w'.cell? ⟨w.heap.size, 5, none⟩ = some (.int .i64 e) := fun w' hb => by
                        rw [hb.cell (p := ⟨w.heap.size, 5, none⟩) hlt, ← hq]; simp
                      have c6 : ∀ w', Below w0.heap.size w0 w' → w'.cell? ⟨w.heap.size, 6, none⟩ = some (.int .i64 f) := fun w' hb => by
                        rw [hb.cell (p := ⟨w.heap.size, 6, none⟩) hlt, ← hq]; simp
                      have c7 : ∀ w', Below w0.heap.size w0 w' → w'.cell? ⟨w.heap.size, 7, none⟩ = some (.string s) := fun w' hb => by
                        rw [hb.cell (p := ⟨w.heap.size, 7, none⟩) hlt, ← hq]; simp
                      have c8 : ∀ w', Below w0.heap.size w0 w' → w'.cell? ⟨w.heap.size, 8, none⟩ = some (.string t) := fun w' hb => by
                        rw [hb.cell (p := ⟨w.heap.size, 8, none⟩) hlt, ← hq]; simp
                      have C1 : Hid (∀ w', Below w0.heap.size w0 w' → _) := fun w' hb => mayS_on (a, b) _ hA1 w0 w' hb
                      have C2 : Hid (∀ w', Below w0.heap.size w0 w' → _) := fun w' hb => mayS_on (c, d) _ hA2 w0 w' hb
                      have C3 : Hid (∀ w', Below w0.heap.size w0 w' → _) := fun w' hb => par_on (e, f) _ hA3 w0 w' hb
                      have C4 : Hid (∀ w', Below w0.heap.size w0 w' → _) := fun w' hb => name_on s _ hA4 w0 w' hb hs
                      clear hq hA1 hA2 hA3 hA4 hs
                      refine (C1.out _ hr0).mono ?_
                      rintro e1 w1 ⟨rfl, hb1⟩
                      clear C1
                      go_wp2_with (first
                        | (go_at_call 72; refine (C2.out _ (by assumption)).mono ?_; rintro e1 w2 ⟨rfl, hb2⟩)
                        | (go_at_call 73; refine (C3.out _ (by assumption)).mono ?_; rintro e1 w3 ⟨rfl, hb3⟩)
                        | (go_at_call 74; refine (C4.out _ (by assumption)).mono ?_; rintro e1 w4 ⟨rfl, hb4⟩))
                      go_ret
                      exact ⟨rfl, below_step hb0 (Nat.le_refl _) (by assumption)⟩
                    · skip
                      have gt := isE_no t H2
                      obtain rfl : D = false := by
                        cases D with
                        | false => rfl
                        | true =>
                          exfalso
                          obtain ⟨x1, x2, x3⟩ := hD.1 rfl
                          rcases x3 with ⟨y, _⟩ | ⟨y, _⟩ | ⟨y, _⟩ | ⟨y, _⟩ | ⟨y, z0, z1, z2⟩
                          · exact absurd (show k = 1 from y) (by omega)
                          · exact absurd (show k = 2 from y) (by omega)
                          · exact absurd (show k = 3 from y) (by omega)
                          · exact absurd (show k = 4 from y) (by omega)
                          · exact H2 z2
                      obtain ⟨A3, hA3⟩ : ∃ A, decide (ParS (e, f)) = A := ⟨_, rfl⟩
                      obtain ⟨A4, hA4⟩ : ∃ x, NameE s x := nameX_is s
                      clear hD h1 h2 hk1 hk2 hk3 hk4 hk5 H0 H1 H2
                      go_enter Tryd.func59, Tryd.ntmps59
                      go_wp2_with fail
                      generalize hq : World.alloc w _ = w0
                      have hb0 : Below w.heap.size w w0 := by rw [← hq]; exact below_new w _
                      have hr0 : Below w0.heap.size w0 w0 := Below.refl _ _
                      have hlt : w.heap.size < w0.heap.size := by rw [← hq]; simp
                      have c0 : ∀ w', Below w0.heap.size w0 w' → w'.cell? ⟨w.heap.size, 0, none⟩ = some (.int .i64 k) := fun w' hb => by
                        rw [hb.cell (p := ⟨w.heap.size, 0, none⟩) hlt, ← hq]; simp
                      have c1 : ∀ w', Below w0.heap.size w0 w' → w'.cell? ⟨w.heap.size, 1, none⟩ = some (.int .i64 a) := fun w' hb => by
                        rw [hb.cell (p := ⟨w.heap.size, 1, none⟩) hlt, ← hq]; simp
                      have c2 : ∀ w', Below w0.heap.size w0 w' → w'.cell? ⟨w.heap.size, 2, none⟩ = some (.int .i64 b) := fun w' hb => by
                        rw [hb.cell (p := ⟨w.heap.size, 2, none⟩) hlt, ← hq]; simp
                      have c3 : ∀ w', Below w0.heap.size w0 w' → w'.cell? ⟨w.heap.size, 3, none⟩ = some (.int .i64 c) := fun w' hb => by
                        rw [hb.cell (p := ⟨w.heap.size, 3, none⟩) hlt, ← hq]; simp
                      have c4 : ∀ w', Below w0.heap.size w0 w' → w'.cell? ⟨w.heap.size, 4, none⟩ = some (.int .i64 d) := fun w' hb => by
                        rw [hb.cell (p := ⟨w.heap.size, 4, none⟩) hlt, ← hq]; simp
                      have c5 : ∀ w', Below w0.heap.size w0 w' → w'.cell? ⟨w.heap.size, 5, none⟩ = some (.int .i64 e) := fun w' hb => by
                        rw [hb.cell (p := ⟨w.heap.size, 5, none⟩) hlt, ← hq]; simp
                      have c6 : ∀ w', Below w0.heap.size w0 w' → w'.cell? ⟨w.heap.size, 6, none⟩ = some (.int .i64 f) := fun w' hb => by
                        rw [hb.cell (p := ⟨w.heap.size, 6, none⟩) hlt, ← hq]; simp
                      have c7 : ∀ w', Below w0.heap.size w0 w' → w'.cell? ⟨w.heap.size, 7, none⟩ = some (.string s) := fun w' hb => by
                        rw [hb.cell (p := ⟨w.heap.size, 7, none⟩) hlt, ← hq]; simp
                      have c8 : ∀ w', Below w0.heap.size w0 w' → w'.cell? ⟨w.heap.size, 8, none⟩ = some (.string t) := fun w' hb => by
                        rw [hb.cell (p := ⟨w.heap.size, 8, none⟩) hlt, ← hq]; simp
                      have C1 : Hid (∀ w', Below w0.heap.size w0 w' → _) := fun w' hb => mayS_on (a, b) _ hA1 w0 w' hb
                      have C2 : Hid (∀ w', Below w0.heap.size w0 w' → _) := fun w' hb => mayS_on (c, d) _ hA2 w0 w' hb
                      have C3 : Hid (∀ w', Below w0.heap.size w0 w' → _) := fun w' hb => par_on (e, f) _ hA3 w0 w' hb
                      have C4 : Hid (∀ w', Below w0.heap.size w0 w' → _) := fun w' hb => name_on s _ hA4 w0 w' hb hs
                      clear hq hA1 hA2 hA3 hA4 hs
                      refine (C1.out _ hr0).mono ?_
                      rintro e1 w1 ⟨rfl, hb1⟩
                      clear C1
                      go_wp2_with (first
                        | (go_at_call 72; refine (C2.out _ (by assumption)).mono ?_; rintro e1 w2 ⟨rfl, hb2⟩)
                        | (go_at_call 73; refine (C3.out _ (by assumption)).mono ?_; rintro e1 w3 ⟨rfl, hb3⟩)
                        | (go_at_call 74; refine (C4.out _ (by assumption)).mono ?_; rintro e1 w4 ⟨rfl, hb4⟩))
                      go_ret
                      exact ⟨rfl, below_step hb0 (Nat.le_refl _) (by assumption)⟩
                  · skip
                    have gs := isE_no s H1
                    obtain rfl : D = false := by
                      cases D with
                      | false => rfl
                      | true =>
                        exfalso
                        obtain ⟨x1, x2, x3⟩ := hD.1 rfl
                        rcases x3 with ⟨y, _⟩ | ⟨y, _⟩ | ⟨y, _⟩ | ⟨y, _⟩ | ⟨y, z0, z1, z2⟩
                        · exact absurd (show k = 1 from y) (by omega)
                        · exact absurd (show k = 2 from y) (by omega)
                        · exact absurd (show k = 3 from y) (by omega)
                        · exact absurd (show k = 4 from y) (by omega)
                        · exact H1 z1
                    obtain ⟨A3, hA3⟩ : ∃ A, decide (ParS (e, f)) = A := ⟨_, rfl⟩
                    obtain ⟨A4, hA4⟩ : ∃ x, NameE s x := nameX_is s
                    clear hD h1 h2 hk1 hk2 hk3 hk4 hk5 H0 H1
                    go_enter Tryd.func59, Tryd.ntmps59
                    go_wp2_with fail
                    generalize hq : World.alloc w _ = w0
                    have hb0 : Below w.heap.size w w0 := by rw [← hq]; exact below_new w _
                    have hr0 : Below w0.heap.size w0 w0 := Below.refl _ _
                    have hlt : w.heap.size < w0.heap.size := by rw [← hq]; simp
                    have c0 : ∀ w', Below w0.heap.size w0 w' → w'.cell? ⟨w.heap.size, 0, none⟩ = some (.int .i64 k) := fun w' hb => by
                      rw [hb.cell (p := ⟨w.heap.size, 0, none⟩) hlt, ← hq]; simp
                    have c1 : ∀ w', Below w0.heap.size w0 w' → w'.cell? ⟨w.heap.size, 1, none⟩ = some (.int .i64 a) := fun w' hb => by
                      rw [hb.cell (p := ⟨w.heap.size, 1, none⟩) hlt, ← hq]; simp
                    have c2 : ∀ w', Below w0.heap.size w0 w' → w'.cell? ⟨w.heap.size, 2, none⟩ = some (.int .i64 b) := fun w' hb => by
                      rw [hb.cell (p := ⟨w.heap.size, 2, none⟩) hlt, ← hq]; simp
                    have c3 : ∀ w', Below w0.heap.size w0 w' → w'.cell? ⟨w.heap.size, 3, none⟩ = some (.int .i64 c) := fun w' hb => by
                      rw [hb.cell (p := ⟨w.heap.size, 3, none⟩) hlt, ← hq]; simp
                    have c4 : ∀ w', Below w0.heap.size w0 w' → w'.cell? ⟨w.heap.size, 4, none⟩ = some (.int .i64 d) := fun w' hb => by
                      rw [hb.cell (p := ⟨w.heap.size, 4, none⟩) hlt, ← hq]; simp
                    have c5 : ∀ w', Below w0.heap.size w0 w' → w'.cell? ⟨w.heap.size, 5, none⟩ = some (.int .i64 e) := fun w' hb => by
                      rw [hb.cell (p := ⟨w.heap.size, 5, none⟩) hlt, ← hq]; simp
                    have c6 : ∀ w', Below w0.heap.size w0 w' → w'.cell? ⟨w.heap.size, 6, none⟩ = some (.int .i64 f) := fun w' hb => by
                      rw [hb.cell (p := ⟨w.heap.size, 6, none⟩) hlt, ← hq]; simp
                    have c7 : ∀ w', Below w0.heap.size w0 w' → w'.cell? ⟨w.heap.size, 7, none⟩ = some (.string s) := fun w' hb => by
                      rw [hb.cell (p := ⟨w.heap.size, 7, none⟩) hlt, ← hq]; simp
                    have c8 : ∀ w', Below w0.heap.size w0 w' → w'.cell? ⟨w.heap.size, 8, none⟩ = some (.string t) := fun w' hb => by
                      rw [hb.cell (p := ⟨w.heap.size, 8, none⟩) hlt, ← hq]; simp
                    have C1 : Hid (∀ w', Below w0.heap.size w0 w' → _) := fun w' hb => mayS_on (a, b) _ hA1 w0 w' hb
                    have C2 : Hid (∀ w', Below w0.heap.size w0 w' → _) := fun w' hb => mayS_on (c, d) _ hA2 w0 w' hb
                    have C3 : Hid (∀ w', Below w0.heap.size w0 w' → _) := fun w' hb => par_on (e, f) _ hA3 w0 w' hb
                    have C4 : Hid (∀ w', Below w0.heap.size w0 w' → _) := fun w' hb => name_on s _ hA4 w0 w' hb hs
                    clear hq hA1 hA2 hA3 hA4 hs
                    refine (C1.out _ hr0).mono ?_
                    rintro e1 w1 ⟨rfl, hb1⟩
                    clear C1
                    go_wp2_with (first
                      | (go_at_call 72; refine (C2.out _ (by assumption)).mono ?_; rintro e1 w2 ⟨rfl, hb2⟩)
                      | (go_at_call 73; refine (C3.out _ (by assumption)).mono ?_; rintro e1 w3 ⟨rfl, hb3⟩)
                      | (go_at_call 74; refine (C4.out _ (by assumption)).mono ?_; rintro e1 w4 ⟨rfl, hb4⟩))
                    go_ret
                    exact ⟨rfl, below_step hb0 (Nat.le_refl _) (by assumption)⟩
                · skip
                  have hE2 := fun w => stampEq_is (e, f) (0, 0) false (decide_eq_false H0) w
                  obtain rfl : D = false := by
                    cases D with
                    | false => rfl
                    | true =>
                      exfalso
                      obtain ⟨x1, x2, x3⟩ := hD.1 rfl
                      rcases x3 with ⟨y, _⟩ | ⟨y, _⟩ | ⟨y, _⟩ | ⟨y, _⟩ | ⟨y, z0, z1, z2⟩
                      · exact absurd (show k = 1 from y) (by omega)
                      · exact absurd (show k = 2 from y) (by omega)
                      · exact absurd (show k = 3 from y) (by omega)
                      · exact absurd (show k = 4 from y) (by omega)
                      · exact H0 z0
                  obtain ⟨A3, hA3⟩ : ∃ A, decide (ParS (e, f)) = A := ⟨_, rfl⟩
                  obtain ⟨A4, hA4⟩ : ∃ x, NameE s x := nameX_is s
                  clear hD h1 h2 hk1 hk2 hk3 hk4 hk5 H0
                  go_enter Tryd.func59, Tryd.ntmps59
                  go_wp2_with fail
                  generalize hq : World.alloc w _ = w0
                  have hb0 : Below w.heap.size w w0 := by rw [← hq]; exact below_new w _
                  have hr0 : Below w0.heap.size w0 w0 := Below.refl _ _
                  have hlt : w.heap.size < w0.heap.size := by rw [← hq]; simp
                  have c0 : ∀ w', Below w0.heap.size w0 w' → w'.cell? ⟨w.heap.size, 0, none⟩ = some (.int .i64 k) := fun w' hb => by
                    rw [hb.cell (p := ⟨w.heap.size, 0, none⟩) hlt, ← hq]; simp
                  have c1 : ∀ w', Below w0.heap.size w0 w' → w'.cell? ⟨w.heap.size, 1, none⟩ = some (.int .i64 a) := fun w' hb => by
                    rw [hb.cell (p := ⟨w.heap.size, 1, none⟩) hlt, ← hq]; simp
                  have c2 : ∀ w', Below w0.heap.size w0 w' → w'.cell? ⟨w.heap.size, 2, none⟩ = some (.int .i64 b) := fun w' hb => by
                    rw [hb.cell (p := ⟨w.heap.size, 2, none⟩) hlt, ← hq]; simp
                  have c3 : ∀ w', Below w0.heap.size w0 w' → w'.cell? ⟨w.heap.size, 3, none⟩ = some (.int .i64 c) := fun w' hb => by
                    rw [hb.cell (p := ⟨w.heap.size, 3, none⟩) hlt, ← hq]; simp
                  have c4 : ∀ w', Below w0.heap.size w0 w' → w'.cell? ⟨w.heap.size, 4, none⟩ = some (.int .i64 d) := fun w' hb => by
                    rw [hb.cell (p := ⟨w.heap.size, 4, none⟩) hlt, ← hq]; simp
                  have c5 : ∀ w', Below w0.heap.size w0 w' → w'.cell? ⟨w.heap.size, 5, none⟩ = some (.int .i64 e) := fun w' hb => by
                    rw [hb.cell (p := ⟨w.heap.size, 5, none⟩) hlt, ← hq]; simp
                  have c6 : ∀ w', Below w0.heap.size w0 w' → w'.cell? ⟨w.heap.size, 6, none⟩ = some (.int .i64 f) := fun w' hb => by
                    rw [hb.cell (p := ⟨w.heap.size, 6, none⟩) hlt, ← hq]; simp
                  have c7 : ∀ w', Below w0.heap.size w0 w' → w'.cell? ⟨w.heap.size, 7, none⟩ = some (.string s) := fun w' hb => by
                    rw [hb.cell (p := ⟨w.heap.size, 7, none⟩) hlt, ← hq]; simp
                  have c8 : ∀ w', Below w0.heap.size w0 w' → w'.cell? ⟨w.heap.size, 8, none⟩ = some (.string t) := fun w' hb => by
                    rw [hb.cell (p := ⟨w.heap.size, 8, none⟩) hlt, ← hq]; simp
                  have C1 : Hid (∀ w', Below w0.heap.size w0 w' → _) := fun w' hb => mayS_on (a, b) _ hA1 w0 w' hb
                  have C2 : Hid (∀ w', Below w0.heap.size w0 w' → _) := fun w' hb => mayS_on (c, d) _ hA2 w0 w' hb
                  have C3 : Hid (∀ w', Below w0.heap.size w0 w' → _) := fun w' hb => par_on (e, f) _ hA3 w0 w' hb
                  have C4 : Hid (∀ w', Below w0.heap.size w0 w' → _) := fun w' hb => name_on s _ hA4 w0 w' hb hs
                  clear hq hA1 hA2 hA3 hA4 hs
                  refine (C1.out _ hr0).mono ?_
                  rintro e1 w1 ⟨rfl, hb1⟩
                  clear C1
                  go_wp2_with (first
                    | (go_at_call 72; refine (C2.out _ (by assumption)).mono ?_; rintro e1 w2 ⟨rfl, hb2⟩)
                    | (go_at_call 73; refine (C3.out _ (by assumption)).mono ?_; rintro e1 w3 ⟨rfl, hb3⟩)
                    | (go_at_call 74; refine (C4.out _ (by assumption)).mono ?_; rintro e1 w4 ⟨rfl, hb4⟩))
                  go_ret
                  exact ⟨rfl, below_step hb0 (Nat.le_refl _) (by assumption)⟩
              · skip
                have gk5 : (k == 5) = false := by rw [beq_eq_false_iff_ne]; exact hk5
                obtain rfl : D = false := by
                  cases D with
                  | false => rfl
                  | true =>
                    exfalso
                    obtain ⟨x1, x2, x3⟩ := hD.1 rfl
                    rcases x3 with ⟨y, _⟩ | ⟨y, _⟩ | ⟨y, _⟩ | ⟨y, _⟩ | ⟨y, _⟩
                    · exact absurd (show k = 1 from y) (by omega)
                    · exact absurd (show k = 2 from y) (by omega)
                    · exact absurd (show k = 3 from y) (by omega)
                    · exact absurd (show k = 4 from y) (by omega)
                    · exact absurd (show k = 5 from y) (by omega)
                obtain ⟨A3, hA3⟩ : ∃ A, decide (ParS (e, f)) = A := ⟨_, rfl⟩
                obtain ⟨A4, hA4⟩ : ∃ x, NameE s x := nameX_is s
                have hE2 := fun w => stampEq e f 0 0 w
                clear hD h1 h2 hk1 hk2 hk3 hk4 hk5
                go_enter Tryd.func59, Tryd.ntmps59
                go_wp2_with fail
                generalize hq : World.alloc w _ = w0
                have hb0 : Below w.heap.size w w0 := by rw [← hq]; exact below_new w _
                have hr0 : Below w0.heap.size w0 w0 := Below.refl _ _
                have hlt : w.heap.size < w0.heap.size := by rw [← hq]; simp
                have c0 : ∀ w', Below w0.heap.size w0 w' → w'.cell? ⟨w.heap.size, 0, none⟩ = some (.int .i64 k) := fun w' hb => by
                  rw [hb.cell (p := ⟨w.heap.size, 0, none⟩) hlt, ← hq]; simp
                have c1 : ∀ w', Below w0.heap.size w0 w' → w'.cell? ⟨w.heap.size, 1, none⟩ = some (.int .i64 a) := fun w' hb => by
                  rw [hb.cell (p := ⟨w.heap.size, 1, none⟩) hlt, ← hq]; simp
                have c2 : ∀ w', Below w0.heap.size w0 w' → w'.cell? ⟨w.heap.size, 2, none⟩ = some (.int .i64 b) := fun w' hb => by
                  rw [hb.cell (p := ⟨w.heap.size, 2, none⟩) hlt, ← hq]; simp
                have c3 : ∀ w', Below w0.heap.size w0 w' → w'.cell? ⟨w.heap.size, 3, none⟩ = some (.int .i64 c) := fun w' hb => by
                  rw [hb.cell (p := ⟨w.heap.size, 3, none⟩) hlt, ← hq]; simp
                have c4 : ∀ w', Below w0.heap.size w0 w' → w'.cell? ⟨w.heap.size, 4, none⟩ = some (.int .i64 d) := fun w' hb => by
                  rw [hb.cell (p := ⟨w.heap.size, 4, none⟩) hlt, ← hq]; simp
                have c5 : ∀ w', Below w0.heap.size w0 w' → w'.cell? ⟨w.heap.size, 5, none⟩ = some (.int .i64 e) := fun w' hb => by
                  rw [hb.cell (p := ⟨w.heap.size, 5, none⟩) hlt, ← hq]; simp
                have c6 : ∀ w', Below w0.heap.size w0 w' → w'.cell? ⟨w.heap.size, 6, none⟩ = some (.int .i64 f) := fun w' hb => by
                  rw [hb.cell (p := ⟨w.heap.size, 6, none⟩) hlt, ← hq]; simp
                have c7 : ∀ w', Below w0.heap.size w0 w' → w'.cell? ⟨w.heap.size, 7, none⟩ = some (.string s) := fun w' hb => by
                  rw [hb.cell (p := ⟨w.heap.size, 7, none⟩) hlt, ← hq]; simp
                have c8 : ∀ w', Below w0.heap.size w0 w' → w'.cell? ⟨w.heap.size, 8, none⟩ = some (.string t) := fun w' hb => by
                  rw [hb.cell (p := ⟨w.heap.size, 8, none⟩) hlt, ← hq]; simp
                have C1 : Hid (∀ w', Below w0.heap.size w0 w' → _) := fun w' hb => mayS_on (a, b) _ hA1 w0 w' hb
                have C2 : Hid (∀ w', Below w0.heap.size w0 w' → _) := fun w' hb => mayS_on (c, d) _ hA2 w0 w' hb
                have C3 : Hid (∀ w', Below w0.heap.size w0 w' → _) := fun w' hb => par_on (e, f) _ hA3 w0 w' hb
                have C4 : Hid (∀ w', Below w0.heap.size w0 w' → _) := fun w' hb => name_on s _ hA4 w0 w' hb hs
                clear hq hA1 hA2 hA3 hA4 hs
                refine (C1.out _ hr0).mono ?_
                rintro e1 w1 ⟨rfl, hb1⟩
                clear C1
                go_wp2_with (first
                  | (go_at_call 72; refine (C2.out _ (by assumption)).mono ?_; rintro e1 w2 ⟨rfl, hb2⟩)
                  | (go_at_call 73; refine (C3.out _ (by assumption)).mono ?_; rintro e1 w3 ⟨rfl, hb3⟩)
                  | (go_at_call 74; refine (C4.out _ (by assumption)).mono ?_; rintro e1 w4 ⟨rfl, hb4⟩))
                go_ret
                exact ⟨rfl, below_step hb0 (Nat.le_refl _) (by assumption)⟩
    · obtain ⟨A2, hA2, rfl⟩ : ∃ A, decide (MayS (c, d)) = A ∧ A = false := ⟨_, rfl, decide_eq_false h2⟩
      obtain rfl : D = false := by
        cases D with
        | false => rfl
        | true =>
          exfalso
          obtain ⟨x1, x2, x3⟩ := hD.1 rfl
          exact h2 x2
      obtain ⟨A3, hA3⟩ : ∃ A, decide (ParS (e, f)) = A := ⟨_, rfl⟩
      obtain ⟨A4, hA4⟩ : ∃ x, NameE s x := nameX_is s
      have hE2 := fun w => stampEq e f 0 0 w
      clear hD h1 h2
      go_enter Tryd.func59, Tryd.ntmps59
      go_wp2_with fail
      generalize hq : World.alloc w _ = w0
      have hb0 : Below w.heap.size w w0 := by rw [← hq]; exact below_new w _
      have hr0 : Below w0.heap.size w0 w0 := Below.refl _ _
      have hlt : w.heap.size < w0.heap.size := by rw [← hq]; simp
      have c0 : ∀ w', Below w0.heap.size w0 w' → w'.cell? ⟨w.heap.size, 0, none⟩ = some (.int .i64 k) := fun w' hb => by
        rw [hb.cell (p := ⟨w.heap.size, 0, none⟩) hlt, ← hq]; simp
      have c1 : ∀ w', Below w0.heap.size w0 w' → w'.cell? ⟨w.heap.size, 1, none⟩ = some (.int .i64 a) := fun w' hb => by
        rw [hb.cell (p := ⟨w.heap.size, 1, none⟩) hlt, ← hq]; simp
      have c2 : ∀ w', Below w0.heap.size w0 w' → w'.cell? ⟨w.heap.size, 2, none⟩ = some (.int .i64 b) := fun w' hb => by
        rw [hb.cell (p := ⟨w.heap.size, 2, none⟩) hlt, ← hq]; simp
      have c3 : ∀ w', Below w0.heap.size w0 w' → w'.cell? ⟨w.heap.size, 3, none⟩ = some (.int .i64 c) := fun w' hb => by
        rw [hb.cell (p := ⟨w.heap.size, 3, none⟩) hlt, ← hq]; simp
      have c4 : ∀ w', Below w0.heap.size w0 w' → w'.cell? ⟨w.heap.size, 4, none⟩ = some (.int .i64 d) := fun w' hb => by
        rw [hb.cell (p := ⟨w.heap.size, 4, none⟩) hlt, ← hq]; simp
      have c5 : ∀ w', Below w0.heap.size w0 w' → w'.cell? ⟨w.heap.size, 5, none⟩ = some (.int .i64 e) := fun w' hb => by
        rw [hb.cell (p := ⟨w.heap.size, 5, none⟩) hlt, ← hq]; simp
      have c6 : ∀ w', Below w0.heap.size w0 w' → w'.cell? ⟨w.heap.size, 6, none⟩ = some (.int .i64 f) := fun w' hb => by
        rw [hb.cell (p := ⟨w.heap.size, 6, none⟩) hlt, ← hq]; simp
      have c7 : ∀ w', Below w0.heap.size w0 w' → w'.cell? ⟨w.heap.size, 7, none⟩ = some (.string s) := fun w' hb => by
        rw [hb.cell (p := ⟨w.heap.size, 7, none⟩) hlt, ← hq]; simp
      have c8 : ∀ w', Below w0.heap.size w0 w' → w'.cell? ⟨w.heap.size, 8, none⟩ = some (.string t) := fun w' hb => by
        rw [hb.cell (p := ⟨w.heap.size, 8, none⟩) hlt, ← hq]; simp
      have C1 : Hid (∀ w', Below w0.heap.size w0 w' → _) := fun w' hb => mayS_on (a, b) _ hA1 w0 w' hb
      have C2 : Hid (∀ w', Below w0.heap.size w0 w' → _) := fun w' hb => mayS_on (c, d) _ hA2 w0 w' hb
      have C3 : Hid (∀ w', Below w0.heap.size w0 w' → _) := fun w' hb => par_on (e, f) _ hA3 w0 w' hb
      have C4 : Hid (∀ w', Below w0.heap.size w0 w' → _) := fun w' hb => name_on s _ hA4 w0 w' hb hs
      clear hq hA1 hA2 hA3 hA4 hs
      refine (C1.out _ hr0).mono ?_
      rintro e1 w1 ⟨rfl, hb1⟩
      clear C1
      go_wp2_with (first
        | (go_at_call 72; refine (C2.out _ (by assumption)).mono ?_; rintro e1 w2 ⟨rfl, hb2⟩)
        | (go_at_call 73; refine (C3.out _ (by assumption)).mono ?_; rintro e1 w3 ⟨rfl, hb3⟩)
        | (go_at_call 74; refine (C4.out _ (by assumption)).mono ?_; rintro e1 w4 ⟨rfl, hb4⟩))
      go_ret
      exact ⟨rfl, below_step hb0 (Nat.le_refl _) (by assumption)⟩
  · obtain ⟨A1, hA1, rfl⟩ : ∃ A, decide (MayS (a, b)) = A ∧ A = false := ⟨_, rfl, decide_eq_false h1⟩
    obtain ⟨A2, hA2⟩ : ∃ A, decide (MayS (c, d)) = A := ⟨_, rfl⟩
    obtain rfl : D = false := by
      cases D with
      | false => rfl
      | true =>
        exfalso
        obtain ⟨x1, x2, x3⟩ := hD.1 rfl
        exact h1 x1
    obtain ⟨A3, hA3⟩ : ∃ A, decide (ParS (e, f)) = A := ⟨_, rfl⟩
    obtain ⟨A4, hA4⟩ : ∃ x, NameE s x := nameX_is s
    have hE2 := fun w => stampEq e f 0 0 w
    clear hD h1
    go_enter Tryd.func59, Tryd.ntmps59
    go_wp2_with fail
    generalize hq : World.alloc w _ = w0
    have hb0 : Below w.heap.size w w0 := by rw [← hq]; exact below_new w _
    have hr0 : Below w0.heap.size w0 w0 := Below.refl _ _
    have hlt : w.heap.size < w0.heap.size := by rw [← hq]; simp
    have c0 : ∀ w', Below w0.heap.size w0 w' → w'.cell? ⟨w.heap.size, 0, none⟩ = some (.int .i64 k) := fun w' hb => by
      rw [hb.cell (p := ⟨w.heap.size, 0, none⟩) hlt, ← hq]; simp
    have c1 : ∀ w', Below w0.heap.size w0 w' → w'.cell? ⟨w.heap.size, 1, none⟩ = some (.int .i64 a) := fun w' hb => by
      rw [hb.cell (p := ⟨w.heap.size, 1, none⟩) hlt, ← hq]; simp
    have c2 : ∀ w', Below w0.heap.size w0 w' → w'.cell? ⟨w.heap.size, 2, none⟩ = some (.int .i64 b) := fun w' hb => by
      rw [hb.cell (p := ⟨w.heap.size, 2, none⟩) hlt, ← hq]; simp
    have c3 : ∀ w', Below w0.heap.size w0 w' → w'.cell? ⟨w.heap.size, 3, none⟩ = some (.int .i64 c) := fun w' hb => by
      rw [hb.cell (p := ⟨w.heap.size, 3, none⟩) hlt, ← hq]; simp
    have c4 : ∀ w', Below w0.heap.size w0 w' → w'.cell? ⟨w.heap.size, 4, none⟩ = some (.int .i64 d) := fun w' hb => by
      rw [hb.cell (p := ⟨w.heap.size, 4, none⟩) hlt, ← hq]; simp
    have c5 : ∀ w', Below w0.heap.size w0 w' → w'.cell? ⟨w.heap.size, 5, none⟩ = some (.int .i64 e) := fun w' hb => by
      rw [hb.cell (p := ⟨w.heap.size, 5, none⟩) hlt, ← hq]; simp
    have c6 : ∀ w', Below w0.heap.size w0 w' → w'.cell? ⟨w.heap.size, 6, none⟩ = some (.int .i64 f) := fun w' hb => by
      rw [hb.cell (p := ⟨w.heap.size, 6, none⟩) hlt, ← hq]; simp
    have c7 : ∀ w', Below w0.heap.size w0 w' → w'.cell? ⟨w.heap.size, 7, none⟩ = some (.string s) := fun w' hb => by
      rw [hb.cell (p := ⟨w.heap.size, 7, none⟩) hlt, ← hq]; simp
    have c8 : ∀ w', Below w0.heap.size w0 w' → w'.cell? ⟨w.heap.size, 8, none⟩ = some (.string t) := fun w' hb => by
      rw [hb.cell (p := ⟨w.heap.size, 8, none⟩) hlt, ← hq]; simp
    have C1 : Hid (∀ w', Below w0.heap.size w0 w' → _) := fun w' hb => mayS_on (a, b) _ hA1 w0 w' hb
    have C2 : Hid (∀ w', Below w0.heap.size w0 w' → _) := fun w' hb => mayS_on (c, d) _ hA2 w0 w' hb
    have C3 : Hid (∀ w', Below w0.heap.size w0 w' → _) := fun w' hb => par_on (e, f) _ hA3 w0 w' hb
    have C4 : Hid (∀ w', Below w0.heap.size w0 w' → _) := fun w' hb => name_on s _ hA4 w0 w' hb hs
    clear hq hA1 hA2 hA3 hA4 hs
    refine (C1.out _ hr0).mono ?_
    rintro e1 w1 ⟨rfl, hb1⟩
    clear C1
    go_wp2_with (first
      | (go_at_call 72; refine (C2.out _ (by assumption)).mono ?_; rintro e1 w2 ⟨rfl, hb2⟩)
      | (go_at_call 73; refine (C3.out _ (by assumption)).mono ?_; rintro e1 w3 ⟨rfl, hb3⟩)
      | (go_at_call 74; refine (C4.out _ (by assumption)).mono ?_; rintro e1 w4 ⟨rfl, hb4⟩))
    go_ret
    exact ⟨rfl, below_step hb0 (Nat.le_refl _) (by assumption)⟩

end Go.Proofs.YtabhkebkbidfhaaDoor
