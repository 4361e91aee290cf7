import Derived.Test.YtogbkfakihnbdaaGreatDoorRT
import Derived.Test.YtogbkfakihnbdaaGreatDoorR8
/- The document's with (layer 11). -/
namespace Go.Proofs.YtogbkfakihnbdaaGreatDoor
open Go.RowKit
set_option linter.unusedSimpArgs false

theorem Tryz.infoNode : (Tryz.prog.info? 47).map (fun i => (i.zero, i.size, i.bytes)) = some (some (.agg #[.int .i64 0, .int .i64 0, .int .i64 0, .int .i64 0, .string ⟨#[]⟩, .string ⟨#[]⟩]), 6, 64) := by kernel_rfl

theorem nodeA_one (x : (Int × Int) × (Int × Int) × ByteArray × ByteArray) : ∀ u ∈ (nodeA x).toList, u.oneCell' = true := by
  intro u hu
  simp [nodeA] at hu
  rcases hu with rfl | rfl | rfl | rfl | rfl | rfl <;> rfl

end Go.Proofs.YtogbkfakihnbdaaGreatDoor

/- The document's May, Check (layer 11). -/
namespace Go.Proofs.YtogbkfakihnbdaaGreatDoor
open Go.RowKit
set_option linter.unusedSimpArgs false

/-- May an operation be? -/
def MayO (o : Int × (Int × Int) × (Int × Int) × (Int × Int) × ByteArray × ByteArray) : Prop :=
  MayS o.2.1 ∧ MayS o.2.2.1 ∧
  ((o.1 = 1 ∧ o.2.2.1 = o.2.1 ∧ ParS o.2.2.2.1 ∧ NameP o.2.2.2.2.1 ∧ o.2.2.2.2.2.size = 0) ∨
   (o.1 = 2 ∧ ParS o.2.2.2.1 ∧ o.2.2.2.2.1.size = 0 ∧ o.2.2.2.2.2.size = 0) ∨
   (o.1 = 3 ∧ o.2.2.2.1 = (0, 0) ∧ NameP o.2.2.2.2.1 ∧ o.2.2.2.2.2.size = 0) ∨
   (o.1 = 4 ∧ o.2.2.2.1 = (0, 0) ∧ o.2.2.2.2.1.size = 0 ∧ o.2.2.2.2.2.size ≤ 64) ∨
   (o.1 = 5 ∧ o.2.2.2.1 = (0, 0) ∧ o.2.2.2.2.1.size = 0 ∧ o.2.2.2.2.2.size = 0))

theorem mayS_on (s : Int × Int) (A : Bool) (hA : decide (MayS s) = A) (w w' : World) (hb : Below w.heap.size w w') :
    Calls Tryz.prog 65 #[.agg #[.int .i64 s.1, .int .i64 s.2]] w' fun e w'' => e = .returned (.bool A) ∧ Below w.heap.size w w'' := by
  have h := rmayS_any s w'
  rw [hA] at h
  exact h.mono (fun e w'' h => ⟨h.1, below_step hb (Nat.le_refl _) h.2⟩)

theorem par_on (s : Int × Int) (A : Bool) (hA : decide (ParS s) = A) (w w' : World) (hb : Below w.heap.size w w') :
    Calls Tryz.prog 80 #[.agg #[.int .i64 s.1, .int .i64 s.2]] w' fun e w'' => e = .returned (.bool A) ∧ Below w.heap.size w w'' := by
  have h := rparent_any s w'
  rw [hA] at h
  exact h.mono (fun e w'' h => ⟨h.1, below_step hb (Nat.le_refl _) h.2⟩)

theorem name_on (s : ByteArray) (x : Int) (hx : NameE s x) (w w' : World) (hb : Below w.heap.size w w') (hs : s.size ≤ 1048576) :
    Calls Tryz.prog 79 #[.string s] w' fun e w'' => e = .returned (.int .i64 x) ∧ Below w.heap.size w w'' := by
  refine (rcheckN_any s w' hs).mono ?_
  rintro e w'' ⟨y, rfl, hy, rfl⟩
  rw [NameE.uniq hy hx]
  exact ⟨rfl, hb⟩

theorem nameX_is (s : ByteArray) : ∃ x, NameE s x := by
  by_cases h : NameP s
  · exact ⟨0, .inl ⟨rfl, h⟩⟩
  · exact ⟨80, .inr ⟨rfl, h⟩⟩

theorem isE_yes (s : ByteArray) (h : s.size = 0) : s.toList.isEmpty = true := by
  have h0 : s.data.size = 0 := h
  rw [toList_data, Array.eq_empty_of_size_eq_zero h0]; rfl

theorem isE_no (s : ByteArray) (h : ¬ s.size = 0) : s.toList.isEmpty = false := by
  rw [toList_data]
  cases hl : s.data.toList with
  | nil =>
    have h2 : s.data.toList.length = 0 := by rw [hl]; rfl
    rw [Array.length_toList] at h2
    exact absurd h2 h
  | cons x r => rfl

set_option maxRecDepth 100000 in
set_option maxHeartbeats 8000000 in
theorem rmayO_any (o : Int × (Int × Int) × (Int × Int) × (Int × Int) × ByteArray × ByteArray) (D : Bool) (hD : D = true ↔ MayO o) (w : World) (hs : o.2.2.2.2.1.size ≤ 1048576) (ht : o.2.2.2.2.2.size ≤ 9223372036854775807) :
    Calls Tryz.prog 83 #[.agg (opA o)] w fun x w' => x = .returned (.bool D) ∧ Below w.heap.size w w' := by
  obtain ⟨k, ⟨a, b⟩, ⟨c, d⟩, ⟨e, f⟩, s, t⟩ := o
  unfold opA
  unfold MayO at hD
  have ht' : t.size ≤ 9223372036854775807 := ht
  show Calls Tryz.prog _ #[.agg #[.int .i64 k, .int .i64 a, .int .i64 b, .int .i64 c, .int .i64 d, .int .i64 e, .int .i64 f, .string s, .string t]] w _
  by_cases h1 : MayS (a, b)
  · obtain ⟨A1, hA1, rfl⟩ : ∃ A, decide (MayS (a, b)) = A ∧ A = true := ⟨_, rfl, decide_eq_true h1⟩
    by_cases h2 : MayS (c, d)
    · obtain ⟨A2, hA2, rfl⟩ : ∃ A, decide (MayS (c, d)) = A ∧ A = true := ⟨_, rfl, decide_eq_true h2⟩
      by_cases hk1 : k = 1
      · skip
        have gk : (k == 1) = true := by rw [beq_iff_eq]; exact hk1
        by_cases H0 : (c, d) = (a, b)
        · skip
          have hE1 := fun w => stampEq_is (c, d) (a, b) true (decide_eq_true H0) w
          by_cases H1 : ParS (e, f)
          · skip
            have hA3 : decide (ParS (e, f)) = true := decide_eq_true H1
            by_cases H2 : NameP s
            · skip
              have hA4 : NameE s 0 := .inl ⟨rfl, H2⟩
              by_cases H3 : t.size = 0
              · skip
                have gt := isE_yes t H3
                obtain rfl : D = true := hD.2 ⟨h1, h2, .inl ⟨hk1, H0, H1, H2, H3⟩⟩
                have hE2 := fun w => stampEq e f 0 0 w
                clear hD h1 h2 hk1 H0 H1 H2 H3
                go_enter Tryz.func83, Tryz.ntmps83
                go_wp2_with fail
                generalize hq : World.alloc w _ = w0
                have hb0 : Below w.heap.size w w0 := by rw [← hq]; exact below_new w _
                have hr0 : Below w0.heap.size w0 w0 := Below.refl _ _
                have hlt : w.heap.size < w0.heap.size := by rw [← hq]; simp
                have c0 : ∀ w', Below w0.heap.size w0 w' → w'.cell? ⟨w.heap.size, 0, none⟩ = some (.int .i64 k) := fun w' hb => by
                  rw [hb.cell (p := ⟨w.heap.size, 0, none⟩) hlt, ← hq]; simp
                have c1 : ∀ w', Below w0.heap.size w0 w' → w'.cell? ⟨w.heap.size, 1, none⟩ = some (.int .i64 a) := fun w' hb => by
                  rw [hb.cell (p := ⟨w.heap.size, 1, none⟩) hlt, ← hq]; simp
                have c2 : ∀ w', Below w0.heap.size w0 w' → w'.cell? ⟨w.heap.size, 2, none⟩ = some (.int .i64 b) := fun w' hb => by
                  rw [hb.cell (p := ⟨w.heap.size, 2, none⟩) hlt, ← hq]; simp
                have c3 : ∀ w', Below w0.heap.size w0 w' → w'.cell? ⟨w.heap.size, 3, none⟩ = some (.int .i64 c) := fun w' hb => by
                  rw [hb.cell (p := ⟨w.heap.size, 3, none⟩) hlt, ← hq]; simp
                have c4 : ∀ w', Below w0.heap.size w0 w' → w'.cell? ⟨w.heap.size, 4, none⟩ = some (.int .i64 d) := fun w' hb => by
                  rw [hb.cell (p := ⟨w.heap.size, 4, none⟩) hlt, ← hq]; simp
                have c5 : ∀ w', Below w0.heap.size w0 w' → w'.cell? ⟨w.heap.size, 5, none⟩ = some (.int .i64 e) := fun w' hb => by
                  rw [hb.cell (p := ⟨w.heap.size, 5, none⟩) hlt, ← hq]; simp
                have c6 : ∀ w', Below w0.heap.size w0 w' → w'.cell? ⟨w.heap.size, 6, none⟩ = some (.int .i64 f) := fun w' hb => by
                  rw [hb.cell (p := ⟨w.heap.size, 6, none⟩) hlt, ← hq]; simp
                have c7 : ∀ w', Below w0.heap.size w0 w' → w'.cell? ⟨w.heap.size, 7, none⟩ = some (.string s) := fun w' hb => by
                  rw [hb.cell (p := ⟨w.heap.size, 7, none⟩) hlt, ← hq]; simp
                have c8 : ∀ w', Below w0.heap.size w0 w' → w'.cell? ⟨w.heap.size, 8, none⟩ = some (.string t) := fun w' hb => by
                  rw [hb.cell (p := ⟨w.heap.size, 8, none⟩) hlt, ← hq]; simp
                have C1 : Hid (∀ w', Below w0.heap.size w0 w' → _) := fun w' hb => mayS_on (a, b) _ hA1 w0 w' hb
                have C2 : Hid (∀ w', Below w0.heap.size w0 w' → _) := fun w' hb => mayS_on (c, d) _ hA2 w0 w' hb
                have C3 : Hid (∀ w', Below w0.heap.size w0 w' → _) := fun w' hb => par_on (e, f) _ hA3 w0 w' hb
                have C4 : Hid (∀ w', Below w0.heap.size w0 w' → _) := fun w' hb => name_on s _ hA4 w0 w' hb hs
                clear hq hA1 hA2 hA3 hA4 hs
                refine (C1.out _ hr0).mono ?_
                rintro e1 w1 ⟨rfl, hb1⟩
                clear C1
                go_wp2_with (first
                  | (go_at_call 65; refine (C2.out _ (by assumption)).mono ?_; rintro e1 w2 ⟨rfl, hb2⟩)
                  | (go_at_call 80; refine (C3.out _ (by assumption)).mono ?_; rintro e1 w3 ⟨rfl, hb3⟩)
                  | (go_at_call 79; refine (C4.out _ (by assumption)).mono ?_; rintro e1 w4 ⟨rfl, hb4⟩))
                go_ret
                exact ⟨rfl, below_step hb0 (Nat.le_refl _) (by assumption)⟩
              · skip
                have gt := isE_no t H3
                obtain rfl : D = false := by
                  cases D with
                  | false => rfl
                  | true =>
                    exfalso
                    obtain ⟨x1, x2, x3⟩ := hD.1 rfl
                    rcases x3 with ⟨y, z0, z1, z2, z3⟩ | ⟨y, _⟩ | ⟨y, _⟩ | ⟨y, _⟩ | ⟨y, _⟩
                    · exact H3 z3
                    · exact absurd (show k = 2 from y) (by omega)
                    · exact absurd (show k = 3 from y) (by omega)
                    · exact absurd (show k = 4 from y) (by omega)
                    · exact absurd (show k = 5 from y) (by omega)
                have hE2 := fun w => stampEq e f 0 0 w
                clear hD h1 h2 hk1 H0 H1 H2 H3
                go_enter Tryz.func83, Tryz.ntmps83
                go_wp2_with fail
                generalize hq : World.alloc w _ = w0
                have hb0 : Below w.heap.size w w0 := by rw [← hq]; exact below_new w _
                have hr0 : Below w0.heap.size w0 w0 := Below.refl _ _
                have hlt : w.heap.size < w0.heap.size := by rw [← hq]; simp
                have c0 : ∀ w', Below w0.heap.size w0 w' → w'.cell? ⟨w.heap.size, 0, none⟩ = some (.int .i64 k) := fun w' hb => by
                  rw [hb.cell (p := ⟨w.heap.size, 0, none⟩) hlt, ← hq]; simp
                have c1 : ∀ w', Below w0.heap.size w0 w' → w'.cell? ⟨w.heap.size, 1, none⟩ = some (.int .i64 a) := fun w' hb => by
                  rw [hb.cell (p := ⟨w.heap.size, 1, none⟩) hlt, ← hq]; simp
                have c2 : ∀ w', Below w0.heap.size w0 w' → w'.cell? ⟨w.heap.size, 2, none⟩ = some (.int .i64 b) := fun w' hb => by
                  rw [hb.cell (p := ⟨w.heap.size, 2, none⟩) hlt, ← hq]; simp
                have c3 : ∀ w', Below w0.heap.size w0 w' → w'.cell? ⟨w.heap.size, 3, none⟩ = some (.int .i64 c) := fun w' hb => by
                  rw [hb.cell (p := ⟨w.heap.size, 3, none⟩) hlt, ← hq]; simp
                have c4 : ∀ w', Below w0.heap.size w0 w' → w'.cell? ⟨w.heap.size, 4, none⟩ = some (.int .i64 d) := fun w' hb => by
                  rw [hb.cell (p := ⟨w.heap.size, 4, none⟩) hlt, ← hq]; simp
                have c5 : ∀ w', Below w0.heap.size w0 w' → w'.cell? ⟨w.heap.size, 5, none⟩ = some (.int .i64 e) := fun w' hb => by
                  rw [hb.cell (p := ⟨w.heap.size, 5, none⟩) hlt, ← hq]; simp
                have c6 : ∀ w', Below w0.heap.size w0 w' → w'.cell? ⟨w.heap.size, 6, none⟩ = some (.int .i64 f) := fun w' hb => by
                  rw [hb.cell (p := ⟨w.heap.size, 6, none⟩) hlt, ← hq]; simp
                have c7 : ∀ w', Below w0.heap.size w0 w' → w'.cell? ⟨w.heap.size, 7, none⟩ = some (.string s) := fun w' hb => by
                  rw [hb.cell (p := ⟨w.heap.size, 7, none⟩) hlt, ← hq]; simp
                have c8 : ∀ w', Below w0.heap.size w0 w' → w'.cell? ⟨w.heap.size, 8, none⟩ = some (.string t) := fun w' hb => by
                  rw [hb.cell (p := ⟨w.heap.size, 8, none⟩) hlt, ← hq]; simp
                have C1 : Hid (∀ w', Below w0.heap.size w0 w' → _) := fun w' hb => mayS_on (a, b) _ hA1 w0 w' hb
                have C2 : Hid (∀ w', Below w0.heap.size w0 w' → _) := fun w' hb => mayS_on (c, d) _ hA2 w0 w' hb
                have C3 : Hid (∀ w', Below w0.heap.size w0 w' → _) := fun w' hb => par_on (e, f) _ hA3 w0 w' hb
                have C4 : Hid (∀ w', Below w0.heap.size w0 w' → _) := fun w' hb => name_on s _ hA4 w0 w' hb hs
                clear hq hA1 hA2 hA3 hA4 hs
                refine (C1.out _ hr0).mono ?_
                rintro e1 w1 ⟨rfl, hb1⟩
                clear C1
                go_wp2_with (first
                  | (go_at_call 65; refine (C2.out _ (by assumption)).mono ?_; rintro e1 w2 ⟨rfl, hb2⟩)
                  | (go_at_call 80; refine (C3.out _ (by assumption)).mono ?_; rintro e1 w3 ⟨rfl, hb3⟩)
                  | (go_at_call 79; refine (C4.out _ (by assumption)).mono ?_; rintro e1 w4 ⟨rfl, hb4⟩))
                go_ret
                exact ⟨rfl, below_step hb0 (Nat.le_refl _) (by assumption)⟩
            · skip
              have hA4 : NameE s 80 := .inr ⟨rfl, H2⟩
              obtain rfl : D = false := by
                cases D with
                | false => rfl
                | true =>
                  exfalso
                  obtain ⟨x1, x2, x3⟩ := hD.1 rfl
                  rcases x3 with ⟨y, z0, z1, z2, z3⟩ | ⟨y, _⟩ | ⟨y, _⟩ | ⟨y, _⟩ | ⟨y, _⟩
                  · exact H2 z2
                  · exact absurd (show k = 2 from y) (by omega)
                  · exact absurd (show k = 3 from y) (by omega)
                  · exact absurd (show k = 4 from y) (by omega)
                  · exact absurd (show k = 5 from y) (by omega)
              have hE2 := fun w => stampEq e f 0 0 w
              clear hD h1 h2 hk1 H0 H1 H2
              go_enter Tryz.func83, Tryz.ntmps83
              go_wp2_with fail
              generalize hq : World.alloc w _ = w0
              have hb0 : Below w.heap.size w w0 := by rw [← hq]; exact below_new w _
              have hr0 : Below w0.heap.size w0 w0 := Below.refl _ _
              have hlt : w.heap.size < w0.heap.size := by rw [← hq]; simp
              have c0 : ∀ w', Below w0.heap.size w0 w' → w'.cell? ⟨w.heap.size, 0, none⟩ = some (.int .i64 k) := fun w' hb => by
                rw [hb.cell (p := ⟨w.heap.size, 0, none⟩) hlt, ← hq]; simp
              have c1 : ∀ w', Below w0.heap.size w0 w' → w'.cell? ⟨w.heap.size, 1, none⟩ = some (.int .i64 a) := fun w' hb => by
                rw [hb.cell (p := ⟨w.heap.size, 1, none⟩) hlt, ← hq]; simp
              have c2 : ∀ w', Below w0.heap.size w0 w' → w'.cell? ⟨w.heap.size, 2, none⟩ = some (.int .i64 b) := fun w' hb => by
                rw [hb.cell (p := ⟨w.heap.size, 2, none⟩) hlt, ← hq]; simp
              have c3 : ∀ w', Below w0.heap.size w0 w' → w'.cell? ⟨w.heap.size, 3, none⟩ = some (.int .i64 c) := fun w' hb => by
                rw [hb.cell (p := ⟨w.heap.size, 3, none⟩) hlt, ← hq]; simp
              have c4 : ∀ w', Below w0.heap.size w0 w' → w'.cell? ⟨w.heap.size, 4, none⟩ = some (.int .i64 d) := fun w' hb => by
                rw [hb.cell (p := ⟨w.heap.size, 4, none⟩) hlt, ← hq]; simp
              have c5 : ∀ w', Below w0.heap.size w0 w' → w'.cell? ⟨w.heap.size, 5, none⟩ = some (.int .i64 e) := fun w' hb => by
                rw [hb.cell (p := ⟨w.heap.size, 5, none⟩) hlt, ← hq]; simp
              have c6 : ∀ w', Below w0.heap.size w0 w' → w'.cell? ⟨w.heap.size, 6, none⟩ = some (.int .i64 f) := fun w' hb => by
                rw [hb.cell (p := ⟨w.heap.size, 6, none⟩) hlt, ← hq]; simp
              have c7 : ∀ w', Below w0.heap.size w0 w' → w'.cell? ⟨w.heap.size, 7, none⟩ = some (.string s) := fun w' hb => by
                rw [hb.cell (p := ⟨w.heap.size, 7, none⟩) hlt, ← hq]; simp
              have c8 : ∀ w', Below w0.heap.size w0 w' → w'.cell? ⟨w.heap.size, 8, none⟩ = some (.string t) := fun w' hb => by
                rw [hb.cell (p := ⟨w.heap.size, 8, none⟩) hlt, ← hq]; simp
              have C1 : Hid (∀ w', Below w0.heap.size w0 w' → _) := fun w' hb => mayS_on (a, b) _ hA1 w0 w' hb
              have C2 : Hid (∀ w', Below w0.heap.size w0 w' → _) := fun w' hb => mayS_on (c, d) _ hA2 w0 w' hb
              have C3 : Hid (∀ w', Below w0.heap.size w0 w' → _) := fun w' hb => par_on (e, f) _ hA3 w0 w' hb
              have C4 : Hid (∀ w', Below w0.heap.size w0 w' → _) := fun w' hb => name_on s _ hA4 w0 w' hb hs
              clear hq hA1 hA2 hA3 hA4 hs
              refine (C1.out _ hr0).mono ?_
              rintro e1 w1 ⟨rfl, hb1⟩
              clear C1
              go_wp2_with (first
                | (go_at_call 65; refine (C2.out _ (by assumption)).mono ?_; rintro e1 w2 ⟨rfl, hb2⟩)
                | (go_at_call 80; refine (C3.out _ (by assumption)).mono ?_; rintro e1 w3 ⟨rfl, hb3⟩)
                | (go_at_call 79; refine (C4.out _ (by assumption)).mono ?_; rintro e1 w4 ⟨rfl, hb4⟩))
              go_ret
              exact ⟨rfl, below_step hb0 (Nat.le_refl _) (by assumption)⟩
          · skip
            have hA3 : decide (ParS (e, f)) = false := decide_eq_false H1
            obtain rfl : D = false := by
              cases D with
              | false => rfl
              | true =>
                exfalso
                obtain ⟨x1, x2, x3⟩ := hD.1 rfl
                rcases x3 with ⟨y, z0, z1, z2, z3⟩ | ⟨y, _⟩ | ⟨y, _⟩ | ⟨y, _⟩ | ⟨y, _⟩
                · exact H1 z1
                · exact absurd (show k = 2 from y) (by omega)
                · exact absurd (show k = 3 from y) (by omega)
                · exact absurd (show k = 4 from y) (by omega)
                · exact absurd (show k = 5 from y) (by omega)
            obtain ⟨A4, hA4⟩ : ∃ x, NameE s x := nameX_is s
            have hE2 := fun w => stampEq e f 0 0 w
            clear hD h1 h2 hk1 H0 H1
            go_enter Tryz.func83, Tryz.ntmps83
            go_wp2_with fail
            generalize hq : World.alloc w _ = w0
            have hb0 : Below w.heap.size w w0 := by rw [← hq]; exact below_new w _
            have hr0 : Below w0.heap.size w0 w0 := Below.refl _ _
            have hlt : w.heap.size < w0.heap.size := by rw [← hq]; simp
            have c0 : ∀ w', Below w0.heap.size w0 w' → w'.cell? ⟨w.heap.size, 0, none⟩ = some (.int .i64 k) := fun w' hb => by
              rw [hb.cell (p := ⟨w.heap.size, 0, none⟩) hlt, ← hq]; simp
            have c1 : ∀ w', Below w0.heap.size w0 w' → w'.cell? ⟨w.heap.size, 1, none⟩ = some (.int .i64 a) := fun w' hb => by
              rw [hb.cell (p := ⟨w.heap.size, 1, none⟩) hlt, ← hq]; simp
            have c2 : ∀ w', Below w0.heap.size w0 w' → w'.cell? ⟨w.heap.size, 2, none⟩ = some (.int .i64 b) := fun w' hb => by
              rw [hb.cell (p := ⟨w.heap.size, 2, none⟩) hlt, ← hq]; simp
            have c3 : ∀ w', Below w0.heap.size w0 w' → w'.cell? ⟨w.heap.size, 3, none⟩ = some (.int .i64 c) := fun w' hb => by
              rw [hb.cell (p := ⟨w.heap.size, 3, none⟩) hlt, ← hq]; simp
            have c4 : ∀ w', Below w0.heap.size w0 w' → w'.cell? ⟨w.heap.size, 4, none⟩ = some (.int .i64 d) := fun w' hb => by
              rw [hb.cell (p := ⟨w.heap.size, 4, none⟩) hlt, ← hq]; simp
            have c5 : ∀ w', Below w0.heap.size w0 w' → w'.cell? ⟨w.heap.size, 5, none⟩ = some (.int .i64 e) := fun w' hb => by
              rw [hb.cell (p := ⟨w.heap.size, 5, none⟩) hlt, ← hq]; simp
            have c6 : ∀ w', Below w0.heap.size w0 w' → w'.cell? ⟨w.heap.size, 6, none⟩ = some (.int .i64 f) := fun w' hb => by
              rw [hb.cell (p := ⟨w.heap.size, 6, none⟩) hlt, ← hq]; simp
            have c7 : ∀ w', Below w0.heap.size w0 w' → w'.cell? ⟨w.heap.size, 7, none⟩ = some (.string s) := fun w' hb => by
              rw [hb.cell (p := ⟨w.heap.size, 7, none⟩) hlt, ← hq]; simp
            have c8 : ∀ w', Below w0.heap.size w0 w' → w'.cell? ⟨w.heap.size, 8, none⟩ = some (.string t) := fun w' hb => by
              rw [hb.cell (p := ⟨w.heap.size, 8, none⟩) hlt, ← hq]; simp
            have C1 : Hid (∀ w', Below w0.heap.size w0 w' → _) := fun w' hb => mayS_on (a, b) _ hA1 w0 w' hb
            have C2 : Hid (∀ w', Below w0.heap.size w0 w' → _) := fun w' hb => mayS_on (c, d) _ hA2 w0 w' hb
            have C3 : Hid (∀ w', Below w0.heap.size w0 w' → _) := fun w' hb => par_on (e, f) _ hA3 w0 w' hb
            have C4 : Hid (∀ w', Below w0.heap.size w0 w' → _) := fun w' hb => name_on s _ hA4 w0 w' hb hs
            clear hq hA1 hA2 hA3 hA4 hs
            refine (C1.out _ hr0).mono ?_
            rintro e1 w1 ⟨rfl, hb1⟩
            clear C1
            go_wp2_with (first
              | (go_at_call 65; refine (C2.out _ (by assumption)).mono ?_; rintro e1 w2 ⟨rfl, hb2⟩)
              | (go_at_call 80; refine (C3.out _ (by assumption)).mono ?_; rintro e1 w3 ⟨rfl, hb3⟩)
              | (go_at_call 79; refine (C4.out _ (by assumption)).mono ?_; rintro e1 w4 ⟨rfl, hb4⟩))
            go_ret
            exact ⟨rfl, below_step hb0 (Nat.le_refl _) (by assumption)⟩
        · skip
          have hE1 := fun w => stampEq_is (c, d) (a, b) false (decide_eq_false H0) w
          obtain rfl : D = false := by
            cases D with
            | false => rfl
            | true =>
              exfalso
              obtain ⟨x1, x2, x3⟩ := hD.1 rfl
              rcases x3 with ⟨y, z0, z1, z2, z3⟩ | ⟨y, _⟩ | ⟨y, _⟩ | ⟨y, _⟩ | ⟨y, _⟩
              · exact H0 z0
              · exact absurd (show k = 2 from y) (by omega)
              · exact absurd (show k = 3 from y) (by omega)
              · exact absurd (show k = 4 from y) (by omega)
              · exact absurd (show k = 5 from y) (by omega)
          obtain ⟨A3, hA3⟩ : ∃ A, decide (ParS (e, f)) = A := ⟨_, rfl⟩
          obtain ⟨A4, hA4⟩ : ∃ x, NameE s x := nameX_is s
          have hE2 := fun w => stampEq e f 0 0 w
          clear hD h1 h2 hk1 H0
          go_enter Tryz.func83, Tryz.ntmps83
          go_wp2_with fail
          generalize hq : World.alloc w _ = w0
          have hb0 : Below w.heap.size w w0 := by rw [← hq]; exact below_new w _
          have hr0 : Below w0.heap.size w0 w0 := Below.refl _ _
          have hlt : w.heap.size < w0.heap.size := by rw [← hq]; simp
          have c0 : ∀ w', Below w0.heap.size w0 w' → w'.cell? ⟨w.heap.size, 0, none⟩ = some (.int .i64 k) := fun w' hb => by
            rw [hb.cell (p := ⟨w.heap.size, 0, none⟩) hlt, ← hq]; simp
          have c1 : ∀ w', Below w0.heap.size w0 w' → w'.cell? ⟨w.heap.size, 1, none⟩ = some (.int .i64 a) := fun w' hb => by
            rw [hb.cell (p := ⟨w.heap.size, 1, none⟩) hlt, ← hq]; simp
          have c2 : ∀ w', Below w0.heap.size w0 w' → w'.cell? ⟨w.heap.size, 2, none⟩ = some (.int .i64 b) := fun w' hb => by
            rw [hb.cell (p := ⟨w.heap.size, 2, none⟩) hlt, ← hq]; simp
          have c3 : ∀ w', Below w0.heap.size w0 w' → w'.cell? ⟨w.heap.size, 3, none⟩ = some (.int .i64 c) := fun w' hb => by
            rw [hb.cell (p := ⟨w.heap.size, 3, none⟩) hlt, ← hq]; simp
          have c4 : ∀ w', Below w0.heap.size w0 w' → w'.cell? ⟨w.heap.size, 4, none⟩ = some (.int .i64 d) := fun w' hb => by
            rw [hb.cell (p := ⟨w.heap.size, 4, none⟩) hlt, ← hq]; simp
          have c5 : ∀ w', Below w0.heap.size w0 w' → w'.cell? ⟨w.heap.size, 5, none⟩ = some (.int .i64 e) := fun w' hb => by
            rw [hb.cell (p := ⟨w.heap.size, 5, none⟩) hlt, ← hq]; simp
          have c6 : ∀ w', Below w0.heap.size w0 w' → w'.cell? ⟨w.heap.size, 6, none⟩ = some (.int .i64 f) := fun w' hb => by
            rw [hb.cell (p := ⟨w.heap.size, 6, none⟩) hlt, ← hq]; simp
          have c7 : ∀ w', Below w0.heap.size w0 w' → w'.cell? ⟨w.heap.size, 7, none⟩ = some (.string s) := fun w' hb => by
            rw [hb.cell (p := ⟨w.heap.size, 7, none⟩) hlt, ← hq]; simp
          have c8 : ∀ w', Below w0.heap.size w0 w' → w'.cell? ⟨w.heap.size, 8, none⟩ = some (.string t) := fun w' hb => by
            rw [hb.cell (p := ⟨w.heap.size, 8, none⟩) hlt, ← hq]; simp
          have C1 : Hid (∀ w', Below w0.heap.size w0 w' → _) := fun w' hb => mayS_on (a, b) _ hA1 w0 w' hb
          have C2 : Hid (∀ w', Below w0.heap.size w0 w' → _) := fun w' hb => mayS_on (c, d) _ hA2 w0 w' hb
          have C3 : Hid (∀ w', Below w0.heap.size w0 w' → _) := fun w' hb => par_on (e, f) _ hA3 w0 w' hb
          have C4 : Hid (∀ w', Below w0.heap.size w0 w' → _) := fun w' hb => name_on s _ hA4 w0 w' hb hs
          clear hq hA1 hA2 hA3 hA4 hs
          refine (C1.out _ hr0).mono ?_
          rintro e1 w1 ⟨rfl, hb1⟩
          clear C1
          go_wp2_with (first
            | (go_at_call 65; refine (C2.out _ (by assumption)).mono ?_; rintro e1 w2 ⟨rfl, hb2⟩)
            | (go_at_call 80; refine (C3.out _ (by assumption)).mono ?_; rintro e1 w3 ⟨rfl, hb3⟩)
            | (go_at_call 79; refine (C4.out _ (by assumption)).mono ?_; rintro e1 w4 ⟨rfl, hb4⟩))
          go_ret
          exact ⟨rfl, below_step hb0 (Nat.le_refl _) (by assumption)⟩
      · skip
        have gk1 : (k == 1) = false := by rw [beq_eq_false_iff_ne]; exact hk1
        by_cases hk2 : k = 2
        · skip
          have gk : (k == 2) = true := by rw [beq_iff_eq]; exact hk2
          by_cases H0 : ParS (e, f)
          · skip
            have hA3 : decide (ParS (e, f)) = true := decide_eq_true H0
            by_cases H1 : s.size = 0
            · skip
              have gs := isE_yes s H1
              by_cases H2 : t.size = 0
              · skip
                have gt := isE_yes t H2
                obtain rfl : D = true := hD.2 ⟨h1, h2, .inr (.inl ⟨hk2, H0, H1, H2⟩)⟩
                obtain ⟨A4, hA4⟩ : ∃ x, NameE s x := nameX_is s
                have hE2 := fun w => stampEq e f 0 0 w
                clear hD h1 h2 hk1 hk2 H0 H1 H2
                go_enter Tryz.func83, Tryz.ntmps83
                go_wp2_with fail
                generalize hq : World.alloc w _ = w0
                have hb0 : Below w.heap.size w w0 := by rw [← hq]; exact below_new w _
                have hr0 : Below w0.heap.size w0 w0 := Below.refl _ _
                have hlt : w.heap.size < w0.heap.size := by rw [← hq]; simp
                have c0 : ∀ w', Below w0.heap.size w0 w' → w'.cell? ⟨w.heap.size, 0, none⟩ = some (.int .i64 k) := fun w' hb => by
                  rw [hb.cell (p := ⟨w.heap.size, 0, none⟩) hlt, ← hq]; simp
                have c1 : ∀ w', Below w0.heap.size w0 w' → w'.cell? ⟨w.heap.size, 1, none⟩ = some (.int .i64 a) := fun w' hb => by
                  rw [hb.cell (p := ⟨w.heap.size, 1, none⟩) hlt, ← hq]; simp
                have c2 : ∀ w', Below w0.heap.size w0 w' → w'.cell? ⟨w.heap.size, 2, none⟩ = some (.int .i64 b) := fun w' hb => by
                  rw [hb.cell (p := ⟨w.heap.size, 2, none⟩) hlt, ← hq]; simp
                have c3 : ∀ w', Below w0.heap.size w0 w' → w'.cell? ⟨w.heap.size, 3, none⟩ = some (.int .i64 c) := fun w' hb => by
                  rw [hb.cell (p := ⟨w.heap.size, 3, none⟩) hlt, ← hq]; simp
                have c4 : ∀ w', Below w0.heap.size w0 w' → w'.cell? ⟨w.heap.size, 4, none⟩ = some (.int .i64 d) := fun w' hb => by
                  rw [hb.cell (p := ⟨w.heap.size, 4, none⟩) hlt, ← hq]; simp
                have c5 : ∀ w', Below w0.heap.size w0 w' → w'.cell? ⟨w.heap.size, 5, none⟩ = some (.int .i64 e) := fun w' hb => by
                  rw [hb.cell (p := ⟨w.heap.size, 5, none⟩) hlt, ← hq]; simp
                have c6 : ∀ w', Below w0.heap.size w0 w' → w'.cell? ⟨w.heap.size, 6, none⟩ = some (.int .i64 f) := fun w' hb => by
                  rw [hb.cell (p := ⟨w.heap.size, 6, none⟩) hlt, ← hq]; simp
                have c7 : ∀ w', Below w0.heap.size w0 w' → w'.cell? ⟨w.heap.size, 7, none⟩ = some (.string s) := fun w' hb => by
                  rw [hb.cell (p := ⟨w.heap.size, 7, none⟩) hlt, ← hq]; simp
                have c8 : ∀ w', Below w0.heap.size w0 w' → w'.cell? ⟨w.heap.size, 8, none⟩ = some (.string t) := fun w' hb => by
                  rw [hb.cell (p := ⟨w.heap.size, 8, none⟩) hlt, ← hq]; simp
                have C1 : Hid (∀ w', Below w0.heap.size w0 w' → _) := fun w' hb => mayS_on (a, b) _ hA1 w0 w' hb
                have C2 : Hid (∀ w', Below w0.heap.size w0 w' → _) := fun w' hb => mayS_on (c, d) _ hA2 w0 w' hb
                have C3 : Hid (∀ w', Below w0.heap.size w0 w' → _) := fun w' hb => par_on (e, f) _ hA3 w0 w' hb
                have C4 : Hid (∀ w', Below w0.heap.size w0 w' → _) := fun w' hb => name_on s _ hA4 w0 w' hb hs
                clear hq hA1 hA2 hA3 hA4 hs
                refine (C1.out _ hr0).mono ?_
                rintro e1 w1 ⟨rfl, hb1⟩
                clear C1
                go_wp2_with (first
                  | (go_at_call 65; refine (C2.out _ (by assumption)).mono ?_; rintro e1 w2 ⟨rfl, hb2⟩)
                  | (go_at_call 80; refine (C3.out _ (by assumption)).mono ?_; rintro e1 w3 ⟨rfl, hb3⟩)
                  | (go_at_call 79; refine (C4.out _ (by assumption)).mono ?_; rintro e1 w4 ⟨rfl, hb4⟩))
                go_ret
                exact ⟨rfl, below_step hb0 (Nat.le_refl _) (by assumption)⟩
              · skip
                have gt := isE_no t H2
                obtain rfl : D = false := by
                  cases D with
                  | false => rfl
                  | true =>
                    exfalso
                    obtain ⟨x1, x2, x3⟩ := hD.1 rfl
                    rcases x3 with ⟨y, _⟩ | ⟨y, z0, z1, z2⟩ | ⟨y, _⟩ | ⟨y, _⟩ | ⟨y, _⟩
                    · exact absurd (show k = 1 from y) (by omega)
                    · exact H2 z2
                    · exact absurd (show k = 3 from y) (by omega)
                    · exact absurd (show k = 4 from y) (by omega)
                    · exact absurd (show k = 5 from y) (by omega)
                obtain ⟨A4, hA4⟩ : ∃ x, NameE s x := nameX_is s
                have hE2 := fun w => stampEq e f 0 0 w
                clear hD h1 h2 hk1 hk2 H0 H1 H2
                go_enter Tryz.func83, Tryz.ntmps83
                go_wp2_with fail
                generalize hq : World.alloc w _ = w0
                have hb0 : Below w.heap.size w w0 := by rw [← hq]; exact below_new w _
                have hr0 : Below w0.heap.size w0 w0 := Below.refl _ _
                have hlt : w.heap.size < w0.heap.size := by rw [← hq]; simp
                have c0 : ∀ w', Below w0.heap.size w0 w' → w'.cell? ⟨w.heap.size, 0, none⟩ = some (.int .i64 k) := fun w' hb => by
                  rw [hb.cell (p := ⟨w.heap.size, 0, none⟩) hlt, ← hq]; simp
                have c1 : ∀ w', Below w0.heap.size w0 w' → w'.cell? ⟨w.heap.size, 1, none⟩ = some (.int .i64 a) := fun w' hb => by
                  rw [hb.cell (p := ⟨w.heap.size, 1, none⟩) hlt, ← hq]; simp
                have c2 : ∀ w', Below w0.heap.size w0 w' → w'.cell? ⟨w.heap.size, 2, none⟩ = some (.int .i64 b) := fun w' hb => by
                  rw [hb.cell (p := ⟨w.heap.size, 2, none⟩) hlt, ← hq]; simp
                have c3 : ∀ w', Below w0.heap.size w0 w' → w'.cell? ⟨w.heap.size, 3, none⟩ = some (.int .i64 c) := fun w' hb => by
                  rw [hb.cell (p := ⟨w.heap.size, 3, none⟩) hlt, ← hq]; simp
                have c4 : ∀ w', Below w0.heap.size w0 w' → w'.cell? ⟨w.heap.size, 4, none⟩ = some (.int .i64 d) := fun w' hb => by
                  rw [hb.cell (p := ⟨w.heap.size, 4, none⟩) hlt, ← hq]; simp
                have c5 : ∀ w', Below w0.heap.size w0 w' → w'.cell? ⟨w.heap.size, 5, none⟩ = some (.int .i64 e) := fun w' hb => by
                  rw [hb.cell (p := ⟨w.heap.size, 5, none⟩) hlt, ← hq]; simp
                have c6 : ∀ w', Below w0.heap.size w0 w' → w'.cell? ⟨w.heap.size, 6, none⟩ = some (.int .i64 f) := fun w' hb => by
                  rw [hb.cell (p := ⟨w.heap.size, 6, none⟩) hlt, ← hq]; simp
                have c7 : ∀ w', Below w0.heap.size w0 w' → w'.cell? ⟨w.heap.size, 7, none⟩ = some (.string s) := fun w' hb => by
                  rw [hb.cell (p := ⟨w.heap.size, 7, none⟩) hlt, ← hq]; simp
                have c8 : ∀ w', Below w0.heap.size w0 w' → w'.cell? ⟨w.heap.size, 8, none⟩ = some (.string t) := fun w' hb => by
                  rw [hb.cell (p := ⟨w.heap.size, 8, none⟩) hlt, ← hq]; simp
                have C1 : Hid (∀ w', Below w0.heap.size w0 w' → _) := fun w' hb => mayS_on (a, b) _ hA1 w0 w' hb
                have C2 : Hid (∀ w', Below w0.heap.size w0 w' → _) := fun w' hb => mayS_on (c, d) _ hA2 w0 w' hb
                have C3 : Hid (∀ w', Below w0.heap.size w0 w' → _) := fun w' hb => par_on (e, f) _ hA3 w0 w' hb
                have C4 : Hid (∀ w', Below w0.heap.size w0 w' → _) := fun w' hb => name_on s _ hA4 w0 w' hb hs
                clear hq hA1 hA2 hA3 hA4 hs
                refine (C1.out _ hr0).mono ?_
                rintro e1 w1 ⟨rfl, hb1⟩
                clear C1
                go_wp2_with (first
                  | (go_at_call 65; refine (C2.out _ (by assumption)).mono ?_; rintro e1 w2 ⟨rfl, hb2⟩)
                  | (go_at_call 80; refine (C3.out _ (by assumption)).mono ?_; rintro e1 w3 ⟨rfl, hb3⟩)
                  | (go_at_call 79; refine (C4.out _ (by assumption)).mono ?_; rintro e1 w4 ⟨rfl, hb4⟩))
                go_ret
                exact ⟨rfl, below_step hb0 (Nat.le_refl _) (by assumption)⟩
            · skip
              have gs := isE_no s H1
              obtain rfl : D = false := by
                cases D with
                | false => rfl
                | true =>
                  exfalso
                  obtain ⟨x1, x2, x3⟩ := hD.1 rfl
                  rcases x3 with ⟨y, _⟩ | ⟨y, z0, z1, z2⟩ | ⟨y, _⟩ | ⟨y, _⟩ | ⟨y, _⟩
                  · exact absurd (show k = 1 from y) (by omega)
                  · exact H1 z1
                  · exact absurd (show k = 3 from y) (by omega)
                  · exact absurd (show k = 4 from y) (by omega)
                  · exact absurd (show k = 5 from y) (by omega)
              obtain ⟨A4, hA4⟩ : ∃ x, NameE s x := nameX_is s
              have hE2 := fun w => stampEq e f 0 0 w
              clear hD h1 h2 hk1 hk2 H0 H1
              go_enter Tryz.func83, Tryz.ntmps83
              go_wp2_with fail
              generalize hq : World.alloc w _ = w0
              have hb0 : Below w.heap.size w w0 := by rw [← hq]; exact below_new w _
              have hr0 : Below w0.heap.size w0 w0 := Below.refl _ _
              have hlt : w.heap.size < w0.heap.size := by rw [← hq]; simp
              have c0 : ∀ w', Below w0.heap.size w0 w' → w'.cell? ⟨w.heap.size, 0, none⟩ = some (.int .i64 k) := fun w' hb => by
                rw [hb.cell (p := ⟨w.heap.size, 0, none⟩) hlt, ← hq]; simp
              have c1 : ∀ w', Below w0.heap.size w0 w' → w'.cell? ⟨w.heap.size, 1, none⟩ = some (.int .i64 a) := fun w' hb => by
                rw [hb.cell (p := ⟨w.heap.size, 1, none⟩) hlt, ← hq]; simp
              have c2 : ∀ w', Below w0.heap.size w0 w' → w'.cell? ⟨w.heap.size, 2, none⟩ = some (.int .i64 b) := fun w' hb => by
                rw [hb.cell (p := ⟨w.heap.size, 2, none⟩) hlt, ← hq]; simp
              have c3 : ∀ w', Below w0.heap.size w0 w' → w'.cell? ⟨w.heap.size, 3, none⟩ = some (.int .i64 c) := fun w' hb => by
                rw [hb.cell (p := ⟨w.heap.size, 3, none⟩) hlt, ← hq]; simp
              have c4 : ∀ w', Below w0.heap.size w0 w' → w'.cell? ⟨w.heap.size, 4, none⟩ = some (.int .i64 d) := fun w' hb => by
                rw [hb.cell (p := ⟨w.heap.size, 4, none⟩) hlt, ← hq]; simp
              have c5 : ∀ w', Below w0.heap.size w0 w' → w'.cell? ⟨w.heap.size, 5, none⟩ = some (.int .i64 e) := fun w' hb => by
                rw [hb.cell (p := ⟨w.heap.size, 5, none⟩) hlt, ← hq]; simp
              have c6 : ∀ w', Below w0.heap.size w0 w' → w'.cell? ⟨w.heap.size, 6, none⟩ = some (.int .i64 f) := fun w' hb => by
                rw [hb.cell (p := ⟨w.heap.size, 6, none⟩) hlt, ← hq]; simp
              have c7 : ∀ w', Below w0.heap.size w0 w' → w'.cell? ⟨w.heap.size, 7, none⟩ = some (.string s) := fun w' hb => by
                rw [hb.cell (p := ⟨w.heap.size, 7, none⟩) hlt, ← hq]; simp
              have c8 : ∀ w', Below w0.heap.size w0 w' → w'.cell? ⟨w.heap.size, 8, none⟩ = some (.string t) := fun w' hb => by
                rw [hb.cell (p := ⟨w.heap.size, 8, none⟩) hlt, ← hq]; simp
              have C1 : Hid (∀ w', Below w0.heap.size w0 w' → _) := fun w' hb => mayS_on (a, b) _ hA1 w0 w' hb
              have C2 : Hid (∀ w', Below w0.heap.size w0 w' → _) := fun w' hb => mayS_on (c, d) _ hA2 w0 w' hb
              have C3 : Hid (∀ w', Below w0.heap.size w0 w' → _) := fun w' hb => par_on (e, f) _ hA3 w0 w' hb
              have C4 : Hid (∀ w', Below w0.heap.size w0 w' → _) := fun w' hb => name_on s _ hA4 w0 w' hb hs
              clear hq hA1 hA2 hA3 hA4 hs
              refine (C1.out _ hr0).mono ?_
              rintro e1 w1 ⟨rfl, hb1⟩
              clear C1
              go_wp2_with (first
                | (go_at_call 65; refine (C2.out _ (by assumption)).mono ?_; rintro e1 w2 ⟨rfl, hb2⟩)
                | (go_at_call 80; refine (C3.out _ (by assumption)).mono ?_; rintro e1 w3 ⟨rfl, hb3⟩)
                | (go_at_call 79; refine (C4.out _ (by assumption)).mono ?_; rintro e1 w4 ⟨rfl, hb4⟩))
              go_ret
              exact ⟨rfl, below_step hb0 (Nat.le_refl _) (by assumption)⟩
          · skip
            have hA3 : decide (ParS (e, f)) = false := decide_eq_false H0
            obtain rfl : D = false := by
              cases D with
              | false => rfl
              | true =>
                exfalso
                obtain ⟨x1, x2, x3⟩ := hD.1 rfl
                rcases x3 with ⟨y, _⟩ | ⟨y, z0, z1, z2⟩ | ⟨y, _⟩ | ⟨y, _⟩ | ⟨y, _⟩
                · exact absurd (show k = 1 from y) (by omega)
                · exact H0 z0
                · exact absurd (show k = 3 from y) (by omega)
                · exact absurd (show k = 4 from y) (by omega)
                · exact absurd (show k = 5 from y) (by omega)
            obtain ⟨A4, hA4⟩ : ∃ x, NameE s x := nameX_is s
            have hE2 := fun w => stampEq e f 0 0 w
            clear hD h1 h2 hk1 hk2 H0
            go_enter Tryz.func83, Tryz.ntmps83
            go_wp2_with fail
            generalize hq : World.alloc w _ = w0
            have hb0 : Below w.heap.size w w0 := by rw [← hq]; exact below_new w _
            have hr0 : Below w0.heap.size w0 w0 := Below.refl _ _
            have hlt : w.heap.size < w0.heap.size := by rw [← hq]; simp
            have c0 : ∀ w', Below w0.heap.size w0 w' → w'.cell? ⟨w.heap.size, 0, none⟩ = some (.int .i64 k) := fun w' hb => by
              rw [hb.cell (p := ⟨w.heap.size, 0, none⟩) hlt, ← hq]; simp
            have c1 : ∀ w', Below w0.heap.size w0 w' → w'.cell? ⟨w.heap.size, 1, none⟩ = some (.int .i64 a) := fun w' hb => by
              rw [hb.cell (p := ⟨w.heap.size, 1, none⟩) hlt, ← hq]; simp
            have c2 : ∀ w', Below w0.heap.size w0 w' → w'.cell? ⟨w.heap.size, 2, none⟩ = some (.int .i64 b) := fun w' hb => by
              rw [hb.cell (p := ⟨w.heap.size, 2, none⟩) hlt, ← hq]; simp
            have c3 : ∀ w', Below w0.heap.size w0 w' → w'.cell? ⟨w.heap.size, 3, none⟩ = some (.int .i64 c) := fun w' hb => by
              rw [hb.cell (p := ⟨w.heap.size, 3, none⟩) hlt, ← hq]; simp
            have c4 : ∀ w', Below w0.heap.size w0 w' → w'.cell? ⟨w.heap.size, 4, none⟩ = some (.int .i64 d) := fun w' hb => by
              rw [hb.cell (p := ⟨w.heap.size, 4, none⟩) hlt, ← hq]; simp
            have c5 : ∀ w', Below w0.heap.size w0 w' → w'.cell? ⟨w.heap.size, 5, none⟩ = some (.int .i64 e) := fun w' hb => by
              rw [hb.cell (p := ⟨w.heap.size, 5, none⟩) hlt, ← hq]; simp
            have c6 : ∀ w', Below w0.heap.size w0 w' → w'.cell? ⟨w.heap.size, 6, none⟩ = some (.int .i64 f) := fun w' hb => by
              rw [hb.cell (p := ⟨w.heap.size, 6, none⟩) hlt, ← hq]; simp
            have c7 : ∀ w', Below w0.heap.size w0 w' → w'.cell? ⟨w.heap.size, 7, none⟩ = some (.string s) := fun w' hb => by
              rw [hb.cell (p := ⟨w.heap.size, 7, none⟩) hlt, ← hq]; simp
            have c8 : ∀ w', Below w0.heap.size w0 w' → w'.cell? ⟨w.heap.size, 8, none⟩ = some (.string t) := fun w' hb => by
              rw [hb.cell (p := ⟨w.heap.size, 8, none⟩) hlt, ← hq]; simp
            have C1 : Hid (∀ w', Below w0.heap.size w0 w' → _) := fun w' hb => mayS_on (a, b) _ hA1 w0 w' hb
            have C2 : Hid (∀ w', Below w0.heap.size w0 w' → _) := fun w' hb => mayS_on (c, d) _ hA2 w0 w' hb
            have C3 : Hid (∀ w', Below w0.heap.size w0 w' → _) := fun w' hb => par_on (e, f) _ hA3 w0 w' hb
            have C4 : Hid (∀ w', Below w0.heap.size w0 w' → _) := fun w' hb => name_on s _ hA4 w0 w' hb hs
            clear hq hA1 hA2 hA3 hA4 hs
            refine (C1.out _ hr0).mono ?_
            rintro e1 w1 ⟨rfl, hb1⟩
            clear C1
            go_wp2_with (first
              | (go_at_call 65; refine (C2.out _ (by assumption)).mono ?_; rintro e1 w2 ⟨rfl, hb2⟩)
              | (go_at_call 80; refine (C3.out _ (by assumption)).mono ?_; rintro e1 w3 ⟨rfl, hb3⟩)
              | (go_at_call 79; refine (C4.out _ (by assumption)).mono ?_; rintro e1 w4 ⟨rfl, hb4⟩))
            go_ret
            exact ⟨rfl, below_step hb0 (Nat.le_refl _) (by assumption)⟩
        · skip
          have gk2 : (k == 2) = false := by rw [beq_eq_false_iff_ne]; exact hk2
          by_cases hk3 : k = 3
          · skip
            have gk : (k == 3) = true := by rw [beq_iff_eq]; exact hk3
            by_cases H0 : (e, f) = (0, 0)
            · skip
              have hE2 := fun w => stampEq_is (e, f) (0, 0) true (decide_eq_true H0) w
              by_cases H1 : NameP s
              · skip
                have hA4 : NameE s 0 := .inl ⟨rfl, H1⟩
                by_cases H2 : t.size = 0
                · skip
                  have gt := isE_yes t H2
                  obtain rfl : D = true := hD.2 ⟨h1, h2, .inr (.inr (.inl ⟨hk3, H0, H1, H2⟩))⟩
                  obtain ⟨A3, hA3⟩ : ∃ A, decide (ParS (e, f)) = A := ⟨_, rfl⟩
                  clear hD h1 h2 hk1 hk2 hk3 H0 H1 H2
                  go_enter Tryz.func83, Tryz.ntmps83
                  go_wp2_with fail
                  generalize hq : World.alloc w _ = w0
                  have hb0 : Below w.heap.size w w0 := by rw [← hq]; exact below_new w _
                  have hr0 : Below w0.heap.size w0 w0 := Below.refl _ _
                  have hlt : w.heap.size < w0.heap.size := by rw [← hq]; simp
                  have c0 : ∀ w', Below w0.heap.size w0 w' → w'.cell? ⟨w.heap.size, 0, none⟩ = some (.int .i64 k) := fun w' hb => by
                    rw [hb.cell (p := ⟨w.heap.size, 0, none⟩) hlt, ← hq]; simp
                  have c1 : ∀ w', Below w0.heap.size w0 w' → w'.cell? ⟨w.heap.size, 1, none⟩ = some (.int .i64 a) := fun w' hb => by
                    rw [hb.cell (p := ⟨w.heap.size, 1, none⟩) hlt, ← hq]; simp
                  have c2 : ∀ w', Below w0.heap.size w0 w' → w'.cell? ⟨w.heap.size, 2, none⟩ = some (.int .i64 b) := fun w' hb => by
                    rw [hb.cell (p := ⟨w.heap.size, 2, none⟩) hlt, ← hq]; simp
                  have c3 : ∀ w', Below w0.heap.size w0 w' → w'.cell? ⟨w.heap.size, 3, none⟩ = some (.int .i64 c) := fun w' hb => by
                    rw [hb.cell (p := ⟨w.heap.size, 3, none⟩) hlt, ← hq]; simp
                  have c4 : ∀ w', Below w0.heap.size w0 w' → w'.cell? ⟨w.heap.size, 4, none⟩ = some (.int .i64 d) := fun w' hb => by
                    rw [hb.cell (p := ⟨w.heap.size, 4, none⟩) hlt, ← hq]; simp
                  have c5 : ∀ w', Below w0.heap.size w0 w' → w'.cell? ⟨w.heap.size, 5, none⟩ = some (.int .i64 e) := fun w' hb => by
                    rw [hb.cell (p := ⟨w.heap.size, 5, none⟩) hlt, ← hq]; simp
                  have c6 : ∀ w', Below w0.heap.size w0 w' → w'.cell? ⟨w.heap.size, 6, none⟩ = some (.int .i64 f) := fun w' hb => by
                    rw [hb.cell (p := ⟨w.heap.size, 6, none⟩) hlt, ← hq]; simp
                  have c7 : ∀ w', Below w0.heap.size w0 w' → w'.cell? ⟨w.heap.size, 7, none⟩ = some (.string s) := fun w' hb => by
                    rw [hb.cell (p := ⟨w.heap.size, 7, none⟩) hlt, ← hq]; simp
                  have c8 : ∀ w', Below w0.heap.size w0 w' → w'.cell? ⟨w.heap.size, 8, none⟩ = some (.string t) := fun w' hb => by
                    rw [hb.cell (p := ⟨w.heap.size, 8, none⟩) hlt, ← hq]; simp
                  have C1 : Hid (∀ w', Below w0.heap.size w0 w' → _) := fun w' hb => mayS_on (a, b) _ hA1 w0 w' hb
                  have C2 : Hid (∀ w', Below w0.heap.size w0 w' → _) := fun w' hb => mayS_on (c, d) _ hA2 w0 w' hb
                  have C3 : Hid (∀ w', Below w0.heap.size w0 w' → _) := fun w' hb => par_on (e, f) _ hA3 w0 w' hb
                  have C4 : Hid (∀ w', Below w0.heap.size w0 w' → _) := fun w' hb => name_on s _ hA4 w0 w' hb hs
                  clear hq hA1 hA2 hA3 hA4 hs
                  refine (C1.out _ hr0).mono ?_
                  rintro e1 w1 ⟨rfl, hb1⟩
                  clear C1
                  go_wp2_with (first
                    | (go_at_call 65; refine (C2.out _ (by assumption)).mono ?_; rintro e1 w2 ⟨rfl, hb2⟩)
                    | (go_at_call 80; refine (C3.out _ (by assumption)).mono ?_; rintro e1 w3 ⟨rfl, hb3⟩)
                    | (go_at_call 79; refine (C4.out _ (by assumption)).mono ?_; rintro e1 w4 ⟨rfl, hb4⟩))
                  go_ret
                  exact ⟨rfl, below_step hb0 (Nat.le_refl _) (by assumption)⟩
                · skip
                  have gt := isE_no t H2
                  obtain rfl : D = false := by
                    cases D with
                    | false => rfl
                    | true =>
                      exfalso
                      obtain ⟨x1, x2, x3⟩ := hD.1 rfl
                      rcases x3 with ⟨y, _⟩ | ⟨y, _⟩ | ⟨y, z0, z1, z2⟩ | ⟨y, _⟩ | ⟨y, _⟩
                      · exact absurd (show k = 1 from y) (by omega)
                      · exact absurd (show k = 2 from y) (by omega)
                      · exact H2 z2
                      · exact absurd (show k = 4 from y) (by omega)
                      · exact absurd (show k = 5 from y) (by omega)
                  obtain ⟨A3, hA3⟩ : ∃ A, decide (ParS (e, f)) = A := ⟨_, rfl⟩
                  clear hD h1 h2 hk1 hk2 hk3 H0 H1 H2
                  go_enter Tryz.func83, Tryz.ntmps83
                  go_wp2_with fail
                  generalize hq : World.alloc w _ = w0
                  have hb0 : Below w.heap.size w w0 := by rw [← hq]; exact below_new w _
                  have hr0 : Below w0.heap.size w0 w0 := Below.refl _ _
                  have hlt : w.heap.size < w0.heap.size := by rw [← hq]; simp
                  have c0 : ∀ w', Below w0.heap.size w0 w' → w'.cell? ⟨w.heap.size, 0, none⟩ = some (.int .i64 k) := fun w' hb => by
                    rw [hb.cell (p := ⟨w.heap.size, 0, none⟩) hlt, ← hq]; simp
                  have c1 : ∀ w', Below w0.heap.size w0 w' → w'.cell? ⟨w.heap.size, 1, none⟩ = some (.int .i64 a) := fun w' hb => by
                    rw [hb.cell (p := ⟨w.heap.size, 1, none⟩) hlt, ← hq]; simp
                  have c2 : ∀ w', Below w0.heap.size w0 w' → w'.cell? ⟨w.heap.size, 2, none⟩ = some (.int .i64 b) := fun w' hb => by
                    rw [hb.cell (p := ⟨w.heap.size, 2, none⟩) hlt, ← hq]; simp
                  have c3 : ∀ w', Below w0.heap.size w0 w' → w'.cell? ⟨w.heap.size, 3, none⟩ = some (.int .i64 c) := fun w' hb => by
                    rw [hb.cell (p := ⟨w.heap.size, 3, none⟩) hlt, ← hq]; simp
                  have c4 : ∀ w', Below w0.heap.size w0 w' → w'.cell? ⟨w.heap.size, 4, none⟩ = some (.int .i64 d) := fun w' hb => by
                    rw [hb.cell (p := ⟨w.heap.size, 4, none⟩) hlt, ← hq]; simp
                  have c5 : ∀ w', Below w0.heap.size w0 w' → w'.cell? ⟨w.heap.size, 5, none⟩ = some (.int .i64 e) := fun w' hb => by
                    rw [hb.cell (p := ⟨w.heap.size, 5, none⟩) hlt, ← hq]; simp
                  have c6 : ∀ w', Below w0.heap.size w0 w' → w'.cell? ⟨w.heap.size, 6, none⟩ = some (.int .i64 f) := fun w' hb => by
                    rw [hb.cell (p := ⟨w.heap.size, 6, none⟩) hlt, ← hq]; simp
                  have c7 : ∀ w', Below w0.heap.size w0 w' → w'.cell? ⟨w.heap.size, 7, none⟩ = some (.string s) := fun w' hb => by
                    rw [hb.cell (p := ⟨w.heap.size, 7, none⟩) hlt, ← hq]; simp
                  have c8 : ∀ w', Below w0.heap.size w0 w' → w'.cell? ⟨w.heap.size, 8, none⟩ = some (.string t) := fun w' hb => by
                    rw [hb.cell (p := ⟨w.heap.size, 8, none⟩) hlt, ← hq]; simp
                  have C1 : Hid (∀ w', Below w0.heap.size w0 w' → _) := fun w' hb => mayS_on (a, b) _ hA1 w0 w' hb
                  have C2 : Hid (∀ w', Below w0.heap.size w0 w' → _) := fun w' hb => mayS_on (c, d) _ hA2 w0 w' hb
                  have C3 : Hid (∀ w', Below w0.heap.size w0 w' → _) := fun w' hb => par_on (e, f) _ hA3 w0 w' hb
                  have C4 : Hid (∀ w', Below w0.heap.size w0 w' → _) := fun w' hb => name_on s _ hA4 w0 w' hb hs
                  clear hq hA1 hA2 hA3 hA4 hs
                  refine (C1.out _ hr0).mono ?_
                  rintro e1 w1 ⟨rfl, hb1⟩
                  clear C1
                  go_wp2_with (first
                    | (go_at_call 65; refine (C2.out _ (by assumption)).mono ?_; rintro e1 w2 ⟨rfl, hb2⟩)
                    | (go_at_call 80; refine (C3.out _ (by assumption)).mono ?_; rintro e1 w3 ⟨rfl, hb3⟩)
                    | (go_at_call 79; refine (C4.out _ (by assumption)).mono ?_; rintro e1 w4 ⟨rfl, hb4⟩))
                  go_ret
                  exact ⟨rfl, below_step hb0 (Nat.le_refl _) (by assumption)⟩
              · skip
                have hA4 : NameE s 80 := .inr ⟨rfl, H1⟩
                obtain rfl : D = false := by
                  cases D with
                  | false => rfl
                  | true =>
                    exfalso
                    obtain ⟨x1, x2, x3⟩ := hD.1 rfl
                    rcases x3 with ⟨y, _⟩ | ⟨y, _⟩ | ⟨y, z0, z1, z2⟩ | ⟨y, _⟩ | ⟨y, _⟩
                    · exact absurd (show k = 1 from y) (by omega)
                    · exact absurd (show k = 2 from y) (by omega)
                    · exact H1 z1
                    · exact absurd (show k = 4 from y) (by omega)
                    · exact absurd (show k = 5 from y) (by omega)
                obtain ⟨A3, hA3⟩ : ∃ A, decide (ParS (e, f)) = A := ⟨_, rfl⟩
                clear hD h1 h2 hk1 hk2 hk3 H0 H1
                go_enter Tryz.func83, Tryz.ntmps83
                go_wp2_with fail
                generalize hq : World.alloc w _ = w0
                have hb0 : Below w.heap.size w w0 := by rw [← hq]; exact below_new w _
                have hr0 : Below w0.heap.size w0 w0 := Below.refl _ _
                have hlt : w.heap.size < w0.heap.size := by rw [← hq]; simp
                have c0 : ∀ w', Below w0.heap.size w0 w' → w'.cell? ⟨w.heap.size, 0, none⟩ = some (.int .i64 k) := fun w' hb => by
                  rw [hb.cell (p := ⟨w.heap.size, 0, none⟩) hlt, ← hq]; simp
                have c1 : ∀ w', Below w0.heap.size w0 w' → w'.cell? ⟨w.heap.size, 1, none⟩ = some (.int .i64 a) := fun w' hb => by
                  rw [hb.cell (p := ⟨w.heap.size, 1, none⟩) hlt, ← hq]; simp
                have c2 : ∀ w', Below w0.heap.size w0 w' → w'.cell? ⟨w.heap.size, 2, none⟩ = some (.int .i64 b) := fun w' hb => by
                  rw [hb.cell (p := ⟨w.heap.size, 2, none⟩) hlt, ← hq]; simp
                have c3 : ∀ w', Below w0.heap.size w0 w' → w'.cell? ⟨w.heap.size, 3, none⟩ = some (.int .i64 c) := fun w' hb => by
                  rw [hb.cell (p := ⟨w.heap.size, 3, none⟩) hlt, ← hq]; simp
                have c4 : ∀ w', Below w0.heap.size w0 w' → w'.cell? ⟨w.heap.size, 4, none⟩ = some (.int .i64 d) := fun w' hb => by
                  rw [hb.cell (p := ⟨w.heap.size, 4, none⟩) hlt, ← hq]; simp
                have c5 : ∀ w', Below w0.heap.size w0 w' → w'.cell? ⟨w.heap.size, 5, none⟩ = some (.int .i64 e) := fun w' hb => by
                  rw [hb.cell (p := ⟨w.heap.size, 5, none⟩) hlt, ← hq]; simp
                have c6 : ∀ w', Below w0.heap.size w0 w' → w'.cell? ⟨w.heap.size, 6, none⟩ = some (.int .i64 f) := fun w' hb => by
                  rw [hb.cell (p := ⟨w.heap.size, 6, none⟩) hlt, ← hq]; simp
                have c7 : ∀ w', Below w0.heap.size w0 w' → w'.cell? ⟨w.heap.size, 7, none⟩ = some (.string s) := fun w' hb => by
                  rw [hb.cell (p := ⟨w.heap.size, 7, none⟩) hlt, ← hq]; simp
                have c8 : ∀ w', Below w0.heap.size w0 w' → w'.cell? ⟨w.heap.size, 8, none⟩ = some (.string t) := fun w' hb => by
                  rw [hb.cell (p := ⟨w.heap.size, 8, none⟩) hlt, ← hq]; simp
                have C1 : Hid (∀ w', Below w0.heap.size w0 w' → _) := fun w' hb => mayS_on (a, b) _ hA1 w0 w' hb
                have C2 : Hid (∀ w', Below w0.heap.size w0 w' → _) := fun w' hb => mayS_on (c, d) _ hA2 w0 w' hb
                have C3 : Hid (∀ w', Below w0.heap.size w0 w' → _) := fun w' hb => par_on (e, f) _ hA3 w0 w' hb
                have C4 : Hid (∀ w', Below w0.heap.size w0 w' → _) := fun w' hb => name_on s _ hA4 w0 w' hb hs
                clear hq hA1 hA2 hA3 hA4 hs
                refine (C1.out _ hr0).mono ?_
                rintro e1 w1 ⟨rfl, hb1⟩
                clear C1
                go_wp2_with (first
                  | (go_at_call 65; refine (C2.out _ (by assumption)).mono ?_; rintro e1 w2 ⟨rfl, hb2⟩)
                  | (go_at_call 80; refine (C3.out _ (by assumption)).mono ?_; rintro e1 w3 ⟨rfl, hb3⟩)
                  | (go_at_call 79; refine (C4.out _ (by assumption)).mono ?_; rintro e1 w4 ⟨rfl, hb4⟩))
                go_ret
                exact ⟨rfl, below_step hb0 (Nat.le_refl _) (by assumption)⟩
            · skip
              have hE2 := fun w => stampEq_is (e, f) (0, 0) false (decide_eq_false H0) w
              obtain rfl : D = false := by
                cases D with
                | false => rfl
                | true =>
                  exfalso
                  obtain ⟨x1, x2, x3⟩ := hD.1 rfl
                  rcases x3 with ⟨y, _⟩ | ⟨y, _⟩ | ⟨y, z0, z1, z2⟩ | ⟨y, _⟩ | ⟨y, _⟩
                  · exact absurd (show k = 1 from y) (by omega)
                  · exact absurd (show k = 2 from y) (by omega)
                  · exact H0 z0
                  · exact absurd (show k = 4 from y) (by omega)
                  · exact absurd (show k = 5 from y) (by omega)
              obtain ⟨A3, hA3⟩ : ∃ A, decide (ParS (e, f)) = A := ⟨_, rfl⟩
              obtain ⟨A4, hA4⟩ : ∃ x, NameE s x := nameX_is s
              clear hD h1 h2 hk1 hk2 hk3 H0
              go_enter Tryz.func83, Tryz.ntmps83
              go_wp2_with fail
              generalize hq : World.alloc w _ = w0
              have hb0 : Below w.heap.size w w0 := by rw [← hq]; exact below_new w _
              have hr0 : Below w0.heap.size w0 w0 := Below.refl _ _
              have hlt : w.heap.size < w0.heap.size := by rw [← hq]; simp
              have c0 : ∀ w', Below w0.heap.size w0 w' → w'.cell? ⟨w.heap.size, 0, none⟩ = some (.int .i64 k) := fun w' hb => by
                rw [hb.cell (p := ⟨w.heap.size, 0, none⟩) hlt, ← hq]; simp
              have c1 : ∀ w', Below w0.heap.size w0 w' → w'.cell? ⟨w.heap.size, 1, none⟩ = some (.int .i64 a) := fun w' hb => by
                rw [hb.cell (p := ⟨w.heap.size, 1, none⟩) hlt, ← hq]; simp
              have c2 : ∀ w', Below w0.heap.size w0 w' → w'.cell? ⟨w.heap.size, 2, none⟩ = some (.int .i64 b) := fun w' hb => by
                rw [hb.cell (p := ⟨w.heap.size, 2, none⟩) hlt, ← hq]; simp
              have c3 : ∀ w', Below w0.heap.size w0 w' → w'.cell? ⟨w.heap.size, 3, none⟩ = some (.int .i64 c) := fun w' hb => by
                rw [hb.cell (p := ⟨w.heap.size, 3, none⟩) hlt, ← hq]; simp
              have c4 : ∀ w', Below w0.heap.size w0 w' → w'.cell? ⟨w.heap.size, 4, none⟩ = some (.int .i64 d) := fun w' hb => by
                rw [hb.cell (p := ⟨w.heap.size, 4, none⟩) hlt, ← hq]; simp
              have c5 : ∀ w', Below w0.heap.size w0 w' → w'.cell? ⟨w.heap.size, 5, none⟩ = some (.int .i64 e) := fun w' hb => by
                rw [hb.cell (p := ⟨w.heap.size, 5, none⟩) hlt, ← hq]; simp
              have c6 : ∀ w', Below w0.heap.size w0 w' → w'.cell? ⟨w.heap.size, 6, none⟩ = some (.int .i64 f) := fun w' hb => by
                rw [hb.cell (p := ⟨w.heap.size, 6, none⟩) hlt, ← hq]; simp
              have c7 : ∀ w', Below w0.heap.size w0 w' → w'.cell? ⟨w.heap.size, 7, none⟩ = some (.string s) := fun w' hb => by
                rw [hb.cell (p := ⟨w.heap.size, 7, none⟩) hlt, ← hq]; simp
              have c8 : ∀ w', Below w0.heap.size w0 w' → w'.cell? ⟨w.heap.size, 8, none⟩ = some (.string t) := fun w' hb => by
                rw [hb.cell (p := ⟨w.heap.size, 8, none⟩) hlt, ← hq]; simp
              have C1 : Hid (∀ w', Below w0.heap.size w0 w' → _) := fun w' hb => mayS_on (a, b) _ hA1 w0 w' hb
              have C2 : Hid (∀ w', Below w0.heap.size w0 w' → _) := fun w' hb => mayS_on (c, d) _ hA2 w0 w' hb
              have C3 : Hid (∀ w', Below w0.heap.size w0 w' → _) := fun w' hb => par_on (e, f) _ hA3 w0 w' hb
              have C4 : Hid (∀ w', Below w0.heap.size w0 w' → _) := fun w' hb => name_on s _ hA4 w0 w' hb hs
              clear hq hA1 hA2 hA3 hA4 hs
              refine (C1.out _ hr0).mono ?_
              rintro e1 w1 ⟨rfl, hb1⟩
              clear C1
              go_wp2_with (first
                | (go_at_call 65; refine (C2.out _ (by assumption)).mono ?_; rintro e1 w2 ⟨rfl, hb2⟩)
                | (go_at_call 80; refine (C3.out _ (by assumption)).mono ?_; rintro e1 w3 ⟨rfl, hb3⟩)
                | (go_at_call 79; refine (C4.out _ (by assumption)).mono ?_; rintro e1 w4 ⟨rfl, hb4⟩))
              go_ret
              exact ⟨rfl, below_step hb0 (Nat.le_refl _) (by assumption)⟩
          · skip
            have gk3 : (k == 3) = false := by rw [beq_eq_false_iff_ne]; exact hk3
            by_cases hk4 : k = 4
            · skip
              have gk : (k == 4) = true := by rw [beq_iff_eq]; exact hk4
              by_cases H0 : (e, f) = (0, 0)
              · skip
                have hE2 := fun w => stampEq_is (e, f) (0, 0) true (decide_eq_true H0) w
                by_cases H1 : s.size = 0
                · skip
                  have gs := isE_yes s H1
                  by_cases H2 : t.size ≤ 64
                  · skip
                    have gt : decide ((t.size : Int) ≤ 64) = true := by simp; omega
                    obtain rfl : D = true := hD.2 ⟨h1, h2, .inr (.inr (.inr (.inl ⟨hk4, H0, H1, H2⟩)))⟩
                    obtain ⟨A3, hA3⟩ : ∃ A, decide (ParS (e, f)) = A := ⟨_, rfl⟩
                    obtain ⟨A4, hA4⟩ : ∃ x, NameE s x := nameX_is s
                    clear hD h1 h2 hk1 hk2 hk3 hk4 H0 H1 H2
                    go_enter Tryz.func83, Tryz.ntmps83
                    go_wp2_with fail
                    generalize hq : World.alloc w _ = w0
                    have hb0 : Below w.heap.size w w0 := by rw [← hq]; exact below_new w _
                    have hr0 : Below w0.heap.size w0 w0 := Below.refl _ _
                    have hlt : w.heap.size < w0.heap.size := by rw [← hq]; simp
                    have c0 : ∀ w', Below w0.heap.size w0 w' → w'.cell? ⟨w.heap.size, 0, none⟩ = some (.int .i64 k) := fun w' hb => by
                      rw [hb.cell (p := ⟨w.heap.size, 0, none⟩) hlt, ← hq]; simp
                    have c1 : ∀ w', Below w0.heap.size w0 w' → w'.cell? ⟨w.heap.size, 1, none⟩ = some (.int .i64 a) := fun w' hb => by
                      rw [hb.cell (p := ⟨w.heap.size, 1, none⟩) hlt, ← hq]; simp
                    have c2 : ∀ w', Below w0.heap.size w0 w' → w'.cell? ⟨w.heap.size, 2, none⟩ = some (.int .i64 b) := fun w' hb => by
                      rw [hb.cell (p := ⟨w.heap.size, 2, none⟩) hlt, ← hq]; simp
                    have c3 : ∀ w', Below w0.heap.size w0 w' → w'.cell? ⟨w.heap.size, 3, none⟩ = some (.int .i64 c) := fun w' hb => by
                      rw [hb.cell (p := ⟨w.heap.size, 3, none⟩) hlt, ← hq]; simp
                    have c4 : ∀ w', Below w0.heap.size w0 w' → w'.cell? ⟨w.heap.size, 4, none⟩ = some (.int .i64 d) := fun w' hb => by
                      rw [hb.cell (p := ⟨w.heap.size, 4, none⟩) hlt, ← hq]; simp
                    have c5 : ∀ w', Below w0.heap.size w0 w' → w'.cell? ⟨w.heap.size, 5, none⟩ = some (.int .i64 e) := fun w' hb => by
                      rw [hb.cell (p := ⟨w.heap.size, 5, none⟩) hlt, ← hq]; simp
                    have c6 : ∀ w', Below w0.heap.size w0 w' → w'.cell? ⟨w.heap.size, 6, none⟩ = some (.int .i64 f) := fun w' hb => by
                      rw [hb.cell (p := ⟨w.heap.size, 6, none⟩) hlt, ← hq]; simp
                    have c7 : ∀ w', Below w0.heap.size w0 w' → w'.cell? ⟨w.heap.size, 7, none⟩ = some (.string s) := fun w' hb => by
                      rw [hb.cell (p := ⟨w.heap.size, 7, none⟩) hlt, ← hq]; simp
                    have c8 : ∀ w', Below w0.heap.size w0 w' → w'.cell? ⟨w.heap.size, 8, none⟩ = some (.string t) := fun w' hb => by
                      rw [hb.cell (p := ⟨w.heap.size, 8, none⟩) hlt, ← hq]; simp
                    have C1 : Hid (∀ w', Below w0.heap.size w0 w' → _) := fun w' hb => mayS_on (a, b) _ hA1 w0 w' hb
                    have C2 : Hid (∀ w', Below w0.heap.size w0 w' → _) := fun w' hb => mayS_on (c, d) _ hA2 w0 w' hb
                    have C3 : Hid (∀ w', Below w0.heap.size w0 w' → _) := fun w' hb => par_on (e, f) _ hA3 w0 w' hb
                    have C4 : Hid (∀ w', Below w0.heap.size w0 w' → _) := fun w' hb => name_on s _ hA4 w0 w' hb hs
                    clear hq hA1 hA2 hA3 hA4 hs
                    refine (C1.out _ hr0).mono ?_
                    rintro e1 w1 ⟨rfl, hb1⟩
                    clear C1
                    go_wp2_with (first
                      | (go_at_call 65; refine (C2.out _ (by assumption)).mono ?_; rintro e1 w2 ⟨rfl, hb2⟩)
                      | (go_at_call 80; refine (C3.out _ (by assumption)).mono ?_; rintro e1 w3 ⟨rfl, hb3⟩)
                      | (go_at_call 79; refine (C4.out _ (by assumption)).mono ?_; rintro e1 w4 ⟨rfl, hb4⟩))
                    go_ret
                    exact ⟨rfl, below_step hb0 (Nat.le_refl _) (by assumption)⟩
                  · skip
                    have gt : decide ((t.size : Int) ≤ 64) = false := by simp; omega
                    obtain rfl : D = false := by
                      cases D with
                      | false => rfl
                      | true =>
                        exfalso
                        obtain ⟨x1, x2, x3⟩ := hD.1 rfl
                        rcases x3 with ⟨y, _⟩ | ⟨y, _⟩ | ⟨y, _⟩ | ⟨y, z0, z1, z2⟩ | ⟨y, _⟩
                        · exact absurd (show k = 1 from y) (by omega)
                        · exact absurd (show k = 2 from y) (by omega)
                        · exact absurd (show k = 3 from y) (by omega)
                        · exact H2 z2
                        · exact absurd (show k = 5 from y) (by omega)
                    obtain ⟨A3, hA3⟩ : ∃ A, decide (ParS (e, f)) = A := ⟨_, rfl⟩
                    obtain ⟨A4, hA4⟩ : ∃ x, NameE s x := nameX_is s
                    clear hD h1 h2 hk1 hk2 hk3 hk4 H0 H1 H2
                    go_enter Tryz.func83, Tryz.ntmps83
                    go_wp2_with fail
                    generalize hq : World.alloc w _ = w0
                    have hb0 : Below w.heap.size w w0 := by rw [← hq]; exact below_new w _
                    have hr0 : Below w0.heap.size w0 w0 := Below.refl _ _
                    have hlt : w.heap.size < w0.heap.size := by rw [← hq]; simp
                    have c0 : ∀ w', Below w0.heap.size w0 w' → w'.cell? ⟨w.heap.size, 0, none⟩ = some (.int .i64 k) := fun w' hb => by
                      rw [hb.cell (p := ⟨w.heap.size, 0, none⟩) hlt, ← hq]; simp
                    have c1 : ∀ w', Below w0.heap.size w0 w' → w'.cell? ⟨w.heap.size, 1, none⟩ = some (.int .i64 a) := fun w' hb => by
                      rw [hb.cell (p := ⟨w.heap.size, 1, none⟩) hlt, ← hq]; simp
                    have c2 : ∀ w', Below w0.heap.size w0 w' → w'.cell? ⟨w.heap.size, 2, none⟩ = some (.int .i64 b) := fun w' hb => by
                      rw [hb.cell (p := ⟨w.heap.size, 2, none⟩) hlt, ← hq]; simp
                    have c3 : ∀ w', Below w0.heap.size w0 w' → w'.cell? ⟨w.heap.size, 3, none⟩ = some (.int .i64 c) := fun w' hb => by
                      rw [hb.cell (p := ⟨w.heap.size, 3, none⟩) hlt, ← hq]; simp
                    have c4 : ∀ w', Below w0.heap.size w0 w' → w'.cell? ⟨w.heap.size, 4, none⟩ = some (.int .i64 d) := fun w' hb => by
                      rw [hb.cell (p := ⟨w.heap.size, 4, none⟩) hlt, ← hq]; simp
                    have c5 : ∀ w', Below w0.heap.size w0 w' → w'.cell? ⟨w.heap.size, 5, none⟩ = some (.int .i64 e) := fun w' hb => by
                      rw [hb.cell (p := ⟨w.heap.size, 5, none⟩) hlt, ← hq]; simp
                    have c6 : ∀ w', Below w0.heap.size w0 w' → w'.cell? ⟨w.heap.size, 6, none⟩ = some (.int .i64 f) := fun w' hb => by
                      rw [hb.cell (p := ⟨w.heap.size, 6, none⟩) hlt, ← hq]; simp
                    have c7 : ∀ w', Below w0.heap.size w0 w' → w'.cell? ⟨w.heap.size, 7, none⟩ = some (.string s) := fun w' hb => by
                      rw [hb.cell (p := ⟨w.heap.size, 7, none⟩) hlt, ← hq]; simp
                    have c8 : ∀ w', Below w0.heap.size w0 w' → w'.cell? ⟨w.heap.size, 8, none⟩ = some (.string t) := fun w' hb => by
                      rw [hb.cell (p := ⟨w.heap.size, 8, none⟩) hlt, ← hq]; simp
                    have C1 : Hid (∀ w', Below w0.heap.size w0 w' → _) := fun w' hb => mayS_on (a, b) _ hA1 w0 w' hb
                    have C2 : Hid (∀ w', Below w0.heap.size w0 w' → _) := fun w' hb => mayS_on (c, d) _ hA2 w0 w' hb
                    have C3 : Hid (∀ w', Below w0.heap.size w0 w' → _) := fun w' hb => par_on (e, f) _ hA3 w0 w' hb
                    have C4 : Hid (∀ w', Below w0.heap.size w0 w' → _) := fun w' hb => name_on s _ hA4 w0 w' hb hs
                    clear hq hA1 hA2 hA3 hA4 hs
                    refine (C1.out _ hr0).mono ?_
                    rintro e1 w1 ⟨rfl, hb1⟩
                    clear C1
                    go_wp2_with (first
                      | (go_at_call 65; refine (C2.out _ (by assumption)).mono ?_; rintro e1 w2 ⟨rfl, hb2⟩)
                      | (go_at_call 80; refine (C3.out _ (by assumption)).mono ?_; rintro e1 w3 ⟨rfl, hb3⟩)
                      | (go_at_call 79; refine (C4.out _ (by assumption)).mono ?_; rintro e1 w4 ⟨rfl, hb4⟩))
                    go_ret
                    exact ⟨rfl, below_step hb0 (Nat.le_refl _) (by assumption)⟩
                · skip
                  have gs := isE_no s H1
                  obtain rfl : D = false := by
                    cases D with
                    | false => rfl
                    | true =>
                      exfalso
                      obtain ⟨x1, x2, x3⟩ := hD.1 rfl
                      rcases x3 with ⟨y, _⟩ | ⟨y, _⟩ | ⟨y, _⟩ | ⟨y, z0, z1, z2⟩ | ⟨y, _⟩
                      · exact absurd (show k = 1 from y) (by omega)
                      · exact absurd (show k = 2 from y) (by omega)
                      · exact absurd (show k = 3 from y) (by omega)
                      · exact H1 z1
                      · exact absurd (show k = 5 from y) (by omega)
                  obtain ⟨A3, hA3⟩ : ∃ A, decide (ParS (e, f)) = A := ⟨_, rfl⟩
                  obtain ⟨A4, hA4⟩ : ∃ x, NameE s x := nameX_is s
                  clear hD h1 h2 hk1 hk2 hk3 hk4 H0 H1
                  go_enter Tryz.func83, Tryz.ntmps83
                  go_wp2_with fail
                  generalize hq : World.alloc w _ = w0
                  have hb0 : Below w.heap.size w w0 := by rw [← hq]; exact below_new w _
                  have hr0 : Below w0.heap.size w0 w0 := Below.refl _ _
                  have hlt : w.heap.size < w0.heap.size := by rw [← hq]; simp
                  have c0 : ∀ w', Below w0.heap.size w0 w' → w'.cell? ⟨w.heap.size, 0, none⟩ = some (.int .i64 k) := fun w' hb => by
                    rw [hb.cell (p := ⟨w.heap.size, 0, none⟩) hlt, ← hq]; simp
                  have c1 : ∀ w', Below w0.heap.size w0 w' → w'.cell? ⟨w.heap.size, 1, none⟩ = some (.int .i64 a) := fun w' hb => by
                    rw [hb.cell (p := ⟨w.heap.size, 1, none⟩) hlt, ← hq]; simp
                  have c2 : ∀ w', Below w0.heap.size w0 w' → w'.cell? ⟨w.heap.size, 2, none⟩ = some (.int .i64 b) := fun w' hb => by
                    rw [hb.cell (p := ⟨w.heap.size, 2, none⟩) hlt, ← hq]; simp
                  have c3 : ∀ w', Below w0.heap.size w0 w' → w'.cell? ⟨w.heap.size, 3, none⟩ = some (.int .i64 c) := fun w' hb => by
                    rw [hb.cell (p := ⟨w.heap.size, 3, none⟩) hlt, ← hq]; simp
                  have c4 : ∀ w', Below w0.heap.size w0 w' → w'.cell? ⟨w.heap.size, 4, none⟩ = some (.int .i64 d) := fun w' hb => by
                    rw [hb.cell (p := ⟨w.heap.size, 4, none⟩) hlt, ← hq]; simp
                  have c5 : ∀ w', Below w0.heap.size w0 w' → w'.cell? ⟨w.heap.size, 5, none⟩ = some (.int .i64 e) := fun w' hb => by
                    rw [hb.cell (p := ⟨w.heap.size, 5, none⟩) hlt, ← hq]; simp
                  have c6 : ∀ w', Below w0.heap.size w0 w' → w'.cell? ⟨w.heap.size, 6, none⟩ = some (.int .i64 f) := fun w' hb => by
                    rw [hb.cell (p := ⟨w.heap.size, 6, none⟩) hlt, ← hq]; simp
                  have c7 : ∀ w', Below w0.heap.size w0 w' → w'.cell? ⟨w.heap.size, 7, none⟩ = some (.string s) := fun w' hb => by
                    rw [hb.cell (p := ⟨w.heap.size, 7, none⟩) hlt, ← hq]; simp
                  have c8 : ∀ w', Below w0.heap.size w0 w' → w'.cell? ⟨w.heap.size, 8, none⟩ = some (.string t) := fun w' hb => by
                    rw [hb.cell (p := ⟨w.heap.size, 8, none⟩) hlt, ← hq]; simp
                  have C1 : Hid (∀ w', Below w0.heap.size w0 w' → _) := fun w' hb => mayS_on (a, b) _ hA1 w0 w' hb
                  have C2 : Hid (∀ w', Below w0.heap.size w0 w' → _) := fun w' hb => mayS_on (c, d) _ hA2 w0 w' hb
                  have C3 : Hid (∀ w', Below w0.heap.size w0 w' → _) := fun w' hb => par_on (e, f) _ hA3 w0 w' hb
                  have C4 : Hid (∀ w', Below w0.heap.size w0 w' → _) := fun w' hb => name_on s _ hA4 w0 w' hb hs
                  clear hq hA1 hA2 hA3 hA4 hs
                  refine (C1.out _ hr0).mono ?_
                  rintro e1 w1 ⟨rfl, hb1⟩
                  clear C1
                  go_wp2_with (first
                    | (go_at_call 65; refine (C2.out _ (by assumption)).mono ?_; rintro e1 w2 ⟨rfl, hb2⟩)
                    | (go_at_call 80; refine (C3.out _ (by assumption)).mono ?_; rintro e1 w3 ⟨rfl, hb3⟩)
                    | (go_at_call 79; refine (C4.out _ (by assumption)).mono ?_; rintro e1 w4 ⟨rfl, hb4⟩))
                  go_ret
                  exact ⟨rfl, below_step hb0 (Nat.le_refl _) (by assumption)⟩
              · skip
                have hE2 := fun w => stampEq_is (e, f) (0, 0) false (decide_eq_false H0) w
                obtain rfl : D = false := by
                  cases D with
                  | false => rfl
                  | true =>
                    exfalso
                    obtain ⟨x1, x2, x3⟩ := hD.1 rfl
                    rcases x3 with ⟨y, _⟩ | ⟨y, _⟩ | ⟨y, _⟩ | ⟨y, z0, z1, z2⟩ | ⟨y, _⟩
                    · exact absurd (show k = 1 from y) (by omega)
                    · exact absurd (show k = 2 from y) (by omega)
                    · exact absurd (show k = 3 from y) (by omega)
                    · exact H0 z0
                    · exact absurd (show k = 5 from y) (by omega)
                obtain ⟨A3, hA3⟩ : ∃ A, decide (ParS (e, f)) = A := ⟨_, rfl⟩
                obtain ⟨A4, hA4⟩ : ∃ x, NameE s x := nameX_is s
                clear hD h1 h2 hk1 hk2 hk3 hk4 H0
                go_enter Tryz.func83, Tryz.ntmps83
                go_wp2_with fail
                generalize hq : World.alloc w _ = w0
                have hb0 : Below w.heap.size w w0 := by rw [← hq]; exact below_new w _
                have hr0 : Below w0.heap.size w0 w0 := Below.refl _ _
                have hlt : w.heap.size < w0.heap.size := by rw [← hq]; simp
                have c0 : ∀ w', Below w0.heap.size w0 w' → w'.cell? ⟨w.heap.size, 0, none⟩ = some (.int .i64 k) := fun w' hb => by
                  rw [hb.cell (p := ⟨w.heap.size, 0, none⟩) hlt, ← hq]; simp
                have c1 : ∀ w', Below w0.heap.size w0 w' → w'.cell? ⟨w.heap.size, 1, none⟩ = some (.int .i64 a) := fun w' hb => by
                  rw [hb.cell (p := ⟨w.heap.size, 1, none⟩) hlt, ← hq]; simp
                have c2 : ∀ w', Below w0.heap.size w0 w' → w'.cell? ⟨w.heap.size, 2, none⟩ = some (.int .i64 b) := fun w' hb => by
                  rw [hb.cell (p := ⟨w.heap.size, 2, none⟩) hlt, ← hq]; simp
                have c3 : ∀ w', Below w0.heap.size w0 w' → w'.cell? ⟨w.heap.size, 3, none⟩ = some (.int .i64 c) := fun w' hb => by
                  rw [hb.cell (p := ⟨w.heap.size, 3, none⟩) hlt, ← hq]; simp
                have c4 : ∀ w', Below w0.heap.size w0 w' → w'.cell? ⟨w.heap.size, 4, none⟩ = some (.int .i64 d) := fun w' hb => by
                  rw [hb.cell (p := ⟨w.heap.size, 4, none⟩) hlt, ← hq]; simp
                have c5 : ∀ w', Below w0.heap.size w0 w' → w'.cell? ⟨w.heap.size, 5, none⟩ = some (.int .i64 e) := fun w' hb => by
                  rw [hb.cell (p := ⟨w.heap.size, 5, none⟩) hlt, ← hq]; simp
                have c6 : ∀ w', Below w0.heap.size w0 w' → w'.cell? ⟨w.heap.size, 6, none⟩ = some (.int .i64 f) := fun w' hb => by
                  rw [hb.cell (p := ⟨w.heap.size, 6, none⟩) hlt, ← hq]; simp
                have c7 : ∀ w', Below w0.heap.size w0 w' → w'.cell? ⟨w.heap.size, 7, none⟩ = some (.string s) := fun w' hb => by
                  rw [hb.cell (p := ⟨w.heap.size, 7, none⟩) hlt, ← hq]; simp
                have c8 : ∀ w', Below w0.heap.size w0 w' → w'.cell? ⟨w.heap.size, 8, none⟩ = some (.string t) := fun w' hb => by
                  rw [hb.cell (p := ⟨w.heap.size, 8, none⟩) hlt, ← hq]; simp
                have C1 : Hid (∀ w', Below w0.heap.size w0 w' → _) := fun w' hb => mayS_on (a, b) _ hA1 w0 w' hb
                have C2 : Hid (∀ w', Below w0.heap.size w0 w' → _) := fun w' hb => mayS_on (c, d) _ hA2 w0 w' hb
                have C3 : Hid (∀ w', Below w0.heap.size w0 w' → _) := fun w' hb => par_on (e, f) _ hA3 w0 w' hb
                have C4 : Hid (∀ w', Below w0.heap.size w0 w' → _) := fun w' hb => name_on s _ hA4 w0 w' hb hs
                clear hq hA1 hA2 hA3 hA4 hs
                refine (C1.out _ hr0).mono ?_
                rintro e1 w1 ⟨rfl, hb1⟩
                clear C1
                go_wp2_with (first
                  | (go_at_call 65; refine (C2.out _ (by assumption)).mono ?_; rintro e1 w2 ⟨rfl, hb2⟩)
                  | (go_at_call 80; refine (C3.out _ (by assumption)).mono ?_; rintro e1 w3 ⟨rfl, hb3⟩)
                  | (go_at_call 79; refine (C4.out _ (by assumption)).mono ?_; rintro e1 w4 ⟨rfl, hb4⟩))
                go_ret
                exact ⟨rfl, below_step hb0 (Nat.le_refl _) (by assumption)⟩
            · skip
              have gk4 : (k == 4) = false := by rw [beq_eq_false_iff_ne]; exact hk4
              by_cases hk5 : k = 5
              · skip
                have gk : (k == 5) = true := by rw [beq_iff_eq]; exact hk5
                by_cases H0 : (e, f) = (0, 0)
                · skip
                  have hE2 := fun w => stampEq_is (e, f) (0, 0) true (decide_eq_true H0) w
                  by_cases H1 : s.size = 0
                  · skip
                    have gs := isE_yes s H1
                    by_cases H2 : t.size = 0
                    · skip
                      have gt := isE_yes t H2
                      obtain rfl : D = true := hD.2 ⟨h1, h2, .inr (.inr (.inr (.inr (⟨hk5, H0, H1, H2⟩))))⟩
                      obtain ⟨A3, hA3⟩ : ∃ A, decide (ParS (e, f)) = A := ⟨_, rfl⟩
                      obtain ⟨A4, hA4⟩ : ∃ x, NameE s x := nameX_is s
                      clear hD h1 h2 hk1 hk2 hk3 hk4 hk5 H0 H1 H2
                      go_enter Tryz.func83, Tryz.ntmps83
                      go_wp2_with fail
                      generalize hq : World.alloc w _ = w0
                      have hb0 : Below w.heap.size w w0 := by rw [← hq]; exact below_new w _
                      have hr0 : Below w0.heap.size w0 w0 := Below.refl _ _
                      have hlt : w.heap.size < w0.heap.size := by rw [← hq]; simp
                      have c0 : ∀ w', Below w0.heap.size w0 w' → w'.cell? ⟨w.heap.size, 0, none⟩ = some (.int .i64 k) := fun w' hb => by
                        rw [hb.cell (p := ⟨w.heap.size, 0, none⟩) hlt, ← hq]; simp
                      have c1 : ∀ w', Below w0.heap.size w0 w' → w'.cell? ⟨w.heap.size, 1, none⟩ = some (.int .i64 a) := fun w' hb => by
                        rw [hb.cell (p := ⟨w.heap.size, 1, none⟩) hlt, ← hq]; simp
                      have c2 : ∀ w', Below w0.heap.size w0 w' → w'.cell? ⟨w.heap.size, 2, none⟩ = some (.int .i64 b) := fun w' hb => by
                        rw [hb.cell (p := ⟨w.heap.size, 2, none⟩) hlt, ← hq]; simp
                      have c3 : ∀ w', Below w0.heap.size w0 w' → w'.cell? ⟨w.heap.size, 3, none⟩ = some (.int .i64 c) := fun w' hb => by
                        rw [hb.cell (p := ⟨w.heap.size, 3, none⟩) hlt, ← hq]; simp
                      have c4 : ∀ w', Below w0.heap.size w0 w' → w'.cell? ⟨w.heap.size, 4, none⟩ = some (.int .i64 d) := fun w' hb => by
                        rw [hb.cell (p := ⟨w.heap.size, 4, none⟩) hlt, ← hq]; simp
                      have c5 : ∀ w', Below w0.heap.size w0 w' → w'.cell? ⟨w.heap.size, 5, none⟩ = some (.int .i64 e) := fun w' hb => by
                        rw [hb.cell (p := ⟨w.heap.size, 5, none⟩) hlt, ← hq]; simp
                      have c6 : ∀ w', Below w0.heap.size w0 w' → w'.cell? ⟨w.heap.size, 6, none⟩ = some (.int .i64 f) := fun w' hb => by
                        rw [hb.cell (p := ⟨w.heap.size, 6, none⟩) hlt, ← hq]; simp
                      have c7 : ∀ w', Below w0.heap.size w0 w' → w'.cell? ⟨w.heap.size, 7, none⟩ = some (.string s) := fun w' hb => by
                        rw [hb.cell (p := ⟨w.heap.size, 7, none⟩) hlt, ← hq]; simp
                      have c8 : ∀ w', Below w0.heap.size w0 w' → w'.cell? ⟨w.heap.size, 8, none⟩ = some (.string t) := fun w' hb => by
                        rw [hb.cell (p := ⟨w.heap.size, 8, none⟩) hlt, ← hq]; simp
                      have C1 : Hid (∀ w', Below w0.heap.size w0 w' → _) := fun w' hb => mayS_on (a, b) _ hA1 w0 w' hb
                      have C2 : Hid (∀ w', Below w0.heap.size w0 w' → _) := fun w' hb => mayS_on (c, d) _ hA2 w0 w' hb
                      have C3 : Hid (∀ w', Below w0.heap.size w0 w' → _) := fun w' hb => par_on (e, f) _ hA3 w0 w' hb
                      have C4 : Hid (∀ w', Below w0.heap.size w0 w' → _) := fun w' hb => name_on s _ hA4 w0 w' hb hs
                      clear hq hA1 hA2 hA3 hA4 hs
                      refine (C1.out _ hr0).mono ?_
                      rintro e1 w1 ⟨rfl, hb1⟩
                      clear C1
                      go_wp2_with (first
                        | (go_at_call 65; refine (C2.out _ (by assumption)).mono ?_; rintro e1 w2 ⟨rfl, hb2⟩)
                        | (go_at_call 80; refine (C3.out _ (by assumption)).mono ?_; rintro e1 w3 ⟨rfl, hb3⟩)
                        | (go_at_call 79; refine (C4.out _ (by assumption)).mono ?_; rintro e1 w4 ⟨rfl, hb4⟩))
                      go_ret
                      exact ⟨rfl, below_step hb0 (Nat.le_refl _) (by assumption)⟩
                    · skip
                      have gt := isE_no t H2
                      obtain rfl : D = false := by
                        cases D with
                        | false => rfl
                        | true =>
                          exfalso
                          obtain ⟨x1, x2, x3⟩ := hD.1 rfl
                          rcases x3 with ⟨y, _⟩ | ⟨y, _⟩ | ⟨y, _⟩ | ⟨y, _⟩ | ⟨y, z0, z1, z2⟩
                          · exact absurd (show k = 1 from y) (by omega)
                          · exact absurd (show k = 2 from y) (by omega)
                          · exact absurd (show k = 3 from y) (by omega)
                          · exact absurd (show k = 4 from y) (by omega)
                          · exact H2 z2
                      obtain ⟨A3, hA3⟩ : ∃ A, decide (ParS (e, f)) = A := ⟨_, rfl⟩
                      obtain ⟨A4, hA4⟩ : ∃ x, NameE s x := nameX_is s
                      clear hD h1 h2 hk1 hk2 hk3 hk4 hk5 H0 H1 H2
                      go_enter Tryz.func83, Tryz.ntmps83
                      go_wp2_with fail
                      generalize hq : World.alloc w _ = w0
                      have hb0 : Below w.heap.size w w0 := by rw [← hq]; exact below_new w _
                      have hr0 : Below w0.heap.size w0 w0 := Below.refl _ _
                      have hlt : w.heap.size < w0.heap.size := by rw [← hq]; simp
                      have c0 : ∀ w', Below w0.heap.size w0 w' → w'.cell? ⟨w.heap.size, 0, none⟩ = some (.int .i64 k) := fun w' hb => by
                        rw [hb.cell (p := ⟨w.heap.size, 0, none⟩) hlt, ← hq]; simp
                      have c1 : ∀ w', Below w0.heap.size w0 w' → w'.cell? ⟨w.heap.size, 1, none⟩ = some (.int .i64 a) := fun w' hb => by
                        rw [hb.cell (p := ⟨w.heap.size, 1, none⟩) hlt, ← hq]; simp
                      have c2 : ∀ w', Below w0.heap.size w0 w' → w'.cell? ⟨w.heap.size, 2, none⟩ = some (.int .i64 b) := fun w' hb => by
                        rw [hb.cell (p := ⟨w.heap.size, 2, none⟩) hlt, ← hq]; simp
                      have c3 : ∀ w', Below w0.heap.size w0 w' → w'.cell? ⟨w.heap.size, 3, none⟩ = some (.int .i64 c) := fun w' hb => by
                        rw [hb.cell (p := ⟨w.heap.size, 3, none⟩) hlt, ← hq]; simp
                      have c4 : ∀ w', Below w0.heap.size w0 w' → w'.cell? ⟨w.heap.size, 4, none⟩ = some (.int .i64 d) := fun w' hb => by
                        rw [hb.cell (p := ⟨w.heap.size, 4, none⟩) hlt, ← hq]; simp
                      have c5 : ∀ w', Below w0.heap.size w0 w' → w'.cell? ⟨w.heap.size, 5, none⟩ = some (.int .i64 e) := fun w' hb => by
                        rw [hb.cell (p := ⟨w.heap.size, 5, none⟩) hlt, ← hq]; simp
                      have c6 : ∀ w', Below w0.heap.size w0 w' → w'.cell? ⟨w.heap.size, 6, none⟩ = some (.int .i64 f) := fun w' hb => by
                        rw [hb.cell (p := ⟨w.heap.size, 6, none⟩) hlt, ← hq]; simp
                      have c7 : ∀ w', Below w0.heap.size w0 w' → w'.cell? ⟨w.heap.size, 7, none⟩ = some (.string s) := fun w' hb => by
                        rw [hb.cell (p := ⟨w.heap.size, 7, none⟩) hlt, ← hq]; simp
                      have c8 : ∀ w', Below w0.heap.size w0 w' → w'.cell? ⟨w.heap.size, 8, none⟩ = some (.string t) := fun w' hb => by
                        rw [hb.cell (p := ⟨w.heap.size, 8, none⟩) hlt, ← hq]; simp
                      have C1 : Hid (∀ w', Below w0.heap.size w0 w' → _) := fun w' hb => mayS_on (a, b) _ hA1 w0 w' hb
                      have C2 : Hid (∀ w', Below w0.heap.size w0 w' → _) := fun w' hb => mayS_on (c, d) _ hA2 w0 w' hb
                      have C3 : Hid (∀ w', Below w0.heap.size w0 w' → _) := fun w' hb => par_on (e, f) _ hA3 w0 w' hb
                      have C4 : Hid (∀ w', Below w0.heap.size w0 w' → _) := fun w' hb => name_on s _ hA4 w0 w' hb hs
                      clear hq hA1 hA2 hA3 hA4 hs
                      refine (C1.out _ hr0).mono ?_
                      rintro e1 w1 ⟨rfl, hb1⟩
                      clear C1
                      go_wp2_with (first
                        | (go_at_call 65; refine (C2.out _ (by assumption)).mono ?_; rintro e1 w2 ⟨rfl, hb2⟩)
                        | (go_at_call 80; refine (C3.out _ (by assumption)).mono ?_; rintro e1 w3 ⟨rfl, hb3⟩)
                        | (go_at_call 79; refine (C4.out _ (by assumption)).mono ?_; rintro e1 w4 ⟨rfl, hb4⟩))
                      go_ret
                      exact ⟨rfl, below_step hb0 (Nat.le_refl _) (by assumption)⟩
                  · skip
                    have gs := isE_no s H1
                    obtain rfl : D = false := by
                      cases D with
                      | false => rfl
                      | true =>
                        exfalso
                        obtain ⟨x1, x2, x3⟩ := hD.1 rfl
                        rcases x3 with ⟨y, _⟩ | ⟨y, _⟩ | ⟨y, _⟩ | ⟨y, _⟩ | ⟨y, z0, z1, z2⟩
                        · exact absurd (show k = 1 from y) (by omega)
                        · exact absurd (show k = 2 from y) (by omega)
                        · exact absurd (show k = 3 from y) (by omega)
                        · exact absurd (show k = 4 from y) (by omega)
                        · exact H1 z1
                    obtain ⟨A3, hA3⟩ : ∃ A, decide (ParS (e, f)) = A := ⟨_, rfl⟩
                    obtain ⟨A4, hA4⟩ : ∃ x, NameE s x := nameX_is s
                    clear hD h1 h2 hk1 hk2 hk3 hk4 hk5 H0 H1
                    go_enter Tryz.func83, Tryz.ntmps83
                    go_wp2_with fail
                    generalize hq : World.alloc w _ = w0
                    have hb0 : Below w.heap.size w w0 := by rw [← hq]; exact below_new w _
                    have hr0 : Below w0.heap.size w0 w0 := Below.refl _ _
                    have hlt : w.heap.size < w0.heap.size := by rw [← hq]; simp
                    have c0 : ∀ w', Below w0.heap.size w0 w' → w'.cell? ⟨w.heap.size, 0, none⟩ = some (.int .i64 k) := fun w' hb => by
                      rw [hb.cell (p := ⟨w.heap.size, 0, none⟩) hlt, ← hq]; simp
                    have c1 : ∀ w', Below w0.heap.size w0 w' → w'.cell? ⟨w.heap.size, 1, none⟩ = some (.int .i64 a) := fun w' hb => by
                      rw [hb.cell (p := ⟨w.heap.size, 1, none⟩) hlt, ← hq]; simp
                    have c2 : ∀ w', Below w0.heap.size w0 w' → w'.cell? ⟨w.heap.size, 2, none⟩ = some (.int .i64 b) := fun w' hb => by
                      rw [hb.cell (p := ⟨w.heap.size, 2, none⟩) hlt, ← hq]; simp
                    have c3 : ∀ w', Below w0.heap.size w0 w' → w'.cell? ⟨w.heap.size, 3, none⟩ = some (.int .i64 c) := fun w' hb => by
                      rw [hb.cell (p := ⟨w.heap.size, 3, none⟩) hlt, ← hq]; simp
                    have c4 : ∀ w', Below w0.heap.size w0 w' → w'.cell? ⟨w.heap.size, 4, none⟩ = some (.int .i64 d) := fun w' hb => by
                      rw [hb.cell (p := ⟨w.heap.size, 4, none⟩) hlt, ← hq]; simp
                    have c5 : ∀ w', Below w0.heap.size w0 w' → w'.cell? ⟨w.heap.size, 5, none⟩ = some (.int .i64 e) := fun w' hb => by
                      rw [hb.cell (p := ⟨w.heap.size, 5, none⟩) hlt, ← hq]; simp
                    have c6 : ∀ w', Below w0.heap.size w0 w' → w'.cell? ⟨w.heap.size, 6, none⟩ = some (.int .i64 f) := fun w' hb => by
                      rw [hb.cell (p := ⟨w.heap.size, 6, none⟩) hlt, ← hq]; simp
                    have c7 : ∀ w', Below w0.heap.size w0 w' → w'.cell? ⟨w.heap.size, 7, none⟩ = some (.string s) := fun w' hb => by
                      rw [hb.cell (p := ⟨w.heap.size, 7, none⟩) hlt, ← hq]; simp
                    have c8 : ∀ w', Below w0.heap.size w0 w' → w'.cell? ⟨w.heap.size, 8, none⟩ = some (.string t) := fun w' hb => by
                      rw [hb.cell (p := ⟨w.heap.size, 8, none⟩) hlt, ← hq]; simp
                    have C1 : Hid (∀ w', Below w0.heap.size w0 w' → _) := fun w' hb => mayS_on (a, b) _ hA1 w0 w' hb
                    have C2 : Hid (∀ w', Below w0.heap.size w0 w' → _) := fun w' hb => mayS_on (c, d) _ hA2 w0 w' hb
                    have C3 : Hid (∀ w', Below w0.heap.size w0 w' → _) := fun w' hb => par_on (e, f) _ hA3 w0 w' hb
                    have C4 : Hid (∀ w', Below w0.heap.size w0 w' → _) := fun w' hb => name_on s _ hA4 w0 w' hb hs
                    clear hq hA1 hA2 hA3 hA4 hs
                    refine (C1.out _ hr0).mono ?_
                    rintro e1 w1 ⟨rfl, hb1⟩
                    clear C1
                    go_wp2_with (first
                      | (go_at_call 65; refine (C2.out _ (by assumption)).mono ?_; rintro e1 w2 ⟨rfl, hb2⟩)
                      | (go_at_call 80; refine (C3.out _ (by assumption)).mono ?_; rintro e1 w3 ⟨rfl, hb3⟩)
                      | (go_at_call 79; refine (C4.out _ (by assumption)).mono ?_; rintro e1 w4 ⟨rfl, hb4⟩))
                    go_ret
                    exact ⟨rfl, below_step hb0 (Nat.le_refl _) (by assumption)⟩
                · skip
                  have hE2 := fun w => stampEq_is (e, f) (0, 0) false (decide_eq_false H0) w
                  obtain rfl : D = false := by
                    cases D with
                    | false => rfl
                    | true =>
                      exfalso
                      obtain ⟨x1, x2, x3⟩ := hD.1 rfl
                      rcases x3 with ⟨y, _⟩ | ⟨y, _⟩ | ⟨y, _⟩ | ⟨y, _⟩ | ⟨y, z0, z1, z2⟩
                      · exact absurd (show k = 1 from y) (by omega)
                      · exact absurd (show k = 2 from y) (by omega)
                      · exact absurd (show k = 3 from y) (by omega)
                      · exact absurd (show k = 4 from y) (by omega)
                      · exact H0 z0
                  obtain ⟨A3, hA3⟩ : ∃ A, decide (ParS (e, f)) = A := ⟨_, rfl⟩
                  obtain ⟨A4, hA4⟩ : ∃ x, NameE s x := nameX_is s
                  clear hD h1 h2 hk1 hk2 hk3 hk4 hk5 H0
                  go_enter Tryz.func83, Tryz.ntmps83
                  go_wp2_with fail
                  generalize hq : World.alloc w _ = w0
                  have hb0 : Below w.heap.size w w0 := by rw [← hq]; exact below_new w _
                  have hr0 : Below w0.heap.size w0 w0 := Below.refl _ _
                  have hlt : w.heap.size < w0.heap.size := by rw [← hq]; simp
                  have c0 : ∀ w', Below w0.heap.size w0 w' → w'.cell? ⟨w.heap.size, 0, none⟩ = some (.int .i64 k) := fun w' hb => by
                    rw [hb.cell (p := ⟨w.heap.size, 0, none⟩) hlt, ← hq]; simp
                  have c1 : ∀ w', Below w0.heap.size w0 w' → w'.cell? ⟨w.heap.size, 1, none⟩ = some (.int .i64 a) := fun w' hb => by
                    rw [hb.cell (p := ⟨w.heap.size, 1, none⟩) hlt, ← hq]; simp
                  have c2 : ∀ w', Below w0.heap.size w0 w' → w'.cell? ⟨w.heap.size, 2, none⟩ = some (.int .i64 b) := fun w' hb => by
                    rw [hb.cell (p := ⟨w.heap.size, 2, none⟩) hlt, ← hq]; simp
                  have c3 : ∀ w', Below w0.heap.size w0 w' → w'.cell? ⟨w.heap.size, 3, none⟩ = some (.int .i64 c) := fun w' hb => by
                    rw [hb.cell (p := ⟨w.heap.size, 3, none⟩) hlt, ← hq]; simp
                  have c4 : ∀ w', Below w0.heap.size w0 w' → w'.cell? ⟨w.heap.size, 4, none⟩ = some (.int .i64 d) := fun w' hb => by
                    rw [hb.cell (p := ⟨w.heap.size, 4, none⟩) hlt, ← hq]; simp
                  have c5 : ∀ w', Below w0.heap.size w0 w' → w'.cell? ⟨w.heap.size, 5, none⟩ = some (.int .i64 e) := fun w' hb => by
                    rw [hb.cell (p := ⟨w.heap.size, 5, none⟩) hlt, ← hq]; simp
                  have c6 : ∀ w', Below w0.heap.size w0 w' → w'.cell? ⟨w.heap.size, 6, none⟩ = some (.int .i64 f) := fun w' hb => by
                    rw [hb.cell (p := ⟨w.heap.size, 6, none⟩) hlt, ← hq]; simp
                  have c7 : ∀ w', Below w0.heap.size w0 w' → w'.cell? ⟨w.heap.size, 7, none⟩ = some (.string s) := fun w' hb => by
                    rw [hb.cell (p := ⟨w.heap.size, 7, none⟩) hlt, ← hq]; simp
                  have c8 : ∀ w', Below w0.heap.size w0 w' → w'.cell? ⟨w.heap.size, 8, none⟩ = some (.string t) := fun w' hb => by
                    rw [hb.cell (p := ⟨w.heap.size, 8, none⟩) hlt, ← hq]; simp
                  have C1 : Hid (∀ w', Below w0.heap.size w0 w' → _) := fun w' hb => mayS_on (a, b) _ hA1 w0 w' hb
                  have C2 : Hid (∀ w', Below w0.heap.size w0 w' → _) := fun w' hb => mayS_on (c, d) _ hA2 w0 w' hb
                  have C3 : Hid (∀ w', Below w0.heap.size w0 w' → _) := fun w' hb => par_on (e, f) _ hA3 w0 w' hb
                  have C4 : Hid (∀ w', Below w0.heap.size w0 w' → _) := fun w' hb => name_on s _ hA4 w0 w' hb hs
                  clear hq hA1 hA2 hA3 hA4 hs
                  refine (C1.out _ hr0).mono ?_
                  rintro e1 w1 ⟨rfl, hb1⟩
                  clear C1
                  go_wp2_with (first
                    | (go_at_call 65; refine (C2.out _ (by assumption)).mono ?_; rintro e1 w2 ⟨rfl, hb2⟩)
                    | (go_at_call 80; refine (C3.out _ (by assumption)).mono ?_; rintro e1 w3 ⟨rfl, hb3⟩)
                    | (go_at_call 79; refine (C4.out _ (by assumption)).mono ?_; rintro e1 w4 ⟨rfl, hb4⟩))
                  go_ret
                  exact ⟨rfl, below_step hb0 (Nat.le_refl _) (by assumption)⟩
              · skip
                have gk5 : (k == 5) = false := by rw [beq_eq_false_iff_ne]; exact hk5
                obtain rfl : D = false := by
                  cases D with
                  | false => rfl
                  | true =>
                    exfalso
                    obtain ⟨x1, x2, x3⟩ := hD.1 rfl
                    rcases x3 with ⟨y, _⟩ | ⟨y, _⟩ | ⟨y, _⟩ | ⟨y, _⟩ | ⟨y, _⟩
                    · exact absurd (show k = 1 from y) (by omega)
                    · exact absurd (show k = 2 from y) (by omega)
                    · exact absurd (show k = 3 from y) (by omega)
                    · exact absurd (show k = 4 from y) (by omega)
                    · exact absurd (show k = 5 from y) (by omega)
                obtain ⟨A3, hA3⟩ : ∃ A, decide (ParS (e, f)) = A := ⟨_, rfl⟩
                obtain ⟨A4, hA4⟩ : ∃ x, NameE s x := nameX_is s
                have hE2 := fun w => stampEq e f 0 0 w
                clear hD h1 h2 hk1 hk2 hk3 hk4 hk5
                go_enter Tryz.func83, Tryz.ntmps83
                go_wp2_with fail
                generalize hq : World.alloc w _ = w0
                have hb0 : Below w.heap.size w w0 := by rw [← hq]; exact below_new w _
                have hr0 : Below w0.heap.size w0 w0 := Below.refl _ _
                have hlt : w.heap.size < w0.heap.size := by rw [← hq]; simp
                have c0 : ∀ w', Below w0.heap.size w0 w' → w'.cell? ⟨w.heap.size, 0, none⟩ = some (.int .i64 k) := fun w' hb => by
                  rw [hb.cell (p := ⟨w.heap.size, 0, none⟩) hlt, ← hq]; simp
                have c1 : ∀ w', Below w0.heap.size w0 w' → w'.cell? ⟨w.heap.size, 1, none⟩ = some (.int .i64 a) := fun w' hb => by
                  rw [hb.cell (p := ⟨w.heap.size, 1, none⟩) hlt, ← hq]; simp
                have c2 : ∀ w', Below w0.heap.size w0 w' → w'.cell? ⟨w.heap.size, 2, none⟩ = some (.int .i64 b) := fun w' hb => by
                  rw [hb.cell (p := ⟨w.heap.size, 2, none⟩) hlt, ← hq]; simp
                have c3 : ∀ w', Below w0.heap.size w0 w' → w'.cell? ⟨w.heap.size, 3, none⟩ = some (.int .i64 c) := fun w' hb => by
                  rw [hb.cell (p := ⟨w.heap.size, 3, none⟩) hlt, ← hq]; simp
                have c4 : ∀ w', Below w0.heap.size w0 w' → w'.cell? ⟨w.heap.size, 4, none⟩ = some (.int .i64 d) := fun w' hb => by
                  rw [hb.cell (p := ⟨w.heap.size, 4, none⟩) hlt, ← hq]; simp
                have c5 : ∀ w', Below w0.heap.size w0 w' → w'.cell? ⟨w.heap.size, 5, none⟩ = some (.int .i64 e) := fun w' hb => by
                  rw [hb.cell (p := ⟨w.heap.size, 5, none⟩) hlt, ← hq]; simp
                have c6 : ∀ w', Below w0.heap.size w0 w' → w'.cell? ⟨w.heap.size, 6, none⟩ = some (.int .i64 f) := fun w' hb => by
                  rw [hb.cell (p := ⟨w.heap.size, 6, none⟩) hlt, ← hq]; simp
                have c7 : ∀ w', Below w0.heap.size w0 w' → w'.cell? ⟨w.heap.size, 7, none⟩ = some (.string s) := fun w' hb => by
                  rw [hb.cell (p := ⟨w.heap.size, 7, none⟩) hlt, ← hq]; simp
                have c8 : ∀ w', Below w0.heap.size w0 w' → w'.cell? ⟨w.heap.size, 8, none⟩ = some (.string t) := fun w' hb => by
                  rw [hb.cell (p := ⟨w.heap.size, 8, none⟩) hlt, ← hq]; simp
                have C1 : Hid (∀ w', Below w0.heap.size w0 w' → _) := fun w' hb => mayS_on (a, b) _ hA1 w0 w' hb
                have C2 : Hid (∀ w', Below w0.heap.size w0 w' → _) := fun w' hb => mayS_on (c, d) _ hA2 w0 w' hb
                have C3 : Hid (∀ w', Below w0.heap.size w0 w' → _) := fun w' hb => par_on (e, f) _ hA3 w0 w' hb
                have C4 : Hid (∀ w', Below w0.heap.size w0 w' → _) := fun w' hb => name_on s _ hA4 w0 w' hb hs
                clear hq hA1 hA2 hA3 hA4 hs
                refine (C1.out _ hr0).mono ?_
                rintro e1 w1 ⟨rfl, hb1⟩
                clear C1
                go_wp2_with (first
                  | (go_at_call 65; refine (C2.out _ (by assumption)).mono ?_; rintro e1 w2 ⟨rfl, hb2⟩)
                  | (go_at_call 80; refine (C3.out _ (by assumption)).mono ?_; rintro e1 w3 ⟨rfl, hb3⟩)
                  | (go_at_call 79; refine (C4.out _ (by assumption)).mono ?_; rintro e1 w4 ⟨rfl, hb4⟩))
                go_ret
                exact ⟨rfl, below_step hb0 (Nat.le_refl _) (by assumption)⟩
    · obtain ⟨A2, hA2, rfl⟩ : ∃ A, decide (MayS (c, d)) = A ∧ A = false := ⟨_, rfl, decide_eq_false h2⟩
      obtain rfl : D = false := by
        cases D with
        | false => rfl
        | true =>
          exfalso
          obtain ⟨x1, x2, x3⟩ := hD.1 rfl
          exact h2 x2
      obtain ⟨A3, hA3⟩ : ∃ A, decide (ParS (e, f)) = A := ⟨_, rfl⟩
      obtain ⟨A4, hA4⟩ : ∃ x, NameE s x := nameX_is s
      have hE2 := fun w => stampEq e f 0 0 w
      clear hD h1 h2
      go_enter Tryz.func83, Tryz.ntmps83
      go_wp2_with fail
      generalize hq : World.alloc w _ = w0
      have hb0 : Below w.heap.size w w0 := by rw [← hq]; exact below_new w _
      have hr0 : Below w0.heap.size w0 w0 := Below.refl _ _
      have hlt : w.heap.size < w0.heap.size := by rw [← hq]; simp
      have c0 : ∀ w', Below w0.heap.size w0 w' → w'.cell? ⟨w.heap.size, 0, none⟩ = some (.int .i64 k) := fun w' hb => by
        rw [hb.cell (p := ⟨w.heap.size, 0, none⟩) hlt, ← hq]; simp
      have c1 : ∀ w', Below w0.heap.size w0 w' → w'.cell? ⟨w.heap.size, 1, none⟩ = some (.int .i64 a) := fun w' hb => by
        rw [hb.cell (p := ⟨w.heap.size, 1, none⟩) hlt, ← hq]; simp
      have c2 : ∀ w', Below w0.heap.size w0 w' → w'.cell? ⟨w.heap.size, 2, none⟩ = some (.int .i64 b) := fun w' hb => by
        rw [hb.cell (p := ⟨w.heap.size, 2, none⟩) hlt, ← hq]; simp
      have c3 : ∀ w', Below w0.heap.size w0 w' → w'.cell? ⟨w.heap.size, 3, none⟩ = some (.int .i64 c) := fun w' hb => by
        rw [hb.cell (p := ⟨w.heap.size, 3, none⟩) hlt, ← hq]; simp
      have c4 : ∀ w', Below w0.heap.size w0 w' → w'.cell? ⟨w.heap.size, 4, none⟩ = some (.int .i64 d) := fun w' hb => by
        rw [hb.cell (p := ⟨w.heap.size, 4, none⟩) hlt, ← hq]; simp
      have c5 : ∀ w', Below w0.heap.size w0 w' → w'.cell? ⟨w.heap.size, 5, none⟩ = some (.int .i64 e) := fun w' hb => by
        rw [hb.cell (p := ⟨w.heap.size, 5, none⟩) hlt, ← hq]; simp
      have c6 : ∀ w', Below w0.heap.size w0 w' → w'.cell? ⟨w.heap.size, 6, none⟩ = some (.int .i64 f) := fun w' hb => by
        rw [hb.cell (p := ⟨w.heap.size, 6, none⟩) hlt, ← hq]; simp
      have c7 : ∀ w', Below w0.heap.size w0 w' → w'.cell? ⟨w.heap.size, 7, none⟩ = some (.string s) := fun w' hb => by
        rw [hb.cell (p := ⟨w.heap.size, 7, none⟩) hlt, ← hq]; simp
      have c8 : ∀ w', Below w0.heap.size w0 w' → w'.cell? ⟨w.heap.size, 8, none⟩ = some (.string t) := fun w' hb => by
        rw [hb.cell (p := ⟨w.heap.size, 8, none⟩) hlt, ← hq]; simp
      have C1 : Hid (∀ w', Below w0.heap.size w0 w' → _) := fun w' hb => mayS_on (a, b) _ hA1 w0 w' hb
      have C2 : Hid (∀ w', Below w0.heap.size w0 w' → _) := fun w' hb => mayS_on (c, d) _ hA2 w0 w' hb
      have C3 : Hid (∀ w', Below w0.heap.size w0 w' → _) := fun w' hb => par_on (e, f) _ hA3 w0 w' hb
      have C4 : Hid (∀ w', Below w0.heap.size w0 w' → _) := fun w' hb => name_on s _ hA4 w0 w' hb hs
      clear hq hA1 hA2 hA3 hA4 hs
      refine (C1.out _ hr0).mono ?_
      rintro e1 w1 ⟨rfl, hb1⟩
      clear C1
      go_wp2_with (first
        | (go_at_call 65; refine (C2.out _ (by assumption)).mono ?_; rintro e1 w2 ⟨rfl, hb2⟩)
        | (go_at_call 80; refine (C3.out _ (by assumption)).mono ?_; rintro e1 w3 ⟨rfl, hb3⟩)
        | (go_at_call 79; refine (C4.out _ (by assumption)).mono ?_; rintro e1 w4 ⟨rfl, hb4⟩))
      go_ret
      exact ⟨rfl, below_step hb0 (Nat.le_refl _) (by assumption)⟩
  · obtain ⟨A1, hA1, rfl⟩ : ∃ A, decide (MayS (a, b)) = A ∧ A = false := ⟨_, rfl, decide_eq_false h1⟩
    obtain ⟨A2, hA2⟩ : ∃ A, decide (MayS (c, d)) = A := ⟨_, rfl⟩
    obtain rfl : D = false := by
      cases D with
      | false => rfl
      | true =>
        exfalso
        obtain ⟨x1, x2, x3⟩ := hD.1 rfl
        exact h1 x1
    obtain ⟨A3, hA3⟩ : ∃ A, decide (ParS (e, f)) = A := ⟨_, rfl⟩
    obtain ⟨A4, hA4⟩ : ∃ x, NameE s x := nameX_is s
    have hE2 := fun w => stampEq e f 0 0 w
    clear hD h1
    go_enter Tryz.func83, Tryz.ntmps83
    go_wp2_with fail
    generalize hq : World.alloc w _ = w0
    have hb0 : Below w.heap.size w w0 := by rw [← hq]; exact below_new w _
    have hr0 : Below w0.heap.size w0 w0 := Below.refl _ _
    have hlt : w.heap.size < w0.heap.size := by rw [← hq]; simp
    have c0 : ∀ w', Below w0.heap.size w0 w' → w'.cell? ⟨w.heap.size, 0, none⟩ = some (.int .i64 k) := fun w' hb => by
      rw [hb.cell (p := ⟨w.heap.size, 0, none⟩) hlt, ← hq]; simp
    have c1 : ∀ w', Below w0.heap.size w0 w' → w'.cell? ⟨w.heap.size, 1, none⟩ = some (.int .i64 a) := fun w' hb => by
      rw [hb.cell (p := ⟨w.heap.size, 1, none⟩) hlt, ← hq]; simp
    have c2 : ∀ w', Below w0.heap.size w0 w' → w'.cell? ⟨w.heap.size, 2, none⟩ = some (.int .i64 b) := fun w' hb => by
      rw [hb.cell (p := ⟨w.heap.size, 2, none⟩) hlt, ← hq]; simp
    have c3 : ∀ w', Below w0.heap.size w0 w' → w'.cell? ⟨w.heap.size, 3, none⟩ = some (.int .i64 c) := fun w' hb => by
      rw [hb.cell (p := ⟨w.heap.size, 3, none⟩) hlt, ← hq]; simp
    have c4 : ∀ w', Below w0.heap.size w0 w' → w'.cell? ⟨w.heap.size, 4, none⟩ = some (.int .i64 d) := fun w' hb => by
      rw [hb.cell (p := ⟨w.heap.size, 4, none⟩) hlt, ← hq]; simp
    have c5 : ∀ w', Below w0.heap.size w0 w' → w'.cell? ⟨w.heap.size, 5, none⟩ = some (.int .i64 e) := fun w' hb => by
      rw [hb.cell (p := ⟨w.heap.size, 5, none⟩) hlt, ← hq]; simp
    have c6 : ∀ w', Below w0.heap.size w0 w' → w'.cell? ⟨w.heap.size, 6, none⟩ = some (.int .i64 f) := fun w' hb => by
      rw [hb.cell (p := ⟨w.heap.size, 6, none⟩) hlt, ← hq]; simp
    have c7 : ∀ w', Below w0.heap.size w0 w' → w'.cell? ⟨w.heap.size, 7, none⟩ = some (.string s) := fun w' hb => by
      rw [hb.cell (p := ⟨w.heap.size, 7, none⟩) hlt, ← hq]; simp
    have c8 : ∀ w', Below w0.heap.size w0 w' → w'.cell? ⟨w.heap.size, 8, none⟩ = some (.string t) := fun w' hb => by
      rw [hb.cell (p := ⟨w.heap.size, 8, none⟩) hlt, ← hq]; simp
    have C1 : Hid (∀ w', Below w0.heap.size w0 w' → _) := fun w' hb => mayS_on (a, b) _ hA1 w0 w' hb
    have C2 : Hid (∀ w', Below w0.heap.size w0 w' → _) := fun w' hb => mayS_on (c, d) _ hA2 w0 w' hb
    have C3 : Hid (∀ w', Below w0.heap.size w0 w' → _) := fun w' hb => par_on (e, f) _ hA3 w0 w' hb
    have C4 : Hid (∀ w', Below w0.heap.size w0 w' → _) := fun w' hb => name_on s _ hA4 w0 w' hb hs
    clear hq hA1 hA2 hA3 hA4 hs
    refine (C1.out _ hr0).mono ?_
    rintro e1 w1 ⟨rfl, hb1⟩
    clear C1
    go_wp2_with (first
      | (go_at_call 65; refine (C2.out _ (by assumption)).mono ?_; rintro e1 w2 ⟨rfl, hb2⟩)
      | (go_at_call 80; refine (C3.out _ (by assumption)).mono ?_; rintro e1 w3 ⟨rfl, hb3⟩)
      | (go_at_call 79; refine (C4.out _ (by assumption)).mono ?_; rintro e1 w4 ⟨rfl, hb4⟩))
    go_ret
    exact ⟨rfl, below_step hb0 (Nat.le_refl _) (by assumption)⟩

end Go.Proofs.YtogbkfakihnbdaaGreatDoor

/- Layer 11 on plain data: operations put among others. -/
namespace Go.Proofs.YtogbkfakihnbdaaGreatDoor
open Go.RowKit
set_option linter.unusedSimpArgs false

/-- A tree: nodes for good, operations, the base. -/
abbrev TreeT := List NodeT × List OpT × (Int × Int)

/-- Where an operation is put; how many are OpCreate; is there one with a stamp? -/
def posO (s : Int × Int) (ops : List OpT) : Nat := ops.findIdx (fun x => decide (LessS s x.2.1))

def creO (ops : List OpT) : Nat := ops.countP (fun x => decide (x.1 = 1))

def dupO (s : Int × Int) (ops : List OpT) : Bool := ops.any (fun x => decide (x.2.1 = s))

def putO (o : OpT) (ops : List OpT) : List OpT := ops.take (posO o.2.1 ops) ++ o :: ops.drop (posO o.2.1 ops)

/-- A tree behind an operation that comes, and what is answered. (M: which operations may be.) -/
def applyP (M : OpT → Bool) (t : TreeT) (o : OpT) : TreeT × Int :=
  if M o = false ∨ ¬ LessS t.2.2 o.2.1 then (t, 1)
  else if dupO o.2.1 t.2.1 = true then (t, 0)
  else if 512 ≤ t.2.1.length ∨ (o.1 = 1 ∧ 512 ≤ t.1.length + creO t.2.1) then (t, 2)
  else ((t.1, putO o t.2.1, t.2.2), 0)

theorem mayM_ex : ∃ M : OpT → Bool, ∀ o, M o = true ↔ MayO o :=
  ⟨fun o => @decide (MayO o) (Classical.propDecidable _), fun o => by simp⟩

theorem drop_oL (ops : List OpT) (m : Nat) (h : m < ops.length) : ops.drop m = oL ops m :: ops.drop (m + 1) := by
  have e : oL ops m = ops[m] := by unfold oL; rw [List.getD_eq_getElem?_getD, List.getElem?_eq_getElem h]; rfl
  rw [e]; exact List.drop_eq_getElem_cons h

theorem posO_le (s : Int × Int) (ops : List OpT) : posO s ops ≤ ops.length := List.findIdx_le_length

theorem posO_cons (s : Int × Int) (x : OpT) (l : List OpT) : posO s (x :: l) = if LessS s x.2.1 then 0 else posO s l + 1 := by
  unfold posO
  rw [List.findIdx_cons]
  by_cases h : LessS s x.2.1
  · rw [if_pos h, decide_eq_true h]; rfl
  · rw [if_neg h, decide_eq_false h]; rfl

theorem creO_cons (x : OpT) (l : List OpT) : creO (x :: l) = creO l + (if x.1 = 1 then 1 else 0) := by
  unfold creO
  rw [List.countP_cons]
  simp

theorem dupO_cons (s : Int × Int) (x : OpT) (l : List OpT) : dupO s (x :: l) = (decide (x.2.1 = s) || dupO s l) := rfl

theorem creO_le (l : List OpT) : creO l ≤ l.length := List.countP_le_length

theorem posO_at (s : Int × Int) (ops : List OpT) (k : Nat) (hk : k < ops.length) (h : ∀ i, i < k → ¬ LessS s (oL ops i).2.1) (hl : LessS s (oL ops k).2.1) : posO s ops = k := by
  have e : ∀ i (hi : i < ops.length), oL ops i = ops[i] := fun i hi => by unfold oL; rw [List.getD_eq_getElem?_getD, List.getElem?_eq_getElem hi]; rfl
  unfold posO
  rw [List.findIdx_eq hk]
  refine ⟨by rw [← e k hk]; exact decide_eq_true hl, fun j hj => ?_⟩
  rw [← e j (by omega)]; exact decide_eq_false (h j hj)

theorem posO_all (s : Int × Int) (ops : List OpT) (h : ∀ i, i < ops.length → ¬ LessS s (oL ops i).2.1) : posO s ops = ops.length := by
  unfold posO
  rw [List.findIdx_eq_length]
  intro x hx
  obtain ⟨i, hi, rfl⟩ := List.getElem_of_mem hx
  have e : oL ops i = ops[i] := by unfold oL; rw [List.getD_eq_getElem?_getD, List.getElem?_eq_getElem hi]; rfl
  rw [← e]; exact decide_eq_false (h i hi)

end Go.Proofs.YtogbkfakihnbdaaGreatDoor

/- Layer 11 on plain data: the order in which operations come does not matter; nor when what is for good is so. -/
namespace Go.Proofs.YtogbkfakihnbdaaGreatDoor
open Go.RowKit
set_option linter.unusedSimpArgs false

/-- Operations by rising stamps. -/
def SortO (l : List OpT) : Prop := l.Pairwise (fun a b => LessS a.2.1 b.2.1)

theorem putO_cons (o x : OpT) (l : List OpT) : putO o (x :: l) = if LessS o.2.1 x.2.1 then o :: x :: l else x :: putO o l := by
  unfold putO
  rw [posO_cons]
  by_cases h : LessS o.2.1 x.2.1
  · rw [if_pos h, if_pos h]; rfl
  · rw [if_neg h, if_neg h]; rfl

theorem putO_mem (o : OpT) (l : List OpT) (y : OpT) : y ∈ putO o l ↔ y = o ∨ y ∈ l := by
  induction l with
  | nil => simp [putO, posO]
  | cons x l ih =>
    rw [putO_cons]
    by_cases h : LessS o.2.1 x.2.1
    · rw [if_pos h, List.mem_cons]
    · rw [if_neg h, List.mem_cons, ih, List.mem_cons]
      constructor
      · rintro (h | h | h)
        · exact .inr (.inl h)
        · exact .inl h
        · exact .inr (.inr h)
      · rintro (h | h | h)
        · exact .inr (.inl h)
        · exact .inl h
        · exact .inr (.inr h)

theorem putO_sort (o : OpT) (l : List OpT) (h : SortO l) (hd : dupO o.2.1 l = false) : SortO (putO o l) := by
  induction l with
  | nil => exact List.pairwise_singleton _ _
  | cons x l ih =>
    unfold SortO at h
    rw [List.pairwise_cons] at h
    rw [dupO_cons, Bool.or_eq_false_iff] at hd
    have hne : x.2.1 ≠ o.2.1 := by simpa using hd.1
    rw [putO_cons]
    by_cases hl : LessS o.2.1 x.2.1
    · rw [if_pos hl]
      unfold SortO
      rw [List.pairwise_cons]
      refine ⟨fun y hy => ?_, List.pairwise_cons.2 h⟩
      rcases List.mem_cons.1 hy with rfl | hy
      · exact hl
      · exact lessS_trans _ _ _ hl (h.1 y hy)
    · rw [if_neg hl]
      unfold SortO
      rw [List.pairwise_cons]
      refine ⟨fun y hy => ?_, ih h.2 hd.2⟩
      rcases (putO_mem o l y).1 hy with rfl | hy
      · exact lessS_or _ _ hl (fun e => hne e.symm)
      · exact h.1 y hy

theorem dupO_iff (s : Int × Int) (l : List OpT) : dupO s l = true ↔ ∃ x ∈ l, x.2.1 = s := by
  unfold dupO
  rw [List.any_eq_true]
  simp

end Go.Proofs.YtogbkfakihnbdaaGreatDoor

/- Layer 11 on plain data: what is for good; no ring. -/
namespace Go.Proofs.YtogbkfakihnbdaaGreatDoor
open Go.RowKit
set_option linter.unusedSimpArgs false

/-- No ring: each node's parent is the root, the trash, or a node, and stands nearer to them. -/
structure Rooted (l : List NodeT) : Prop where
  sort : SortN l
  may : ∀ x ∈ l, MayS x.1
  par : ∀ x ∈ l, ParS x.2.1 ∧ (x.2.1.1 = 0 ∨ ∃ y ∈ l, y.1 = x.2.1)
  rank : ∃ rk : Int × Int → Nat, ∀ x ∈ l, ∀ y ∈ l, y.1 = x.2.1 → rk y.1 < rk x.1

theorem nL_mem (l : List NodeT) (j : Nat) (h : j < l.length) : nL l j ∈ l := by
  unfold nL; rw [List.getD_eq_getElem?_getD, List.getElem?_eq_getElem h]; exact List.getElem_mem h

theorem findI_no {l : List NodeT} {id : Int × Int} (h : findI l id < 0) : ∀ x ∈ l, x.1 ≠ id := by
  intro x hx
  rcases findI_E l id with ⟨_, h2⟩ | ⟨i, h2, _⟩
  · obtain ⟨i, hi, rfl⟩ := List.getElem_of_mem hx
    have := h2 i hi
    unfold nL at this
    rw [List.getD_eq_getElem?_getD, List.getElem?_eq_getElem hi] at this
    exact this
  · omega

theorem findI_is {l : List NodeT} {id : Int × Int} (h : ¬ findI l id < 0) : nL l (findI l id).toNat ∈ l ∧ (nL l (findI l id).toNat).1 = id := by
  rcases findI_lt l id with h2 | ⟨k, h2, h3, h4⟩
  · omega
  · rw [h2, Int.toNat_natCast]; exact ⟨nL_mem l k h3, h4⟩

end Go.Proofs.YtogbkfakihnbdaaGreatDoor

/- Layer 11 on plain data: no ring, whatever is done; parents lead up in fewer steps than there are nodes. -/
namespace Go.Proofs.YtogbkfakihnbdaaGreatDoor
open Go.RowKit
set_option linter.unusedSimpArgs false

/-- As many as fit. -/
theorem pigeon {α : Type} : ∀ (vs l : List α), vs.Nodup → (∀ v ∈ vs, v ∈ l) → vs.length ≤ l.length := by
  intro vs
  induction vs with
  | nil => intro l _ _; exact Nat.zero_le _
  | cons v vs ih =>
    intro l hn hs
    rw [List.nodup_cons] at hn
    obtain ⟨a, b, rfl⟩ := List.append_of_mem (hs v (List.mem_cons_self ..))
    have := ih (a ++ b) hn.2 (fun u hu => by
      have h1 := hs u (List.mem_cons_of_mem _ hu)
      rw [List.mem_append, List.mem_cons] at h1
      rw [List.mem_append]
      rcases h1 with h1 | rfl | h1
      · exact .inl h1
      · exact absurd hu hn.1
      · exact .inr h1)
    rw [List.length_append] at this
    rw [List.length_cons, List.length_append, List.length_cons]
    omega

/-- The node that parents lead to in so many steps. -/
def Up (l : List NodeT) (x : NodeT) : Nat → NodeT → Prop
  | 0, z => z = x
  | k + 1, z => ∃ y, Up l x k y ∧ z ∈ l ∧ z.1 = y.2.1

theorem up_few {l : List NodeT} (h : Rooted l) {x z : NodeT} (hx : x ∈ l) {k : Nat} (hu : Up l x k z) : k < l.length := by
  obtain ⟨rk, hrk⟩ := h.rank
  have key : ∃ vs : List NodeT, vs.length = k + 1 ∧ vs.Nodup ∧ (∀ v ∈ vs, v ∈ l) ∧ z ∈ vs ∧ ∀ v ∈ vs, rk z.1 ≤ rk v.1 := by
    induction k generalizing z with
    | zero =>
      have hu : z = x := hu
      subst hu
      exact ⟨[z], rfl, by simp, fun v hv => by rw [List.mem_singleton.1 hv]; exact hx, List.mem_singleton.2 rfl, fun v hv => by rw [List.mem_singleton.1 hv]; exact Nat.le_refl _⟩
    | succ k ih =>
      obtain ⟨y, hu, hz, e⟩ := hu
      obtain ⟨vs, h1, h2, h3, h4, h5⟩ := ih hu
      have hlt := hrk y (h3 y h4) z hz e
      refine ⟨z :: vs, by rw [List.length_cons, h1], List.nodup_cons.2 ⟨fun hm => ?_, h2⟩, fun v hv => ?_, List.mem_cons_self .., fun v hv => ?_⟩
      · have := h5 z hm; omega
      · rcases List.mem_cons.1 hv with rfl | hv
        · exact hz
        · exact h3 v hv
      · rcases List.mem_cons.1 hv with rfl | hv
        · exact Nat.le_refl _
        · have := h5 v hv; omega
  obtain ⟨vs, h1, h2, h3, _⟩ := key
  have := pigeon vs l h2 h3
  omega

end Go.Proofs.YtogbkfakihnbdaaGreatDoor

/- Layer 11 on plain data: what it is to do an operation, by look-ups alone. -/
namespace Go.Proofs.YtogbkfakihnbdaaGreatDoor
open Go.RowKit
set_option linter.unusedSimpArgs false

theorem find_none {l : List NodeT} {id : Int × Int} : findI l id < 0 ↔ look l id = none := by
  rw [look_none]
  refine ⟨findI_no, fun h => ?_⟩
  by_cases e : findI l id < 0
  · exact e
  · obtain ⟨h1, h2⟩ := findI_is e
    exact absurd h2 (h _ h1)

theorem find_look {l : List NodeT} (hs : SortN l) {id : Int × Int} {x : NodeT} (h : look l id = some x) : ¬ findI l id < 0 ∧ nL l (findI l id).toNat = x := by
  have hn : ¬ findI l id < 0 := fun e => by rw [find_none.1 e] at h; cases h
  obtain ⟨h1, h2⟩ := findI_is hn
  obtain ⟨k1, k2⟩ := look_mem h
  exact ⟨hn, sortN_uniq hs h1 k1 (h2.trans k2.symm)⟩

/-- Is a stamp that of a parent, among nodes? -/
def holdB (l : List NodeT) (p : Int × Int) : Bool := (look l p).isSome || (decide (p = (0, 0)) || decide (p = (0, 1)))

/-- Is a stamp a node's, or below it, in so many steps? -/
def withinF (l : List NodeT) (id : Int × Int) : Nat → (Int × Int) → Bool
  | 0, _ => false
  | f + 1, p => if p = id then true else match look l p with
    | none => false
    | some n => withinF l id f n.2.1

def Lead (l : List NodeT) : Nat → Int × Int → Int × Int → Prop
  | 0, p, q => p = q
  | f + 1, p, q => ∃ x ∈ l, x.1 = p ∧ Lead l f x.2.1 q

theorem underF_no {l : List NodeT} {id p : Int × Int} {f : Nat} (e : p ≠ id) (h : look l p = none) : underF l id (f + 1) p = false := by
  show (if p = id then true else if findI l p < 0 then false else _) = _
  rw [if_neg e, if_pos (find_none.2 h)]

theorem underF_on {l : List NodeT} (hs : SortN l) {id p : Int × Int} {x : NodeT} {f : Nat} (e : p ≠ id) (h : look l p = some x) : underF l id (f + 1) p = underF l id f x.2.1 := by
  obtain ⟨h1, h2⟩ := find_look hs h
  show (if p = id then true else if findI l p < 0 then false else underF l id f (nL l (findI l p).toNat).2.1) = _
  rw [if_neg e, if_neg h1, h2]

theorem withinF_no {l : List NodeT} {id p : Int × Int} {f : Nat} (e : p ≠ id) (h : look l p = none) : withinF l id (f + 1) p = false := by
  unfold withinF; rw [if_neg e, h]

theorem withinF_on {l : List NodeT} {id p : Int × Int} {x : NodeT} {f : Nat} (e : p ≠ id) (h : look l p = some x) : withinF l id (f + 1) p = withinF l id f x.2.1 := by
  show (if p = id then true else match look l p with | none => false | some n => withinF l id f n.2.1) = _
  rw [if_neg e, h]

theorem within_yes {l : List NodeT} (hs : SortN l) {id : Int × Int} : ∀ (f : Nat) (p : Int × Int), withinF l id f p = true → ∀ g, underF l id (f + g) p = true := by
  intro f
  induction f with
  | zero => intro p h; cases h
  | succ f ih =>
    intro p h g
    rw [show f + 1 + g = (f + g) + 1 by omega]
    by_cases e : p = id
    · unfold underF; rw [if_pos e]
    · cases hl : look l p with
      | none => rw [withinF_no e hl] at h; cases h
      | some x => rw [withinF_on e hl] at h; rw [underF_on hs e hl]; exact ih _ h g

theorem within_no {l : List NodeT} (hs : SortN l) {id : Int × Int} : ∀ (f : Nat) (p : Int × Int), withinF l id f p = false → (∀ g, underF l id (f + g) p = false) ∨ ∃ q, Lead l f p q ∧ ∀ g, underF l id (f + g) p = underF l id g q := by
  intro f
  induction f with
  | zero => intro p _; exact .inr ⟨p, rfl, fun g => by rw [Nat.zero_add]⟩
  | succ f ih =>
    intro p h
    by_cases e : p = id
    · unfold withinF at h; rw [if_pos e] at h; cases h
    · cases hl : look l p with
      | none => exact .inl (fun g => by rw [show f + 1 + g = (f + g) + 1 by omega]; exact underF_no e hl)
      | some x =>
        rw [withinF_on e hl] at h
        obtain ⟨h1, h2⟩ := look_mem hl
        rcases ih _ h with k | ⟨q, k1, k2⟩
        · exact .inl (fun g => by rw [show f + 1 + g = (f + g) + 1 by omega, underF_on hs e hl]; exact k g)
        · exact .inr ⟨q, ⟨x, h1, h2, k1⟩, fun g => by rw [show f + 1 + g = (f + g) + 1 by omega, underF_on hs e hl]; exact k2 g⟩

theorem lead_up {l : List NodeT} {x y : NodeT} {q : Int × Int} (hy : y ∈ l) (e : y.1 = q) : ∀ (f k : Nat) (z : NodeT), Up l x k z → Lead l f z.2.1 q → Up l x (k + f + 1) y := by
  intro f
  induction f with
  | zero => intro k z hu hl; exact ⟨z, hu, hy, by have : z.2.1 = q := hl; rw [e, this]⟩
  | succ f ih =>
    intro k z hu hl
    obtain ⟨x', h1, h2, h3⟩ := hl
    have := ih (k + 1) x' ⟨z, hu, h1, h2⟩ h3
    rw [show k + 1 + f + 1 = k + (f + 1) + 1 by omega] at this
    exact this

theorem within_under {l : List NodeT} (h : Rooted l) {id : Int × Int} (hid : ∃ y ∈ l, y.1 = id) (p : Int × Int) : withinF l id l.length p = underF l id (l.length + 1) p := by
  cases hw : withinF l id l.length p with
  | true => exact (within_yes h.sort _ _ hw 1).symm
  | false =>
    rcases within_no h.sort _ _ hw with k | ⟨q, k1, k2⟩
    · exact (k 1).symm
    · rw [k2 1]
      cases hu : underF l id 1 q with
      | false => rfl
      | true =>
        exfalso
        obtain ⟨y, hy, e⟩ : ∃ y ∈ l, y.1 = q := by
          by_cases e : q = id
          · rw [e]; exact hid
          · cases hl : look l q with
            | none => rw [underF_no e hl] at hu; cases hu
            | some y => exact ⟨y, (look_mem hl).1, (look_mem hl).2⟩
        obtain ⟨n, hn⟩ : ∃ n, l.length = n + 1 := by
          cases hln : l.length with
          | zero => rw [List.length_eq_zero_iff.1 hln] at hy; exact absurd hy List.not_mem_nil
          | succ n => exact ⟨n, rfl⟩
        rw [hn] at k1
        obtain ⟨x, h1, _, h3⟩ := k1
        have := up_few h h1 (lead_up hy e n 0 x rfl h3)
        omega

end Go.Proofs.YtogbkfakihnbdaaGreatDoor
