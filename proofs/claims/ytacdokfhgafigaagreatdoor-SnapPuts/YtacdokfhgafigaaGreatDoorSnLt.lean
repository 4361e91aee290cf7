import Derived.Test.YtacdokfhgafigaaGreatDoorRSnE
/- The law's light (layer 13). -/
namespace Go.Proofs.YtacdokfhgafigaaGreatDoor
open Go.RowKit
set_option linter.unusedSimpArgs false

/-- A tree of few parts, of few bytes. -/
def LightT (l : List NodeT) (ops : List OpT) : Prop := l.length ≤ 30 ∧ ops.length ≤ 30 ∧ (∀ k, k < l.length → (nL l k).2.2.1.size ≤ 200 ∧ (nL l k).2.2.2.size ≤ 200) ∧ ∀ k, k < ops.length → LightO (oL ops k)

set_option maxRecDepth 100000 in
set_option maxHeartbeats 8000000 in
theorem light_any (l : List NodeT) (ops : List OpT) (b1 b2 : Int) (a1 a2 : Option Addr) (c1 c2 : Nat) (w : World) (L : Bool) (HL : Hid (L = true ↔ LightT l ops))
    (HSO : Hid (∀ k, k < ops.length → (oL ops k).2.2.2.2.1.size ≤ maxLen ∧ (oL ops k).2.2.2.2.2.size ≤ maxLen)) (H1 : Hid (NodesAt w a1 l.length l)) (H2 : Hid (OpsAt w a2 ops.length ops)) :
    Calls Tryz.prog 5 #[.agg #[.slice a1 l.length c1, .slice a2 ops.length c2, .int .i64 b1, .int .i64 b2]] w fun e w' => e = .returned (.bool L) ∧ Below w.heap.size w w' := by
  have HF : Hid (¬ LightT l ops → L = false) := fun h => by
    cases L with
    | false => rfl
    | true => exact absurd (HL.out.1 rfl) h
  have HT : Hid (LightT l ops → L = true) := HL.out.2
  obtain ⟨n1, hn1⟩ : ∃ n1, l.length = n1 := ⟨_, rfl⟩
  obtain ⟨n2, hn2⟩ : ∃ n2, ops.length = n2 := ⟨_, rfl⟩
  have HN1 : Hid (l.length = n1) := hn1
  have HN2 : Hid (ops.length = n2) := hn2
  simp only [hn1, hn2] at H1 H2 ⊢
  clear hn1 hn2 HL
  have HS0 : Hid (SpS w w.heap.size #[.slice a1 n1 c1, .slice a2 n2 c2, .int .i64 b1, .int .i64 b2] (w.alloc (.cells #[.slice a1 n1 c1, .slice a2 n2 c2, .int .i64 b1, .int .i64 b2] 27))) := ⟨below_new _ _, Blk.new _ _ _⟩
  go_enter Tryz.func5, Tryz.ntmps5
  by_cases g1 : 30 < n1
  · have d1 : (30 : Int) < (n1 : Int) := by omega
    obtain rfl := HF.out (fun h => by have := h.1; rw [HN1.out] at this; omega)
    go_wp2_with fail
    go_ret
    exact ⟨rfl, HS0.out.bel⟩
  have d1 : ¬ ((30 : Int) < (n1 : Int)) := by omega
  by_cases g2 : 30 < n2
  · have d2 : (30 : Int) < (n2 : Int) := by omega
    obtain rfl := HF.out (fun h => by have := h.2.1; rw [HN2.out] at this; omega)
    go_wp2_with fail
    go_ret
    exact ⟨rfl, HS0.out.bel⟩
  have d2 : ¬ ((30 : Int) < (n2 : Int)) := by omega
  go_wp2_with fail
  obtain ⟨w0, hw0⟩ : ∃ w0, w.alloc (.cells #[.slice a1 n1 c1, .slice a2 n2 c2, .int .i64 b1, .int .i64 b2] 27) = w0 := ⟨_, rfl⟩
  obtain ⟨h, hh⟩ : ∃ h, w.heap.size = h := ⟨_, rfl⟩
  have HS : Hid (SpS w h #[.slice a1 n1 c1, .slice a2 n2 c2, .int .i64 b1, .int .i64 b2] w0) := by show SpS _ _ _ _; rw [← hw0, ← hh]; exact HS0.out
  try rw [hw0]
  try rw [hh]
  clear hw0 hh HS0
  go_loopw [3] (fun i wr => ∃ k : Nat, k ≤ n1 ∧ i = .int .i64 k ∧ Hid (∀ j, j < k → (nL l j).2.2.1.size ≤ 200 ∧ (nL l j).2.2.2.size ≤ 200) ∧ Hid (SpS w h #[.slice a1 n1 c1, .slice a2 n2 c2, .int .i64 b1, .int .i64 b2] wr)) (fun i _ => n1 - (intOf i).toNat)
  case atStart => exact ⟨0, Nat.zero_le _, rfl, fun j hj => absurd hj (Nat.not_lt_zero _), HS⟩
  case round =>
    clear HS
    obtain ⟨k, hk, rfl, HA, HS⟩ := hrel
    by_cases hlt : k < n1
    · have b0 : (k : Int) < (n1 : Int) := by omega
      obtain ⟨b, off, rfl, _⟩ := H1.out.2.some (by omega)
      obtain ⟨_, _, _, _, x4, x5⟩ := (H1.out.below HS.out.bel).cells k hlt
      have q0 : wr.cell? ⟨h, 0, none⟩ = some (.slice (some ⟨b, off, none⟩) n1 c1) := HS.out.q.cell 0
      by_cases g4 : 200 < (nL l k).2.2.1.size
      · have d4 : (200 : Int) < ((nL l k).2.2.1.size : Int) := by omega
        obtain rfl := HF.out (fun h => by have := (h.2.2.1 k (by rw [HN1.out]; exact hlt)).1; omega)
        go_wp2_with fail
        go_ret
        exact ⟨rfl, HS.out.bel⟩
      have d4 : ¬ ((200 : Int) < ((nL l k).2.2.1.size : Int)) := by omega
      by_cases g5 : 200 < (nL l k).2.2.2.size
      · have d5 : (200 : Int) < ((nL l k).2.2.2.size : Int) := by omega
        obtain rfl := HF.out (fun h => by have := (h.2.2.1 k (by rw [HN1.out]; exact hlt)).2; omega)
        go_wp2_with fail
        go_ret
        exact ⟨rfl, HS.out.bel⟩
      have d5 : ¬ ((200 : Int) < ((nL l k).2.2.2.size : Int)) := by omega
      have HA' : Hid (∀ j, j < k + 1 → (nL l j).2.2.1.size ≤ 200 ∧ (nL l j).2.2.2.size ≤ 200) := fun j hj => by
        by_cases e : j = k
        · rw [e]; omega
        · exact HA.out j (by omega)
      go_wp2_with fail
      refine ⟨?_, ?_⟩
      · first
        | exact ⟨k + 1, by omega, by go_num, HA', HS⟩
        | ((repeat apply Exists.intro); refine ⟨?_, rfl⟩; exact ⟨k + 1, by omega, by go_num, HA', HS⟩)
      · simp [intOf] <;> omega
    · have b0 : ¬ ((k : Int) < (n1 : Int)) := by omega
      have q0 : wr.cell? ⟨h, 0, none⟩ = some (.slice a1 n1 c1) := HS.out.q.cell 0
      have HAl : Hid (∀ j, j < n1 → (nL l j).2.2.1.size ≤ 200 ∧ (nL l j).2.2.2.size ≤ 200) := fun j hj => HA.out j (by omega)
      have HSb := HS
      clear HA HS H1
      go_wp2_with fail
      clear q0
      go_loopw [4] (fun i wr => ∃ k : Nat, k ≤ n2 ∧ i = .int .i64 k ∧ Hid (∀ j, j < k → LightO (oL ops j)) ∧ Hid (SpS w h #[.slice a1 n1 c1, .slice a2 n2 c2, .int .i64 b1, .int .i64 b2] wr)) (fun i _ => n2 - (intOf i).toNat)
      case atStart => exact ⟨0, Nat.zero_le _, rfl, fun j hj => absurd hj (Nat.not_lt_zero _), HSb⟩
      case round =>
        clear HSb
        rename_i hrel
        obtain ⟨k, hk, rfl, HA, HS⟩ := hrel
        by_cases hlt : k < n2
        · have b0 : (k : Int) < (n2 : Int) := by omega
          obtain ⟨b, off, rfl, _⟩ := H2.out.2.some (by omega)
          obtain ⟨x0, x1, x2, x3, x4, x5, x6, x7, x8⟩ := (H2.out.below HS.out.bel).cells k hlt
          have q1 : wr.cell? ⟨h, 1, none⟩ = some (.slice (some ⟨b, off, none⟩) n2 c2) := HS.out.q.cell 1
          have hz := HSO.out k (by rw [HN2.out]; exact hlt)
          obtain ⟨X, hX⟩ : ∃ X : Bool, X = true ↔ LightO (oL ops k) := ⟨@decide (LightO (oL ops k)) (Classical.propDecidable _), by simp⟩
          have HX : Hid (X = true ↔ LightO (oL ops k)) := hX
          have CL' : ∀ W, _ := fun W => rlight_any (oL ops k) X hX W hz.1 hz.2
          obtain ⟨⟨k0, ⟨k1, k2⟩, ⟨k3, k4⟩, ⟨k5, k6⟩, s7, s8⟩, hkk⟩ : ∃ s, s = oL ops k := ⟨_, rfl⟩
          simp only [← hkk, opA] at CL'
          rw [← hkk] at x0 x1 x2 x3 x4 x5 x6 x7 x8
          simp only at x0 x1 x2 x3 x4 x5 x6 x7 x8
          have CL : Hid (∀ W, _) := CL'
          clear CL' hkk hz hX
          go_wp2_with fail
          refine (CL.out _).mono ?_
          rintro e w3 ⟨rfl, hb3⟩
          have HS3 := HS.out.on hb3
          have HS : Hid (SpS w h #[.slice a1 n1 c1, .slice (some ⟨b, off, none⟩) n2 c2, .int .i64 b1, .int .i64 b2] w3) := HS3
          clear CL hb3 HS3 x0 x1 x2 x3 x4 x5 x6 x7 x8 q1
          cases X with
          | true =>
            have HA' : Hid (∀ j, j < k + 1 → LightO (oL ops j)) := fun j hj => by
              by_cases e : j = k
              · rw [e]; exact HX.out.1 rfl
              · exact HA.out j (by omega)
            go_wp2_with fail
            refine ⟨?_, ?_⟩
            · first
              | exact ⟨k + 1, by omega, by go_num, HA', HS⟩
              | ((repeat apply Exists.intro); refine ⟨?_, rfl⟩; exact ⟨k + 1, by omega, by go_num, HA', HS⟩)
            · simp [intOf] <;> omega
          | false =>
            obtain rfl := HF.out (fun h => by have := HX.out.2 (h.2.2.2 k (by rw [HN2.out]; exact hlt)); cases this)
            go_wp2_with fail
            go_ret
            exact ⟨rfl, HS.out.bel⟩
        · have b0 : ¬ ((k : Int) < (n2 : Int)) := by omega
          have q1 : wr.cell? ⟨h, 1, none⟩ = some (.slice a2 n2 c2) := HS.out.q.cell 1
          obtain rfl := HT.out ⟨by rw [HN1.out]; omega, by rw [HN2.out]; omega, fun j hj => HAl.out j (by rw [HN1.out] at hj; exact hj), fun j hj => HA.out j (by rw [HN2.out] at hj; omega)⟩
          go_wp2_with fail
          go_ret
          exact ⟨rfl, HS.out.bel⟩
end Go.Proofs.YtacdokfhgafigaaGreatDoor
