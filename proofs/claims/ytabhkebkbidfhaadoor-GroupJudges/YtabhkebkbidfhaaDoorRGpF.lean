/- Layer 20, the document's: does. -/
import Derived.Test.YtabhkebkbidfhaaDoorRGpE
namespace Go.Proofs.YtabhkebkbidfhaaDoor
open Go.RowKit
set_option maxRecDepth 100000
set_option linter.unusedSimpArgs false
set_option linter.unusedVariables false
set_option maxRecDepth 100000

/-- A group behind what a record does, and whether it counts. -/
def doesP (G : GrpT) (epoch Kd F q : Int) : GrpT × Bool :=
  if inB G.2.1 F = false then (G, false)
  else if Kd = 1 then (if 500 ≤ G.2.2 then (G, false) else ((G.1, G.2.1, G.2.2 + 1), true))
  else if F ≠ 1 ∨ epoch ≠ G.1 ∨ 1099511627775 ≤ G.1 then (G, false)
  else if Kd = 2 then (if inB G.2.1 q = true then (G, false) else ((G.1 + 1, withM G.2.1 (q - 1).toNat (q, (mmL G.2.1 (q - 1).toNat).2.1, true), G.2.2), true))
  else if Kd = 3 then (if inB G.2.1 q = false ∨ q = 1 then (G, false) else ((G.1 + 1, withM G.2.1 (q - 1).toNat (q, (mmL G.2.1 (q - 1).toNat).2.1, false), G.2.2), true))
  else ((G.1 + 1, G.2.1, G.2.2), true)

structure DoS (w W : World) (G R : Array Value) : Prop where
  g : Blk W 24 w.heap.size G
  r : Blk W 31 (w.heap.size + 1) R
  z : Blk W 24 (w.heap.size + 1 + 1) #[.int .i64 0, .slice none 0 0, .int .i64 0]
  w : Below w.heap.size w W
theorem DoS.on {w W W' : World} {G R : Array Value} (h : DoS w W G R) (hb : Below W.heap.size W W') : DoS w W' G R := ⟨h.g.on hb, h.r.on hb, h.z.on hb, below_step h.w (Nat.le_refl _) hb⟩
theorem DoS.setG {w W : World} {G R : Array Value} (h : DoS w W G R) (i : Nat) (u : Value) : DoS w (W.setCell ⟨w.heap.size, i, none⟩ u) (G.setIfInBounds i u) R :=
  ⟨h.g.setAt i u, h.r.other ⟨w.heap.size, i, none⟩ (by show w.heap.size + 1 ≠ w.heap.size; omega) u, h.z.other ⟨w.heap.size, i, none⟩ (by show w.heap.size + 1 + 1 ≠ w.heap.size; omega) u, h.w.setCell (p := ⟨w.heap.size, i, none⟩) (Nat.le_refl _) u⟩

theorem DoS.rowG {w W : World} {G R : Array Value} (h : DoS w W G R) (G' : Array Value) : DoS w (W.setRow w.heap.size G') G' R :=
  ⟨h.g.setRow G', h.r.setRowOther w.heap.size (by omega) G', h.z.setRowOther w.heap.size (by omega) G', below_setRow h.w (Nat.le_refl _) G'⟩

theorem cell_setRowO (w : World) (g : Nat) (cs : Array Value) (p : Addr) (h : p.block ≠ g) : (w.setRow g cs).cell? p = w.cell? p := by
  have e := setRow_other w g p.block cs h
  unfold World.cell?
  rw [e]

theorem rin6_any (Ep Op : Int) (l : List MemT) (b off c : Nat) (who : Int) (w : World) (hl : l.length = 6) (hI : MmsAt w (some ⟨b, off, none⟩) 6 l) :
    Calls Tryd.prog 17 #[.agg #[.int .i64 Ep, .slice (some ⟨b, off, none⟩) 6 c, .int .i64 Op], .int .i64 who] w fun e w' => e = .returned (.bool (inB l who)) ∧ Below w.heap.size w w' := by
  have h := rin20_any (Ep, l, Op) (some ⟨b, off, none⟩) c who w (by show l.length ≤ _; omega) (by show MmsAt w _ l.length l; rw [hl]; exact hI)
  unfold grpA at h
  simp only [hl] at h
  exact h

set_option maxHeartbeats 8000000 in
theorem rdoes20_any (Ep Op epoch Kd F C S : Int) (H : ByteArray) (k0 k1 k2 k3 k4 k5 k6 : Int) (s7 s8 : ByteArray) (q : Int) (ar : Option Addr) (nr cr : Nat) (l : List MemT) (b off c : Nat) (w : World) (RE RO : Int) (Rl : List MemT) (RD : Bool) (hR : doesP (Ep, l, Op) epoch Kd F q = ((RE, Rl, RO), RD)) (hl : l.length = 6) (hc : 6 ≤ c) (hcm : c ≤ 9223372036854775807) (hO : 0 ≤ Op ∧ Op ≤ 500) (hE : 1 ≤ Ep ∧ Ep ≤ 1099511627775) (hq : Kd = 2 ∨ Kd = 3 → 1 ≤ q ∧ q ≤ 6) (hI : MmsAt w (some ⟨b, off, none⟩) 6 l) :
    Calls Tryd.prog 34 #[.agg #[.int .i64 Ep, .slice (some ⟨b, off, none⟩) 6 c, .int .i64 Op], .int .i64 epoch, .agg #[.int .i64 Kd, .int .i64 F, .int .i64 C, .int .i64 S, .string H, .int .i64 k0, .int .i64 k1, .int .i64 k2, .int .i64 k3, .int .i64 k4, .int .i64 k5, .int .i64 k6, .string s7, .string s8, .int .i64 q, .slice ar nr cr]] w (fun e w' => ∃ b' off' c', e = .returned (.tuple #[.agg #[.int .i64 RE, .slice (some ⟨b', off', none⟩) 6 c', .int .i64 RO], .bool RD]) ∧ 6 ≤ c' ∧ c' ≤ 9223372036854775807 ∧ ((b' = b ∧ off' = off ∧ Rl = l) ∨ ∃ B, w.heap.size ≤ B ∧ OwnM w' B (.slice (some ⟨b', off', none⟩) 6 c') Rl) ∧ Below w.heap.size w w') := by
  have HR : Hid (doesP (Ep, l, Op) epoch Kd F q = ((RE, Rl, RO), RD)) := hR
  have HC : Hid (6 ≤ c ∧ c ≤ 9223372036854775807) := ⟨hc, hcm⟩
  have HQ : Hid (Kd = 2 ∨ Kd = 3 → 1 ≤ q ∧ q ≤ 6) := hq
  have CI : Hid (∀ who W, Below w.heap.size w W → _) := fun who W hW => rin6_any Ep Op l b off c who W hl (hI.below hW)
  have HI : Hid (MmsAt w (some ⟨b, off, none⟩) 6 l) := hI
  have HLN : Hid (l.length = 6) := hl
  obtain ⟨X, hX⟩ : ∃ X, inB l F = X := ⟨_, rfl⟩
  have HX : Hid (inB l F = X) := hX
  obtain ⟨w0, hw0⟩ : ∃ w0, ((w.alloc (.cells #[.int .i64 Ep, .slice (some ⟨b, off, none⟩) 6 c, .int .i64 Op] 24)).alloc (.cells #[.int .i64 Kd, .int .i64 F, .int .i64 C, .int .i64 S, .string H, .int .i64 k0, .int .i64 k1, .int .i64 k2, .int .i64 k3, .int .i64 k4, .int .i64 k5, .int .i64 k6, .string s7, .string s8, .int .i64 q, .slice ar nr cr] 31)).alloc (.cells #[.int .i64 0, .slice none 0 0, .int .i64 0] 24) = w0 := ⟨_, rfl⟩
  have n0 := below_new w (.cells #[.int .i64 Ep, .slice (some ⟨b, off, none⟩) 6 c, .int .i64 Op] 24)
  have n1 := below_new (w.alloc (.cells #[.int .i64 Ep, .slice (some ⟨b, off, none⟩) 6 c, .int .i64 Op] 24)) (.cells #[.int .i64 Kd, .int .i64 F, .int .i64 C, .int .i64 S, .string H, .int .i64 k0, .int .i64 k1, .int .i64 k2, .int .i64 k3, .int .i64 k4, .int .i64 k5, .int .i64 k6, .string s7, .string s8, .int .i64 q, .slice ar nr cr] 31)
  have n2 := below_new ((w.alloc (.cells #[.int .i64 Ep, .slice (some ⟨b, off, none⟩) 6 c, .int .i64 Op] 24)).alloc (.cells #[.int .i64 Kd, .int .i64 F, .int .i64 C, .int .i64 S, .string H, .int .i64 k0, .int .i64 k1, .int .i64 k2, .int .i64 k3, .int .i64 k4, .int .i64 k5, .int .i64 k6, .string s7, .string s8, .int .i64 q, .slice ar nr cr] 31)) (.cells #[.int .i64 0, .slice none 0 0, .int .i64 0] 24)
  have HS0 : Hid (DoS w w0 #[.int .i64 Ep, .slice (some ⟨b, off, none⟩) 6 c, .int .i64 Op] #[.int .i64 Kd, .int .i64 F, .int .i64 C, .int .i64 S, .string H, .int .i64 k0, .int .i64 k1, .int .i64 k2, .int .i64 k3, .int .i64 k4, .int .i64 k5, .int .i64 k6, .string s7, .string s8, .int .i64 q, .slice ar nr cr]) := by
    rw [← hw0]
    exact ⟨((Blk.new w _ _).on n1).on n2, (Blk.new' _ _ _ _ (by simp)).on n2, Blk.new' _ _ _ _ (by simp), below_step (below_step n0 (Nat.le_refl _) n1) (Nat.le_refl _) n2⟩
  have HW0 : Hid (((w.alloc (.cells #[.int .i64 Ep, .slice (some ⟨b, off, none⟩) 6 c, .int .i64 Op] 24)).alloc (.cells #[.int .i64 Kd, .int .i64 F, .int .i64 C, .int .i64 S, .string H, .int .i64 k0, .int .i64 k1, .int .i64 k2, .int .i64 k3, .int .i64 k4, .int .i64 k5, .int .i64 k6, .string s7, .string s8, .int .i64 q, .slice ar nr cr] 31)).alloc (.cells #[.int .i64 0, .slice none 0 0, .int .i64 0] 24) = w0) := hw0
  clear hR hc hcm hq hI hl hX hw0 n0 n1 n2
  go_enter Tryd.func34, Tryd.ntmps34
  go_wp2_with fail
  rw [HW0.out]
  clear HW0
  refine (CI.out F w0 HS0.out.w).mono ?_
  rintro e w1 ⟨rfl, hb⟩
  have HS1 : Hid (DoS w w1 #[.int .i64 Ep, .slice (some ⟨b, off, none⟩) 6 c, .int .i64 Op] #[.int .i64 Kd, .int .i64 F, .int .i64 C, .int .i64 S, .string H, .int .i64 k0, .int .i64 k1, .int .i64 k2, .int .i64 k3, .int .i64 k4, .int .i64 k5, .int .i64 k6, .string s7, .string s8, .int .i64 q, .slice ar nr cr]) := HS0.out.on hb
  clear hb HS0
  rw [HX.out]
  cases X with
  | false =>
    have e' : doesP (Ep, l, Op) epoch Kd F q = ((Ep, l, Op), false) := by unfold doesP; simp [HX.out]
    rw [HR.out] at e'
    cases e'
    have d0 : w1.cell? ⟨w.heap.size, 0, none⟩ = some (.int .i64 Ep) := HS1.out.g.cell 0
    have d1 : w1.cell? ⟨w.heap.size, 1, none⟩ = some (.slice (some ⟨b, off, none⟩) 6 c) := HS1.out.g.cell 1
    have d2 : w1.cell? ⟨w.heap.size, 2, none⟩ = some (.int .i64 Op) := HS1.out.g.cell 2
    have X1 := HS1.out.z
    have HBX : Hid (Below w.heap.size w (w1.setRow (w.heap.size + 1 + 1) #[.int .i64 Ep, .slice (some ⟨b, off, none⟩) 6 c, .int .i64 Op])) := below_setRow HS1.out.w (by omega) _
    go_wp2_with (with_reducible refine wpList_storeBlk rfl 24 _ _ rfl (w.heap.size + 1 + 1) #[.int .i64 0, .slice none 0 0, .int .i64 0] #[.int .i64 Ep, .slice (some ⟨b, off, none⟩) 6 c, .int .i64 Op] (by with_unfolding_all rfl) (by with_unfolding_all rfl) X1 rfl (by kernel_rfl) (by kernel_rfl) ?_)
    exact bodyPost_rowTmp rfl (w.heap.size + 1 + 1) #[.int .i64 Ep, .slice (some ⟨b, off, none⟩) 6 c, .int .i64 Op] (.bool false) rfl rfl rfl (X1.setRow _) _ Tryd.underlying24 rfl (by kernel_rfl) ⟨b, off, c, rfl, HC.out.1, HC.out.2, (by first | exact .inl ⟨rfl, rfl, rfl⟩ | exact .inl ⟨rfl, rfl⟩ | simp), HBX.out⟩
  | true =>
    have r0 : w1.cell? ⟨w.heap.size + 1, 0, none⟩ = some (.int .i64 Kd) := HS1.out.r.cell 0
    have r1 : w1.cell? ⟨w.heap.size + 1, 1, none⟩ = some (.int .i64 F) := HS1.out.r.cell 1
    have hx := HX.out
    by_cases hK : Kd = 1
    · have bK : (Kd == 1) = true := by simp [hK]
      by_cases hO5 : 500 ≤ Op
      · have e' : doesP (Ep, l, Op) epoch Kd F q = ((Ep, l, Op), false) := by unfold doesP; simp [hx, hK, hO5]
        rw [HR.out] at e'
        cases e'
        clear hx hK
        have d0 : w1.cell? ⟨w.heap.size, 0, none⟩ = some (.int .i64 Ep) := HS1.out.g.cell 0
        have d1 : w1.cell? ⟨w.heap.size, 1, none⟩ = some (.slice (some ⟨b, off, none⟩) 6 c) := HS1.out.g.cell 1
        have d2 : w1.cell? ⟨w.heap.size, 2, none⟩ = some (.int .i64 Op) := HS1.out.g.cell 2
        have X1 := HS1.out.z
        have HBX : Hid (Below w.heap.size w (w1.setRow (w.heap.size + 1 + 1) #[.int .i64 Ep, .slice (some ⟨b, off, none⟩) 6 c, .int .i64 Op])) := below_setRow HS1.out.w (by omega) _
        go_wp2_with (with_reducible refine wpList_storeBlk rfl 24 _ _ rfl (w.heap.size + 1 + 1) #[.int .i64 0, .slice none 0 0, .int .i64 0] #[.int .i64 Ep, .slice (some ⟨b, off, none⟩) 6 c, .int .i64 Op] (by with_unfolding_all rfl) (by with_unfolding_all rfl) X1 rfl (by kernel_rfl) (by kernel_rfl) ?_)
        exact bodyPost_rowTmp rfl (w.heap.size + 1 + 1) #[.int .i64 Ep, .slice (some ⟨b, off, none⟩) 6 c, .int .i64 Op] (.bool false) rfl rfl rfl (X1.setRow _) _ Tryd.underlying24 rfl (by kernel_rfl) ⟨b, off, c, rfl, HC.out.1, HC.out.2, (by first | exact .inl ⟨rfl, rfl, rfl⟩ | exact .inl ⟨rfl, rfl⟩ | simp), HBX.out⟩
      · have e' : doesP (Ep, l, Op) epoch Kd F q = ((Ep, l, Op + 1), true) := by unfold doesP; simp [hx, hK, hO5]
        rw [HR.out] at e'
        cases e'
        clear hx hK
        have HS2 : Hid (DoS w (w1.setCell ⟨w.heap.size, 2, none⟩ (.int .i64 (Op + 1))) #[.int .i64 Ep, .slice (some ⟨b, off, none⟩) 6 c, .int .i64 (Op + 1)] #[.int .i64 Kd, .int .i64 F, .int .i64 C, .int .i64 S, .string H, .int .i64 k0, .int .i64 k1, .int .i64 k2, .int .i64 k3, .int .i64 k4, .int .i64 k5, .int .i64 k6, .string s7, .string s8, .int .i64 q, .slice ar nr cr]) := HS1.out.setG 2 _
        have o2 : w1.cell? ⟨w.heap.size, 2, none⟩ = some (.int .i64 Op) := HS1.out.g.cell 2
        have o3 : w1.frozen? ⟨w.heap.size, 2, none⟩ = false := HS1.out.g.free 2
        obtain ⟨w2, hw2⟩ : ∃ w2, w1.setCell ⟨w.heap.size, 2, none⟩ (.int .i64 (Op + 1)) = w2 := ⟨_, rfl⟩
        rw [hw2] at HS2
        have d0 : w2.cell? ⟨w.heap.size, 0, none⟩ = some (.int .i64 Ep) := HS2.out.g.cell 0
        have d1 : w2.cell? ⟨w.heap.size, 1, none⟩ = some (.slice (some ⟨b, off, none⟩) 6 c) := HS2.out.g.cell 1
        have d2 : w2.cell? ⟨w.heap.size, 2, none⟩ = some (.int .i64 (Op + 1)) := HS2.out.g.cell 2
        have X1 := HS2.out.z
        have HBX : Hid (Below w.heap.size w (w2.setRow (w.heap.size + 1 + 1) #[.int .i64 Ep, .slice (some ⟨b, off, none⟩) 6 c, .int .i64 (Op + 1)])) := below_setRow HS2.out.w (by omega) _
        go_wp2_with (with_reducible refine wpList_storeBlk rfl 24 _ _ rfl (w.heap.size + 1 + 1) #[.int .i64 0, .slice none 0 0, .int .i64 0] #[.int .i64 Ep, .slice (some ⟨b, off, none⟩) 6 c, .int .i64 (Op + 1)] (by with_unfolding_all rfl) (by with_unfolding_all rfl) X1 rfl (by kernel_rfl) (by kernel_rfl) ?_)
        exact bodyPost_rowTmp rfl (w.heap.size + 1 + 1) #[.int .i64 Ep, .slice (some ⟨b, off, none⟩) 6 c, .int .i64 (Op + 1)] (.bool true) rfl rfl rfl (X1.setRow _) _ Tryd.underlying24 rfl (by kernel_rfl) ⟨b, off, c, rfl, HC.out.1, HC.out.2, (by first | exact .inl ⟨rfl, rfl, rfl⟩ | exact .inl ⟨rfl, rfl⟩ | simp), HBX.out⟩
    · have bK : (Kd == 1) = false := by simp [hK]
      by_cases hF : ¬ F = 1
      · have e' : doesP (Ep, l, Op) epoch Kd F q = ((Ep, l, Op), false) := by unfold doesP; simp [hx, hK, hF]
        rw [HR.out] at e'
        cases e'
        have bF : (F != 1) = true := by simp [hF]
        clear hx hK hF
        have d0 : w1.cell? ⟨w.heap.size, 0, none⟩ = some (.int .i64 Ep) := HS1.out.g.cell 0
        have d1 : w1.cell? ⟨w.heap.size, 1, none⟩ = some (.slice (some ⟨b, off, none⟩) 6 c) := HS1.out.g.cell 1
        have d2 : w1.cell? ⟨w.heap.size, 2, none⟩ = some (.int .i64 Op) := HS1.out.g.cell 2
        have X1 := HS1.out.z
        have HBX : Hid (Below w.heap.size w (w1.setRow (w.heap.size + 1 + 1) #[.int .i64 Ep, .slice (some ⟨b, off, none⟩) 6 c, .int .i64 Op])) := below_setRow HS1.out.w (by omega) _
        go_wp2_with (with_reducible refine wpList_storeBlk rfl 24 _ _ rfl (w.heap.size + 1 + 1) #[.int .i64 0, .slice none 0 0, .int .i64 0] #[.int .i64 Ep, .slice (some ⟨b, off, none⟩) 6 c, .int .i64 Op] (by with_unfolding_all rfl) (by with_unfolding_all rfl) X1 rfl (by kernel_rfl) (by kernel_rfl) ?_)
        exact bodyPost_rowTmp rfl (w.heap.size + 1 + 1) #[.int .i64 Ep, .slice (some ⟨b, off, none⟩) 6 c, .int .i64 Op] (.bool false) rfl rfl rfl (X1.setRow _) _ Tryd.underlying24 rfl (by kernel_rfl) ⟨b, off, c, rfl, HC.out.1, HC.out.2, (by first | exact .inl ⟨rfl, rfl, rfl⟩ | exact .inl ⟨rfl, rfl⟩ | simp), HBX.out⟩
      have hF1 : F = 1 := by omega
      have bF : (F != 1) = false := by simp [hF1]
      clear hF
      by_cases hP : ¬ epoch = Ep
      · have e' : doesP (Ep, l, Op) epoch Kd F q = ((Ep, l, Op), false) := by unfold doesP; simp [hx, hK, hP]
        rw [HR.out] at e'
        cases e'
        have bP : (epoch != Ep) = true := by simp [hP]
        clear hx hK hP hF1
        have d0 : w1.cell? ⟨w.heap.size, 0, none⟩ = some (.int .i64 Ep) := HS1.out.g.cell 0
        have d1 : w1.cell? ⟨w.heap.size, 1, none⟩ = some (.slice (some ⟨b, off, none⟩) 6 c) := HS1.out.g.cell 1
        have d2 : w1.cell? ⟨w.heap.size, 2, none⟩ = some (.int .i64 Op) := HS1.out.g.cell 2
        have X1 := HS1.out.z
        have HBX : Hid (Below w.heap.size w (w1.setRow (w.heap.size + 1 + 1) #[.int .i64 Ep, .slice (some ⟨b, off, none⟩) 6 c, .int .i64 Op])) := below_setRow HS1.out.w (by omega) _
        go_wp2_with (with_reducible refine wpList_storeBlk rfl 24 _ _ rfl (w.heap.size + 1 + 1) #[.int .i64 0, .slice none 0 0, .int .i64 0] #[.int .i64 Ep, .slice (some ⟨b, off, none⟩) 6 c, .int .i64 Op] (by with_unfolding_all rfl) (by with_unfolding_all rfl) X1 rfl (by kernel_rfl) (by kernel_rfl) ?_)
        exact bodyPost_rowTmp rfl (w.heap.size + 1 + 1) #[.int .i64 Ep, .slice (some ⟨b, off, none⟩) 6 c, .int .i64 Op] (.bool false) rfl rfl rfl (X1.setRow _) _ Tryd.underlying24 rfl (by kernel_rfl) ⟨b, off, c, rfl, HC.out.1, HC.out.2, (by first | exact .inl ⟨rfl, rfl, rfl⟩ | exact .inl ⟨rfl, rfl⟩ | simp), HBX.out⟩
      have hP1 : epoch = Ep := by omega
      have bP : (epoch != Ep) = false := by simp [hP1]
      clear hP
      by_cases hM : 1099511627775 ≤ Ep
      · have e' : doesP (Ep, l, Op) epoch Kd F q = ((Ep, l, Op), false) := by unfold doesP; simp [hx, hK, hM]
        rw [HR.out] at e'
        cases e'
        clear hx hK hP1 hF1
        have d0 : w1.cell? ⟨w.heap.size, 0, none⟩ = some (.int .i64 Ep) := HS1.out.g.cell 0
        have d1 : w1.cell? ⟨w.heap.size, 1, none⟩ = some (.slice (some ⟨b, off, none⟩) 6 c) := HS1.out.g.cell 1
        have d2 : w1.cell? ⟨w.heap.size, 2, none⟩ = some (.int .i64 Op) := HS1.out.g.cell 2
        have X1 := HS1.out.z
        have HBX : Hid (Below w.heap.size w (w1.setRow (w.heap.size + 1 + 1) #[.int .i64 Ep, .slice (some ⟨b, off, none⟩) 6 c, .int .i64 Op])) := below_setRow HS1.out.w (by omega) _
        go_wp2_with (with_reducible refine wpList_storeBlk rfl 24 _ _ rfl (w.heap.size + 1 + 1) #[.int .i64 0, .slice none 0 0, .int .i64 0] #[.int .i64 Ep, .slice (some ⟨b, off, none⟩) 6 c, .int .i64 Op] (by with_unfolding_all rfl) (by with_unfolding_all rfl) X1 rfl (by kernel_rfl) (by kernel_rfl) ?_)
        exact bodyPost_rowTmp rfl (w.heap.size + 1 + 1) #[.int .i64 Ep, .slice (some ⟨b, off, none⟩) 6 c, .int .i64 Op] (.bool false) rfl rfl rfl (X1.setRow _) _ Tryd.underlying24 rfl (by kernel_rfl) ⟨b, off, c, rfl, HC.out.1, HC.out.2, (by first | exact .inl ⟨rfl, rfl, rfl⟩ | exact .inl ⟨rfl, rfl⟩ | simp), HBX.out⟩
      have HNK : Hid (F = 1 ∧ epoch = Ep ∧ ¬ 1099511627775 ≤ Ep ∧ ¬ Kd = 1) := ⟨hF1, hP1, hM, hK⟩
      clear hF1 hP1 hK
      by_cases hK2 : Kd = 2
      · have bK2 : (Kd == 2) = true := by simp [hK2]
        have HK2 : Hid (Kd = 2) := hK2
        have r14 : w1.cell? ⟨w.heap.size + 1, 14, none⟩ = some (.int .i64 q) := HS1.out.r.cell 14
        have g0 : w1.cell? ⟨w.heap.size, 0, none⟩ = some (.int .i64 Ep) := HS1.out.g.cell 0
        have g1 : w1.cell? ⟨w.heap.size, 1, none⟩ = some (.slice (some ⟨b, off, none⟩) 6 c) := HS1.out.g.cell 1
        have g2 : w1.cell? ⟨w.heap.size, 2, none⟩ = some (.int .i64 Op) := HS1.out.g.cell 2
        obtain ⟨X2, hX2⟩ : ∃ X2, inB l q = X2 := ⟨_, rfl⟩
        have HX2 : Hid (inB l q = X2) := hX2
        clear hX2 hx hK2
        go_wp2_with fail
        clear r14 g0 g1 g2 r0 r1
        refine (CI.out q w1 HS1.out.w).mono ?_
        rintro e w3 ⟨rfl, hb⟩
        have HS3 : Hid (DoS w w3 #[.int .i64 Ep, .slice (some ⟨b, off, none⟩) 6 c, .int .i64 Op] #[.int .i64 Kd, .int .i64 F, .int .i64 C, .int .i64 S, .string H, .int .i64 k0, .int .i64 k1, .int .i64 k2, .int .i64 k3, .int .i64 k4, .int .i64 k5, .int .i64 k6, .string s7, .string s8, .int .i64 q, .slice ar nr cr]) := HS1.out.on hb
        clear hb HS1
        rw [HX2.out]
        cases X2 with
        | true =>
          have e' : doesP (Ep, l, Op) epoch Kd F q = ((Ep, l, Op), false) := by
            obtain ⟨a1, a2, a3, a4⟩ := HNK.out
            have hx := HX.out
            have hx2 := HX2.out
            have hk := HK2.out
            rw [a1] at hx
            skip
            skip
            unfold doesP; simp [hx, hx2, a1, a2, a3, a4, hk]
          rw [HR.out] at e'
          cases e'
          have d0 : w3.cell? ⟨w.heap.size, 0, none⟩ = some (.int .i64 Ep) := HS3.out.g.cell 0
          have d1 : w3.cell? ⟨w.heap.size, 1, none⟩ = some (.slice (some ⟨b, off, none⟩) 6 c) := HS3.out.g.cell 1
          have d2 : w3.cell? ⟨w.heap.size, 2, none⟩ = some (.int .i64 Op) := HS3.out.g.cell 2
          have X1 := HS3.out.z
          have HBX : Hid (Below w.heap.size w (w3.setRow (w.heap.size + 1 + 1) #[.int .i64 Ep, .slice (some ⟨b, off, none⟩) 6 c, .int .i64 Op])) := below_setRow HS3.out.w (by omega) _
          go_wp2_with (with_reducible refine wpList_storeBlk rfl 24 _ _ rfl (w.heap.size + 1 + 1) #[.int .i64 0, .slice none 0 0, .int .i64 0] #[.int .i64 Ep, .slice (some ⟨b, off, none⟩) 6 c, .int .i64 Op] (by with_unfolding_all rfl) (by with_unfolding_all rfl) X1 rfl (by kernel_rfl) (by kernel_rfl) ?_)
          exact bodyPost_rowTmp rfl (w.heap.size + 1 + 1) #[.int .i64 Ep, .slice (some ⟨b, off, none⟩) 6 c, .int .i64 Op] (.bool false) rfl rfl rfl (X1.setRow _) _ Tryd.underlying24 rfl (by kernel_rfl) ⟨b, off, c, rfl, HC.out.1, HC.out.2, (by first | exact .inl ⟨rfl, rfl, rfl⟩ | exact .inl ⟨rfl, rfl⟩ | simp), HBX.out⟩
        | false =>
          obtain ⟨qn, HQN⟩ : ∃ qn : Nat, Hid (q = (qn : Int) + 1 ∧ qn < 6) := by
            have := HQ.out (by rw [HK2.out]; decide)
            exact ⟨(q - 1).toNat, by show _ ∧ _; omega⟩
          have bw : IntKind.i64.wrap (q - 1) = (qn : Int) := by have := HQN.out.1; have h2 := HQN.out.2; rw [IntKind.wrap_i64]; omega
          go_wp2_with fail
          obtain ⟨y, hy⟩ : ∃ y, (mmL l qn).2.1 = y := ⟨_, rfl⟩
          have HY : Hid ((mmL l qn).2.1 = y) := hy
          have CW : Hid (∀ W, Below w.heap.size w W → _) := fun W hW => rwith20_any Ep Op l b off c qn (q, y, true) W HLN.out HQN.out.2 HC.out.1 HC.out.2 (HI.out.below hW)
          simp only [memA] at CW
          have HSD : Hid (DoS w w3.drew #[.int .i64 Ep, .slice (some ⟨b, off, none⟩) 6 c, .int .i64 Op] #[.int .i64 Kd, .int .i64 F, .int .i64 C, .int .i64 S, .string H, .int .i64 k0, .int .i64 k1, .int .i64 k2, .int .i64 k3, .int .i64 k4, .int .i64 k5, .int .i64 k6, .string s7, .string s8, .int .i64 q, .slice ar nr cr]) := HS3.out.on (Below.refl _ _).drew
          have hcy : w3.drew.cell? ⟨b, off + qn * 3 + 1, none⟩ = some (.int .i64 y) := by
            have h := HI.out.below HSD.out.w
            obtain ⟨b', off', e1, h1⟩ := h.2.resolve_left (by decide)
            cases e1
            rw [← HY.out]; exact (h1 qn HQN.out.2).2.1
          have bq0 : (0 : Int) ≤ (qn : Int) := by omega
          have bq6 : (qn : Int) < 6 := by have := HQN.out.2; omega
          have HBL : Hid (b < w.heap.size) := by
            obtain ⟨b', off', e1, h1⟩ := HI.out.2.resolve_left (by decide)
            cases e1
            exact World.block_lt_of_cell? _ _ (h1 0 (by decide)).1
          have hS0 : w3.drew.cell? ⟨w.heap.size + 1, 14, none⟩ = some (.int .i64 q) ∧ w3.drew.cell? ⟨b, off + qn * 3 + 1, none⟩ = some (.int .i64 y) := ⟨HSD.out.r.cell 14, hcy⟩
          have f0 : w3.drew.cell? ⟨w.heap.size, 0, none⟩ = some (.int .i64 Ep) := HSD.out.g.cell 0
          have f1 : w3.drew.cell? ⟨w.heap.size, 1, none⟩ = some (.slice (some ⟨b, off, none⟩) 6 c) := HSD.out.g.cell 1
          have f2 : w3.drew.cell? ⟨w.heap.size, 2, none⟩ = some (.int .i64 Op) := HSD.out.g.cell 2
          clear hy
          refine wp_region_noPanic ?_
          refine wp_region_held_drew (S := fun W' => W'.cell? ⟨w.heap.size + 1, 14, none⟩ = some (.int .i64 q) ∧ W'.cell? ⟨b, off + qn * 3 + 1, none⟩ = some (.int .i64 y)) (by kernel_rfl) (by first | exact trivial | assumption | exact ⟨by assumption, by assumption⟩) (fun hHeld => ?_)
          refine take_at (i := 1) (v := ?_) rfl rfl (by kernel_rfl) (by kernel_rfl) (by kernel_rfl) (fun _ _ _ h => h) (Or.inl ⟨by rfl, ?_⟩) (by assumption) ?_
          rotate_left
          · intro w hSw; (try dsimp only at hSw); go_simp; try with_reducible rfl
          try simp only [Act.put, List.setIfInBounds_toArray, List.set_cons_zero, List.set_cons_succ]
          refine take_at (i := 2) (v := ?_) rfl rfl (by kernel_rfl) (by kernel_rfl) (by kernel_rfl) (fun _ _ _ h => h) (Or.inl ⟨by rfl, ?_⟩) (by assumption) ?_
          rotate_left
          · intro w hSw; (try dsimp only at hSw); go_simp; try with_reducible rfl
          try simp only [Act.put, List.setIfInBounds_toArray, List.set_cons_zero, List.set_cons_succ]
          refine take_at (i := 3) (v := ?_) rfl rfl (by kernel_rfl) (by kernel_rfl) (by kernel_rfl) (fun _ _ _ h => h) (Or.inl ⟨by rfl, ?_⟩) (by assumption) ?_
          rotate_left
          · intro w hSw; (try dsimp only at hSw); go_simp; try with_reducible rfl
          try simp only [Act.put, List.setIfInBounds_toArray, List.set_cons_zero, List.set_cons_succ]
          refine take_at (i := 4) (v := ?_) rfl rfl (by kernel_rfl) (by kernel_rfl) (by kernel_rfl) (fun _ _ _ h => h) (Or.inl ⟨by rfl, ?_⟩) (by assumption) ?_
          rotate_left
          · intro w hSw; (try dsimp only at hSw); go_simp; try with_reducible rfl
          try simp only [Act.put, List.setIfInBounds_toArray, List.set_cons_zero, List.set_cons_succ]
          refine take_at (i := 5) (v := ?_) rfl rfl (by kernel_rfl) (by kernel_rfl) (by kernel_rfl) (fun _ _ _ h => h) (Or.inl ⟨by rfl, ?_⟩) (by assumption) ?_
          rotate_left
          · intro w hSw; (try dsimp only at hSw); go_simp; try with_reducible rfl
          try simp only [Act.put, List.setIfInBounds_toArray, List.set_cons_zero, List.set_cons_succ]
          refine take_at (i := 6) (v := ?_) rfl rfl (by kernel_rfl) (by kernel_rfl) (by kernel_rfl) (fun _ _ _ h => h) (Or.inl ⟨by rfl, ?_⟩) (by assumption) ?_
          rotate_left
          · intro w hSw; (try dsimp only at hSw); go_simp; try with_reducible rfl
          try simp only [Act.put, List.setIfInBounds_toArray, List.set_cons_zero, List.set_cons_succ]
          refine take_at (i := 8) (v := ?_) rfl rfl (by kernel_rfl) (by kernel_rfl) (by kernel_rfl) (fun _ _ _ h => h) (Or.inl ⟨by rfl, ?_⟩) (by assumption) ?_
          rotate_left
          · intro w hSw; (try dsimp only at hSw); go_simp; try with_reducible rfl
          try simp only [Act.put, List.setIfInBounds_toArray, List.set_cons_zero, List.set_cons_succ]
          refine take_at (i := 9) (v := ?_) rfl rfl (by kernel_rfl) (by kernel_rfl) (by kernel_rfl) (fun _ _ _ h => h) (Or.inl ⟨by rfl, ?_⟩) (by assumption) ?_
          rotate_left
          · intro w hSw; (try dsimp only at hSw); go_simp; try with_reducible rfl
          try simp only [Act.put, List.setIfInBounds_toArray, List.set_cons_zero, List.set_cons_succ]
          refine take_at (i := 10) (v := ?_) rfl rfl (by kernel_rfl) (by kernel_rfl) (by kernel_rfl) (fun _ _ _ h => h) (Or.inl ⟨by rfl, ?_⟩) (by assumption) ?_
          rotate_left
          · intro w hSw; (try dsimp only at hSw); go_simp; try with_reducible rfl
          try simp only [Act.put, List.setIfInBounds_toArray, List.set_cons_zero, List.set_cons_succ]
          refine wpAnyH_ready (rs := [0, 7]) (by kernel_rfl) (by simp) ?_
          refine AllReadyH.cons rfl (fun K hK => ?_) (AllReadyH.cons rfl (fun K hK => ?_) AllReadyH.nil)
          · go_simp
            refine hK.out _ _ hS0 (fun hHeld => ?_)
            clear hK K
            refine wpAnyH_ready (rs := [7]) (by kernel_rfl) (by simp) ?_
            refine AllReadyH.cons rfl (fun K hK => ?_) AllReadyH.nil
            go_simp
            refine hK.out _ _ hS0 (fun hHeld => ?_)
            clear hK K
            refine take_at (i := 11) (v := ?_) rfl rfl (by kernel_rfl) (by kernel_rfl) (by kernel_rfl) (fun _ _ _ h => h) (Or.inl ⟨by rfl, ?_⟩) (by assumption) ?_
            rotate_left
            · intro w hSw; (try dsimp only at hSw); go_simp; try with_reducible rfl
            try simp only [Act.put, List.setIfInBounds_toArray, List.set_cons_zero, List.set_cons_succ]
            refine take_at (i := 12) (v := ?_) rfl rfl (by kernel_rfl) (by kernel_rfl) (by kernel_rfl) (fun _ _ _ h => h) (Or.inl ⟨by rfl, ?_⟩) (by assumption) ?_
            rotate_left
            · intro w hSw; (try dsimp only at hSw); go_simp; try with_reducible rfl
            try simp only [Act.put, List.setIfInBounds_toArray, List.set_cons_zero, List.set_cons_succ]
            refine take_at (i := 13) (v := ?_) rfl rfl (by kernel_rfl) (by kernel_rfl) (by kernel_rfl) (fun _ _ _ h => h) (Or.inl ⟨by rfl, ?_⟩) (by assumption) ?_
            rotate_left
            · intro w hSw; (try dsimp only at hSw); go_simp; try with_reducible rfl
            try simp only [Act.put, List.setIfInBounds_toArray, List.set_cons_zero, List.set_cons_succ]
            refine take_at (i := 14) (v := ?_) rfl rfl (by kernel_rfl) (by kernel_rfl) (by kernel_rfl) (fun _ _ _ h => h) (Or.inl ⟨by rfl, ?_⟩) (by assumption) ?_
            rotate_left
            · intro w hSw; (try dsimp only at hSw); go_simp; try with_reducible rfl
            try simp only [Act.put, List.setIfInBounds_toArray, List.set_cons_zero, List.set_cons_succ]
            refine wpAnyH_ready (rs := [15]) (by kernel_rfl) (by simp) ?_
            refine AllReadyH.cons rfl (fun K hK => ?_) AllReadyH.nil
            go_simp
            refine (CW.out _ HSD.out.w).mono ?_
            rintro e V1 ⟨b7, o7, c7, rfl, hc7, hcm7, how7, hb7⟩
            have HSV : Hid (DoS w V1 #[.int .i64 Ep, .slice (some ⟨b, off, none⟩) 6 c, .int .i64 Op] #[.int .i64 Kd, .int .i64 F, .int .i64 C, .int .i64 S, .string H, .int .i64 k0, .int .i64 k1, .int .i64 k2, .int .i64 k3, .int .i64 k4, .int .i64 k5, .int .i64 k6, .string s7, .string s8, .int .i64 q, .slice ar nr cr]) := HSD.out.on hb7
            have HBS : Hid (∃ B, w.heap.size + 1 + 1 < B ∧ OwnM V1 B (.slice (some ⟨b7, o7, none⟩) 6 c7) (withM l qn (q, y, true))) := ⟨_, by have h1 := HSD.out.z.lt; omega, how7⟩
            have HC7 : Hid (6 ≤ c7 ∧ c7 ≤ 9223372036854775807) := ⟨hc7, hcm7⟩
            have hS1 : V1.cell? ⟨w.heap.size + 1, 14, none⟩ = some (.int .i64 q) ∧ V1.cell? ⟨b, off + qn * 3 + 1, none⟩ = some (.int .i64 y) := ⟨HSV.out.r.cell 14, by rw [hb7.cell (World.block_lt_of_cell? _ _ hcy)]; exact hcy⟩
            clear how7 hb7 hc7 hcm7 CW
            refine hK.out _ _ hS1 (fun hHeld => ?_)
            clear hK K
            refine wpAnyH_ready (rs := [16]) (by kernel_rfl) (by simp) ?_
            refine AllReadyH.cons rfl (fun K hK => ?_) AllReadyH.nil
            refine step_storeRow rfl rfl 24 _ _ rfl w.heap.size #[.int .i64 Ep, .slice (some ⟨b, off, none⟩) 6 c, .int .i64 Op] #[.int .i64 Ep, .slice (some ⟨b7, o7, none⟩) 6 c7, .int .i64 Op] rfl rfl HSV.out.g rfl (by kernel_rfl) (by kernel_rfl) ?_
            have HS9 : Hid (DoS w (V1.setRow w.heap.size #[.int .i64 Ep, .slice (some ⟨b7, o7, none⟩) 6 c7, .int .i64 Op]) #[.int .i64 Ep, .slice (some ⟨b7, o7, none⟩) 6 c7, .int .i64 Op] #[.int .i64 Kd, .int .i64 F, .int .i64 C, .int .i64 S, .string H, .int .i64 k0, .int .i64 k1, .int .i64 k2, .int .i64 k3, .int .i64 k4, .int .i64 k5, .int .i64 k6, .string s7, .string s8, .int .i64 q, .slice ar nr cr]) := HSV.out.rowG _
            have HB9 : Hid (∃ B, w.heap.size + 1 + 1 < B ∧ OwnM (V1.setRow w.heap.size #[.int .i64 Ep, .slice (some ⟨b7, o7, none⟩) 6 c7, .int .i64 Op]) B (.slice (some ⟨b7, o7, none⟩) 6 c7) (withM l qn (q, y, true))) := by
              obtain ⟨B, h1, h2⟩ := HBS.out
              exact ⟨B, h1, owns_same h2 (fun j hj => setRow_other V1 w.heap.size j _ (by have q1 := (World.ownsRow.lt h2 j hj).1; omega))⟩
            have hS9 : (V1.setRow w.heap.size #[.int .i64 Ep, .slice (some ⟨b7, o7, none⟩) 6 c7, .int .i64 Op]).cell? ⟨w.heap.size + 1, 14, none⟩ = some (.int .i64 q) ∧ (V1.setRow w.heap.size #[.int .i64 Ep, .slice (some ⟨b7, o7, none⟩) 6 c7, .int .i64 Op]).cell? ⟨b, off + qn * 3 + 1, none⟩ = some (.int .i64 y) := ⟨HS9.out.r.cell 14, by rw [cell_setRowO V1 w.heap.size #[.int .i64 Ep, .slice (some ⟨b7, o7, none⟩) 6 c7, .int .i64 Op] ⟨b, off + qn * 3 + 1, none⟩ (by show b ≠ w.heap.size; have := HBL.out; omega)]; exact hS1.2⟩
            clear HSV HBS
            refine hK.out _ _ hS9 (fun hHeld => ?_)
            clear hK K
            refine wpAnyH_done (by kernel_rfl) (NoPanic.normal ?_) _
            obtain ⟨w4, hw4⟩ : ∃ w4, V1.setRow w.heap.size #[.int .i64 Ep, .slice (some ⟨b7, o7, none⟩) 6 c7, .int .i64 Op] = w4 := ⟨_, rfl⟩
            rw [hw4] at HS9 HB9 ⊢
            clear hw4
            have HS2 : Hid (DoS w (w4.setCell ⟨w.heap.size, 0, none⟩ (.int .i64 (Ep + 1))) #[.int .i64 (Ep + 1), .slice (some ⟨b7, o7, none⟩) 6 c7, .int .i64 Op] #[.int .i64 Kd, .int .i64 F, .int .i64 C, .int .i64 S, .string H, .int .i64 k0, .int .i64 k1, .int .i64 k2, .int .i64 k3, .int .i64 k4, .int .i64 k5, .int .i64 k6, .string s7, .string s8, .int .i64 q, .slice ar nr cr]) := HS9.out.setG 0 _
            have o2 : w4.cell? ⟨w.heap.size, 0, none⟩ = some (.int .i64 Ep) := HS9.out.g.cell 0
            have o3 : w4.frozen? ⟨w.heap.size, 0, none⟩ = false := HS9.out.g.free 0
            obtain ⟨w2, hw2⟩ : ∃ w2, w4.setCell ⟨w.heap.size, 0, none⟩ (.int .i64 (Ep + 1)) = w2 := ⟨_, rfl⟩
            rw [hw2] at HS2
            have HB2 : Hid (∃ B, w.heap.size + 1 + 1 < B ∧ OwnM w2 B (.slice (some ⟨b7, o7, none⟩) 6 c7) (withM l qn (q, y, true))) := by
              obtain ⟨B, h1, h2⟩ := HB9.out
              rw [← hw2]
              exact ⟨B, h1, owns_set h2 ⟨w.heap.size, 0, none⟩ (by show w.heap.size < B; omega) _⟩
            have HOX : Hid (∃ B, w.heap.size ≤ B ∧ OwnM (w2.setRow (w.heap.size + 1 + 1) #[.int .i64 (Ep + 1), .slice (some ⟨b7, o7, none⟩) 6 c7, .int .i64 Op]) B (.slice (some ⟨b7, o7, none⟩) 6 c7) (withM l qn (q, y, true))) := by
              obtain ⟨B, h1, h2⟩ := HB2.out
              exact ⟨B, by omega, owns_same h2 (fun j hj => setRow_other w2 (w.heap.size + 1 + 1) j _ (by have q1 := (World.ownsRow.lt h2 j hj).1; omega))⟩
            clear HB2 HB9
            have e' : doesP (Ep, l, Op) epoch Kd F q = ((Ep + 1, withM l qn (q, y, true), Op), true) := by
              obtain ⟨a1, a2, a3, a4⟩ := HNK.out
              have hx := HX.out
              have hx2 := HX2.out
              have hk := HK2.out
              rw [a1] at hx
              have hqn : (q - 1).toNat = qn := by have := HQN.out.1; omega
              have hy := HY.out
              unfold doesP; simp [hx, hx2, a1, a2, a3, a4, hk, hqn, hy]
            rw [HR.out] at e'
            cases e'
            have d0 : w2.cell? ⟨w.heap.size, 0, none⟩ = some (.int .i64 (Ep + 1)) := HS2.out.g.cell 0
            have d1 : w2.cell? ⟨w.heap.size, 1, none⟩ = some (.slice (some ⟨b7, o7, none⟩) 6 c7) := HS2.out.g.cell 1
            have d2 : w2.cell? ⟨w.heap.size, 2, none⟩ = some (.int .i64 Op) := HS2.out.g.cell 2
            have X1 := HS2.out.z
            have HBX : Hid (Below w.heap.size w (w2.setRow (w.heap.size + 1 + 1) #[.int .i64 (Ep + 1), .slice (some ⟨b7, o7, none⟩) 6 c7, .int .i64 Op])) := below_setRow HS2.out.w (by omega) _
            go_wp2_with (with_reducible refine wpList_storeBlk rfl 24 _ _ rfl (w.heap.size + 1 + 1) #[.int .i64 0, .slice none 0 0, .int .i64 0] #[.int .i64 (Ep + 1), .slice (some ⟨b7, o7, none⟩) 6 c7, .int .i64 Op] (by with_unfolding_all rfl) (by with_unfolding_all rfl) X1 rfl (by kernel_rfl) (by kernel_rfl) ?_)
            exact bodyPost_rowTmp rfl (w.heap.size + 1 + 1) #[.int .i64 (Ep + 1), .slice (some ⟨b7, o7, none⟩) 6 c7, .int .i64 Op] (.bool true) rfl rfl rfl (X1.setRow _) _ Tryd.underlying24 rfl (by kernel_rfl) ⟨b7, o7, c7, rfl, HC7.out.1, HC7.out.2, (.inr HOX.out), HBX.out⟩
          · go_simp
            refine hK.out _ _ hS0 (fun hHeld => ?_)
            clear hK K
            refine take_at (i := 11) (v := ?_) rfl rfl (by kernel_rfl) (by kernel_rfl) (by kernel_rfl) (fun _ _ _ h => h) (Or.inl ⟨by rfl, ?_⟩) (by assumption) ?_
            rotate_left
            · intro w hSw; (try dsimp only at hSw); go_simp; try with_reducible rfl
            try simp only [Act.put, List.setIfInBounds_toArray, List.set_cons_zero, List.set_cons_succ]
            refine take_at (i := 12) (v := ?_) rfl rfl (by kernel_rfl) (by kernel_rfl) (by kernel_rfl) (fun _ _ _ h => h) (Or.inl ⟨by rfl, ?_⟩) (by assumption) ?_
            rotate_left
            · intro w hSw; (try dsimp only at hSw); go_simp; try with_reducible rfl
            try simp only [Act.put, List.setIfInBounds_toArray, List.set_cons_zero, List.set_cons_succ]
            refine take_at (i := 13) (v := ?_) rfl rfl (by kernel_rfl) (by kernel_rfl) (by kernel_rfl) (fun _ _ _ h => h) (Or.inl ⟨by rfl, ?_⟩) (by assumption) ?_
            rotate_left
            · intro w hSw; (try dsimp only at hSw); go_simp; try with_reducible rfl
            try simp only [Act.put, List.setIfInBounds_toArray, List.set_cons_zero, List.set_cons_succ]
            refine take_at (i := 14) (v := ?_) rfl rfl (by kernel_rfl) (by kernel_rfl) (by kernel_rfl) (fun _ _ _ h => h) (Or.inl ⟨by rfl, ?_⟩) (by assumption) ?_
            rotate_left
            · intro w hSw; (try dsimp only at hSw); go_simp; try with_reducible rfl
            try simp only [Act.put, List.setIfInBounds_toArray, List.set_cons_zero, List.set_cons_succ]
            refine wpAnyH_ready (rs := [0]) (by kernel_rfl) (by simp) ?_
            refine AllReadyH.cons rfl (fun K hK => ?_) AllReadyH.nil
            go_simp
            refine hK.out _ _ hS0 (fun hHeld => ?_)
            clear hK K
            refine wpAnyH_ready (rs := [15]) (by kernel_rfl) (by simp) ?_
            refine AllReadyH.cons rfl (fun K hK => ?_) AllReadyH.nil
            go_simp
            refine (CW.out _ HSD.out.w).mono ?_
            rintro e V1 ⟨b7, o7, c7, rfl, hc7, hcm7, how7, hb7⟩
            have HSV : Hid (DoS w V1 #[.int .i64 Ep, .slice (some ⟨b, off, none⟩) 6 c, .int .i64 Op] #[.int .i64 Kd, .int .i64 F, .int .i64 C, .int .i64 S, .string H, .int .i64 k0, .int .i64 k1, .int .i64 k2, .int .i64 k3, .int .i64 k4, .int .i64 k5, .int .i64 k6, .string s7, .string s8, .int .i64 q, .slice ar nr cr]) := HSD.out.on hb7
            have HBS : Hid (∃ B, w.heap.size + 1 + 1 < B ∧ OwnM V1 B (.slice (some ⟨b7, o7, none⟩) 6 c7) (withM l qn (q, y, true))) := ⟨_, by have h1 := HSD.out.z.lt; omega, how7⟩
            have HC7 : Hid (6 ≤ c7 ∧ c7 ≤ 9223372036854775807) := ⟨hc7, hcm7⟩
            have hS1 : V1.cell? ⟨w.heap.size + 1, 14, none⟩ = some (.int .i64 q) ∧ V1.cell? ⟨b, off + qn * 3 + 1, none⟩ = some (.int .i64 y) := ⟨HSV.out.r.cell 14, by rw [hb7.cell (World.block_lt_of_cell? _ _ hcy)]; exact hcy⟩
            clear how7 hb7 hc7 hcm7 CW
            refine hK.out _ _ hS1 (fun hHeld => ?_)
            clear hK K
            refine wpAnyH_ready (rs := [16]) (by kernel_rfl) (by simp) ?_
            refine AllReadyH.cons rfl (fun K hK => ?_) AllReadyH.nil
            refine step_storeRow rfl rfl 24 _ _ rfl w.heap.size #[.int .i64 Ep, .slice (some ⟨b, off, none⟩) 6 c, .int .i64 Op] #[.int .i64 Ep, .slice (some ⟨b7, o7, none⟩) 6 c7, .int .i64 Op] rfl rfl HSV.out.g rfl (by kernel_rfl) (by kernel_rfl) ?_
            have HS9 : Hid (DoS w (V1.setRow w.heap.size #[.int .i64 Ep, .slice (some ⟨b7, o7, none⟩) 6 c7, .int .i64 Op]) #[.int .i64 Ep, .slice (some ⟨b7, o7, none⟩) 6 c7, .int .i64 Op] #[.int .i64 Kd, .int .i64 F, .int .i64 C, .int .i64 S, .string H, .int .i64 k0, .int .i64 k1, .int .i64 k2, .int .i64 k3, .int .i64 k4, .int .i64 k5, .int .i64 k6, .string s7, .string s8, .int .i64 q, .slice ar nr cr]) := HSV.out.rowG _
            have HB9 : Hid (∃ B, w.heap.size + 1 + 1 < B ∧ OwnM (V1.setRow w.heap.size #[.int .i64 Ep, .slice (some ⟨b7, o7, none⟩) 6 c7, .int .i64 Op]) B (.slice (some ⟨b7, o7, none⟩) 6 c7) (withM l qn (q, y, true))) := by
              obtain ⟨B, h1, h2⟩ := HBS.out
              exact ⟨B, h1, owns_same h2 (fun j hj => setRow_other V1 w.heap.size j _ (by have q1 := (World.ownsRow.lt h2 j hj).1; omega))⟩
            have hS9 : (V1.setRow w.heap.size #[.int .i64 Ep, .slice (some ⟨b7, o7, none⟩) 6 c7, .int .i64 Op]).cell? ⟨w.heap.size + 1, 14, none⟩ = some (.int .i64 q) ∧ (V1.setRow w.heap.size #[.int .i64 Ep, .slice (some ⟨b7, o7, none⟩) 6 c7, .int .i64 Op]).cell? ⟨b, off + qn * 3 + 1, none⟩ = some (.int .i64 y) := ⟨HS9.out.r.cell 14, by rw [cell_setRowO V1 w.heap.size #[.int .i64 Ep, .slice (some ⟨b7, o7, none⟩) 6 c7, .int .i64 Op] ⟨b, off + qn * 3 + 1, none⟩ (by show b ≠ w.heap.size; have := HBL.out; omega)]; exact hS1.2⟩
            clear HSV HBS
            refine hK.out _ _ hS9 (fun hHeld => ?_)
            clear hK K
            refine wpAnyH_done (by kernel_rfl) (NoPanic.normal ?_) _
            obtain ⟨w4, hw4⟩ : ∃ w4, V1.setRow w.heap.size #[.int .i64 Ep, .slice (some ⟨b7, o7, none⟩) 6 c7, .int .i64 Op] = w4 := ⟨_, rfl⟩
            rw [hw4] at HS9 HB9 ⊢
            clear hw4
            have HS2 : Hid (DoS w (w4.setCell ⟨w.heap.size, 0, none⟩ (.int .i64 (Ep + 1))) #[.int .i64 (Ep + 1), .slice (some ⟨b7, o7, none⟩) 6 c7, .int .i64 Op] #[.int .i64 Kd, .int .i64 F, .int .i64 C, .int .i64 S, .string H, .int .i64 k0, .int .i64 k1, .int .i64 k2, .int .i64 k3, .int .i64 k4, .int .i64 k5, .int .i64 k6, .string s7, .string s8, .int .i64 q, .slice ar nr cr]) := HS9.out.setG 0 _
            have o2 : w4.cell? ⟨w.heap.size, 0, none⟩ = some (.int .i64 Ep) := HS9.out.g.cell 0
            have o3 : w4.frozen? ⟨w.heap.size, 0, none⟩ = false := HS9.out.g.free 0
            obtain ⟨w2, hw2⟩ : ∃ w2, w4.setCell ⟨w.heap.size, 0, none⟩ (.int .i64 (Ep + 1)) = w2 := ⟨_, rfl⟩
            rw [hw2] at HS2
            have HB2 : Hid (∃ B, w.heap.size + 1 + 1 < B ∧ OwnM w2 B (.slice (some ⟨b7, o7, none⟩) 6 c7) (withM l qn (q, y, true))) := by
              obtain ⟨B, h1, h2⟩ := HB9.out
              rw [← hw2]
              exact ⟨B, h1, owns_set h2 ⟨w.heap.size, 0, none⟩ (by show w.heap.size < B; omega) _⟩
            have HOX : Hid (∃ B, w.heap.size ≤ B ∧ OwnM (w2.setRow (w.heap.size + 1 + 1) #[.int .i64 (Ep + 1), .slice (some ⟨b7, o7, none⟩) 6 c7, .int .i64 Op]) B (.slice (some ⟨b7, o7, none⟩) 6 c7) (withM l qn (q, y, true))) := by
              obtain ⟨B, h1, h2⟩ := HB2.out
              exact ⟨B, by omega, owns_same h2 (fun j hj => setRow_other w2 (w.heap.size + 1 + 1) j _ (by have q1 := (World.ownsRow.lt h2 j hj).1; omega))⟩
            clear HB2 HB9
            have e' : doesP (Ep, l, Op) epoch Kd F q = ((Ep + 1, withM l qn (q, y, true), Op), true) := by
              obtain ⟨a1, a2, a3, a4⟩ := HNK.out
              have hx := HX.out
              have hx2 := HX2.out
              have hk := HK2.out
              rw [a1] at hx
              have hqn : (q - 1).toNat = qn := by have := HQN.out.1; omega
              have hy := HY.out
              unfold doesP; simp [hx, hx2, a1, a2, a3, a4, hk, hqn, hy]
            rw [HR.out] at e'
            cases e'
            have d0 : w2.cell? ⟨w.heap.size, 0, none⟩ = some (.int .i64 (Ep + 1)) := HS2.out.g.cell 0
            have d1 : w2.cell? ⟨w.heap.size, 1, none⟩ = some (.slice (some ⟨b7, o7, none⟩) 6 c7) := HS2.out.g.cell 1
            have d2 : w2.cell? ⟨w.heap.size, 2, none⟩ = some (.int .i64 Op) := HS2.out.g.cell 2
            have X1 := HS2.out.z
            have HBX : Hid (Below w.heap.size w (w2.setRow (w.heap.size + 1 + 1) #[.int .i64 (Ep + 1), .slice (some ⟨b7, o7, none⟩) 6 c7, .int .i64 Op])) := below_setRow HS2.out.w (by omega) _
            go_wp2_with (with_reducible refine wpList_storeBlk rfl 24 _ _ rfl (w.heap.size + 1 + 1) #[.int .i64 0, .slice none 0 0, .int .i64 0] #[.int .i64 (Ep + 1), .slice (some ⟨b7, o7, none⟩) 6 c7, .int .i64 Op] (by with_unfolding_all rfl) (by with_unfolding_all rfl) X1 rfl (by kernel_rfl) (by kernel_rfl) ?_)
            exact bodyPost_rowTmp rfl (w.heap.size + 1 + 1) #[.int .i64 (Ep + 1), .slice (some ⟨b7, o7, none⟩) 6 c7, .int .i64 Op] (.bool true) rfl rfl rfl (X1.setRow _) _ Tryd.underlying24 rfl (by kernel_rfl) ⟨b7, o7, c7, rfl, HC7.out.1, HC7.out.2, (.inr HOX.out), HBX.out⟩
      · have bK2 : (Kd == 2) = false := by simp [hK2]
        by_cases hK3 : Kd = 3
        · have bK3 : (Kd == 3) = true := by simp [hK3]
          have HK3 : Hid (Kd = 3) := hK3
          clear hK2
          have r14 : w1.cell? ⟨w.heap.size + 1, 14, none⟩ = some (.int .i64 q) := HS1.out.r.cell 14
          have g0 : w1.cell? ⟨w.heap.size, 0, none⟩ = some (.int .i64 Ep) := HS1.out.g.cell 0
          have g1 : w1.cell? ⟨w.heap.size, 1, none⟩ = some (.slice (some ⟨b, off, none⟩) 6 c) := HS1.out.g.cell 1
          have g2 : w1.cell? ⟨w.heap.size, 2, none⟩ = some (.int .i64 Op) := HS1.out.g.cell 2
          obtain ⟨X2, hX2⟩ : ∃ X2, inB l q = X2 := ⟨_, rfl⟩
          have HX2 : Hid (inB l q = X2) := hX2
          clear hX2 hx hK3
          go_wp2_with fail
          clear r14 g0 g1 g2 r0 r1
          refine (CI.out q w1 HS1.out.w).mono ?_
          rintro e w3 ⟨rfl, hb⟩
          have HS3 : Hid (DoS w w3 #[.int .i64 Ep, .slice (some ⟨b, off, none⟩) 6 c, .int .i64 Op] #[.int .i64 Kd, .int .i64 F, .int .i64 C, .int .i64 S, .string H, .int .i64 k0, .int .i64 k1, .int .i64 k2, .int .i64 k3, .int .i64 k4, .int .i64 k5, .int .i64 k6, .string s7, .string s8, .int .i64 q, .slice ar nr cr]) := HS1.out.on hb
          clear hb HS1
          rw [HX2.out]
          cases X2 with
          | false =>
            have e' : doesP (Ep, l, Op) epoch Kd F q = ((Ep, l, Op), false) := by
              obtain ⟨a1, a2, a3, a4⟩ := HNK.out
              have hx := HX.out
              have hx2 := HX2.out
              have hk := HK3.out
              rw [a1] at hx
              skip
              skip
              unfold doesP; simp [hx, hx2, a1, a2, a3, a4, hk]
            rw [HR.out] at e'
            cases e'
            have d0 : w3.cell? ⟨w.heap.size, 0, none⟩ = some (.int .i64 Ep) := HS3.out.g.cell 0
            have d1 : w3.cell? ⟨w.heap.size, 1, none⟩ = some (.slice (some ⟨b, off, none⟩) 6 c) := HS3.out.g.cell 1
            have d2 : w3.cell? ⟨w.heap.size, 2, none⟩ = some (.int .i64 Op) := HS3.out.g.cell 2
            have X1 := HS3.out.z
            have HBX : Hid (Below w.heap.size w (w3.setRow (w.heap.size + 1 + 1) #[.int .i64 Ep, .slice (some ⟨b, off, none⟩) 6 c, .int .i64 Op])) := below_setRow HS3.out.w (by omega) _
            go_wp2_with (with_reducible refine wpList_storeBlk rfl 24 _ _ rfl (w.heap.size + 1 + 1) #[.int .i64 0, .slice none 0 0, .int .i64 0] #[.int .i64 Ep, .slice (some ⟨b, off, none⟩) 6 c, .int .i64 Op] (by with_unfolding_all rfl) (by with_unfolding_all rfl) X1 rfl (by kernel_rfl) (by kernel_rfl) ?_)
            exact bodyPost_rowTmp rfl (w.heap.size + 1 + 1) #[.int .i64 Ep, .slice (some ⟨b, off, none⟩) 6 c, .int .i64 Op] (.bool false) rfl rfl rfl (X1.setRow _) _ Tryd.underlying24 rfl (by kernel_rfl) ⟨b, off, c, rfl, HC.out.1, HC.out.2, (by first | exact .inl ⟨rfl, rfl, rfl⟩ | exact .inl ⟨rfl, rfl⟩ | simp), HBX.out⟩
          | true =>
            by_cases hq1 : q = 1
            · have bq1 : (q == 1) = true := by simp [hq1]
              have e' : doesP (Ep, l, Op) epoch Kd F q = ((Ep, l, Op), false) := by
                obtain ⟨a1, a2, a3, a4⟩ := HNK.out
                have hx := HX.out
                have hx2 := HX2.out
                have hk := HK3.out
                rw [a1] at hx
                skip
                skip
                unfold doesP; simp [hx, hx2, a1, a2, a3, a4, hk, hq1]
              rw [HR.out] at e'
              cases e'
              clear hq1
              have r14 : w3.cell? ⟨w.heap.size + 1, 14, none⟩ = some (.int .i64 q) := HS3.out.r.cell 14
              have d0 : w3.cell? ⟨w.heap.size, 0, none⟩ = some (.int .i64 Ep) := HS3.out.g.cell 0
              have d1 : w3.cell? ⟨w.heap.size, 1, none⟩ = some (.slice (some ⟨b, off, none⟩) 6 c) := HS3.out.g.cell 1
              have d2 : w3.cell? ⟨w.heap.size, 2, none⟩ = some (.int .i64 Op) := HS3.out.g.cell 2
              have X1 := HS3.out.z
              have HBX : Hid (Below w.heap.size w (w3.setRow (w.heap.size + 1 + 1) #[.int .i64 Ep, .slice (some ⟨b, off, none⟩) 6 c, .int .i64 Op])) := below_setRow HS3.out.w (by omega) _
              go_wp2_with (with_reducible refine wpList_storeBlk rfl 24 _ _ rfl (w.heap.size + 1 + 1) #[.int .i64 0, .slice none 0 0, .int .i64 0] #[.int .i64 Ep, .slice (some ⟨b, off, none⟩) 6 c, .int .i64 Op] (by with_unfolding_all rfl) (by with_unfolding_all rfl) X1 rfl (by kernel_rfl) (by kernel_rfl) ?_)
              exact bodyPost_rowTmp rfl (w.heap.size + 1 + 1) #[.int .i64 Ep, .slice (some ⟨b, off, none⟩) 6 c, .int .i64 Op] (.bool false) rfl rfl rfl (X1.setRow _) _ Tryd.underlying24 rfl (by kernel_rfl) ⟨b, off, c, rfl, HC.out.1, HC.out.2, (by first | exact .inl ⟨rfl, rfl, rfl⟩ | exact .inl ⟨rfl, rfl⟩ | simp), HBX.out⟩
            · have bq1 : (q == 1) = false := by simp [hq1]
              obtain ⟨qn, HQN⟩ : ∃ qn : Nat, Hid (q = (qn : Int) + 1 ∧ qn < 6) := by
                have := HQ.out (by rw [HK3.out]; decide)
                exact ⟨(q - 1).toNat, by show _ ∧ _; omega⟩
              have bw : IntKind.i64.wrap (q - 1) = (qn : Int) := by have := HQN.out.1; have h2 := HQN.out.2; rw [IntKind.wrap_i64]; omega
              have r14 : w3.cell? ⟨w.heap.size + 1, 14, none⟩ = some (.int .i64 q) := HS3.out.r.cell 14
              go_wp2_with fail
              obtain ⟨y, hy⟩ : ∃ y, (mmL l qn).2.1 = y := ⟨_, rfl⟩
              have HY : Hid ((mmL l qn).2.1 = y) := hy
              have CW : Hid (∀ W, Below w.heap.size w W → _) := fun W hW => rwith20_any Ep Op l b off c qn (q, y, false) W HLN.out HQN.out.2 HC.out.1 HC.out.2 (HI.out.below hW)
              simp only [memA] at CW
              have HSD : Hid (DoS w w3.drew #[.int .i64 Ep, .slice (some ⟨b, off, none⟩) 6 c, .int .i64 Op] #[.int .i64 Kd, .int .i64 F, .int .i64 C, .int .i64 S, .string H, .int .i64 k0, .int .i64 k1, .int .i64 k2, .int .i64 k3, .int .i64 k4, .int .i64 k5, .int .i64 k6, .string s7, .string s8, .int .i64 q, .slice ar nr cr]) := HS3.out.on (Below.refl _ _).drew
              have hcy : w3.drew.cell? ⟨b, off + qn * 3 + 1, none⟩ = some (.int .i64 y) := by
                have h := HI.out.below HSD.out.w
                obtain ⟨b', off', e1, h1⟩ := h.2.resolve_left (by decide)
                cases e1
                rw [← HY.out]; exact (h1 qn HQN.out.2).2.1
              have bq0 : (0 : Int) ≤ (qn : Int) := by omega
              have bq6 : (qn : Int) < 6 := by have := HQN.out.2; omega
              have HBL : Hid (b < w.heap.size) := by
                obtain ⟨b', off', e1, h1⟩ := HI.out.2.resolve_left (by decide)
                cases e1
                exact World.block_lt_of_cell? _ _ (h1 0 (by decide)).1
              have hS0 : w3.drew.cell? ⟨w.heap.size + 1, 14, none⟩ = some (.int .i64 q) ∧ w3.drew.cell? ⟨b, off + qn * 3 + 1, none⟩ = some (.int .i64 y) := ⟨HSD.out.r.cell 14, hcy⟩
              have f0 : w3.drew.cell? ⟨w.heap.size, 0, none⟩ = some (.int .i64 Ep) := HSD.out.g.cell 0
              have f1 : w3.drew.cell? ⟨w.heap.size, 1, none⟩ = some (.slice (some ⟨b, off, none⟩) 6 c) := HSD.out.g.cell 1
              have f2 : w3.drew.cell? ⟨w.heap.size, 2, none⟩ = some (.int .i64 Op) := HSD.out.g.cell 2
              clear hy
              refine wp_region_noPanic ?_
              refine wp_region_held_drew (S := fun W' => W'.cell? ⟨w.heap.size + 1, 14, none⟩ = some (.int .i64 q) ∧ W'.cell? ⟨b, off + qn * 3 + 1, none⟩ = some (.int .i64 y)) (by kernel_rfl) (by first | exact trivial | assumption | exact ⟨by assumption, by assumption⟩) (fun hHeld => ?_)
              refine take_at (i := 1) (v := ?_) rfl rfl (by kernel_rfl) (by kernel_rfl) (by kernel_rfl) (fun _ _ _ h => h) (Or.inl ⟨by rfl, ?_⟩) (by assumption) ?_
              rotate_left
              · intro w hSw; (try dsimp only at hSw); go_simp; try with_reducible rfl
              try simp only [Act.put, List.setIfInBounds_toArray, List.set_cons_zero, List.set_cons_succ]
              refine take_at (i := 2) (v := ?_) rfl rfl (by kernel_rfl) (by kernel_rfl) (by kernel_rfl) (fun _ _ _ h => h) (Or.inl ⟨by rfl, ?_⟩) (by assumption) ?_
              rotate_left
              · intro w hSw; (try dsimp only at hSw); go_simp; try with_reducible rfl
              try simp only [Act.put, List.setIfInBounds_toArray, List.set_cons_zero, List.set_cons_succ]
              refine take_at (i := 3) (v := ?_) rfl rfl (by kernel_rfl) (by kernel_rfl) (by kernel_rfl) (fun _ _ _ h => h) (Or.inl ⟨by rfl, ?_⟩) (by assumption) ?_
              rotate_left
              · intro w hSw; (try dsimp only at hSw); go_simp; try with_reducible rfl
              try simp only [Act.put, List.setIfInBounds_toArray, List.set_cons_zero, List.set_cons_succ]
              refine take_at (i := 4) (v := ?_) rfl rfl (by kernel_rfl) (by kernel_rfl) (by kernel_rfl) (fun _ _ _ h => h) (Or.inl ⟨by rfl, ?_⟩) (by assumption) ?_
              rotate_left
              · intro w hSw; (try dsimp only at hSw); go_simp; try with_reducible rfl
              try simp only [Act.put, List.setIfInBounds_toArray, List.set_cons_zero, List.set_cons_succ]
              refine take_at (i := 5) (v := ?_) rfl rfl (by kernel_rfl) (by kernel_rfl) (by kernel_rfl) (fun _ _ _ h => h) (Or.inl ⟨by rfl, ?_⟩) (by assumption) ?_
              rotate_left
              · intro w hSw; (try dsimp only at hSw); go_simp; try with_reducible rfl
              try simp only [Act.put, List.setIfInBounds_toArray, List.set_cons_zero, List.set_cons_succ]
              refine take_at (i := 6) (v := ?_) rfl rfl (by kernel_rfl) (by kernel_rfl) (by kernel_rfl) (fun _ _ _ h => h) (Or.inl ⟨by rfl, ?_⟩) (by assumption) ?_
              rotate_left
              · intro w hSw; (try dsimp only at hSw); go_simp; try with_reducible rfl
              try simp only [Act.put, List.setIfInBounds_toArray, List.set_cons_zero, List.set_cons_succ]
              refine take_at (i := 8) (v := ?_) rfl rfl (by kernel_rfl) (by kernel_rfl) (by kernel_rfl) (fun _ _ _ h => h) (Or.inl ⟨by rfl, ?_⟩) (by assumption) ?_
              rotate_left
              · intro w hSw; (try dsimp only at hSw); go_simp; try with_reducible rfl
              try simp only [Act.put, List.setIfInBounds_toArray, List.set_cons_zero, List.set_cons_succ]
              refine take_at (i := 9) (v := ?_) rfl rfl (by kernel_rfl) (by kernel_rfl) (by kernel_rfl) (fun _ _ _ h => h) (Or.inl ⟨by rfl, ?_⟩) (by assumption) ?_
              rotate_left
              · intro w hSw; (try dsimp only at hSw); go_simp; try with_reducible rfl
              try simp only [Act.put, List.setIfInBounds_toArray, List.set_cons_zero, List.set_cons_succ]
              refine take_at (i := 10) (v := ?_) rfl rfl (by kernel_rfl) (by kernel_rfl) (by kernel_rfl) (fun _ _ _ h => h) (Or.inl ⟨by rfl, ?_⟩) (by assumption) ?_
              rotate_left
              · intro w hSw; (try dsimp only at hSw); go_simp; try with_reducible rfl
              try simp only [Act.put, List.setIfInBounds_toArray, List.set_cons_zero, List.set_cons_succ]
              refine wpAnyH_ready (rs := [0, 7]) (by kernel_rfl) (by simp) ?_
              refine AllReadyH.cons rfl (fun K hK => ?_) (AllReadyH.cons rfl (fun K hK => ?_) AllReadyH.nil)
              · go_simp
                refine hK.out _ _ hS0 (fun hHeld => ?_)
                clear hK K
                refine wpAnyH_ready (rs := [7]) (by kernel_rfl) (by simp) ?_
                refine AllReadyH.cons rfl (fun K hK => ?_) AllReadyH.nil
                go_simp
                refine hK.out _ _ hS0 (fun hHeld => ?_)
                clear hK K
                refine take_at (i := 11) (v := ?_) rfl rfl (by kernel_rfl) (by kernel_rfl) (by kernel_rfl) (fun _ _ _ h => h) (Or.inl ⟨by rfl, ?_⟩) (by assumption) ?_
                rotate_left
                · intro w hSw; (try dsimp only at hSw); go_simp; try with_reducible rfl
                try simp only [Act.put, List.setIfInBounds_toArray, List.set_cons_zero, List.set_cons_succ]
                refine take_at (i := 12) (v := ?_) rfl rfl (by kernel_rfl) (by kernel_rfl) (by kernel_rfl) (fun _ _ _ h => h) (Or.inl ⟨by rfl, ?_⟩) (by assumption) ?_
                rotate_left
                · intro w hSw; (try dsimp only at hSw); go_simp; try with_reducible rfl
                try simp only [Act.put, List.setIfInBounds_toArray, List.set_cons_zero, List.set_cons_succ]
                refine take_at (i := 13) (v := ?_) rfl rfl (by kernel_rfl) (by kernel_rfl) (by kernel_rfl) (fun _ _ _ h => h) (Or.inl ⟨by rfl, ?_⟩) (by assumption) ?_
                rotate_left
                · intro w hSw; (try dsimp only at hSw); go_simp; try with_reducible rfl
                try simp only [Act.put, List.setIfInBounds_toArray, List.set_cons_zero, List.set_cons_succ]
                refine take_at (i := 14) (v := ?_) rfl rfl (by kernel_rfl) (by kernel_rfl) (by kernel_rfl) (fun _ _ _ h => h) (Or.inl ⟨by rfl, ?_⟩) (by assumption) ?_
                rotate_left
                · intro w hSw; (try dsimp only at hSw); go_simp; try with_reducible rfl
                try simp only [Act.put, List.setIfInBounds_toArray, List.set_cons_zero, List.set_cons_succ]
                refine wpAnyH_ready (rs := [15]) (by kernel_rfl) (by simp) ?_
                refine AllReadyH.cons rfl (fun K hK => ?_) AllReadyH.nil
                go_simp
                refine (CW.out _ HSD.out.w).mono ?_
                rintro e V1 ⟨b7, o7, c7, rfl, hc7, hcm7, how7, hb7⟩
                have HSV : Hid (DoS w V1 #[.int .i64 Ep, .slice (some ⟨b, off, none⟩) 6 c, .int .i64 Op] #[.int .i64 Kd, .int .i64 F, .int .i64 C, .int .i64 S, .string H, .int .i64 k0, .int .i64 k1, .int .i64 k2, .int .i64 k3, .int .i64 k4, .int .i64 k5, .int .i64 k6, .string s7, .string s8, .int .i64 q, .slice ar nr cr]) := HSD.out.on hb7
                have HBS : Hid (∃ B, w.heap.size + 1 + 1 < B ∧ OwnM V1 B (.slice (some ⟨b7, o7, none⟩) 6 c7) (withM l qn (q, y, false))) := ⟨_, by have h1 := HSD.out.z.lt; omega, how7⟩
                have HC7 : Hid (6 ≤ c7 ∧ c7 ≤ 9223372036854775807) := ⟨hc7, hcm7⟩
                have hS1 : V1.cell? ⟨w.heap.size + 1, 14, none⟩ = some (.int .i64 q) ∧ V1.cell? ⟨b, off + qn * 3 + 1, none⟩ = some (.int .i64 y) := ⟨HSV.out.r.cell 14, by rw [hb7.cell (World.block_lt_of_cell? _ _ hcy)]; exact hcy⟩
                clear how7 hb7 hc7 hcm7 CW
                refine hK.out _ _ hS1 (fun hHeld => ?_)
                clear hK K
                refine wpAnyH_ready (rs := [16]) (by kernel_rfl) (by simp) ?_
                refine AllReadyH.cons rfl (fun K hK => ?_) AllReadyH.nil
                refine step_storeRow rfl rfl 24 _ _ rfl w.heap.size #[.int .i64 Ep, .slice (some ⟨b, off, none⟩) 6 c, .int .i64 Op] #[.int .i64 Ep, .slice (some ⟨b7, o7, none⟩) 6 c7, .int .i64 Op] rfl rfl HSV.out.g rfl (by kernel_rfl) (by kernel_rfl) ?_
                have HS9 : Hid (DoS w (V1.setRow w.heap.size #[.int .i64 Ep, .slice (some ⟨b7, o7, none⟩) 6 c7, .int .i64 Op]) #[.int .i64 Ep, .slice (some ⟨b7, o7, none⟩) 6 c7, .int .i64 Op] #[.int .i64 Kd, .int .i64 F, .int .i64 C, .int .i64 S, .string H, .int .i64 k0, .int .i64 k1, .int .i64 k2, .int .i64 k3, .int .i64 k4, .int .i64 k5, .int .i64 k6, .string s7, .string s8, .int .i64 q, .slice ar nr cr]) := HSV.out.rowG _
                have HB9 : Hid (∃ B, w.heap.size + 1 + 1 < B ∧ OwnM (V1.setRow w.heap.size #[.int .i64 Ep, .slice (some ⟨b7, o7, none⟩) 6 c7, .int .i64 Op]) B (.slice (some ⟨b7, o7, none⟩) 6 c7) (withM l qn (q, y, false))) := by
                  obtain ⟨B, h1, h2⟩ := HBS.out
                  exact ⟨B, h1, owns_same h2 (fun j hj => setRow_other V1 w.heap.size j _ (by have q1 := (World.ownsRow.lt h2 j hj).1; omega))⟩
                have hS9 : (V1.setRow w.heap.size #[.int .i64 Ep, .slice (some ⟨b7, o7, none⟩) 6 c7, .int .i64 Op]).cell? ⟨w.heap.size + 1, 14, none⟩ = some (.int .i64 q) ∧ (V1.setRow w.heap.size #[.int .i64 Ep, .slice (some ⟨b7, o7, none⟩) 6 c7, .int .i64 Op]).cell? ⟨b, off + qn * 3 + 1, none⟩ = some (.int .i64 y) := ⟨HS9.out.r.cell 14, by rw [cell_setRowO V1 w.heap.size #[.int .i64 Ep, .slice (some ⟨b7, o7, none⟩) 6 c7, .int .i64 Op] ⟨b, off + qn * 3 + 1, none⟩ (by show b ≠ w.heap.size; have := HBL.out; omega)]; exact hS1.2⟩
                clear HSV HBS
                refine hK.out _ _ hS9 (fun hHeld => ?_)
                clear hK K
                refine wpAnyH_done (by kernel_rfl) (NoPanic.normal ?_) _
                obtain ⟨w4, hw4⟩ : ∃ w4, V1.setRow w.heap.size #[.int .i64 Ep, .slice (some ⟨b7, o7, none⟩) 6 c7, .int .i64 Op] = w4 := ⟨_, rfl⟩
                rw [hw4] at HS9 HB9 ⊢
                clear hw4
                have HS2 : Hid (DoS w (w4.setCell ⟨w.heap.size, 0, none⟩ (.int .i64 (Ep + 1))) #[.int .i64 (Ep + 1), .slice (some ⟨b7, o7, none⟩) 6 c7, .int .i64 Op] #[.int .i64 Kd, .int .i64 F, .int .i64 C, .int .i64 S, .string H, .int .i64 k0, .int .i64 k1, .int .i64 k2, .int .i64 k3, .int .i64 k4, .int .i64 k5, .int .i64 k6, .string s7, .string s8, .int .i64 q, .slice ar nr cr]) := HS9.out.setG 0 _
                have o2 : w4.cell? ⟨w.heap.size, 0, none⟩ = some (.int .i64 Ep) := HS9.out.g.cell 0
                have o3 : w4.frozen? ⟨w.heap.size, 0, none⟩ = false := HS9.out.g.free 0
                obtain ⟨w2, hw2⟩ : ∃ w2, w4.setCell ⟨w.heap.size, 0, none⟩ (.int .i64 (Ep + 1)) = w2 := ⟨_, rfl⟩
                rw [hw2] at HS2
                have HB2 : Hid (∃ B, w.heap.size + 1 + 1 < B ∧ OwnM w2 B (.slice (some ⟨b7, o7, none⟩) 6 c7) (withM l qn (q, y, false))) := by
                  obtain ⟨B, h1, h2⟩ := HB9.out
                  rw [← hw2]
                  exact ⟨B, h1, owns_set h2 ⟨w.heap.size, 0, none⟩ (by show w.heap.size < B; omega) _⟩
                have HOX : Hid (∃ B, w.heap.size ≤ B ∧ OwnM (w2.setRow (w.heap.size + 1 + 1) #[.int .i64 (Ep + 1), .slice (some ⟨b7, o7, none⟩) 6 c7, .int .i64 Op]) B (.slice (some ⟨b7, o7, none⟩) 6 c7) (withM l qn (q, y, false))) := by
                  obtain ⟨B, h1, h2⟩ := HB2.out
                  exact ⟨B, by omega, owns_same h2 (fun j hj => setRow_other w2 (w.heap.size + 1 + 1) j _ (by have q1 := (World.ownsRow.lt h2 j hj).1; omega))⟩
                clear HB2 HB9
                have e' : doesP (Ep, l, Op) epoch Kd F q = ((Ep + 1, withM l qn (q, y, false), Op), true) := by
                  obtain ⟨a1, a2, a3, a4⟩ := HNK.out
                  have hx := HX.out
                  have hx2 := HX2.out
                  have hk := HK3.out
                  rw [a1] at hx
                  have hqn : (q - 1).toNat = qn := by have := HQN.out.1; omega
                  have hy := HY.out
                  unfold doesP; simp [hx, hx2, a1, a2, a3, a4, hk, hqn, hy, hq1]
                rw [HR.out] at e'
                cases e'
                have d0 : w2.cell? ⟨w.heap.size, 0, none⟩ = some (.int .i64 (Ep + 1)) := HS2.out.g.cell 0
                have d1 : w2.cell? ⟨w.heap.size, 1, none⟩ = some (.slice (some ⟨b7, o7, none⟩) 6 c7) := HS2.out.g.cell 1
                have d2 : w2.cell? ⟨w.heap.size, 2, none⟩ = some (.int .i64 Op) := HS2.out.g.cell 2
                have X1 := HS2.out.z
                have HBX : Hid (Below w.heap.size w (w2.setRow (w.heap.size + 1 + 1) #[.int .i64 (Ep + 1), .slice (some ⟨b7, o7, none⟩) 6 c7, .int .i64 Op])) := below_setRow HS2.out.w (by omega) _
                go_wp2_with (with_reducible refine wpList_storeBlk rfl 24 _ _ rfl (w.heap.size + 1 + 1) #[.int .i64 0, .slice none 0 0, .int .i64 0] #[.int .i64 (Ep + 1), .slice (some ⟨b7, o7, none⟩) 6 c7, .int .i64 Op] (by with_unfolding_all rfl) (by with_unfolding_all rfl) X1 rfl (by kernel_rfl) (by kernel_rfl) ?_)
                exact bodyPost_rowTmp rfl (w.heap.size + 1 + 1) #[.int .i64 (Ep + 1), .slice (some ⟨b7, o7, none⟩) 6 c7, .int .i64 Op] (.bool true) rfl rfl rfl (X1.setRow _) _ Tryd.underlying24 rfl (by kernel_rfl) ⟨b7, o7, c7, rfl, HC7.out.1, HC7.out.2, (.inr HOX.out), HBX.out⟩
              · go_simp
                refine hK.out _ _ hS0 (fun hHeld => ?_)
                clear hK K
                refine take_at (i := 11) (v := ?_) rfl rfl (by kernel_rfl) (by kernel_rfl) (by kernel_rfl) (fun _ _ _ h => h) (Or.inl ⟨by rfl, ?_⟩) (by assumption) ?_
                rotate_left
                · intro w hSw; (try dsimp only at hSw); go_simp; try with_reducible rfl
                try simp only [Act.put, List.setIfInBounds_toArray, List.set_cons_zero, List.set_cons_succ]
                refine take_at (i := 12) (v := ?_) rfl rfl (by kernel_rfl) (by kernel_rfl) (by kernel_rfl) (fun _ _ _ h => h) (Or.inl ⟨by rfl, ?_⟩) (by assumption) ?_
                rotate_left
                · intro w hSw; (try dsimp only at hSw); go_simp; try with_reducible rfl
                try simp only [Act.put, List.setIfInBounds_toArray, List.set_cons_zero, List.set_cons_succ]
                refine take_at (i := 13) (v := ?_) rfl rfl (by kernel_rfl) (by kernel_rfl) (by kernel_rfl) (fun _ _ _ h => h) (Or.inl ⟨by rfl, ?_⟩) (by assumption) ?_
                rotate_left
                · intro w hSw; (try dsimp only at hSw); go_simp; try with_reducible rfl
                try simp only [Act.put, List.setIfInBounds_toArray, List.set_cons_zero, List.set_cons_succ]
                refine take_at (i := 14) (v := ?_) rfl rfl (by kernel_rfl) (by kernel_rfl) (by kernel_rfl) (fun _ _ _ h => h) (Or.inl ⟨by rfl, ?_⟩) (by assumption) ?_
                rotate_left
                · intro w hSw; (try dsimp only at hSw); go_simp; try with_reducible rfl
                try simp only [Act.put, List.setIfInBounds_toArray, List.set_cons_zero, List.set_cons_succ]
                refine wpAnyH_ready (rs := [0]) (by kernel_rfl) (by simp) ?_
                refine AllReadyH.cons rfl (fun K hK => ?_) AllReadyH.nil
                go_simp
                refine hK.out _ _ hS0 (fun hHeld => ?_)
                clear hK K
                refine wpAnyH_ready (rs := [15]) (by kernel_rfl) (by simp) ?_
                refine AllReadyH.cons rfl (fun K hK => ?_) AllReadyH.nil
                go_simp
                refine (CW.out _ HSD.out.w).mono ?_
                rintro e V1 ⟨b7, o7, c7, rfl, hc7, hcm7, how7, hb7⟩
                have HSV : Hid (DoS w V1 #[.int .i64 Ep, .slice (some ⟨b, off, none⟩) 6 c, .int .i64 Op] #[.int .i64 Kd, .int .i64 F, .int .i64 C, .int .i64 S, .string H, .int .i64 k0, .int .i64 k1, .int .i64 k2, .int .i64 k3, .int .i64 k4, .int .i64 k5, .int .i64 k6, .string s7, .string s8, .int .i64 q, .slice ar nr cr]) := HSD.out.on hb7
                have HBS : Hid (∃ B, w.heap.size + 1 + 1 < B ∧ OwnM V1 B (.slice (some ⟨b7, o7, none⟩) 6 c7) (withM l qn (q, y, false))) := ⟨_, by have h1 := HSD.out.z.lt; omega, how7⟩
                have HC7 : Hid (6 ≤ c7 ∧ c7 ≤ 9223372036854775807) := ⟨hc7, hcm7⟩
                have hS1 : V1.cell? ⟨w.heap.size + 1, 14, none⟩ = some (.int .i64 q) ∧ V1.cell? ⟨b, off + qn * 3 + 1, none⟩ = some (.int .i64 y) := ⟨HSV.out.r.cell 14, by rw [hb7.cell (World.block_lt_of_cell? _ _ hcy)]; exact hcy⟩
                clear how7 hb7 hc7 hcm7 CW
                refine hK.out _ _ hS1 (fun hHeld => ?_)
                clear hK K
                refine wpAnyH_ready (rs := [16]) (by kernel_rfl) (by simp) ?_
                refine AllReadyH.cons rfl (fun K hK => ?_) AllReadyH.nil
                refine step_storeRow rfl rfl 24 _ _ rfl w.heap.size #[.int .i64 Ep, .slice (some ⟨b, off, none⟩) 6 c, .int .i64 Op] #[.int .i64 Ep, .slice (some ⟨b7, o7, none⟩) 6 c7, .int .i64 Op] rfl rfl HSV.out.g rfl (by kernel_rfl) (by kernel_rfl) ?_
                have HS9 : Hid (DoS w (V1.setRow w.heap.size #[.int .i64 Ep, .slice (some ⟨b7, o7, none⟩) 6 c7, .int .i64 Op]) #[.int .i64 Ep, .slice (some ⟨b7, o7, none⟩) 6 c7, .int .i64 Op] #[.int .i64 Kd, .int .i64 F, .int .i64 C, .int .i64 S, .string H, .int .i64 k0, .int .i64 k1, .int .i64 k2, .int .i64 k3, .int .i64 k4, .int .i64 k5, .int .i64 k6, .string s7, .string s8, .int .i64 q, .slice ar nr cr]) := HSV.out.rowG _
                have HB9 : Hid (∃ B, w.heap.size + 1 + 1 < B ∧ OwnM (V1.setRow w.heap.size #[.int .i64 Ep, .slice (some ⟨b7, o7, none⟩) 6 c7, .int .i64 Op]) B (.slice (some ⟨b7, o7, none⟩) 6 c7) (withM l qn (q, y, false))) := by
                  obtain ⟨B, h1, h2⟩ := HBS.out
                  exact ⟨B, h1, owns_same h2 (fun j hj => setRow_other V1 w.heap.size j _ (by have q1 := (World.ownsRow.lt h2 j hj).1; omega))⟩
                have hS9 : (V1.setRow w.heap.size #[.int .i64 Ep, .slice (some ⟨b7, o7, none⟩) 6 c7, .int .i64 Op]).cell? ⟨w.heap.size + 1, 14, none⟩ = some (.int .i64 q) ∧ (V1.setRow w.heap.size #[.int .i64 Ep, .slice (some ⟨b7, o7, none⟩) 6 c7, .int .i64 Op]).cell? ⟨b, off + qn * 3 + 1, none⟩ = some (.int .i64 y) := ⟨HS9.out.r.cell 14, by rw [cell_setRowO V1 w.heap.size #[.int .i64 Ep, .slice (some ⟨b7, o7, none⟩) 6 c7, .int .i64 Op] ⟨b, off + qn * 3 + 1, none⟩ (by show b ≠ w.heap.size; have := HBL.out; omega)]; exact hS1.2⟩
                clear HSV HBS
                refine hK.out _ _ hS9 (fun hHeld => ?_)
                clear hK K
                refine wpAnyH_done (by kernel_rfl) (NoPanic.normal ?_) _
                obtain ⟨w4, hw4⟩ : ∃ w4, V1.setRow w.heap.size #[.int .i64 Ep, .slice (some ⟨b7, o7, none⟩) 6 c7, .int .i64 Op] = w4 := ⟨_, rfl⟩
                rw [hw4] at HS9 HB9 ⊢
                clear hw4
                have HS2 : Hid (DoS w (w4.setCell ⟨w.heap.size, 0, none⟩ (.int .i64 (Ep + 1))) #[.int .i64 (Ep + 1), .slice (some ⟨b7, o7, none⟩) 6 c7, .int .i64 Op] #[.int .i64 Kd, .int .i64 F, .int .i64 C, .int .i64 S, .string H, .int .i64 k0, .int .i64 k1, .int .i64 k2, .int .i64 k3, .int .i64 k4, .int .i64 k5, .int .i64 k6, .string s7, .string s8, .int .i64 q, .slice ar nr cr]) := HS9.out.setG 0 _
                have o2 : w4.cell? ⟨w.heap.size, 0, none⟩ = some (.int .i64 Ep) := HS9.out.g.cell 0
                have o3 : w4.frozen? ⟨w.heap.size, 0, none⟩ = false := HS9.out.g.free 0
                obtain ⟨w2, hw2⟩ : ∃ w2, w4.setCell ⟨w.heap.size, 0, none⟩ (.int .i64 (Ep + 1)) = w2 := ⟨_, rfl⟩
                rw [hw2] at HS2
                have HB2 : Hid (∃ B, w.heap.size + 1 + 1 < B ∧ OwnM w2 B (.slice (some ⟨b7, o7, none⟩) 6 c7) (withM l qn (q, y, false))) := by
                  obtain ⟨B, h1, h2⟩ := HB9.out
                  rw [← hw2]
                  exact ⟨B, h1, owns_set h2 ⟨w.heap.size, 0, none⟩ (by show w.heap.size < B; omega) _⟩
                have HOX : Hid (∃ B, w.heap.size ≤ B ∧ OwnM (w2.setRow (w.heap.size + 1 + 1) #[.int .i64 (Ep + 1), .slice (some ⟨b7, o7, none⟩) 6 c7, .int .i64 Op]) B (.slice (some ⟨b7, o7, none⟩) 6 c7) (withM l qn (q, y, false))) := by
                  obtain ⟨B, h1, h2⟩ := HB2.out
                  exact ⟨B, by omega, owns_same h2 (fun j hj => setRow_other w2 (w.heap.size + 1 + 1) j _ (by have q1 := (World.ownsRow.lt h2 j hj).1; omega))⟩
                clear HB2 HB9
                have e' : doesP (Ep, l, Op) epoch Kd F q = ((Ep + 1, withM l qn (q, y, false), Op), true) := by
                  obtain ⟨a1, a2, a3, a4⟩ := HNK.out
                  have hx := HX.out
                  have hx2 := HX2.out
                  have hk := HK3.out
                  rw [a1] at hx
                  have hqn : (q - 1).toNat = qn := by have := HQN.out.1; omega
                  have hy := HY.out
                  unfold doesP; simp [hx, hx2, a1, a2, a3, a4, hk, hqn, hy, hq1]
                rw [HR.out] at e'
                cases e'
                have d0 : w2.cell? ⟨w.heap.size, 0, none⟩ = some (.int .i64 (Ep + 1)) := HS2.out.g.cell 0
                have d1 : w2.cell? ⟨w.heap.size, 1, none⟩ = some (.slice (some ⟨b7, o7, none⟩) 6 c7) := HS2.out.g.cell 1
                have d2 : w2.cell? ⟨w.heap.size, 2, none⟩ = some (.int .i64 Op) := HS2.out.g.cell 2
                have X1 := HS2.out.z
                have HBX : Hid (Below w.heap.size w (w2.setRow (w.heap.size + 1 + 1) #[.int .i64 (Ep + 1), .slice (some ⟨b7, o7, none⟩) 6 c7, .int .i64 Op])) := below_setRow HS2.out.w (by omega) _
                go_wp2_with (with_reducible refine wpList_storeBlk rfl 24 _ _ rfl (w.heap.size + 1 + 1) #[.int .i64 0, .slice none 0 0, .int .i64 0] #[.int .i64 (Ep + 1), .slice (some ⟨b7, o7, none⟩) 6 c7, .int .i64 Op] (by with_unfolding_all rfl) (by with_unfolding_all rfl) X1 rfl (by kernel_rfl) (by kernel_rfl) ?_)
                exact bodyPost_rowTmp rfl (w.heap.size + 1 + 1) #[.int .i64 (Ep + 1), .slice (some ⟨b7, o7, none⟩) 6 c7, .int .i64 Op] (.bool true) rfl rfl rfl (X1.setRow _) _ Tryd.underlying24 rfl (by kernel_rfl) ⟨b7, o7, c7, rfl, HC7.out.1, HC7.out.2, (.inr HOX.out), HBX.out⟩
        · have bK3 : (Kd == 3) = false := by simp [hK3]
          have e' : doesP (Ep, l, Op) epoch Kd F q = ((Ep + 1, l, Op), true) := by
            obtain ⟨a1, a2, a3, a4⟩ := HNK.out
            rw [a1] at hx; unfold doesP; simp [hx, a1, a2, a3, a4, hK2, hK3]
          rw [HR.out] at e'
          cases e'
          clear hK2 hK3 hx HNK
          have HS2 : Hid (DoS w (w1.setCell ⟨w.heap.size, 0, none⟩ (.int .i64 (Ep + 1))) #[.int .i64 (Ep + 1), .slice (some ⟨b, off, none⟩) 6 c, .int .i64 Op] #[.int .i64 Kd, .int .i64 F, .int .i64 C, .int .i64 S, .string H, .int .i64 k0, .int .i64 k1, .int .i64 k2, .int .i64 k3, .int .i64 k4, .int .i64 k5, .int .i64 k6, .string s7, .string s8, .int .i64 q, .slice ar nr cr]) := HS1.out.setG 0 _
          have o2 : w1.cell? ⟨w.heap.size, 0, none⟩ = some (.int .i64 Ep) := HS1.out.g.cell 0
          have o3 : w1.frozen? ⟨w.heap.size, 0, none⟩ = false := HS1.out.g.free 0
          obtain ⟨w2, hw2⟩ : ∃ w2, w1.setCell ⟨w.heap.size, 0, none⟩ (.int .i64 (Ep + 1)) = w2 := ⟨_, rfl⟩
          rw [hw2] at HS2
          have d0 : w2.cell? ⟨w.heap.size, 0, none⟩ = some (.int .i64 (Ep + 1)) := HS2.out.g.cell 0
          have d1 : w2.cell? ⟨w.heap.size, 1, none⟩ = some (.slice (some ⟨b, off, none⟩) 6 c) := HS2.out.g.cell 1
          have d2 : w2.cell? ⟨w.heap.size, 2, none⟩ = some (.int .i64 Op) := HS2.out.g.cell 2
          have X1 := HS2.out.z
          have HBX : Hid (Below w.heap.size w (w2.setRow (w.heap.size + 1 + 1) #[.int .i64 (Ep + 1), .slice (some ⟨b, off, none⟩) 6 c, .int .i64 Op])) := below_setRow HS2.out.w (by omega) _
          go_wp2_with (with_reducible refine wpList_storeBlk rfl 24 _ _ rfl (w.heap.size + 1 + 1) #[.int .i64 0, .slice none 0 0, .int .i64 0] #[.int .i64 (Ep + 1), .slice (some ⟨b, off, none⟩) 6 c, .int .i64 Op] (by with_unfolding_all rfl) (by with_unfolding_all rfl) X1 rfl (by kernel_rfl) (by kernel_rfl) ?_)
          exact bodyPost_rowTmp rfl (w.heap.size + 1 + 1) #[.int .i64 (Ep + 1), .slice (some ⟨b, off, none⟩) 6 c, .int .i64 Op] (.bool true) rfl rfl rfl (X1.setRow _) _ Tryd.underlying24 rfl (by kernel_rfl) ⟨b, off, c, rfl, HC.out.1, HC.out.2, (by first | exact .inl ⟨rfl, rfl, rfl⟩ | exact .inl ⟨rfl, rfl⟩ | simp), HBX.out⟩

end Go.Proofs.YtabhkebkbidfhaaDoor
