/- Layer 20, the code's: counts, do. -/
import Derived.Test.YtkmdajenbidaaaaDoorGpC
namespace Go.Proofs.YtkmdajenbidaaaaDoor
open Go.RowKit
set_option maxRecDepth 100000
set_option linter.unusedSimpArgs false
set_option linter.unusedVariables false
set_option maxRecDepth 100000

theorem in6_any (Ep Op : Int) (l : List MemT) (b off c : Nat) (who : Int) (w : World) (hl : l.length = 6) (hI : MmsAt w (some ⟨b, off, none⟩) 6 l) :
    Calls Tryd.prog 8 #[.agg #[.int .i64 Ep, .slice (some ⟨b, off, none⟩) 6 c, .int .i64 Op], .int .i64 who] w fun e w' => e = .returned (.bool (inB l who)) ∧ Below w.heap.size w w' := by
  have h := in20_any (Ep, l, Op) (some ⟨b, off, none⟩) c who w _ rfl (by show l.length ≤ _; omega) (by show MmsAt w _ l.length l; rw [hl]; exact hI)
  unfold grpA at h
  simp only [hl] at h
  exact h

theorem doesP_adm {Ep Op epoch Kd F q : Int} {l : List MemT} (hx : inB l F = true) (h : F = 1 ∧ epoch = Ep ∧ Ep < 1099511627775 ∧ ¬ Kd = 1) : (doesP (Ep, l, Op) epoch Kd F q).2 = if Kd = 2 then !(inB l q) else if Kd = 3 then (inB l q && (q != 1)) else true := by
  unfold doesP
  rw [if_neg (by rw [hx]; exact Bool.noConfusion), if_neg h.2.2.2, if_neg (fun k => by rcases k with k | k | k; exact k h.1; exact k h.2.1; exact absurd h.2.2.1 (by omega))]
  by_cases k2 : Kd = 2
  · rw [if_pos k2, if_pos k2]
    cases inB l q <;> rfl
  · rw [if_neg k2, if_neg k2]
    by_cases k3 : Kd = 3
    · rw [if_pos k3, if_pos k3]
      by_cases e : q = 1
      · rw [if_pos (.inr e), e]; simp
      · cases hq : inB l q
        · simp
        · simp [e]
    · rw [if_neg k3, if_neg k3]

/-- Both boxes. -/
structure CoS (w W : World) (G R : Array Value) : Prop where
  g : Blk W 26 w.heap.size G
  r : Blk W 35 (w.heap.size + 1) R
  w : Below w.heap.size w W
theorem CoS.on {w W W' : World} {G R : Array Value} (h : CoS w W G R) (hb : Below W.heap.size W W') : CoS w W' G R := ⟨h.g.on hb, h.r.on hb, below_step h.w (Nat.le_refl _) hb⟩


set_option maxHeartbeats 4000000 in
theorem counts20_any (Ep Op epoch : Int) (Kd F C S : Int) (H : ByteArray) (k0 k1 k2 k3 k4 k5 k6 : Int) (s7 s8 : ByteArray) (q : Int) (ar : Option Addr) (nr cr : Nat) (l : List MemT) (b off c : Nat) (w : World) (D : Bool) (hR : (doesP (Ep, l, Op) epoch Kd F q).2 = D) (hl : l.length = 6) (hE : Ep ≤ 1099511627775) (hK : 1 ≤ Kd ∧ Kd ≤ 4) (hI : MmsAt w (some ⟨b, off, none⟩) 6 l) :
    Calls Tryd.prog 19 #[.agg #[.int .i64 Ep, .slice (some ⟨b, off, none⟩) 6 c, .int .i64 Op], .int .i64 epoch, .agg #[.int .i64 Kd, .int .i64 F, .int .i64 C, .int .i64 S, .string H, .int .i64 k0, .int .i64 k1, .int .i64 k2, .int .i64 k3, .int .i64 k4, .int .i64 k5, .int .i64 k6, .string s7, .string s8, .int .i64 q, .slice ar nr cr]] w fun e w' => e = .returned (.bool D) ∧ Below w.heap.size w w' := by
  have HR : Hid ((doesP (Ep, l, Op) epoch Kd F q).2 = D) := hR
  have CI : Hid (∀ who W, Below w.heap.size w W → _) := fun who W hW => in6_any Ep Op l b off c who W hl (hI.below hW)
  obtain ⟨X, hX⟩ : ∃ X, inB l F = X := ⟨_, rfl⟩
  have HX : Hid (inB l F = X) := hX
  obtain ⟨w0, hw0⟩ : ∃ w0, (w.alloc (.cells #[.int .i64 Ep, .slice (some ⟨b, off, none⟩) 6 c, .int .i64 Op] 26)).alloc (.cells #[.int .i64 Kd, .int .i64 F, .int .i64 C, .int .i64 S, .string H, .int .i64 k0, .int .i64 k1, .int .i64 k2, .int .i64 k3, .int .i64 k4, .int .i64 k5, .int .i64 k6, .string s7, .string s8, .int .i64 q, .slice ar nr cr] 35) = w0 := ⟨_, rfl⟩
  have n0 := below_new w (.cells #[.int .i64 Ep, .slice (some ⟨b, off, none⟩) 6 c, .int .i64 Op] 26)
  have n1 := below_new (w.alloc (.cells #[.int .i64 Ep, .slice (some ⟨b, off, none⟩) 6 c, .int .i64 Op] 26)) (.cells #[.int .i64 Kd, .int .i64 F, .int .i64 C, .int .i64 S, .string H, .int .i64 k0, .int .i64 k1, .int .i64 k2, .int .i64 k3, .int .i64 k4, .int .i64 k5, .int .i64 k6, .string s7, .string s8, .int .i64 q, .slice ar nr cr] 35)
  have HS0 : Hid (CoS w w0 #[.int .i64 Ep, .slice (some ⟨b, off, none⟩) 6 c, .int .i64 Op] #[.int .i64 Kd, .int .i64 F, .int .i64 C, .int .i64 S, .string H, .int .i64 k0, .int .i64 k1, .int .i64 k2, .int .i64 k3, .int .i64 k4, .int .i64 k5, .int .i64 k6, .string s7, .string s8, .int .i64 q, .slice ar nr cr]) := by
    rw [← hw0]
    exact ⟨(Blk.new w _ _).on n1, Blk.new' _ _ _ _ (by simp), below_step n0 (Nat.le_refl _) n1⟩
  have HW0 : Hid ((w.alloc (.cells #[.int .i64 Ep, .slice (some ⟨b, off, none⟩) 6 c, .int .i64 Op] 26)).alloc (.cells #[.int .i64 Kd, .int .i64 F, .int .i64 C, .int .i64 S, .string H, .int .i64 k0, .int .i64 k1, .int .i64 k2, .int .i64 k3, .int .i64 k4, .int .i64 k5, .int .i64 k6, .string s7, .string s8, .int .i64 q, .slice ar nr cr] 35) = w0) := hw0
  clear hR hI hl hX hw0 n0 n1
  go_enter Tryd.func19, Tryd.ntmps19
  go_wp2_with fail
  rw [HW0.out]
  clear HW0
  refine (CI.out F w0 HS0.out.w).mono ?_
  rintro e w1 ⟨rfl, hb⟩
  have HS1 : Hid (CoS w w1 #[.int .i64 Ep, .slice (some ⟨b, off, none⟩) 6 c, .int .i64 Op] #[.int .i64 Kd, .int .i64 F, .int .i64 C, .int .i64 S, .string H, .int .i64 k0, .int .i64 k1, .int .i64 k2, .int .i64 k3, .int .i64 k4, .int .i64 k5, .int .i64 k6, .string s7, .string s8, .int .i64 q, .slice ar nr cr]) := HS0.out.on hb
  clear hb HS0
  rw [HX.out]
  have r0 : w1.cell? ⟨w.heap.size + 1, 0, none⟩ = some (.int .i64 Kd) := HS1.out.r.cell 0
  have r1 : w1.cell? ⟨w.heap.size + 1, 1, none⟩ = some (.int .i64 F) := HS1.out.r.cell 1
  have r14 : w1.cell? ⟨w.heap.size + 1, 14, none⟩ = some (.int .i64 q) := HS1.out.r.cell 14
  have g0 : w1.cell? ⟨w.heap.size, 0, none⟩ = some (.int .i64 Ep) := HS1.out.g.cell 0
  have g1 : w1.cell? ⟨w.heap.size, 1, none⟩ = some (.slice (some ⟨b, off, none⟩) 6 c) := HS1.out.g.cell 1
  have g2 : w1.cell? ⟨w.heap.size, 2, none⟩ = some (.int .i64 Op) := HS1.out.g.cell 2
  have hx := HX.out
  cases X with
  | false =>
    have e' : (doesP (Ep, l, Op) epoch Kd F q).2 = false := by unfold doesP; simp [hx]
    rw [HR.out] at e'
    cases e'
    clear hx
    go_wp2_with fail
    go_ret
    exact ⟨rfl, HS1.out.w⟩
  | true =>
    by_cases hK1 : Kd = 1
    · have bK : (Kd == 1) = true := by simp [hK1]
      by_cases hO5 : 500 ≤ Op
      · have e' : (doesP (Ep, l, Op) epoch Kd F q).2 = false := by unfold doesP; simp [hx, hK1, hO5]
        have bO : decide (Op < 500) = false := decide_eq_false (by omega)
        clear hK1 hK
        rw [HR.out] at e'
        cases e'
        clear hx
        go_wp2_with fail
        go_ret
        exact ⟨rfl, HS1.out.w⟩
      · have e' : (doesP (Ep, l, Op) epoch Kd F q).2 = true := by unfold doesP; simp [hx, hK1, hO5]
        have bO : decide (Op < 500) = true := decide_eq_true (by omega)
        clear hK1 hK
        rw [HR.out] at e'
        cases e'
        clear hx
        go_wp2_with fail
        go_ret
        exact ⟨rfl, HS1.out.w⟩
    · have bK : (Kd == 1) = false := by simp [hK1]
      by_cases hF : ¬ F = 1
      · have e' : (doesP (Ep, l, Op) epoch Kd F q).2 = false := by unfold doesP; simp [hx, hK1, hF]
        have bF : (F != 1) = true := by simp [hF]
        clear hK1 hF
        rw [HR.out] at e'
        cases e'
        clear hx
        go_wp2_with fail
        go_ret
        exact ⟨rfl, HS1.out.w⟩
      have hF1 : F = 1 := by omega
      have bF : (F != 1) = false := by simp [hF1]
      clear hF
      by_cases hP : ¬ epoch = Ep
      · have e' : (doesP (Ep, l, Op) epoch Kd F q).2 = false := by unfold doesP; simp [hx, hK1, hP]
        have bP : (epoch != Ep) = true := by simp [hP]
        clear hK1 hF1 hP
        rw [HR.out] at e'
        cases e'
        clear hx
        go_wp2_with fail
        go_ret
        exact ⟨rfl, HS1.out.w⟩
      have hP1 : epoch = Ep := by omega
      have bP : (epoch != Ep) = false := by simp [hP1]
      clear hP
      by_cases hM : 1099511627775 ≤ Ep
      · have e' : (doesP (Ep, l, Op) epoch Kd F q).2 = false := by unfold doesP; simp [hx, hK1, hM]
        have bM : (epoch == 1099511627775) = true := by simp; omega
        clear hK1 hF1 hP1 hM
        rw [HR.out] at e'
        cases e'
        clear hx
        go_wp2_with fail
        go_ret
        exact ⟨rfl, HS1.out.w⟩
      have bM : (epoch == 1099511627775) = false := by simp; omega
      have HNK : Hid (F = 1 ∧ epoch = Ep ∧ Ep < 1099511627775 ∧ ¬ Kd = 1) := ⟨hF1, hP1, by omega, hK1⟩
      clear hF1 hP1 hK1 hM hx
      by_cases hK2 : Kd = 2
      · have bK2 : (Kd == 2) = true := by simp [hK2]
        have HK2 : Hid (Kd = 2) := hK2
        clear hK2 hK
        go_wp2_with fail
        refine (CI.out q w1 HS1.out.w).mono ?_
        rintro e w2 ⟨rfl, hb⟩
        have HB2 : Hid (Below w.heap.size w w2) := (HS1.out.on hb).w
        clear hb HS1 r0 r1 r14 g0 g1 g2
        obtain ⟨Y, hY⟩ : ∃ Y, inB l q = Y := ⟨_, rfl⟩
        rw [hY]
        obtain rfl : D = !Y := by
          rw [← HR.out, doesP_adm HX.out HNK.out, if_pos HK2.out, hY]
        clear hY
        cases Y <;> (go_wp2_with fail; go_ret; exact ⟨rfl, HB2.out⟩)
      have bK2 : (Kd == 2) = false := by simp [hK2]
      by_cases hK3 : Kd = 3
      · have bK3 : (Kd == 3) = true := by simp [hK3]
        have HK3 : Hid (Kd = 3) := hK3
        clear hK2 hK3 hK
        go_wp2_with fail
        refine (CI.out q w1 HS1.out.w).mono ?_
        rintro e w2 ⟨rfl, hb⟩
        have HS2 : Hid (CoS w w2 #[.int .i64 Ep, .slice (some ⟨b, off, none⟩) 6 c, .int .i64 Op] #[.int .i64 Kd, .int .i64 F, .int .i64 C, .int .i64 S, .string H, .int .i64 k0, .int .i64 k1, .int .i64 k2, .int .i64 k3, .int .i64 k4, .int .i64 k5, .int .i64 k6, .string s7, .string s8, .int .i64 q, .slice ar nr cr]) := HS1.out.on hb
        have r14 : w2.cell? ⟨w.heap.size + 1, 14, none⟩ = some (.int .i64 q) := HS2.out.r.cell 14
        clear hb HS1 r0 r1 g0 g1 g2
        obtain ⟨Y, hY⟩ : ∃ Y, inB l q = Y := ⟨_, rfl⟩
        rw [hY]
        obtain ⟨Z, hZ⟩ : ∃ Z, (q != 1) = Z := ⟨_, rfl⟩
        obtain rfl : D = (Y && Z) := by
          rw [← HR.out, doesP_adm HX.out HNK.out, if_neg (by have := HK3.out; omega), if_pos HK3.out, hY, hZ]
        have HZ : Hid ((q != 1) = Z) := hZ
        clear hY
        cases Y
        · clear hZ
          go_wp2_with fail
          go_ret
          exact ⟨rfl, HS2.out.w⟩
        · go_wp2_with fail
          go_ret
          exact ⟨rfl, HS2.out.w⟩
      have bK3 : (Kd == 3) = false := by simp [hK3]
      obtain rfl : D = true := by
        rw [← HR.out, doesP_adm HX.out HNK.out, if_neg hK2, if_neg hK3]
      clear hK2 hK3 hK
      go_wp2_with fail
      go_ret
      exact ⟨rfl, HS1.out.w⟩

end Go.Proofs.YtkmdajenbidaaaaDoor
