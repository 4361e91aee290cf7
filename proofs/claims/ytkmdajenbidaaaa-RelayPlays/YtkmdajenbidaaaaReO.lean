/- Layer 21, the code: Hear, New. -/
import Derived.Test.YtkmdajenbidaaaaRN1
import Derived.Test.YtkmdajenbidaaaaWiB
namespace Go.Proofs.Ytkmdajenbidaaaa
open Go.RowKit
set_option maxRecDepth 100000
set_option linter.unusedSimpArgs false
set_option linter.unusedVariables false

set_option maxHeartbeats 4000000 in
theorem hear_any (g : Nat) (v : Value) (X : RlT) (N : Nat) (hX : RlOk N X) (hN : N ≤ 4611686018427387000) (s : ByteArray) (hs : s.size ≤ 1048576) (w : World) (h : RlAt w g v X) :
    Calls Try.prog 10 #[.pointer (some ⟨g, 0, none⟩), .string s] w fun e w' => e = .returned (.string (hearR X s).2) ∧ RlTo w g v (hearR X s).1 w' := by
  have HR0 : Hid (RlAt w g v X) := h
  have CG : Hid (Calls _ _ _ _ _) := rgiven_any g v X w h
  have CA' := answer_any g v X N hX hN s hs w h
  have hA := hearF_ans hX s
  have hsm := (hearF_same X s).1
  unfold hearR
  obtain ⟨⟨X', A⟩, hXA⟩ : ∃ p, hearF X s = p := ⟨_, rfl⟩
  rw [hXA] at CA' hA hsm ⊢
  simp only at CA' hA hsm ⊢
  have CA : Hid (Calls _ _ _ _ _) := CA'
  obtain ⟨Kd, G, S, Ep, M, bl, it, er⟩ := A
  have HA : Hid (AnsOk (Kd, G, S, Ep, M, bl, it, er)) := hA
  obtain ⟨P, hP⟩ : ∃ P, (putFC (withG (Kd, G, S, Ep, M, bl, it, er) X.1)).1 = P := ⟨_, rfl⟩
  rw [hP]
  have HP : Hid ((putFC (withG (Kd, G, S, Ep, M, bl, it, er) X.1)).1 = P) := hP
  obtain ⟨Xg, hXg⟩ : ∃ Xg, X.1 = Xg := ⟨_, rfl⟩
  rw [hXg] at HP
  have HXG : Hid (X'.1 = Xg) := by show _ = _; rw [hsm, hXg]
  clear h hX hN CA' hA hXA hP hXg hsm
  go_enter Try.func10, Try.ntmps10
  go_wp2_with fail
  refine CG.out.mono ?_
  rintro e w1 ⟨rfl, hw1⟩
  subst hw1
  clear CG
  go_wp2_with fail
  refine CA.out.mono ?_
  rintro e w2 ⟨a2, c2, rfl, hi2, hl2, v2, hr2, hk2, hn2⟩
  simp only [frmA] at hi2 ⊢
  have HK2 : Hid (Kept2 g v.ownBlock w1 w2 ∧ Nx w1 v.ownBlock v2.ownBlock) := ⟨hk2, hn2⟩
  obtain ⟨w3, hw3⟩ : ∃ w3, w2.alloc (.cells #[.int .i64 Kd, .int .i64 G, .int .i64 S, .int .i64 Ep, .int .i64 M, .string bl, .slice a2 it.length c2, .int .i64 er] 39) = w3 := ⟨_, rfl⟩
  have hb3 : Below w2.heap.size w2 w3 := by rw [← hw3]; exact below_new _ _
  have hB3 : Blk w3 39 w2.heap.size #[.int .i64 Kd, .int .i64 G, .int .i64 S, .int .i64 Ep, .int .i64 M, .string bl, .slice a2 it.length c2, .int .i64 er] := by rw [← hw3]; exact Blk.new _ _ _
  have hB4 := hB3.setAt 1 (.int .i64 Xg)
  have hg1 : w3.cell? ⟨g, 1, none⟩ = some (.int .i64 Xg) := by rw [← HXG.out]; exact (hr2.on hb3).blk.cell 1
  have hf1 : w3.frozen? ⟨w2.heap.size, 1, none⟩ = false := hB3.free 1
  have hc1 : w3.cell? ⟨w2.heap.size, 1, none⟩ = some (.int .i64 G) := hB3.cell 1
  have HR3 : Hid (RlAt w3 g v2 X') := hr2.on hb3
  have HI3 : Hid (ItsAt w3 a2 it.length it) := hi2.below hb3
  have HK3 : Hid (Kept2 g v.ownBlock w1 w3) := hk2.on hb3
  have hgf : g ≠ w2.heap.size := fun e => by have := hr2.lt; omega
  have hvf : v2.ownBlock ≠ some w2.heap.size := fun e => by have := (World.ownsRow.lt hr2.own _ e).2; omega
  have haf : ∀ ad, a2 = some ad → ad.block ≠ w2.heap.size := fun ad e => by
    have h1 := (World.ownsRow.lt HR0.out.own _ (hl2 ad e)).2
    have h2 := hk2.size
    omega
  have hsz : w1.heap.size ≤ w2.heap.size := hk2.size
  obtain ⟨hf, hhf⟩ : ∃ hf, w2.heap.size = hf := ⟨_, rfl⟩
  rw [hhf] at hB3 hB4 hf1 hc1 hgf hvf haf hsz
  obtain ⟨w4, hw4⟩ : ∃ w4, w3.setCell ⟨hf, 1, none⟩ (.int .i64 Xg) = w4 := ⟨_, rfl⟩
  rw [hw4] at hB4
  have HR4 : Hid (RlAt w4 g v2 X') := by
    show RlAt _ _ _ _
    rw [← hw4]
    exact ⟨HR3.out.blk.other ⟨hf, 1, none⟩ hgf _, owns_same HR3.out.own (fun j hj => Below.heap_setCell w3 ⟨hf, 1, none⟩ _ j (fun e => hvf (by rw [hj, e]))), HR3.out.ne⟩
  have HK4 : Hid (Kept2 g v.ownBlock w1 w4) := by show Kept2 _ _ _ _; rw [← hw4]; exact HK3.out.setNew ⟨hf, 1, none⟩ hsz _
  have HI4 : Hid (ItsAt w4 a2 it.length it) := by
    show ItsAt _ _ _ _
    rw [← hw4]
    refine ⟨HI3.out.1, ?_⟩
    by_cases e : it.length = 0
    · exact .inl e
    · obtain ⟨b, off, rfl, hc⟩ := HI3.out.2.resolve_left e
      refine .inr ⟨b, off, rfl, fun i hi => ?_⟩
      obtain ⟨h0, h1, h2⟩ := hc i hi
      have hh : (w3.setCell ⟨hf, 1, none⟩ (.int .i64 Xg)).heap[b]? = w3.heap[b]? := Below.heap_setCell w3 ⟨hf, 1, none⟩ _ b (haf _ rfl)
      exact ⟨by rw [World.cell?_of_block (w := w3) hh]; exact h0, by rw [World.cell?_of_block (w := w3) hh]; exact h1, by rw [World.cell?_of_block (w := w3) hh]; exact h2⟩
  have d0 : w4.cell? ⟨hf, 0, none⟩ = some (.int .i64 Kd) := hB4.cell 0
  have d1 : w4.cell? ⟨hf, 1, none⟩ = some (.int .i64 Xg) := hB4.cell 1
  have d2 : w4.cell? ⟨hf, 2, none⟩ = some (.int .i64 S) := hB4.cell 2
  have d3 : w4.cell? ⟨hf, 3, none⟩ = some (.int .i64 Ep) := hB4.cell 3
  have d4 : w4.cell? ⟨hf, 4, none⟩ = some (.int .i64 M) := hB4.cell 4
  have d5 : w4.cell? ⟨hf, 5, none⟩ = some (.string bl) := hB4.cell 5
  have d6 : w4.cell? ⟨hf, 6, none⟩ = some (.slice a2 it.length c2) := hB4.cell 6
  have d7 : w4.cell? ⟨hf, 7, none⟩ = some (.int .i64 er) := hB4.cell 7
  have CP' := putF_any (Kd, Xg, S, Ep, M, bl, it, er) a2 c2 w4 (Nat.le_trans HA.out.it (by decide)) HI4.out (fun i => by have := HA.out.sm i; show (itL it i).2.2.size ≤ _; exact Nat.le_trans this (by decide)) (Nat.le_trans HA.out.bl (by decide))
  simp only [frmA] at CP'
  have CP : Hid (Calls _ _ _ _ _) := CP'
  clear CP' CA hi2 hl2 hr2 hk2 hn2 HR3 HI3 HK3 HI4 hB3 hB4 hgf hvf haf hsz hb3
  go_wp2_with fail
  refine CP.out.mono ?_
  rintro e w5 ⟨rfl, hb5⟩
  have HF : Hid (RlTo w1 g v X' w5) := ⟨v2, HR4.out.on hb5, HK4.out.on hb5, HK2.out.2⟩
  have hpp : (putFC (Kd, Xg, S, Ep, M, bl, it, er)).1 = P := HP.out
  rw [hpp]
  clear CP hb5 HR4 HK4 HK2 d0 d1 d2 d3 d4 d5 d6 d7
  go_wp2_with fail
  go_ret
  exact ⟨rfl, HF.out⟩

def newBad (g q : Int) : Prop := g < 0 ∨ 1099511627775 < g ∨ q < 0 ∨ 1048576 < q

set_option maxHeartbeats 2000000 in
theorem new_bad (g q : Int) (w : World) (h : newBad g q) : Calls Try.prog 4 #[.int .i64 g, .int .i64 q] w fun e w' => e = .returned (.tuple #[.pointer none, .int .i64 1]) ∧ Below w.heap.size w w' := by
  unfold newBad at h
  by_cases h1 : g < 0
  · go_enter Try.func4, Try.ntmps4
    go_wp2
    go_ret2
    exact ⟨rfl, Below.refl _ _⟩
  · by_cases h2 : 1099511627775 < g
    · go_enter Try.func4, Try.ntmps4
      go_wp2
      go_ret2
      exact ⟨rfl, Below.refl _ _⟩
    · by_cases h3 : q < 0
      · go_enter Try.func4, Try.ntmps4
        go_wp2
        go_ret2
        exact ⟨rfl, Below.refl _ _⟩
      · have h4 : 1048576 < q := by omega
        clear h
        go_enter Try.func4, Try.ntmps4
        go_wp2
        go_ret2
        exact ⟨rfl, Below.refl _ _⟩

set_option maxHeartbeats 2000000 in
theorem new_any (g q : Int) (w : World) (h1 : ¬ g < 0) (h2 : ¬ 1099511627775 < g) (h3 : ¬ q < 0) (h4 : ¬ 1048576 < q) : Calls Try.prog 4 #[.int .i64 g, .int .i64 q] w fun e w' => e = .returned (.tuple #[.pointer (some ⟨w.heap.size, 0, none⟩), .int .i64 0]) ∧ RlAt w' w.heap.size (.slice none 0 0) (newR g q) ∧ Below w.heap.size w w' := by
  have HB : Hid (RlAt (w.alloc (.cells #[.pointer (some ⟨w.heap.size, 0, none⟩), .int .i64 g, .int .i64 q, .int .i64 0, .int .i64 0, .string ⟨#[]⟩, .slice none 0 0] 51)) w.heap.size (.slice none 0 0) (newR g q)) := ⟨Blk.new _ _ _, World.ownsRow_nil _ _ _ _, fun e => by cases e⟩
  have HW : Hid (Below w.heap.size w (w.alloc (.cells #[.pointer (some ⟨w.heap.size, 0, none⟩), .int .i64 g, .int .i64 q, .int .i64 0, .int .i64 0, .string ⟨#[]⟩, .slice none 0 0] 51))) := below_new w _
  go_enter Try.func4, Try.ntmps4
  go_wp2_with fail
  go_ret2
  exact ⟨rfl, HB.out, HW.out⟩
end Go.Proofs.Ytkmdajenbidaaaa
