/- Layer 21, the code: ways, answer, Hear, New. -/
import Derived.Test.YtmlpbbancoedgaaReM
import Derived.Test.YtmlpbbancoedgaaMapIV
import Derived.Test.YtmlpbbancoedgaaWiD
import Derived.Carry
namespace Go.Proofs.Ytmlpbbancoedgaa
open Go.RowKit
set_option maxRecDepth 100000
set_option linter.unusedSimpArgs false
set_option linter.unusedVariables false

def wayV (f g : Nat) : Value := .func (.func f) #[.pointer (some ⟨g, 0, none⟩)] #[]
def waysL (g : Nat) : List (Int × Value) := [(1, wayV 68 g), (3, wayV 69 g), (5, wayV 70 g), (7, wayV 71 g)]

set_option maxHeartbeats 2000000 in
theorem ways_any (g : Nat) (w : World) : Calls Try.prog 49 #[.pointer (some ⟨g, 0, none⟩)] w fun e w' => ∃ r, e = .returned (.map (some r)) ∧ MapIV w' r (waysL g) ∧ Below w.heap.size w w' := by
  have hmf : ∀ (fn : Fn) (first cap : Array Value) (w : World), (Instr.makeFunc fn first cap).run Try.prog w = .ok (.func fn first cap) w := fun _ _ _ _ => rfl
  have hmm := @run_makeMap Try.prog
  obtain ⟨w0, hw0⟩ : ∃ w0, w.alloc (.map #[] 0) = w0 := ⟨_, rfl⟩
  have m0 := MapIV.made w
  have b0 : Below w.heap.size w (w.alloc (.map #[] 0)) := below_new w _
  rw [hw0] at m0 b0
  obtain ⟨w1, r1, m1, g1⟩ := m0.put 91 _ Try.underlying91 1 (wayV 68 g) rfl
  obtain ⟨w2, r2, m2, g2⟩ := m1.put 91 _ Try.underlying91 3 (wayV 69 g) rfl
  obtain ⟨w3, r3, m3, g3⟩ := m2.put 91 _ Try.underlying91 5 (wayV 70 g) rfl
  obtain ⟨w4, r4, m4, g4⟩ := m3.put 91 _ Try.underlying91 7 (wayV 71 g) rfl
  have HM : Hid (MapIV w4 w.heap.size (waysL g)) := m4
  have HB : Hid (Below w.heap.size w w4) := by
    have e : ∀ j, some w.heap.size = some j → w.heap.size ≤ j := fun j h => by cases h; exact Nat.le_refl _
    have k1 := b0.grown g1 b0.size e
    have k2 := k1.grown g2 k1.size e
    have k3 := k2.grown g3 k2.size e
    exact k3.grown g4 k3.size e
  simp only [wayV] at r1 r2 r3 r4
  clear m0 m1 m2 m3 m4 g1 g2 g3 g4 b0
  go_enter Try.func49, Try.ntmps49
  go_wp2_with fail
  go_ret
  exact ⟨_, rfl, HM.out, HB.out⟩

theorem RlTo.store {w w5 w6 : World} {g : Nat} {v v0 : Value} {X X' : RlT} (h0 : RlAt w g v X) (hb : Below w.heap.size w w5) (gr : Nat) (h1 : w.heap.size ≤ gr) (h2 : gr < w5.heap.size) (h : RlTo w5 g v X' w6) (cs : Array Value) : RlTo w g v X' (w6.setRow gr cs) := by
  obtain ⟨v', k1, k2, k3⟩ := h
  refine ⟨v', k1.setRow gr (fun e => by have := h0.lt; omega) (fun e => ?_) cs, (Kept2.behind hb k2).setRowNew gr h1 cs, fun k hk => (k3 k hk).imp id (fun e => Nat.le_trans hb.size e)⟩
  rcases k3 gr e with e1 | e1
  · have := (World.ownsRow.lt h0.own gr e1).2; omega
  · omega

theorem DoTo.store {w w5 w6 : World} {g : Nat} {v : Value} {X X' : RlT} {A : FrmT} {e' : Ending} (h0 : RlAt w g v X) (hb : Below w.heap.size w w5) (gr : Nat) (h1 : w.heap.size ≤ gr) (h2 : gr < w5.heap.size) (a : Option Addr) (c : Nat)
    (hI : ItsAt w6 a A.2.2.2.2.2.2.1.length A.2.2.2.2.2.2.1) (hl : ∀ ad, a = some ad → v.ownBlock = some ad.block) (h : RlTo w5 g v X' w6) (cs : Array Value) (he : e' = .returned (.agg (frmA A a c))) : DoTo w g v X' A e' (w6.setRow gr cs) :=
  ⟨a, c, he, hI.setRow gr cs (fun ad e => by have h3 := (World.ownsRow.lt h0.own _ (hl ad e)).2; omega), hl, RlTo.store (v0 := v) h0 hb gr h1 h2 h cs⟩

theorem grp_of {w3 : World} {g : Nat} {v : Value} {X : RlT} {Xg : Int} (h : Hid (X.1 = Xg)) (hR : RlAt w3 g v X) : ∀ p : Beh w3, p.w'.cell? ⟨g, 1, none⟩ = some (.int .i64 Xg) := fun p => p.cell (by rw [← h.out]; exact hR.blk.cell 1)

end Go.Proofs.Ytmlpbbancoedgaa
