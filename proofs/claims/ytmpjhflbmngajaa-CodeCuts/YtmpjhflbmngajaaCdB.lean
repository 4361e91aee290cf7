/- The code's Out (layer 9): bytes laid behind all others. -/
import Derived.Test.YtmpjhflbmngajaaCdA
namespace Go.Proofs.Ytmpjhflbmngajaa
open Go.RowKit
set_option linter.unusedSimpArgs false

theorem Blk.setAt {w : World} {t : TypeId} {g : Nat} {cs : Array Value} (h : Blk w t g cs) (j : Nat) (u : Value) : Blk (w.setCell ⟨g, j, none⟩ u) t g (cs.setIfInBounds j u) := by
  rw [setCell_eq_setRow w g j cs t (0, 0) u h]
  exact h.setRow _

set_option maxHeartbeats 1000000 in
set_option maxRecDepth 100000 in
theorem lay_ok (g : Nat) (v : Value) (S T : ByteArray) (b c : Nat) (w : World) (h : OutOk w g v S) (hb : Row8 w b T.size (bt T)) (hn : S.size + T.size ≤ 65536) :
    Calls Try.prog 41 #[.pointer (some ⟨g, 0, none⟩), .slice (some ⟨b, 0, none⟩) T.size c] w fun e w' => e = .returned (.bool true) ∧ ∃ v', OutOk w' g v' (S ++ T) ∧ Kept2 g v.ownBlock w w' ∧ Nx w v.ownBlock v'.ownBlock := by
  obtain ⟨i0, hi, hz0, hz1, hz2⟩ := info_parts Try.info5
  obtain ⟨hk, hr, hne, hS⟩ := h
  have hn2 : (S ++ T).size ≤ 65536 := by rw [ByteArray.size_append]; exact hn
  obtain ⟨E, hE⟩ : ∃ E, S ++ T = E := ⟨_, rfl⟩
  rw [hE] at hn2 ⊢
  have HE : Hid (S ++ T = E) := hE
  clear hE
  have hlt := hk.lt
  obtain ⟨ao, cap, hv⟩ := hr.slice
  subst hv
  have c1 : w.cell? ⟨g, 1, none⟩ = some (.slice ao S.size cap) := hk.cell 1
  have g0 : decide ((65536 : Int) < (S.size : Int) + (T.size : Int)) = false := by simp; omega
  go_enter Try.func41, Try.ntmps41
  go_wp2_with (at_builtin; refine wpList_append_next rfl _ _ 49 5 rfl Try.underlying49 hi hz0 hz1 hz2 ?hs hr b c ?hx hb hn ?_)
  case hs => rfl
  case hx => rfl
  intro v2 w2 r2 hg hx
  have hk2 : Blk w2 51 g #[.pointer (some ⟨g, 0, none⟩), .slice ao S.size cap] := hk.kept (Kept2.ofGrown (w.heap.size + 1) hg) (by omega) (fun e => hne e.symm)
  have f1 : w2.frozen? ⟨g, 1, none⟩ = false := hk2.free 1
  have d1 : w2.cell? ⟨g, 1, none⟩ = some (.slice ao S.size cap) := hk2.cell 1
  have hne2 : v2.ownBlock ≠ some g := fun e => by
    rcases hx g e with h' | h'
    · exact hne h'
    · omega
  rw [HE.out] at r2
  obtain ⟨a2, cap2, hv2⟩ := r2.slice
  subst hv2
  go_wp2
  go_ret
  exact ⟨rfl, _, ⟨hk2.setAt 1 _, r2.other ⟨g, 1, none⟩ hne2 _, hne2, hn2⟩, (Kept2.ofGrown g hg).setCell ⟨g, 1, none⟩ rfl _, hx⟩

set_option maxHeartbeats 1000000 in
set_option maxRecDepth 100000 in
theorem lay_no (g : Nat) (v : Value) (S T : ByteArray) (b c : Nat) (w : World) (h : OutOk w g v S) (hn : 65536 < S.size + T.size) (hT : T.size ≤ 1048576) :
    Calls Try.prog 41 #[.pointer (some ⟨g, 0, none⟩), .slice (some ⟨b, 0, none⟩) T.size c] w fun e w' => e = .returned (.bool false) ∧ OutBad w' g ∧ Kept2 g none w w' := by
  obtain ⟨hk, hr, hne, hS⟩ := h
  obtain ⟨ao, cap, hv⟩ := hr.slice
  subst hv
  have c1 : w.cell? ⟨g, 1, none⟩ = some (.slice ao S.size cap) := hk.cell 1
  have g0 : decide ((65536 : Int) < (S.size : Int) + (T.size : Int)) = true := by simp; omega
  have HC : Hid (∀ w', w' = w → Calls Try.prog 46 #[.pointer (some ⟨g, 0, none⟩)] w' fun e w'' => e = .returned (.bool false) ∧ OutBad w'' g ∧ Kept2 g none w' w'') := fun w' e => by subst e; exact ospoil_any g _ _ hk
  go_enter Try.func41, Try.ntmps41
  go_wp2_with fail
  refine (HC.out _ rfl).mono ?_
  rintro e w1 ⟨rfl, h1, h2⟩
  go_wp2
  go_ret
  exact ⟨rfl, h1, h2⟩
end Go.Proofs.Ytmpjhflbmngajaa
