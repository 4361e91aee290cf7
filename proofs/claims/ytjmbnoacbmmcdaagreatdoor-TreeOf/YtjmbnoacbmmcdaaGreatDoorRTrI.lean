/- The document's Nodes, Get (layer 11). -/
import Derived.Test.YtjmbnoacbmmcdaaGreatDoorRTrH
import Derived.Test.YtjmbnoacbmmcdaaGreatDoorTX
import Derived.Test.YtjmbnoacbmmcdaaGreatDoorBA
namespace Go.Proofs.YtjmbnoacbmmcdaaGreatDoor
open Go.RowKit
set_option linter.unusedSimpArgs false

def TreeV (w : World) (v : Value) (t : TreeT) : Prop := ∃ a1 c1 a2 c2, v = .agg #[.slice a1 t.1.length c1, .slice a2 t.2.1.length c2, .int .i64 t.2.2.1, .int .i64 t.2.2.2] ∧ NodesAt w a1 t.1.length t.1 ∧ OpsAt w a2 t.2.1.length t.2.1 ∧ SliceOk a2 t.2.1.length c2

/-- The rows of a tree's value are old ones, or new. -/
def RowsR (a1 : Option Addr) (n1 : Nat) (a2 : Option Addr) (n2 B : Nat) (v : Value) : Prop := ∃ s1 s2 x y, v = .agg #[s1, s2, x, y] ∧ AdrV a1 n1 B s1 ∧ AdrV a2 n2 B s2

theorem rows_same {a1 a2 : Option Addr} {B n1 c1 n2 c2 : Nat} {x y : Value} : RowsR a1 n1 a2 n2 B (.agg #[.slice a1 n1 c1, .slice a2 n2 c2, x, y]) := ⟨_, _, _, _, rfl, adr_same, adr_same⟩

def TreeW (a1 : Option Addr) (n1 : Nat) (a2 : Option Addr) (n2 B : Nat) (w : World) (v : Value) (t : TreeT) : Prop := TreeV w v t ∧ RowsR a1 n1 a2 n2 B v

theorem TreeV.on {w w' : World} {v : Value} {t : TreeT} (h : TreeV w v t) (hb : Below w.heap.size w w') : TreeV w' v t := by
  obtain ⟨a1, c1, a2, c2, e, h1, h2, h3⟩ := h
  exact ⟨a1, c1, a2, c2, e, h1.below hb, h2.below hb, h3⟩

set_option maxRecDepth 100000 in
set_option maxHeartbeats 4000000 in
theorem rnodes_any (t : TreeT) (v : Value) (w : World) (hn : t.1.length + t.2.1.length ≤ 60000) (hV : TreeV w v t) :
    Calls Tryz.prog 40 #[v] w fun e w' => ∃ v', e = .returned v' ∧ NodesV w' v' (nodesP t.1 t.2.1) ∧ Below w.heap.size w w' := by
  obtain ⟨fx, ops, b1, b2⟩ := t
  obtain ⟨a1, c1, a2, c2, rfl, h1, h2, h3⟩ := hV
  have H1 : Hid (NodesAt w a1 fx.length fx) := h1
  have H2 : Hid (OpsAt w a2 ops.length ops) := h2
  have hn' : fx.length + ops.length ≤ 60000 := hn
  clear h1 h2 h3 hn
  obtain ⟨g, hg⟩ : ∃ g, g = w.heap.size := ⟨_, rfl⟩
  obtain ⟨w0, hw0⟩ : ∃ w0, w0 = w.alloc (.cells #[.slice a1 fx.length c1, .slice a2 ops.length c2, .int .i64 b1, .int .i64 b2] 32) := ⟨_, rfl⟩
  have hb0 : Hid (Below w.heap.size w w0) := by rw [hw0]; exact below_new _ _
  have G0 : Hid (Blk w0 32 g #[.slice a1 fx.length c1, .slice a2 ops.length c2, .int .i64 b1, .int .i64 b2]) := by show Blk _ _ _ _; rw [hw0]; exact Blk.new' _ _ _ _ hg.symm
  have N0 : Hid (NodesV w0 (.slice a1 fx.length c1) (nodesP fx (ops.take 0))) := by
    rw [List.take_zero]
    exact ⟨a1, c1, rfl, H1.out.below hb0.out⟩
  have O0 : Hid (OpsAt w0 a2 ops.length ops) := H2.out.below hb0.out
  go_enter Tryz.func40, Tryz.ntmps40
  go_wp2_with fail
  try dsimp only
  rw [← hg, ← hw0]
  clear hg hw0 H1 H2
  go_loopw [3, 4] (fun v i wr => ∃ k : Nat, k ≤ ops.length ∧ i = .int .i64 k ∧ Hid (NodesV wr v (nodesP fx (ops.take k))) ∧ Hid (Below w0.heap.size w0 wr)) (fun _ i _ => ops.length - (intOf i).toNat)
  case atStart => exact ⟨0, Nat.zero_le _, rfl, N0, Below.refl _ _⟩
  case round =>
    clear N0
    obtain ⟨k, hk, rfl, N, B⟩ := hrel
    have g1 : wr.cell? ⟨g, 1, none⟩ = some (.slice a2 ops.length c2) := (G0.out.on B.out).cell 1
    by_cases hlt : k < ops.length
    · obtain ⟨b, off, rfl, _⟩ := O0.out.2.some (by omega)
      obtain ⟨q0, q1, q2, q3, q4, q5, q6, q7, q8⟩ := (O0.out.below B.out).cells k hlt
      have d0 : (k : Int) < (ops.length : Int) := by omega
      have d1 : ops.length ≤ 60000 := by omega
      obtain ⟨o, ho⟩ : ∃ o, o = oL ops k := ⟨_, rfl⟩
      have HS : Hid (nodesP fx (ops.take (k + 1)) = doP (nodesP fx (ops.take k)) o) := by rw [ho]; exact nodesP_step fx ops k hlt
      rw [← ho] at q0 q1 q2 q3 q4 q5 q6 q7 q8
      clear ho
      have hlen := nodesP_len fx (ops.take k)
      rw [List.length_take] at hlen
      obtain ⟨L, HL⟩ : ∃ L, Hid (L = nodesP fx (ops.take k)) := ⟨_, rfl⟩
      rw [← HL.out] at HS N hlen
      have hLl : L.length ≤ 65535 := by omega
      clear HL hlen
      obtain ⟨a3, c3, rfl, h3⟩ := N.out
      have C := rdo_any L o a3 L.length c3 wr hLl h3
      obtain ⟨k0, ⟨k1, k2⟩, ⟨k3, k4⟩, ⟨k5, k6⟩, s, t⟩ := o
      have HC : Hid (Calls Tryz.prog 37 #[.slice a3 L.length c3, .agg #[.int .i64 k0, .int .i64 k1, .int .i64 k2, .int .i64 k3, .int .i64 k4, .int .i64 k5, .int .i64 k6, .string s, .string t]] wr fun e w' => ∃ v, e = .returned v ∧ NodesV w' v (doP L (k0, (k1, k2), (k3, k4), (k5, k6), s, t)) ∧ Below wr.heap.size wr w') := C
      clear C h3 N
      go_wp2_with fail
      refine Calls.mono HC.out ?_
      rintro e w1 ⟨v1, rfl, hv1, hb1⟩
      have N1 : Hid (NodesV w1 v1 (nodesP fx (ops.take (k + 1)))) := by rw [HS.out]; exact hv1
      have B1 : Hid (Below w0.heap.size w0 w1) := below_step B.out (Nat.le_refl _) hb1
      clear HC hv1 hb1 B HS
      go_wp2
      refine ⟨⟨k + 1, by omega, by go_num, N1, B1⟩, ?_⟩
      simp [intOf]; omega
    · have hk' : k = ops.length := by omega
      subst hk'
      rw [List.take_length] at N
      go_wp2
      go_ret
      exact ⟨u3, rfl, N.out, below_step hb0.out (Nat.le_refl _) B.out⟩

end Go.Proofs.YtjmbnoacbmmcdaaGreatDoor
