/- The document's Get (layer 11). -/
import Derived.Test.YtmfckdhincffkaaGreatDoorRTrI
namespace Go.Proofs.YtmfckdhincffkaaGreatDoor
open Go.RowKit
set_option linter.unusedSimpArgs false

def noNode : NodeT := ((0, 0), (0, 0), ⟨#[]⟩, ⟨#[]⟩)

/-- The node of a number, and whether there is one. -/
def getP (t : TreeT) (id : Int × Int) : NodeT × Bool :=
  if findI (nodesP t.1 t.2.1) id < 0 then (noNode, false) else (nL (nodesP t.1 t.2.1) (findI (nodesP t.1 t.2.1) id).toNat, true)


set_option maxRecDepth 100000 in
set_option maxHeartbeats 4000000 in
theorem rget_any (t : TreeT) (id : Int × Int) (v : Value) (w : World) (hn : t.1.length + t.2.1.length ≤ 60000) (hV : TreeV w v t) :
    Calls Tryz.prog 16 #[v, stampV id] w fun e w' => e = .returned (.tuple #[.agg (nodeA (getP t id).1), .bool (getP t id).2]) ∧ Below w.heap.size w w' := by
  have hlen := nodesP_len t.1 t.2.1
  have CN' := fun (w' : World) (hb : Below w.heap.size w w') => rnodes_any t v w' hn (hV.on hb)
  unfold getP
  obtain ⟨L, HL⟩ : ∃ L, Hid (L = nodesP t.1 t.2.1) := ⟨_, rfl⟩
  rw [← HL.out] at CN' hlen ⊢
  have hLl : L.length ≤ 60000 := by omega
  clear hlen HL
  obtain ⟨fx, ops, b1, b2⟩ := t
  obtain ⟨a1, c1, a2, c2, rfl, _⟩ := hV
  obtain ⟨x, y⟩ := id
  obtain ⟨g, hg⟩ : ∃ g, g = w.heap.size := ⟨_, rfl⟩
  obtain ⟨w0, hw0⟩ : ∃ w0, w0 = ((w.alloc (.cells #[.slice a1 fx.length c1, .slice a2 ops.length c2, .int .i64 b1, .int .i64 b2] 32)).alloc (.cells #[.int .i64 x, .int .i64 y] 25)).alloc (.cells #[.int .i64 0, .int .i64 0, .int .i64 0, .int .i64 0, .string ⟨#[]⟩, .string ⟨#[]⟩] 44) := ⟨_, rfl⟩
  have hb0 : Hid (Below w.heap.size w w0) := by rw [hw0]; exact ((below_new _ _).alloc (by simp) _).alloc (by simp; omega) _
  have S0 : Hid (Blk w0 25 (g + 1) #[.int .i64 x, .int .i64 y]) := by show Blk _ _ _ _; rw [hw0]; exact (Blk.new' _ _ _ _ (by simp [hg])).alloc _
  have R0 : Hid (Blk w0 44 (g + 2) #[.int .i64 0, .int .i64 0, .int .i64 0, .int .i64 0, .string ⟨#[]⟩, .string ⟨#[]⟩]) := by show Blk _ _ _ _; rw [hw0]; exact Blk.new' _ _ _ _ (by simp [hg])
  have Lg : Hid (w.heap.size ≤ g + 2) := by show _ ≤ _; omega
  have CN : Hid (Calls Tryz.prog 40 #[.agg #[.slice a1 fx.length c1, .slice a2 ops.length c2, .int .i64 b1, .int .i64 b2]] w0 fun e w' => ∃ v', e = .returned v' ∧ NodesV w' v' L ∧ Below w0.heap.size w0 w') := CN' w0 hb0.out
  clear CN'
  show Calls Tryz.prog _ #[.agg #[.slice a1 fx.length c1, .slice a2 ops.length c2, .int .i64 b1, .int .i64 b2], .agg #[.int .i64 x, .int .i64 y]] w _
  rcases findI_lt L (x, y) with hr | ⟨j, hr, hj, _⟩
  · obtain ⟨F, hF⟩ : ∃ F, F = findI L (x, y) := ⟨_, rfl⟩
    have HF : Hid (FindE L (x, y) F) := by rw [hF]; exact findI_E L _
    rw [← hF] at hr ⊢
    rw [if_pos (by omega)]
    subst hr
    clear hF
    go_enter Tryz.func16, Tryz.ntmps16
    go_wp2_with fail
    rw [← hg, ← hw0]
    clear hg hw0
    refine Calls.mono CN.out ?_
    rintro e w1 ⟨v1, rfl, hv1, hb1⟩
    obtain ⟨a3, c3, rfl, h3⟩ := hv1
    have S1 := S0.out.on hb1
    have s0 : w1.cell? ⟨g + 1, 0, none⟩ = some (.int .i64 x) := S1.cell 0
    have s1 : w1.cell? ⟨g + 1, 1, none⟩ = some (.int .i64 y) := S1.cell 1
    have R1 : Hid (Blk w1 44 (g + 2) #[.int .i64 0, .int .i64 0, .int .i64 0, .int .i64 0, .string ⟨#[]⟩, .string ⟨#[]⟩]) := R0.out.on hb1
    have B1 : Hid (Below w.heap.size w w1) := below_step hb0.out (Nat.le_refl _) hb1
    have N1 : Hid (NodesAt w1 a3 L.length L) := h3
    clear h3 hb1 S1 CN S0 R0 hb0
    go_wp2_with fail
    refine (rfind_any L (x, y) _ HF.out a3 L.length c3 w1 (by omega) N1.out).mono ?_
    rintro e w2 ⟨rfl, hb2⟩
    have R2 : Blk w2 44 (g + 2) #[.int .i64 0, .int .i64 0, .int .i64 0, .int .i64 0, .string ⟨#[]⟩, .string ⟨#[]⟩] := R1.out.on hb2
    have B2 : Hid (Below w.heap.size w w2) := below_step B1.out (Nat.le_refl _) hb2
    have N2 : Hid (NodesAt w2 a3 L.length L) := N1.out.below hb2
    clear hb2 B1 R1 N1 s0 s1 HF
    go_wp2_with (with_reducible refine wpList_storeBlkH rfl 44 _ _ rfl (g + 2) #[.int .i64 0, .int .i64 0, .int .i64 0, .int .i64 0, .string ⟨#[]⟩, .string ⟨#[]⟩] (nodeA noNode) ?hx ?hy R2 rfl ?hi ?h1 ?_)
    case hx => rfl
    case hy => rfl
    case hi => kernel_rfl
    case h1 => simp [nodeA, noNode, Value.oneCell']
    unfold Hid
    go_wp2
    exact bodyPost_rowTmp rfl (g + 2) (nodeA noNode) _ rfl rfl rfl (R2.setRow _) _ Tryz.underlying44 rfl (by kernel_rfl) ⟨rfl, below_setRow B2.out Lg.out _⟩
  · obtain ⟨F, hF⟩ : ∃ F, F = findI L (x, y) := ⟨_, rfl⟩
    have HF : Hid (FindE L (x, y) F) := by rw [hF]; exact findI_E L _
    rw [← hF] at hr ⊢
    rw [if_neg (by omega)]
    subst hr
    rw [Int.toNat_natCast]
    clear hF
    have j0 : (j : Int) < (L.length : Int) := by omega
    have j1 : ¬ ((j : Int) < 0) := by omega
    have j2 : decide ((j : Int) < 0) = false := by simp
    obtain ⟨Y, HY⟩ : ∃ Y, Hid (Y = nL L j) := ⟨_, rfl⟩
    rw [← HY.out]
    obtain ⟨⟨m1, m2⟩, ⟨m3, m4⟩, m5, m6⟩ := Y
    go_enter Tryz.func16, Tryz.ntmps16
    go_wp2_with fail
    rw [← hg, ← hw0]
    clear hg hw0
    refine Calls.mono CN.out ?_
    rintro e w1 ⟨v1, rfl, hv1, hb1⟩
    obtain ⟨a3, c3, rfl, h3⟩ := hv1
    have S1 := S0.out.on hb1
    have s0 : w1.cell? ⟨g + 1, 0, none⟩ = some (.int .i64 x) := S1.cell 0
    have s1 : w1.cell? ⟨g + 1, 1, none⟩ = some (.int .i64 y) := S1.cell 1
    have R1 : Hid (Blk w1 44 (g + 2) #[.int .i64 0, .int .i64 0, .int .i64 0, .int .i64 0, .string ⟨#[]⟩, .string ⟨#[]⟩]) := R0.out.on hb1
    have B1 : Hid (Below w.heap.size w w1) := below_step hb0.out (Nat.le_refl _) hb1
    have N1 : Hid (NodesAt w1 a3 L.length L) := h3
    clear h3 hb1 S1 CN S0 R0 hb0
    go_wp2_with fail
    refine (rfind_any L (x, y) _ HF.out a3 L.length c3 w1 (by omega) N1.out).mono ?_
    rintro e w2 ⟨rfl, hb2⟩
    have R2 : Blk w2 44 (g + 2) #[.int .i64 0, .int .i64 0, .int .i64 0, .int .i64 0, .string ⟨#[]⟩, .string ⟨#[]⟩] := R1.out.on hb2
    have B2 : Hid (Below w.heap.size w w2) := below_step B1.out (Nat.le_refl _) hb2
    have N2 : Hid (NodesAt w2 a3 L.length L) := N1.out.below hb2
    clear hb2 B1 R1 N1 s0 s1 HF
    obtain ⟨b, off, rfl, _⟩ := N2.out.2.some (by omega)
    obtain ⟨q0, q1, q2, q3, q4, q5⟩ := N2.out.cells j hj
    rw [← HY.out] at q0 q1 q2 q3 q4 q5
    go_wp2_with (with_reducible refine wpList_storeBlkH rfl 44 _ _ rfl (g + 2) #[.int .i64 0, .int .i64 0, .int .i64 0, .int .i64 0, .string ⟨#[]⟩, .string ⟨#[]⟩] #[.int .i64 m1, .int .i64 m2, .int .i64 m3, .int .i64 m4, .string m5, .string m6] ?hx ?hy R2 rfl ?hi ?h1 ?_)
    case hx => rfl
    case hy => rfl
    case hi => kernel_rfl
    case h1 => simp [Value.oneCell']
    unfold Hid
    go_wp2
    exact bodyPost_rowTmp rfl (g + 2) #[.int .i64 m1, .int .i64 m2, .int .i64 m3, .int .i64 m4, .string m5, .string m6] _ rfl rfl rfl (R2.setRow _) _ Tryz.underlying44 rfl (by kernel_rfl) ⟨rfl, below_setRow B2.out Lg.out _⟩

end Go.Proofs.YtmfckdhincffkaaGreatDoor
