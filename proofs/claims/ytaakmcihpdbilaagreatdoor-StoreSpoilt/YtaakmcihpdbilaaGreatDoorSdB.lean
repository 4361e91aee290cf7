/- Layer 18's laws: a struct is written into the midst of another; opens of a side. -/
import Derived.Test.YtaakmcihpdbilaaGreatDoorSdA
namespace Go.Proofs.YtaakmcihpdbilaaGreatDoor
open Go.RowKit
set_option maxRecDepth 100000
set_option linter.unusedSimpArgs false
set_option linter.unusedVariables false
set_option maxRecDepth 100000

theorem run_storeVar_at {P : Program} (w : World) (g d : Nat) (t ty : TypeId) (cs cs' N : Array Value) (hg : Blk w t g cs) (hi : (P.info? ty).map (·.size) = some cs'.size) (hf : d + cs'.size ≤ cs.size) (h1 : cs'.all (·.oneCell') = true) (hN : (cs.toList.take d ++ cs'.toList ++ cs.toList.drop (d + cs'.size)).toArray = N) :
    (storeVar ty ⟨g, d, none⟩ (.agg cs')).run P w = .ok () (w.setRow g N) := by
  have := run_storeCells_at P g d t cs'.toList 0 cs w hg (by simp; omega) (fun v hv => (Array.all_eq_true_iff_forall_mem.1 h1) v (by simpa using hv))
  simp only [Nat.add_zero, Array.length_toList, hN] at this
  cases hq : P.info? ty with
  | none => simp [hq] at hi
  | some i =>
    have hs : cs'.size = i.size := by simp [hq] at hi; omega
    simp [storeVar, sizeOf, typeInfo, hq, Value.cells, hs, this]
section
variable {P : Program} {ops : Array Oper} {rest : List Oper} {o : Oper} {a : Act} {w : World} {Q : Exit → Act → World → Prop}
theorem wpList_storeAt (hgd : o.guard = none) (ty : TypeId) (x y : Operand) (ho : o.op = .store ty x y) (g d : Nat) (t : TypeId) (cs cs' N : Array Value) (hx : a.eval x = .pointer (some ⟨g, d, none⟩)) (hy : a.eval y = .agg cs') (h : Blk w t g cs)
    (hi : (P.info? ty).map (·.size) = some cs'.size) (hf : d + cs'.size ≤ cs.size) (h1 : cs'.all (·.oneCell') = true) (hN : (cs.toList.take d ++ cs'.toList ++ cs.toList.drop (d + cs'.size)).toArray = N) (hk : wpList P ops Q rest (a.put o.dst undef) (w.setRow g N)) : wpList P ops Q (o :: rest) a w :=
  wpList_plain hgd fun _ hK => by
    unfold Oper.wp execOp
    have := run_storeVar_at (P := P) w g d t ty cs cs' N h hi hf h1 hN
    simp only [ho, hx, hy, Instr.storeAt, Instr.sureAddr, Sem.run_bind, Sem.run_pure, Result.andThen_ok, this]
    exact hK _ _ hk
theorem step_storeAt {K' : Act → World → Prop} {E : Prop} (hgd : o.guard = none) (hd : o.dst = none) (ty : TypeId) (x y : Operand) (ho : o.op = .store ty x y) (g d : Nat) (t : TypeId) (cs cs' N : Array Value)
    (hx : a.eval x = .pointer (some ⟨g, d, none⟩)) (hy : a.eval y = .agg cs') (h : Blk w t g cs) (hi : (P.info? ty).map (·.size) = some cs'.size) (hf : d + cs'.size ≤ cs.size) (h1 : cs'.all (·.oneCell') = true) (hN : (cs.toList.take d ++ cs'.toList ++ cs.toList.drop (d + cs'.size)).toArray = N) (hk : K' (a.put none undef) (w.setRow g N)) :
    if Region.wanted o (yielded ops a.tmps) = true then Oper.wp P o a w K' Q else E := by
  rw [if_pos (by simp [Region.wanted, hgd])]
  unfold Oper.wp execOp
  have := run_storeVar_at (P := P) w g d t ty cs cs' N h hi hf h1 hN
  simp only [ho, hx, hy, Instr.storeAt, Instr.sureAddr, Sem.run_bind, Sem.run_pure, Result.andThen_ok, this]
  show K' (a.put o.dst _) _
  rw [hd]; exact hk
end

/-- Blocks of other types are others. -/
theorem blk_apart {w : World} {t t' : TypeId} {g g' : Nat} {cs cs' : Array Value} (h : Blk w t g cs) (h' : Blk w t' g' cs') (ht : t ≠ t') : g ≠ g' := by
  intro e
  subst e
  unfold Blk at h h'
  rw [h] at h'
  injection h' with h'
  injection h' with _ h2 _
  exact ht h2

/-- A side whose store is anything yet. -/
structure SdP (W : World) (x g b : Nat) (sp : Value) (D : DevT) (X : StoT) (r c : Nat) (a : Option Addr) (cx : Nat) : Prop where
  bl : Blk W 32 x (sideC g sp D X r c a cx)
  d : DevAt W g b D
  r : RowD W r c D.1
theorem SdP.on {W W' : World} {x g b : Nat} {sp : Value} {D : DevT} {X : StoT} {r c : Nat} {a : Option Addr} {cx : Nat} (h : SdP W x g b sp D X r c a cx) (hb : Below W.heap.size W W') : SdP W' x g b sp D X r c a cx := ⟨h.bl.on hb, h.d.on hb, h.r.on hb⟩
theorem SdP.ne {W : World} {x g b : Nat} {sp : Value} {D : DevT} {X : StoT} {r c : Nat} {a : Option Addr} {cx : Nat} (h : SdP W x g b sp D X r c a cx) : x ≠ g ∧ x ≠ b := by
  obtain ⟨F, e1, ⟨cs, e2, _⟩, _⟩ := h.d
  exact ⟨blk_apart h.bl e1 (by decide), blk_apart h.bl e2 (by decide)⟩
theorem RowD.keptS {w w' : World} {T : Nat → Prop} {r c : Nat} {L : List ByteArray} (h : RowD w r c L) (hk : KeptS T w w') (hT : ¬ T r) : RowD w' r c L :=
  ⟨h.1, fun i hi => by
    have h0 := h.2 i hi
    rw [cell_same (hk.block r (cell_lt h0) hT)]; exact h0⟩
theorem RowD.apartB {w : World} {t : TypeId} {r c g : Nat} {L : List ByteArray} {cs : Array Value} {p : Value} (h : RowD w r c L) (hl : 0 < L.length) (hg : Blk w t g cs) (hc : cs[0]? = some p) (hp : ∀ s, p ≠ .string s) : r ≠ g := by
  intro e
  have h0 := h.2 0 hl
  have h1 := hg.cell 0
  rw [← e, hc, h0] at h1
  injection h1 with h1
  exact hp _ h1.symm
theorem KeptS.setRow {T : Nat → Prop} {w W : World} (h : KeptS T w W) (g : Nat) (hg : T g) (cs : Array Value) : KeptS T w (W.setRow g cs) :=
  ⟨h.os, h.tape, h.output, by have := h.size; simpa [World.setRow] using this, fun k hk hn => by rw [setRow_other W g k cs (fun e => hn (e ▸ hg))]; exact h.block k hk hn⟩

end Go.Proofs.YtaakmcihpdbilaaGreatDoor
