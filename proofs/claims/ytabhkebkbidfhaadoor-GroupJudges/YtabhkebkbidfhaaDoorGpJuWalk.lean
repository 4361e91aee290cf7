/- Groups by value, among a law's parameters. -/
/- Groups by value, with what a row's capacity is. -/
/- GroupJudges: the walk. -/
import Derived.Test.YtabhkebkbidfhaaDoorOpenT
import Derived.Test.YtabhkebkbidfhaaDoorRGpA
import Derived.Test.YtabhkebkbidfhaaDoorOpenW
import Derived.Test.YtabhkebkbidfhaaDoorGpW
import Derived.Test.YtabhkebkbidfhaaDoorRGpJ
import Derived.Test.YtabhkebkbidfhaaDoorRWiJ
namespace Go.Proofs.YtabhkebkbidfhaaDoor
open Go.ChangeShapes Go.WideShapes Go.RowKit

theorem Tryd.cBool : Tryd.prog.cellsOf 4 = 1 := by kernel_rfl

theorem mem_cells {H : Type} {enc : TypeId × Value → H} {w : World} {base : Nat} {spare : Nat → Bool} {held : Bool} {fuel : Nat} {cs : List Value} {x : DataW H × List MemPlace} (h : DataW.trod enc Tryd.prog w base spare held fuel 46 cs = some x) :
    ∃ q : MemT, cs = [.int .i64 q.1, .int .i64 q.2.1, .bool q.2.2] ∧ (Lit.int .i64 q.1).wf = true := by
  have hl := struct_len Tryd.underlying46 h
  obtain ⟨n0, y0, h0⟩ := field_of Tryd.underlying46 h 0 3 0 1 rfl Tryd.cInt
  obtain ⟨n1, y1, h1⟩ := field_of Tryd.underlying46 h 1 3 1 1 rfl Tryd.cInt
  obtain ⟨n2, y2, h2⟩ := field_of Tryd.underlying46 h 2 4 2 1 rfl Tryd.cBool
  obtain ⟨k, hk, wk⟩ := cell_int Tryd.underlying3 h0
  obtain ⟨m, hm, _⟩ := cell_int Tryd.underlying3 h1
  obtain ⟨z, hz⟩ := cell_bool Tryd.underlying4 h2
  rw [show Tryd.prog.cellsOf 46 = 3 by kernel_rfl] at hl
  match cs, hl with
  | [v0, v1, v2], _ =>
    have e0 : v0 = .int .i64 k := by simpa using hk
    have e1 : v1 = .int .i64 m := by simpa using hm
    have e2 : v2 = .bool z := by simpa using hz
    exact ⟨(k, m, z), by rw [e0, e1, e2], wk⟩

theorem mems_of {H : Type} {enc : TypeId × Value → H} {w : World} {base : Nat} {held : Bool} {a : Option Addr} {len cap : Nat} {d : DataW H} {p : List MemPlace} (h : DataW.Trod enc Tryd.prog w base (fun _ => true) held 22 (.slice a len cap) d p) :
    ∃ l, MmsAt w a len l ∧ len ≤ maxLen ∧ (∀ i, (Lit.int .i64 (mmL l i).1).wf = true) := by
  obtain ⟨hm, h0 | ⟨b, off, rfl, hr⟩⟩ := rows_of (c := 3) Tryd.underlying22 (by kernel_rfl) (by decide) h
  · subst h0
    exact ⟨[], ⟨rfl, .inl rfl⟩, hm, fun i => (show (Lit.int .i64 (0 : Int)).wf = true by decide)⟩
  · obtain ⟨l, hl, hR⟩ := choose_list (n := len) (R := fun i (q : MemT) => (∀ j, j < 3 → w.cell? ⟨b, off + i * 3 + j, none⟩ = [Value.int .i64 q.1, Value.int .i64 q.2.1, Value.bool q.2.2][j]?) ∧ (Lit.int .i64 q.1).wf = true) (fun i hi => by
      obtain ⟨n, x, cs, hcl, hcell, hx⟩ := hr i hi
      obtain ⟨q, rfl, hq⟩ := mem_cells hx
      refine ⟨q, fun j hj => ?_, hq⟩
      rw [Nat.add_assoc, hcell j hj])
    refine ⟨l, ⟨hl, .inr ⟨b, off, rfl, fun i hi => ?_⟩⟩, hm, fun i => ?_⟩
    · rw [mmL_get l i (by omega)]
      have h1 := (hR i (by omega)).1
      exact ⟨h1 0 (by decide), h1 1 (by decide), h1 2 (by decide)⟩
    · by_cases hi : i < l.length
      · rw [mmL_get l i hi]
        exact (hR i hi).2
      · rw [show mmL l i = (0, 0, false) by unfold mmL; rw [List.getD_eq_getElem?_getD, List.getElem?_eq_none (by omega)]; rfl]
        decide

set_option maxRecDepth 100000 in
/-- A group by value. -/
theorem group_of {H : Type} {enc : TypeId × Value → H} {w : World} {base : Nat} {held : Bool} {r : Reach} {b0 : Nat} {v : Value} {d : DataW H} {p : List MemPlace} (hv : Value.okWide Tryd.prog w r b0 24 v) (h : DataW.Trod enc Tryd.prog w base (fun _ => true) held 24 v d p) :
    ∃ (G : GrpT) (a : Option Addr) (c : Nat), v = .agg (grpA G a c) ∧ MmsAt w a G.2.1.length G.2.1 ∧ (∀ i, (Lit.int .i64 (mmL G.2.1 i).1).wf = true) := by
  obtain ⟨cs, rfl, n, x, hx⟩ := agg_of Tryd.underlying24 hv h
  have hl := struct_len Tryd.underlying24 hx
  obtain ⟨n0, y0, h0⟩ := field_of Tryd.underlying24 hx 0 3 0 1 rfl Tryd.cInt
  obtain ⟨n1, y1, h1⟩ := field_of Tryd.underlying24 hx 1 22 1 1 rfl (by kernel_rfl)
  obtain ⟨n2, y2, h2⟩ := field_of Tryd.underlying24 hx 2 3 2 1 rfl Tryd.cInt
  obtain ⟨E, hE, _⟩ := cell_int Tryd.underlying3 h0
  obtain ⟨O, hO, _⟩ := cell_int Tryd.underlying3 h2
  rw [show Tryd.prog.cellsOf 24 = 3 by kernel_rfl] at hl
  obtain ⟨cl, hcl⟩ : ∃ cl, cs.toList = cl := ⟨_, rfl⟩
  rw [hcl] at hl hE hO h1
  match cl, hl, hcl with
  | [v0, v1, v2], _, hcl =>
    have h1' : DataW.trod enc Tryd.prog w base (fun _ => true) held n1 22 [v1] = some y1 := by simpa using h1
    obtain ⟨a, len, c, rfl, k⟩ := slice_cell Tryd.underlying22 h1'
    obtain ⟨l, l1, l2, l3⟩ := mems_of k
    have ln : l.length = len := l1.1
    subst ln
    have e0 : v0 = .int .i64 E := by simpa using hE
    have e2 : v2 = .int .i64 O := by simpa using hO
    refine ⟨(E, l, O), a, c, ?_, l1, l3⟩
    congr 1
    apply Array.toList_inj.1
    rw [hcl, e0, e2]
    rfl

theorem who_range {G : GrpT} (h : ∀ i, (Lit.int .i64 (mmL G.2.1 i).1).wf = true) : ∀ i, i < 6 → -9223372036854775808 ≤ (mmL G.2.1 i).1 ∧ (mmL G.2.1 i).1 ≤ 9223372036854775807 := by
  intro i _
  have := h i
  simp [Lit.wf] at this
  have h1 : IntKind.i64.min = -9223372036854775808 := by decide
  have h2 : IntKind.i64.max = 9223372036854775807 := by decide
  omega

end Go.Proofs.YtabhkebkbidfhaaDoor

namespace Go.Proofs.YtabhkebkbidfhaaDoor
open Go.ChangeShapes Go.WideShapes Go.RowKit

set_option maxRecDepth 100000 in
/-- A group by value. -/
theorem group_of2 {H : Type} {enc : TypeId × Value → H} {w : World} {base : Nat} {held : Bool} {r : Reach} {b0 : Nat} {v : Value} {d : DataW H} {p : List MemPlace} (hv : Value.okWide Tryd.prog w r b0 24 v) (h : DataW.Trod enc Tryd.prog w base (fun _ => true) held 24 v d p) :
    ∃ (G : GrpT) (a : Option Addr) (c : Nat), v = .agg (grpA G a c) ∧ MmsAt w a G.2.1.length G.2.1 ∧ (∀ i, (Lit.int .i64 (mmL G.2.1 i).1).wf = true) ∧ (G.2.1.length ≤ c ∧ c ≤ maxLen) := by
  obtain ⟨cs, rfl, n, x, hx⟩ := agg_of Tryd.underlying24 hv h
  have hl := struct_len Tryd.underlying24 hx
  obtain ⟨n0, y0, h0⟩ := field_of Tryd.underlying24 hx 0 3 0 1 rfl Tryd.cInt
  obtain ⟨n1, y1, h1⟩ := field_of Tryd.underlying24 hx 1 22 1 1 rfl (by kernel_rfl)
  obtain ⟨n2, y2, h2⟩ := field_of Tryd.underlying24 hx 2 3 2 1 rfl Tryd.cInt
  obtain ⟨E, hE, _⟩ := cell_int Tryd.underlying3 h0
  obtain ⟨O, hO, _⟩ := cell_int Tryd.underlying3 h2
  rw [show Tryd.prog.cellsOf 24 = 3 by kernel_rfl] at hl
  obtain ⟨cl, hcl⟩ : ∃ cl, cs.toList = cl := ⟨_, rfl⟩
  rw [hcl] at hl hE hO h1
  match cl, hl, hcl with
  | [v0, v1, v2], _, hcl =>
    have h1' : DataW.trod enc Tryd.prog w base (fun _ => true) held n1 22 [v1] = some y1 := by simpa using h1
    obtain ⟨a, len, c, rfl, k⟩ := slice_cell Tryd.underlying22 h1'
    obtain ⟨l, l1, l2, l3⟩ := mems_of k
    have hok := slice_of Tryd.underlying22 k
    have hcp := cap_of Tryd.underlying22 k
    have ln : l.length = len := l1.1
    subst ln
    have e0 : v0 = .int .i64 E := by simpa using hE
    have e2 : v2 = .int .i64 O := by simpa using hO
    refine ⟨(E, l, O), a, c, ?_, l1, l3, hok.cap, hcp⟩
    congr 1
    apply Array.toList_inj.1
    rw [hcl, e0, e2]
    rfl

end Go.Proofs.YtabhkebkbidfhaaDoor

namespace Go.Proofs.YtabhkebkbidfhaaDoor
open Go.RowKit
set_option maxRecDepth 100000
set_option linter.unusedSimpArgs false
set_option linter.unusedVariables false
set_option maxRecDepth 100000

theorem light20_any (G : GrpT) (a : Option Addr) (c : Nat) (w : World) : Calls Tryd.prog 8 #[.agg (grpA G a c)] w fun e w' => e = .returned (.bool (decide ((G.2.1.length : Int) ≤ 20))) ∧ Below w.heap.size w w' := by
  obtain ⟨Ep, l, Op⟩ := G
  simp only [grpA]
  obtain ⟨n, hn⟩ : ∃ n, l.length = n := ⟨_, rfl⟩
  rw [hn]
  have HB : Hid (Below w.heap.size w (w.alloc (.cells #[.int .i64 Ep, .slice a n c, .int .i64 Op] 24))) := below_new _ _
  clear hn
  go_enter Tryd.func8, Tryd.ntmps8
  go_wp2_with fail
  go_ret
  exact ⟨rfl, HB.out⟩

/-- What both answer. -/
def jgRes (M : OpT → Bool) (G : GrpT) (epoch : Int) (R : RecT) : GrpT × Bool := if judgeE M G epoch R = 0 then judgeG G epoch R else ((0, [], 0), false)
theorem judgeG_six {w : World} {b c : Nat} {l : List MemT} (h : RowM w b c l) : l.length = 6 := h.1
theorem jg_code {M : OpT → Bool} {G : GrpT} {epoch : Int} {R : RecT} {w w' : World} {e : Ending} (h : JgPost w (judgeE M G epoch R) (judgeG G epoch R) e w') :
    ∃ a c, e = .returned (.tuple #[.agg (grpA (jgRes M G epoch R).1 a c), .bool (jgRes M G epoch R).2, .int .i64 (judgeE M G epoch R)]) ∧ MmsAt w' a (jgRes M G epoch R).1.2.1.length (jgRes M G epoch R).1.2.1 ∧ Below w.heap.size w w' := by
  unfold jgRes
  obtain ⟨⟨h0, rfl⟩ | ⟨h0, b, c, _, rfl, hm⟩, hb⟩ := h
  · rw [if_neg h0]
    exact ⟨none, 0, rfl, ⟨rfl, .inl rfl⟩, hb⟩
  · rw [if_pos h0]
    have h6 := hm.1
    refine ⟨some ⟨b, 0, none⟩, c, ?_, by rw [h6]; exact hm.at, hb⟩
    unfold grpA
    rw [h6, h0]
theorem jg_ref {M : OpT → Bool} {G : GrpT} {epoch : Int} {R : RecT} {w w' : World} {e : Ending} (h : JgPostR w (judgeE M G epoch R) (judgeG G epoch R) e w') :
    ∃ a c, e = .returned (.tuple #[.agg (grpA (jgRes M G epoch R).1 a c), .bool (jgRes M G epoch R).2, .int .i64 (judgeE M G epoch R)]) ∧ MmsAt w' a (jgRes M G epoch R).1.2.1.length (jgRes M G epoch R).1.2.1 ∧ Below w.heap.size w w' := by
  unfold jgRes
  obtain ⟨⟨h0, rfl⟩ | ⟨h0, b, o, c, rfl, hm⟩, hb⟩ := h
  · rw [if_neg h0]
    exact ⟨none, 0, rfl, ⟨rfl, .inl rfl⟩, hb⟩
  · rw [if_pos h0]
    have h6 := hm.1
    refine ⟨some ⟨b, o, none⟩, c, ?_, by rw [h6]; exact hm, hb⟩
    unfold grpA
    rw [h6, h0]

set_option maxHeartbeats 8000000 in
theorem groupJudges_law (G : GrpT) (a : Option Addr) (c : Nat) (epoch : Int) (R : RecT) (ar : Option Addr) (cr : Nat) (w : World) (hG : Glob8 w) (hI : MmsAt w a G.2.1.length G.2.1) (hw : ∀ i, i < 6 → -9223372036854775808 ≤ (mmL G.2.1 i).1 ∧ (mmL G.2.1 i).1 ≤ 9223372036854775807) (hc : G.2.1.length ≤ c ∧ c ≤ 9223372036854775807)
    (hRl : WrAt w ar R.2.2.2.2.2.2.2.length R.2.2.2.2.2.2.2) (hRn : R.2.2.2.2.2.2.2.length ≤ 9223372036854775807) (hRz : ∀ i, (wrL R.2.2.2.2.2.2.2 i).2.size ≤ 9223372036854775807) (hRc : R.2.2.2.2.2.2.2.length ≤ cr ∧ cr ≤ 9223372036854775807) (hRh : R.2.2.2.2.1.size ≤ 9223372036854775807) (hR7 : R.2.2.2.2.2.1.2.2.2.2.1.size ≤ maxLen) (hR8 : R.2.2.2.2.2.1.2.2.2.2.2.size ≤ maxLen) :
    Calls Tryd.prog 3 #[.agg (grpA G a c), .int .i64 epoch, .agg (recA R ar cr)] w fun e w' => e = .returned (.bool true) ∧ Below w.heap.size w w' := by
  obtain ⟨M, hM⟩ := mayM_ex20
  have HG : Hid (Glob8 w) := hG
  obtain ⟨LB, hLB⟩ : ∃ D : Bool, D = true ↔ LightR R.2.2.2.2.1 R.2.2.2.2.2.1 R.2.2.2.2.2.2.2 := by
    by_cases h : LightR R.2.2.2.2.1 R.2.2.2.2.2.1 R.2.2.2.2.2.2.2
    · exact ⟨true, ⟨fun _ => h, fun _ => rfl⟩⟩
    · exact ⟨false, ⟨fun e => (by cases e), fun e => absurd e h⟩⟩
  have CL' := fun W => light20_any G a c W
  have CLR' : ∀ W, Below w.heap.size w W → _ := fun W hW => rlightR_any R ar cr W LB hLB (hRl.below hW) hRc.1 hRc.2 hRz hRh hR7 hR8
  have hrc : LB = true → RcIn w R ar := fun e => by
    have h := hLB.1 e
    exact ⟨Nat.le_trans h.2.1.1 (by decide), by unfold maxLen at hR8; omega, hRl, hRz, hRn, hRh⟩
  have CJ' : LB = true → G.2.1.length ≤ 1048576 → ∀ W, Below w.heap.size w W → _ := fun e hn W hW => (judge20_any M hM G a c epoch R ar cr W (hG.below hW) ((hrc e).below hW) hn (hI.below hW)).mono (fun _ _ h => jg_code h)
  have CR' : LB = true → G.2.1.length ≤ 1048576 → ∀ W, Below w.heap.size w W → _ := fun e hn W hW => (rjudge20_any M hM G a c epoch R ar cr W ((hrc e).below hW) hn hc (hI.below hW) hw).mono (fun _ _ h => jg_ref h)
  have CCk' : G.2.1.length ≤ 1048576 → ∀ W, Below w.heap.size w W → _ := fun hn W hW => check20_any G a c W (mayGb G) (mayGb_iff G) hn (hI.below hW)
  have CRk' : G.2.1.length ≤ 1048576 → ∀ W, Below w.heap.size w W → _ := fun hn W hW => rcheck20_any G a c W (mayGb G) (mayGb_iff G) hn (hI.below hW) hw
  have CIn' : G.2.1.length ≤ 1048576 → ∀ W, Below w.heap.size w W → _ := fun hn W hW => in20_any G a c R.2.1 W _ rfl hn (hI.below hW)
  have CRn' : G.2.1.length ≤ 1048576 → ∀ W, Below w.heap.size w W → _ := fun hn W hW => rin20_any G a c R.2.1 W hn (hI.below hW)
  obtain ⟨E, hE⟩ : ∃ E, judgeE M G epoch R = E := ⟨_, rfl⟩
  obtain ⟨Q, hQ⟩ : ∃ Q, jgRes M G epoch R = Q := ⟨_, rfl⟩
  obtain ⟨X, hX⟩ : ∃ X, inB G.2.1 R.2.1 = X := ⟨_, rfl⟩
  obtain ⟨ec, hec⟩ : ∃ ec : Int, (if mayGb G = true then (0 : Int) else 1) = ec := ⟨_, rfl⟩
  have hQ6 : LB = true → Q.1.2.1.length ≤ 1048576 := fun _ => by
    rw [← hQ]
    unfold jgRes
    by_cases h0 : judgeE M G epoch R = 0
    · rw [if_pos h0]
      have hm : mayGb G = true := by
        cases hm : mayGb G with
        | true => rfl
        | false => unfold judgeE at h0; rw [hm, if_pos (by rfl)] at h0; exact absurd h0 (by decide)
      have hl := ((mayGb_iff G).1 hm).2.2.1
      unfold judgeG gdoP
      split
      · split
        · show (nextM G.2.1 _).length ≤ _; unfold nextM; rw [List.length_set]; omega
        · split
          · show (nextM G.2.1 _).length ≤ _; unfold nextM; rw [List.length_set]; omega
          · show ((nextM G.2.1 _).set _ _).length ≤ _; unfold nextM; rw [List.length_set, List.length_set]; omega
      · show (nextM G.2.1 _).length ≤ _; unfold nextM; rw [List.length_set]; omega
    · rw [if_neg h0]; exact Nat.zero_le _
  simp only [hE, hQ] at CJ' CR'
  simp only [hX] at CIn' CRn'
  simp only [hec] at CCk' CRk'
  obtain ⟨Kd, F, C, S, H, ⟨k0, ⟨k1, k2⟩, ⟨k3, k4⟩, ⟨k5, k6⟩, s7, s8⟩, q, lw⟩ := R
  obtain ⟨Ep, l, Op⟩ := G
  obtain ⟨⟨RE, Rl, RO⟩, RD⟩ := Q
  simp only [recA, grpA] at CL' CLR' CJ' CR' CCk' CRk' CIn' CRn' hI hQ6 ⊢
  obtain ⟨nr, hnr⟩ : ∃ nr, lw.length = nr := ⟨_, rfl⟩
  obtain ⟨n, hnn⟩ : ∃ n, l.length = n := ⟨_, rfl⟩
  obtain ⟨rn, hrn⟩ : ∃ rn, Rl.length = rn := ⟨_, rfl⟩
  simp only [hnr] at CLR' CJ' CR' ⊢
  simp only [hnn] at CL' CJ' CR' CCk' CRk' CIn' CRn' hI ⊢
  simp only [hrn] at CJ' CR' hQ6
  have CL : Hid (∀ W, _) := CL'
  have CLR : Hid (∀ W, Below w.heap.size w W → _) := CLR'
  have CJ : Hid (LB = true → n ≤ 1048576 → _) := CJ'
  have CR : Hid (LB = true → n ≤ 1048576 → _) := CR'
  have CCk : Hid (n ≤ 1048576 → _) := CCk'
  have CRk : Hid (n ≤ 1048576 → _) := CRk'
  have CIn : Hid (n ≤ 1048576 → _) := CIn'
  have CRn : Hid (n ≤ 1048576 → _) := CRn'
  have HRN : Hid (LB = true → rn ≤ 1048576) := hQ6
  have HRL : Hid (Rl.length = rn) := hrn
  have HS0 : Hid (CoS w ((w.alloc (.cells #[.int .i64 Ep, .slice a n c, .int .i64 Op] 24)).alloc (.cells #[.int .i64 Kd, .int .i64 F, .int .i64 C, .int .i64 S, .string H, .int .i64 k0, .int .i64 k1, .int .i64 k2, .int .i64 k3, .int .i64 k4, .int .i64 k5, .int .i64 k6, .string s7, .string s8, .int .i64 q, .slice ar nr cr] 31)) #[.int .i64 Ep, .slice a n c, .int .i64 Op] #[.int .i64 Kd, .int .i64 F, .int .i64 C, .int .i64 S, .string H, .int .i64 k0, .int .i64 k1, .int .i64 k2, .int .i64 k3, .int .i64 k4, .int .i64 k5, .int .i64 k6, .string s7, .string s8, .int .i64 q, .slice ar nr cr]) := ⟨(Blk.new w _ _).on (below_new _ _), Blk.new' _ _ _ _ (by simp), below_step (below_new _ _) (Nat.le_refl _) (below_new _ _)⟩
  clear CL' CLR' CJ' CR' CCk' CRk' CIn' CRn' hQ6 hrn hnn hnr hI hw hc hRl hRn hRz hRc hRh hR7 hR8 hrc hLB hG hM hE hQ hX hec
  obtain ⟨w0, hw0⟩ : ∃ w0, (w.alloc (.cells #[.int .i64 Ep, .slice a n c, .int .i64 Op] 24)).alloc (.cells #[.int .i64 Kd, .int .i64 F, .int .i64 C, .int .i64 S, .string H, .int .i64 k0, .int .i64 k1, .int .i64 k2, .int .i64 k3, .int .i64 k4, .int .i64 k5, .int .i64 k6, .string s7, .string s8, .int .i64 q, .slice ar nr cr] 31) = w0 := ⟨_, rfl⟩
  rw [hw0] at HS0
  have g0 : w0.cell? ⟨w.heap.size, 0, none⟩ = some (.int .i64 Ep) := HS0.out.g.cell 0
  have g1 : w0.cell? ⟨w.heap.size, 1, none⟩ = some (.slice a n c) := HS0.out.g.cell 1
  have g2 : w0.cell? ⟨w.heap.size, 2, none⟩ = some (.int .i64 Op) := HS0.out.g.cell 2
  have HW0 : Hid (_ = w0) := hw0
  rw [← hw0] at g0 g1 g2
  clear hw0
  go_enter Tryd.func3, Tryd.ntmps3
  go_wp2_with fail
  rw [HW0.out]
  clear HW0 g0 g1 g2
  refine (CL.out w0).mono ?_
  rintro e w1 ⟨rfl, hb⟩
  have HS1 : Hid (CoS w w1 #[.int .i64 Ep, .slice a n c, .int .i64 Op] #[.int .i64 Kd, .int .i64 F, .int .i64 C, .int .i64 S, .string H, .int .i64 k0, .int .i64 k1, .int .i64 k2, .int .i64 k3, .int .i64 k4, .int .i64 k5, .int .i64 k6, .string s7, .string s8, .int .i64 q, .slice ar nr cr]) := HS0.out.on hb
  clear hb HS0 CL
  by_cases hn : n ≤ 20
  · have b0 : decide ((n : Int) ≤ 20) = true := decide_eq_true (by omega)
    have hn9 : n ≤ 1048576 := by omega
    have r0 : w1.cell? ⟨w.heap.size + 1, 0, none⟩ = some (.int .i64 Kd) := HS1.out.r.cell 0
    have r1 : w1.cell? ⟨w.heap.size + 1, 1, none⟩ = some (.int .i64 F) := HS1.out.r.cell 1
    have r2 : w1.cell? ⟨w.heap.size + 1, 2, none⟩ = some (.int .i64 C) := HS1.out.r.cell 2
    have r3 : w1.cell? ⟨w.heap.size + 1, 3, none⟩ = some (.int .i64 S) := HS1.out.r.cell 3
    have r4 : w1.cell? ⟨w.heap.size + 1, 4, none⟩ = some (.string H) := HS1.out.r.cell 4
    have r5 : w1.cell? ⟨w.heap.size + 1, 5, none⟩ = some (.int .i64 k0) := HS1.out.r.cell 5
    have r6 : w1.cell? ⟨w.heap.size + 1, 6, none⟩ = some (.int .i64 k1) := HS1.out.r.cell 6
    have r7 : w1.cell? ⟨w.heap.size + 1, 7, none⟩ = some (.int .i64 k2) := HS1.out.r.cell 7
    have r8 : w1.cell? ⟨w.heap.size + 1, 8, none⟩ = some (.int .i64 k3) := HS1.out.r.cell 8
    have r9 : w1.cell? ⟨w.heap.size + 1, 9, none⟩ = some (.int .i64 k4) := HS1.out.r.cell 9
    have r10 : w1.cell? ⟨w.heap.size + 1, 10, none⟩ = some (.int .i64 k5) := HS1.out.r.cell 10
    have r11 : w1.cell? ⟨w.heap.size + 1, 11, none⟩ = some (.int .i64 k6) := HS1.out.r.cell 11
    have r12 : w1.cell? ⟨w.heap.size + 1, 12, none⟩ = some (.string s7) := HS1.out.r.cell 12
    have r13 : w1.cell? ⟨w.heap.size + 1, 13, none⟩ = some (.string s8) := HS1.out.r.cell 13
    have r14 : w1.cell? ⟨w.heap.size + 1, 14, none⟩ = some (.int .i64 q) := HS1.out.r.cell 14
    have r15 : w1.cell? ⟨w.heap.size + 1, 15, none⟩ = some (.slice ar nr cr) := HS1.out.r.cell 15
    go_wp2_with fail
    clear r0 r1 r2 r3 r4 r5 r6 r7 r8 r9 r10 r11 r12 r13 r14 r15
    refine (CLR.out w1 HS1.out.w).mono ?_
    rintro e w2 ⟨rfl, hb⟩
    have HS2 : Hid (CoS w w2 #[.int .i64 Ep, .slice a n c, .int .i64 Op] #[.int .i64 Kd, .int .i64 F, .int .i64 C, .int .i64 S, .string H, .int .i64 k0, .int .i64 k1, .int .i64 k2, .int .i64 k3, .int .i64 k4, .int .i64 k5, .int .i64 k6, .string s7, .string s8, .int .i64 q, .slice ar nr cr]) := HS1.out.on hb
    clear hb HS1 CLR
    cases LB with
    | false =>
      have HB : Hid (Below w.heap.size w w2) := HS2.out.w
      clear HS2 CJ CR CCk CRk CIn CRn
      go_wp2_with fail
      refine (awake20_any w2 (HG.out.below HB.out)).mono ?_
      rintro e w99 ⟨rfl, hb⟩
      have HBX : Hid (Below w.heap.size w w99) := below_step HB.out (Nat.le_refl _) hb
      clear hb
      go_wp2_with fail
      go_ret
      exact ⟨rfl, HBX.out⟩
    | true =>
    have DJ := CJ.out rfl hn9
    have DR := CR.out rfl hn9
    have DCk := CCk.out hn9
    have DRk := CRk.out hn9
    have DIn := CIn.out hn9
    have DRn := CRn.out hn9
    have hrn9 := HRN.out rfl
    have EJ : Hid (∀ W, Below w.heap.size w W → _) := DJ
    have ER : Hid (∀ W, Below w.heap.size w W → _) := DR
    have ECk : Hid (∀ W, Below w.heap.size w W → _) := DCk
    have ERk : Hid (∀ W, Below w.heap.size w W → _) := DRk
    have EIn : Hid (∀ W, Below w.heap.size w W → _) := DIn
    have ERn : Hid (∀ W, Below w.heap.size w W → _) := DRn
    have CSm : Hid (∀ (a1 a2 : Option Addr) (c1 c2 : Nat) W, MmsAt W a1 rn Rl → MmsAt W a2 rn Rl → Calls Tryd.prog 13 #[.agg #[.int .i64 RE, .slice a1 rn c1, .int .i64 RO], .agg #[.int .i64 RE, .slice a2 rn c2, .int .i64 RO]] W fun e w' => e = .returned (.bool true) ∧ Below W.heap.size W w') := fun a1 a2 c1 c2 W m1 m2 => by
      have q := rsame20_any (RE, Rl, RO) (RE, Rl, RO) true (by simp) a1 a2 c1 c2 W (by show Rl.length ≤ _; rw [HRL.out]; exact hrn9) (by show MmsAt W a1 Rl.length Rl; rw [HRL.out]; exact m1) (by show MmsAt W a2 Rl.length Rl; rw [HRL.out]; exact m2)
      unfold grpA at q
      simp only [HRL.out] at q
      exact q
    clear DJ DR DCk DRk DIn DRn CJ CR CCk CRk CIn CRn HRN
    have r0 : w2.cell? ⟨w.heap.size + 1, 0, none⟩ = some (.int .i64 Kd) := HS2.out.r.cell 0
    have r1 : w2.cell? ⟨w.heap.size + 1, 1, none⟩ = some (.int .i64 F) := HS2.out.r.cell 1
    have r2 : w2.cell? ⟨w.heap.size + 1, 2, none⟩ = some (.int .i64 C) := HS2.out.r.cell 2
    have r3 : w2.cell? ⟨w.heap.size + 1, 3, none⟩ = some (.int .i64 S) := HS2.out.r.cell 3
    have r4 : w2.cell? ⟨w.heap.size + 1, 4, none⟩ = some (.string H) := HS2.out.r.cell 4
    have r5 : w2.cell? ⟨w.heap.size + 1, 5, none⟩ = some (.int .i64 k0) := HS2.out.r.cell 5
    have r6 : w2.cell? ⟨w.heap.size + 1, 6, none⟩ = some (.int .i64 k1) := HS2.out.r.cell 6
    have r7 : w2.cell? ⟨w.heap.size + 1, 7, none⟩ = some (.int .i64 k2) := HS2.out.r.cell 7
    have r8 : w2.cell? ⟨w.heap.size + 1, 8, none⟩ = some (.int .i64 k3) := HS2.out.r.cell 8
    have r9 : w2.cell? ⟨w.heap.size + 1, 9, none⟩ = some (.int .i64 k4) := HS2.out.r.cell 9
    have r10 : w2.cell? ⟨w.heap.size + 1, 10, none⟩ = some (.int .i64 k5) := HS2.out.r.cell 10
    have r11 : w2.cell? ⟨w.heap.size + 1, 11, none⟩ = some (.int .i64 k6) := HS2.out.r.cell 11
    have r12 : w2.cell? ⟨w.heap.size + 1, 12, none⟩ = some (.string s7) := HS2.out.r.cell 12
    have r13 : w2.cell? ⟨w.heap.size + 1, 13, none⟩ = some (.string s8) := HS2.out.r.cell 13
    have r14 : w2.cell? ⟨w.heap.size + 1, 14, none⟩ = some (.int .i64 q) := HS2.out.r.cell 14
    have r15 : w2.cell? ⟨w.heap.size + 1, 15, none⟩ = some (.slice ar nr cr) := HS2.out.r.cell 15
    have g0 : w2.cell? ⟨w.heap.size, 0, none⟩ = some (.int .i64 Ep) := HS2.out.g.cell 0
    have g1 : w2.cell? ⟨w.heap.size, 1, none⟩ = some (.slice a n c) := HS2.out.g.cell 1
    have g2 : w2.cell? ⟨w.heap.size, 2, none⟩ = some (.int .i64 Op) := HS2.out.g.cell 2
    go_wp2_with fail
    clear r0 r1 r2 r3 r4 r5 r6 r7 r8 r9 r10 r11 r12 r13 r14 r15 g0 g1 g2
    refine (EJ.out w2 HS2.out.w).mono ?_
    rintro e w3 ⟨a7, c7, rfl, hm7, hb⟩
    have HS3 : Hid (CoS w w3 #[.int .i64 Ep, .slice a n c, .int .i64 Op] #[.int .i64 Kd, .int .i64 F, .int .i64 C, .int .i64 S, .string H, .int .i64 k0, .int .i64 k1, .int .i64 k2, .int .i64 k3, .int .i64 k4, .int .i64 k5, .int .i64 k6, .string s7, .string s8, .int .i64 q, .slice ar nr cr]) := HS2.out.on hb
    have nv := below_new w3 (.cells #[.int .i64 RE, .slice a7 rn c7, .int .i64 RO] 24)
    obtain ⟨w4, hw4⟩ : ∃ w4, w3.alloc (.cells #[.int .i64 RE, .slice a7 rn c7, .int .i64 RO] 24) = w4 := ⟨_, rfl⟩
    rw [hw4] at nv
    have HS4 : Hid (CoS w w4 #[.int .i64 Ep, .slice a n c, .int .i64 Op] #[.int .i64 Kd, .int .i64 F, .int .i64 C, .int .i64 S, .string H, .int .i64 k0, .int .i64 k1, .int .i64 k2, .int .i64 k3, .int .i64 k4, .int .i64 k5, .int .i64 k6, .string s7, .string s8, .int .i64 q, .slice ar nr cr]) := HS3.out.on nv
    have HV4 : Hid (Blk w4 24 w3.heap.size #[.int .i64 RE, .slice a7 rn c7, .int .i64 RO] ∧ MmsAt w4 a7 rn Rl) := ⟨by rw [← hw4]; exact Blk.new _ _ _, hm7.below nv⟩
    have r0 : w4.cell? ⟨w.heap.size + 1, 0, none⟩ = some (.int .i64 Kd) := HS4.out.r.cell 0
    have r1 : w4.cell? ⟨w.heap.size + 1, 1, none⟩ = some (.int .i64 F) := HS4.out.r.cell 1
    have r2 : w4.cell? ⟨w.heap.size + 1, 2, none⟩ = some (.int .i64 C) := HS4.out.r.cell 2
    have r3 : w4.cell? ⟨w.heap.size + 1, 3, none⟩ = some (.int .i64 S) := HS4.out.r.cell 3
    have r4 : w4.cell? ⟨w.heap.size + 1, 4, none⟩ = some (.string H) := HS4.out.r.cell 4
    have r5 : w4.cell? ⟨w.heap.size + 1, 5, none⟩ = some (.int .i64 k0) := HS4.out.r.cell 5
    have r6 : w4.cell? ⟨w.heap.size + 1, 6, none⟩ = some (.int .i64 k1) := HS4.out.r.cell 6
    have r7 : w4.cell? ⟨w.heap.size + 1, 7, none⟩ = some (.int .i64 k2) := HS4.out.r.cell 7
    have r8 : w4.cell? ⟨w.heap.size + 1, 8, none⟩ = some (.int .i64 k3) := HS4.out.r.cell 8
    have r9 : w4.cell? ⟨w.heap.size + 1, 9, none⟩ = some (.int .i64 k4) := HS4.out.r.cell 9
    have r10 : w4.cell? ⟨w.heap.size + 1, 10, none⟩ = some (.int .i64 k5) := HS4.out.r.cell 10
    have r11 : w4.cell? ⟨w.heap.size + 1, 11, none⟩ = some (.int .i64 k6) := HS4.out.r.cell 11
    have r12 : w4.cell? ⟨w.heap.size + 1, 12, none⟩ = some (.string s7) := HS4.out.r.cell 12
    have r13 : w4.cell? ⟨w.heap.size + 1, 13, none⟩ = some (.string s8) := HS4.out.r.cell 13
    have r14 : w4.cell? ⟨w.heap.size + 1, 14, none⟩ = some (.int .i64 q) := HS4.out.r.cell 14
    have r15 : w4.cell? ⟨w.heap.size + 1, 15, none⟩ = some (.slice ar nr cr) := HS4.out.r.cell 15
    have g0 : w4.cell? ⟨w.heap.size, 0, none⟩ = some (.int .i64 Ep) := HS4.out.g.cell 0
    have g1 : w4.cell? ⟨w.heap.size, 1, none⟩ = some (.slice a n c) := HS4.out.g.cell 1
    have g2 : w4.cell? ⟨w.heap.size, 2, none⟩ = some (.int .i64 Op) := HS4.out.g.cell 2
    have HW4 : Hid (_ = w4) := hw4
    rw [← hw4] at r0 r1 r2 r3 r4 r5 r6 r7 r8 r9 r10 r11 r12 r13 r14 r15 g0 g1 g2
    clear hb hm7 nv hw4 HS2 HS3 EJ
    go_wp2_with fail
    rw [HW4.out]
    clear r0 r1 r2 r3 r4 r5 r6 r7 r8 r9 r10 r11 r12 r13 r14 r15 g0 g1 g2 HW4
    obtain ⟨h7, hh7⟩ : ∃ h7, w3.heap.size = h7 := ⟨_, rfl⟩
    rw [hh7] at HV4
    try rw [hh7]
    clear hh7
    refine (ER.out w4 HS4.out.w).mono ?_
    rintro e w5 ⟨a10, c10, rfl, hm10, hb⟩
    have HJD : Hid (CoS w (w5.alloc (.cells #[.int .i64 RE, .slice a10 rn c10, .int .i64 RO] 24)) #[.int .i64 Ep, .slice a n c, .int .i64 Op] #[.int .i64 Kd, .int .i64 F, .int .i64 C, .int .i64 S, .string H, .int .i64 k0, .int .i64 k1, .int .i64 k2, .int .i64 k3, .int .i64 k4, .int .i64 k5, .int .i64 k6, .string s7, .string s8, .int .i64 q, .slice ar nr cr] ∧ (Blk (w5.alloc (.cells #[.int .i64 RE, .slice a10 rn c10, .int .i64 RO] 24)) 24 h7 #[.int .i64 RE, .slice a7 rn c7, .int .i64 RO] ∧ MmsAt (w5.alloc (.cells #[.int .i64 RE, .slice a10 rn c10, .int .i64 RO] 24)) a7 rn Rl) ∧ (Blk (w5.alloc (.cells #[.int .i64 RE, .slice a10 rn c10, .int .i64 RO] 24)) 24 w5.heap.size #[.int .i64 RE, .slice a10 rn c10, .int .i64 RO] ∧ MmsAt (w5.alloc (.cells #[.int .i64 RE, .slice a10 rn c10, .int .i64 RO] 24)) a10 rn Rl)) := by
      have nv := below_new w5 (.cells #[.int .i64 RE, .slice a10 rn c10, .int .i64 RO] 24)
      exact ⟨(HS4.out.on hb).on nv, ⟨(HV4.out.1.on hb).on nv, (HV4.out.2.below hb).below nv⟩, Blk.new _ _ _, hm10.below nv⟩
    clear hb hm10 HS4 HV4 ER
    obtain ⟨w6, hw6⟩ : ∃ w6, w5.alloc (.cells #[.int .i64 RE, .slice a10 rn c10, .int .i64 RO] 24) = w6 := ⟨_, rfl⟩
    obtain ⟨h10, hh10⟩ : ∃ h10, w5.heap.size = h10 := ⟨_, rfl⟩
    rw [hw6, hh10] at HJD
    have HW6 : Hid (w5.alloc (.cells #[.int .i64 RE, .slice a10 rn c10, .int .i64 RO] 24) = w6) := hw6
    have HH10 : Hid (w5.heap.size = h10) := hh10
    clear hw6 hh10
    have hDD : (RD == RD) = true := by simp
    have hEE : (E == E) = true := by simp
    have hCC : (ec == ec) = true := by simp
    have hXX : (X == X) = true := by simp
    go_wp2_with fail
    try rw [HW6.out]
    try rw [HH10.out]
    clear HW6 HH10
    as_aux_lemma =>
    have HSS : Hid (∀ W', Below w6.heap.size w6 W' → W'.cell? ⟨h7, 0, none⟩ = some (.int .i64 RE) ∧ W'.cell? ⟨h7, 1, none⟩ = some (.slice a7 rn c7) ∧ W'.cell? ⟨h7, 2, none⟩ = some (.int .i64 RO) ∧ W'.cell? ⟨h10, 0, none⟩ = some (.int .i64 RE) ∧ W'.cell? ⟨h10, 1, none⟩ = some (.slice a10 rn c10) ∧ W'.cell? ⟨h10, 2, none⟩ = some (.int .i64 RO) ∧ W'.cell? ⟨w.heap.size, 0, none⟩ = some (.int .i64 Ep) ∧ W'.cell? ⟨w.heap.size, 1, none⟩ = some (.slice a n c) ∧ W'.cell? ⟨w.heap.size, 2, none⟩ = some (.int .i64 Op) ∧ W'.cell? ⟨w.heap.size + 1, 1, none⟩ = some (.int .i64 F)) := fun W' hW => ⟨(HJD.out.2.1.1.on hW).cell 0, (HJD.out.2.1.1.on hW).cell 1, (HJD.out.2.1.1.on hW).cell 2, (HJD.out.2.2.1.on hW).cell 0, (HJD.out.2.2.1.on hW).cell 1, (HJD.out.2.2.1.on hW).cell 2, (HJD.out.1.on hW).g.cell 0, (HJD.out.1.on hW).g.cell 1, (HJD.out.1.on hW).g.cell 2, (HJD.out.1.on hW).r.cell 1⟩
    have hS0 : w6.drew.cell? ⟨h7, 0, none⟩ = some (.int .i64 RE) ∧ w6.drew.cell? ⟨h7, 1, none⟩ = some (.slice a7 rn c7) ∧ w6.drew.cell? ⟨h7, 2, none⟩ = some (.int .i64 RO) ∧ w6.drew.cell? ⟨h10, 0, none⟩ = some (.int .i64 RE) ∧ w6.drew.cell? ⟨h10, 1, none⟩ = some (.slice a10 rn c10) ∧ w6.drew.cell? ⟨h10, 2, none⟩ = some (.int .i64 RO) ∧ w6.drew.cell? ⟨w.heap.size, 0, none⟩ = some (.int .i64 Ep) ∧ w6.drew.cell? ⟨w.heap.size, 1, none⟩ = some (.slice a n c) ∧ w6.drew.cell? ⟨w.heap.size, 2, none⟩ = some (.int .i64 Op) ∧ w6.drew.cell? ⟨w.heap.size + 1, 1, none⟩ = some (.int .i64 F) := HSS.out _ (Below.refl _ _).drew
    have hV0 : Below w6.heap.size w6 w6.drew := (Below.refl _ _).drew
    refine wp_region_noPanic ?_
    refine wp_region_held_drew (S := fun W' => W'.cell? ⟨h7, 0, none⟩ = some (.int .i64 RE) ∧ W'.cell? ⟨h7, 1, none⟩ = some (.slice a7 rn c7) ∧ W'.cell? ⟨h7, 2, none⟩ = some (.int .i64 RO) ∧ W'.cell? ⟨h10, 0, none⟩ = some (.int .i64 RE) ∧ W'.cell? ⟨h10, 1, none⟩ = some (.slice a10 rn c10) ∧ W'.cell? ⟨h10, 2, none⟩ = some (.int .i64 RO) ∧ W'.cell? ⟨w.heap.size, 0, none⟩ = some (.int .i64 Ep) ∧ W'.cell? ⟨w.heap.size, 1, none⟩ = some (.slice a n c) ∧ W'.cell? ⟨w.heap.size, 2, none⟩ = some (.int .i64 Op) ∧ W'.cell? ⟨w.heap.size + 1, 1, none⟩ = some (.int .i64 F)) (by kernel_rfl) (by first | exact trivial | assumption | exact ⟨by assumption, by assumption⟩) (fun hHeld => ?_)
    refine take_at (i := 0) (v := ?_) rfl rfl (by kernel_rfl) (by kernel_rfl) (by kernel_rfl) (fun _ _ _ h => h) (Or.inl ⟨by rfl, ?_⟩) (by assumption) ?_
    rotate_left
    · intro w hSw; (try dsimp only at hSw); go_simp; try with_reducible rfl
    try simp only [Act.put, List.setIfInBounds_toArray, List.set_cons_zero, List.set_cons_succ]
    refine take_at (i := 1) (v := ?_) rfl rfl (by kernel_rfl) (by kernel_rfl) (by kernel_rfl) (fun _ _ _ h => h) (Or.inl ⟨by rfl, ?_⟩) (by assumption) ?_
    rotate_left
    · intro w hSw; (try dsimp only at hSw); go_simp; try with_reducible rfl
    try simp only [Act.put, List.setIfInBounds_toArray, List.set_cons_zero, List.set_cons_succ]
    clear hS0
    refine wpAnyH_ready (rs := [2]) (by kernel_rfl) (by simp) ?_
    refine AllReadyH.cons rfl (fun K hK => ?_) AllReadyH.nil
    go_simp
    refine (CSm.out a7 a10 c7 c10 w6.drew (HJD.out.2.1.2.below hV0) (HJD.out.2.2.2.below hV0)).mono ?_
    rintro e V1 ⟨rfl, hb⟩
    have hV1 : Below w6.heap.size w6 V1 := below_step hV0 (Nat.le_refl _) hb
    clear hb CSm hV0
    refine hK.out _ _ (HSS.out _ hV1) (fun hHeld => ?_)
    clear hK K
    refine take_at (i := 3) (v := ?_) rfl rfl (by kernel_rfl) (by kernel_rfl) (by kernel_rfl) (fun _ _ _ h => h) (Or.inl ⟨by rfl, ?_⟩) (by assumption) ?_
    rotate_left
    · intro w hSw; (try dsimp only at hSw); go_simp; try with_reducible rfl
    try simp only [Act.put, List.setIfInBounds_toArray, List.set_cons_zero, List.set_cons_succ]
    refine take_at (i := 4) (v := ?_) rfl rfl (by kernel_rfl) (by kernel_rfl) (by kernel_rfl) (fun _ _ _ h => h) (Or.inl ⟨by rfl, ?_⟩) (by assumption) ?_
    rotate_left
    · intro w hSw; (try dsimp only at hSw); go_simp; try with_reducible rfl
    try simp only [Act.put, List.setIfInBounds_toArray, List.set_cons_zero, List.set_cons_succ]
    refine take_at (i := 5) (v := ?_) rfl rfl (by kernel_rfl) (by kernel_rfl) (by kernel_rfl) (fun _ _ _ h => h) (Or.inl ⟨by rfl, ?_⟩) (by assumption) ?_
    rotate_left
    · intro w hSw; (try dsimp only at hSw); go_simp; try with_reducible rfl
    try simp only [Act.put, List.setIfInBounds_toArray, List.set_cons_zero, List.set_cons_succ]
    refine take_at (i := 6) (v := ?_) rfl rfl (by kernel_rfl) (by kernel_rfl) (by kernel_rfl) (fun _ _ _ h => h) (Or.inl ⟨by rfl, ?_⟩) (by assumption) ?_
    rotate_left
    · intro w hSw; (try dsimp only at hSw); go_simp; try with_reducible rfl
    try simp only [Act.put, List.setIfInBounds_toArray, List.set_cons_zero, List.set_cons_succ]
    refine take_at (i := 7) (v := ?_) rfl rfl (by kernel_rfl) (by kernel_rfl) (by kernel_rfl) (fun _ _ _ h => h) (Or.inl ⟨by rfl, ?_⟩) (by assumption) ?_
    rotate_left
    · intro w hSw; (try dsimp only at hSw); go_simp; try with_reducible rfl
    try simp only [Act.put, List.setIfInBounds_toArray, List.set_cons_zero, List.set_cons_succ]
    refine take_at (i := 8) (v := ?_) rfl rfl (by kernel_rfl) (by kernel_rfl) (by kernel_rfl) (fun _ _ _ h => h) (Or.inl ⟨by rfl, ?_⟩) (by assumption) ?_
    rotate_left
    · intro w hSw; (try dsimp only at hSw); go_simp; try with_reducible rfl
    try simp only [Act.put, List.setIfInBounds_toArray, List.set_cons_zero, List.set_cons_succ]
    refine take_at (i := 9) (v := ?_) rfl rfl (by kernel_rfl) (by kernel_rfl) (by kernel_rfl) (fun _ _ _ h => h) (Or.inl ⟨by rfl, ?_⟩) (by assumption) ?_
    rotate_left
    · intro w hSw; (try dsimp only at hSw); go_simp; try with_reducible rfl
    try simp only [Act.put, List.setIfInBounds_toArray, List.set_cons_zero, List.set_cons_succ]
    refine take_at (i := 10) (v := ?_) rfl rfl (by kernel_rfl) (by kernel_rfl) (by kernel_rfl) (fun _ _ _ h => h) (Or.inl ⟨by rfl, ?_⟩) (by assumption) ?_
    rotate_left
    · intro w hSw; (try dsimp only at hSw); go_simp; try with_reducible rfl
    try simp only [Act.put, List.setIfInBounds_toArray, List.set_cons_zero, List.set_cons_succ]
    refine take_at (i := 11) (v := ?_) rfl rfl (by kernel_rfl) (by kernel_rfl) (by kernel_rfl) (fun _ _ _ h => h) (Or.inl ⟨by rfl, ?_⟩) (by assumption) ?_
    rotate_left
    · intro w hSw; (try dsimp only at hSw); go_simp; try with_reducible rfl
    try simp only [Act.put, List.setIfInBounds_toArray, List.set_cons_zero, List.set_cons_succ]
    refine take_at (i := 12) (v := ?_) rfl rfl (by kernel_rfl) (by kernel_rfl) (by kernel_rfl) (fun _ _ _ h => h) (Or.inl ⟨by rfl, ?_⟩) (by assumption) ?_
    rotate_left
    · intro w hSw; (try dsimp only at hSw); go_simp; try with_reducible rfl
    try simp only [Act.put, List.setIfInBounds_toArray, List.set_cons_zero, List.set_cons_succ]
    refine take_at (i := 13) (v := ?_) rfl rfl (by kernel_rfl) (by kernel_rfl) (by kernel_rfl) (fun _ _ _ h => h) (Or.inl ⟨by rfl, ?_⟩) (by assumption) ?_
    rotate_left
    · intro w hSw; (try dsimp only at hSw); go_simp; try with_reducible rfl
    try simp only [Act.put, List.setIfInBounds_toArray, List.set_cons_zero, List.set_cons_succ]
    refine take_at (i := 14) (v := ?_) rfl rfl (by kernel_rfl) (by kernel_rfl) (by kernel_rfl) (fun _ _ _ h => h) (Or.inl ⟨by rfl, ?_⟩) (by assumption) ?_
    rotate_left
    · intro w hSw; (try dsimp only at hSw); go_simp; try with_reducible rfl
    try simp only [Act.put, List.setIfInBounds_toArray, List.set_cons_zero, List.set_cons_succ]
    refine take_at (i := 16) (v := ?_) rfl rfl (by kernel_rfl) (by kernel_rfl) (by kernel_rfl) (fun _ _ _ h => h) (Or.inl ⟨by rfl, ?_⟩) (by assumption) ?_
    rotate_left
    · intro w hSw; (try dsimp only at hSw); go_simp; try with_reducible rfl
    try simp only [Act.put, List.setIfInBounds_toArray, List.set_cons_zero, List.set_cons_succ]
    refine wpAnyH_ready (rs := [15]) (by kernel_rfl) (by simp) ?_
    refine AllReadyH.cons rfl (fun K hK => ?_) AllReadyH.nil
    go_simp
    refine (ECk.out V1 (below_step HJD.out.1.w (Nat.le_refl _) hV1)).mono ?_
    rintro e V2 ⟨rfl, hb⟩
    have hV2 : Below w6.heap.size w6 V2 := below_step hV1 (Nat.le_refl _) hb
    clear hb ECk hV1
    refine hK.out _ _ (HSS.out _ hV2) (fun hHeld => ?_)
    clear hK K
    refine wpAnyH_ready (rs := [17]) (by kernel_rfl) (by simp) ?_
    refine AllReadyH.cons rfl (fun K hK => ?_) AllReadyH.nil
    go_simp
    refine (ERk.out V2 (below_step HJD.out.1.w (Nat.le_refl _) hV2)).mono ?_
    rintro e V3 ⟨rfl, hb⟩
    have hV3 : Below w6.heap.size w6 V3 := below_step hV2 (Nat.le_refl _) hb
    clear hb ERk hV2
    refine hK.out _ _ (HSS.out _ hV3) (fun hHeld => ?_)
    clear hK K
    refine take_at (i := 18) (v := ?_) rfl rfl (by kernel_rfl) (by kernel_rfl) (by kernel_rfl) (fun _ _ _ h => h) (Or.inl ⟨by rfl, ?_⟩) (by assumption) ?_
    rotate_left
    · intro w hSw; (try dsimp only at hSw); go_simp; try with_reducible rfl
    try simp only [Act.put, List.setIfInBounds_toArray, List.set_cons_zero, List.set_cons_succ]
    refine take_at (i := 19) (v := ?_) rfl rfl (by kernel_rfl) (by kernel_rfl) (by kernel_rfl) (fun _ _ _ h => h) (Or.inl ⟨by rfl, ?_⟩) (by assumption) ?_
    rotate_left
    · intro w hSw; (try dsimp only at hSw); go_simp; try with_reducible rfl
    try simp only [Act.put, List.setIfInBounds_toArray, List.set_cons_zero, List.set_cons_succ]
    refine take_at (i := 20) (v := ?_) rfl rfl (by kernel_rfl) (by kernel_rfl) (by kernel_rfl) (fun _ _ _ h => h) (Or.inl ⟨by rfl, ?_⟩) (by assumption) ?_
    rotate_left
    · intro w hSw; (try dsimp only at hSw); go_simp; try with_reducible rfl
    try simp only [Act.put, List.setIfInBounds_toArray, List.set_cons_zero, List.set_cons_succ]
    refine take_at (i := 21) (v := ?_) rfl rfl (by kernel_rfl) (by kernel_rfl) (by kernel_rfl) (fun _ _ _ h => h) (Or.inl ⟨by rfl, ?_⟩) (by assumption) ?_
    rotate_left
    · intro w hSw; (try dsimp only at hSw); go_simp; try with_reducible rfl
    try simp only [Act.put, List.setIfInBounds_toArray, List.set_cons_zero, List.set_cons_succ]
    refine take_at (i := 22) (v := ?_) rfl rfl (by kernel_rfl) (by kernel_rfl) (by kernel_rfl) (fun _ _ _ h => h) (Or.inl ⟨by rfl, ?_⟩) (by assumption) ?_
    rotate_left
    · intro w hSw; (try dsimp only at hSw); go_simp; try with_reducible rfl
    try simp only [Act.put, List.setIfInBounds_toArray, List.set_cons_zero, List.set_cons_succ]
    refine take_at (i := 23) (v := ?_) rfl rfl (by kernel_rfl) (by kernel_rfl) (by kernel_rfl) (fun _ _ _ h => h) (Or.inl ⟨by rfl, ?_⟩) (by assumption) ?_
    rotate_left
    · intro w hSw; (try dsimp only at hSw); go_simp; try with_reducible rfl
    try simp only [Act.put, List.setIfInBounds_toArray, List.set_cons_zero, List.set_cons_succ]
    refine take_at (i := 25) (v := ?_) rfl rfl (by kernel_rfl) (by kernel_rfl) (by kernel_rfl) (fun _ _ _ h => h) (Or.inl ⟨by rfl, ?_⟩) (by assumption) ?_
    rotate_left
    · intro w hSw; (try dsimp only at hSw); go_simp; try with_reducible rfl
    try simp only [Act.put, List.setIfInBounds_toArray, List.set_cons_zero, List.set_cons_succ]
    refine take_at (i := 26) (v := ?_) rfl rfl (by kernel_rfl) (by kernel_rfl) (by kernel_rfl) (fun _ _ _ h => h) (Or.inl ⟨by rfl, ?_⟩) (by assumption) ?_
    rotate_left
    · intro w hSw; (try dsimp only at hSw); go_simp; try with_reducible rfl
    try simp only [Act.put, List.setIfInBounds_toArray, List.set_cons_zero, List.set_cons_succ]
    refine take_at (i := 27) (v := ?_) rfl rfl (by kernel_rfl) (by kernel_rfl) (by kernel_rfl) (fun _ _ _ h => h) (Or.inl ⟨by rfl, ?_⟩) (by assumption) ?_
    rotate_left
    · intro w hSw; (try dsimp only at hSw); go_simp; try with_reducible rfl
    try simp only [Act.put, List.setIfInBounds_toArray, List.set_cons_zero, List.set_cons_succ]
    refine wpAnyH_ready (rs := [24]) (by kernel_rfl) (by simp) ?_
    refine AllReadyH.cons rfl (fun K hK => ?_) AllReadyH.nil
    go_simp
    refine (EIn.out V3 (below_step HJD.out.1.w (Nat.le_refl _) hV3)).mono ?_
    rintro e V4 ⟨rfl, hb⟩
    have hV4 : Below w6.heap.size w6 V4 := below_step hV3 (Nat.le_refl _) hb
    clear hb EIn hV3
    refine hK.out _ _ (HSS.out _ hV4) (fun hHeld => ?_)
    clear hK K
    refine wpAnyH_ready (rs := [28]) (by kernel_rfl) (by simp) ?_
    refine AllReadyH.cons rfl (fun K hK => ?_) AllReadyH.nil
    go_simp
    refine (ERn.out V4 (below_step HJD.out.1.w (Nat.le_refl _) hV4)).mono ?_
    rintro e V5 ⟨rfl, hb⟩
    have hV5 : Below w6.heap.size w6 V5 := below_step hV4 (Nat.le_refl _) hb
    clear hb ERn hV4
    refine hK.out _ _ (HSS.out _ hV5) (fun hHeld => ?_)
    clear hK K
    refine take_at (i := 29) (v := ?_) rfl rfl (by kernel_rfl) (by kernel_rfl) (by kernel_rfl) (fun _ _ _ h => h) (Or.inl ⟨by rfl, ?_⟩) (by assumption) ?_
    rotate_left
    · intro w hSw; (try dsimp only at hSw); go_simp; try with_reducible rfl
    try simp only [Act.put, List.setIfInBounds_toArray, List.set_cons_zero, List.set_cons_succ]
    refine take_at (i := 30) (v := ?_) rfl rfl (by kernel_rfl) (by kernel_rfl) (by kernel_rfl) (fun _ _ _ h => h) (Or.inl ⟨by rfl, ?_⟩) (by assumption) ?_
    rotate_left
    · intro w hSw; (try dsimp only at hSw); go_simp; try with_reducible rfl
    try simp only [Act.put, List.setIfInBounds_toArray, List.set_cons_zero, List.set_cons_succ]
    refine take_at (i := 31) (v := ?_) rfl rfl (by kernel_rfl) (by kernel_rfl) (by kernel_rfl) (fun _ _ _ h => h) (Or.inl ⟨by rfl, ?_⟩) (by assumption) ?_
    rotate_left
    · intro w hSw; (try dsimp only at hSw); go_simp; try with_reducible rfl
    try simp only [Act.put, List.setIfInBounds_toArray, List.set_cons_zero, List.set_cons_succ]
    refine wpAnyH_ready (rs := [32]) (by kernel_rfl) (by simp) ?_
    refine AllReadyH.cons rfl (fun K hK => ?_) AllReadyH.nil
    go_simp
    refine (new20_any V5).mono ?_
    rintro e V6 ⟨b11, c11, rfl, _, hm11, hb⟩
    have hV6 : Below w6.heap.size w6 V6 := below_step hV5 (Nat.le_refl _) hb
    have HM11 : Hid (RowM V6 b11 c11 (newM 6)) := hm11
    clear hb hV5 hm11
    refine hK.out _ _ (HSS.out _ hV6) (fun hHeld => ?_)
    clear hK K
    refine wpAnyH_ready (rs := [33]) (by kernel_rfl) (by simp) ?_
    refine AllReadyH.cons rfl (fun K hK => ?_) AllReadyH.nil
    go_simp
    refine (rnew20_any V6).mono ?_
    rintro e V7 ⟨a12, c12, rfl, _, _, hm12, hb⟩
    have hV7 : Below w6.heap.size w6 V7 := below_step hV6 (Nat.le_refl _) hb
    have HM11b : Hid (RowM V7 b11 c11 (newM 6)) := HM11.out.on hb
    have HM12 : Hid (MmsAt V7 a12 6 (newM 6)) := hm12
    clear hb hV6 hm12 HM11
    refine hK.out _ _ (HSS.out _ hV7) (fun hHeld => ?_)
    clear hK K
    refine wpAnyH_ready (rs := [34]) (by kernel_rfl) (by simp) ?_
    refine AllReadyH.cons rfl (fun K hK => ?_) AllReadyH.nil
    have CS3 : Calls Tryd.prog 13 #[.agg #[.int .i64 1, .slice (some ⟨b11, 0, none⟩) 6 c11, .int .i64 0], .agg (grpA (1, newM 6, 0) a12 c12)] V7 fun e w' => e = .returned (.bool true) ∧ Below V7.heap.size V7 w' := rsame20_any (1, newM 6, 0) (1, newM 6, 0) true (by simp) (some ⟨b11, 0, none⟩) a12 c11 c12 V7 (by decide) HM11b.out.at HM12.out
    go_simp
    refine Calls.mono CS3 ?_
    rintro e V8 ⟨rfl, hb⟩
    have hV8 : Below w6.heap.size w6 V8 := below_step hV7 (Nat.le_refl _) hb
    clear hb hV7 HM11b HM12 CS3
    refine hK.out _ _ (HSS.out _ hV8) (fun hHeld => ?_)
    clear hK K
    refine take_at (i := 35) (v := ?_) rfl rfl (by kernel_rfl) (by kernel_rfl) (by kernel_rfl) (fun _ _ _ h => h) (Or.inl ⟨by rfl, ?_⟩) (by assumption) ?_
    rotate_left
    · intro w hSw; (try dsimp only at hSw); go_simp; try with_reducible rfl
    try simp only [Act.put, List.setIfInBounds_toArray, List.set_cons_zero, List.set_cons_succ]
    refine take_at (i := 36) (v := ?_) rfl rfl (by kernel_rfl) (by kernel_rfl) (by kernel_rfl) (fun _ _ _ h => h) (Or.inl ⟨by rfl, ?_⟩) (by assumption) ?_
    rotate_left
    · intro w hSw; (try dsimp only at hSw); go_simp; try with_reducible rfl
    try simp only [Act.put, List.setIfInBounds_toArray, List.set_cons_zero, List.set_cons_succ]
    refine wpAnyH_ready (rs := [37]) (by kernel_rfl) (by simp) ?_
    refine AllReadyH.cons rfl (fun K hK => ?_) AllReadyH.nil
    go_simp
    refine (awake20_any V8 (HG.out.below (below_step HJD.out.1.w (Nat.le_refl _) hV8))).mono ?_
    rintro e V9 ⟨rfl, hb⟩
    have hV9 : Below w6.heap.size w6 V9 := below_step hV8 (Nat.le_refl _) hb
    clear hb hV8
    refine hK.out _ _ (HSS.out _ hV9) (fun hHeld => ?_)
    clear hK K
    refine take_at (i := 38) (v := ?_) rfl rfl (by kernel_rfl) (by kernel_rfl) (by kernel_rfl) (fun _ _ _ h => h) (Or.inl ⟨by rfl, ?_⟩) (by assumption) ?_
    rotate_left
    · intro w hSw; (try dsimp only at hSw); go_simp; try with_reducible rfl
    try simp only [Act.put, List.setIfInBounds_toArray, List.set_cons_zero, List.set_cons_succ]
    refine take_at (i := 39) (v := ?_) rfl rfl (by kernel_rfl) (by kernel_rfl) (by kernel_rfl) (fun _ _ _ h => h) (Or.inl ⟨by rfl, ?_⟩) (by assumption) ?_
    rotate_left
    · intro w hSw; (try dsimp only at hSw); go_simp; try with_reducible rfl
    try simp only [Act.put, List.setIfInBounds_toArray, List.set_cons_zero, List.set_cons_succ]
    refine wpAnyH_done (by kernel_rfl) (NoPanic.normal ?_) _
    have HBX : Hid (Below w.heap.size w V9) := below_step HJD.out.1.w (Nat.le_refl _) hV9
    go_wp2_with fail
    go_ret
    exact ⟨rfl, HBX.out⟩
  · have b0 : decide ((n : Int) ≤ 20) = false := decide_eq_false (by omega)
    have HB : Hid (Below w.heap.size w w1) := HS1.out.w
    clear HS1 CLR CJ CR CCk CRk CIn CRn HRN
    go_wp2_with fail
    refine (awake20_any w1 (HG.out.below HB.out)).mono ?_
    rintro e w99 ⟨rfl, hb⟩
    have HBX : Hid (Below w.heap.size w w99) := below_step HB.out (Nat.le_refl _) hb
    clear hb
    go_wp2_with fail
    go_ret
    exact ⟨rfl, HBX.out⟩

theorem groupJudges_z (v0 : Value) (epoch : Int) (v2 : Value) (w : World) (hG : Glob8 w) (z0 : ∃ (G : GrpT) (a : Option Addr) (c : Nat), v0 = .agg (grpA G a c) ∧ MmsAt w a G.2.1.length G.2.1 ∧ (∀ i, (Lit.int .i64 (mmL G.2.1 i).1).wf = true) ∧ (G.2.1.length ≤ c ∧ c ≤ maxLen))
    (z2 : ∃ (R : RecT) (a : Option Addr) (c : Nat), v2 = .agg (recA R a c) ∧ WrAt w a R.2.2.2.2.2.2.2.length R.2.2.2.2.2.2.2 ∧ R.2.2.2.2.2.2.2.length ≤ maxLen ∧ (∀ i, (wrL R.2.2.2.2.2.2.2 i).2.size ≤ maxLen) ∧ (SliceOk a R.2.2.2.2.2.2.2.length c ∧ c ≤ maxLen) ∧ R.2.2.2.2.1.size ≤ maxLen ∧ OpOk R.2.2.2.2.2.1) :
    Calls Tryd.prog 3 #[v0, .int .i64 epoch, v2] w fun e w' => e = .returned (.bool true) ∧ Below w.heap.size w w' := by
  obtain ⟨G, a, c, rfl, hI, hw, hc⟩ := z0
  obtain ⟨R, ar, cr, rfl, h1, h2, h3, h4, h5, h6⟩ := z2
  exact groupJudges_law G a c epoch R ar cr w hG hI (who_range hw) hc h1 h2 h3 ⟨h4.1.cap, h4.2⟩ h5 h6.2.1 h6.2.2

end Go.Proofs.YtabhkebkbidfhaaDoor
