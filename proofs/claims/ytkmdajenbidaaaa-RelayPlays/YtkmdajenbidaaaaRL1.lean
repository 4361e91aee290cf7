import Derived.Test.YtkmdajenbidaaaaReK
import Derived.Test.YtkmdajenbidaaaaReD
import Derived.Test.YtkmdajenbidaaaaStoreAt
/- Layer 21, the code: add. -/
namespace Go.Proofs.Ytkmdajenbidaaaa
open Go.RowKit
set_option maxRecDepth 100000
set_option linter.unusedSimpArgs false
set_option linter.unusedVariables false


/-- A field of the relay's own is written, its row is another one. -/
theorem RlAt.turn {w w' : World} {g : Nat} {v v' : Value} {X : RlT} {l : List ItT} (h : RlAt w g v X) (hg : w.grownBy w' v.ownBlock) (ho : OwnI19 w' 0 v' l) (hn : Nx w v.ownBlock v'.ownBlock) :
    RlAt (w'.setCell ⟨g, 6, none⟩ v') g v' (X.1, X.2.1, X.2.2.1, l) := by
  have hne : v'.ownBlock ≠ some g := fun e => by
    rcases hn g e with e1 | e1
    · exact h.ne e1
    · have := h.lt; omega
  refine ⟨?_, owns_same ho (fun j hj => Below.heap_setCell w' ⟨g, 6, none⟩ v' j (fun e => hne (by rw [hj, e]))), hne⟩
  have h1 := (h.blk.grown hg (fun e => h.ne e.symm)).setAt 6 v'
  exact h1

theorem RlTo.turn {w w1 w2 : World} {g : Nat} {v v' : Value} {X : RlT} {l : List ItT} (hb : Below w.heap.size w w1) (h : RlAt w1 g v X) (hg : w1.grownBy w2 v.ownBlock) (ho : OwnI19 w2 0 v' l) (hn : Nx w1 v.ownBlock v'.ownBlock) :
    RlTo w g v (X.1, X.2.1, X.2.2.1, l) (w2.setCell ⟨g, 6, none⟩ v') :=
  ⟨v', h.turn hg ho hn, Kept2.behind hb ((Kept2.ofGrown g hg).setCell ⟨g, 6, none⟩ rfl _), fun k hk => (hn k hk).imp id (fun e => Nat.le_trans hb.size e)⟩

theorem RlAt.setRow {W : World} {g : Nat} {v : Value} {X : RlT} (h : RlAt W g v X) (k : Nat) (hk : g ≠ k) (hv : v.ownBlock ≠ some k) (cs : Array Value) : RlAt (W.setRow k cs) g v X :=
  ⟨h.blk.setRowOther k hk cs, owns_same h.own (fun j hj => setRow_other W k j cs (fun e => hv (by rw [hj, e]))), h.ne⟩



/-- The frame's cells, as a drawn region reads them. -/
def FrC (h : Nat) (Kd G S E M : Int) (bl : ByteArray) (a : Option Addr) (n0 c : Nat) (er : Int) (W : World) : Prop :=
  W.cell? ⟨h, 0, none⟩ = some (.int .i64 Kd) ∧ W.cell? ⟨h, 1, none⟩ = some (.int .i64 G) ∧ W.cell? ⟨h, 2, none⟩ = some (.int .i64 S) ∧ W.cell? ⟨h, 3, none⟩ = some (.int .i64 E) ∧ W.cell? ⟨h, 4, none⟩ = some (.int .i64 M) ∧ W.cell? ⟨h, 5, none⟩ = some (.string bl) ∧ W.cell? ⟨h, 6, none⟩ = some (.slice a n0 c) ∧ W.cell? ⟨h, 7, none⟩ = some (.int .i64 er)

theorem FrC.of {h : Nat} {Kd G S E M : Int} {bl : ByteArray} {a : Option Addr} {n0 c : Nat} {er : Int} {W : World} (hb : Blk W 39 h #[.int .i64 Kd, .int .i64 G, .int .i64 S, .int .i64 E, .int .i64 M, .string bl, .slice a n0 c, .int .i64 er]) : FrC h Kd G S E M bl a n0 c er W :=
  ⟨hb.cell 0, hb.cell 1, hb.cell 2, hb.cell 3, hb.cell 4, hb.cell 5, hb.cell 6, hb.cell 7⟩


set_option maxHeartbeats 8000000 in
theorem add_any (g : Nat) (v : Value) (X : RlT) (N : Nat) (hX : RlOk N X) (hN : N ≤ 4611686018427387000) (F : FrmT) (hF : FrOk F) (a : Option Addr) (c : Nat) (w : World) (h : RlAt w g v X) :
    Calls Try.prog 63 #[.pointer (some ⟨g, 0, none⟩), .agg (frmA F a c)] w (DoTo w g v (addR X F).1 (addR X F).2) := by
  have f4 := hF.bl
  unfold addR
  obtain ⟨Kd, G, S, E, M, bl, it, er⟩ := F
  obtain ⟨n0, hn0⟩ : ∃ n0, it.length = n0 := ⟨_, rfl⟩
  have HR0 : Hid (RlAt w g v X) := h
  have HS' := AdS.new h (frmA (Kd, G, S, E, M, bl, it, er) a c)
  obtain ⟨W0, hW0⟩ : ∃ W0, (w.alloc (.cells (frmA (Kd, G, S, E, M, bl, it, er) a c) 39)).alloc (.cells zeroF 39) = W0 := ⟨_, rfl⟩
  rw [hW0] at HS'
  simp only [frmA, zeroF, hn0] at HS' hW0 ⊢
  have HS : Hid (AdS w g v X #[.int .i64 Kd, .int .i64 G, .int .i64 S, .int .i64 E, .int .i64 M, .string bl, .slice a n0 c, .int .i64 er] W0) := HS'
  clear HS' h
  simp only at f4
  have q2 := hX.many
  have q3 := hX.bytes
  have q4 := hX.q1
  have HK : Hid (RlOk N X ∧ N ≤ 4611686018427387000) := ⟨hX, hN⟩
  have HI : Hid (∃ aa cc, v = .slice aa X.2.2.2.length cc ∧ X.2.2.2.length ≤ cc ∧ cc ≤ 9223372036854775807 ∧ ItsAt w aa X.2.2.2.length X.2.2.2) := HR0.out.own.rows
  obtain ⟨aa, cc, hv, _, _, hI⟩ := HI.out
  obtain ⟨n, hn⟩ : ∃ n, X.2.2.2.length = n := ⟨_, rfl⟩
  rw [hn] at hv hI q2
  have HV : Hid (v = .slice aa n cc) := hv
  have i4 : W0.cell? ⟨g, 6, none⟩ = some (.slice aa n cc) := by have := HS.out.rel.blk.cell 6; rw [this, ← hv]; rfl
  have CI' := indexA_any X.2.2.2 aa n cc (.pointer (some ⟨w.heap.size, 0, none⟩)) (fun i => decide ((itL X.2.2.2 i).2.1 = E) && decide ((itL X.2.2.2 i).2.2 = bl)) (fun _ W => Below W0.heap.size W0 W) W0 (by omega)
    (fun k W hW => hI.below (below_step HS.out.bel (Nat.le_refl _) hW)) (fun k W hk hW => by
      have hfo := HS.out.frm.on hW
      have hfo2 : Blk W 39 w.heap.size (frmA (Kd, G, S, E, M, bl, it, er) a c) := by simp only [frmA, hn0]; exact hfo
      refine (addC_any (itL X.2.2.2 k) w.heap.size (Kd, G, S, E, M, bl, it, er) a c W hfo2).mono ?_
      rintro e w' ⟨rfl, hb⟩
      exact ⟨rfl, below_step hW (Nat.le_refl _) hb⟩) (Below.refl _ _)
  have hsa : sameA X.2.2.2 E bl = fstN (fun i => decide ((itL X.2.2.2 i).2.1 = E) && decide ((itL X.2.2.2 i).2.2 = bl)) n 0 := by unfold sameA; rw [hn]
  have HII : Hid (ItsAt w aa n X.2.2.2) := hI
  rw [← hsa] at CI'
  have HN0 : Hid (it.length = n0) := hn0
  clear hn0 hI hsa hv HI
  cases hf : sameA X.2.2.2 E bl with
  | some i =>
    obtain ⟨_, hi, _, _⟩ := fstN_some _ _ 0 i hf
    rw [hn, Nat.zero_add] at hi
    rw [hf] at CI'
    have CI : Hid (Calls Try.prog 73 _ _ fun e w' => e = .returned (.int .i64 (i : Int)) ∧ _) := CI'
    have hil : (i : Int) < (n : Int) := by omega
    obtain ⟨Q, hQ⟩ : ∃ Q, (itL X.2.2.2 i).1 = Q := ⟨_, rfl⟩
    simp only
    rw [hQ]
    have HQ : Hid ((itL X.2.2.2 i).1 = Q) := hQ
    have HIL : Hid (i < n) := hi
    clear hf CI' f4 q2 q3 q4 hX hn hi hQ
    go_enter Try.func63, Try.ntmps63
    go_wp2_with fail
    try rw [hW0]
    refine CI.out.mono ?_
    rintro e w1 ⟨rfl, kk, hb1⟩
    have HS1 : Hid (AdS w g v X _ w1) := HS.out.on hb1
    clear HS CI hb1 hW0 i4
    have i5 : w1.cell? ⟨g, 6, none⟩ = some (.slice aa n cc) := by have := HS1.out.rel.blk.cell 6; rw [this, ← HV.out]; rfl
    obtain ⟨b, off, rfl, hcl⟩ := (HII.out.below HS1.out.bel).2.resolve_left (by have := HIL.out; omega)
    have i6 : w1.cell? ⟨b, off + i * 3, none⟩ = some (.int .i64 Q) := by rw [← HQ.out]; exact (hcl i HIL.out).1
    have HX := HS1.out.out
    simp only [zeroF] at HX
    clear hcl
    go_wp2_with (with_reducible refine wpList_storeBlk rfl 39 _ _ rfl (w.heap.size + 1) #[.int .i64 0, .int .i64 0, .int .i64 0, .int .i64 0, .int .i64 0, .string ⟨#[]⟩, .slice none 0 0, .int .i64 0] #[.int .i64 2, .int .i64 0, .int .i64 Q, .int .i64 0, .int .i64 0, .string ⟨#[]⟩, .slice none 0 0, .int .i64 0] ?hx ?hy HX rfl ?hi ?h1 ?_)
    try (case hx => rfl)
    try (case hy => rfl)
    try (case hi => kernel_rfl)
    try (case h1 => simp [Value.oneCell'])
    exact bodyPost_row rfl (w.heap.size + 1) #[.int .i64 2, .int .i64 0, .int .i64 Q, .int .i64 0, .int .i64 0, .string ⟨#[]⟩, .slice none 0 0, .int .i64 0] rfl rfl (HX.setRow _) _ Try.underlying39 rfl (by kernel_rfl) (doTo_none rfl rfl (HS1.out.to HR0.out _))
  | none =>
    have HSA : Hid (sameA X.2.2.2 E bl = none) := hf
    rw [hf] at CI'
    have CI : Hid (Calls Try.prog 73 _ _ fun e w' => e = .returned (.int .i64 (-1)) ∧ _) := CI'
    simp only
    clear hf CI'
    rw [hn]
    by_cases h1 : 1024 ≤ n
    · have h1i : (1024 : Int) ≤ (n : Int) := by omega
      rw [if_pos h1]
      obtain ⟨ER, hER⟩ : ∃ ER : Int, ER = 2 := ⟨_, rfl⟩
      rw [← hER]
      clear h1 f4 q2 q3 q4 hX hn
      go_enter Try.func63, Try.ntmps63
      go_wp2_with fail
      try rw [hW0]
      refine CI.out.mono ?_
      rintro e w1 ⟨rfl, kk, hb1⟩
      have HS1 : Hid (AdS w g v X _ w1) := HS.out.on hb1
      clear HS CI hb1 hW0 i4
      have i5 : w1.cell? ⟨g, 6, none⟩ = some (.slice aa n cc) := by have := HS1.out.rel.blk.cell 6; rw [this, ← HV.out]; rfl
      go_wp2_with fail
      rw [← hER]
      clear hER i5
      refine (refusal_row ER w1).mono ?_
      rintro e w2 ⟨rfl, hb2⟩
      have HS2 : Hid (AdS w g v X _ w2) := HS1.out.on hb2
      have HX := HS2.out.out
      simp only [zeroF] at HX
      clear HS1 hb2
      go_wp2_with (with_reducible refine wpList_storeBlk rfl 39 _ _ rfl (w.heap.size + 1) #[.int .i64 0, .int .i64 0, .int .i64 0, .int .i64 0, .int .i64 0, .string ⟨#[]⟩, .slice none 0 0, .int .i64 0] #[.int .i64 9, .int .i64 0, .int .i64 0, .int .i64 0, .int .i64 0, .string ⟨#[]⟩, .slice none 0 0, .int .i64 ER] ?hx ?hy HX rfl ?hi ?h1 ?_)
      try (case hx => rfl)
      try (case hy => rfl)
      try (case hi => kernel_rfl)
      try (case h1 => simp [Value.oneCell'])
      exact bodyPost_row rfl (w.heap.size + 1) #[.int .i64 9, .int .i64 0, .int .i64 0, .int .i64 0, .int .i64 0, .string ⟨#[]⟩, .slice none 0 0, .int .i64 ER] rfl rfl (HX.setRow _) _ Try.underlying39 rfl (by kernel_rfl) (doTo_none rfl rfl (HS2.out.to HR0.out _))
    · have h1i : ¬ ((1024 : Int) ≤ (n : Int)) := by omega
      have h1n : n < 1024 := by omega
      rw [if_neg h1]
      have CY : Hid (∀ W, RlAt W g v X → ∀ p : Beh W, _) := fun W hW p => rbytes_any g v X N HK.out.1 p.w' (hW.on p.h)
      obtain ⟨T, hT⟩ : ∃ T, bytesL X = T := ⟨_, rfl⟩
      rw [hT] at q3 CY ⊢
      obtain ⟨U, hU⟩ : ∃ U, X.2.1 = U := ⟨_, rfl⟩
      rw [hU] at q3 q4 ⊢
      have HU : Hid (X.2.1 = U) := hU
      have hwt : IntKind.i64.wrap ((T : Int) + (bl.size : Int)) = (T : Int) + (bl.size : Int) := by rw [IntKind.wrap_i64]; omega
      have HTT : Hid (T = bytesL X) := hT.symm
      clear h1 q3 q4 hX hT hU
      by_cases h2 : U < (T : Int) + (bl.size : Int)
      · rw [if_pos h2]
        obtain ⟨ER, hER⟩ : ∃ ER : Int, ER = 211 := ⟨_, rfl⟩
        rw [← hER]
        clear q2 hn f4 h1n
        go_enter Try.func63, Try.ntmps63
        go_wp2_with fail
        try rw [hW0]
        refine CI.out.mono ?_
        rintro e w1 ⟨rfl, kk, hb1⟩
        have HS1 : Hid (AdS w g v X _ w1) := HS.out.on hb1
        clear HS CI hb1 hW0 i4
        have i5 : w1.cell? ⟨g, 6, none⟩ = some (.slice aa n cc) := by have := HS1.out.rel.blk.cell 6; rw [this, ← HV.out]; rfl
        go_wp2_with fail
        have e5 : ∀ p : Beh w1, p.w'.cell? ⟨w.heap.size, 5, none⟩ = some (.string bl) := fun p => p.cell (HS1.out.frm.cell 5)
        have e2 : ∀ p : Beh w1, p.w'.cell? ⟨g, 2, none⟩ = some (.int .i64 U) := fun p => p.cell (by rw [← HU.out]; exact HS1.out.rel.blk.cell 2)
        have CY1 : Hid (∀ p : Beh w1, _) := CY.out w1 HS1.out.rel
        clear CY
        have hne_ : Nonempty (Beh w1) := ⟨⟨_, Below.refl _ _⟩⟩
        refine wp_region_quiet_beh (by kernel_rfl) (by kernel_rfl) ?_
        repeat (quiet_step (first | (go_at_call 13; refine Calls.beh_of (CY1.out _))))
        refine wpQuiet_nil ?_
        intro wq hw_
        obtain ⟨⟨wz_, hbq⟩, hw_⟩ := hw_
        subst hw_
        try dsimp only
        clear hne_
        have HS3 : Hid (AdS w g v X _ wq) := HS1.out.on hbq
        clear HS1 CY1 e5 e2 hbq i5
        obtain ⟨w1, hw1⟩ : ∃ w1, wq = w1 := ⟨_, rfl⟩
        rw [hw1] at HS3 ⊢
        have HS1 := HS3
        clear HS3
        go_wp2_with fail
        rw [← hER]
        clear hER
        refine (refusal_row ER w1).mono ?_
        rintro e w2 ⟨rfl, hb2⟩
        have HS2 : Hid (AdS w g v X _ w2) := HS1.out.on hb2
        have HX := HS2.out.out
        simp only [zeroF] at HX
        clear HS1 hb2
        go_wp2_with (with_reducible refine wpList_storeBlk rfl 39 _ _ rfl (w.heap.size + 1) #[.int .i64 0, .int .i64 0, .int .i64 0, .int .i64 0, .int .i64 0, .string ⟨#[]⟩, .slice none 0 0, .int .i64 0] #[.int .i64 9, .int .i64 0, .int .i64 0, .int .i64 0, .int .i64 0, .string ⟨#[]⟩, .slice none 0 0, .int .i64 ER] ?hx ?hy HX rfl ?hi ?h1 ?_)
        try (case hx => rfl)
        try (case hy => rfl)
        try (case hi => kernel_rfl)
        try (case h1 => simp [Value.oneCell'])
        exact bodyPost_row rfl (w.heap.size + 1) #[.int .i64 9, .int .i64 0, .int .i64 0, .int .i64 0, .int .i64 0, .string ⟨#[]⟩, .slice none 0 0, .int .i64 ER] rfl rfl (HX.setRow _) _ Try.underlying39 rfl (by kernel_rfl) (doTo_none rfl rfl (HS2.out.to HR0.out _))
      · rw [if_neg h2]
        have CL : Hid (∀ W, RlAt W g v X → _) := fun W hW => rlast_any g v X N (by have := HK.out.2; omega) HK.out.1 W hW
        have hla := HK.out.1.last
        have hlb := HK.out.1.b0
        obtain ⟨La, hLa⟩ : ∃ La, lastL X = La := ⟨_, rfl⟩
        have hla0 : 0 ≤ La := by rw [← hLa]; unfold lastL; omega
        rw [hLa] at CL hla ⊢
        have HLA : Hid (lastL X = La) := hLa
        have hNN := HK.out.2
        have hw1 : IntKind.i64.wrap (La + 1) = La + 1 := by rw [IntKind.wrap_i64]; omega
        have CT : Hid (∀ W, Calls Try.prog 75 #[.agg #[.int .i64 Kd, .int .i64 G, .int .i64 S, .int .i64 E, .int .i64 M, .string bl, .slice a n0 c, .int .i64 er], .int .i64 (La + 1)] W fun e w' => e = .returned (.agg #[.int .i64 (La + 1), .int .i64 E, .string bl]) ∧ Below W.heap.size W w') := fun W => by
          have hh := itemOf_any (Kd, G, S, E, M, bl, it, er) a c (La + 1) W (by show bl.size ≤ _; omega)
          simp only [frmA, itemA, HN0.out] at hh
          exact hh
        have hn1 : X.2.2.2.length = n := hn
        have HNN : Hid (X.2.2.2.length = n ∧ n < 1024) := ⟨hn, h1n⟩
        have HOK : Hid (RlOk (N + 1) (X.1, X.2.1, X.2.2.1, X.2.2.2 ++ [(La + 1, E, bl)])) := by
          have hh := addR_ok HK.out.1 hF
          unfold addR at hh
          simp only at hh
          rw [HSA.out] at hh
          simp only at hh
          rw [if_neg (by rw [hn]; omega), if_neg (by rw [HU.out, ← HTT.out]; exact h2)] at hh
          rw [← HLA.out]
          exact hh
        clear hla hlb hla0 hLa hNN hn hn1 f4 q2 h1n
        go_enter Try.func63, Try.ntmps63
        go_wp2_with fail
        try rw [hW0]
        refine CI.out.mono ?_
        rintro e w1 ⟨rfl, kk, hb1⟩
        have HS1 : Hid (AdS w g v X _ w1) := HS.out.on hb1
        clear HS CI hb1 hW0 i4
        have i5 : w1.cell? ⟨g, 6, none⟩ = some (.slice aa n cc) := by have := HS1.out.rel.blk.cell 6; rw [this, ← HV.out]; rfl
        go_wp2_with fail
        have e5 : ∀ p : Beh w1, p.w'.cell? ⟨w.heap.size, 5, none⟩ = some (.string bl) := fun p => p.cell (HS1.out.frm.cell 5)
        have e2 : ∀ p : Beh w1, p.w'.cell? ⟨g, 2, none⟩ = some (.int .i64 U) := fun p => p.cell (by rw [← HU.out]; exact HS1.out.rel.blk.cell 2)
        have CY1 : Hid (∀ p : Beh w1, _) := CY.out w1 HS1.out.rel
        clear CY
        have hne_ : Nonempty (Beh w1) := ⟨⟨_, Below.refl _ _⟩⟩
        refine wp_region_quiet_beh (by kernel_rfl) (by kernel_rfl) ?_
        repeat (quiet_step (first | (go_at_call 13; refine Calls.beh_of (CY1.out _))))
        refine wpQuiet_nil ?_
        intro wq hw_
        obtain ⟨⟨wz_, hbq⟩, hw_⟩ := hw_
        subst hw_
        try dsimp only
        clear hne_
        have HS3 : Hid (AdS w g v X _ wq) := HS1.out.on hbq
        clear HS1 CY1 e5 e2 hbq i5
        obtain ⟨w1, hw1q⟩ : ∃ w1, wq = w1 := ⟨_, rfl⟩
        rw [hw1q] at HS3 ⊢
        have HS1 := HS3
        clear HS3 hw1q
        go_wp2_with fail
        have hT : FrC w.heap.size Kd G S E M bl a n0 c er w1.drew := FrC.of (HS1.out.on (Below.refl _ _).drew).frm
        have hS : w1.drew.cell? ⟨g, 6, none⟩ = some (.slice aa n cc) := by have := (HS1.out.on (Below.refl _ _).drew).rel.blk.cell 6; rw [this, ← HV.out]; rfl
        unfold FrC at hT
        refine wp_region_noPanic ?_
        refine till_begin 14 (fun W => W.cell? ⟨g, 6, none⟩ = some (.slice aa n cc)) (fun W => W.cell? ⟨w.heap.size, 0, none⟩ = some (.int .i64 Kd) ∧ W.cell? ⟨w.heap.size, 1, none⟩ = some (.int .i64 G) ∧ W.cell? ⟨w.heap.size, 2, none⟩ = some (.int .i64 S) ∧ W.cell? ⟨w.heap.size, 3, none⟩ = some (.int .i64 E) ∧ W.cell? ⟨w.heap.size, 4, none⟩ = some (.int .i64 M) ∧ W.cell? ⟨w.heap.size, 5, none⟩ = some (.string bl) ∧ W.cell? ⟨w.heap.size, 6, none⟩ = some (.slice a n0 c) ∧ W.cell? ⟨w.heap.size, 7, none⟩ = some (.int .i64 er)) (by kernel_rfl) ?_
        refine till_take (i := 0) (v := ?_) rfl rfl (by kernel_rfl) (by kernel_rfl) (by kernel_rfl) rfl (fun _ _ _ h => h) (Or.inl ⟨by rfl, ?_⟩) (by assumption) (fun _ => by assumption) ?_
        rotate_left
        · intro w hSw; (try dsimp only at hSw); go_simp; try with_reducible rfl
        try simp only [Act.put, List.setIfInBounds_toArray, List.set_cons_zero, List.set_cons_succ]
        refine till_take (i := 1) (v := ?_) rfl rfl (by kernel_rfl) (by kernel_rfl) (by kernel_rfl) rfl (fun _ _ _ h => h) (Or.inl ⟨by rfl, ?_⟩) (by assumption) (fun _ => by assumption) ?_
        rotate_left
        · intro w hSw; (try dsimp only at hSw); go_simp; try with_reducible rfl
        try simp only [Act.put, List.setIfInBounds_toArray, List.set_cons_zero, List.set_cons_succ]
        refine till_take (i := 2) (v := ?_) rfl rfl (by kernel_rfl) (by kernel_rfl) (by kernel_rfl) rfl (fun _ _ _ h => h) (Or.inl ⟨by rfl, ?_⟩) (by assumption) (fun _ => by assumption) ?_
        rotate_left
        · intro w hSw; (try dsimp only at hSw); go_simp; try with_reducible rfl
        try simp only [Act.put, List.setIfInBounds_toArray, List.set_cons_zero, List.set_cons_succ]
        refine till_take (i := 3) (v := ?_) rfl rfl (by kernel_rfl) (by kernel_rfl) (by kernel_rfl) rfl (fun _ _ _ h => h) (Or.inl ⟨by rfl, ?_⟩) (by assumption) (fun _ => by assumption) ?_
        rotate_left
        · intro w hSw; (try dsimp only at hSw); go_simp; try with_reducible rfl
        try simp only [Act.put, List.setIfInBounds_toArray, List.set_cons_zero, List.set_cons_succ]
        refine till_take' (i := 4) (v := ?_) rfl rfl (by kernel_rfl) (by kernel_rfl) (by kernel_rfl) rfl (by kernel_rfl) (by kernel_rfl) (fun _ _ _ h => h) (Or.inl ⟨by rfl, ?_⟩) (by assumption) (by assumption) ?_
        rotate_left
        · intro w hSw; (try dsimp only at hSw); go_simp; try with_reducible rfl
        try simp only [Act.put, List.setIfInBounds_toArray, List.set_cons_zero, List.set_cons_succ]
        refine till_take (i := 5) (v := ?_) rfl rfl (by kernel_rfl) (by kernel_rfl) (by kernel_rfl) rfl (fun _ _ _ h => h) (Or.inl ⟨by rfl, ?_⟩) (by assumption) (fun _ => by assumption) ?_
        rotate_left
        · intro w hSw; (try dsimp only at hSw); go_simp; try with_reducible rfl
        try simp only [Act.put, List.setIfInBounds_toArray, List.set_cons_zero, List.set_cons_succ]
        refine till_take (i := 6) (v := ?_) rfl rfl (by kernel_rfl) (by kernel_rfl) (by kernel_rfl) rfl (fun _ _ _ h => h) (Or.inl ⟨by rfl, ?_⟩) (by assumption) (fun _ => by assumption) ?_
        rotate_left
        · intro w hSw; (try dsimp only at hSw); go_simp; try with_reducible rfl
        try simp only [Act.put, List.setIfInBounds_toArray, List.set_cons_zero, List.set_cons_succ]
        refine till_step (i := 7) (by kernel_rfl) rfl (fun K hK => ?_)
        go_simp
        refine (CL.out _ (HS1.out.on (Below.refl _ _).drew).rel).mono ?_
        rintro e w2 ⟨rfl, hb2⟩
        have HS2 : Hid (AdS w g v X _ w2) := (HS1.out.on (Below.refl _ _).drew).on hb2
        have hT2 : FrC w.heap.size Kd G S E M bl a n0 c er w2 := FrC.of HS2.out.frm
        have hS2 : w2.cell? ⟨g, 6, none⟩ = some (.slice aa n cc) := by have := HS2.out.rel.blk.cell 6; rw [this, ← HV.out]; rfl
        unfold FrC at hT2
        clear HS1 hb2 hT hS CL
        refine hK.out _ _ hT2 (fun _ => hS2) ?_
        clear hK
        refine till_take (i := 8) (v := ?_) rfl rfl (by kernel_rfl) (by kernel_rfl) (by kernel_rfl) rfl (fun _ _ _ h => h) (Or.inl ⟨by rfl, ?_⟩) (by assumption) (fun _ => by assumption) ?_
        rotate_left
        · intro w hSw; (try dsimp only at hSw); go_simp; try with_reducible rfl
        try simp only [Act.put, List.setIfInBounds_toArray, List.set_cons_zero, List.set_cons_succ]
        refine till_step (i := 9) (by kernel_rfl) rfl (fun K hK => ?_)
        go_simp
        refine (CT.out _).mono ?_
        rintro e w3 ⟨rfl, hb3⟩
        have HS3 : Hid (AdS w g v X _ w3) := HS2.out.on hb3
        have hT3 : FrC w.heap.size Kd G S E M bl a n0 c er w3 := FrC.of HS3.out.frm
        have hS3 : w3.cell? ⟨g, 6, none⟩ = some (.slice aa n cc) := by have := HS3.out.rel.blk.cell 6; rw [this, ← HV.out]; rfl
        unfold FrC at hT3
        clear HS2 hb3 hT2 hS2 CT
        refine hK.out _ _ hT3 (fun _ => hS3) ?_
        clear hK
        have hB4 : Below w3.heap.size w3 (w3.alloc (.cells #[.int .i64 (La + 1), .int .i64 E, .string bl] 31)) := below_new _ _
        have HX4 : Hid (Blk (w3.alloc (.cells #[.int .i64 (La + 1), .int .i64 E, .string bl] 31)) 31 w3.heap.size #[.int .i64 (La + 1), .int .i64 E, .string bl]) := Blk.new _ _ _
        have HS4' := HS3.out.on hB4
        obtain ⟨w4, hw4⟩ : ∃ w4, w3.alloc (.cells #[.int .i64 (La + 1), .int .i64 E, .string bl] 31) = w4 := ⟨_, rfl⟩
        rw [hw4] at HX4 HS4'
        have HS4 : Hid (AdS w g v X _ w4) := HS4'
        have HL3 : Hid (w.heap.size + 2 ≤ w3.heap.size) := by have := HS3.out.out.lt; show _ ≤ _; omega
        have hT4 : FrC w.heap.size Kd G S E M bl a n0 c er w4 := FrC.of HS4.out.frm
        have hS4 : w4.cell? ⟨g, 6, none⟩ = some (.slice aa n cc) := by have := HS4.out.rel.blk.cell 6; rw [this, ← HV.out]; rfl
        unfold FrC at hT4
        clear HS3 hT3 hS3 HS4' hB4
        refine till_step (i := 10) (by kernel_rfl) rfl (fun K hK => ?_)
        go_simp
        try rw [hw4]
        clear hw4
        refine hK.out _ _ hT4 (fun _ => hS4) ?_
        clear hK
        have HA : Hid (∃ v' w5, (∀ ty, (Builtin.append_ #[29, 29] ty #[.slice aa n cc, .slice (some ⟨w3.heap.size, 0, none⟩) 1 1]).run Try.prog w4 = .ok v' w5) ∧ OwnI19 w5 0 v' (X.2.2.2 ++ [(La + 1, E, bl)]) ∧ w4.grownBy w5 v.ownBlock ∧ Nx w4 v.ownBlock v'.ownBlock) := by
          obtain ⟨i0, hi, hz0, hz1, hz2⟩ := info_parts Try.infoI19
          have hown := HS4.out.rel.own
          unfold OwnI19 at hown
          have hl1 := HNN.out.1
          have hl2 := HNN.out.2
          obtain ⟨v', w5, hr, k2, k3, k4⟩ := append_nx (P := Try.prog) (ty := 0) Try.underlying29 hi hz0 hz1 hz2 rfl (by decide) hown ⟨w3.heap.size, 0, none⟩ 1 1 (itemA (La + 1, E, bl)).toList rfl (fun j u hj => by
            rw [Go.WideShapes.add_plain, Nat.zero_add, HX4.out.cell]
            rw [Array.getElem?_toList] at hj
            exact hj) (itemA_one _) (by omega) (by unfold maxLen; omega)
          refine ⟨v', w5, fun ty => ?_, ?_, k3, k4⟩
          · have := HV.out
            rw [this] at hr
            rw [← hr]; rfl
          · unfold OwnI19
            rw [cellsI_snoc, List.length_append]
            exact k2
        obtain ⟨v', w5, hA, ho5, hg5, hn5⟩ := HA.out
        obtain ⟨a6, c6, hv6, _, _, _⟩ := ho5.rows
        obtain ⟨n6, hn6⟩ : ∃ n6, (X.2.2.2 ++ [(La + 1, E, bl)]).length = n6 := ⟨_, rfl⟩
        rw [hn6] at hv6
        subst hv6
        clear hn6
        have hfr : v.ownBlock ≠ some w.heap.size := fun e => by have := (World.ownsRow.lt HR0.out.own _ e).2; omega
        have hfo : v.ownBlock ≠ some (w.heap.size + 1) := fun e => by have := (World.ownsRow.lt HR0.out.own _ e).2; omega
        have hG5 : Blk w5 51 g (rlC g X v) := HS4.out.rel.blk.grown hg5 (fun e => HR0.out.ne e.symm)
        have HF5 : Hid (Blk w5 39 w.heap.size _) := HS4.out.frm.grown hg5 (fun e => hfr e.symm)
        have HO5 : Hid (Blk w5 39 (w.heap.size + 1) zeroF) := HS4.out.out.grown hg5 (fun e => hfo e.symm)
        have HT5 : Hid (RlAt (w5.setCell ⟨g, 6, none⟩ (.slice a6 n6 c6)) g (.slice a6 n6 c6) (X.1, X.2.1, X.2.2.1, X.2.2.2 ++ [(La + 1, E, bl)])) := HS4.out.rel.turn hg5 ho5 hn5
        have HK5 : Hid (Kept2 g v.ownBlock w (w5.setCell ⟨g, 6, none⟩ (.slice a6 n6 c6))) := Kept2.behind HS4.out.bel ((Kept2.ofGrown g hg5).setCell ⟨g, 6, none⟩ rfl _)
        have HN5 : Hid (Nx w v.ownBlock (Value.slice a6 n6 c6).ownBlock ∧ (Value.slice a6 n6 c6).ownBlock ≠ some (w.heap.size + 1)) := ⟨fun k hk => (hn5 k hk).imp id (fun e => Nat.le_trans HS4.out.bel.size e), fun e => by
          rcases hn5 _ e with e1 | e1
          · exact hfo e1
          · have h1 := HX4.out.lt
            have h2 := HL3.out
            omega⟩
        have hT5 : FrC w.heap.size Kd G S E M bl a n0 c er w5 := FrC.of HF5.out
        have hS5 : w5.cell? ⟨g, 6, none⟩ = some (.slice aa n cc) := by have := hG5.cell 6; rw [this, ← HV.out]; rfl
        have hF5 : w5.frozen? ⟨g, 6, none⟩ = false := hG5.free 6
        unfold FrC at hT5
        clear HA hT4 hS4 ho5 hg5 hn5 hfr hfo hG5 HS4 HX4
        refine till_step (i := 11) (by kernel_rfl) rfl (fun K hK => ?_)
        refine Lib.wp_append_run _ _ _ 29 29 rfl _ _ rfl rfl _ _ (hA _) ?_
        clear hA
        refine hK.out _ _ hT5 (fun _ => hS5) ?_
        clear hK
        refine till_take (i := 12) (v := ?_) rfl rfl (by kernel_rfl) (by kernel_rfl) (by kernel_rfl) rfl (fun _ _ _ h => h) (Or.inl ⟨by rfl, ?_⟩) (by assumption) (fun _ => by assumption) ?_
        rotate_left
        · intro w hSw; (try dsimp only at hSw); go_simp; try with_reducible rfl
        try simp only [Act.put, List.setIfInBounds_toArray, List.set_cons_zero, List.set_cons_succ]
        refine till_take (i := 13) (v := ?_) rfl rfl (by kernel_rfl) (by kernel_rfl) (by kernel_rfl) rfl (fun _ _ _ h => h) (Or.inl ⟨by rfl, ?_⟩) (by assumption) (fun _ => by assumption) ?_
        rotate_left
        · intro w hSw; (try dsimp only at hSw); go_simp; try with_reducible rfl
        try simp only [Act.put, List.setIfInBounds_toArray, List.set_cons_zero, List.set_cons_succ]
        have hgh : w.heap.size ≠ g := fun e => by have := HR0.out.lt; omega
        have hgh1 : w.heap.size + 1 ≠ g := fun e => by have := HR0.out.lt; omega
        have HF6 : Hid (Blk (w5.setCell ⟨g, 6, none⟩ (.slice a6 n6 c6)) 39 w.heap.size _) := HF5.out.other ⟨g, 6, none⟩ hgh _
        have HO6 : Hid (Blk (w5.setCell ⟨g, 6, none⟩ (.slice a6 n6 c6)) 39 (w.heap.size + 1) zeroF) := HO5.out.other ⟨g, 6, none⟩ hgh1 _
        obtain ⟨w6, hw6⟩ : ∃ w6, w5.setCell ⟨g, 6, none⟩ (.slice a6 n6 c6) = w6 := ⟨_, rfl⟩
        rw [hw6] at HT5 HK5 HF6 HO6
        have hT6 : FrC w.heap.size Kd G S E M bl a n0 c er w6 := FrC.of HF6.out
        unfold FrC at hT6
        clear HF5 HO5 hgh hgh1
        refine till_step (i := 14) (by kernel_rfl) rfl (fun K hK => ?_)
        go_simp
        try rw [hw6]
        clear hS5 hF5 hw6
        refine hK.out _ _ (hT6) (fun h => till_no (by kernel_rfl) h) ?_
        clear hK K
        refine till_done (by kernel_rfl) (NoPanic.normal ?_) _
        have CL : Hid (Calls _ _ _ _ _) := rlast_any g (.slice a6 n6 c6) _ (N + 1) (by have := HK.out.2; omega) HOK.out w6 HT5.out
        clear hT6
        go_wp2_with fail
        refine CL.out.mono ?_
        rintro e w7 ⟨rfl, hb7⟩
        have HX := HO6.out.on hb7
        have HT7 : Hid (RlAt w7 g _ _) := HT5.out.on hb7
        have HK7 : Hid (Kept2 g v.ownBlock w w7) := HK5.out.on hb7
        simp only [zeroF] at HX
        clear CL hb7 HT5 HK5 HF6 HO6
        have hla1 : lastL (X.1, X.2.1, X.2.2.1, X.2.2.2 ++ [(La + 1, E, bl)]) = La + 1 := by
          rw [← HLA.out]
          unfold lastL
          simp only [List.length_append, List.length_cons, List.length_nil]
          omega
        rw [hla1]
        clear hla1
        go_wp2_with (with_reducible refine wpList_storeBlk rfl 39 _ _ rfl (w.heap.size + 1) #[.int .i64 0, .int .i64 0, .int .i64 0, .int .i64 0, .int .i64 0, .string ⟨#[]⟩, .slice none 0 0, .int .i64 0] #[.int .i64 2, .int .i64 0, .int .i64 (La + 1), .int .i64 0, .int .i64 0, .string ⟨#[]⟩, .slice none 0 0, .int .i64 0] ?hx ?hy HX rfl ?hi ?h1 ?_)
        try (case hx => rfl)
        try (case hy => rfl)
        try (case hi => kernel_rfl)
        try (case h1 => simp [Value.oneCell'])
        refine bodyPost_row rfl (w.heap.size + 1) #[.int .i64 2, .int .i64 0, .int .i64 (La + 1), .int .i64 0, .int .i64 0, .string ⟨#[]⟩, .slice none 0 0, .int .i64 0] rfl rfl (HX.setRow _) _ Try.underlying39 rfl (by kernel_rfl) (doTo_none rfl rfl (by rw [← HU.out]; exact ⟨_, HT7.out.setRow _ (by have := HR0.out.lt; omega) HN5.out.2 _, HK7.out.setRowNew _ (by omega) _, HN5.out.1⟩))
end Go.Proofs.Ytkmdajenbidaaaa

/- Layer 21, the code: keep. -/
namespace Go.Proofs.Ytkmdajenbidaaaa
open Go.RowKit
set_option maxRecDepth 100000
set_option linter.unusedSimpArgs false
set_option linter.unusedVariables false

theorem RlAt.keptTo {W : World} {g : Nat} {v : Value} {X : RlT} (h : RlAt W g v X) (s : ItT) : RlAt (W.setRow g (rlC g (X.1, X.2.1, s, X.2.2.2) v)) g v (X.1, X.2.1, s, X.2.2.2) :=
  ⟨h.blk.setRow _, owns_same h.own (fun j hj => setRow_other W g j _ (fun e => h.ne (by rw [hj, e]))), h.ne⟩





set_option maxHeartbeats 8000000 in
theorem keep_any (g : Nat) (v : Value) (X : RlT) (N : Nat) (hX : RlOk N X) (hN : N ≤ 4611686018427387000) (F : FrmT) (hF : FrOk F) (a : Option Addr) (c : Nat) (w : World) (h : RlAt w g v X) :
    Calls Try.prog 65 #[.pointer (some ⟨g, 0, none⟩), .agg (frmA F a c)] w (DoTo w g v (keepR X F).1 (keepR X F).2) := by
  have f0 := hF.s0
  have f1 := hF.s1
  have f4 := hF.bl
  unfold keepR
  obtain ⟨Kd, G, S, E, M, bl, it, er⟩ := F
  obtain ⟨n0, hn0⟩ : ∃ n0, it.length = n0 := ⟨_, rfl⟩
  have HR0 : Hid (RlAt w g v X) := h
  have HS' := AdS.new h (frmA (Kd, G, S, E, M, bl, it, er) a c)
  obtain ⟨W0, hW0⟩ : ∃ W0, (w.alloc (.cells (frmA (Kd, G, S, E, M, bl, it, er) a c) 39)).alloc (.cells zeroF 39) = W0 := ⟨_, rfl⟩
  rw [hW0] at HS'
  simp only [frmA, zeroF, hn0] at HS' hW0 ⊢
  have HS : Hid (AdS w g v X #[.int .i64 Kd, .int .i64 G, .int .i64 S, .int .i64 E, .int .i64 M, .string bl, .slice a n0 c, .int .i64 er] W0) := HS'
  clear HS' h
  simp only at f0 f1 f4
  have HN0 : Hid (it.length = n0) := hn0
  have q0 := hX.b0
  have q1 := hX.last
  have q2 := hX.many
  have q3 := hX.bytes
  have q4 := hX.q1
  have HK : Hid (RlOk N X ∧ N ≤ 4611686018427387000) := ⟨hX, hN⟩
  have CB : Hid (∀ p : Beh W0, _) := fun p => rbase_any g v X p.w' (HS.out.rel.on p.h)
  have CLq : Hid (∀ p : Beh W0, _) := fun p => rlast_any g v X N (by omega) hX p.w' (HS.out.rel.on p.h)
  have e2 : ∀ p : Beh W0, p.w'.cell? ⟨w.heap.size, 2, none⟩ = some (.int .i64 S) := fun p => p.cell (HS.out.frm.cell 2)
  obtain ⟨B, hB⟩ : ∃ B, X.2.2.1.1 = B := ⟨_, rfl⟩
  rw [hB] at CB q0 ⊢
  obtain ⟨T, hT⟩ : ∃ T, lastL X = T := ⟨_, rfl⟩
  rw [hT] at CLq q1 ⊢
  have hTn : T = B + (X.2.2.2.length : Int) := by rw [← hT, ← hB]; rfl
  have HB : Hid (X.2.2.1.1 = B ∧ lastL X = T) := ⟨hB, hT⟩
  clear hB hT hX hn0
  by_cases h0 : S ≤ B
  · rw [if_pos (.inl h0)]
    obtain ⟨ER, hER⟩ : ∃ ER : Int, ER = 1 := ⟨_, rfl⟩
    rw [← hER]
    clear hTn q0 q1 q2 q3 q4 f0 f1 f4
    go_enter Try.func65, Try.ntmps65
    go_wp2_with fail
    try rw [hW0]
    have hne_ : Nonempty (Beh W0) := ⟨⟨_, Below.refl _ _⟩⟩
    refine wp_region_quiet_beh (by kernel_rfl) (by kernel_rfl) ?_
    repeat (quiet_step (first | (go_at_call 12; refine Calls.beh_of (CB.out _)) | (go_at_call 11; refine Calls.beh_of (CLq.out _))))
    refine wpQuiet_nil ?_
    intro wq hw_
    obtain ⟨⟨wz_, hbq⟩, hw_⟩ := hw_
    subst hw_
    try dsimp only
    clear hne_
    have HS3 : Hid (AdS w g v X _ wq) := HS.out.on hbq
    clear HS CB CLq hbq hW0 e2
    obtain ⟨w1, hw1⟩ : ∃ w1, wq = w1 := ⟨_, rfl⟩
    rw [hw1] at HS3 ⊢
    have HS1 := HS3
    clear HS3 hw1
    go_wp2_with fail
    rw [← hER]
    clear hER
    refine (refusal_row ER w1).mono ?_
    rintro e w2 ⟨rfl, hb2⟩
    have HS2 : Hid (AdS w g v X _ w2) := HS1.out.on hb2
    have HX := HS2.out.out
    simp only [zeroF] at HX
    clear HS1 hb2
    go_wp2_with (with_reducible refine wpList_storeBlk rfl 39 _ _ rfl (w.heap.size + 1) #[.int .i64 0, .int .i64 0, .int .i64 0, .int .i64 0, .int .i64 0, .string ⟨#[]⟩, .slice none 0 0, .int .i64 0] #[.int .i64 9, .int .i64 0, .int .i64 0, .int .i64 0, .int .i64 0, .string ⟨#[]⟩, .slice none 0 0, .int .i64 ER] ?hx ?hy HX rfl ?hi ?h1 ?_)
    try (case hx => rfl)
    try (case hy => rfl)
    try (case hi => kernel_rfl)
    try (case h1 => simp [Value.oneCell'])
    exact bodyPost_row rfl (w.heap.size + 1) #[.int .i64 9, .int .i64 0, .int .i64 0, .int .i64 0, .int .i64 0, .string ⟨#[]⟩, .slice none 0 0, .int .i64 ER] rfl rfl (HX.setRow _) _ Try.underlying39 rfl (by kernel_rfl) (doTo_none rfl rfl (HS2.out.to HR0.out _))
  · by_cases h1 : T < S
    · rw [if_pos (.inr h1)]
      obtain ⟨ER, hER⟩ : ∃ ER : Int, ER = 1 := ⟨_, rfl⟩
      rw [← hER]
      clear hTn q0 q1 q2 q3 q4 f0 f1 f4
      go_enter Try.func65, Try.ntmps65
      go_wp2_with fail
      try rw [hW0]
      have hne_ : Nonempty (Beh W0) := ⟨⟨_, Below.refl _ _⟩⟩
      refine wp_region_quiet_beh (by kernel_rfl) (by kernel_rfl) ?_
      repeat (quiet_step (first | (go_at_call 12; refine Calls.beh_of (CB.out _)) | (go_at_call 11; refine Calls.beh_of (CLq.out _))))
      refine wpQuiet_nil ?_
      intro wq hw_
      obtain ⟨⟨wz_, hbq⟩, hw_⟩ := hw_
      subst hw_
      try dsimp only
      clear hne_
      have HS3 : Hid (AdS w g v X _ wq) := HS.out.on hbq
      clear HS CB CLq hbq hW0 e2
      obtain ⟨w1, hw1⟩ : ∃ w1, wq = w1 := ⟨_, rfl⟩
      rw [hw1] at HS3 ⊢
      have HS1 := HS3
      clear HS3 hw1
      go_wp2_with fail
      rw [← hER]
      clear hER
      refine (refusal_row ER w1).mono ?_
      rintro e w2 ⟨rfl, hb2⟩
      have HS2 : Hid (AdS w g v X _ w2) := HS1.out.on hb2
      have HX := HS2.out.out
      simp only [zeroF] at HX
      clear HS1 hb2
      go_wp2_with (with_reducible refine wpList_storeBlk rfl 39 _ _ rfl (w.heap.size + 1) #[.int .i64 0, .int .i64 0, .int .i64 0, .int .i64 0, .int .i64 0, .string ⟨#[]⟩, .slice none 0 0, .int .i64 0] #[.int .i64 9, .int .i64 0, .int .i64 0, .int .i64 0, .int .i64 0, .string ⟨#[]⟩, .slice none 0 0, .int .i64 ER] ?hx ?hy HX rfl ?hi ?h1 ?_)
      try (case hx => rfl)
      try (case hy => rfl)
      try (case hi => kernel_rfl)
      try (case h1 => simp [Value.oneCell'])
      exact bodyPost_row rfl (w.heap.size + 1) #[.int .i64 9, .int .i64 0, .int .i64 0, .int .i64 0, .int .i64 0, .string ⟨#[]⟩, .slice none 0 0, .int .i64 ER] rfl rfl (HX.setRow _) _ Try.underlying39 rfl (by kernel_rfl) (doTo_none rfl rfl (HS2.out.to HR0.out _))
    · rw [if_neg (by omega)]
      obtain ⟨k, hk⟩ : ∃ k : Nat, (S - B).toNat = k := ⟨_, rfl⟩
      rw [hk]
      have hSk : S = B + (k : Int) := by omega
      have hkn : k ≤ X.2.2.2.length := by omega
      have hz1 := sizeL_split X.2.2.2 k
      have hzz : sizeL (X.2.2.2.drop k) ≤ 1048576 := by unfold bytesL at q3; omega
      have hgk : (X.2.2.2.drop k).length = X.2.2.2.length - k := List.length_drop ..
      have CA : Hid (∀ W, RlAt W g v X → _) := fun W hW => above_any g v X N HK.out.1 (by have := HK.out.2; omega) k hkn S (by rw [HB.out.1]; exact hSk) W hW
      have HZ : Hid (sizeL (X.2.2.2.drop k) ≤ 4611686018427387904 ∧ X.2.2.2.length - k ≤ 1048576) := ⟨by omega, by omega⟩
      obtain ⟨z, hz⟩ : ∃ z, sizeL (X.2.2.2.drop k) = z := ⟨_, rfl⟩
      rw [hz] at hzz ⊢
      have HZZ : Hid (sizeL (X.2.2.2.drop k) = z) := hz
      have hwz : IntKind.i64.wrap ((z : Int) + (bl.size : Int)) = (z : Int) + (bl.size : Int) := by rw [IntKind.wrap_i64]; omega
      obtain ⟨U, hU⟩ : ∃ U, X.2.1 = U := ⟨_, rfl⟩
      rw [hU] at q3 q4 ⊢
      have HU : Hid (X.2.1 = U) := hU
      have hwk : IntKind.i64.wrap (S - B) = (k : Int) := by rw [IntKind.wrap_i64]; omega
      have HKN : Hid (k ≤ X.2.2.2.length ∧ X.2.2.2.length ≤ 60000) := ⟨hkn, by omega⟩
      have HBL : Hid (bl.size ≤ 281474976710656) := by show _ ≤ _; omega
      have HOK : Hid (∀ s : ItT, True) := fun _ => trivial
      obtain ⟨aa, cc, hv, _, _, _⟩ := HR0.out.own.rows
      obtain ⟨n, hn⟩ : ∃ n, X.2.2.2.length = n := ⟨_, rfl⟩
      have HV : Hid (v = .slice aa n cc) := by show _ = _; rw [← hn]; exact hv
      clear hv hn HOK
      clear hTn q0 q1 q2 q3 q4 f0 f1 f4 hk hSk hkn hz1 hzz hgk hz hU
      by_cases h2 : U < (z : Int) + (bl.size : Int)
      · rw [if_pos h2]
        obtain ⟨ER, hER⟩ : ∃ ER : Int, ER = 211 := ⟨_, rfl⟩
        rw [← hER]
        go_enter Try.func65, Try.ntmps65
        go_wp2_with fail
        try rw [hW0]
        have hne_ : Nonempty (Beh W0) := ⟨⟨_, Below.refl _ _⟩⟩
        refine wp_region_quiet_beh (by kernel_rfl) (by kernel_rfl) ?_
        repeat (quiet_step (first | (go_at_call 12; refine Calls.beh_of (CB.out _)) | (go_at_call 11; refine Calls.beh_of (CLq.out _))))
        refine wpQuiet_nil ?_
        intro wq hw_
        obtain ⟨⟨wz_, hbq⟩, hw_⟩ := hw_
        subst hw_
        try dsimp only
        clear hne_
        have HS3 : Hid (AdS w g v X _ wq) := HS.out.on hbq
        clear HS CB CLq hbq hW0 e2
        obtain ⟨w1, hw1⟩ : ∃ w1, wq = w1 := ⟨_, rfl⟩
        rw [hw1] at HS3 ⊢
        have HS1 := HS3
        clear HS3 hw1
        go_wp2_with fail
        have hS1 : w1.drew.cell? ⟨w.heap.size, 2, none⟩ = some (.int .i64 S) ∧ w1.drew.cell? ⟨w.heap.size, 5, none⟩ = some (.string bl) ∧ w1.drew.cell? ⟨g, 2, none⟩ = some (.int .i64 U) := ⟨HS1.out.frm.cell 2, HS1.out.frm.cell 5, by rw [← HU.out]; exact HS1.out.rel.blk.cell 2⟩
        refine wp_region_noPanic ?_
        refine wp_region_held_drew (S := fun W => W.cell? ⟨w.heap.size, 2, none⟩ = some (.int .i64 S) ∧ W.cell? ⟨w.heap.size, 5, none⟩ = some (.string bl) ∧ W.cell? ⟨g, 2, none⟩ = some (.int .i64 U)) (by kernel_rfl) (by first | exact trivial | assumption | exact ⟨by assumption, by assumption⟩) (fun hHeld => ?_)
        refine take_at (i := 0) (v := ?_) rfl rfl (by kernel_rfl) (by kernel_rfl) (by kernel_rfl) (fun _ _ _ h => h) (Or.inl ⟨by rfl, ?_⟩) (by assumption) ?_
        rotate_left
        · intro w hSw; (try dsimp only at hSw); go_simp; try with_reducible rfl
        try simp only [Act.put, List.setIfInBounds_toArray, List.set_cons_zero, List.set_cons_succ]
        refine take_at (i := 1) (v := ?_) rfl rfl (by kernel_rfl) (by kernel_rfl) (by kernel_rfl) (fun _ _ _ h => h) (Or.inl ⟨by rfl, ?_⟩) (by assumption) ?_
        rotate_left
        · intro w hSw; (try dsimp only at hSw); go_simp; try with_reducible rfl
        try simp only [Act.put, List.setIfInBounds_toArray, List.set_cons_zero, List.set_cons_succ]
        refine take_at (i := 2) (v := ?_) rfl rfl (by kernel_rfl) (by kernel_rfl) (by kernel_rfl) (fun _ _ _ h => h) (Or.inl ⟨by rfl, ?_⟩) (by assumption) ?_
        rotate_left
        · intro w hSw; (try dsimp only at hSw); go_simp; try with_reducible rfl
        try simp only [Act.put, List.setIfInBounds_toArray, List.set_cons_zero, List.set_cons_succ]
        refine take_at (i := 5) (v := ?_) rfl rfl (by kernel_rfl) (by kernel_rfl) (by kernel_rfl) (fun _ _ _ h => h) (Or.inl ⟨by rfl, ?_⟩) (by assumption) ?_
        rotate_left
        · intro w hSw; (try dsimp only at hSw); go_simp; try with_reducible rfl
        try simp only [Act.put, List.setIfInBounds_toArray, List.set_cons_zero, List.set_cons_succ]
        refine take_at (i := 6) (v := ?_) rfl rfl (by kernel_rfl) (by kernel_rfl) (by kernel_rfl) (fun _ _ _ h => h) (Or.inl ⟨by rfl, ?_⟩) (by assumption) ?_
        rotate_left
        · intro w hSw; (try dsimp only at hSw); go_simp; try with_reducible rfl
        try simp only [Act.put, List.setIfInBounds_toArray, List.set_cons_zero, List.set_cons_succ]
        refine take_at (i := 7) (v := ?_) rfl rfl (by kernel_rfl) (by kernel_rfl) (by kernel_rfl) (fun _ _ _ h => h) (Or.inl ⟨by rfl, ?_⟩) (by assumption) ?_
        rotate_left
        · intro w hSw; (try dsimp only at hSw); go_simp; try with_reducible rfl
        try simp only [Act.put, List.setIfInBounds_toArray, List.set_cons_zero, List.set_cons_succ]
        refine take_at (i := 9) (v := ?_) rfl rfl (by kernel_rfl) (by kernel_rfl) (by kernel_rfl) (fun _ _ _ h => h) (Or.inl ⟨by rfl, ?_⟩) (by assumption) ?_
        rotate_left
        · intro w hSw; (try dsimp only at hSw); go_simp; try with_reducible rfl
        try simp only [Act.put, List.setIfInBounds_toArray, List.set_cons_zero, List.set_cons_succ]
        refine take_at (i := 10) (v := ?_) rfl rfl (by kernel_rfl) (by kernel_rfl) (by kernel_rfl) (fun _ _ _ h => h) (Or.inl ⟨by rfl, ?_⟩) (by assumption) ?_
        rotate_left
        · intro w hSw; (try dsimp only at hSw); go_simp; try with_reducible rfl
        try simp only [Act.put, List.setIfInBounds_toArray, List.set_cons_zero, List.set_cons_succ]
        refine take_at (i := 11) (v := ?_) rfl rfl (by kernel_rfl) (by kernel_rfl) (by kernel_rfl) (fun _ _ _ h => h) (Or.inl ⟨by rfl, ?_⟩) (by assumption) ?_
        rotate_left
        · intro w hSw; (try dsimp only at hSw); go_simp; try with_reducible rfl
        try simp only [Act.put, List.setIfInBounds_toArray, List.set_cons_zero, List.set_cons_succ]
        refine take_at (i := 12) (v := ?_) rfl rfl (by kernel_rfl) (by kernel_rfl) (by kernel_rfl) (fun _ _ _ h => h) (Or.inl ⟨by rfl, ?_⟩) (by assumption) ?_
        rotate_left
        · intro w hSw; (try dsimp only at hSw); go_simp; try with_reducible rfl
        try simp only [Act.put, List.setIfInBounds_toArray, List.set_cons_zero, List.set_cons_succ]
        refine wpAnyH_ready (rs := [3]) (by kernel_rfl) (by simp) ?_
        refine AllReadyH.cons rfl (fun K hK => ?_) AllReadyH.nil
        go_simp
        refine (CA.out _ (HS1.out.on (Below.refl _ _).drew).rel).mono ?_
        rintro e w2 ⟨a4, c4, rfl, ⟨hc4, hc5⟩, hi4, hl4, hb2⟩
        have HS2 : Hid (AdS w g v X _ w2) := (HS1.out.on (Below.refl _ _).drew).on hb2
        have hS2 : w2.cell? ⟨w.heap.size, 2, none⟩ = some (.int .i64 S) ∧ w2.cell? ⟨w.heap.size, 5, none⟩ = some (.string bl) ∧ w2.cell? ⟨g, 2, none⟩ = some (.int .i64 U) := ⟨HS2.out.frm.cell 2, HS2.out.frm.cell 5, by rw [← HU.out]; exact HS2.out.rel.blk.cell 2⟩
        have CS' := rsize_any (X.2.2.2.drop k) a4 (X.2.2.2.length - k) c4 w2 hi4 HZ.out.2 HZ.out.1
        rw [HZZ.out] at CS'
        have CS : Hid (Calls _ _ _ _ _) := CS'
        clear HS1 hb2 hS1 CA hi4 hl4 hc4 hc5 CS'
        refine hK.out _ _ hS2 (fun hHeld => ?_)
        clear hK K
        refine wpAnyH_ready (rs := [4]) (by kernel_rfl) (by simp) ?_
        refine AllReadyH.cons rfl (fun K hK => ?_) AllReadyH.nil
        go_simp
        refine CS.out.mono ?_
        rintro e w3 ⟨rfl, hb3⟩
        have HS3 : Hid (AdS w g v X _ w3) := HS2.out.on hb3
        have hS3 : w3.cell? ⟨w.heap.size, 2, none⟩ = some (.int .i64 S) ∧ w3.cell? ⟨w.heap.size, 5, none⟩ = some (.string bl) ∧ w3.cell? ⟨g, 2, none⟩ = some (.int .i64 U) := ⟨HS3.out.frm.cell 2, HS3.out.frm.cell 5, by rw [← HU.out]; exact HS3.out.rel.blk.cell 2⟩
        clear HS2 hb3 hS2 CS
        refine hK.out _ _ hS3 (fun hHeld => ?_)
        clear hK K
        refine take_at (i := 8) (v := ?_) rfl rfl (by kernel_rfl) (by kernel_rfl) (by kernel_rfl) (fun _ _ _ h => h) (Or.inl ⟨by rfl, ?_⟩) (by assumption) ?_
        rotate_left
        · intro w hSw; (try dsimp only at hSw); go_simp; try with_reducible rfl
        try simp only [Act.put, List.setIfInBounds_toArray, List.set_cons_zero, List.set_cons_succ]
        refine take_at (i := 13) (v := ?_) rfl rfl (by kernel_rfl) (by kernel_rfl) (by kernel_rfl) (fun _ _ _ h => h) (Or.inl ⟨by rfl, ?_⟩) (by assumption) ?_
        rotate_left
        · intro w hSw; (try dsimp only at hSw); go_simp; try with_reducible rfl
        try simp only [Act.put, List.setIfInBounds_toArray, List.set_cons_zero, List.set_cons_succ]
        refine wpAnyH_done (by kernel_rfl) (NoPanic.normal ?_) _
        clear hS3
        go_wp2_with fail
        rw [← hER]
        clear hER
        have HS1 := HS3
        clear HS3
        obtain ⟨w1, hw1⟩ : ∃ w1, w3 = w1 := ⟨_, rfl⟩
        rw [hw1] at HS1 ⊢
        clear hw1
        refine (refusal_row ER w1).mono ?_
        rintro e w2 ⟨rfl, hb2⟩
        have HS2 : Hid (AdS w g v X _ w2) := HS1.out.on hb2
        have HX := HS2.out.out
        simp only [zeroF] at HX
        clear HS1 hb2
        go_wp2_with (with_reducible refine wpList_storeBlk rfl 39 _ _ rfl (w.heap.size + 1) #[.int .i64 0, .int .i64 0, .int .i64 0, .int .i64 0, .int .i64 0, .string ⟨#[]⟩, .slice none 0 0, .int .i64 0] #[.int .i64 9, .int .i64 0, .int .i64 0, .int .i64 0, .int .i64 0, .string ⟨#[]⟩, .slice none 0 0, .int .i64 ER] ?hx ?hy HX rfl ?hi ?h1 ?_)
        try (case hx => rfl)
        try (case hy => rfl)
        try (case hi => kernel_rfl)
        try (case h1 => simp [Value.oneCell'])
        exact bodyPost_row rfl (w.heap.size + 1) #[.int .i64 9, .int .i64 0, .int .i64 0, .int .i64 0, .int .i64 0, .string ⟨#[]⟩, .slice none 0 0, .int .i64 ER] rfl rfl (HX.setRow _) _ Try.underlying39 rfl (by kernel_rfl) (doTo_none rfl rfl (HS2.out.to HR0.out _))
      · rw [if_neg h2]
        go_enter Try.func65, Try.ntmps65
        go_wp2_with fail
        try rw [hW0]
        have hne_ : Nonempty (Beh W0) := ⟨⟨_, Below.refl _ _⟩⟩
        refine wp_region_quiet_beh (by kernel_rfl) (by kernel_rfl) ?_
        repeat (quiet_step (first | (go_at_call 12; refine Calls.beh_of (CB.out _)) | (go_at_call 11; refine Calls.beh_of (CLq.out _))))
        refine wpQuiet_nil ?_
        intro wq hw_
        obtain ⟨⟨wz_, hbq⟩, hw_⟩ := hw_
        subst hw_
        try dsimp only
        clear hne_
        have HS3 : Hid (AdS w g v X _ wq) := HS.out.on hbq
        clear HS CB CLq hbq hW0 e2
        obtain ⟨w1, hw1⟩ : ∃ w1, wq = w1 := ⟨_, rfl⟩
        rw [hw1] at HS3 ⊢
        have HS1 := HS3
        clear HS3 hw1
        go_wp2_with fail
        have hS1 : w1.drew.cell? ⟨w.heap.size, 2, none⟩ = some (.int .i64 S) ∧ w1.drew.cell? ⟨w.heap.size, 5, none⟩ = some (.string bl) ∧ w1.drew.cell? ⟨g, 2, none⟩ = some (.int .i64 U) := ⟨HS1.out.frm.cell 2, HS1.out.frm.cell 5, by rw [← HU.out]; exact HS1.out.rel.blk.cell 2⟩
        refine wp_region_noPanic ?_
        refine wp_region_held_drew (S := fun W => W.cell? ⟨w.heap.size, 2, none⟩ = some (.int .i64 S) ∧ W.cell? ⟨w.heap.size, 5, none⟩ = some (.string bl) ∧ W.cell? ⟨g, 2, none⟩ = some (.int .i64 U)) (by kernel_rfl) (by first | exact trivial | assumption | exact ⟨by assumption, by assumption⟩) (fun hHeld => ?_)
        refine take_at (i := 0) (v := ?_) rfl rfl (by kernel_rfl) (by kernel_rfl) (by kernel_rfl) (fun _ _ _ h => h) (Or.inl ⟨by rfl, ?_⟩) (by assumption) ?_
        rotate_left
        · intro w hSw; (try dsimp only at hSw); go_simp; try with_reducible rfl
        try simp only [Act.put, List.setIfInBounds_toArray, List.set_cons_zero, List.set_cons_succ]
        refine take_at (i := 1) (v := ?_) rfl rfl (by kernel_rfl) (by kernel_rfl) (by kernel_rfl) (fun _ _ _ h => h) (Or.inl ⟨by rfl, ?_⟩) (by assumption) ?_
        rotate_left
        · intro w hSw; (try dsimp only at hSw); go_simp; try with_reducible rfl
        try simp only [Act.put, List.setIfInBounds_toArray, List.set_cons_zero, List.set_cons_succ]
        refine take_at (i := 2) (v := ?_) rfl rfl (by kernel_rfl) (by kernel_rfl) (by kernel_rfl) (fun _ _ _ h => h) (Or.inl ⟨by rfl, ?_⟩) (by assumption) ?_
        rotate_left
        · intro w hSw; (try dsimp only at hSw); go_simp; try with_reducible rfl
        try simp only [Act.put, List.setIfInBounds_toArray, List.set_cons_zero, List.set_cons_succ]
        refine take_at (i := 5) (v := ?_) rfl rfl (by kernel_rfl) (by kernel_rfl) (by kernel_rfl) (fun _ _ _ h => h) (Or.inl ⟨by rfl, ?_⟩) (by assumption) ?_
        rotate_left
        · intro w hSw; (try dsimp only at hSw); go_simp; try with_reducible rfl
        try simp only [Act.put, List.setIfInBounds_toArray, List.set_cons_zero, List.set_cons_succ]
        refine take_at (i := 6) (v := ?_) rfl rfl (by kernel_rfl) (by kernel_rfl) (by kernel_rfl) (fun _ _ _ h => h) (Or.inl ⟨by rfl, ?_⟩) (by assumption) ?_
        rotate_left
        · intro w hSw; (try dsimp only at hSw); go_simp; try with_reducible rfl
        try simp only [Act.put, List.setIfInBounds_toArray, List.set_cons_zero, List.set_cons_succ]
        refine take_at (i := 7) (v := ?_) rfl rfl (by kernel_rfl) (by kernel_rfl) (by kernel_rfl) (fun _ _ _ h => h) (Or.inl ⟨by rfl, ?_⟩) (by assumption) ?_
        rotate_left
        · intro w hSw; (try dsimp only at hSw); go_simp; try with_reducible rfl
        try simp only [Act.put, List.setIfInBounds_toArray, List.set_cons_zero, List.set_cons_succ]
        refine take_at (i := 9) (v := ?_) rfl rfl (by kernel_rfl) (by kernel_rfl) (by kernel_rfl) (fun _ _ _ h => h) (Or.inl ⟨by rfl, ?_⟩) (by assumption) ?_
        rotate_left
        · intro w hSw; (try dsimp only at hSw); go_simp; try with_reducible rfl
        try simp only [Act.put, List.setIfInBounds_toArray, List.set_cons_zero, List.set_cons_succ]
        refine take_at (i := 10) (v := ?_) rfl rfl (by kernel_rfl) (by kernel_rfl) (by kernel_rfl) (fun _ _ _ h => h) (Or.inl ⟨by rfl, ?_⟩) (by assumption) ?_
        rotate_left
        · intro w hSw; (try dsimp only at hSw); go_simp; try with_reducible rfl
        try simp only [Act.put, List.setIfInBounds_toArray, List.set_cons_zero, List.set_cons_succ]
        refine take_at (i := 11) (v := ?_) rfl rfl (by kernel_rfl) (by kernel_rfl) (by kernel_rfl) (fun _ _ _ h => h) (Or.inl ⟨by rfl, ?_⟩) (by assumption) ?_
        rotate_left
        · intro w hSw; (try dsimp only at hSw); go_simp; try with_reducible rfl
        try simp only [Act.put, List.setIfInBounds_toArray, List.set_cons_zero, List.set_cons_succ]
        refine take_at (i := 12) (v := ?_) rfl rfl (by kernel_rfl) (by kernel_rfl) (by kernel_rfl) (fun _ _ _ h => h) (Or.inl ⟨by rfl, ?_⟩) (by assumption) ?_
        rotate_left
        · intro w hSw; (try dsimp only at hSw); go_simp; try with_reducible rfl
        try simp only [Act.put, List.setIfInBounds_toArray, List.set_cons_zero, List.set_cons_succ]
        refine wpAnyH_ready (rs := [3]) (by kernel_rfl) (by simp) ?_
        refine AllReadyH.cons rfl (fun K hK => ?_) AllReadyH.nil
        go_simp
        refine (CA.out _ (HS1.out.on (Below.refl _ _).drew).rel).mono ?_
        rintro e w2 ⟨a4, c4, rfl, ⟨hc4, hc5⟩, hi4, hl4, hb2⟩
        have HS2 : Hid (AdS w g v X _ w2) := (HS1.out.on (Below.refl _ _).drew).on hb2
        have hS2 : w2.cell? ⟨w.heap.size, 2, none⟩ = some (.int .i64 S) ∧ w2.cell? ⟨w.heap.size, 5, none⟩ = some (.string bl) ∧ w2.cell? ⟨g, 2, none⟩ = some (.int .i64 U) := ⟨HS2.out.frm.cell 2, HS2.out.frm.cell 5, by rw [← HU.out]; exact HS2.out.rel.blk.cell 2⟩
        have CS' := rsize_any (X.2.2.2.drop k) a4 (X.2.2.2.length - k) c4 w2 hi4 HZ.out.2 HZ.out.1
        rw [HZZ.out] at CS'
        have CS : Hid (Calls _ _ _ _ _) := CS'
        clear HS1 hb2 hS1 CA hi4 hl4 hc4 hc5 CS'
        refine hK.out _ _ hS2 (fun hHeld => ?_)
        clear hK K
        refine wpAnyH_ready (rs := [4]) (by kernel_rfl) (by simp) ?_
        refine AllReadyH.cons rfl (fun K hK => ?_) AllReadyH.nil
        go_simp
        refine CS.out.mono ?_
        rintro e w3 ⟨rfl, hb3⟩
        have HS3 : Hid (AdS w g v X _ w3) := HS2.out.on hb3
        have hS3 : w3.cell? ⟨w.heap.size, 2, none⟩ = some (.int .i64 S) ∧ w3.cell? ⟨w.heap.size, 5, none⟩ = some (.string bl) ∧ w3.cell? ⟨g, 2, none⟩ = some (.int .i64 U) := ⟨HS3.out.frm.cell 2, HS3.out.frm.cell 5, by rw [← HU.out]; exact HS3.out.rel.blk.cell 2⟩
        clear HS2 hb3 hS2 CS
        refine hK.out _ _ hS3 (fun hHeld => ?_)
        clear hK K
        refine take_at (i := 8) (v := ?_) rfl rfl (by kernel_rfl) (by kernel_rfl) (by kernel_rfl) (fun _ _ _ h => h) (Or.inl ⟨by rfl, ?_⟩) (by assumption) ?_
        rotate_left
        · intro w hSw; (try dsimp only at hSw); go_simp; try with_reducible rfl
        try simp only [Act.put, List.setIfInBounds_toArray, List.set_cons_zero, List.set_cons_succ]
        refine take_at (i := 13) (v := ?_) rfl rfl (by kernel_rfl) (by kernel_rfl) (by kernel_rfl) (fun _ _ _ h => h) (Or.inl ⟨by rfl, ?_⟩) (by assumption) ?_
        rotate_left
        · intro w hSw; (try dsimp only at hSw); go_simp; try with_reducible rfl
        try simp only [Act.put, List.setIfInBounds_toArray, List.set_cons_zero, List.set_cons_succ]
        refine wpAnyH_done (by kernel_rfl) (NoPanic.normal ?_) _
        clear hS3
        go_wp2_with fail
        have CB : Hid (∀ W, RlAt W g v X → Calls Try.prog 12 #[.pointer (some ⟨g, 0, none⟩)] W fun e w' => e = .returned (.int .i64 B) ∧ Below W.heap.size W w') := fun W hW => by rw [← HB.out.1]; exact rbase_any g v X W hW
        have hS : w3.drew.cell? ⟨g, 6, none⟩ = some (.slice aa n cc) := by have := (HS3.out.on (Below.refl _ _).drew).rel.blk.cell 6; rw [this, ← HV.out]; rfl
        have hT : w3.drew.cell? ⟨w.heap.size, 2, none⟩ = some (.int .i64 S) := (HS3.out.on (Below.refl _ _).drew).frm.cell 2
        refine wp_region_noPanic ?_
        refine till_begin 13 (fun W => W.cell? ⟨g, 6, none⟩ = some (.slice aa n cc)) (fun W => W.cell? ⟨w.heap.size, 2, none⟩ = some (.int .i64 S)) (by kernel_rfl) ?_
        refine till_take (i := 0) (v := ?_) rfl rfl (by kernel_rfl) (by kernel_rfl) (by kernel_rfl) rfl (fun _ _ _ h => h) (Or.inl ⟨by rfl, ?_⟩) (by assumption) (fun _ => by assumption) ?_
        rotate_left
        · intro w hSw; (try dsimp only at hSw); go_simp; try with_reducible rfl
        try simp only [Act.put, List.setIfInBounds_toArray, List.set_cons_zero, List.set_cons_succ]
        refine till_take (i := 1) (v := ?_) rfl rfl (by kernel_rfl) (by kernel_rfl) (by kernel_rfl) rfl (fun _ _ _ h => h) (Or.inl ⟨by rfl, ?_⟩) (by assumption) (fun _ => by assumption) ?_
        rotate_left
        · intro w hSw; (try dsimp only at hSw); go_simp; try with_reducible rfl
        try simp only [Act.put, List.setIfInBounds_toArray, List.set_cons_zero, List.set_cons_succ]
        refine till_take (i := 2) (v := ?_) rfl rfl (by kernel_rfl) (by kernel_rfl) (by kernel_rfl) rfl (fun _ _ _ h => h) (Or.inl ⟨by rfl, ?_⟩) (by assumption) (fun _ => by assumption) ?_
        rotate_left
        · intro w hSw; (try dsimp only at hSw); go_simp; try with_reducible rfl
        try simp only [Act.put, List.setIfInBounds_toArray, List.set_cons_zero, List.set_cons_succ]
        refine till_take (i := 3) (v := ?_) rfl rfl (by kernel_rfl) (by kernel_rfl) (by kernel_rfl) rfl (fun _ _ _ h => h) (Or.inl ⟨by rfl, ?_⟩) (by assumption) (fun _ => by assumption) ?_
        rotate_left
        · intro w hSw; (try dsimp only at hSw); go_simp; try with_reducible rfl
        try simp only [Act.put, List.setIfInBounds_toArray, List.set_cons_zero, List.set_cons_succ]
        refine till_take' (i := 4) (v := ?_) rfl rfl (by kernel_rfl) (by kernel_rfl) (by kernel_rfl) rfl (by kernel_rfl) (by kernel_rfl) (fun _ _ _ h => h) (Or.inl ⟨by rfl, ?_⟩) (by assumption) (by assumption) ?_
        rotate_left
        · intro w hSw; (try dsimp only at hSw); go_simp; try with_reducible rfl
        try simp only [Act.put, List.setIfInBounds_toArray, List.set_cons_zero, List.set_cons_succ]
        refine till_take (i := 5) (v := ?_) rfl rfl (by kernel_rfl) (by kernel_rfl) (by kernel_rfl) rfl (fun _ _ _ h => h) (Or.inl ⟨by rfl, ?_⟩) (by assumption) (fun _ => by assumption) ?_
        rotate_left
        · intro w hSw; (try dsimp only at hSw); go_simp; try with_reducible rfl
        try simp only [Act.put, List.setIfInBounds_toArray, List.set_cons_zero, List.set_cons_succ]
        refine till_take (i := 6) (v := ?_) rfl rfl (by kernel_rfl) (by kernel_rfl) (by kernel_rfl) rfl (fun _ _ _ h => h) (Or.inl ⟨by rfl, ?_⟩) (by assumption) (fun _ => by assumption) ?_
        rotate_left
        · intro w hSw; (try dsimp only at hSw); go_simp; try with_reducible rfl
        try simp only [Act.put, List.setIfInBounds_toArray, List.set_cons_zero, List.set_cons_succ]
        refine till_take (i := 7) (v := ?_) rfl rfl (by kernel_rfl) (by kernel_rfl) (by kernel_rfl) rfl (fun _ _ _ h => h) (Or.inl ⟨by rfl, ?_⟩) (by assumption) (fun _ => by assumption) ?_
        rotate_left
        · intro w hSw; (try dsimp only at hSw); go_simp; try with_reducible rfl
        try simp only [Act.put, List.setIfInBounds_toArray, List.set_cons_zero, List.set_cons_succ]
        refine till_step (i := 8) (by kernel_rfl) rfl (fun K hK => ?_)
        go_simp
        refine (CB.out _ (HS3.out.on (Below.refl _ _).drew).rel).mono ?_
        rintro e w4 ⟨rfl, hb4⟩
        have HS4 : Hid (AdS w g v X _ w4) := (HS3.out.on (Below.refl _ _).drew).on hb4
        have hT4 : w4.cell? ⟨w.heap.size, 2, none⟩ = some (.int .i64 S) := HS4.out.frm.cell 2
        have hS4 : w4.cell? ⟨g, 6, none⟩ = some (.slice aa n cc) := by have := HS4.out.rel.blk.cell 6; rw [this, ← HV.out]; rfl
        clear HS3 hb4 hT hS CB
        refine hK.out _ _ hT4 (fun _ => hS4) ?_
        clear hK
        refine till_take (i := 9) (v := ?_) rfl rfl (by kernel_rfl) (by kernel_rfl) (by kernel_rfl) rfl (fun _ _ _ h => h) (Or.inl ⟨by rfl, ?_⟩) (by assumption) (fun _ => by assumption) ?_
        rotate_left
        · intro w hSw; (try dsimp only at hSw); go_simp; try with_reducible rfl
        try simp only [Act.put, List.setIfInBounds_toArray, List.set_cons_zero, List.set_cons_succ]
        have CD' := deleteI_any X.2.2.2 k HKN.out.1 v w4 HS4.out.rel.own HKN.out.2
        rw [HV.out] at CD'
        have CD : Hid (Calls _ _ _ _ _) := CD'
        clear CD'
        refine till_step (i := 10) (by kernel_rfl) rfl (fun K hK => ?_)
        go_simp
        refine CD.out.mono ?_
        rintro e w5 ⟨v', rfl, ho5, hg5', he5⟩
        have hg5 : w4.grownBy w5 v.ownBlock := by rw [HV.out]; exact hg5'
        have hn5 : Nx w4 v.ownBlock v'.ownBlock := fun k hk => .inl (by rw [HV.out, ← he5]; exact hk)
        obtain ⟨a6, c6, hv6, _, _, _⟩ := ho5.rows
        obtain ⟨n6, hn6⟩ : ∃ n6, (X.2.2.2.drop k).length = n6 := ⟨_, rfl⟩
        rw [hn6] at hv6
        subst hv6
        clear hn6 CD hg5' he5
        have hfr : v.ownBlock ≠ some w.heap.size := fun e => by have := (World.ownsRow.lt HR0.out.own _ e).2; omega
        have hfo : v.ownBlock ≠ some (w.heap.size + 1) := fun e => by have := (World.ownsRow.lt HR0.out.own _ e).2; omega
        have hG5 : Blk w5 51 g (rlC g X v) := HS4.out.rel.blk.grown hg5 (fun e => HR0.out.ne e.symm)
        have HF5 : Hid (Blk w5 39 w.heap.size _) := HS4.out.frm.grown hg5 (fun e => hfr e.symm)
        have HO5 : Hid (Blk w5 39 (w.heap.size + 1) zeroF) := HS4.out.out.grown hg5 (fun e => hfo e.symm)
        have HT5 : Hid (RlAt (w5.setCell ⟨g, 6, none⟩ (.slice a6 n6 c6)) g (.slice a6 n6 c6) (X.1, X.2.1, X.2.2.1, X.2.2.2.drop k)) := HS4.out.rel.turn hg5 ho5 hn5
        have HK5 : Hid (Kept2 g v.ownBlock w (w5.setCell ⟨g, 6, none⟩ (.slice a6 n6 c6))) := Kept2.behind HS4.out.bel ((Kept2.ofGrown g hg5).setCell ⟨g, 6, none⟩ rfl _)
        have HN5 : Hid (Nx w v.ownBlock (Value.slice a6 n6 c6).ownBlock ∧ (Value.slice a6 n6 c6).ownBlock ≠ some (w.heap.size + 1)) := ⟨fun k hk => (hn5 k hk).imp id (fun e => Nat.le_trans HS4.out.bel.size e), fun e => by
          rcases hn5 _ e with e1 | e1
          · exact hfo e1
          · have := HS4.out.out.lt; omega⟩
        have hT5 : w5.cell? ⟨w.heap.size, 2, none⟩ = some (.int .i64 S) := HF5.out.cell 2
        have hS5 : w5.cell? ⟨g, 6, none⟩ = some (.slice aa n cc) := by have := hG5.cell 6; rw [this, ← HV.out]; rfl
        have hF5 : w5.frozen? ⟨g, 6, none⟩ = false := hG5.free 6
        clear hT4 hS4 ho5 hg5 hn5 hfr hfo hG5 HS4
        refine hK.out _ _ hT5 (fun _ => hS5) ?_
        clear hK
        refine till_take (i := 11) (v := ?_) rfl rfl (by kernel_rfl) (by kernel_rfl) (by kernel_rfl) rfl (fun _ _ _ h => h) (Or.inl ⟨by rfl, ?_⟩) (by assumption) (fun _ => by assumption) ?_
        rotate_left
        · intro w hSw; (try dsimp only at hSw); go_simp; try with_reducible rfl
        try simp only [Act.put, List.setIfInBounds_toArray, List.set_cons_zero, List.set_cons_succ]
        refine till_take (i := 12) (v := ?_) rfl rfl (by kernel_rfl) (by kernel_rfl) (by kernel_rfl) rfl (fun _ _ _ h => h) (Or.inl ⟨by rfl, ?_⟩) (by assumption) (fun _ => by assumption) ?_
        rotate_left
        · intro w hSw; (try dsimp only at hSw); go_simp; try with_reducible rfl
        try simp only [Act.put, List.setIfInBounds_toArray, List.set_cons_zero, List.set_cons_succ]
        have hgh : w.heap.size ≠ g := fun e => by have := HR0.out.lt; omega
        have hgh1 : w.heap.size + 1 ≠ g := fun e => by have := HR0.out.lt; omega
        have HF6 : Hid (Blk (w5.setCell ⟨g, 6, none⟩ (.slice a6 n6 c6)) 39 w.heap.size _) := HF5.out.other ⟨g, 6, none⟩ hgh _
        have HO6 : Hid (Blk (w5.setCell ⟨g, 6, none⟩ (.slice a6 n6 c6)) 39 (w.heap.size + 1) zeroF) := HO5.out.other ⟨g, 6, none⟩ hgh1 _
        obtain ⟨w6, hw6⟩ : ∃ w6, w5.setCell ⟨g, 6, none⟩ (.slice a6 n6 c6) = w6 := ⟨_, rfl⟩
        rw [hw6] at HT5 HK5 HF6 HO6
        have hT6 : w6.cell? ⟨w.heap.size, 2, none⟩ = some (.int .i64 S) := HF6.out.cell 2
        clear HF5 HO5
        refine till_step (i := 13) (by kernel_rfl) rfl (fun K hK => ?_)
        go_simp
        try rw [hw6]
        clear hS5 hF5 hw6
        refine hK.out _ _ (hT6) (fun h => till_no (by kernel_rfl) h) ?_
        clear hK K
        refine till_done (by kernel_rfl) (NoPanic.normal ?_) _
        have CT' := itemOf_any (Kd, G, S, E, M, bl, it, er) a c S w6 HBL.out
        simp only [frmA, itemA, HN0.out] at CT'
        have CT : Hid (Calls _ _ _ _ _) := CT'
        have d0 : w6.cell? ⟨w.heap.size, 0, none⟩ = some (.int .i64 Kd) := HF6.out.cell 0
        have d1 : w6.cell? ⟨w.heap.size, 1, none⟩ = some (.int .i64 G) := HF6.out.cell 1
        have d3 : w6.cell? ⟨w.heap.size, 3, none⟩ = some (.int .i64 E) := HF6.out.cell 3
        have d4 : w6.cell? ⟨w.heap.size, 4, none⟩ = some (.int .i64 M) := HF6.out.cell 4
        have d5 : w6.cell? ⟨w.heap.size, 5, none⟩ = some (.string bl) := HF6.out.cell 5
        have d6 : w6.cell? ⟨w.heap.size, 6, none⟩ = some (.slice a n0 c) := HF6.out.cell 6
        have d7 : w6.cell? ⟨w.heap.size, 7, none⟩ = some (.int .i64 er) := HF6.out.cell 7
        clear CT'
        go_wp2_with fail
        refine CT.out.mono ?_
        rintro e w7 ⟨rfl, hb7⟩
        have HF7 : Hid (Blk w7 39 w.heap.size _) := HF6.out.on hb7
        have HO7 : Hid (Blk w7 39 (w.heap.size + 1) zeroF) := HO6.out.on hb7
        have HT7 : Hid (RlAt w7 g _ _) := HT5.out.on hb7
        have HK7 : Hid (Kept2 g v.ownBlock w w7) := HK5.out.on hb7
        clear CT hb7 HT5 HK5 HF6 HO6 d0 d1 d3 d4 d5 d6 d7 hT6
        have HXg := HT7.out.blk
        have HF8 : Hid (Blk (w7.setRow g (rlC g (X.1, X.2.1, (S, E, bl), X.2.2.2.drop k) (.slice a6 n6 c6))) 39 w.heap.size _) := HF7.out.setRowOther g hgh _
        have HO8 : Hid (Blk (w7.setRow g (rlC g (X.1, X.2.1, (S, E, bl), X.2.2.2.drop k) (.slice a6 n6 c6))) 39 (w.heap.size + 1) zeroF) := HO7.out.setRowOther g hgh1 _
        have HT8 : Hid (RlAt (w7.setRow g (rlC g (X.1, X.2.1, (S, E, bl), X.2.2.2.drop k) (.slice a6 n6 c6))) g (.slice a6 n6 c6) (X.1, X.2.1, (S, E, bl), X.2.2.2.drop k)) := HT7.out.keptTo (S, E, bl)
        have HK8 : Hid (Kept2 g v.ownBlock w (w7.setRow g (rlC g (X.1, X.2.1, (S, E, bl), X.2.2.2.drop k) (.slice a6 n6 c6)))) := HK7.out.setRow _
        simp only [rlC] at HXg HF8 HO8 HT8 HK8
        obtain ⟨w8, hw8⟩ : ∃ w8, w7.setRow g #[.pointer (some ⟨g, 0, none⟩), .int .i64 X.1, .int .i64 X.2.1, .int .i64 S, .int .i64 E, .string bl, .slice a6 n6 c6] = w8 := ⟨_, rfl⟩
        rw [hw8] at HF8 HO8 HT8 HK8
        clear HT7 HK7 HF7 HO7 hgh hgh1
        have hT8 : w8.cell? ⟨w.heap.size, 2, none⟩ = some (.int .i64 S) := HF8.out.cell 2
        have HX := HO8.out
        simp only [zeroF] at HX
        go_wp2_with (with_reducible refine wpList_storeAt rfl 31 _ _ rfl g 3 51 _ #[.int .i64 S, .int .i64 E, .string bl] #[.pointer (some ⟨g, 0, none⟩), .int .i64 X.1, .int .i64 X.2.1, .int .i64 S, .int .i64 E, .string bl, .slice a6 n6 c6] ?hx ?hy HXg ?hi ?hf ?h1 ?hN ?_
                     (case hx => rfl)
                     (case hy => rfl)
                     (case hi => kernel_rfl)
                     (case hf => simp)
                     (case h1 => simp [Value.oneCell'])
                     (case hN => rfl)
                     try rw [hw8]
                     go_wp2_with (with_reducible refine wpList_storeBlk rfl 39 _ _ rfl (w.heap.size + 1) #[.int .i64 0, .int .i64 0, .int .i64 0, .int .i64 0, .int .i64 0, .string ⟨#[]⟩, .slice none 0 0, .int .i64 0] #[.int .i64 6, .int .i64 0, .int .i64 S, .int .i64 0, .int .i64 0, .string ⟨#[]⟩, .slice none 0 0, .int .i64 0] ?hx ?hy HX rfl ?hi ?h1 ?_
                                  (case hx => rfl)
                                  (case hy => rfl)
                                  (case hi => kernel_rfl)
                                  (case h1 => simp [Value.oneCell'])))
        refine bodyPost_row rfl (w.heap.size + 1) #[.int .i64 6, .int .i64 0, .int .i64 S, .int .i64 0, .int .i64 0, .string ⟨#[]⟩, .slice none 0 0, .int .i64 0] rfl rfl (HX.setRow _) _ Try.underlying39 rfl (by kernel_rfl) ?_
        exact (show DoTo w g v (X.1, U, (S, E, bl), X.2.2.2.drop k) (6, 0, S, 0, 0, ⟨#[]⟩, [], 0) _ _ from doTo_none rfl rfl (by rw [← HU.out]; exact ⟨_, HT8.out.setRow _ (by have := HR0.out.lt; omega) HN5.out.2 _, HK8.out.setRowNew _ (by omega) _, HN5.out.1⟩))
end Go.Proofs.Ytkmdajenbidaaaa
