/- GroupAdds: the walk. -/
import Derived.Test.YtabhkebkbidfhaaDoorGpW
import Derived.Test.YtabhkebkbidfhaaDoorGpAdP
namespace Go.Proofs.YtabhkebkbidfhaaDoor
open Go.RowKit
set_option maxRecDepth 100000
set_option linter.unusedSimpArgs false
set_option linter.unusedVariables false
set_option maxRecDepth 100000

/-- The group's variable, and the array of who is in. -/
structure AdS (w : World) (h3 h4 b c : Nat) (ep : Int) (n : Nat) (fl : Nat → Bool) (W : World) : Prop where
  g : JdS w h3 b c ep 0 (lst n fl) W
  i : Blk W 56 h4 (inA fl)
  l4 : w.heap.size ≤ h4
theorem AdS.on {w W W' : World} {h3 h4 b c : Nat} {ep : Int} {n : Nat} {fl : Nat → Bool} (k : AdS w h3 h4 b c ep n fl W) (hb : Below W.heap.size W W') : AdS w h3 h4 b c ep n fl W' := ⟨k.g.on hb, k.i.on hb, k.l4⟩
theorem blk_types {w : World} {t t' : TypeId} {g g' : Nat} {cs cs' : Array Value} (h : Blk w t g cs) (h' : Blk w t' g' cs') (ht : t ≠ t') : g ≠ g' := by
  rintro rfl
  unfold Blk at h h'
  rw [h] at h'
  have := Option.some.inj h'
  injection this with _ e
  exact ht e
/-- Behind Judge: the old variable, the new one, the array. -/
structure AdT (w : World) (h3 h4 h10 b10 c10 : Nat) (ep' : Int) (n' : Nat) (fl' fa : Nat → Bool) (G : Array Value) (W : World) : Prop where
  o : Blk W 24 h3 G
  g : JdS w h10 b10 c10 ep' 0 (lst n' fl') W
  i : Blk W 56 h4 (inA fa)
  l : w.heap.size ≤ h3 ∧ w.heap.size ≤ h4
theorem AdT.on {w W W' : World} {h3 h4 h10 b10 c10 : Nat} {ep' : Int} {n' : Nat} {fl' fa : Nat → Bool} {G : Array Value} (k : AdT w h3 h4 h10 b10 c10 ep' n' fl' fa G W) (hb : Below W.heap.size W W') : AdT w h3 h4 h10 b10 c10 ep' n' fl' fa G W' := ⟨k.o.on hb, k.g.on hb, k.i.on hb, k.l⟩


theorem eight_any20 (z : Int) : ∃ q : Nat, bits .and .i64 z 7 = (q : Int) ∧ q < 8 := ⟨(z % 8).toNat, by rw [i64_mask z 3 (by decide) 7 (by decide)]; omega, by omega⟩
theorem four_any20 (z : Int) : ∃ q : Nat, bits .and .i64 z 3 = (q : Int) ∧ q < 4 := ⟨(z % 4).toNat, by rw [i64_mask z 2 (by decide) 3 (by decide)]; omega, by omega⟩

set_option maxHeartbeats 8000000 in
theorem groupAdds_law (a : Option Addr) (len cap : Nat) (w : World) (hG : Glob8 w) (hz : ∃ l, IntsAt w .i64 a len l ∧ len ≤ maxLen ∧ ∀ q ∈ l, (Lit.int .i64 q).wf = true) :
    Calls Tryd.prog 7 #[.slice a len cap] w fun e w' => e = .returned (.bool true) ∧ Below w.heap.size w w' := by
  obtain ⟨M, hM⟩ := mayM_ex20
  obtain ⟨la, hI, hml, _⟩ := hz
  have HI : Hid (IntsAt w .i64 a len la) := hI
  have HG : Hid (Glob8 w) := hG
  have hlen : len ≤ 9223372036854775807 := by unfold maxLen at hml; omega
  have CJ0 : Hid (∀ W b c (ep n : Nat) fl K k, fl 0 = true → k < 6 → 2 ≤ K ∧ K ≤ 4 → 1 ≤ ep ∧ ep ≤ 1000 → n ≤ 1000 → Below w.heap.size w W → RowM W b c (lst n fl) → Calls Tryd.prog 11 #[.agg #[.int .i64 (ep : Int), .slice (some ⟨b, 0, none⟩) 6 c, .int .i64 0], .int .i64 (ep : Int), .agg (recA (recK K ((n : Int) + 1) (whoK K k)) none 0)] W fun e w' => ∃ b' c', e = .returned (.tuple #[.agg #[.int .i64 ((epK K fl k ep : Nat) : Int), .slice (some ⟨b', 0, none⟩) 6 c', .int .i64 0], .bool (doesB K fl k), .int .i64 0]) ∧ W.heap.size ≤ b' ∧ RowM w' b' c' (lst (n + 1) (flK K fl k)) ∧ Below W.heap.size W w') := fun W b c ep n fl K k h0 hk hK he hn hb hm => judgeY_any M hM (ep : Int) 0 (ep : Int) (lst n fl) b c (recK K ((n : Int) + 1) (whoK K k)) none 0 _ 0 _ _ W (hG.below hb) (recK_in _ _ _ _) hm (judgeE_lst M ep n fl K k h0 hk hK he hn) (judge_lst ep n fl K k h0 hk hK he.2)
  clear hG hM hI hml
  go_enter Tryd.func7, Tryd.ntmps7
  go_wp2_with fail
  refine (new20_any w).mono ?_
  rintro e w1 ⟨b0, c0, rfl, hb0, hm0, hb⟩
  have HA0 : Hid (AdS w w1.heap.size (w1.heap.size + 1) b0 c0 1 0 (fun j => decide (j = 0)) ((w1.alloc (.cells #[.int .i64 1, .slice (some ⟨b0, 0, none⟩) 6 c0, .int .i64 0] 24)).alloc (.cells (inA (fun j => decide (j = 0))) 56))) := by
    have n1 := below_new w1 (.cells #[.int .i64 1, .slice (some ⟨b0, 0, none⟩) 6 c0, .int .i64 0] 24)
    have n2 := below_new (w1.alloc (.cells #[.int .i64 1, .slice (some ⟨b0, 0, none⟩) 6 c0, .int .i64 0] 24)) (.cells (inA (fun j => decide (j = 0))) 56)
    have n12 := below_step n1 (Nat.le_refl _) n2
    have hs := hb.size
    exact ⟨⟨(Blk.new _ _ _).on n2, hm0.on n12, below_step hb (Nat.le_refl _) n12, hs, hb0⟩, Blk.new' _ _ _ _ (by simp), by omega⟩
  clear hb0 hm0 hb
  go_wp2_with fail
  obtain ⟨W1, hW1⟩ : ∃ W1, (w1.alloc (.cells #[.int .i64 1, .slice (some ⟨b0, 0, none⟩) 6 c0, .int .i64 0] 24)).alloc (.cells (inA (fun j => decide (j = 0))) 56) = W1 := ⟨_, rfl⟩
  rw [hW1] at HA0
  have hW1' : (w1.alloc (.cells #[.int .i64 1, .slice (some ⟨b0, 0, none⟩) 6 c0, .int .i64 0] 24)).alloc (.cells #[.bool false, .bool true, .bool false, .bool false, .bool false, .bool false, .bool false] 56) = W1 := hW1
  rw [hW1']
  obtain ⟨h3, hh3⟩ : ∃ h3, w1.heap.size = h3 := ⟨_, rfl⟩
  obtain ⟨h4, hh4⟩ : ∃ h4, w1.heap.size + 1 = h4 := ⟨_, rfl⟩
  rw [hh4, hh3] at HA0
  rw [hh4, hh3]
  clear hW1 hW1' hh3 hh4
  go_loopw [5, 6] (fun e v wr => ∃ (n ep : Nat) (fl : Nat → Bool), n ≤ len ∧ n ≤ 24 ∧ Hid (1 ≤ ep ∧ ep ≤ n + 1) ∧ Hid (fl 0 = true) ∧ v = .int .i64 (n : Int) ∧ e = .int .i64 (ep : Int) ∧ Hid (∃ b c, AdS w h3 h4 b c (ep : Int) n fl wr)) (fun _ v _ => 25 - (intOf v).toNat)
  case atStart => exact ⟨0, 1, fun j => decide (j = 0), Nat.zero_le _, by decide, ⟨Nat.le_refl _, by decide⟩, rfl, rfl, rfl, ⟨_, _, HA0.out⟩⟩
  case round =>
    clear HA0
    obtain ⟨n, ep, fl, hn, hn24, HE, HF0, rfl, rfl, HX⟩ := hrel
    obtain ⟨b3, c3, hA⟩ := HX.out
    have HA : Hid (AdS w h3 h4 b3 c3 (ep : Int) n fl wr) := hA
    clear HX hA
    by_cases hlt : n < len ∧ n < 24
    · obtain ⟨hl1, hl2⟩ := hlt
      have b1 : (n : Int) < (len : Int) := by omega
      have b2 : decide ((n : Int) < 24) = true := decide_eq_true (by omega)
      have b3' : (0 : Int) ≤ (n : Int) := by omega
      obtain ⟨lb, off, rfl, hcl⟩ : ∃ b off, a = some ⟨b, off, none⟩ ∧ ∀ i, i < len → w.cell? ⟨b, off + i, none⟩ = some (.int .i64 (la.getD i 0)) := by
        rcases HI.out.2 with h | h
        · omega
        · exact h
      obtain ⟨z, hz⟩ : ∃ z, la.getD n 0 = z := ⟨_, rfl⟩
      have HC0 : Hid (w.cell? ⟨lb, off + n, none⟩ = some (.int .i64 z)) := by show _ = _; rw [hcl n hl1, hz]
      have y0 : wr.cell? ⟨lb, off + n, none⟩ = some (.int .i64 z) := by rw [HA.out.g.bel.cell (World.block_lt_of_cell? w _ HC0.out)]; exact HC0.out
      clear hcl hz
      -- who it is, and what
      obtain ⟨p, hp, hp7⟩ : ∃ p : Nat, bits .and .i64 (z / 4) 7 = (p : Int) ∧ p < 8 := eight_any20 (z / 4)
      obtain ⟨k, hk6, hpk⟩ : ∃ k : Nat, k < 6 ∧ Int.tmod (p : Int) 6 = (k : Int) := ⟨p % 6, Nat.mod_lt _ (by decide), by rw [show (6 : Int) = ((6 : Nat) : Int) from rfl, ← Int.ofNat_tmod]⟩
      obtain ⟨p2, hp2, hp23⟩ : ∃ p : Nat, bits .and .i64 z 3 = (p : Int) ∧ p < 4 := four_any20 z
      obtain ⟨d, hd3, hpd⟩ : ∃ d : Nat, d < 3 ∧ Int.tmod (p2 : Int) 3 = (d : Int) := ⟨p2 % 3, Nat.mod_lt _ (by decide), by rw [show (3 : Int) = ((3 : Nat) : Int) from rfl, ← Int.ofNat_tmod]⟩
      obtain ⟨c1, hc1⟩ : ∃ c1 : Nat, k + 1 = c1 := ⟨_, rfl⟩
      obtain ⟨K, hK⟩ : ∃ K : Int, 2 + (d : Int) = K := ⟨_, rfl⟩
      have a1 : IntKind.i64.wrap (1 + (k : Int)) = (c1 : Int) := by rw [IntKind.wrap_i64]; omega
      have a2 : IntKind.i64.wrap (2 + (d : Int)) = K := by rw [IntKind.wrap_i64]; omega
      have a3 : IntKind.i64.wrap ((n : Int) + 1) = (n : Int) + 1 := by rw [IntKind.wrap_i64]; omega
      have a4 : (c1 : Int) < 7 := by omega
      have a5 : (0 : Int) ≤ (c1 : Int) := by omega
      have HKB : Hid (2 ≤ K ∧ K ≤ 4) := ⟨by omega, by omega⟩
      have HKC : Hid (k + 1 = c1 ∧ k < 6) := ⟨hc1, hk6⟩
      obtain ⟨Z, hZ⟩ : ∃ Z, zeroB 32 = Z := ⟨_, rfl⟩
      have HZZ : Hid (zeroB 32 = Z) := hZ
      have CT : Hid (∀ W, Calls Tryd.prog 24 #[.int .i64 K, .int .i64 ((n : Int) + 1), .int .i64 (c1 : Int)] W fun e w' => e = .returned (.agg #[.int .i64 K, .int .i64 1, .int .i64 ((n : Int) + 1), .int .i64 0, .string Z, .int .i64 0, .int .i64 0, .int .i64 0, .int .i64 0, .int .i64 0, .int .i64 0, .int .i64 0, .string ⟨#[]⟩, .string ⟨#[]⟩, .int .i64 (c1 : Int), .slice none 0 0]) ∧ Below W.heap.size W w') := fun W => by
        have h := control_any K ((n : Int) + 1) (c1 : Int) W
        unfold recK at h
        rw [hZ] at h
        exact h
      have CJ : Hid (∀ W q, q = whoK K k → Below w.heap.size w W → RowM W b3 c3 (lst n fl) → Calls Tryd.prog 11 #[.agg #[.int .i64 (ep : Int), .slice (some ⟨b3, 0, none⟩) 6 c3, .int .i64 0], .int .i64 (ep : Int), .agg #[.int .i64 K, .int .i64 1, .int .i64 ((n : Int) + 1), .int .i64 0, .string Z, .int .i64 0, .int .i64 0, .int .i64 0, .int .i64 0, .int .i64 0, .int .i64 0, .int .i64 0, .string ⟨#[]⟩, .string ⟨#[]⟩, .int .i64 q, .slice none 0 0]] W fun e w' => ∃ b' c', e = .returned (.tuple #[.agg #[.int .i64 ((epK K fl k ep : Nat) : Int), .slice (some ⟨b', 0, none⟩) 6 c', .int .i64 0], .bool (doesB K fl k), .int .i64 0]) ∧ W.heap.size ≤ b' ∧ RowM w' b' c' (lst (n + 1) (flK K fl k)) ∧ Below W.heap.size W w') := fun W q hq hb hm => by
        have h := CJ0.out W b3 c3 ep n fl K k HF0.out HKC.out.2 HKB.out (by have := HE.out; omega) (by omega) hb hm
        unfold recK at h
        rw [hZ, ← hq] at h
        exact h
      obtain ⟨x, hx⟩ : ∃ x, fl k = x := ⟨_, rfl⟩
      have Hx : Hid (fl k = x) := hx
      have e1 : IntKind.i64.wrap ((ep : Int) + 1) = (ep : Int) + 1 := by have := HE.out; rw [IntKind.wrap_i64]; omega
      have a9 : IntKind.i64.wrap ((n : Int) + 1) = (n : Int) + 1 := by rw [IntKind.wrap_i64]; omega
      clear hp7 hk6 hp23 hd3 hc1 hK hZ hx CJ0
      go_wp2_with fail
      as_aux_lemma =>
      refine (CT.out wr).mono ?_
      rintro e w2 ⟨rfl, hb⟩
      have HA2 : Hid (AdS w h3 h4 b3 c3 (ep : Int) n fl w2) := HA.out.on hb
      clear hb HA CT y0 hp hpk hp2 hpd a1 a2
      have hKB := HKB.out
      rcases (by omega : K = 2 ∨ K = 3 ∨ K = 4) with rfl | rfl | rfl
      all_goals clear hKB
      · -- Add
        cases x with
        | false =>
          as_aux_lemma =>
          have hD : doesB 2 fl k = true := by unfold doesB; rw [if_pos rfl, Hx.out]; rfl
          have hEK : epK 2 fl k ep = (ep + 1) := by unfold epK; rw [hD]; exact if_pos rfl
          have hFK : flK 2 fl k = (updF fl k true) := by unfold flK; rw [hD]; exact if_pos ⟨rfl, by decide⟩
          have CJJ : Hid (∀ W, Below w.heap.size w W → RowM W b3 c3 (lst n fl) → Calls Tryd.prog 11 #[.agg #[.int .i64 (ep : Int), .slice (some ⟨b3, 0, none⟩) 6 c3, .int .i64 0], .int .i64 (ep : Int), .agg #[.int .i64 2, .int .i64 1, .int .i64 ((n : Int) + 1), .int .i64 0, .string Z, .int .i64 0, .int .i64 0, .int .i64 0, .int .i64 0, .int .i64 0, .int .i64 0, .int .i64 0, .string ⟨#[]⟩, .string ⟨#[]⟩, .int .i64 (c1 : Int), .slice none 0 0]] W fun e w' => ∃ b' c', e = .returned (.tuple #[.agg #[.int .i64 ((ep : Int) + 1), .slice (some ⟨b', 0, none⟩) 6 c', .int .i64 0], .bool true, .int .i64 0]) ∧ W.heap.size ≤ b' ∧ RowM w' b' c' (lst (n + 1) (updF fl k true)) ∧ Below W.heap.size W w') := fun W hb hm => by
            have h := CJ.out W (c1 : Int) (by unfold whoK; rw [if_neg (by decide)]; have := HKC.out; omega) hb hm
            rw [hD, hEK, hFK] at h
            exact h
          have HEN : Hid (1 ≤ (ep + 1) ∧ (ep + 1) ≤ n + 1 + 1) := ⟨by have := HE.out; omega, by have := HE.out; omega⟩
          have HF0N : Hid ((updF fl k true) 0 = true) := by show _ = _; rw [← hFK]; exact flK_0 2 fl k HF0.out HKC.out.2 (by decide)
          clear hD hEK hFK CJ
          have nn := below_new w2 (.cells #[.int .i64 2, .int .i64 1, .int .i64 ((n : Int) + 1), .int .i64 0, .string Z, .int .i64 0, .int .i64 0, .int .i64 0, .int .i64 0, .int .i64 0, .int .i64 0, .int .i64 0, .string ⟨#[]⟩, .string ⟨#[]⟩, .int .i64 (c1 : Int), .slice none 0 0] 31)
          obtain ⟨w3, hw3⟩ : ∃ w3, w2.alloc (.cells #[.int .i64 2, .int .i64 1, .int .i64 ((n : Int) + 1), .int .i64 0, .string Z, .int .i64 0, .int .i64 0, .int .i64 0, .int .i64 0, .int .i64 0, .int .i64 0, .int .i64 0, .string ⟨#[]⟩, .string ⟨#[]⟩, .int .i64 (c1 : Int), .slice none 0 0] 31) = w3 := ⟨_, rfl⟩
          rw [hw3] at nn
          have HA3 : Hid (AdS w h3 h4 b3 c3 (ep : Int) n fl w3) := HA2.out.on nn
          have HR3 : Hid (Blk w3 31 w2.heap.size #[.int .i64 2, .int .i64 1, .int .i64 ((n : Int) + 1), .int .i64 0, .string Z, .int .i64 0, .int .i64 0, .int .i64 0, .int .i64 0, .int .i64 0, .int .i64 0, .int .i64 0, .string ⟨#[]⟩, .string ⟨#[]⟩, .int .i64 (c1 : Int), .slice none 0 0]) := by show Blk _ _ _ _; rw [← hw3]; exact Blk.new _ _ _
          have d0 : w3.cell? ⟨h3, 0, none⟩ = some (.int .i64 (ep : Int)) := HA3.out.g.gg.cell 0
          have d1 : w3.cell? ⟨h3, 1, none⟩ = some (.slice (some ⟨b3, 0, none⟩) 6 c3) := HA3.out.g.gg.cell 1
          have d2 : w3.cell? ⟨h3, 2, none⟩ = some (.int .i64 0) := HA3.out.g.gg.cell 2
          have d3 : w3.cell? ⟨h4, c1, none⟩ = some (.bool false) := by rw [HA3.out.i.cell, ← HKC.out.1, inA_at _ _ HKC.out.2, Hx.out]
          have HW3 : Hid (_ = w3) := hw3
          rw [← hw3] at d0 d1 d2 d3
          clear hw3 nn
          go_wp2_with fail
          rw [HW3.out]
          clear d0 d1 d2 d3 HW3 HA2
          as_aux_lemma =>
          refine (CJJ.out w3 HA3.out.g.bel HA3.out.g.mm).mono ?_
          rintro e w5 ⟨b10, c10, rfl, hb10, hm10, hb⟩
          have HT5 : Hid (AdT w h3 h4 w5.heap.size b10 c10 ((ep : Int) + 1) (n + 1) (updF fl k true) fl #[.int .i64 (ep : Int), .slice (some ⟨b3, 0, none⟩) 6 c3, .int .i64 0] (w5.alloc (.cells #[.int .i64 ((ep : Int) + 1), .slice (some ⟨b10, 0, none⟩) 6 c10, .int .i64 0] 24))) := by
            have t := HA3.out.on hb
            have n5 := below_new w5 (.cells #[.int .i64 ((ep : Int) + 1), .slice (some ⟨b10, 0, none⟩) 6 c10, .int .i64 0] 24)
            exact ⟨t.g.gg.on n5, ⟨Blk.new _ _ _, hm10.on n5, below_step t.g.bel (Nat.le_refl _) n5, t.g.bel.size, Nat.le_trans HA3.out.g.bel.size hb10⟩, t.i.on n5, t.g.lh, t.l4⟩
          have HR5 : Hid (Blk (w5.alloc (.cells #[.int .i64 ((ep : Int) + 1), .slice (some ⟨b10, 0, none⟩) 6 c10, .int .i64 0] 24)) 31 w2.heap.size #[.int .i64 2, .int .i64 1, .int .i64 ((n : Int) + 1), .int .i64 0, .string Z, .int .i64 0, .int .i64 0, .int .i64 0, .int .i64 0, .int .i64 0, .int .i64 0, .int .i64 0, .string ⟨#[]⟩, .string ⟨#[]⟩, .int .i64 (c1 : Int), .slice none 0 0]) := (HR3.out.on hb).on (below_new _ _)
          obtain ⟨w6, hw6⟩ : ∃ w6, w5.alloc (.cells #[.int .i64 ((ep : Int) + 1), .slice (some ⟨b10, 0, none⟩) 6 c10, .int .i64 0] 24) = w6 := ⟨_, rfl⟩
          obtain ⟨h10, hh10⟩ : ∃ h10, w5.heap.size = h10 := ⟨_, rfl⟩
          rw [hw6, hh10] at HT5
          rw [hw6] at HR5
          have r0 : w6.cell? ⟨w2.heap.size, 0, none⟩ = some (.int .i64 2) := HR5.out.cell 0
          have i0 : w6.cell? ⟨h4, c1, none⟩ = some (.bool false) := by rw [HT5.out.i.cell, ← HKC.out.1, inA_at _ _ HKC.out.2, Hx.out]
          have i1 : w6.frozen? ⟨h4, c1, none⟩ = false := HT5.out.i.free _
          obtain ⟨w7, hw7⟩ : ∃ w7, w6.setCell ⟨h4, c1, none⟩ (.bool true) = w7 := ⟨_, rfl⟩
          have HT : Hid (AdT w h3 h4 h10 b10 c10 ((ep : Int) + 1) (n + 1) (updF fl k true) (updF fl k true) #[.int .i64 (ep : Int), .slice (some ⟨b3, 0, none⟩) 6 c3, .int .i64 0] w7) := by
            show AdT _ _ _ _ _ _ _ _ _ _ _ _
            rw [← hw7]
            have t := HT5.out
            have q : Blk (w6.setCell ⟨h4, c1, none⟩ (.bool true)) 56 h4 (inA (updF fl k true)) := by
              have q := t.i.setAt c1 (.bool true)
              rw [← HKC.out.1, inA_set _ _ HKC.out.2, HKC.out.1] at q
              exact q
            have n3 := t.g.mm.neT t.i (by decide)
            exact ⟨t.o.other ⟨h4, c1, none⟩ (blk_types t.o t.i (by decide)) _, ⟨t.g.gg.other ⟨h4, c1, none⟩ (blk_types t.g.gg t.i (by decide)) _, t.g.mm.other ⟨h4, c1, none⟩ (fun e => n3 e.symm) _, t.g.bel.setCell (p := ⟨h4, c1, none⟩) t.l.2 _, t.g.lh, t.g.lb⟩, q, t.l⟩
          have HW7 : Hid (w6.setCell ⟨h4, c1, none⟩ _ = w7) := hw7
          have HW6 : Hid (_ = w6) := hw6
          rw [← hw6] at r0 i0 i1
          clear hw6 hw7 hb10 hm10 hb HA3 HR3 HT5 HR5 CJJ
          go_wp2_with fail
          try rw [HW6.out]
          try rw [HW7.out]
          try rw [hh10]
          clear r0 i0 i1 HW6 HW7 hh10
          as_aux_lemma =>
          -- HT : Hid (AdT w h3 h4 h10 b10 c10 ((ep : Int) + 1) (n + 1) (updF fl k true) (updF fl k true) G V); slot 5 = ((ep : Int) + 1)
          go_loopw [13] (fun v wx => ∃ k9 : Nat, k9 ≤ 6 ∧ v = .int .i64 ((k9 : Int) + 1) ∧ Hid (AdT w h3 h4 h10 b10 c10 ((ep : Int) + 1) (n + 1) (updF fl k true) (updF fl k true) #[.int .i64 (ep : Int), .slice (some ⟨b3, 0, none⟩) 6 c3, .int .i64 0] wx)) (fun v _ => 8 - (intOf v).toNat)
          case atStart => exact ⟨0, Nat.zero_le _, rfl, HT⟩
          case round =>
            clear HT
            obtain ⟨k9, hk9, rfl, HT9⟩ := hrel
            by_cases hlt9 : k9 < 6
            · have b9 : (k9 : Int) + 1 ≤ 6 := by omega
              have b10' : (0 : Int) ≤ (k9 : Int) + 1 := by omega
              have b11 : (k9 : Int) + 1 < 7 := by omega
              have b12 : ((k9 : Int) + 1).toNat = k9 + 1 := by omega
              have b13 : IntKind.i64.wrap ((k9 : Int) + 1 + 1) = (k9 : Int) + 1 + 1 := by rw [IntKind.wrap_i64]; omega
              obtain ⟨z, hz⟩ : ∃ z, (updF fl k true) k9 = z := ⟨_, rfl⟩
              have b14 : (z != z) = false := by cases z <;> rfl
              have CI9 : Hid (∀ p : Beh wr, Calls Tryd.prog 16 #[.agg #[.int .i64 ((ep : Int) + 1), .slice (some ⟨b10, 0, none⟩) 6 c10, .int .i64 0], .int .i64 ((k9 : Int) + 1)] p.w' fun e w' => e = .returned (.bool z) ∧ Below p.w'.heap.size p.w' w') := fun p => by
                have h := in6_any ((ep : Int) + 1) 0 (lst (n + 1) (updF fl k true)) b10 0 c10 ((k9 : Int) + 1) p.w' rfl ((HT9.out.on p.h).g.mm.at)
                rw [inB_lst _ _ _ hlt9, hz] at h
                exact h
              have c0 : ∀ p : Beh wr, p.w'.cell? ⟨h10, 0, none⟩ = some (.int .i64 ((ep : Int) + 1)) := fun p => (HT9.out.on p.h).g.gg.cell 0
              have c1 : ∀ p : Beh wr, p.w'.cell? ⟨h10, 1, none⟩ = some (.slice (some ⟨b10, 0, none⟩) 6 c10) := fun p => (HT9.out.on p.h).g.gg.cell 1
              have c2 : ∀ p : Beh wr, p.w'.cell? ⟨h10, 2, none⟩ = some (.int .i64 0) := fun p => (HT9.out.on p.h).g.gg.cell 2
              have c3' : ∀ p : Beh wr, p.w'.cell? ⟨h4, k9 + 1, none⟩ = some (.bool z) := fun p => by rw [(HT9.out.on p.h).i.cell, inA_at _ _ hlt9, hz]
              clear hz
              go_wp2_with fail
              have hne_ : Nonempty (Beh wr) := ⟨⟨_, Below.refl _ _⟩⟩
              refine wp_region_quiet_beh (by kernel_rfl) (by kernel_rfl) ?_
              repeat (quiet_step (first | (go_at_call 16; refine Calls.beh_of (CI9.out _))))
              refine wpQuiet_nil ?_
              intro wq hw_
              obtain ⟨⟨wz_, hbq⟩, hw_⟩ := hw_
              subst hw_
              try dsimp only
              clear hne_
              have HTN : Hid (AdT w h3 h4 h10 b10 c10 ((ep : Int) + 1) (n + 1) (updF fl k true) (updF fl k true) #[.int .i64 (ep : Int), .slice (some ⟨b3, 0, none⟩) 6 c3, .int .i64 0] wq) := HT9.out.on hbq
              clear c0 c1 c2 c3' CI9 HT9 hbq
              go_wp2_with fail
              refine ⟨?_, ?_⟩
              · first
                | exact ⟨k9 + 1, by omega, by go_num, HTN⟩
                | ((repeat apply Exists.intro); refine ⟨?_, rfl⟩; exact ⟨k9 + 1, by omega, by go_num, HTN⟩)
              · simp [intOf] <;> omega
            · obtain rfl : k9 = 6 := by omega
              have b9 : ¬ ((6 : Int) + 1 ≤ 6) := by omega
              have b14 : (((ep : Int) + 1) != ((ep : Int) + 1)) = false := by simp
              have CI0 : Hid (∀ W, AdT w h3 h4 h10 b10 c10 ((ep : Int) + 1) (n + 1) (updF fl k true) (updF fl k true) #[.int .i64 (ep : Int), .slice (some ⟨b3, 0, none⟩) 6 c3, .int .i64 0] W → ∀ q, q = 0 ∨ q = 7 → Calls Tryd.prog 16 #[.agg #[.int .i64 ((ep : Int) + 1), .slice (some ⟨b10, 0, none⟩) 6 c10, .int .i64 0], .int .i64 q] W fun e w' => e = .returned (.bool false) ∧ Below W.heap.size W w') := fun W hW q hq => by
                have h := in6_any ((ep : Int) + 1) 0 (lst (n + 1) (updF fl k true)) b10 0 c10 q W rfl hW.g.mm.at
                rcases hq with rfl | rfl
                · rw [inB_0] at h; exact h
                · rw [inB_7] at h; exact h
              have c0 : wr.cell? ⟨h10, 0, none⟩ = some (.int .i64 ((ep : Int) + 1)) := HT9.out.g.gg.cell 0
              have c1 : wr.cell? ⟨h10, 1, none⟩ = some (.slice (some ⟨b10, 0, none⟩) 6 c10) := HT9.out.g.gg.cell 1
              have c2 : wr.cell? ⟨h10, 2, none⟩ = some (.int .i64 0) := HT9.out.g.gg.cell 2
              go_wp2_with fail
              as_aux_lemma =>
              refine (CI0.out wr HT9.out 0 (.inl rfl)).mono ?_
              rintro e y1 ⟨rfl, hb⟩
              have HY1 : Hid (AdT w h3 h4 h10 b10 c10 ((ep : Int) + 1) (n + 1) (updF fl k true) (updF fl k true) #[.int .i64 (ep : Int), .slice (some ⟨b3, 0, none⟩) 6 c3, .int .i64 0] y1) := HT9.out.on hb
              clear hb HT9 c0 c1 c2
              have c0 : y1.cell? ⟨h10, 0, none⟩ = some (.int .i64 ((ep : Int) + 1)) := HY1.out.g.gg.cell 0
              have c1 : y1.cell? ⟨h10, 1, none⟩ = some (.slice (some ⟨b10, 0, none⟩) 6 c10) := HY1.out.g.gg.cell 1
              have c2 : y1.cell? ⟨h10, 2, none⟩ = some (.int .i64 0) := HY1.out.g.gg.cell 2
              go_wp2_with fail
              refine (CI0.out y1 HY1.out 7 (.inr rfl)).mono ?_
              rintro e y2 ⟨rfl, hb⟩
              have HY2 : Hid (AdT w h3 h4 h10 b10 c10 ((ep : Int) + 1) (n + 1) (updF fl k true) (updF fl k true) #[.int .i64 (ep : Int), .slice (some ⟨b3, 0, none⟩) 6 c3, .int .i64 0] y2) := HY1.out.on hb
              clear hb HY1 c0 c1 c2 CI0
              have c0 : y2.cell? ⟨h10, 0, none⟩ = some (.int .i64 ((ep : Int) + 1)) := HY2.out.g.gg.cell 0
              have c1 : y2.cell? ⟨h10, 1, none⟩ = some (.slice (some ⟨b10, 0, none⟩) 6 c10) := HY2.out.g.gg.cell 1
              have c2 : y2.cell? ⟨h10, 2, none⟩ = some (.int .i64 0) := HY2.out.g.gg.cell 2
              have X1 := HY2.out.o
              have HZ : Hid (AdS w h3 h4 b10 c10 ((ep : Int) + 1) (n + 1) (updF fl k true) (y2.setRow h3 #[.int .i64 ((ep : Int) + 1), .slice (some ⟨b10, 0, none⟩) 6 c10, .int .i64 0])) := by
                have t := HY2.out
                exact ⟨⟨X1.setRow _, t.g.mm.same (setRow_other _ _ _ _ (fun e => t.g.mm.ne X1 e.symm)), below_setRow t.g.bel t.l.1 _, t.l.1, t.g.lb⟩, t.i.setRowOther h3 (blk_types t.i X1 (by decide)) _, t.l.2⟩
              clear HY2
              go_wp2_with (with_reducible refine wpList_storeBlk rfl 24 _ _ rfl h3 #[.int .i64 (ep : Int), .slice (some ⟨b3, 0, none⟩) 6 c3, .int .i64 0] #[.int .i64 ((ep : Int) + 1), .slice (some ⟨b10, 0, none⟩) 6 c10, .int .i64 0] (by with_unfolding_all rfl) (by with_unfolding_all rfl) X1 rfl (by kernel_rfl) (by kernel_rfl) ?_)
              refine ⟨?_, ?_⟩
              · first
                | exact ⟨n + 1, (ep + 1), (updF fl k true), by omega, by omega, HEN.out, HF0N.out, by go_num, by rfl, ⟨_, _, HZ.out⟩⟩
                | ((repeat apply Exists.intro); refine ⟨?_, rfl⟩; exact ⟨n + 1, (ep + 1), (updF fl k true), by omega, by omega, HEN.out, HF0N.out, by go_num, by rfl, ⟨_, _, HZ.out⟩⟩)
              · simp [intOf] <;> omega
        | true =>
          as_aux_lemma =>
          have hD : doesB 2 fl k = false := by unfold doesB; rw [if_pos rfl, Hx.out]; rfl
          have hEK : epK 2 fl k ep = ep := by unfold epK; rw [hD]; exact if_neg (by decide)
          have hFK : flK 2 fl k = fl := by unfold flK; rw [hD]; exact if_neg (by simp)
          have CJJ : Hid (∀ W, Below w.heap.size w W → RowM W b3 c3 (lst n fl) → Calls Tryd.prog 11 #[.agg #[.int .i64 (ep : Int), .slice (some ⟨b3, 0, none⟩) 6 c3, .int .i64 0], .int .i64 (ep : Int), .agg #[.int .i64 2, .int .i64 1, .int .i64 ((n : Int) + 1), .int .i64 0, .string Z, .int .i64 0, .int .i64 0, .int .i64 0, .int .i64 0, .int .i64 0, .int .i64 0, .int .i64 0, .string ⟨#[]⟩, .string ⟨#[]⟩, .int .i64 (c1 : Int), .slice none 0 0]] W fun e w' => ∃ b' c', e = .returned (.tuple #[.agg #[.int .i64 (ep : Int), .slice (some ⟨b', 0, none⟩) 6 c', .int .i64 0], .bool false, .int .i64 0]) ∧ W.heap.size ≤ b' ∧ RowM w' b' c' (lst (n + 1) fl) ∧ Below W.heap.size W w') := fun W hb hm => by
            have h := CJ.out W (c1 : Int) (by unfold whoK; rw [if_neg (by decide)]; have := HKC.out; omega) hb hm
            rw [hD, hEK, hFK] at h
            exact h
          have HEN : Hid (1 ≤ ep ∧ ep ≤ n + 1 + 1) := ⟨by have := HE.out; omega, by have := HE.out; omega⟩
          have HF0N : Hid (fl 0 = true) := by show _ = _; rw [← hFK]; exact flK_0 2 fl k HF0.out HKC.out.2 (by decide)
          clear hD hEK hFK CJ
          have nn := below_new w2 (.cells #[.int .i64 2, .int .i64 1, .int .i64 ((n : Int) + 1), .int .i64 0, .string Z, .int .i64 0, .int .i64 0, .int .i64 0, .int .i64 0, .int .i64 0, .int .i64 0, .int .i64 0, .string ⟨#[]⟩, .string ⟨#[]⟩, .int .i64 (c1 : Int), .slice none 0 0] 31)
          obtain ⟨w3, hw3⟩ : ∃ w3, w2.alloc (.cells #[.int .i64 2, .int .i64 1, .int .i64 ((n : Int) + 1), .int .i64 0, .string Z, .int .i64 0, .int .i64 0, .int .i64 0, .int .i64 0, .int .i64 0, .int .i64 0, .int .i64 0, .string ⟨#[]⟩, .string ⟨#[]⟩, .int .i64 (c1 : Int), .slice none 0 0] 31) = w3 := ⟨_, rfl⟩
          rw [hw3] at nn
          have HA3 : Hid (AdS w h3 h4 b3 c3 (ep : Int) n fl w3) := HA2.out.on nn
          have HR3 : Hid (Blk w3 31 w2.heap.size #[.int .i64 2, .int .i64 1, .int .i64 ((n : Int) + 1), .int .i64 0, .string Z, .int .i64 0, .int .i64 0, .int .i64 0, .int .i64 0, .int .i64 0, .int .i64 0, .int .i64 0, .string ⟨#[]⟩, .string ⟨#[]⟩, .int .i64 (c1 : Int), .slice none 0 0]) := by show Blk _ _ _ _; rw [← hw3]; exact Blk.new _ _ _
          have d0 : w3.cell? ⟨h3, 0, none⟩ = some (.int .i64 (ep : Int)) := HA3.out.g.gg.cell 0
          have d1 : w3.cell? ⟨h3, 1, none⟩ = some (.slice (some ⟨b3, 0, none⟩) 6 c3) := HA3.out.g.gg.cell 1
          have d2 : w3.cell? ⟨h3, 2, none⟩ = some (.int .i64 0) := HA3.out.g.gg.cell 2
          have d3 : w3.cell? ⟨h4, c1, none⟩ = some (.bool true) := by rw [HA3.out.i.cell, ← HKC.out.1, inA_at _ _ HKC.out.2, Hx.out]
          have HW3 : Hid (_ = w3) := hw3
          rw [← hw3] at d0 d1 d2 d3
          clear hw3 nn
          go_wp2_with fail
          rw [HW3.out]
          clear d0 d1 d2 d3 HW3 HA2
          as_aux_lemma =>
          refine (CJJ.out w3 HA3.out.g.bel HA3.out.g.mm).mono ?_
          rintro e w5 ⟨b10, c10, rfl, hb10, hm10, hb⟩
          have HT5 : Hid (AdT w h3 h4 w5.heap.size b10 c10 (ep : Int) (n + 1) fl fl #[.int .i64 (ep : Int), .slice (some ⟨b3, 0, none⟩) 6 c3, .int .i64 0] (w5.alloc (.cells #[.int .i64 (ep : Int), .slice (some ⟨b10, 0, none⟩) 6 c10, .int .i64 0] 24))) := by
            have t := HA3.out.on hb
            have n5 := below_new w5 (.cells #[.int .i64 (ep : Int), .slice (some ⟨b10, 0, none⟩) 6 c10, .int .i64 0] 24)
            exact ⟨t.g.gg.on n5, ⟨Blk.new _ _ _, hm10.on n5, below_step t.g.bel (Nat.le_refl _) n5, t.g.bel.size, Nat.le_trans HA3.out.g.bel.size hb10⟩, t.i.on n5, t.g.lh, t.l4⟩
          have HR5 : Hid (Blk (w5.alloc (.cells #[.int .i64 (ep : Int), .slice (some ⟨b10, 0, none⟩) 6 c10, .int .i64 0] 24)) 31 w2.heap.size #[.int .i64 2, .int .i64 1, .int .i64 ((n : Int) + 1), .int .i64 0, .string Z, .int .i64 0, .int .i64 0, .int .i64 0, .int .i64 0, .int .i64 0, .int .i64 0, .int .i64 0, .string ⟨#[]⟩, .string ⟨#[]⟩, .int .i64 (c1 : Int), .slice none 0 0]) := (HR3.out.on hb).on (below_new _ _)
          obtain ⟨w6, hw6⟩ : ∃ w6, w5.alloc (.cells #[.int .i64 (ep : Int), .slice (some ⟨b10, 0, none⟩) 6 c10, .int .i64 0] 24) = w6 := ⟨_, rfl⟩
          obtain ⟨h10, hh10⟩ : ∃ h10, w5.heap.size = h10 := ⟨_, rfl⟩
          rw [hw6, hh10] at HT5
          rw [hw6] at HR5
          have r0 : w6.cell? ⟨w2.heap.size, 0, none⟩ = some (.int .i64 2) := HR5.out.cell 0
          have HT : Hid (AdT w h3 h4 h10 b10 c10 (ep : Int) (n + 1) fl fl #[.int .i64 (ep : Int), .slice (some ⟨b3, 0, none⟩) 6 c3, .int .i64 0] w6) := HT5.out
          have HW6 : Hid (_ = w6) := hw6
          rw [← hw6] at r0
          clear hw6 hb10 hm10 hb HA3 HR3 HT5 HR5 CJJ
          go_wp2_with fail
          try rw [HW6.out]
          try rw [hh10]
          clear r0 HW6 hh10
          as_aux_lemma =>
          -- HT : Hid (AdT w h3 h4 h10 b10 c10 (ep : Int) (n + 1) fl fl G V); slot 5 = (ep : Int)
          go_loopw [13] (fun v wx => ∃ k9 : Nat, k9 ≤ 6 ∧ v = .int .i64 ((k9 : Int) + 1) ∧ Hid (AdT w h3 h4 h10 b10 c10 (ep : Int) (n + 1) fl fl #[.int .i64 (ep : Int), .slice (some ⟨b3, 0, none⟩) 6 c3, .int .i64 0] wx)) (fun v _ => 8 - (intOf v).toNat)
          case atStart => exact ⟨0, Nat.zero_le _, rfl, HT⟩
          case round =>
            clear HT
            obtain ⟨k9, hk9, rfl, HT9⟩ := hrel
            by_cases hlt9 : k9 < 6
            · have b9 : (k9 : Int) + 1 ≤ 6 := by omega
              have b10' : (0 : Int) ≤ (k9 : Int) + 1 := by omega
              have b11 : (k9 : Int) + 1 < 7 := by omega
              have b12 : ((k9 : Int) + 1).toNat = k9 + 1 := by omega
              have b13 : IntKind.i64.wrap ((k9 : Int) + 1 + 1) = (k9 : Int) + 1 + 1 := by rw [IntKind.wrap_i64]; omega
              obtain ⟨z, hz⟩ : ∃ z, fl k9 = z := ⟨_, rfl⟩
              have b14 : (z != z) = false := by cases z <;> rfl
              have CI9 : Hid (∀ p : Beh wr, Calls Tryd.prog 16 #[.agg #[.int .i64 (ep : Int), .slice (some ⟨b10, 0, none⟩) 6 c10, .int .i64 0], .int .i64 ((k9 : Int) + 1)] p.w' fun e w' => e = .returned (.bool z) ∧ Below p.w'.heap.size p.w' w') := fun p => by
                have h := in6_any (ep : Int) 0 (lst (n + 1) fl) b10 0 c10 ((k9 : Int) + 1) p.w' rfl ((HT9.out.on p.h).g.mm.at)
                rw [inB_lst _ _ _ hlt9, hz] at h
                exact h
              have c0 : ∀ p : Beh wr, p.w'.cell? ⟨h10, 0, none⟩ = some (.int .i64 (ep : Int)) := fun p => (HT9.out.on p.h).g.gg.cell 0
              have c1 : ∀ p : Beh wr, p.w'.cell? ⟨h10, 1, none⟩ = some (.slice (some ⟨b10, 0, none⟩) 6 c10) := fun p => (HT9.out.on p.h).g.gg.cell 1
              have c2 : ∀ p : Beh wr, p.w'.cell? ⟨h10, 2, none⟩ = some (.int .i64 0) := fun p => (HT9.out.on p.h).g.gg.cell 2
              have c3' : ∀ p : Beh wr, p.w'.cell? ⟨h4, k9 + 1, none⟩ = some (.bool z) := fun p => by rw [(HT9.out.on p.h).i.cell, inA_at _ _ hlt9, hz]
              clear hz
              go_wp2_with fail
              have hne_ : Nonempty (Beh wr) := ⟨⟨_, Below.refl _ _⟩⟩
              refine wp_region_quiet_beh (by kernel_rfl) (by kernel_rfl) ?_
              repeat (quiet_step (first | (go_at_call 16; refine Calls.beh_of (CI9.out _))))
              refine wpQuiet_nil ?_
              intro wq hw_
              obtain ⟨⟨wz_, hbq⟩, hw_⟩ := hw_
              subst hw_
              try dsimp only
              clear hne_
              have HTN : Hid (AdT w h3 h4 h10 b10 c10 (ep : Int) (n + 1) fl fl #[.int .i64 (ep : Int), .slice (some ⟨b3, 0, none⟩) 6 c3, .int .i64 0] wq) := HT9.out.on hbq
              clear c0 c1 c2 c3' CI9 HT9 hbq
              go_wp2_with fail
              refine ⟨?_, ?_⟩
              · first
                | exact ⟨k9 + 1, by omega, by go_num, HTN⟩
                | ((repeat apply Exists.intro); refine ⟨?_, rfl⟩; exact ⟨k9 + 1, by omega, by go_num, HTN⟩)
              · simp [intOf] <;> omega
            · obtain rfl : k9 = 6 := by omega
              have b9 : ¬ ((6 : Int) + 1 ≤ 6) := by omega
              have b14 : ((ep : Int) != (ep : Int)) = false := by simp
              have CI0 : Hid (∀ W, AdT w h3 h4 h10 b10 c10 (ep : Int) (n + 1) fl fl #[.int .i64 (ep : Int), .slice (some ⟨b3, 0, none⟩) 6 c3, .int .i64 0] W → ∀ q, q = 0 ∨ q = 7 → Calls Tryd.prog 16 #[.agg #[.int .i64 (ep : Int), .slice (some ⟨b10, 0, none⟩) 6 c10, .int .i64 0], .int .i64 q] W fun e w' => e = .returned (.bool false) ∧ Below W.heap.size W w') := fun W hW q hq => by
                have h := in6_any (ep : Int) 0 (lst (n + 1) fl) b10 0 c10 q W rfl hW.g.mm.at
                rcases hq with rfl | rfl
                · rw [inB_0] at h; exact h
                · rw [inB_7] at h; exact h
              have c0 : wr.cell? ⟨h10, 0, none⟩ = some (.int .i64 (ep : Int)) := HT9.out.g.gg.cell 0
              have c1 : wr.cell? ⟨h10, 1, none⟩ = some (.slice (some ⟨b10, 0, none⟩) 6 c10) := HT9.out.g.gg.cell 1
              have c2 : wr.cell? ⟨h10, 2, none⟩ = some (.int .i64 0) := HT9.out.g.gg.cell 2
              go_wp2_with fail
              as_aux_lemma =>
              refine (CI0.out wr HT9.out 0 (.inl rfl)).mono ?_
              rintro e y1 ⟨rfl, hb⟩
              have HY1 : Hid (AdT w h3 h4 h10 b10 c10 (ep : Int) (n + 1) fl fl #[.int .i64 (ep : Int), .slice (some ⟨b3, 0, none⟩) 6 c3, .int .i64 0] y1) := HT9.out.on hb
              clear hb HT9 c0 c1 c2
              have c0 : y1.cell? ⟨h10, 0, none⟩ = some (.int .i64 (ep : Int)) := HY1.out.g.gg.cell 0
              have c1 : y1.cell? ⟨h10, 1, none⟩ = some (.slice (some ⟨b10, 0, none⟩) 6 c10) := HY1.out.g.gg.cell 1
              have c2 : y1.cell? ⟨h10, 2, none⟩ = some (.int .i64 0) := HY1.out.g.gg.cell 2
              go_wp2_with fail
              refine (CI0.out y1 HY1.out 7 (.inr rfl)).mono ?_
              rintro e y2 ⟨rfl, hb⟩
              have HY2 : Hid (AdT w h3 h4 h10 b10 c10 (ep : Int) (n + 1) fl fl #[.int .i64 (ep : Int), .slice (some ⟨b3, 0, none⟩) 6 c3, .int .i64 0] y2) := HY1.out.on hb
              clear hb HY1 c0 c1 c2 CI0
              have c0 : y2.cell? ⟨h10, 0, none⟩ = some (.int .i64 (ep : Int)) := HY2.out.g.gg.cell 0
              have c1 : y2.cell? ⟨h10, 1, none⟩ = some (.slice (some ⟨b10, 0, none⟩) 6 c10) := HY2.out.g.gg.cell 1
              have c2 : y2.cell? ⟨h10, 2, none⟩ = some (.int .i64 0) := HY2.out.g.gg.cell 2
              have X1 := HY2.out.o
              have HZ : Hid (AdS w h3 h4 b10 c10 (ep : Int) (n + 1) fl (y2.setRow h3 #[.int .i64 (ep : Int), .slice (some ⟨b10, 0, none⟩) 6 c10, .int .i64 0])) := by
                have t := HY2.out
                exact ⟨⟨X1.setRow _, t.g.mm.same (setRow_other _ _ _ _ (fun e => t.g.mm.ne X1 e.symm)), below_setRow t.g.bel t.l.1 _, t.l.1, t.g.lb⟩, t.i.setRowOther h3 (blk_types t.i X1 (by decide)) _, t.l.2⟩
              clear HY2
              go_wp2_with (with_reducible refine wpList_storeBlk rfl 24 _ _ rfl h3 #[.int .i64 (ep : Int), .slice (some ⟨b3, 0, none⟩) 6 c3, .int .i64 0] #[.int .i64 (ep : Int), .slice (some ⟨b10, 0, none⟩) 6 c10, .int .i64 0] (by with_unfolding_all rfl) (by with_unfolding_all rfl) X1 rfl (by kernel_rfl) (by kernel_rfl) ?_)
              refine ⟨?_, ?_⟩
              · first
                | exact ⟨n + 1, ep, fl, by omega, by omega, HEN.out, HF0N.out, by go_num, by rfl, ⟨_, _, HZ.out⟩⟩
                | ((repeat apply Exists.intro); refine ⟨?_, rfl⟩; exact ⟨n + 1, ep, fl, by omega, by omega, HEN.out, HF0N.out, by go_num, by rfl, ⟨_, _, HZ.out⟩⟩)
              · simp [intOf] <;> omega
      · -- Remove
        cases x with
        | false =>
          as_aux_lemma =>
          have hD : doesB 3 fl k = false := by unfold doesB; rw [if_neg (by decide), if_pos rfl, Hx.out]; rfl
          have hEK : epK 3 fl k ep = ep := by unfold epK; rw [hD]; exact if_neg (by decide)
          have hFK : flK 3 fl k = fl := by unfold flK; rw [hD]; exact if_neg (by simp)
          have CJJ : Hid (∀ W, Below w.heap.size w W → RowM W b3 c3 (lst n fl) → Calls Tryd.prog 11 #[.agg #[.int .i64 (ep : Int), .slice (some ⟨b3, 0, none⟩) 6 c3, .int .i64 0], .int .i64 (ep : Int), .agg #[.int .i64 3, .int .i64 1, .int .i64 ((n : Int) + 1), .int .i64 0, .string Z, .int .i64 0, .int .i64 0, .int .i64 0, .int .i64 0, .int .i64 0, .int .i64 0, .int .i64 0, .string ⟨#[]⟩, .string ⟨#[]⟩, .int .i64 (c1 : Int), .slice none 0 0]] W fun e w' => ∃ b' c', e = .returned (.tuple #[.agg #[.int .i64 (ep : Int), .slice (some ⟨b', 0, none⟩) 6 c', .int .i64 0], .bool false, .int .i64 0]) ∧ W.heap.size ≤ b' ∧ RowM w' b' c' (lst (n + 1) fl) ∧ Below W.heap.size W w') := fun W hb hm => by
            have h := CJ.out W (c1 : Int) (by unfold whoK; rw [if_neg (by decide)]; have := HKC.out; omega) hb hm
            rw [hD, hEK, hFK] at h
            exact h
          have HEN : Hid (1 ≤ ep ∧ ep ≤ n + 1 + 1) := ⟨by have := HE.out; omega, by have := HE.out; omega⟩
          have HF0N : Hid (fl 0 = true) := by show _ = _; rw [← hFK]; exact flK_0 3 fl k HF0.out HKC.out.2 (by decide)
          clear hD hEK hFK CJ
          have nn := below_new w2 (.cells #[.int .i64 3, .int .i64 1, .int .i64 ((n : Int) + 1), .int .i64 0, .string Z, .int .i64 0, .int .i64 0, .int .i64 0, .int .i64 0, .int .i64 0, .int .i64 0, .int .i64 0, .string ⟨#[]⟩, .string ⟨#[]⟩, .int .i64 (c1 : Int), .slice none 0 0] 31)
          obtain ⟨w3, hw3⟩ : ∃ w3, w2.alloc (.cells #[.int .i64 3, .int .i64 1, .int .i64 ((n : Int) + 1), .int .i64 0, .string Z, .int .i64 0, .int .i64 0, .int .i64 0, .int .i64 0, .int .i64 0, .int .i64 0, .int .i64 0, .string ⟨#[]⟩, .string ⟨#[]⟩, .int .i64 (c1 : Int), .slice none 0 0] 31) = w3 := ⟨_, rfl⟩
          rw [hw3] at nn
          have HA3 : Hid (AdS w h3 h4 b3 c3 (ep : Int) n fl w3) := HA2.out.on nn
          have HR3 : Hid (Blk w3 31 w2.heap.size #[.int .i64 3, .int .i64 1, .int .i64 ((n : Int) + 1), .int .i64 0, .string Z, .int .i64 0, .int .i64 0, .int .i64 0, .int .i64 0, .int .i64 0, .int .i64 0, .int .i64 0, .string ⟨#[]⟩, .string ⟨#[]⟩, .int .i64 (c1 : Int), .slice none 0 0]) := by show Blk _ _ _ _; rw [← hw3]; exact Blk.new _ _ _
          have d0 : w3.cell? ⟨h3, 0, none⟩ = some (.int .i64 (ep : Int)) := HA3.out.g.gg.cell 0
          have d1 : w3.cell? ⟨h3, 1, none⟩ = some (.slice (some ⟨b3, 0, none⟩) 6 c3) := HA3.out.g.gg.cell 1
          have d2 : w3.cell? ⟨h3, 2, none⟩ = some (.int .i64 0) := HA3.out.g.gg.cell 2
          have d3 : w3.cell? ⟨h4, c1, none⟩ = some (.bool false) := by rw [HA3.out.i.cell, ← HKC.out.1, inA_at _ _ HKC.out.2, Hx.out]
          have HW3 : Hid (_ = w3) := hw3
          rw [← hw3] at d0 d1 d2 d3
          clear hw3 nn
          go_wp2_with fail
          rw [HW3.out]
          clear d0 d1 d2 d3 HW3 HA2
          as_aux_lemma =>
          refine (CJJ.out w3 HA3.out.g.bel HA3.out.g.mm).mono ?_
          rintro e w5 ⟨b10, c10, rfl, hb10, hm10, hb⟩
          have HT5 : Hid (AdT w h3 h4 w5.heap.size b10 c10 (ep : Int) (n + 1) fl fl #[.int .i64 (ep : Int), .slice (some ⟨b3, 0, none⟩) 6 c3, .int .i64 0] (w5.alloc (.cells #[.int .i64 (ep : Int), .slice (some ⟨b10, 0, none⟩) 6 c10, .int .i64 0] 24))) := by
            have t := HA3.out.on hb
            have n5 := below_new w5 (.cells #[.int .i64 (ep : Int), .slice (some ⟨b10, 0, none⟩) 6 c10, .int .i64 0] 24)
            exact ⟨t.g.gg.on n5, ⟨Blk.new _ _ _, hm10.on n5, below_step t.g.bel (Nat.le_refl _) n5, t.g.bel.size, Nat.le_trans HA3.out.g.bel.size hb10⟩, t.i.on n5, t.g.lh, t.l4⟩
          have HR5 : Hid (Blk (w5.alloc (.cells #[.int .i64 (ep : Int), .slice (some ⟨b10, 0, none⟩) 6 c10, .int .i64 0] 24)) 31 w2.heap.size #[.int .i64 3, .int .i64 1, .int .i64 ((n : Int) + 1), .int .i64 0, .string Z, .int .i64 0, .int .i64 0, .int .i64 0, .int .i64 0, .int .i64 0, .int .i64 0, .int .i64 0, .string ⟨#[]⟩, .string ⟨#[]⟩, .int .i64 (c1 : Int), .slice none 0 0]) := (HR3.out.on hb).on (below_new _ _)
          obtain ⟨w6, hw6⟩ : ∃ w6, w5.alloc (.cells #[.int .i64 (ep : Int), .slice (some ⟨b10, 0, none⟩) 6 c10, .int .i64 0] 24) = w6 := ⟨_, rfl⟩
          obtain ⟨h10, hh10⟩ : ∃ h10, w5.heap.size = h10 := ⟨_, rfl⟩
          rw [hw6, hh10] at HT5
          rw [hw6] at HR5
          have r0 : w6.cell? ⟨w2.heap.size, 0, none⟩ = some (.int .i64 3) := HR5.out.cell 0
          have HT : Hid (AdT w h3 h4 h10 b10 c10 (ep : Int) (n + 1) fl fl #[.int .i64 (ep : Int), .slice (some ⟨b3, 0, none⟩) 6 c3, .int .i64 0] w6) := HT5.out
          have HW6 : Hid (_ = w6) := hw6
          rw [← hw6] at r0
          clear hw6 hb10 hm10 hb HA3 HR3 HT5 HR5 CJJ
          go_wp2_with fail
          try rw [HW6.out]
          try rw [hh10]
          clear r0 HW6 hh10
          as_aux_lemma =>
          -- HT : Hid (AdT w h3 h4 h10 b10 c10 (ep : Int) (n + 1) fl fl G V); slot 5 = (ep : Int)
          go_loopw [13] (fun v wx => ∃ k9 : Nat, k9 ≤ 6 ∧ v = .int .i64 ((k9 : Int) + 1) ∧ Hid (AdT w h3 h4 h10 b10 c10 (ep : Int) (n + 1) fl fl #[.int .i64 (ep : Int), .slice (some ⟨b3, 0, none⟩) 6 c3, .int .i64 0] wx)) (fun v _ => 8 - (intOf v).toNat)
          case atStart => exact ⟨0, Nat.zero_le _, rfl, HT⟩
          case round =>
            clear HT
            obtain ⟨k9, hk9, rfl, HT9⟩ := hrel
            by_cases hlt9 : k9 < 6
            · have b9 : (k9 : Int) + 1 ≤ 6 := by omega
              have b10' : (0 : Int) ≤ (k9 : Int) + 1 := by omega
              have b11 : (k9 : Int) + 1 < 7 := by omega
              have b12 : ((k9 : Int) + 1).toNat = k9 + 1 := by omega
              have b13 : IntKind.i64.wrap ((k9 : Int) + 1 + 1) = (k9 : Int) + 1 + 1 := by rw [IntKind.wrap_i64]; omega
              obtain ⟨z, hz⟩ : ∃ z, fl k9 = z := ⟨_, rfl⟩
              have b14 : (z != z) = false := by cases z <;> rfl
              have CI9 : Hid (∀ p : Beh wr, Calls Tryd.prog 16 #[.agg #[.int .i64 (ep : Int), .slice (some ⟨b10, 0, none⟩) 6 c10, .int .i64 0], .int .i64 ((k9 : Int) + 1)] p.w' fun e w' => e = .returned (.bool z) ∧ Below p.w'.heap.size p.w' w') := fun p => by
                have h := in6_any (ep : Int) 0 (lst (n + 1) fl) b10 0 c10 ((k9 : Int) + 1) p.w' rfl ((HT9.out.on p.h).g.mm.at)
                rw [inB_lst _ _ _ hlt9, hz] at h
                exact h
              have c0 : ∀ p : Beh wr, p.w'.cell? ⟨h10, 0, none⟩ = some (.int .i64 (ep : Int)) := fun p => (HT9.out.on p.h).g.gg.cell 0
              have c1 : ∀ p : Beh wr, p.w'.cell? ⟨h10, 1, none⟩ = some (.slice (some ⟨b10, 0, none⟩) 6 c10) := fun p => (HT9.out.on p.h).g.gg.cell 1
              have c2 : ∀ p : Beh wr, p.w'.cell? ⟨h10, 2, none⟩ = some (.int .i64 0) := fun p => (HT9.out.on p.h).g.gg.cell 2
              have c3' : ∀ p : Beh wr, p.w'.cell? ⟨h4, k9 + 1, none⟩ = some (.bool z) := fun p => by rw [(HT9.out.on p.h).i.cell, inA_at _ _ hlt9, hz]
              clear hz
              go_wp2_with fail
              have hne_ : Nonempty (Beh wr) := ⟨⟨_, Below.refl _ _⟩⟩
              refine wp_region_quiet_beh (by kernel_rfl) (by kernel_rfl) ?_
              repeat (quiet_step (first | (go_at_call 16; refine Calls.beh_of (CI9.out _))))
              refine wpQuiet_nil ?_
              intro wq hw_
              obtain ⟨⟨wz_, hbq⟩, hw_⟩ := hw_
              subst hw_
              try dsimp only
              clear hne_
              have HTN : Hid (AdT w h3 h4 h10 b10 c10 (ep : Int) (n + 1) fl fl #[.int .i64 (ep : Int), .slice (some ⟨b3, 0, none⟩) 6 c3, .int .i64 0] wq) := HT9.out.on hbq
              clear c0 c1 c2 c3' CI9 HT9 hbq
              go_wp2_with fail
              refine ⟨?_, ?_⟩
              · first
                | exact ⟨k9 + 1, by omega, by go_num, HTN⟩
                | ((repeat apply Exists.intro); refine ⟨?_, rfl⟩; exact ⟨k9 + 1, by omega, by go_num, HTN⟩)
              · simp [intOf] <;> omega
            · obtain rfl : k9 = 6 := by omega
              have b9 : ¬ ((6 : Int) + 1 ≤ 6) := by omega
              have b14 : ((ep : Int) != (ep : Int)) = false := by simp
              have CI0 : Hid (∀ W, AdT w h3 h4 h10 b10 c10 (ep : Int) (n + 1) fl fl #[.int .i64 (ep : Int), .slice (some ⟨b3, 0, none⟩) 6 c3, .int .i64 0] W → ∀ q, q = 0 ∨ q = 7 → Calls Tryd.prog 16 #[.agg #[.int .i64 (ep : Int), .slice (some ⟨b10, 0, none⟩) 6 c10, .int .i64 0], .int .i64 q] W fun e w' => e = .returned (.bool false) ∧ Below W.heap.size W w') := fun W hW q hq => by
                have h := in6_any (ep : Int) 0 (lst (n + 1) fl) b10 0 c10 q W rfl hW.g.mm.at
                rcases hq with rfl | rfl
                · rw [inB_0] at h; exact h
                · rw [inB_7] at h; exact h
              have c0 : wr.cell? ⟨h10, 0, none⟩ = some (.int .i64 (ep : Int)) := HT9.out.g.gg.cell 0
              have c1 : wr.cell? ⟨h10, 1, none⟩ = some (.slice (some ⟨b10, 0, none⟩) 6 c10) := HT9.out.g.gg.cell 1
              have c2 : wr.cell? ⟨h10, 2, none⟩ = some (.int .i64 0) := HT9.out.g.gg.cell 2
              go_wp2_with fail
              as_aux_lemma =>
              refine (CI0.out wr HT9.out 0 (.inl rfl)).mono ?_
              rintro e y1 ⟨rfl, hb⟩
              have HY1 : Hid (AdT w h3 h4 h10 b10 c10 (ep : Int) (n + 1) fl fl #[.int .i64 (ep : Int), .slice (some ⟨b3, 0, none⟩) 6 c3, .int .i64 0] y1) := HT9.out.on hb
              clear hb HT9 c0 c1 c2
              have c0 : y1.cell? ⟨h10, 0, none⟩ = some (.int .i64 (ep : Int)) := HY1.out.g.gg.cell 0
              have c1 : y1.cell? ⟨h10, 1, none⟩ = some (.slice (some ⟨b10, 0, none⟩) 6 c10) := HY1.out.g.gg.cell 1
              have c2 : y1.cell? ⟨h10, 2, none⟩ = some (.int .i64 0) := HY1.out.g.gg.cell 2
              go_wp2_with fail
              refine (CI0.out y1 HY1.out 7 (.inr rfl)).mono ?_
              rintro e y2 ⟨rfl, hb⟩
              have HY2 : Hid (AdT w h3 h4 h10 b10 c10 (ep : Int) (n + 1) fl fl #[.int .i64 (ep : Int), .slice (some ⟨b3, 0, none⟩) 6 c3, .int .i64 0] y2) := HY1.out.on hb
              clear hb HY1 c0 c1 c2 CI0
              have c0 : y2.cell? ⟨h10, 0, none⟩ = some (.int .i64 (ep : Int)) := HY2.out.g.gg.cell 0
              have c1 : y2.cell? ⟨h10, 1, none⟩ = some (.slice (some ⟨b10, 0, none⟩) 6 c10) := HY2.out.g.gg.cell 1
              have c2 : y2.cell? ⟨h10, 2, none⟩ = some (.int .i64 0) := HY2.out.g.gg.cell 2
              have X1 := HY2.out.o
              have HZ : Hid (AdS w h3 h4 b10 c10 (ep : Int) (n + 1) fl (y2.setRow h3 #[.int .i64 (ep : Int), .slice (some ⟨b10, 0, none⟩) 6 c10, .int .i64 0])) := by
                have t := HY2.out
                exact ⟨⟨X1.setRow _, t.g.mm.same (setRow_other _ _ _ _ (fun e => t.g.mm.ne X1 e.symm)), below_setRow t.g.bel t.l.1 _, t.l.1, t.g.lb⟩, t.i.setRowOther h3 (blk_types t.i X1 (by decide)) _, t.l.2⟩
              clear HY2
              go_wp2_with (with_reducible refine wpList_storeBlk rfl 24 _ _ rfl h3 #[.int .i64 (ep : Int), .slice (some ⟨b3, 0, none⟩) 6 c3, .int .i64 0] #[.int .i64 (ep : Int), .slice (some ⟨b10, 0, none⟩) 6 c10, .int .i64 0] (by with_unfolding_all rfl) (by with_unfolding_all rfl) X1 rfl (by kernel_rfl) (by kernel_rfl) ?_)
              refine ⟨?_, ?_⟩
              · first
                | exact ⟨n + 1, ep, fl, by omega, by omega, HEN.out, HF0N.out, by go_num, by rfl, ⟨_, _, HZ.out⟩⟩
                | ((repeat apply Exists.intro); refine ⟨?_, rfl⟩; exact ⟨n + 1, ep, fl, by omega, by omega, HEN.out, HF0N.out, by go_num, by rfl, ⟨_, _, HZ.out⟩⟩)
              · simp [intOf] <;> omega
        | true =>
          obtain ⟨y, hy⟩ : ∃ y, ((c1 : Int) != 1) = y := ⟨_, rfl⟩
          cases y with
          | false =>
            as_aux_lemma =>
            have hD : doesB 3 fl k = false := by unfold doesB; rw [if_neg (by decide), if_pos rfl, Hx.out]; rw [show ((k : Int) + 1 != 1) = false from by rw [show (k : Int) + 1 = (c1 : Int) by have := HKC.out; omega]; exact hy]; rfl
            have hEK : epK 3 fl k ep = ep := by unfold epK; rw [hD]; exact if_neg (by decide)
            have hFK : flK 3 fl k = fl := by unfold flK; rw [hD]; exact if_neg (by simp)
            have CJJ : Hid (∀ W, Below w.heap.size w W → RowM W b3 c3 (lst n fl) → Calls Tryd.prog 11 #[.agg #[.int .i64 (ep : Int), .slice (some ⟨b3, 0, none⟩) 6 c3, .int .i64 0], .int .i64 (ep : Int), .agg #[.int .i64 3, .int .i64 1, .int .i64 ((n : Int) + 1), .int .i64 0, .string Z, .int .i64 0, .int .i64 0, .int .i64 0, .int .i64 0, .int .i64 0, .int .i64 0, .int .i64 0, .string ⟨#[]⟩, .string ⟨#[]⟩, .int .i64 (c1 : Int), .slice none 0 0]] W fun e w' => ∃ b' c', e = .returned (.tuple #[.agg #[.int .i64 (ep : Int), .slice (some ⟨b', 0, none⟩) 6 c', .int .i64 0], .bool false, .int .i64 0]) ∧ W.heap.size ≤ b' ∧ RowM w' b' c' (lst (n + 1) fl) ∧ Below W.heap.size W w') := fun W hb hm => by
              have h := CJ.out W (c1 : Int) (by unfold whoK; rw [if_neg (by decide)]; have := HKC.out; omega) hb hm
              rw [hD, hEK, hFK] at h
              exact h
            have HEN : Hid (1 ≤ ep ∧ ep ≤ n + 1 + 1) := ⟨by have := HE.out; omega, by have := HE.out; omega⟩
            have HF0N : Hid (fl 0 = true) := by show _ = _; rw [← hFK]; exact flK_0 3 fl k HF0.out HKC.out.2 (by decide)
            clear hD hEK hFK CJ
            have nn := below_new w2 (.cells #[.int .i64 3, .int .i64 1, .int .i64 ((n : Int) + 1), .int .i64 0, .string Z, .int .i64 0, .int .i64 0, .int .i64 0, .int .i64 0, .int .i64 0, .int .i64 0, .int .i64 0, .string ⟨#[]⟩, .string ⟨#[]⟩, .int .i64 (c1 : Int), .slice none 0 0] 31)
            obtain ⟨w3, hw3⟩ : ∃ w3, w2.alloc (.cells #[.int .i64 3, .int .i64 1, .int .i64 ((n : Int) + 1), .int .i64 0, .string Z, .int .i64 0, .int .i64 0, .int .i64 0, .int .i64 0, .int .i64 0, .int .i64 0, .int .i64 0, .string ⟨#[]⟩, .string ⟨#[]⟩, .int .i64 (c1 : Int), .slice none 0 0] 31) = w3 := ⟨_, rfl⟩
            rw [hw3] at nn
            have HA3 : Hid (AdS w h3 h4 b3 c3 (ep : Int) n fl w3) := HA2.out.on nn
            have HR3 : Hid (Blk w3 31 w2.heap.size #[.int .i64 3, .int .i64 1, .int .i64 ((n : Int) + 1), .int .i64 0, .string Z, .int .i64 0, .int .i64 0, .int .i64 0, .int .i64 0, .int .i64 0, .int .i64 0, .int .i64 0, .string ⟨#[]⟩, .string ⟨#[]⟩, .int .i64 (c1 : Int), .slice none 0 0]) := by show Blk _ _ _ _; rw [← hw3]; exact Blk.new _ _ _
            have d0 : w3.cell? ⟨h3, 0, none⟩ = some (.int .i64 (ep : Int)) := HA3.out.g.gg.cell 0
            have d1 : w3.cell? ⟨h3, 1, none⟩ = some (.slice (some ⟨b3, 0, none⟩) 6 c3) := HA3.out.g.gg.cell 1
            have d2 : w3.cell? ⟨h3, 2, none⟩ = some (.int .i64 0) := HA3.out.g.gg.cell 2
            have d3 : w3.cell? ⟨h4, c1, none⟩ = some (.bool true) := by rw [HA3.out.i.cell, ← HKC.out.1, inA_at _ _ HKC.out.2, Hx.out]
            have HW3 : Hid (_ = w3) := hw3
            rw [← hw3] at d0 d1 d2 d3
            clear hw3 nn
            go_wp2_with fail
            rw [HW3.out]
            clear d0 d1 d2 d3 HW3 HA2
            as_aux_lemma =>
            refine (CJJ.out w3 HA3.out.g.bel HA3.out.g.mm).mono ?_
            rintro e w5 ⟨b10, c10, rfl, hb10, hm10, hb⟩
            have HT5 : Hid (AdT w h3 h4 w5.heap.size b10 c10 (ep : Int) (n + 1) fl fl #[.int .i64 (ep : Int), .slice (some ⟨b3, 0, none⟩) 6 c3, .int .i64 0] (w5.alloc (.cells #[.int .i64 (ep : Int), .slice (some ⟨b10, 0, none⟩) 6 c10, .int .i64 0] 24))) := by
              have t := HA3.out.on hb
              have n5 := below_new w5 (.cells #[.int .i64 (ep : Int), .slice (some ⟨b10, 0, none⟩) 6 c10, .int .i64 0] 24)
              exact ⟨t.g.gg.on n5, ⟨Blk.new _ _ _, hm10.on n5, below_step t.g.bel (Nat.le_refl _) n5, t.g.bel.size, Nat.le_trans HA3.out.g.bel.size hb10⟩, t.i.on n5, t.g.lh, t.l4⟩
            have HR5 : Hid (Blk (w5.alloc (.cells #[.int .i64 (ep : Int), .slice (some ⟨b10, 0, none⟩) 6 c10, .int .i64 0] 24)) 31 w2.heap.size #[.int .i64 3, .int .i64 1, .int .i64 ((n : Int) + 1), .int .i64 0, .string Z, .int .i64 0, .int .i64 0, .int .i64 0, .int .i64 0, .int .i64 0, .int .i64 0, .int .i64 0, .string ⟨#[]⟩, .string ⟨#[]⟩, .int .i64 (c1 : Int), .slice none 0 0]) := (HR3.out.on hb).on (below_new _ _)
            obtain ⟨w6, hw6⟩ : ∃ w6, w5.alloc (.cells #[.int .i64 (ep : Int), .slice (some ⟨b10, 0, none⟩) 6 c10, .int .i64 0] 24) = w6 := ⟨_, rfl⟩
            obtain ⟨h10, hh10⟩ : ∃ h10, w5.heap.size = h10 := ⟨_, rfl⟩
            rw [hw6, hh10] at HT5
            rw [hw6] at HR5
            have r0 : w6.cell? ⟨w2.heap.size, 0, none⟩ = some (.int .i64 3) := HR5.out.cell 0
            have HT : Hid (AdT w h3 h4 h10 b10 c10 (ep : Int) (n + 1) fl fl #[.int .i64 (ep : Int), .slice (some ⟨b3, 0, none⟩) 6 c3, .int .i64 0] w6) := HT5.out
            have HW6 : Hid (_ = w6) := hw6
            rw [← hw6] at r0
            clear hw6 hb10 hm10 hb HA3 HR3 HT5 HR5 CJJ
            go_wp2_with fail
            try rw [HW6.out]
            try rw [hh10]
            clear r0 HW6 hh10
            as_aux_lemma =>
            -- HT : Hid (AdT w h3 h4 h10 b10 c10 (ep : Int) (n + 1) fl fl G V); slot 5 = (ep : Int)
            go_loopw [13] (fun v wx => ∃ k9 : Nat, k9 ≤ 6 ∧ v = .int .i64 ((k9 : Int) + 1) ∧ Hid (AdT w h3 h4 h10 b10 c10 (ep : Int) (n + 1) fl fl #[.int .i64 (ep : Int), .slice (some ⟨b3, 0, none⟩) 6 c3, .int .i64 0] wx)) (fun v _ => 8 - (intOf v).toNat)
            case atStart => exact ⟨0, Nat.zero_le _, rfl, HT⟩
            case round =>
              clear HT
              obtain ⟨k9, hk9, rfl, HT9⟩ := hrel
              by_cases hlt9 : k9 < 6
              · have b9 : (k9 : Int) + 1 ≤ 6 := by omega
                have b10' : (0 : Int) ≤ (k9 : Int) + 1 := by omega
                have b11 : (k9 : Int) + 1 < 7 := by omega
                have b12 : ((k9 : Int) + 1).toNat = k9 + 1 := by omega
                have b13 : IntKind.i64.wrap ((k9 : Int) + 1 + 1) = (k9 : Int) + 1 + 1 := by rw [IntKind.wrap_i64]; omega
                obtain ⟨z, hz⟩ : ∃ z, fl k9 = z := ⟨_, rfl⟩
                have b14 : (z != z) = false := by cases z <;> rfl
                have CI9 : Hid (∀ p : Beh wr, Calls Tryd.prog 16 #[.agg #[.int .i64 (ep : Int), .slice (some ⟨b10, 0, none⟩) 6 c10, .int .i64 0], .int .i64 ((k9 : Int) + 1)] p.w' fun e w' => e = .returned (.bool z) ∧ Below p.w'.heap.size p.w' w') := fun p => by
                  have h := in6_any (ep : Int) 0 (lst (n + 1) fl) b10 0 c10 ((k9 : Int) + 1) p.w' rfl ((HT9.out.on p.h).g.mm.at)
                  rw [inB_lst _ _ _ hlt9, hz] at h
                  exact h
                have c0 : ∀ p : Beh wr, p.w'.cell? ⟨h10, 0, none⟩ = some (.int .i64 (ep : Int)) := fun p => (HT9.out.on p.h).g.gg.cell 0
                have c1 : ∀ p : Beh wr, p.w'.cell? ⟨h10, 1, none⟩ = some (.slice (some ⟨b10, 0, none⟩) 6 c10) := fun p => (HT9.out.on p.h).g.gg.cell 1
                have c2 : ∀ p : Beh wr, p.w'.cell? ⟨h10, 2, none⟩ = some (.int .i64 0) := fun p => (HT9.out.on p.h).g.gg.cell 2
                have c3' : ∀ p : Beh wr, p.w'.cell? ⟨h4, k9 + 1, none⟩ = some (.bool z) := fun p => by rw [(HT9.out.on p.h).i.cell, inA_at _ _ hlt9, hz]
                clear hz
                go_wp2_with fail
                have hne_ : Nonempty (Beh wr) := ⟨⟨_, Below.refl _ _⟩⟩
                refine wp_region_quiet_beh (by kernel_rfl) (by kernel_rfl) ?_
                repeat (quiet_step (first | (go_at_call 16; refine Calls.beh_of (CI9.out _))))
                refine wpQuiet_nil ?_
                intro wq hw_
                obtain ⟨⟨wz_, hbq⟩, hw_⟩ := hw_
                subst hw_
                try dsimp only
                clear hne_
                have HTN : Hid (AdT w h3 h4 h10 b10 c10 (ep : Int) (n + 1) fl fl #[.int .i64 (ep : Int), .slice (some ⟨b3, 0, none⟩) 6 c3, .int .i64 0] wq) := HT9.out.on hbq
                clear c0 c1 c2 c3' CI9 HT9 hbq
                go_wp2_with fail
                refine ⟨?_, ?_⟩
                · first
                  | exact ⟨k9 + 1, by omega, by go_num, HTN⟩
                  | ((repeat apply Exists.intro); refine ⟨?_, rfl⟩; exact ⟨k9 + 1, by omega, by go_num, HTN⟩)
                · simp [intOf] <;> omega
              · obtain rfl : k9 = 6 := by omega
                have b9 : ¬ ((6 : Int) + 1 ≤ 6) := by omega
                have b14 : ((ep : Int) != (ep : Int)) = false := by simp
                have CI0 : Hid (∀ W, AdT w h3 h4 h10 b10 c10 (ep : Int) (n + 1) fl fl #[.int .i64 (ep : Int), .slice (some ⟨b3, 0, none⟩) 6 c3, .int .i64 0] W → ∀ q, q = 0 ∨ q = 7 → Calls Tryd.prog 16 #[.agg #[.int .i64 (ep : Int), .slice (some ⟨b10, 0, none⟩) 6 c10, .int .i64 0], .int .i64 q] W fun e w' => e = .returned (.bool false) ∧ Below W.heap.size W w') := fun W hW q hq => by
                  have h := in6_any (ep : Int) 0 (lst (n + 1) fl) b10 0 c10 q W rfl hW.g.mm.at
                  rcases hq with rfl | rfl
                  · rw [inB_0] at h; exact h
                  · rw [inB_7] at h; exact h
                have c0 : wr.cell? ⟨h10, 0, none⟩ = some (.int .i64 (ep : Int)) := HT9.out.g.gg.cell 0
                have c1 : wr.cell? ⟨h10, 1, none⟩ = some (.slice (some ⟨b10, 0, none⟩) 6 c10) := HT9.out.g.gg.cell 1
                have c2 : wr.cell? ⟨h10, 2, none⟩ = some (.int .i64 0) := HT9.out.g.gg.cell 2
                go_wp2_with fail
                as_aux_lemma =>
                refine (CI0.out wr HT9.out 0 (.inl rfl)).mono ?_
                rintro e y1 ⟨rfl, hb⟩
                have HY1 : Hid (AdT w h3 h4 h10 b10 c10 (ep : Int) (n + 1) fl fl #[.int .i64 (ep : Int), .slice (some ⟨b3, 0, none⟩) 6 c3, .int .i64 0] y1) := HT9.out.on hb
                clear hb HT9 c0 c1 c2
                have c0 : y1.cell? ⟨h10, 0, none⟩ = some (.int .i64 (ep : Int)) := HY1.out.g.gg.cell 0
                have c1 : y1.cell? ⟨h10, 1, none⟩ = some (.slice (some ⟨b10, 0, none⟩) 6 c10) := HY1.out.g.gg.cell 1
                have c2 : y1.cell? ⟨h10, 2, none⟩ = some (.int .i64 0) := HY1.out.g.gg.cell 2
                go_wp2_with fail
                refine (CI0.out y1 HY1.out 7 (.inr rfl)).mono ?_
                rintro e y2 ⟨rfl, hb⟩
                have HY2 : Hid (AdT w h3 h4 h10 b10 c10 (ep : Int) (n + 1) fl fl #[.int .i64 (ep : Int), .slice (some ⟨b3, 0, none⟩) 6 c3, .int .i64 0] y2) := HY1.out.on hb
                clear hb HY1 c0 c1 c2 CI0
                have c0 : y2.cell? ⟨h10, 0, none⟩ = some (.int .i64 (ep : Int)) := HY2.out.g.gg.cell 0
                have c1 : y2.cell? ⟨h10, 1, none⟩ = some (.slice (some ⟨b10, 0, none⟩) 6 c10) := HY2.out.g.gg.cell 1
                have c2 : y2.cell? ⟨h10, 2, none⟩ = some (.int .i64 0) := HY2.out.g.gg.cell 2
                have X1 := HY2.out.o
                have HZ : Hid (AdS w h3 h4 b10 c10 (ep : Int) (n + 1) fl (y2.setRow h3 #[.int .i64 (ep : Int), .slice (some ⟨b10, 0, none⟩) 6 c10, .int .i64 0])) := by
                  have t := HY2.out
                  exact ⟨⟨X1.setRow _, t.g.mm.same (setRow_other _ _ _ _ (fun e => t.g.mm.ne X1 e.symm)), below_setRow t.g.bel t.l.1 _, t.l.1, t.g.lb⟩, t.i.setRowOther h3 (blk_types t.i X1 (by decide)) _, t.l.2⟩
                clear HY2
                go_wp2_with (with_reducible refine wpList_storeBlk rfl 24 _ _ rfl h3 #[.int .i64 (ep : Int), .slice (some ⟨b3, 0, none⟩) 6 c3, .int .i64 0] #[.int .i64 (ep : Int), .slice (some ⟨b10, 0, none⟩) 6 c10, .int .i64 0] (by with_unfolding_all rfl) (by with_unfolding_all rfl) X1 rfl (by kernel_rfl) (by kernel_rfl) ?_)
                refine ⟨?_, ?_⟩
                · first
                  | exact ⟨n + 1, ep, fl, by omega, by omega, HEN.out, HF0N.out, by go_num, by rfl, ⟨_, _, HZ.out⟩⟩
                  | ((repeat apply Exists.intro); refine ⟨?_, rfl⟩; exact ⟨n + 1, ep, fl, by omega, by omega, HEN.out, HF0N.out, by go_num, by rfl, ⟨_, _, HZ.out⟩⟩)
                · simp [intOf] <;> omega
          | true =>
            as_aux_lemma =>
            have hD : doesB 3 fl k = true := by unfold doesB; rw [if_neg (by decide), if_pos rfl, Hx.out]; rw [show ((k : Int) + 1 != 1) = true from by rw [show (k : Int) + 1 = (c1 : Int) by have := HKC.out; omega]; exact hy]; rfl
            have hEK : epK 3 fl k ep = (ep + 1) := by unfold epK; rw [hD]; exact if_pos rfl
            have hFK : flK 3 fl k = (updF fl k false) := by unfold flK; rw [hD]; exact if_pos ⟨rfl, by decide⟩
            have CJJ : Hid (∀ W, Below w.heap.size w W → RowM W b3 c3 (lst n fl) → Calls Tryd.prog 11 #[.agg #[.int .i64 (ep : Int), .slice (some ⟨b3, 0, none⟩) 6 c3, .int .i64 0], .int .i64 (ep : Int), .agg #[.int .i64 3, .int .i64 1, .int .i64 ((n : Int) + 1), .int .i64 0, .string Z, .int .i64 0, .int .i64 0, .int .i64 0, .int .i64 0, .int .i64 0, .int .i64 0, .int .i64 0, .string ⟨#[]⟩, .string ⟨#[]⟩, .int .i64 (c1 : Int), .slice none 0 0]] W fun e w' => ∃ b' c', e = .returned (.tuple #[.agg #[.int .i64 ((ep : Int) + 1), .slice (some ⟨b', 0, none⟩) 6 c', .int .i64 0], .bool true, .int .i64 0]) ∧ W.heap.size ≤ b' ∧ RowM w' b' c' (lst (n + 1) (updF fl k false)) ∧ Below W.heap.size W w') := fun W hb hm => by
              have h := CJ.out W (c1 : Int) (by unfold whoK; rw [if_neg (by decide)]; have := HKC.out; omega) hb hm
              rw [hD, hEK, hFK] at h
              exact h
            have HEN : Hid (1 ≤ (ep + 1) ∧ (ep + 1) ≤ n + 1 + 1) := ⟨by have := HE.out; omega, by have := HE.out; omega⟩
            have HF0N : Hid ((updF fl k false) 0 = true) := by show _ = _; rw [← hFK]; exact flK_0 3 fl k HF0.out HKC.out.2 (by decide)
            clear hD hEK hFK CJ
            have nn := below_new w2 (.cells #[.int .i64 3, .int .i64 1, .int .i64 ((n : Int) + 1), .int .i64 0, .string Z, .int .i64 0, .int .i64 0, .int .i64 0, .int .i64 0, .int .i64 0, .int .i64 0, .int .i64 0, .string ⟨#[]⟩, .string ⟨#[]⟩, .int .i64 (c1 : Int), .slice none 0 0] 31)
            obtain ⟨w3, hw3⟩ : ∃ w3, w2.alloc (.cells #[.int .i64 3, .int .i64 1, .int .i64 ((n : Int) + 1), .int .i64 0, .string Z, .int .i64 0, .int .i64 0, .int .i64 0, .int .i64 0, .int .i64 0, .int .i64 0, .int .i64 0, .string ⟨#[]⟩, .string ⟨#[]⟩, .int .i64 (c1 : Int), .slice none 0 0] 31) = w3 := ⟨_, rfl⟩
            rw [hw3] at nn
            have HA3 : Hid (AdS w h3 h4 b3 c3 (ep : Int) n fl w3) := HA2.out.on nn
            have HR3 : Hid (Blk w3 31 w2.heap.size #[.int .i64 3, .int .i64 1, .int .i64 ((n : Int) + 1), .int .i64 0, .string Z, .int .i64 0, .int .i64 0, .int .i64 0, .int .i64 0, .int .i64 0, .int .i64 0, .int .i64 0, .string ⟨#[]⟩, .string ⟨#[]⟩, .int .i64 (c1 : Int), .slice none 0 0]) := by show Blk _ _ _ _; rw [← hw3]; exact Blk.new _ _ _
            have d0 : w3.cell? ⟨h3, 0, none⟩ = some (.int .i64 (ep : Int)) := HA3.out.g.gg.cell 0
            have d1 : w3.cell? ⟨h3, 1, none⟩ = some (.slice (some ⟨b3, 0, none⟩) 6 c3) := HA3.out.g.gg.cell 1
            have d2 : w3.cell? ⟨h3, 2, none⟩ = some (.int .i64 0) := HA3.out.g.gg.cell 2
            have d3 : w3.cell? ⟨h4, c1, none⟩ = some (.bool true) := by rw [HA3.out.i.cell, ← HKC.out.1, inA_at _ _ HKC.out.2, Hx.out]
            have HW3 : Hid (_ = w3) := hw3
            rw [← hw3] at d0 d1 d2 d3
            clear hw3 nn
            go_wp2_with fail
            rw [HW3.out]
            clear d0 d1 d2 d3 HW3 HA2
            as_aux_lemma =>
            refine (CJJ.out w3 HA3.out.g.bel HA3.out.g.mm).mono ?_
            rintro e w5 ⟨b10, c10, rfl, hb10, hm10, hb⟩
            have HT5 : Hid (AdT w h3 h4 w5.heap.size b10 c10 ((ep : Int) + 1) (n + 1) (updF fl k false) fl #[.int .i64 (ep : Int), .slice (some ⟨b3, 0, none⟩) 6 c3, .int .i64 0] (w5.alloc (.cells #[.int .i64 ((ep : Int) + 1), .slice (some ⟨b10, 0, none⟩) 6 c10, .int .i64 0] 24))) := by
              have t := HA3.out.on hb
              have n5 := below_new w5 (.cells #[.int .i64 ((ep : Int) + 1), .slice (some ⟨b10, 0, none⟩) 6 c10, .int .i64 0] 24)
              exact ⟨t.g.gg.on n5, ⟨Blk.new _ _ _, hm10.on n5, below_step t.g.bel (Nat.le_refl _) n5, t.g.bel.size, Nat.le_trans HA3.out.g.bel.size hb10⟩, t.i.on n5, t.g.lh, t.l4⟩
            have HR5 : Hid (Blk (w5.alloc (.cells #[.int .i64 ((ep : Int) + 1), .slice (some ⟨b10, 0, none⟩) 6 c10, .int .i64 0] 24)) 31 w2.heap.size #[.int .i64 3, .int .i64 1, .int .i64 ((n : Int) + 1), .int .i64 0, .string Z, .int .i64 0, .int .i64 0, .int .i64 0, .int .i64 0, .int .i64 0, .int .i64 0, .int .i64 0, .string ⟨#[]⟩, .string ⟨#[]⟩, .int .i64 (c1 : Int), .slice none 0 0]) := (HR3.out.on hb).on (below_new _ _)
            obtain ⟨w6, hw6⟩ : ∃ w6, w5.alloc (.cells #[.int .i64 ((ep : Int) + 1), .slice (some ⟨b10, 0, none⟩) 6 c10, .int .i64 0] 24) = w6 := ⟨_, rfl⟩
            obtain ⟨h10, hh10⟩ : ∃ h10, w5.heap.size = h10 := ⟨_, rfl⟩
            rw [hw6, hh10] at HT5
            rw [hw6] at HR5
            have r0 : w6.cell? ⟨w2.heap.size, 0, none⟩ = some (.int .i64 3) := HR5.out.cell 0
            have i0 : w6.cell? ⟨h4, c1, none⟩ = some (.bool true) := by rw [HT5.out.i.cell, ← HKC.out.1, inA_at _ _ HKC.out.2, Hx.out]
            have i1 : w6.frozen? ⟨h4, c1, none⟩ = false := HT5.out.i.free _
            obtain ⟨w7, hw7⟩ : ∃ w7, w6.setCell ⟨h4, c1, none⟩ (.bool false) = w7 := ⟨_, rfl⟩
            have HT : Hid (AdT w h3 h4 h10 b10 c10 ((ep : Int) + 1) (n + 1) (updF fl k false) (updF fl k false) #[.int .i64 (ep : Int), .slice (some ⟨b3, 0, none⟩) 6 c3, .int .i64 0] w7) := by
              show AdT _ _ _ _ _ _ _ _ _ _ _ _
              rw [← hw7]
              have t := HT5.out
              have q : Blk (w6.setCell ⟨h4, c1, none⟩ (.bool false)) 56 h4 (inA (updF fl k false)) := by
                have q := t.i.setAt c1 (.bool false)
                rw [← HKC.out.1, inA_set _ _ HKC.out.2, HKC.out.1] at q
                exact q
              have n3 := t.g.mm.neT t.i (by decide)
              exact ⟨t.o.other ⟨h4, c1, none⟩ (blk_types t.o t.i (by decide)) _, ⟨t.g.gg.other ⟨h4, c1, none⟩ (blk_types t.g.gg t.i (by decide)) _, t.g.mm.other ⟨h4, c1, none⟩ (fun e => n3 e.symm) _, t.g.bel.setCell (p := ⟨h4, c1, none⟩) t.l.2 _, t.g.lh, t.g.lb⟩, q, t.l⟩
            have HW7 : Hid (w6.setCell ⟨h4, c1, none⟩ _ = w7) := hw7
            have HW6 : Hid (_ = w6) := hw6
            rw [← hw6] at r0 i0 i1
            clear hw6 hw7 hb10 hm10 hb HA3 HR3 HT5 HR5 CJJ
            go_wp2_with fail
            try rw [HW6.out]
            try rw [HW7.out]
            try rw [hh10]
            clear r0 i0 i1 HW6 HW7 hh10
            as_aux_lemma =>
            -- HT : Hid (AdT w h3 h4 h10 b10 c10 ((ep : Int) + 1) (n + 1) (updF fl k false) (updF fl k false) G V); slot 5 = ((ep : Int) + 1)
            go_loopw [13] (fun v wx => ∃ k9 : Nat, k9 ≤ 6 ∧ v = .int .i64 ((k9 : Int) + 1) ∧ Hid (AdT w h3 h4 h10 b10 c10 ((ep : Int) + 1) (n + 1) (updF fl k false) (updF fl k false) #[.int .i64 (ep : Int), .slice (some ⟨b3, 0, none⟩) 6 c3, .int .i64 0] wx)) (fun v _ => 8 - (intOf v).toNat)
            case atStart => exact ⟨0, Nat.zero_le _, rfl, HT⟩
            case round =>
              clear HT
              obtain ⟨k9, hk9, rfl, HT9⟩ := hrel
              by_cases hlt9 : k9 < 6
              · have b9 : (k9 : Int) + 1 ≤ 6 := by omega
                have b10' : (0 : Int) ≤ (k9 : Int) + 1 := by omega
                have b11 : (k9 : Int) + 1 < 7 := by omega
                have b12 : ((k9 : Int) + 1).toNat = k9 + 1 := by omega
                have b13 : IntKind.i64.wrap ((k9 : Int) + 1 + 1) = (k9 : Int) + 1 + 1 := by rw [IntKind.wrap_i64]; omega
                obtain ⟨z, hz⟩ : ∃ z, (updF fl k false) k9 = z := ⟨_, rfl⟩
                have b14 : (z != z) = false := by cases z <;> rfl
                have CI9 : Hid (∀ p : Beh wr, Calls Tryd.prog 16 #[.agg #[.int .i64 ((ep : Int) + 1), .slice (some ⟨b10, 0, none⟩) 6 c10, .int .i64 0], .int .i64 ((k9 : Int) + 1)] p.w' fun e w' => e = .returned (.bool z) ∧ Below p.w'.heap.size p.w' w') := fun p => by
                  have h := in6_any ((ep : Int) + 1) 0 (lst (n + 1) (updF fl k false)) b10 0 c10 ((k9 : Int) + 1) p.w' rfl ((HT9.out.on p.h).g.mm.at)
                  rw [inB_lst _ _ _ hlt9, hz] at h
                  exact h
                have c0 : ∀ p : Beh wr, p.w'.cell? ⟨h10, 0, none⟩ = some (.int .i64 ((ep : Int) + 1)) := fun p => (HT9.out.on p.h).g.gg.cell 0
                have c1 : ∀ p : Beh wr, p.w'.cell? ⟨h10, 1, none⟩ = some (.slice (some ⟨b10, 0, none⟩) 6 c10) := fun p => (HT9.out.on p.h).g.gg.cell 1
                have c2 : ∀ p : Beh wr, p.w'.cell? ⟨h10, 2, none⟩ = some (.int .i64 0) := fun p => (HT9.out.on p.h).g.gg.cell 2
                have c3' : ∀ p : Beh wr, p.w'.cell? ⟨h4, k9 + 1, none⟩ = some (.bool z) := fun p => by rw [(HT9.out.on p.h).i.cell, inA_at _ _ hlt9, hz]
                clear hz
                go_wp2_with fail
                have hne_ : Nonempty (Beh wr) := ⟨⟨_, Below.refl _ _⟩⟩
                refine wp_region_quiet_beh (by kernel_rfl) (by kernel_rfl) ?_
                repeat (quiet_step (first | (go_at_call 16; refine Calls.beh_of (CI9.out _))))
                refine wpQuiet_nil ?_
                intro wq hw_
                obtain ⟨⟨wz_, hbq⟩, hw_⟩ := hw_
                subst hw_
                try dsimp only
                clear hne_
                have HTN : Hid (AdT w h3 h4 h10 b10 c10 ((ep : Int) + 1) (n + 1) (updF fl k false) (updF fl k false) #[.int .i64 (ep : Int), .slice (some ⟨b3, 0, none⟩) 6 c3, .int .i64 0] wq) := HT9.out.on hbq
                clear c0 c1 c2 c3' CI9 HT9 hbq
                go_wp2_with fail
                refine ⟨?_, ?_⟩
                · first
                  | exact ⟨k9 + 1, by omega, by go_num, HTN⟩
                  | ((repeat apply Exists.intro); refine ⟨?_, rfl⟩; exact ⟨k9 + 1, by omega, by go_num, HTN⟩)
                · simp [intOf] <;> omega
              · obtain rfl : k9 = 6 := by omega
                have b9 : ¬ ((6 : Int) + 1 ≤ 6) := by omega
                have b14 : (((ep : Int) + 1) != ((ep : Int) + 1)) = false := by simp
                have CI0 : Hid (∀ W, AdT w h3 h4 h10 b10 c10 ((ep : Int) + 1) (n + 1) (updF fl k false) (updF fl k false) #[.int .i64 (ep : Int), .slice (some ⟨b3, 0, none⟩) 6 c3, .int .i64 0] W → ∀ q, q = 0 ∨ q = 7 → Calls Tryd.prog 16 #[.agg #[.int .i64 ((ep : Int) + 1), .slice (some ⟨b10, 0, none⟩) 6 c10, .int .i64 0], .int .i64 q] W fun e w' => e = .returned (.bool false) ∧ Below W.heap.size W w') := fun W hW q hq => by
                  have h := in6_any ((ep : Int) + 1) 0 (lst (n + 1) (updF fl k false)) b10 0 c10 q W rfl hW.g.mm.at
                  rcases hq with rfl | rfl
                  · rw [inB_0] at h; exact h
                  · rw [inB_7] at h; exact h
                have c0 : wr.cell? ⟨h10, 0, none⟩ = some (.int .i64 ((ep : Int) + 1)) := HT9.out.g.gg.cell 0
                have c1 : wr.cell? ⟨h10, 1, none⟩ = some (.slice (some ⟨b10, 0, none⟩) 6 c10) := HT9.out.g.gg.cell 1
                have c2 : wr.cell? ⟨h10, 2, none⟩ = some (.int .i64 0) := HT9.out.g.gg.cell 2
                go_wp2_with fail
                as_aux_lemma =>
                refine (CI0.out wr HT9.out 0 (.inl rfl)).mono ?_
                rintro e y1 ⟨rfl, hb⟩
                have HY1 : Hid (AdT w h3 h4 h10 b10 c10 ((ep : Int) + 1) (n + 1) (updF fl k false) (updF fl k false) #[.int .i64 (ep : Int), .slice (some ⟨b3, 0, none⟩) 6 c3, .int .i64 0] y1) := HT9.out.on hb
                clear hb HT9 c0 c1 c2
                have c0 : y1.cell? ⟨h10, 0, none⟩ = some (.int .i64 ((ep : Int) + 1)) := HY1.out.g.gg.cell 0
                have c1 : y1.cell? ⟨h10, 1, none⟩ = some (.slice (some ⟨b10, 0, none⟩) 6 c10) := HY1.out.g.gg.cell 1
                have c2 : y1.cell? ⟨h10, 2, none⟩ = some (.int .i64 0) := HY1.out.g.gg.cell 2
                go_wp2_with fail
                refine (CI0.out y1 HY1.out 7 (.inr rfl)).mono ?_
                rintro e y2 ⟨rfl, hb⟩
                have HY2 : Hid (AdT w h3 h4 h10 b10 c10 ((ep : Int) + 1) (n + 1) (updF fl k false) (updF fl k false) #[.int .i64 (ep : Int), .slice (some ⟨b3, 0, none⟩) 6 c3, .int .i64 0] y2) := HY1.out.on hb
                clear hb HY1 c0 c1 c2 CI0
                have c0 : y2.cell? ⟨h10, 0, none⟩ = some (.int .i64 ((ep : Int) + 1)) := HY2.out.g.gg.cell 0
                have c1 : y2.cell? ⟨h10, 1, none⟩ = some (.slice (some ⟨b10, 0, none⟩) 6 c10) := HY2.out.g.gg.cell 1
                have c2 : y2.cell? ⟨h10, 2, none⟩ = some (.int .i64 0) := HY2.out.g.gg.cell 2
                have X1 := HY2.out.o
                have HZ : Hid (AdS w h3 h4 b10 c10 ((ep : Int) + 1) (n + 1) (updF fl k false) (y2.setRow h3 #[.int .i64 ((ep : Int) + 1), .slice (some ⟨b10, 0, none⟩) 6 c10, .int .i64 0])) := by
                  have t := HY2.out
                  exact ⟨⟨X1.setRow _, t.g.mm.same (setRow_other _ _ _ _ (fun e => t.g.mm.ne X1 e.symm)), below_setRow t.g.bel t.l.1 _, t.l.1, t.g.lb⟩, t.i.setRowOther h3 (blk_types t.i X1 (by decide)) _, t.l.2⟩
                clear HY2
                go_wp2_with (with_reducible refine wpList_storeBlk rfl 24 _ _ rfl h3 #[.int .i64 (ep : Int), .slice (some ⟨b3, 0, none⟩) 6 c3, .int .i64 0] #[.int .i64 ((ep : Int) + 1), .slice (some ⟨b10, 0, none⟩) 6 c10, .int .i64 0] (by with_unfolding_all rfl) (by with_unfolding_all rfl) X1 rfl (by kernel_rfl) (by kernel_rfl) ?_)
                refine ⟨?_, ?_⟩
                · first
                  | exact ⟨n + 1, (ep + 1), (updF fl k false), by omega, by omega, HEN.out, HF0N.out, by go_num, by rfl, ⟨_, _, HZ.out⟩⟩
                  | ((repeat apply Exists.intro); refine ⟨?_, rfl⟩; exact ⟨n + 1, (ep + 1), (updF fl k false), by omega, by omega, HEN.out, HF0N.out, by go_num, by rfl, ⟨_, _, HZ.out⟩⟩)
                · simp [intOf] <;> omega
      · -- Rotate
        as_aux_lemma =>
        have hD : doesB 4 fl k = true := by unfold doesB; rw [if_neg (by decide), if_neg (by decide)]
        have hEK : epK 4 fl k ep = (ep + 1) := by unfold epK; rw [hD]; exact if_pos rfl
        have hFK : flK 4 fl k = fl := by unfold flK; rw [hD]; exact if_neg (by simp)
        have CJJ : Hid (∀ W, Below w.heap.size w W → RowM W b3 c3 (lst n fl) → Calls Tryd.prog 11 #[.agg #[.int .i64 (ep : Int), .slice (some ⟨b3, 0, none⟩) 6 c3, .int .i64 0], .int .i64 (ep : Int), .agg #[.int .i64 4, .int .i64 1, .int .i64 ((n : Int) + 1), .int .i64 0, .string Z, .int .i64 0, .int .i64 0, .int .i64 0, .int .i64 0, .int .i64 0, .int .i64 0, .int .i64 0, .string ⟨#[]⟩, .string ⟨#[]⟩, .int .i64 0, .slice none 0 0]] W fun e w' => ∃ b' c', e = .returned (.tuple #[.agg #[.int .i64 ((ep : Int) + 1), .slice (some ⟨b', 0, none⟩) 6 c', .int .i64 0], .bool true, .int .i64 0]) ∧ W.heap.size ≤ b' ∧ RowM w' b' c' (lst (n + 1) fl) ∧ Below W.heap.size W w') := fun W hb hm => by
          have h := CJ.out W 0 (by unfold whoK; rw [if_pos rfl]) hb hm
          rw [hD, hEK, hFK] at h
          exact h
        have HEN : Hid (1 ≤ (ep + 1) ∧ (ep + 1) ≤ n + 1 + 1) := ⟨by have := HE.out; omega, by have := HE.out; omega⟩
        have HF0N : Hid (fl 0 = true) := by show _ = _; rw [← hFK]; exact flK_0 4 fl k HF0.out HKC.out.2 (by decide)
        clear hD hEK hFK CJ
        have nn := below_new w2 (.cells #[.int .i64 4, .int .i64 1, .int .i64 ((n : Int) + 1), .int .i64 0, .string Z, .int .i64 0, .int .i64 0, .int .i64 0, .int .i64 0, .int .i64 0, .int .i64 0, .int .i64 0, .string ⟨#[]⟩, .string ⟨#[]⟩, .int .i64 0, .slice none 0 0] 31)
        obtain ⟨w3, hw3⟩ : ∃ w3, w2.alloc (.cells #[.int .i64 4, .int .i64 1, .int .i64 ((n : Int) + 1), .int .i64 0, .string Z, .int .i64 0, .int .i64 0, .int .i64 0, .int .i64 0, .int .i64 0, .int .i64 0, .int .i64 0, .string ⟨#[]⟩, .string ⟨#[]⟩, .int .i64 0, .slice none 0 0] 31) = w3 := ⟨_, rfl⟩
        rw [hw3] at nn
        have HA3 : Hid (AdS w h3 h4 b3 c3 (ep : Int) n fl w3) := HA2.out.on nn
        have HR3 : Hid (Blk w3 31 w2.heap.size #[.int .i64 4, .int .i64 1, .int .i64 ((n : Int) + 1), .int .i64 0, .string Z, .int .i64 0, .int .i64 0, .int .i64 0, .int .i64 0, .int .i64 0, .int .i64 0, .int .i64 0, .string ⟨#[]⟩, .string ⟨#[]⟩, .int .i64 0, .slice none 0 0]) := by show Blk _ _ _ _; rw [← hw3]; exact Blk.new _ _ _
        have d0 : w3.cell? ⟨h3, 0, none⟩ = some (.int .i64 (ep : Int)) := HA3.out.g.gg.cell 0
        have d1 : w3.cell? ⟨h3, 1, none⟩ = some (.slice (some ⟨b3, 0, none⟩) 6 c3) := HA3.out.g.gg.cell 1
        have d2 : w3.cell? ⟨h3, 2, none⟩ = some (.int .i64 0) := HA3.out.g.gg.cell 2
        have HW3 : Hid (_ = w3) := hw3
        rw [← hw3] at d0 d1 d2
        clear hw3 nn
        go_wp2_with fail
        rw [HW3.out]
        clear d0 d1 d2 HW3 HA2
        as_aux_lemma =>
        refine (CJJ.out w3 HA3.out.g.bel HA3.out.g.mm).mono ?_
        rintro e w5 ⟨b10, c10, rfl, hb10, hm10, hb⟩
        have HT5 : Hid (AdT w h3 h4 w5.heap.size b10 c10 ((ep : Int) + 1) (n + 1) fl fl #[.int .i64 (ep : Int), .slice (some ⟨b3, 0, none⟩) 6 c3, .int .i64 0] (w5.alloc (.cells #[.int .i64 ((ep : Int) + 1), .slice (some ⟨b10, 0, none⟩) 6 c10, .int .i64 0] 24))) := by
          have t := HA3.out.on hb
          have n5 := below_new w5 (.cells #[.int .i64 ((ep : Int) + 1), .slice (some ⟨b10, 0, none⟩) 6 c10, .int .i64 0] 24)
          exact ⟨t.g.gg.on n5, ⟨Blk.new _ _ _, hm10.on n5, below_step t.g.bel (Nat.le_refl _) n5, t.g.bel.size, Nat.le_trans HA3.out.g.bel.size hb10⟩, t.i.on n5, t.g.lh, t.l4⟩
        have HR5 : Hid (Blk (w5.alloc (.cells #[.int .i64 ((ep : Int) + 1), .slice (some ⟨b10, 0, none⟩) 6 c10, .int .i64 0] 24)) 31 w2.heap.size #[.int .i64 4, .int .i64 1, .int .i64 ((n : Int) + 1), .int .i64 0, .string Z, .int .i64 0, .int .i64 0, .int .i64 0, .int .i64 0, .int .i64 0, .int .i64 0, .int .i64 0, .string ⟨#[]⟩, .string ⟨#[]⟩, .int .i64 0, .slice none 0 0]) := (HR3.out.on hb).on (below_new _ _)
        obtain ⟨w6, hw6⟩ : ∃ w6, w5.alloc (.cells #[.int .i64 ((ep : Int) + 1), .slice (some ⟨b10, 0, none⟩) 6 c10, .int .i64 0] 24) = w6 := ⟨_, rfl⟩
        obtain ⟨h10, hh10⟩ : ∃ h10, w5.heap.size = h10 := ⟨_, rfl⟩
        rw [hw6, hh10] at HT5
        rw [hw6] at HR5
        have r0 : w6.cell? ⟨w2.heap.size, 0, none⟩ = some (.int .i64 4) := HR5.out.cell 0
        have HT : Hid (AdT w h3 h4 h10 b10 c10 ((ep : Int) + 1) (n + 1) fl fl #[.int .i64 (ep : Int), .slice (some ⟨b3, 0, none⟩) 6 c3, .int .i64 0] w6) := HT5.out
        have HW6 : Hid (_ = w6) := hw6
        rw [← hw6] at r0
        clear hw6 hb10 hm10 hb HA3 HR3 HT5 HR5 CJJ
        go_wp2_with fail
        try rw [HW6.out]
        try rw [hh10]
        clear r0 HW6 hh10
        as_aux_lemma =>
        -- HT : Hid (AdT w h3 h4 h10 b10 c10 ((ep : Int) + 1) (n + 1) fl fl G V); slot 5 = ((ep : Int) + 1)
        go_loopw [13] (fun v wx => ∃ k9 : Nat, k9 ≤ 6 ∧ v = .int .i64 ((k9 : Int) + 1) ∧ Hid (AdT w h3 h4 h10 b10 c10 ((ep : Int) + 1) (n + 1) fl fl #[.int .i64 (ep : Int), .slice (some ⟨b3, 0, none⟩) 6 c3, .int .i64 0] wx)) (fun v _ => 8 - (intOf v).toNat)
        case atStart => exact ⟨0, Nat.zero_le _, rfl, HT⟩
        case round =>
          clear HT
          obtain ⟨k9, hk9, rfl, HT9⟩ := hrel
          by_cases hlt9 : k9 < 6
          · have b9 : (k9 : Int) + 1 ≤ 6 := by omega
            have b10' : (0 : Int) ≤ (k9 : Int) + 1 := by omega
            have b11 : (k9 : Int) + 1 < 7 := by omega
            have b12 : ((k9 : Int) + 1).toNat = k9 + 1 := by omega
            have b13 : IntKind.i64.wrap ((k9 : Int) + 1 + 1) = (k9 : Int) + 1 + 1 := by rw [IntKind.wrap_i64]; omega
            obtain ⟨z, hz⟩ : ∃ z, fl k9 = z := ⟨_, rfl⟩
            have b14 : (z != z) = false := by cases z <;> rfl
            have CI9 : Hid (∀ p : Beh wr, Calls Tryd.prog 16 #[.agg #[.int .i64 ((ep : Int) + 1), .slice (some ⟨b10, 0, none⟩) 6 c10, .int .i64 0], .int .i64 ((k9 : Int) + 1)] p.w' fun e w' => e = .returned (.bool z) ∧ Below p.w'.heap.size p.w' w') := fun p => by
              have h := in6_any ((ep : Int) + 1) 0 (lst (n + 1) fl) b10 0 c10 ((k9 : Int) + 1) p.w' rfl ((HT9.out.on p.h).g.mm.at)
              rw [inB_lst _ _ _ hlt9, hz] at h
              exact h
            have c0 : ∀ p : Beh wr, p.w'.cell? ⟨h10, 0, none⟩ = some (.int .i64 ((ep : Int) + 1)) := fun p => (HT9.out.on p.h).g.gg.cell 0
            have c1 : ∀ p : Beh wr, p.w'.cell? ⟨h10, 1, none⟩ = some (.slice (some ⟨b10, 0, none⟩) 6 c10) := fun p => (HT9.out.on p.h).g.gg.cell 1
            have c2 : ∀ p : Beh wr, p.w'.cell? ⟨h10, 2, none⟩ = some (.int .i64 0) := fun p => (HT9.out.on p.h).g.gg.cell 2
            have c3' : ∀ p : Beh wr, p.w'.cell? ⟨h4, k9 + 1, none⟩ = some (.bool z) := fun p => by rw [(HT9.out.on p.h).i.cell, inA_at _ _ hlt9, hz]
            clear hz
            go_wp2_with fail
            have hne_ : Nonempty (Beh wr) := ⟨⟨_, Below.refl _ _⟩⟩
            refine wp_region_quiet_beh (by kernel_rfl) (by kernel_rfl) ?_
            repeat (quiet_step (first | (go_at_call 16; refine Calls.beh_of (CI9.out _))))
            refine wpQuiet_nil ?_
            intro wq hw_
            obtain ⟨⟨wz_, hbq⟩, hw_⟩ := hw_
            subst hw_
            try dsimp only
            clear hne_
            have HTN : Hid (AdT w h3 h4 h10 b10 c10 ((ep : Int) + 1) (n + 1) fl fl #[.int .i64 (ep : Int), .slice (some ⟨b3, 0, none⟩) 6 c3, .int .i64 0] wq) := HT9.out.on hbq
            clear c0 c1 c2 c3' CI9 HT9 hbq
            go_wp2_with fail
            refine ⟨?_, ?_⟩
            · first
              | exact ⟨k9 + 1, by omega, by go_num, HTN⟩
              | ((repeat apply Exists.intro); refine ⟨?_, rfl⟩; exact ⟨k9 + 1, by omega, by go_num, HTN⟩)
            · simp [intOf] <;> omega
          · obtain rfl : k9 = 6 := by omega
            have b9 : ¬ ((6 : Int) + 1 ≤ 6) := by omega
            have b14 : (((ep : Int) + 1) != ((ep : Int) + 1)) = false := by simp
            have CI0 : Hid (∀ W, AdT w h3 h4 h10 b10 c10 ((ep : Int) + 1) (n + 1) fl fl #[.int .i64 (ep : Int), .slice (some ⟨b3, 0, none⟩) 6 c3, .int .i64 0] W → ∀ q, q = 0 ∨ q = 7 → Calls Tryd.prog 16 #[.agg #[.int .i64 ((ep : Int) + 1), .slice (some ⟨b10, 0, none⟩) 6 c10, .int .i64 0], .int .i64 q] W fun e w' => e = .returned (.bool false) ∧ Below W.heap.size W w') := fun W hW q hq => by
              have h := in6_any ((ep : Int) + 1) 0 (lst (n + 1) fl) b10 0 c10 q W rfl hW.g.mm.at
              rcases hq with rfl | rfl
              · rw [inB_0] at h; exact h
              · rw [inB_7] at h; exact h
            have c0 : wr.cell? ⟨h10, 0, none⟩ = some (.int .i64 ((ep : Int) + 1)) := HT9.out.g.gg.cell 0
            have c1 : wr.cell? ⟨h10, 1, none⟩ = some (.slice (some ⟨b10, 0, none⟩) 6 c10) := HT9.out.g.gg.cell 1
            have c2 : wr.cell? ⟨h10, 2, none⟩ = some (.int .i64 0) := HT9.out.g.gg.cell 2
            go_wp2_with fail
            as_aux_lemma =>
            refine (CI0.out wr HT9.out 0 (.inl rfl)).mono ?_
            rintro e y1 ⟨rfl, hb⟩
            have HY1 : Hid (AdT w h3 h4 h10 b10 c10 ((ep : Int) + 1) (n + 1) fl fl #[.int .i64 (ep : Int), .slice (some ⟨b3, 0, none⟩) 6 c3, .int .i64 0] y1) := HT9.out.on hb
            clear hb HT9 c0 c1 c2
            have c0 : y1.cell? ⟨h10, 0, none⟩ = some (.int .i64 ((ep : Int) + 1)) := HY1.out.g.gg.cell 0
            have c1 : y1.cell? ⟨h10, 1, none⟩ = some (.slice (some ⟨b10, 0, none⟩) 6 c10) := HY1.out.g.gg.cell 1
            have c2 : y1.cell? ⟨h10, 2, none⟩ = some (.int .i64 0) := HY1.out.g.gg.cell 2
            go_wp2_with fail
            refine (CI0.out y1 HY1.out 7 (.inr rfl)).mono ?_
            rintro e y2 ⟨rfl, hb⟩
            have HY2 : Hid (AdT w h3 h4 h10 b10 c10 ((ep : Int) + 1) (n + 1) fl fl #[.int .i64 (ep : Int), .slice (some ⟨b3, 0, none⟩) 6 c3, .int .i64 0] y2) := HY1.out.on hb
            clear hb HY1 c0 c1 c2 CI0
            have c0 : y2.cell? ⟨h10, 0, none⟩ = some (.int .i64 ((ep : Int) + 1)) := HY2.out.g.gg.cell 0
            have c1 : y2.cell? ⟨h10, 1, none⟩ = some (.slice (some ⟨b10, 0, none⟩) 6 c10) := HY2.out.g.gg.cell 1
            have c2 : y2.cell? ⟨h10, 2, none⟩ = some (.int .i64 0) := HY2.out.g.gg.cell 2
            have X1 := HY2.out.o
            have HZ : Hid (AdS w h3 h4 b10 c10 ((ep : Int) + 1) (n + 1) fl (y2.setRow h3 #[.int .i64 ((ep : Int) + 1), .slice (some ⟨b10, 0, none⟩) 6 c10, .int .i64 0])) := by
              have t := HY2.out
              exact ⟨⟨X1.setRow _, t.g.mm.same (setRow_other _ _ _ _ (fun e => t.g.mm.ne X1 e.symm)), below_setRow t.g.bel t.l.1 _, t.l.1, t.g.lb⟩, t.i.setRowOther h3 (blk_types t.i X1 (by decide)) _, t.l.2⟩
            clear HY2
            go_wp2_with (with_reducible refine wpList_storeBlk rfl 24 _ _ rfl h3 #[.int .i64 (ep : Int), .slice (some ⟨b3, 0, none⟩) 6 c3, .int .i64 0] #[.int .i64 ((ep : Int) + 1), .slice (some ⟨b10, 0, none⟩) 6 c10, .int .i64 0] (by with_unfolding_all rfl) (by with_unfolding_all rfl) X1 rfl (by kernel_rfl) (by kernel_rfl) ?_)
            refine ⟨?_, ?_⟩
            · first
              | exact ⟨n + 1, (ep + 1), fl, by omega, by omega, HEN.out, HF0N.out, by go_num, by rfl, ⟨_, _, HZ.out⟩⟩
              | ((repeat apply Exists.intro); refine ⟨?_, rfl⟩; exact ⟨n + 1, (ep + 1), fl, by omega, by omega, HEN.out, HF0N.out, by go_num, by rfl, ⟨_, _, HZ.out⟩⟩)
            · simp [intOf] <;> omega
    · clear CJ0
      have HB : Hid (Below w.heap.size w wr) := HA.out.g.bel
      by_cases hl1 : n < len
      · have b1 : (n : Int) < (len : Int) := by omega
        have b2 : decide ((n : Int) < 24) = false := decide_eq_false (by omega)
        clear HA hlt
        go_wp2_with fail
        refine (awake20_any wr (HG.out.below HB.out)).mono ?_
        rintro e w9 ⟨rfl, hb⟩
        have HBX : Hid (Below w.heap.size w w9) := below_step HB.out (Nat.le_refl _) hb
        clear hb
        go_wp2_with fail
        go_ret
        exact ⟨rfl, HBX.out⟩
      · have b1 : ¬ ((n : Int) < (len : Int)) := by omega
        clear HA hlt
        go_wp2_with fail
        refine (awake20_any wr (HG.out.below HB.out)).mono ?_
        rintro e w9 ⟨rfl, hb⟩
        have HBX : Hid (Below w.heap.size w w9) := below_step HB.out (Nat.le_refl _) hb
        clear hb
        go_wp2_with fail
        go_ret
        exact ⟨rfl, HBX.out⟩

end Go.Proofs.YtabhkebkbidfhaaDoor
