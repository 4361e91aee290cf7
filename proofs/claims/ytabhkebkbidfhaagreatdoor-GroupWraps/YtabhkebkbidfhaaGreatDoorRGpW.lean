import Derived.Test.YtabhkebkbidfhaaGreatDoorGpWr
import Derived.Test.YtabhkebkbidfhaaGreatDoorRGpB
/- Layer 20: the document's Wraps. -/
namespace Go.Proofs.YtabhkebkbidfhaaGreatDoor
open Go.RowKit
set_option maxRecDepth 100000
set_option linter.unusedSimpArgs false
set_option linter.unusedVariables false
set_option maxRecDepth 100000

set_option maxHeartbeats 8000000 in
theorem rwraps20_any (G : GrpT) (a : Option Addr) (c : Nat) (own : List ByteArray) (ao : Option Addr) (no co : Nat) (key : ByteArray) (w : World) (D : Bool) (hD : D = true ↔ OkW G own key) (hw : ∀ i, i < 6 → -9223372036854775808 ≤ (mmL G.2.1 i).1 ∧ (mmL G.2.1 i).1 ≤ 9223372036854775807) (hn : G.2.1.length ≤ 1048576) (hno : no ≤ 1048576) (hI : MmsAt w a G.2.1.length G.2.1) (hO : StrsAt w ao no own) :
    Calls Tryz.prog 7 #[.agg (grpA G a c), .slice ao no co, .string key] w fun e w' => WrOut w D (wrK G.1 own key G.2.1 6) e w' := by
  obtain ⟨i0, hi, hz0, hz1, hz2⟩ := info_parts Tryz.infoWrap
  have CHG : ∀ W, Below w.heap.size w W → _ := fun W hW => rmay20_any G a c W (mayGb G) (mayGb_iff G) hn (hI.below hW) hw
  have hMG := mayGb_iff G
  obtain ⟨X, hX⟩ : ∃ X : Bool, mayGb G = X := ⟨_, rfl⟩
  rw [hX] at CHG hMG
  obtain ⟨Ep, l, Op⟩ := G
  simp only [grpA] at CHG hI hn ⊢
  obtain ⟨L6, hL6⟩ : ∃ L6, wrK Ep own key l 6 = L6 := ⟨_, rfl⟩
  rw [hL6]
  have HL6 : Hid (wrK Ep own key l 6 = L6) := hL6
  have HD : Hid (D = true ↔ OkW (Ep, l, Op) own key) := hD
  have HMG : Hid (X = true ↔ MayG (Ep, l, Op)) := hMG
  obtain ⟨n, hnn⟩ : ∃ n, l.length = n := ⟨_, rfl⟩
  simp only [hnn] at CHG hI hn ⊢
  have HHG : Hid (∀ W, Below w.heap.size w W → _) := CHG
  have HI : Hid (MmsAt w a n l) := hI
  have HO : Hid (StrsAt w ao no own) := hO
  clear CHG hD hMG hX hI hO hw hnn hL6
  have HB0 : Hid (Below w.heap.size w (w.alloc (.cells #[.int .i64 Ep, .slice a n c, .int .i64 Op] 24))) := below_new _ _
  have HK0 : Hid (Blk (w.alloc (.cells #[.int .i64 Ep, .slice a n c, .int .i64 Op] 24)) 24 w.heap.size #[.int .i64 Ep, .slice a n c, .int .i64 Op]) := Blk.new _ _ _
  go_enter Tryz.func7, Tryz.ntmps7
  go_wp2_with fail
  refine (HHG.out _ HB0.out).mono ?_
  rintro e w1 ⟨rfl, hb⟩
  have HB1 : Hid (Below w.heap.size w w1) := below_step HB0.out (Nat.le_refl _) hb
  have HK1 : Hid (Blk w1 24 w.heap.size #[.int .i64 Ep, .slice a n c, .int .i64 Op]) := HK0.out.on hb
  clear hb HB0 HK0 HHG
  cases X with
  | false =>
    obtain rfl : D = false := Bool.eq_false_iff.2 (fun e => Bool.noConfusion (HMG.out.2 (HD.out.1 e).1))
    go_wp2_with fail
    go_ret2
    exact ⟨.inl ⟨rfl, rfl⟩, HB1.out⟩
  | true =>
  have HMY : Hid (MayG (Ep, l, Op)) := HMG.out.1 rfl
  clear HMG
  by_cases hkey : key.size = 32
  case neg =>
    obtain rfl : D = false := Bool.eq_false_iff.2 (fun e => hkey (HD.out.1 e).key)
    have g0 : ((key.size : Int) == 32) = false := by simp; omega
    have g0' : ¬ (key.size : Int) = 32 := by omega
    have g0'' : ((key.size : Int) != 32) = true := by simp; omega
    clear hkey HD HMY
    go_wp2_with fail
    go_ret2
    exact ⟨.inl ⟨rfl, rfl⟩, HB1.out⟩
  have g0 : ((key.size : Int) == 32) = true := by simp; omega
  have g0' : (key.size : Int) = 32 := by omega
  have g0'' : ((key.size : Int) != 32) = false := by simp; omega
  have HKEY : Hid (key.size = 32) := hkey
  clear hkey
  obtain rfl : n = 6 := by rw [← HI.out.1]; exact HMY.out.2.2.1
  obtain ⟨b, off, rfl, hcl⟩ : ∃ lb off, a = some ⟨lb, off, none⟩ ∧ ∀ i, i < 6 → w.cell? ⟨lb, off + i * 3, none⟩ = some (.int .i64 (mmL l i).1) ∧ w.cell? ⟨lb, off + i * 3 + 1, none⟩ = some (.int .i64 (mmL l i).2.1) ∧ w.cell? ⟨lb, off + i * 3 + 2, none⟩ = some (.bool (mmL l i).2.2) := by
    rcases HI.out.2 with h | h
    · omega
    · exact h
  have HCL : Hid (∀ i, i < 6 → w.cell? ⟨b, off + i * 3, none⟩ = some (.int .i64 (mmL l i).1) ∧ w.cell? ⟨b, off + i * 3 + 1, none⟩ = some (.int .i64 (mmL l i).2.1) ∧ w.cell? ⟨b, off + i * 3 + 2, none⟩ = some (.bool (mmL l i).2.2)) := hcl
  have HCO : Hid (∀ i, i < no → ∃ ob oo, ao = some ⟨ob, oo, none⟩ ∧ w.cell? ⟨ob, oo + i, none⟩ = some (.string (strL own i))) := fun i hi => by
    rcases HO.out.2 with h | ⟨ob, oo, e, h⟩
    · omega
    · exact ⟨ob, oo, e, h i hi⟩
  have HNO : Hid (own.length = no) := HO.out.1
  have d1 : w1.cell? ⟨w.heap.size, 1, none⟩ = some (.slice (some ⟨b, off, none⟩) 6 c) := HK1.out.cell 1
  clear hcl HI HO
  go_wp2_with fail
  clear d1 g0 g0' g0''
  have HS1 : Hid (w.heap.size + 1 ≤ w1.heap.size) := HK1.out.lt
  go_loopw [8, 9] (fun lv iv wr => ∃ k : Nat, k ≤ 6 ∧ iv = .int .i64 (k : Int) ∧ Hid (OwnWr wr (w.heap.size + 1) lv (wrK Ep own key l k)) ∧ Hid (∀ j, j < k → OneK no own key l j) ∧ Hid (Blk wr 24 w.heap.size #[.int .i64 Ep, .slice (some ⟨b, off, none⟩) 6 c, .int .i64 Op]) ∧ Hid (Below w.heap.size w wr)) (fun _ iv _ => 6 - (intOf iv).toNat)
  case atStart => exact ⟨0, Nat.zero_le _, rfl, World.ownsRow_nil _ _ _ _, fun j h => absurd h (Nat.not_lt_zero _), HK1.out, HB1.out⟩
  case round =>
    clear HB1 HK1 HS1
    obtain ⟨k, hk, rfl, HOW, HK, HG, HB⟩ := hrel
    by_cases hlt : k < 6
    · have b0 : (k : Int) < 6 := by omega
      have b1 : (0 : Int) ≤ (k : Int) := by omega
      have HK6 : Hid (k < 6) := hlt
      obtain ⟨c0, c1, c2⟩ := HCL.out k hlt
      have q1 : wr.cell? ⟨w.heap.size, 1, none⟩ = some (.slice (some ⟨b, off, none⟩) 6 c) := HG.out.cell 1
      have hwho := (HMY.out.2.2.2 k hlt).1
      have hwho' : (mmL l k).1 = (k : Int) + 1 := hwho
      rw [hwho'] at c0
      have cell : ∀ {p : Addr} {v : Value}, w.cell? p = some v → wr.cell? p = some v := fun h => by rw [HB.out.cell (World.block_lt_of_cell? w _ h)]; exact h
      replace c0 := cell c0
      replace c1 := cell c1
      replace c2 := cell c2
      obtain ⟨y, hy⟩ : ∃ y, (mmL l k).2.1 = y := ⟨_, rfl⟩
      obtain ⟨z, hz⟩ : ∃ z, (mmL l k).2.2 = z := ⟨_, rfl⟩
      rw [hy] at c1
      rw [hz] at c2
      have HZ : Hid ((mmL l k).2.2 = z) := hz
      clear hy hz hwho hwho' cell
      cases z with
      | false =>
        have hwn : wrK Ep own key l (k + 1) = wrK Ep own key l k := by show (if _ then _ else _) = _; rw [HZ.out, if_neg (by simp)]
        have HWN : Hid (wrK Ep own key l (k + 1) = wrK Ep own key l k) := hwn
        clear hwn
        go_wp2_with fail
        have HNK : Hid (∀ j, j < k + 1 → OneK no own key l j) := fun j hj => by
          by_cases e : j = k
          · rw [e]; intro h; rw [HZ.out] at h; cases h
          · exact HK.out j (by omega)
        refine ⟨?_, ?_⟩
        · first
          | exact ⟨k + 1, by omega, by go_num, by rw [HWN.out]; exact HOW.out, HNK, HG.out, HB.out⟩
          | ((repeat apply Exists.intro); refine ⟨?_, rfl⟩; exact ⟨k + 1, by omega, by go_num, by rw [HWN.out]; exact HOW.out, HNK, HG.out, HB.out⟩)
        · simp [intOf] <;> omega
      | true =>
        by_cases hno2 : k < no
        · have t1 : ¬ ((no : Int) ≤ (k : Int)) := by omega
          obtain ⟨ob, oo, rfl, ho0⟩ := HCO.out k hno2
          obtain ⟨sk, hsk⟩ : ∃ sk, strL own k = sk := ⟨_, rfl⟩
          rw [hsk] at ho0
          have HSK : Hid (strL own k = sk) := hsk
          have a2 : (k : Int) < (no : Int) := by omega
          have a1 : IntKind.i64.wrap ((k : Int) + 1) = (k : Int) + 1 := by rw [IntKind.wrap_i64]; omega
          have a3 : IntKind.i64.wrap (k : Int) = (k : Int) := by rw [IntKind.wrap_i64]; omega
          have q3 : wr.cell? ⟨ob, oo + k, none⟩ = some (.string sk) := by rw [HB.out.cell (World.block_lt_of_cell? w _ ho0)]; exact ho0
          have HQ3 : Hid (wr.cell? ⟨ob, oo + k, none⟩ = some (.string sk)) := q3
          clear hsk ho0
          by_cases hok : sk.size = 32
          · have g1 : ((sk.size : Int) == 32) = true := by simp; omega
            have g1' : (sk.size : Int) = 32 := by omega
            have g1'' : ((sk.size : Int) != 32) = false := by simp; omega
            have HOK : Hid (sk.size = 32) := hok
            go_wp2_with fail
            clear c0 c1 c2 q1 q3 g1 g1' g1''
            have e1 : ∀ p : Beh wr, p.w'.cell? ⟨w.heap.size, 0, none⟩ = some (.int .i64 Ep) := fun p => p.cell (HG.out.cell 0)
            have e2 : ∀ p : Beh wr, p.w'.cell? ⟨ob, oo + k, none⟩ = some (.string sk) := fun p => p.cell HQ3.out
            have mw : MayWk sk ((k : Int) + 1) Ep := ⟨hok, ⟨by omega, by omega⟩, HMY.out.1⟩
            have CW : Hid (∀ p : Beh wr, Calls Tryz.prog 19 #[.string sk, .int .i64 ((k : Int) + 1), .int .i64 Ep, .string key] p.w' fun e w' => e = .returned (.tuple #[.string (wrapB sk ((k : Int) + 1) Ep key), .int .i64 0]) ∧ Below p.w'.heap.size p.w' w') := fun p => rwrap_yes sk key _ Ep p.w' mw HKEY.out
            obtain ⟨T, hTT⟩ : ∃ T, wrapB sk ((k : Int) + 1) Ep key = T := ⟨_, rfl⟩
            rw [hTT] at CW
            have HWN : Hid (wrK Ep own key l (k + 1) = wrK Ep own key l k ++ [((k : Int) + 1, T)]) := by show (if _ then _ else _) = _; rw [HZ.out, if_pos rfl, HSK.out, hTT]
            have HNK : Hid (∀ j, j < k + 1 → OneK no own key l j) := fun j hj => by
              by_cases e : j = k
              · rw [e]; intro _; exact ⟨hno2, by rw [HSK.out]; exact HOK.out, HKEY.out⟩
              · exact HK.out j (by omega)
            obtain ⟨m, hm⟩ : ∃ m, (wrK Ep own key l k).length = m := ⟨_, rfl⟩
            have hm6 : m ≤ 6 := by have := wrK_len Ep own key l k; omega
            have HM9 : Hid ((wrK Ep own key l k).length = m) := hm
            clear hTT hok HK HSK hm mw
            have hne_ : Nonempty (Beh wr) := ⟨⟨_, Below.refl _ _⟩⟩
            refine wp_region_quiet_beh (by kernel_rfl) (by kernel_rfl) ?_
            repeat (quiet_step (first | (go_at_call 19; refine Calls.beh_of (CW.out _))))
            refine wpQuiet_nil ?_
            intro wq hw_
            obtain ⟨⟨wz_, hbq⟩, hw_⟩ := hw_
            subst hw_
            try dsimp only
            clear hne_
            have HGq : Hid (Blk wq 24 w.heap.size #[.int .i64 Ep, .slice (some ⟨b, off, none⟩) 6 c, .int .i64 Op]) := HG.out.on hbq
            have HBq : Hid (Below w.heap.size w wq) := below_step HB.out (Nat.le_refl _) hbq
            have hown : wq.ownsRow (w.heap.size + 1) 33 2 u8 m (cellsWr (wrK Ep own key l k)) := by rw [← HM9.out]; exact owns_on HOW.out hbq
            have hlt9 := HGq.out.lt
            clear e1 e2 CW HG HB HOW hbq
            go_wp2_with (at_builtin; refine wpList_appR2 rfl (.tmp 56) (.tmp 61) 28 rfl (w.heap.size + 1) 33 i0 _ 2 24 Tryz.underlying28 hi hz0 hz1 hz2 rfl (by decide) wq u8 _ _ rfl hown #[.int .i64 ((k : Int) + 1), .string T] rfl (wrapV_one ((k : Int) + 1, T)) rfl (by omega) (by unfold maxLen; omega) hlt9 ?_)
            intro v5 w5 hown5 hg5
            have nv := below_new wq (.cells #[.int .i64 ((k : Int) + 1), .string T] 33)
            have hgr : ∀ j, u8.ownBlock = some j → w.heap.size < j := fun j hj => by have := (World.ownsRow.lt hown j hj).1; omega
            have HO5 : Hid (OwnWr w5 (w.heap.size + 1) v5 (wrK Ep own key l (k + 1))) := by
              show World.ownsRow _ _ _ _ _ _ _
              rw [HWN.out, List.length_append, HM9.out, cellsWr_snoc]
              exact hown5
            have HG5 : Hid (Blk w5 24 w.heap.size #[.int .i64 Ep, .slice (some ⟨b, off, none⟩) 6 c, .int .i64 Op]) := (HGq.out.on nv).grown hg5 (fun e => by have := hgr _ e.symm; omega)
            have HB5 : Hid (Below w.heap.size w w5) := below_grown20 (below_step HBq.out (Nat.le_refl _) nv) hg5 (fun j hj => by have := hgr j hj; omega)
            clear hown5 hg5 nv hgr hown hlt9 HGq HBq HWN HM9
            go_wp2_with fail
            refine ⟨?_, ?_⟩
            · first
              | exact ⟨k + 1, by omega, by go_num, HO5, HNK, HG5, HB5⟩
              | ((repeat apply Exists.intro); refine ⟨?_, rfl⟩; exact ⟨k + 1, by omega, by go_num, HO5, HNK, HG5, HB5⟩)
            · simp [intOf] <;> omega
          · obtain rfl : D = false := Bool.eq_false_iff.2 (fun e => by
              have q := (HD.out.1 e).2 k HK6.out HZ.out
              rw [HSK.out] at q
              exact hok q.2.1)
            have g1 : ((sk.size : Int) == 32) = false := by simp; omega
            have g1' : ¬ (sk.size : Int) = 32 := by omega
            have g1'' : ((sk.size : Int) != 32) = true := by simp; omega
            clear hok HD
            go_wp2_with fail
            go_ret2
            exact ⟨.inl ⟨rfl, rfl⟩, HB.out⟩
        · have t1 : (no : Int) ≤ (k : Int) := by omega
          obtain rfl : D = false := Bool.eq_false_iff.2 (fun e => by
            have q := (HD.out.1 e).2 k HK6.out HZ.out
            rw [HNO.out] at q
            exact hno2 q.1)
          clear HD hno2
          go_wp2_with fail
          go_ret2
          exact ⟨.inl ⟨rfl, rfl⟩, HB.out⟩
    · obtain rfl : k = 6 := by omega
      have b0 : ¬ ((6 : Int) < 6) := by omega
      obtain rfl : D = true := HD.out.2 ⟨HMY.out, fun j hj => by
        show OneK own.length own key l j
        rw [HNO.out]; exact HK.out j hj⟩
      go_wp2_with fail
      go_ret2
      refine ⟨.inr ⟨rfl, _, rfl, ?_⟩, HB.out⟩
      show OwnWr _ _ _ _
      rw [← HL6.out]
      exact owns_less HOW.out (by omega)

end Go.Proofs.YtabhkebkbidfhaaGreatDoor
