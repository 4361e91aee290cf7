/- The walk of CodeWrites. -/
import Derived.Test.YtmpjhflbmngajaaCdSizesWalk
namespace Go.Proofs.Ytmpjhflbmngajaa
open Go.RowKit
set_option linter.unusedSimpArgs false

theorem doneP_tuple (o : ByteArray × Bool) : ∃ S : ByteArray, ∃ e : Int, doneP o = .tuple #[.string S, .int .i64 e] := by
  unfold doneP
  split
  · exact ⟨_, _, rfl⟩
  · exact ⟨_, _, rfl⟩
set_option maxHeartbeats 4000000 in
set_option maxRecDepth 100000 in
theorem codeWrites_walk (a : Option Addr) (n c : Nat) (W : World) (z : ∃ l, PartsAt W a n l ∧ n ≤ maxLen ∧ ∀ q ∈ l, PartOk q) :
    Calls Try.prog 3 #[.slice a n c] W fun e w' => e = .returned (.bool true) ∧ Below W.heap.size W w' := by
  obtain ⟨l, hI, hm, hok⟩ := z
  have HI : Hid (PartsAt W a n l) := hI
  have HZ : Hid (∀ i, (ps (ptL l i)).size ≤ maxLen) := ptL_max l hok
  have HM : Hid (n ≤ maxLen) := hm
  have hm' : n ≤ 9223372036854775807 := hm
  have HLn : Hid (l.length = n) := hI.1
  clear hI hm hok
  by_cases hF : FewP l n
  · have HD : Hid (FewP l n) := hF
    have HP : Hid (∀ i, i < n → (ps (ptL l i)).size ≤ 131072) := fun i hi => (hF.2 i hi).2
    clear hF
    go_enter Try.func3, Try.ntmps3
    go_wp2_with fail
    refine (newOut_any _).mono ?_
    rintro e w1 ⟨rfl, h1, b1⟩
    have H1 : Hid (OutAt w1 W.heap.size (.slice none 0 0) (ByteArray.empty, false)) := OutAt.ok.2 h1
    have B1 : Hid (Below W.heap.size W w1) := b1
    have l1 : W.heap.size < w1.heap.size := h1.1.lt
    clear h1 b1
    go_wp2_with fail
    refine (few9_yes l a n c w1 HM.out (HI.out.below B1.out) HZ.out HD.out).mono ?_
    rintro e w2 ⟨rfl, hw2⟩
    subst hw2
    clear HD HM HZ
    obtain ⟨cq, hcq⟩ : ∃ cq, w2.heap.size = cq := ⟨_, rfl⟩
    have H2 : Hid (OutAt (w2.alloc (.cells #[.string ⟨#[]⟩, .bool false] 28)) W.heap.size (.slice none 0 0) (ByteArray.empty, false)) := H1.out.on (below_new w2 _)
    have Q2 : Hid (Blk (w2.alloc (.cells #[.string ⟨#[]⟩, .bool false] 28)) 28 cq #[.string ⟨#[]⟩, .bool false]) := Blk.new' _ _ _ _ hcq
    have B2 : Hid (Below W.heap.size W (w2.alloc (.cells #[.string ⟨#[]⟩, .bool false] 28))) := B1.out.alloc (by omega) _
    have hcl : W.heap.size < cq := by omega
    go_wp2_with fail
    have HCQ : Hid (w2.heap.size = cq) := hcq
    clear hcq
    go_loopw [5] (fun i wr => ∃ k : Nat, ∃ v : Value, k ≤ n ∧ i = .int .i64 k ∧ Hid (OutAt wr W.heap.size v (oA l k)) ∧ Hid (Blk wr 28 cq #[.string (oA l k).1, .bool (oA l k).2]) ∧ Hid (∀ j, v.ownBlock = some j → W.heap.size ≤ j ∧ j ≠ cq) ∧ Hid (Below W.heap.size W wr)) (fun i _ => n - (intOf i).toNat)
    case atStart => exact ⟨0, _, Nat.zero_le _, rfl, by rw [oA_zero]; exact H2, by rw [oA_zero]; exact Q2, fun j hj => by simp [Value.ownBlock] at hj, B2⟩
    case round =>
      clear H1 B1 l1 H2 Q2 B2 HCQ
      obtain ⟨k, v, hk, rfl, HO, HQ, HR, HB0⟩ := hrel
      by_cases hlt : k < n
      · have b0 : (k : Int) < (n : Int) := by omega
        obtain ⟨b, off, rfl, hcl0⟩ := HI.out.some (by omega)
        obtain ⟨q0, q1, q2, q3⟩ := hcl0 k hlt
        clear hcl0
        have r0 : wr.cell? ⟨b, off + k * 4, none⟩ = some (.int .i64 (kd (ptL l k))) := by rw [HB0.out.cell (World.block_lt_of_cell? W _ q0)]; exact q0
        have r1 : wr.cell? ⟨b, off + k * 4 + 1, none⟩ = some (.int .i64 (pn (ptL l k))) := by rw [HB0.out.cell (World.block_lt_of_cell? W _ q1)]; exact q1
        have r2 : wr.cell? ⟨b, off + k * 4 + 2, none⟩ = some (.int .i64 (pm (ptL l k))) := by rw [HB0.out.cell (World.block_lt_of_cell? W _ q2)]; exact q2
        have r3 : wr.cell? ⟨b, off + k * 4 + 3, none⟩ = some (.string (ps (ptL l k))) := by rw [HB0.out.cell (World.block_lt_of_cell? W _ q3)]; exact q3
        have HBk : Hid (b < W.heap.size) := World.block_lt_of_cell? W _ q0
        clear q0 q1 q2 q3
        have hS0 : (wr.cell? ⟨cq, 0, none⟩ = some (.string (oA l k).1) ∧ wr.cell? ⟨cq, 1, none⟩ = some (.bool (oA l k).2)) ∧ (wr.cell? ⟨b, off + k * 4, none⟩ = some (.int .i64 (kd (ptL l k))) ∧ wr.cell? ⟨b, off + k * 4 + 1, none⟩ = some (.int .i64 (pn (ptL l k))) ∧ wr.cell? ⟨b, off + k * 4 + 2, none⟩ = some (.int .i64 (pm (ptL l k))) ∧ wr.cell? ⟨b, off + k * 4 + 3, none⟩ = some (.string (ps (ptL l k)))) := ⟨⟨HQ.out.cell 0, HQ.out.cell 1⟩, r0, r1, r2, r3⟩
        clear r0 r1 r2 r3
        have HOd : OutAt wr.drew W.heap.size v (oA l k) := HO.out.on (Below.refl _ _).drew
        have HW := writes_any W.heap.size v (oA l k) (oA l k) (ptL l k) wr.drew HOd (oA_size l k) (Nat.le_trans (HP.out k hlt) (by decide))
        have HS1 : writeP (oA l k) (ptL l k) = oA l (k + 1) := by rw [oA_succ l k (by rw [HLn.out]; exact hlt)]
        rw [HS1] at HW
        clear HS1 HOd
        obtain ⟨o0, ho0⟩ : ∃ o0, oA l k = o0 := ⟨_, rfl⟩
        obtain ⟨o1, ho1⟩ : ∃ o1, oA l (k + 1) = o1 := ⟨_, rfl⟩
        obtain ⟨p, hp⟩ : ∃ p, ptL l k = p := ⟨_, rfl⟩
        have HO1 : Hid (oA l (k + 1) = o1) := ho1
        rw [ho0, hp, ho1] at HW
        rw [ho0, hp] at hS0
        rw [ho0] at HO HQ
        clear ho0 ho1 hp
        obtain ⟨S, qb⟩ := o0
        obtain ⟨S1, qb1⟩ := o1
        have HW1 : Hid (Calls Try.prog 11 #[.pointer (some ⟨W.heap.size, 0, none⟩), .agg #[.string S, .bool qb], .agg #[.int .i64 (kd p), .int .i64 (pn p), .int .i64 (pm p), .string (ps p)]] wr.drew fun e w' => e = .returned (.agg #[.string S1, .bool qb1]) ∧ OutTo wr.drew W.heap.size v (S1, qb1) w') := HW
        clear HW
        go_wp2_with fail
        refine wp_region_noPanic ?_
        refine till_begin 6 (fun W' => (W'.cell? ⟨cq, 0, none⟩ = some (.string S) ∧ W'.cell? ⟨cq, 1, none⟩ = some (.bool qb)) ∧ (W'.cell? ⟨b, off + k * 4, none⟩ = some (.int .i64 (kd p)) ∧ W'.cell? ⟨b, off + k * 4 + 1, none⟩ = some (.int .i64 (pn p)) ∧ W'.cell? ⟨b, off + k * 4 + 2, none⟩ = some (.int .i64 (pm p)) ∧ W'.cell? ⟨b, off + k * 4 + 3, none⟩ = some (.string (ps p)))) (fun _ => True) (by kernel_rfl) ?_
        have hT : True := trivial
        have hS : ((wr.drew.cell? ⟨cq, 0, none⟩ = some (.string S) ∧ wr.drew.cell? ⟨cq, 1, none⟩ = some (.bool qb)) ∧ (wr.drew.cell? ⟨b, off + k * 4, none⟩ = some (.int .i64 (kd p)) ∧ wr.drew.cell? ⟨b, off + k * 4 + 1, none⟩ = some (.int .i64 (pn p)) ∧ wr.drew.cell? ⟨b, off + k * 4 + 2, none⟩ = some (.int .i64 (pm p)) ∧ wr.drew.cell? ⟨b, off + k * 4 + 3, none⟩ = some (.string (ps p)))) := hS0
        refine till_take (i := 0) (v := ?_) rfl rfl (by kernel_rfl) (by kernel_rfl) (by kernel_rfl) rfl (fun _ _ _ h => h) (Or.inl ⟨by rfl, ?_⟩) (by assumption) (fun _ => by assumption) ?_
        rotate_left
        · intro w hSw; (try dsimp only at hSw); go_simp; try with_reducible rfl
        try simp only [Act.put, List.setIfInBounds_toArray, List.set_cons_zero, List.set_cons_succ]
        refine till_take' (i := 1) (v := ?_) rfl rfl (by kernel_rfl) (by kernel_rfl) (by kernel_rfl) rfl (by kernel_rfl) (by kernel_rfl) (fun _ _ _ h => h) (Or.inl ⟨by rfl, ?_⟩) (by assumption) (by assumption) ?_
        rotate_left
        · intro w hSw; (try dsimp only at hSw); go_simp; try with_reducible rfl
        try simp only [Act.put, List.setIfInBounds_toArray, List.set_cons_zero, List.set_cons_succ]
        refine till_take (i := 2) (v := ?_) rfl rfl (by kernel_rfl) (by kernel_rfl) (by kernel_rfl) rfl (fun _ _ _ h => h) (Or.inl ⟨by rfl, ?_⟩) (by assumption) (fun _ => by assumption) ?_
        rotate_left
        · intro w hSw; (try dsimp only at hSw); go_simp; try with_reducible rfl
        try simp only [Act.put, List.setIfInBounds_toArray, List.set_cons_zero, List.set_cons_succ]
        refine till_take (i := 3) (v := ?_) rfl rfl (by kernel_rfl) (by kernel_rfl) (by kernel_rfl) rfl (fun _ _ _ h => h) (Or.inl ⟨by rfl, ?_⟩) (by assumption) (fun _ => by assumption) ?_
        rotate_left
        · intro w hSw; (try dsimp only at hSw); go_simp; try with_reducible rfl
        try simp only [Act.put, List.setIfInBounds_toArray, List.set_cons_zero, List.set_cons_succ]
        refine till_take (i := 4) (v := ?_) rfl rfl (by kernel_rfl) (by kernel_rfl) (by kernel_rfl) rfl (fun _ _ _ h => h) (Or.inl ⟨by rfl, ?_⟩) (by assumption) (fun _ => by assumption) ?_
        rotate_left
        · intro w hSw; (try dsimp only at hSw); go_simp; try with_reducible rfl
        try simp only [Act.put, List.setIfInBounds_toArray, List.set_cons_zero, List.set_cons_succ]
        refine till_take' (i := 5) (v := ?_) rfl rfl (by kernel_rfl) (by kernel_rfl) (by kernel_rfl) rfl (by kernel_rfl) (by kernel_rfl) (fun _ _ _ h => h) (Or.inl ⟨by rfl, ?_⟩) (by assumption) (by assumption) ?_
        rotate_left
        · intro w hSw; (try dsimp only at hSw); go_simp; try with_reducible rfl
        try simp only [Act.put, List.setIfInBounds_toArray, List.set_cons_zero, List.set_cons_succ]
        refine till_step (i := 6) (by kernel_rfl) rfl (fun K hK => ?_)
        go_simp
        refine HW1.out.mono ?_
        rintro e w1 ⟨rfl, h1⟩
        clear HW1
        obtain ⟨v2, a2, k2, n2⟩ := h1
        have hqd : Blk wr.drew 28 cq #[.string S, .bool qb] := HQ.out.on (Below.refl _ _).drew
        have hq1 : Blk w1 28 cq #[.string S, .bool qb] := hqd.kept k2 (by omega) (fun e => (HR.out _ e.symm).2 rfl)
        have hb1 : Below W.heap.size wr w1 := (Below.refl _ _).drew.trans (k2.below W.heap.size HB0.out.size (Nat.le_refl _) (fun j hj => (HR.out j hj).1))
        have HB : Hid (Below W.heap.size W w1) := HB0.out.trans hb1
        have HR2 : Hid (∀ j, v2.ownBlock = some j → W.heap.size ≤ j ∧ j ≠ cq) := fun j hj => by
          rcases n2 j hj with h' | h'
          · exact HR.out j h'
          · have h0 : cq < wr.drew.heap.size := hqd.lt
            have h2 := HB0.out.size
            have h3 : wr.heap.size ≤ j := h'
            have h4 : cq < wr.heap.size := h0
            exact ⟨by omega, by omega⟩
        have HA2 : Hid (OutAt w1 W.heap.size v2 (S1, qb1)) := a2
        have HQ1 : Hid (Blk w1 28 cq #[.string S, .bool qb]) := hq1
        clear a2 k2 n2 hqd hq1 hS0 HO HQ HR HB0
        refine hK.out _ _ (trivial) (fun h => till_no (by kernel_rfl) h) ?_
        clear hK K
        clear hS
        refine till_step (i := 7) (by kernel_rfl) rfl (fun K hK => ?_)
        refine step_storeRow rfl rfl 28 _ _ rfl cq #[.string S, .bool qb] #[.string S1, .bool qb1] rfl rfl HQ1.out rfl (by kernel_rfl) (by simp [Value.oneCell']) ?_
        have HS9 : Hid (OutAt (w1.setRow cq #[.string S1, .bool qb1]) W.heap.size v2 (S1, qb1)) := HA2.out.setRowOther cq (by omega) (fun e => (HR2.out _ e).2 rfl) _
        have HQ9 : Hid (Blk (w1.setRow cq #[.string S1, .bool qb1]) 28 cq #[.string S1, .bool qb1]) := HQ1.out.setRow _
        have HB9 : Hid (Below W.heap.size W (w1.setRow cq #[.string S1, .bool qb1])) := below_setRow HB.out (by omega) _
        clear HA2 HQ1 HB
        refine hK.out _ _ (trivial) (fun h => till_no (by kernel_rfl) h) ?_
        clear hK K
        refine till_done (by kernel_rfl) (NoPanic.normal ?_) _
        generalize w1.setRow cq #[.string S1, .bool qb1] = w3 at *
        obtain ⟨D, e, hD⟩ := doneP_tuple (S1, qb1)
        have HDn : Hid (∀ w', w' = w3 → Calls Try.prog 12 #[.pointer (some ⟨W.heap.size, 0, none⟩)] w' fun x w'' => x = .returned (.tuple #[.string D, .int .i64 e]) ∧ w'' = w') := fun w' he => by subst he; rw [← hD]; exact odone_any _ v2 _ _ HS9.out
        have HRn : Hid (∀ w', Calls Try.prog 13 #[.agg #[.string S1, .bool qb1]] w' fun x w'' => x = .returned (.tuple #[.string D, .int .i64 e]) ∧ Below w'.heap.size w' w'') := fun w' => by rw [← hD]; exact rdone_any (S1, qb1) w'
        clear hD
        have c0 : w3.cell? ⟨cq, 0, none⟩ = some (.string S1) := HQ9.out.cell 0
        have c1 : w3.cell? ⟨cq, 1, none⟩ = some (.bool qb1) := HQ9.out.cell 1
        go_wp2_with fail
        refine (HDn.out _ rfl).mono ?_
        rintro x w4 ⟨rfl, hw4⟩
        subst hw4
        clear HDn
        go_wp2_with fail
        refine (HRn.out _).mono ?_
        rintro x w5 ⟨rfl, hb5⟩
        have HS5 : Hid (OutAt w5 W.heap.size v2 (S1, qb1)) := HS9.out.on hb5
        have HQ5 : Hid (Blk w5 28 cq #[.string S1, .bool qb1]) := HQ9.out.on hb5
        have HB5 : Hid (Below W.heap.size W w5) := below_step HB9.out (Nat.le_refl _) hb5
        clear HRn hb5 HS9 HQ9 HB9
        go_wp2
        refine ⟨⟨k + 1, v2, by omega, by go_num, by rw [HO1.out]; exact HS5, by rw [HO1.out]; exact HQ5, HR2, HB5⟩, ?_⟩
        simp [intOf]; omega
      · have hk' : k = n := by omega
        subst hk'
        have HB : Hid (Below W.heap.size W wr) := HB0
        clear HO HQ HR HB0
        go_wp2_with fail
        refine (awake9 _).mono ?_
        rintro e wz ⟨rfl, bz⟩
        have BZ : Hid (Below W.heap.size W wz) := below_step HB.out (Nat.le_refl _) bz
        clear bz
        go_wp2
        go_ret
        exact ⟨rfl, BZ.out⟩
  · go_enter Try.func3, Try.ntmps3
    have HD : Hid (¬ FewP l n) := hF
    clear hF
    go_wp2_with fail
    refine (newOut_any _).mono ?_
    rintro e w1 ⟨rfl, h1, b1⟩
    have H1 : Hid (OutAt w1 W.heap.size (.slice none 0 0) (ByteArray.empty, false)) := OutAt.ok.2 h1
    have B1 : Hid (Below W.heap.size W w1) := b1
    have l1 : W.heap.size < w1.heap.size := h1.1.lt
    clear h1 b1
    go_wp2_with fail
    refine (few9_no l a n c w1 HM.out (HI.out.below B1.out) HZ.out HD.out).mono ?_
    rintro e w2 ⟨rfl, hw2⟩
    subst hw2
    go_wp2_with fail
    refine (awake9 _).mono ?_
    rintro e w3 ⟨rfl, b3⟩
    have B3 : Hid (Below W.heap.size W w3) := below_step B1.out (Nat.le_refl _) b3
    clear b3
    go_wp2
    go_ret
    exact ⟨rfl, B3.out⟩
end Go.Proofs.Ytmpjhflbmngajaa
