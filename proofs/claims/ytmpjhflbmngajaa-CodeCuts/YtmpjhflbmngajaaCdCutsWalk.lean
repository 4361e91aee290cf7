/- The walk of CodeCuts. -/
import Derived.Test.YtmpjhflbmngajaaCdBackWalk
import Derived.Test.YtmpjhflbmngajaaCdReads
namespace Go.Proofs.Ytmpjhflbmngajaa
open Go.RowKit
set_option linter.unusedSimpArgs false

theorem nextCA_zero (i : ByteArray × Int) (l : List (Int × Int × Int × ByteArray)) : nextCA i (l.take 0) = i := by rw [List.take_zero]; rfl
theorem nextCA_succ (i : ByteArray × Int) (l : List (Int × Int × Int × ByteArray)) (k : Nat) (hk : k < l.length) : nextCA i (l.take (k + 1)) = nextC (nextCA i (l.take k)) (ptL l k) := by
  unfold nextCA
  rw [List.take_succ_eq_append_getElem hk, List.foldl_append]
  unfold ptL
  rw [List.getD_eq_getElem?_getD, List.getElem?_eq_getElem hk]; rfl
/-- A part as it is read: a text of any length. -/
def freeP (p : Int × Int × Int × ByteArray) : Int × Int × Int × ByteArray := if kd p < 1 ∨ 3 < kd p then (kd p, 65536, pm p, ps p) else p
theorem next_free (i : ByteArray × Int) (p : Int × Int × Int × ByteArray) : nextT i (freeP p) = nextC i p := by
  unfold freeP
  split
  · next h =>
    unfold nextT nextC
    show (if kd p = 1 then _ else if kd p = 2 then _ else if kd p = 3 then _ else (inTextC i 65536).1) = _
    rfl
  · next h =>
    unfold nextT nextC
    by_cases h1 : kd p = 1
    · rw [if_pos h1, if_pos h1]
    · rw [if_neg h1, if_neg h1]
      by_cases h2 : kd p = 2
      · rw [if_pos h2, if_pos h2]
      · rw [if_neg h2, if_neg h2]
        by_cases h3 : kd p = 3
        · rw [if_pos h3, if_pos h3]
        · exact absurd (by omega) h
theorem nextCA_more (l : List (Int × Int × Int × ByteArray)) (T : ByteArray) (hok : ∀ p ∈ l, okP p = true) : nextCA (encA l ++ T, 0) l = (T, 0) := by
  rw [nextCA_same l _ T hok (PreB.refl _)]
  rw [(nextA_all l _ T hok (PreB.refl _) (by rw [ByteArray.size_append]; omega)).1, back_rest rfl]
set_option maxHeartbeats 8000000 in
set_option maxRecDepth 100000 in
theorem codeCuts_walk (a : Option Addr) (n c : Nat) (left : Int) (W : World) (z : ∃ l, PartsAt W a n l ∧ n ≤ maxLen ∧ ∀ q ∈ l, PartOk q) :
    Calls Try.prog 5 #[.slice a n c, .int .i64 left] W fun e w' => e = .returned (.bool true) ∧ Below W.heap.size W w' := by
  obtain ⟨l, hI, hm, hok⟩ := z
  have HI : Hid (PartsAt W a n l) := hI
  have HZ : Hid (∀ i, (ps (ptL l i)).size ≤ maxLen) := ptL_max l hok
  have HM : Hid (n ≤ maxLen) := hm
  have hm' : n ≤ 9223372036854775807 := hm
  have HLn : Hid (l.length = n) := hI.1
  clear hI hm hok
  by_cases hF : FewP l n
  · have HD : Hid (FewP l n) := hF
    have HP : Hid (∀ i, i < n → (ps (ptL l i)).size ≤ 131072) := fun i hi => (hF.2 i hi).2
    clear hF
    go_enter Try.func5, Try.ntmps5
    go_wp2_with fail
    refine (newOut_any _).mono ?_
    rintro e w1 ⟨rfl, h1, b1⟩
    have H1 : Hid (OutAt w1 W.heap.size (.slice none 0 0) (ByteArray.empty, false)) := OutAt.ok.2 h1
    have B1 : Hid (Below W.heap.size W w1) := b1
    have l1 : W.heap.size < w1.heap.size := h1.1.lt
    clear h1 b1
    go_wp2_with fail
    refine (few9_yes l a n c w1 HM.out (HI.out.below B1.out) HZ.out HD.out).mono ?_
    rintro e w2 ⟨rfl, hw2⟩
    subst hw2
    clear HD HM HZ
    go_wp2_with fail
    go_loopw [6] (fun i wr => ∃ k : Nat, ∃ v : Value, k ≤ n ∧ i = .int .i64 k ∧ Hid (OutAt wr W.heap.size v (oA l k)) ∧ Hid (∀ j, v.ownBlock = some j → W.heap.size ≤ j) ∧ Hid (Below W.heap.size W wr)) (fun i _ => n - (intOf i).toNat)
    case atStart => exact ⟨0, _, Nat.zero_le _, rfl, by rw [oA_zero]; exact H1, fun j hj => by simp [Value.ownBlock] at hj, B1⟩
    case round =>
      clear H1 B1 l1
      obtain ⟨k, v, hk, rfl, HO, HR, HB0⟩ := hrel
      by_cases hlt : k < n
      · skip
        have b0 : (k : Int) < (n : Int) := by omega
        obtain ⟨b, off, rfl, hcl0⟩ := HI.out.some (by omega)
        obtain ⟨q0, q1, q2, q3⟩ := hcl0 k hlt
        clear hcl0
        have r0 : wr.cell? ⟨b, off + k * 4, none⟩ = some (.int .i64 (kd (ptL l k))) := by rw [HB0.out.cell (World.block_lt_of_cell? W _ q0)]; exact q0
        have r1 : wr.cell? ⟨b, off + k * 4 + 1, none⟩ = some (.int .i64 (pn (ptL l k))) := by rw [HB0.out.cell (World.block_lt_of_cell? W _ q1)]; exact q1
        have r2 : wr.cell? ⟨b, off + k * 4 + 2, none⟩ = some (.int .i64 (pm (ptL l k))) := by rw [HB0.out.cell (World.block_lt_of_cell? W _ q2)]; exact q2
        have r3 : wr.cell? ⟨b, off + k * 4 + 3, none⟩ = some (.string (ps (ptL l k))) := by rw [HB0.out.cell (World.block_lt_of_cell? W _ q3)]; exact q3
        clear q0 q1 q2 q3
        have HW := writes_any W.heap.size v (oA l k) (⟨#[]⟩, false) (ptL l k) wr HO.out (by decide) (Nat.le_trans (HP.out k hlt) (by decide))
        have HS1 : writeP (oA l k) (ptL l k) = oA l (k + 1) := by rw [oA_succ l k (by rw [HLn.out]; exact hlt)]
        rw [HS1] at HW
        have HW1 : Hid (Calls Try.prog 11 #[.pointer (some ⟨W.heap.size, 0, none⟩), .agg #[.string ⟨#[]⟩, .bool false], .agg #[.int .i64 (kd (ptL l k)), .int .i64 (pn (ptL l k)), .int .i64 (pm (ptL l k)), .string (ps (ptL l k))]] wr fun e w' => e = .returned (outV (writeP (⟨#[]⟩, false) (ptL l k))) ∧ OutTo wr W.heap.size v (oA l (k + 1)) w') := HW
        clear HW HS1
        go_wp2_with fail
        refine HW1.out.mono ?_
        rintro e w1 ⟨rfl, h1⟩
        clear HW1
        obtain ⟨v2, a2, b2, rr2⟩ := h1.below W.heap.size HB0.out.size (Nat.le_refl _) HR.out
        have HB : Hid (Below W.heap.size W w1) := HB0.out.trans b2
        have HR2 : Hid (∀ j, v2.ownBlock = some j → W.heap.size ≤ j) := rr2
        have HO2 : Hid (OutAt w1 W.heap.size v2 (oA l (k + 1))) := a2
        clear h1 b2 rr2 a2 HB0 HO HR r0 r1 r2 r3
        go_wp2
        refine ⟨⟨k + 1, v2, by omega, by go_num, HO2, HR2, HB⟩, ?_⟩
        simp [intOf]; omega
      · have hk' : k = n := by omega
        subst hk'
        have HB : Hid (Below W.heap.size W wr) := HB0
        clear HB0 HR
        cases hq : (oA l k).2 with
        | true =>
          obtain ⟨o9, ho9⟩ : ∃ o9, oA l k = o9 := ⟨_, rfl⟩
          rw [ho9] at HO hq
          clear ho9
          obtain ⟨S, bb⟩ := o9
          have hbb : bb = true := hq
          subst hbb
          clear hq
          go_wp2_with fail
          refine (odone_any W.heap.size v _ _ HO.out).mono ?_
          rintro e w2 ⟨rfl, hw2⟩
          subst hw2
          have hdn : doneP (S, true) = .tuple #[.string ⟨#[]⟩, .int .i64 1] := rfl
          rw [hdn]
          clear hdn
          go_wp2_with fail
          refine (awake9 _).mono ?_
          rintro e wz ⟨rfl, bz⟩
          have BZ : Hid (Below W.heap.size W wz) := below_step HB.out (Nat.le_refl _) bz
          clear bz
          go_wp2
          go_ret
          exact ⟨rfl, BZ.out⟩
        | false =>
          obtain ⟨e1, e2, e3⟩ := oA_all l k HLn.out hq
          rw [e1] at HO
          have HOK : Hid (∀ p ∈ l, okP p = true) := e2
          clear hq e1 e2
          obtain ⟨E, hE⟩ : ∃ E, encA l = E := ⟨_, rfl⟩
          rw [hE] at HO e3
          have HE : Hid (encA l = E) := hE
          clear hE
          by_cases hz : E.size = 0
          · have he := empty_yes E hz
            go_wp2_with fail
            refine (odone_any W.heap.size v _ _ HO.out).mono ?_
            rintro e w2 ⟨rfl, hw2⟩
            subst hw2
            have hdn : doneP (E, false) = .tuple #[.string E, .int .i64 0] := rfl
            rw [hdn]
            clear hdn
            go_wp2_with fail
            refine (awake9 _).mono ?_
            rintro e wz ⟨rfl, bz⟩
            have BZ : Hid (Below W.heap.size W wz) := below_step HB.out (Nat.le_refl _) bz
            clear bz
            go_wp2
            go_ret
            exact ⟨rfl, BZ.out⟩
          · have he := empty_no E hz
            obtain ⟨M, hM⟩ : ∃ M : Nat, bits .and .i64 left 65535 = (M : Int) := ⟨(left % 65536).toNat, by rw [i64_mask left 16 (by decide) 65535 (by decide)]; omega⟩
            obtain ⟨m, hm⟩ : ∃ m : Nat, M % E.size = m := ⟨_, rfl⟩
            have hml : m < E.size := by rw [← hm]; exact Nat.mod_lt _ (by omega)
            have hrem : Int.tmod (M : Int) (E.size : Int) = (m : Int) := by rw [← hm, ← Int.ofNat_tmod]
            clear hm
            have i1 : (m : Int) ≤ (E.size : Int) := by omega
            go_wp2_with fail
            refine (odone_any W.heap.size v _ _ HO.out).mono ?_
            rintro e w2 ⟨rfl, hw2⟩
            subst hw2
            have hdn : doneP (E, false) = .tuple #[.string E, .int .i64 0] := rfl
            rw [hdn]
            clear hdn
            go_wp2_with fail
            obtain ⟨A, hA⟩ : ∃ A, E.extract 0 m = A := ⟨_, rfl⟩
            have hAs : A.size ≤ 65536 := by rw [← hA, ByteArray.size_extract]; omega
            have HA : Hid (nextCA (A, 0) (l.take k) = (⟨#[]⟩, 90)) := by
              show _ = _
              rw [List.take_of_length_le (by rw [HLn.out]; exact Nat.le_refl _)]
              have hp : PreB A (encA l) := by rw [HE.out, ← hA]; exact PreB.cut E m (by omega)
              exact nextCA_cut l A HOK.out hp (by rw [HE.out, ← hA, ByteArray.size_extract]; omega)
            rw [hA]
            refine (newIn_any A _ (by omega)).mono ?_
            rintro e w3 ⟨rfl, h3, b3⟩
            obtain ⟨gi, hgi0⟩ : ∃ gi, w2.heap.size = gi := ⟨_, rfl⟩
            have hgi : W.heap.size ≤ gi := by have := HB.out.size; omega
            rw [hgi0] at h3 ⊢
            have HI3 : Hid (InAt w3 gi (A, 0)) := h3
            have hgl : gi < w3.heap.size := h3.1.lt
            have HB3 : Hid (Below W.heap.size W w3) := below_step HB.out (Nat.le_refl _) b3
            clear h3 b3 hgi0 HO HB hA
            obtain ⟨F, hF⟩ : ∃ F, E ++ ⟨#[120]⟩ = F := ⟨_, rfl⟩
            have hFs : F.size ≤ 65537 := by rw [← hF, ByteArray.size_append]; exact Nat.add_le_add_right e3 1
            have HFn : Hid (nextCA (F, 0) (l.take k) = (⟨#[120]⟩, 0)) := by
              show _ = _
              rw [List.take_of_length_le (by rw [HLn.out]; exact Nat.le_refl _), ← hF, ← HE.out]
              exact nextCA_more l ⟨#[120]⟩ HOK.out
            have HFe : Hid (E ++ ⟨#[120]⟩ = F) := hF
            have hsum : ¬ (9223372036854775807 < E.size + 1) := by omega
            go_wp2_with fail
            refine (newIn_any F _ (by omega)).mono ?_
            rintro e w5 ⟨rfl, h5, b5⟩
            obtain ⟨gj, hgj0⟩ : ∃ gj, w3.heap.size = gj := ⟨_, rfl⟩
            rw [hgj0] at h5 ⊢
            have hgj : W.heap.size ≤ gj := by omega
            have hij : gi < gj := by omega
            have HJ5 : Hid (InAt w5 gj (F, 0)) := h5
            have HI5 : Hid (InAt w5 gi (A, 0)) := HI3.out.on b5
            have HB5 : Hid (Below W.heap.size W w5) := below_step HB3.out (Nat.le_refl _) b5
            clear h5 b5 hgj0 HI3 HB3 hgl hF HFe hsum i1 hrem hM hml he hz e3 HE hAs hFs
            go_wp2_with fail
            go_loopw [11] (fun i wr => ∃ j : Nat, j ≤ k ∧ i = .int .i64 j ∧ Hid (InAt wr gi (nextCA (A, 0) (l.take j))) ∧ Hid (InAt wr gj (nextCA (F, 0) (l.take j))) ∧ Hid (Below W.heap.size W wr)) (fun i _ => k - (intOf i).toNat)
            case atStart => exact ⟨0, Nat.zero_le _, rfl, by rw [nextCA_zero]; exact HI5, by rw [nextCA_zero]; exact HJ5, HB5⟩
            case round =>
              clear HI5 HJ5 HB5
              obtain ⟨j, hj, rfl, HIn, HJn, HB0⟩ := hrel
              by_cases hlt2 : j < k
              · have b0 : (j : Int) < (k : Int) := by omega
                obtain ⟨b, off, rfl, hcl0⟩ := HI.out.some (by omega)
                obtain ⟨q0, q1, q2, q3⟩ := hcl0 j hlt2
                clear hcl0
                have r0 : wr.cell? ⟨b, off + j * 4, none⟩ = some (.int .i64 (kd (ptL l j))) := by rw [HB0.out.cell (World.block_lt_of_cell? W _ q0)]; exact q0
                have r1 : wr.cell? ⟨b, off + j * 4 + 1, none⟩ = some (.int .i64 (pn (ptL l j))) := by rw [HB0.out.cell (World.block_lt_of_cell? W _ q1)]; exact q1
                have r2 : wr.cell? ⟨b, off + j * 4 + 2, none⟩ = some (.int .i64 (pm (ptL l j))) := by rw [HB0.out.cell (World.block_lt_of_cell? W _ q2)]; exact q2
                have r3 : wr.cell? ⟨b, off + j * 4 + 3, none⟩ = some (.string (ps (ptL l j))) := by rw [HB0.out.cell (World.block_lt_of_cell? W _ q3)]; exact q3
                clear q0 q1 q2 q3
                have hjl : j < l.length := by rw [HLn.out]; exact hlt2
                have HNa : Hid (nextCA (A, 0) (l.take (j + 1)) = nextC (nextCA (A, 0) (l.take j)) (ptL l j)) := nextCA_succ _ l j hjl
                have HNb : Hid (nextCA (F, 0) (l.take (j + 1)) = nextC (nextCA (F, 0) (l.take j)) (ptL l j)) := nextCA_succ _ l j hjl
                clear hjl
                generalize nextCA (A, 0) (l.take j) = ia at HNa HIn
                generalize nextCA (F, 0) (l.take j) = ib at HNb HJn
                generalize ptL l j = p at HNa HNb r0 r1 r2 r3
                have HNf : Hid (nextT ia (freeP p) = nextC ia p) := next_free ia p
                have HNf2 : Hid (nextT ib (freeP p) = nextC ib p) := next_free ib p
                obtain ⟨cp, hcp⟩ : ∃ cp, wr.heap.size = cp := ⟨_, rfl⟩
                have hgc : gj < cp := by have := HJn.out.1.lt; omega
                by_cases hfr : kd p < 1 ∨ 3 < kd p
                · have e1 : freeP p = (kd p, 65536, pm p, ps p) := if_pos hfr
                  have HRd : Hid (∀ w' g i, InAt w' g i → Calls Try.prog 21 #[.pointer (some ⟨g, 0, none⟩), .agg #[.string ⟨#[]⟩, .int .i64 0], .agg #[.int .i64 (kd p), .int .i64 65536, .int .i64 (pm p), .string (ps p)]] w' fun e w'' => ∃ q : Bool, e = .returned (.tuple #[.agg #[.string ⟨#[]⟩, .int .i64 90], .bool q]) ∧ InTo w' g (nextT i (freeP p)) w'') := fun w' g i h => by
                    rw [e1]; exact reads_any g i (kd p, 65536, pm p, ps p) w' h
                  have HPc : Hid (Blk (wr.alloc (.cells #[.int .i64 (kd p), .int .i64 65536, .int .i64 (pm p), .string (ps p)] 31)) 31 cp #[.int .i64 (kd p), .int .i64 65536, .int .i64 (pm p), .string (ps p)]) := Blk.new' _ _ _ _ hcp
                  have HB1 : Hid (Below W.heap.size W (wr.alloc (.cells #[.int .i64 (kd p), .int .i64 65536, .int .i64 (pm p), .string (ps p)] 31))) := HB0.out.alloc HB0.out.size _
                  have HIa : Hid (InAt (wr.alloc (.cells #[.int .i64 (kd p), .int .i64 65536, .int .i64 (pm p), .string (ps p)] 31)) gi ia) := HIn.out.on (below_new wr _)
                  have HIb : Hid (InAt (wr.alloc (.cells #[.int .i64 (kd p), .int .i64 65536, .int .i64 (pm p), .string (ps p)] 31)) gj ib) := HJn.out.on (below_new wr _)
                  clear HIn HJn HB0 e1
                  generalize kd p = K at *
                  rcases hfr with hf | hf
                  · go_wp2_with fail
                    refine (HRd.out _ gi _ HIa.out).mono ?_
                    rintro e w4 ⟨q4, rfl, h4⟩
                    have HIa4 : Hid (InAt w4 gi (nextC ia p)) := by rw [← HNf.out]; exact h4.1
                    have HIb4 : Hid (InAt w4 gj ib) := HIb.out.kept h4.2 (by omega) (by simp)
                    have HPc4 : Hid (Blk w4 31 cp _) := HPc.out.kept h4.2 (by omega) (by simp)
                    have HB4 : Hid (Below W.heap.size W w4) := HB1.out.trans (h4.below W.heap.size HB1.out.size hgi)
                    have l4 : cp < w4.heap.size := HPc4.out.lt
                    clear h4 HIa HIb HPc HB1
                    have HIa5 : Hid (InAt (w4.alloc (.cells #[.string ⟨#[]⟩, .int .i64 90] 45)) gi (nextC ia p)) := HIa4.out.on (below_new w4 _)
                    have HIb5 : Hid (InAt (w4.alloc (.cells #[.string ⟨#[]⟩, .int .i64 90] 45)) gj ib) := HIb4.out.on (below_new w4 _)
                    have HPc5 : Hid (Blk (w4.alloc (.cells #[.string ⟨#[]⟩, .int .i64 90] 45)) 31 cp _) := HPc4.out.alloc _
                    obtain ⟨c4, hc4⟩ : ∃ c4, w4.heap.size = c4 := ⟨_, rfl⟩
                    have HC5 : Hid (Blk (w4.alloc (.cells #[.string ⟨#[]⟩, .int .i64 90] 45)) 45 c4 #[.string ⟨#[]⟩, .int .i64 90]) := Blk.new' _ _ _ _ hc4
                    have HB5 : Hid (Below W.heap.size W (w4.alloc (.cells #[.string ⟨#[]⟩, .int .i64 90] 45))) := HB4.out.alloc HB4.out.size _
                    clear HIa4 HIb4 HPc4 HB4
                    have q0 := HPc5.out.cell 0
                    have q1 := HPc5.out.cell 1
                    have q2 := HPc5.out.cell 2
                    have q3 := HPc5.out.cell 3
                    simp only [List.getElem?_toArray, List.getElem?_cons_zero, List.getElem?_cons_succ] at q0 q1 q2 q3
                    go_wp2_with fail
                    refine (HRd.out _ gj _ HIb5.out).mono ?_
                    rintro e w6 ⟨q6, rfl, h6⟩
                    have HIb6 : Hid (InAt w6 gj (nextC ib p)) := by rw [← HNf2.out]; exact h6.1
                    have HIa6 : Hid (InAt w6 gi (nextC ia p)) := HIa5.out.kept h6.2 (by omega) (by simp)
                    have HC6 : Blk w6 45 c4 #[.string ⟨#[]⟩, .int .i64 90] := HC5.out.kept h6.2 (by omega) (by simp)
                    have HB6 : Hid (Below W.heap.size W w6) := HB5.out.trans (h6.below W.heap.size HB5.out.size hgj)
                    have l6 : c4 < w6.heap.size := HC6.lt
                    have s1 : w6.cell? ⟨c4, 1, none⟩ = some (.int .i64 90) := HC6.cell 1
                    clear h6 HIa5 HIb5 HPc5 HB5 HC5 HC6 q0 q1 q2 q3
                    have HIb7 : Hid (InAt (w6.alloc (.cells #[.string ⟨#[]⟩, .int .i64 90] 45)) gj (nextC ib p)) := HIb6.out.on (below_new w6 _)
                    have HIa7 : Hid (InAt (w6.alloc (.cells #[.string ⟨#[]⟩, .int .i64 90] 45)) gi (nextC ia p)) := HIa6.out.on (below_new w6 _)
                    have HB7 : Hid (Below W.heap.size W (w6.alloc (.cells #[.string ⟨#[]⟩, .int .i64 90] 45))) := HB6.out.alloc HB6.out.size _
                    clear HIb6 HIa6 HB6
                    go_wp2
                    go_roundw
                    case rel => exact ⟨j + 1, by omega, by go_num, by rw [HNa.out]; exact HIa7, by rw [HNb.out]; exact HIb7, HB7⟩
                    case measure => simp [intOf]; omega
                  · have hf' : ¬ K < 1 := by omega
                    go_wp2_with fail
                    refine (HRd.out _ gi _ HIa.out).mono ?_
                    rintro e w4 ⟨q4, rfl, h4⟩
                    have HIa4 : Hid (InAt w4 gi (nextC ia p)) := by rw [← HNf.out]; exact h4.1
                    have HIb4 : Hid (InAt w4 gj ib) := HIb.out.kept h4.2 (by omega) (by simp)
                    have HPc4 : Hid (Blk w4 31 cp _) := HPc.out.kept h4.2 (by omega) (by simp)
                    have HB4 : Hid (Below W.heap.size W w4) := HB1.out.trans (h4.below W.heap.size HB1.out.size hgi)
                    have l4 : cp < w4.heap.size := HPc4.out.lt
                    clear h4 HIa HIb HPc HB1
                    have HIa5 : Hid (InAt (w4.alloc (.cells #[.string ⟨#[]⟩, .int .i64 90] 45)) gi (nextC ia p)) := HIa4.out.on (below_new w4 _)
                    have HIb5 : Hid (InAt (w4.alloc (.cells #[.string ⟨#[]⟩, .int .i64 90] 45)) gj ib) := HIb4.out.on (below_new w4 _)
                    have HPc5 : Hid (Blk (w4.alloc (.cells #[.string ⟨#[]⟩, .int .i64 90] 45)) 31 cp _) := HPc4.out.alloc _
                    obtain ⟨c4, hc4⟩ : ∃ c4, w4.heap.size = c4 := ⟨_, rfl⟩
                    have HC5 : Hid (Blk (w4.alloc (.cells #[.string ⟨#[]⟩, .int .i64 90] 45)) 45 c4 #[.string ⟨#[]⟩, .int .i64 90]) := Blk.new' _ _ _ _ hc4
                    have HB5 : Hid (Below W.heap.size W (w4.alloc (.cells #[.string ⟨#[]⟩, .int .i64 90] 45))) := HB4.out.alloc HB4.out.size _
                    clear HIa4 HIb4 HPc4 HB4
                    have q0 := HPc5.out.cell 0
                    have q1 := HPc5.out.cell 1
                    have q2 := HPc5.out.cell 2
                    have q3 := HPc5.out.cell 3
                    simp only [List.getElem?_toArray, List.getElem?_cons_zero, List.getElem?_cons_succ] at q0 q1 q2 q3
                    go_wp2_with fail
                    refine (HRd.out _ gj _ HIb5.out).mono ?_
                    rintro e w6 ⟨q6, rfl, h6⟩
                    have HIb6 : Hid (InAt w6 gj (nextC ib p)) := by rw [← HNf2.out]; exact h6.1
                    have HIa6 : Hid (InAt w6 gi (nextC ia p)) := HIa5.out.kept h6.2 (by omega) (by simp)
                    have HC6 : Blk w6 45 c4 #[.string ⟨#[]⟩, .int .i64 90] := HC5.out.kept h6.2 (by omega) (by simp)
                    have HB6 : Hid (Below W.heap.size W w6) := HB5.out.trans (h6.below W.heap.size HB5.out.size hgj)
                    have l6 : c4 < w6.heap.size := HC6.lt
                    have s1 : w6.cell? ⟨c4, 1, none⟩ = some (.int .i64 90) := HC6.cell 1
                    clear h6 HIa5 HIb5 HPc5 HB5 HC5 HC6 q0 q1 q2 q3
                    have HIb7 : Hid (InAt (w6.alloc (.cells #[.string ⟨#[]⟩, .int .i64 90] 45)) gj (nextC ib p)) := HIb6.out.on (below_new w6 _)
                    have HIa7 : Hid (InAt (w6.alloc (.cells #[.string ⟨#[]⟩, .int .i64 90] 45)) gi (nextC ia p)) := HIa6.out.on (below_new w6 _)
                    have HB7 : Hid (Below W.heap.size W (w6.alloc (.cells #[.string ⟨#[]⟩, .int .i64 90] 45))) := HB6.out.alloc HB6.out.size _
                    clear HIb6 HIa6 HB6
                    go_wp2
                    go_roundw
                    case rel => exact ⟨j + 1, by omega, by go_num, by rw [HNa.out]; exact HIa7, by rw [HNb.out]; exact HIb7, HB7⟩
                    case measure => simp [intOf]; omega
                · have e1 : freeP p = p := if_neg hfr
                  have HRd : Hid (∀ w' g i, InAt w' g i → Calls Try.prog 21 #[.pointer (some ⟨g, 0, none⟩), .agg #[.string ⟨#[]⟩, .int .i64 0], .agg #[.int .i64 (kd p), .int .i64 (pn p), .int .i64 (pm p), .string (ps p)]] w' fun e w'' => ∃ q : Bool, e = .returned (.tuple #[.agg #[.string ⟨#[]⟩, .int .i64 90], .bool q]) ∧ InTo w' g (nextT i (freeP p)) w'') := fun w' g i h => by
                    rw [e1]; exact reads_any g i p w' h
                  have HPc : Hid (Blk (wr.alloc (.cells #[.int .i64 (kd p), .int .i64 (pn p), .int .i64 (pm p), .string (ps p)] 31)) 31 cp #[.int .i64 (kd p), .int .i64 (pn p), .int .i64 (pm p), .string (ps p)]) := Blk.new' _ _ _ _ hcp
                  have HB1 : Hid (Below W.heap.size W (wr.alloc (.cells #[.int .i64 (kd p), .int .i64 (pn p), .int .i64 (pm p), .string (ps p)] 31))) := HB0.out.alloc HB0.out.size _
                  have HIa : Hid (InAt (wr.alloc (.cells #[.int .i64 (kd p), .int .i64 (pn p), .int .i64 (pm p), .string (ps p)] 31)) gi ia) := HIn.out.on (below_new wr _)
                  have HIb : Hid (InAt (wr.alloc (.cells #[.int .i64 (kd p), .int .i64 (pn p), .int .i64 (pm p), .string (ps p)] 31)) gj ib) := HJn.out.on (below_new wr _)
                  have hf1 : ¬ kd p < 1 := fun h => hfr (Or.inl h)
                  have hf2 : ¬ 3 < kd p := fun h => hfr (Or.inr h)
                  clear HIn HJn HB0 e1 hfr
                  generalize kd p = K at *
                  go_wp2_with fail
                  refine (HRd.out _ gi _ HIa.out).mono ?_
                  rintro e w4 ⟨q4, rfl, h4⟩
                  have HIa4 : Hid (InAt w4 gi (nextC ia p)) := by rw [← HNf.out]; exact h4.1
                  have HIb4 : Hid (InAt w4 gj ib) := HIb.out.kept h4.2 (by omega) (by simp)
                  have HPc4 : Hid (Blk w4 31 cp _) := HPc.out.kept h4.2 (by omega) (by simp)
                  have HB4 : Hid (Below W.heap.size W w4) := HB1.out.trans (h4.below W.heap.size HB1.out.size hgi)
                  have l4 : cp < w4.heap.size := HPc4.out.lt
                  clear h4 HIa HIb HPc HB1
                  have HIa5 : Hid (InAt (w4.alloc (.cells #[.string ⟨#[]⟩, .int .i64 90] 45)) gi (nextC ia p)) := HIa4.out.on (below_new w4 _)
                  have HIb5 : Hid (InAt (w4.alloc (.cells #[.string ⟨#[]⟩, .int .i64 90] 45)) gj ib) := HIb4.out.on (below_new w4 _)
                  have HPc5 : Hid (Blk (w4.alloc (.cells #[.string ⟨#[]⟩, .int .i64 90] 45)) 31 cp _) := HPc4.out.alloc _
                  obtain ⟨c4, hc4⟩ : ∃ c4, w4.heap.size = c4 := ⟨_, rfl⟩
                  have HC5 : Hid (Blk (w4.alloc (.cells #[.string ⟨#[]⟩, .int .i64 90] 45)) 45 c4 #[.string ⟨#[]⟩, .int .i64 90]) := Blk.new' _ _ _ _ hc4
                  have HB5 : Hid (Below W.heap.size W (w4.alloc (.cells #[.string ⟨#[]⟩, .int .i64 90] 45))) := HB4.out.alloc HB4.out.size _
                  clear HIa4 HIb4 HPc4 HB4
                  have q0 := HPc5.out.cell 0
                  have q1 := HPc5.out.cell 1
                  have q2 := HPc5.out.cell 2
                  have q3 := HPc5.out.cell 3
                  simp only [List.getElem?_toArray, List.getElem?_cons_zero, List.getElem?_cons_succ] at q0 q1 q2 q3
                  go_wp2_with fail
                  refine (HRd.out _ gj _ HIb5.out).mono ?_
                  rintro e w6 ⟨q6, rfl, h6⟩
                  have HIb6 : Hid (InAt w6 gj (nextC ib p)) := by rw [← HNf2.out]; exact h6.1
                  have HIa6 : Hid (InAt w6 gi (nextC ia p)) := HIa5.out.kept h6.2 (by omega) (by simp)
                  have HC6 : Blk w6 45 c4 #[.string ⟨#[]⟩, .int .i64 90] := HC5.out.kept h6.2 (by omega) (by simp)
                  have HB6 : Hid (Below W.heap.size W w6) := HB5.out.trans (h6.below W.heap.size HB5.out.size hgj)
                  have l6 : c4 < w6.heap.size := HC6.lt
                  have s1 : w6.cell? ⟨c4, 1, none⟩ = some (.int .i64 90) := HC6.cell 1
                  clear h6 HIa5 HIb5 HPc5 HB5 HC5 HC6 q0 q1 q2 q3
                  have HIb7 : Hid (InAt (w6.alloc (.cells #[.string ⟨#[]⟩, .int .i64 90] 45)) gj (nextC ib p)) := HIb6.out.on (below_new w6 _)
                  have HIa7 : Hid (InAt (w6.alloc (.cells #[.string ⟨#[]⟩, .int .i64 90] 45)) gi (nextC ia p)) := HIa6.out.on (below_new w6 _)
                  have HB7 : Hid (Below W.heap.size W (w6.alloc (.cells #[.string ⟨#[]⟩, .int .i64 90] 45))) := HB6.out.alloc HB6.out.size _
                  clear HIb6 HIa6 HB6
                  go_wp2
                  go_roundw
                  case rel => exact ⟨j + 1, by omega, by go_num, by rw [HNa.out]; exact HIa7, by rw [HNb.out]; exact HIb7, HB7⟩
                  case measure => simp [intOf]; omega
              · have hj' : j = k := by omega
                subst hj'
                rw [HA.out] at HIn
                rw [HFn.out] at HJn
                have HB : Hid (Below W.heap.size W wr) := HB0
                clear HB0
                go_wp2_with fail
                have C1 := idone_any gi _ _ HIn.out
                rw [show inDoneP (⟨#[]⟩, 90) = 90 from rfl] at C1
                refine C1.mono ?_
                clear C1
                rintro e w4 ⟨rfl, hw4⟩
                subst hw4
                go_wp2_with fail
                refine (irest_any gi _ _ HIn.out).mono ?_
                rintro e w5 ⟨rfl, hw5⟩
                subst hw5
                have hz0 : (ByteArray.size ⟨#[]⟩) = 0 := rfl
                go_wp2_with fail
                have C1 := idone_any gj _ _ HJn.out
                rw [show inDoneP (⟨#[120]⟩, 0) = 91 from rfl] at C1
                refine C1.mono ?_
                clear C1
                rintro e w6 ⟨rfl, hw6⟩
                subst hw6
                go_wp2_with fail
                refine (irest_any gj _ _ HJn.out).mono ?_
                rintro e w7 ⟨rfl, hw7⟩
                subst hw7
                have hz1 : (ByteArray.size ⟨#[120]⟩) = 1 := rfl
                go_wp2_with fail
                refine (awake9 _).mono ?_
                rintro e wz ⟨rfl, bz⟩
                have BZ : Hid (Below W.heap.size W wz) := below_step HB.out (Nat.le_refl _) bz
                clear bz
                go_wp2
                go_ret
                exact ⟨rfl, BZ.out⟩
  · go_enter Try.func5, Try.ntmps5
    have HD : Hid (¬ FewP l n) := hF
    clear hF
    go_wp2_with fail
    refine (newOut_any _).mono ?_
    rintro e w1 ⟨rfl, h1, b1⟩
    have H1 : Hid (OutAt w1 W.heap.size (.slice none 0 0) (ByteArray.empty, false)) := OutAt.ok.2 h1
    have B1 : Hid (Below W.heap.size W w1) := b1
    have l1 : W.heap.size < w1.heap.size := h1.1.lt
    clear h1 b1
    go_wp2_with fail
    refine (few9_no l a n c w1 HM.out (HI.out.below B1.out) HZ.out HD.out).mono ?_
    rintro e w2 ⟨rfl, hw2⟩
    subst hw2
    go_wp2_with fail
    refine (awake9 _).mono ?_
    rintro e w3 ⟨rfl, b3⟩
    have B3 : Hid (Below W.heap.size W w3) := below_step B1.out (Nat.le_refl _) b3
    clear b3
    go_wp2
    go_ret
    exact ⟨rfl, B3.out⟩
end Go.Proofs.Ytmpjhflbmngajaa
