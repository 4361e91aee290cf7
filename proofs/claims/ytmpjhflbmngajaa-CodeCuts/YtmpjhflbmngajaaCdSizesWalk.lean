/- The walk of CodeSizes; what the laws of layer 9 begin with. -/
import Derived.Test.YtmpjhflbmngajaaCdL
namespace Go.Proofs.Ytmpjhflbmngajaa
open Go.RowKit
set_option linter.unusedSimpArgs false

theorem ptL_max (l : List (Int × Int × Int × ByteArray)) (h : ∀ q ∈ l, PartOk q) (i : Nat) : (ps (ptL l i)).size ≤ maxLen := by
  unfold ptL
  by_cases hi : i < l.length
  · rw [List.getD_eq_getElem?_getD, List.getElem?_eq_getElem hi]
    exact (h _ (List.getElem_mem hi)).2.2.2
  · rw [List.getD_eq_getElem?_getD, List.getElem?_eq_none (by omega)]
    exact Nat.zero_le _
/-- What is written behind the first k parts. -/
def oA (l : List (Int × Int × Int × ByteArray)) (k : Nat) : ByteArray × Bool := writeA (ByteArray.empty, false) (l.take k)
theorem oA_zero (l : List (Int × Int × Int × ByteArray)) : oA l 0 = (ByteArray.empty, false) := by unfold oA writeA; rw [List.take_zero]; rfl
theorem oA_succ (l : List (Int × Int × Int × ByteArray)) (k : Nat) (hk : k < l.length) : oA l (k + 1) = writeP (oA l k) (ptL l k) := by
  unfold oA writeA
  rw [List.take_succ_eq_append_getElem hk, List.foldl_append]
  unfold ptL
  rw [List.getD_eq_getElem?_getD, List.getElem?_eq_getElem hk]; rfl
theorem writeP_cases (S : ByteArray) (p : Int × Int × Int × ByteArray) : (okP p = true ∧ S.size + (encP p).size ≤ 65536 ∧ writeP (S, false) p = (S ++ encP p, false)) ∨ writeP (S, false) p = (S, true) := by
  rw [writeP_eq]
  by_cases h : okP p = true ∧ S.size + (encP p).size ≤ 65536
  · left; refine ⟨h.1, h.2, ?_⟩; rw [h.1]; exact withP_true _ _ h.2
  · right
    cases hq : okP p with
    | false => exact withP_not _ _
    | true => exact withP_long _ _ (by
      rcases Nat.lt_or_ge 65536 (S.size + (encP p).size) with h' | h'
      · exact h'
      · exact absurd ⟨hq, h'⟩ h)
theorem writeP_size (o : ByteArray × Bool) (p : Int × Int × Int × ByteArray) (h : o.1.size ≤ 65536) : (writeP o p).1.size ≤ 65536 := by rw [writeP_eq]; exact withP_size _ _ _ h
theorem oA_size (l : List (Int × Int × Int × ByteArray)) (k : Nat) : (oA l k).1.size ≤ 65536 := by
  unfold oA writeA
  generalize l.take k = m
  suffices ∀ o : ByteArray × Bool, o.1.size ≤ 65536 → (List.foldl writeP o m).1.size ≤ 65536 from this _ (by decide)
  induction m with
  | nil => exact fun o h => h
  | cons p m ih => exact fun o h => ih _ (writeP_size o p h)
theorem encP_size (p : Int × Int × Int × ByteArray) : (encP p).size = if kd p = 1 then 1 else if kd p = 2 then 6 else if kd p = 3 then 7 else 2 + (ps p).size := by
  unfold encP
  split
  · exact bigB_size _ _
  · split
    · exact bigB_size _ _
    · split
      · rw [ByteArray.size_append, bigB_size, bigB_size]
      · rw [ByteArray.size_append, bigB_size]

theorem few9_yes (l : List (Int × Int × Int × ByteArray)) (a : Option Addr) (n c : Nat) (w : World) (hm : n ≤ maxLen) (hI : PartsAt w a n l) (hz : ∀ i, (ps (ptL l i)).size ≤ maxLen) (h : FewP l n) :
    Calls Try.prog 9 #[.slice a n c] w fun e w' => e = .returned (.bool true) ∧ w' = w := few9 l a n c w hm hI hz true ⟨fun _ => h, fun _ => rfl⟩
theorem few9_no (l : List (Int × Int × Int × ByteArray)) (a : Option Addr) (n c : Nat) (w : World) (hm : n ≤ maxLen) (hI : PartsAt w a n l) (hz : ∀ i, (ps (ptL l i)).size ≤ maxLen) (h : ¬ FewP l n) :
    Calls Try.prog 9 #[.slice a n c] w fun e w' => e = .returned (.bool false) ∧ w' = w := few9 l a n c w hm hI hz false ⟨fun h' => (by cases h'), fun h' => absurd h' h⟩
set_option maxHeartbeats 4000000 in
set_option maxRecDepth 100000 in
theorem codeSizes_walk (a : Option Addr) (n c : Nat) (W : World) (z : ∃ l, PartsAt W a n l ∧ n ≤ maxLen ∧ ∀ q ∈ l, PartOk q) :
    Calls Try.prog 7 #[.slice a n c] W fun e w' => e = .returned (.bool true) ∧ Below W.heap.size W w' := by
  obtain ⟨l, hI, hm, hok⟩ := z
  have HI : Hid (PartsAt W a n l) := hI
  have HZ : Hid (∀ i, (ps (ptL l i)).size ≤ maxLen) := ptL_max l hok
  have HM : Hid (n ≤ maxLen) := hm
  have hm' : n ≤ 9223372036854775807 := hm
  have HLn : Hid (l.length = n) := hI.1
  clear hI hm hok
  by_cases hF : FewP l n
  · have HD : Hid (FewP l n) := hF
    have HP : Hid (∀ i, i < n → (ps (ptL l i)).size ≤ 131072) := fun i hi => (hF.2 i hi).2
    clear hF
    go_enter Try.func7, Try.ntmps7
    go_wp2_with fail
    refine (newOut_any _).mono ?_
    rintro e w1 ⟨rfl, h1, b1⟩
    have H1 : Hid (OutAt w1 W.heap.size (.slice none 0 0) (ByteArray.empty, false)) := OutAt.ok.2 h1
    have B1 : Hid (Below W.heap.size W w1) := b1
    have l1 : W.heap.size < w1.heap.size := h1.1.lt
    clear h1 b1
    go_wp2_with fail
    refine (few9_yes l a n c w1 HM.out (HI.out.below B1.out) HZ.out HD.out).mono ?_
    rintro e w2 ⟨rfl, hw2⟩
    subst hw2
    clear HD HM HZ
    go_wp2_with fail
    go_loopw [4, 5] (fun x i wr => ∃ k : Nat, ∃ E : ByteArray, ∃ v : Value, ∃ X : Nat, k ≤ n ∧ i = .int .i64 k ∧ x = .int .i64 (X : Int) ∧ Hid (oA l k = (E, false) ∧ E.size = X) ∧ Hid (OutAt wr W.heap.size v (E, false)) ∧ Hid (∀ j, v.ownBlock = some j → W.heap.size ≤ j) ∧ Hid (Below W.heap.size W wr)) (fun _ i _ => n - (intOf i).toNat)
    case atStart => exact ⟨0, _, _, 0, Nat.zero_le _, rfl, rfl, ⟨oA_zero l, rfl⟩, H1, fun j hj => by simp [Value.ownBlock] at hj, B1⟩
    case round =>
      clear H1 B1 l1
      obtain ⟨k, E, v, X, hk, rfl, rfl, HS, HO, HR, HB0⟩ := hrel
      by_cases hlt : k < n
      · have b0 : (k : Int) < (n : Int) := by omega
        obtain ⟨b, off, rfl, hcl⟩ := HI.out.some (by omega)
        obtain ⟨q0, q1, q2, q3⟩ := hcl k hlt
        clear hcl
        have r0 : wr.cell? ⟨b, off + k * 4, none⟩ = some (.int .i64 (kd (ptL l k))) := by rw [HB0.out.cell (World.block_lt_of_cell? W _ q0)]; exact q0
        have r1 : wr.cell? ⟨b, off + k * 4 + 1, none⟩ = some (.int .i64 (pn (ptL l k))) := by rw [HB0.out.cell (World.block_lt_of_cell? W _ q1)]; exact q1
        have r2 : wr.cell? ⟨b, off + k * 4 + 2, none⟩ = some (.int .i64 (pm (ptL l k))) := by rw [HB0.out.cell (World.block_lt_of_cell? W _ q2)]; exact q2
        have r3 : wr.cell? ⟨b, off + k * 4 + 3, none⟩ = some (.string (ps (ptL l k))) := by rw [HB0.out.cell (World.block_lt_of_cell? W _ q3)]; exact q3
        have HC : Hid (∀ w', Below W.heap.size W w' → w'.cell? ⟨b, off + k * 4, none⟩ = some (.int .i64 (kd (ptL l k))) ∧ w'.cell? ⟨b, off + k * 4 + 3, none⟩ = some (.string (ps (ptL l k)))) := fun w' hb => ⟨by rw [hb.cell (World.block_lt_of_cell? W _ q0)]; exact q0, by rw [hb.cell (World.block_lt_of_cell? W _ q3)]; exact q3⟩
        clear q0 q1 q2 q3
        have HW := writes_any W.heap.size v (E, false) (⟨#[]⟩, false) (ptL l k) wr HO.out (by decide) (Nat.le_trans (HP.out k hlt) (by decide))
        have HW1 : Hid (Calls Try.prog 11 #[.pointer (some ⟨W.heap.size, 0, none⟩), .agg #[.string ⟨#[]⟩, .bool false], .agg #[.int .i64 (kd (ptL l k)), .int .i64 (pn (ptL l k)), .int .i64 (pm (ptL l k)), .string (ps (ptL l k))]] wr fun e w' => e = .returned (outV (writeP (⟨#[]⟩, false) (ptL l k))) ∧ OutTo wr W.heap.size v (writeP (E, false) (ptL l k)) w') := HW
        clear HW
        have hps : (ps (ptL l k)).size ≤ 131072 := HP.out k hlt
        have HX0 : Hid (E.size ≤ 65536) := (OutAt.ok.1 HO.out).2.2.2
        go_wp2_with fail
        refine HW1.out.mono ?_
        rintro e w1 ⟨rfl, h1⟩
        clear HW1
        obtain ⟨v2, a2, b2, rr2⟩ := h1.below W.heap.size HB0.out.size (Nat.le_refl _) HR.out
        have HB : Hid (Below W.heap.size W w1) := HB0.out.trans b2
        have HR2 : Hid (∀ j, v2.ownBlock = some j → W.heap.size ≤ j) := rr2
        clear h1 b2 rr2 HB0 HO HR r0 r1 r2 r3
        have HS1 : Hid (oA l (k + 1) = writeP (E, false) (ptL l k)) := by show _ = _; rw [oA_succ l k (by rw [HLn.out]; exact hlt), HS.out.1]
        rcases writeP_cases E (ptL l k) with ⟨h1, h2, h3⟩ | h3
        · rw [h3] at a2 HS1
          have HO2 : Hid (OutAt w1 W.heap.size v2 (E ++ encP (ptL l k), false)) := a2
          have HS2 : Hid (oA l (k + 1) = (E ++ encP (ptL l k), false)) := HS1
          obtain ⟨s0, s3⟩ := HC.out w1 HB.out
          have HE := encP_size (ptL l k)
          have hes : (E ++ encP (ptL l k)).size = X + (encP (ptL l k)).size := by rw [ByteArray.size_append, HS.out.2]
          have hX : X ≤ 65536 := by rw [← HS.out.2]; exact HX0.out
          clear HC a2 HS1 h1 h2 h3 HS HX0
          go_wp2_with fail
          refine (odone_any W.heap.size v2 _ _ HO2.out).mono ?_
          rintro e w2 ⟨rfl, hw2⟩
          subst hw2
          have hdn : doneP (E ++ encP (ptL l k), false) = .tuple #[.string (E ++ encP (ptL l k)), .int .i64 0] := rfl
          rw [hdn]
          clear hdn
          obtain ⟨Z, hZ⟩ : ∃ Z, E ++ encP (ptL l k) = Z := ⟨_, rfl⟩
          rw [hZ] at hes ⊢
          by_cases k1 : kd (ptL l k) = 1
          · rw [if_pos k1] at HE
            rw [k1] at s0
            have HX2 : Hid ((E ++ encP (ptL l k)).size = X + 1) := by show _ = _; rw [hZ, hes, HE]
            have hzs : Z.size = X + 1 := by rw [hes, HE]
            have HZ2 : Hid (E ++ encP (ptL l k) = Z) := hZ
            clear hes HE hZ
            go_wp2
            refine ⟨⟨k + 1, Z, v2, X + 1, by omega, by go_num, by go_num, ⟨HZ2.out ▸ HS2.out, by rw [← HZ2.out]; exact HX2.out⟩, HZ2.out ▸ HO2, HR2, HB⟩, ?_⟩
            simp [intOf]; omega
          · rw [if_neg k1] at HE
            by_cases k2 : kd (ptL l k) = 2
            · rw [if_pos k2] at HE
              rw [k2] at s0
              have HX2 : Hid ((E ++ encP (ptL l k)).size = X + 6) := by show _ = _; rw [hZ, hes, HE]
              have hzs : Z.size = X + 6 := by rw [hes, HE]
              have HZ2 : Hid (E ++ encP (ptL l k) = Z) := hZ
              clear hes HE hZ
              go_wp2
              refine ⟨⟨k + 1, Z, v2, X + 6, by omega, by go_num, by go_num, ⟨HZ2.out ▸ HS2.out, by rw [← HZ2.out]; exact HX2.out⟩, HZ2.out ▸ HO2, HR2, HB⟩, ?_⟩
              simp [intOf]; omega
            · rw [if_neg k2] at HE
              by_cases k3 : kd (ptL l k) = 3
              · rw [if_pos k3] at HE
                rw [k3] at s0
                have HX2 : Hid ((E ++ encP (ptL l k)).size = X + 7) := by show _ = _; rw [hZ, hes, HE]
                have hzs : Z.size = X + 7 := by rw [hes, HE]
                have HZ2 : Hid (E ++ encP (ptL l k) = Z) := hZ
                clear hes HE hZ
                go_wp2
                refine ⟨⟨k + 1, Z, v2, X + 7, by omega, by go_num, by go_num, ⟨HZ2.out ▸ HS2.out, by rw [← HZ2.out]; exact HX2.out⟩, HZ2.out ▸ HO2, HR2, HB⟩, ?_⟩
                simp [intOf]; omega
              · rw [if_neg k3] at HE
                generalize kd (ptL l k) = K at *
                have HX2 : Hid ((E ++ encP (ptL l k)).size = X + (2 + (ps (ptL l k)).size)) := by show _ = _; rw [hZ, hes, HE]
                have hzs : Z.size = X + (2 + (ps (ptL l k)).size) := by rw [hes, HE]
                have HZ2 : Hid (E ++ encP (ptL l k) = Z) := hZ
                clear hes HE hZ
                go_wp2
                refine ⟨⟨k + 1, Z, v2, X + (2 + (ps (ptL l k)).size), by omega, by go_num, by go_num, ⟨HZ2.out ▸ HS2.out, by rw [← HZ2.out]; exact HX2.out⟩, HZ2.out ▸ HO2, HR2, HB⟩, ?_⟩
                simp [intOf]; omega
        · rw [h3] at a2
          have HO2 : Hid (OutAt w1 W.heap.size v2 (E, true)) := a2
          clear HC a2 HS1 h3 HS HX0
          go_wp2_with fail
          refine (odone_any W.heap.size v2 _ _ HO2.out).mono ?_
          rintro e w2 ⟨rfl, hw2⟩
          subst hw2
          have hdn : doneP (E, true) = .tuple #[.string ⟨#[]⟩, .int .i64 1] := rfl
          rw [hdn]
          clear hdn
          go_wp2_with fail
          refine (awake9 _).mono ?_
          rintro e wz ⟨rfl, bz⟩
          have BZ : Hid (Below W.heap.size W wz) := below_step HB.out (Nat.le_refl _) bz
          clear bz
          go_wp2
          go_ret
          exact ⟨rfl, BZ.out⟩
      · have hk' : k = n := by omega
        subst hk'
        have HB : Hid (Below W.heap.size W wr) := HB0
        clear HS HO HR HB0
        go_wp2_with fail
        refine (awake9 _).mono ?_
        rintro e wz ⟨rfl, bz⟩
        have BZ : Hid (Below W.heap.size W wz) := below_step HB.out (Nat.le_refl _) bz
        clear bz
        go_wp2
        go_ret
        exact ⟨rfl, BZ.out⟩
  · go_enter Try.func7, Try.ntmps7
    have HD : Hid (¬ FewP l n) := hF
    clear hF
    go_wp2_with fail
    refine (newOut_any _).mono ?_
    rintro e w1 ⟨rfl, h1, b1⟩
    have H1 : Hid (OutAt w1 W.heap.size (.slice none 0 0) (ByteArray.empty, false)) := OutAt.ok.2 h1
    have B1 : Hid (Below W.heap.size W w1) := b1
    have l1 : W.heap.size < w1.heap.size := h1.1.lt
    clear h1 b1
    go_wp2_with fail
    refine (few9_no l a n c w1 HM.out (HI.out.below B1.out) HZ.out HD.out).mono ?_
    rintro e w2 ⟨rfl, hw2⟩
    subst hw2
    go_wp2_with fail
    refine (awake9 _).mono ?_
    rintro e w3 ⟨rfl, b3⟩
    have B3 : Hid (Below W.heap.size W w3) := below_step B1.out (Nat.le_refl _) b3
    clear b3
    go_wp2
    go_ret
    exact ⟨rfl, B3.out⟩
end Go.Proofs.Ytmpjhflbmngajaa
