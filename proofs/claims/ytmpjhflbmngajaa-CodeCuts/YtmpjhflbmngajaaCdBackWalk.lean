/- The walk of CodeBack. -/
import Derived.Test.YtmpjhflbmngajaaCdSizesWalk
import Derived.Test.YtmpjhflbmngajaaCdM
import Derived.Test.YtmpjhflbmngajaaRecEq
namespace Go.Proofs.Ytmpjhflbmngajaa
open Go.RowKit
set_option linter.unusedSimpArgs false

theorem oA_all (l : List (Int × Int × Int × ByteArray)) (n : Nat) (hn : l.length = n) (h : (oA l n).2 = false) : oA l n = (encA l, false) ∧ (∀ p ∈ l, okP p = true) ∧ (encA l).size ≤ 65536 := by
  have h0 := oA_size l n
  unfold oA at h h0 ⊢
  rw [List.take_of_length_le (by omega)] at h h0 ⊢
  obtain ⟨h1, h2⟩ := writeA_ok ByteArray.empty l h
  have h3 : ByteArray.empty ++ encA l = encA l := by
    apply bytes_ext
    rw [ByteArray.data_append, Array.toList_append]
    rfl
  rw [h3] at h2
  refine ⟨?_, h1, by rw [← h2]; exact h0⟩
  rw [← h2]
  cases hq : writeA (ByteArray.empty, false) l with
  | mk x y => rw [hq] at h; have : y = false := h; rw [this]
theorem ptL_mem (l : List (Int × Int × Int × ByteArray)) (k : Nat) (hk : k < l.length) : ptL l k ∈ l := by
  unfold ptL
  rw [List.getD_eq_getElem?_getD, List.getElem?_eq_getElem hk]
  exact List.getElem_mem hk
set_option maxHeartbeats 8000000 in
set_option maxRecDepth 100000 in
theorem codeBack_walk (a : Option Addr) (n c : Nat) (W : World) (z : ∃ l, PartsAt W a n l ∧ n ≤ maxLen ∧ ∀ q ∈ l, PartOk q) :
    Calls Try.prog 4 #[.slice a n c] W fun e w' => e = .returned (.bool true) ∧ Below W.heap.size W w' := by
  obtain ⟨l, hI, hm, hok⟩ := z
  have HI : Hid (PartsAt W a n l) := hI
  have HZ : Hid (∀ i, (ps (ptL l i)).size ≤ maxLen) := ptL_max l hok
  have HM : Hid (n ≤ maxLen) := hm
  have hm' : n ≤ 9223372036854775807 := hm
  have HLn : Hid (l.length = n) := hI.1
  clear hI hm hok
  by_cases hF : FewP l n
  · have HD : Hid (FewP l n) := hF
    have HP : Hid (∀ i, i < n → (ps (ptL l i)).size ≤ 131072) := fun i hi => (hF.2 i hi).2
    clear hF
    go_enter Try.func4, Try.ntmps4
    go_wp2_with fail
    refine (newOut_any _).mono ?_
    rintro e w1 ⟨rfl, h1, b1⟩
    have H1 : Hid (OutAt w1 W.heap.size (.slice none 0 0) (ByteArray.empty, false)) := OutAt.ok.2 h1
    have B1 : Hid (Below W.heap.size W w1) := b1
    have l1 : W.heap.size < w1.heap.size := h1.1.lt
    clear h1 b1
    go_wp2_with fail
    refine (few9_yes l a n c w1 HM.out (HI.out.below B1.out) HZ.out HD.out).mono ?_
    rintro e w2 ⟨rfl, hw2⟩
    subst hw2
    clear HD HM HZ
    go_wp2_with fail
    go_loopw [4] (fun i wr => ∃ k : Nat, ∃ v : Value, k ≤ n ∧ i = .int .i64 k ∧ Hid (OutAt wr W.heap.size v (oA l k)) ∧ Hid (∀ j, v.ownBlock = some j → W.heap.size ≤ j) ∧ Hid (Below W.heap.size W wr)) (fun i _ => n - (intOf i).toNat)
    case atStart => exact ⟨0, _, Nat.zero_le _, rfl, by rw [oA_zero]; exact H1, fun j hj => by simp [Value.ownBlock] at hj, B1⟩
    case round =>
      clear H1 B1 l1
      obtain ⟨k, v, hk, rfl, HO, HR, HB0⟩ := hrel
      by_cases hlt : k < n
      · skip
        have b0 : (k : Int) < (n : Int) := by omega
        obtain ⟨b, off, rfl, hcl0⟩ := HI.out.some (by omega)
        obtain ⟨q0, q1, q2, q3⟩ := hcl0 k hlt
        clear hcl0
        have r0 : wr.cell? ⟨b, off + k * 4, none⟩ = some (.int .i64 (kd (ptL l k))) := by rw [HB0.out.cell (World.block_lt_of_cell? W _ q0)]; exact q0
        have r1 : wr.cell? ⟨b, off + k * 4 + 1, none⟩ = some (.int .i64 (pn (ptL l k))) := by rw [HB0.out.cell (World.block_lt_of_cell? W _ q1)]; exact q1
        have r2 : wr.cell? ⟨b, off + k * 4 + 2, none⟩ = some (.int .i64 (pm (ptL l k))) := by rw [HB0.out.cell (World.block_lt_of_cell? W _ q2)]; exact q2
        have r3 : wr.cell? ⟨b, off + k * 4 + 3, none⟩ = some (.string (ps (ptL l k))) := by rw [HB0.out.cell (World.block_lt_of_cell? W _ q3)]; exact q3
        clear q0 q1 q2 q3
        have HW := writes_any W.heap.size v (oA l k) (⟨#[]⟩, false) (ptL l k) wr HO.out (by decide) (Nat.le_trans (HP.out k hlt) (by decide))
        have HS1 : writeP (oA l k) (ptL l k) = oA l (k + 1) := by rw [oA_succ l k (by rw [HLn.out]; exact hlt)]
        rw [HS1] at HW
        have HW1 : Hid (Calls Try.prog 11 #[.pointer (some ⟨W.heap.size, 0, none⟩), .agg #[.string ⟨#[]⟩, .bool false], .agg #[.int .i64 (kd (ptL l k)), .int .i64 (pn (ptL l k)), .int .i64 (pm (ptL l k)), .string (ps (ptL l k))]] wr fun e w' => e = .returned (outV (writeP (⟨#[]⟩, false) (ptL l k))) ∧ OutTo wr W.heap.size v (oA l (k + 1)) w') := HW
        clear HW HS1
        go_wp2_with fail
        refine HW1.out.mono ?_
        rintro e w1 ⟨rfl, h1⟩
        clear HW1
        obtain ⟨v2, a2, b2, rr2⟩ := h1.below W.heap.size HB0.out.size (Nat.le_refl _) HR.out
        have HB : Hid (Below W.heap.size W w1) := HB0.out.trans b2
        have HR2 : Hid (∀ j, v2.ownBlock = some j → W.heap.size ≤ j) := rr2
        have HO2 : Hid (OutAt w1 W.heap.size v2 (oA l (k + 1))) := a2
        clear h1 b2 rr2 a2 HB0 HO HR r0 r1 r2 r3
        go_wp2
        refine ⟨⟨k + 1, v2, by omega, by go_num, HO2, HR2, HB⟩, ?_⟩
        simp [intOf]; omega
      · have hk' : k = n := by omega
        subst hk'
        have HB : Hid (Below W.heap.size W wr) := HB0
        clear HB0 HR
        cases hq : (oA l k).2 with
        | true =>
          obtain ⟨o9, ho9⟩ : ∃ o9, oA l k = o9 := ⟨_, rfl⟩
          rw [ho9] at HO hq
          clear ho9
          obtain ⟨S, bb⟩ := o9
          have hbb : bb = true := hq
          subst hbb
          clear hq
          go_wp2_with fail
          refine (odone_any W.heap.size v _ _ HO.out).mono ?_
          rintro e w2 ⟨rfl, hw2⟩
          subst hw2
          have hdn : doneP (S, true) = .tuple #[.string ⟨#[]⟩, .int .i64 1] := rfl
          rw [hdn]
          clear hdn
          go_wp2_with fail
          refine (awake9 _).mono ?_
          rintro e wz ⟨rfl, bz⟩
          have BZ : Hid (Below W.heap.size W wz) := below_step HB.out (Nat.le_refl _) bz
          clear bz
          go_wp2
          go_ret
          exact ⟨rfl, BZ.out⟩
        | false =>
          obtain ⟨e1, e2, e3⟩ := oA_all l k HLn.out hq
          rw [e1] at HO
          have HOK : Hid (∀ p ∈ l, okP p = true) := e2
          clear hq e1 e2
          have hE0 : encA l = encA (l.drop 0) := by rw [List.drop_zero]
          obtain ⟨E, hE⟩ : ∃ E, encA l = E := ⟨_, rfl⟩
          rw [hE] at HO e3 hE0
          have HE : Hid (E = encA (l.drop 0)) := hE0
          clear hE hE0
          go_wp2_with fail
          refine (odone_any W.heap.size v _ _ HO.out).mono ?_
          rintro e w2 ⟨rfl, hw2⟩
          subst hw2
          have hdn : doneP (E, false) = .tuple #[.string E, .int .i64 0] := rfl
          rw [hdn]
          clear hdn
          go_wp2_with fail
          refine (newIn_any E _ (by omega)).mono ?_
          rintro e w3 ⟨rfl, h3, b3⟩
          obtain ⟨gi, hgi0⟩ : ∃ gi, w2.heap.size = gi := ⟨_, rfl⟩
          have hgi : W.heap.size ≤ gi := by have := HB.out.size; omega
          rw [hgi0] at h3 ⊢
          have HI3 : Hid (InAt w3 gi (encA (l.drop 0), 0)) := by rw [← HE.out]; exact h3
          have HB3 : Hid (Below W.heap.size W w3) := below_step HB.out (Nat.le_refl _) b3
          clear h3 b3 hgi0 HE HO HB
          go_wp2_with fail
          go_loopw [8] (fun i wr => ∃ j : Nat, j ≤ k ∧ i = .int .i64 j ∧ Hid (InAt wr gi (encA (l.drop j), 0)) ∧ Hid (Below W.heap.size W wr)) (fun i _ => k - (intOf i).toNat)
          case atStart => exact ⟨0, Nat.zero_le _, rfl, HI3, HB3⟩
          case round =>
            clear HI3 HB3
            obtain ⟨j, hj, rfl, HIn, HB0⟩ := hrel
            by_cases hlt2 : j < k
            · have b0 : (j : Int) < (k : Int) := by omega
              obtain ⟨b, off, rfl, hcl0⟩ := HI.out.some (by omega)
              obtain ⟨q0, q1, q2, q3⟩ := hcl0 j hlt2
              clear hcl0
              have r0 : wr.cell? ⟨b, off + j * 4, none⟩ = some (.int .i64 (kd (ptL l j))) := by rw [HB0.out.cell (World.block_lt_of_cell? W _ q0)]; exact q0
              have r1 : wr.cell? ⟨b, off + j * 4 + 1, none⟩ = some (.int .i64 (pn (ptL l j))) := by rw [HB0.out.cell (World.block_lt_of_cell? W _ q1)]; exact q1
              have r2 : wr.cell? ⟨b, off + j * 4 + 2, none⟩ = some (.int .i64 (pm (ptL l j))) := by rw [HB0.out.cell (World.block_lt_of_cell? W _ q2)]; exact q2
              have r3 : wr.cell? ⟨b, off + j * 4 + 3, none⟩ = some (.string (ps (ptL l j))) := by rw [HB0.out.cell (World.block_lt_of_cell? W _ q3)]; exact q3
              clear q0 q1 q2 q3
              have hjl : j < l.length := by rw [HLn.out]; exact hlt2
              rw [encA_drop l j hjl] at HIn
              obtain ⟨T, hT⟩ : ∃ T, encA (l.drop (j + 1)) = T := ⟨_, rfl⟩
              rw [hT] at HIn
              have HTd : Hid (encA (l.drop (j + 1)) = T) := hT
              clear hT
              have hok := HOK.out _ (ptL_mem l j hjl)
              have hB1 := fun h => back1 (ptL l j) T h hok
              have hB2 := fun h => back2 (ptL l j) T h hok
              have hB3 := fun h => back3 (ptL l j) T h hok
              have hB4 := fun h1 h2 h3 => back4 (ptL l j) T h1 h2 h3 hok
              clear hok hjl
              generalize encP (ptL l j) ++ T = t at hB1 hB2 hB3 hB4 HIn
              generalize kd (ptL l j) = K at hB1 hB2 hB3 hB4 r0
              generalize pn (ptL l j) = N at hB1 hB2 hB3 r1
              generalize pm (ptL l j) = M at hB3 r2
              generalize ps (ptL l j) = X at hB4 r3
              obtain ⟨cp, hcp⟩ : ∃ cp, wr.heap.size = cp := ⟨_, rfl⟩
              have hgc : gi < cp := by have := HIn.out.1.lt; omega
              have HPc : Hid (Blk (wr.alloc (.cells #[.int .i64 K, .int .i64 N, .int .i64 M, .string X] 31)) 31 cp #[.int .i64 K, .int .i64 N, .int .i64 M, .string X]) := Blk.new' _ _ _ _ hcp
              have HB1 : Hid (Below W.heap.size W (wr.alloc (.cells #[.int .i64 K, .int .i64 N, .int .i64 M, .string X] 31))) := HB0.out.alloc (HB0.out.size) _
              have HI1 : Hid (InAt (wr.alloc (.cells #[.int .i64 K, .int .i64 N, .int .i64 M, .string X] 31)).drew gi (t, 0)) := HIn.out.on (below_new wr _).drew
              clear HIn HB0
              by_cases k1 : K = 1
              · obtain ⟨V, e1, e2⟩ := hB1 k1
                have HC : Hid (∀ w', w' = (wr.alloc (.cells #[.int .i64 K, .int .i64 N, .int .i64 M, .string X] 31)).drew → Calls Try.prog 15 #[.pointer (some ⟨gi, 0, none⟩)] w' fun e w'' => e = .returned (.int .i64 N) ∧ InTo w' gi (T, 0) w'') := fun w' he => by
                  subst he
                  have := ibyte_any gi (t, 0) _ HI1.out
                  rw [e1, e2] at this
                  exact this
                clear hB1 hB2 hB3 hB4 HI1 e1 e2
                subst k1
                go_wp2_with fail
                have hS0 := HPc.out.cell 1
                simp only [List.getElem?_toArray, List.getElem?_cons_zero, List.getElem?_cons_succ] at hS0
                refine wp_region_noPanic ?_
                refine wp_region_held_drew (S := fun W' => W'.cell? ⟨cp, 1, none⟩ = some (.int .i64 N)) (by kernel_rfl) (by first | exact trivial | assumption | exact ⟨by assumption, by assumption⟩) (fun hHeld => ?_)
                refine take_at (i := 0) (v := ?_) rfl rfl (by kernel_rfl) (by kernel_rfl) (by kernel_rfl) (fun _ _ _ h => h) (Or.inl ⟨by rfl, ?_⟩) (by assumption) ?_
                rotate_left
                · intro w hSw; (try dsimp only at hSw); go_simp; try with_reducible rfl
                try simp only [Act.put, List.setIfInBounds_toArray, List.set_cons_zero, List.set_cons_succ]
                refine take_at (i := 2) (v := ?_) rfl rfl (by kernel_rfl) (by kernel_rfl) (by kernel_rfl) (fun _ _ _ h => h) (Or.inl ⟨by rfl, ?_⟩) (by assumption) ?_
                rotate_left
                · intro w hSw; (try dsimp only at hSw); go_simp; try with_reducible rfl
                try simp only [Act.put, List.setIfInBounds_toArray, List.set_cons_zero, List.set_cons_succ]
                refine take_at (i := 3) (v := ?_) rfl rfl (by kernel_rfl) (by kernel_rfl) (by kernel_rfl) (fun _ _ _ h => h) (Or.inl ⟨by rfl, ?_⟩) (by assumption) ?_
                rotate_left
                · intro w hSw; (try dsimp only at hSw); go_simp; try with_reducible rfl
                try simp only [Act.put, List.setIfInBounds_toArray, List.set_cons_zero, List.set_cons_succ]
                refine wpAnyH_ready (rs := [1]) (by kernel_rfl) (by simp) ?_
                refine AllReadyH.cons rfl (fun K hK => ?_) AllReadyH.nil
                go_simp
                refine (HC.out _ rfl).mono ?_
                rintro e w1 ⟨rfl, h1⟩
                have HI2 : Hid (InAt w1 gi (T, 0)) := h1.1
                have HB2 : Hid (Below W.heap.size W w1) := HB1.out.drew.trans (h1.below W.heap.size HB1.out.size hgi)
                have hP1 := (HPc.out.on (Below.refl _ _).drew).kept h1.2 (by omega) (by simp)
                clear h1 HC
                have hS1 : w1.cell? ⟨cp, 1, none⟩ = some (.int .i64 N) := hP1.cell 1
                clear hP1
                refine hK.out _ _ hS1 (fun hHeld => ?_)
                clear hK K
                refine take_at (i := 4) (v := ?_) rfl rfl (by kernel_rfl) (by kernel_rfl) (by kernel_rfl) (fun _ _ _ h => h) (Or.inl ⟨by rfl, ?_⟩) (by assumption) ?_
                rotate_left
                · intro w hSw; (try dsimp only at hSw); go_simp; try with_reducible rfl
                try simp only [Act.put, List.setIfInBounds_toArray, List.set_cons_zero, List.set_cons_succ]
                refine take_at (i := 5) (v := ?_) rfl rfl (by kernel_rfl) (by kernel_rfl) (by kernel_rfl) (fun _ _ _ h => h) (Or.inl ⟨by rfl, ?_⟩) (by assumption) ?_
                rotate_left
                · intro w hSw; (try dsimp only at hSw); go_simp; try with_reducible rfl
                try simp only [Act.put, List.setIfInBounds_toArray, List.set_cons_zero, List.set_cons_succ]
                refine wpAnyH_done (by kernel_rfl) (NoPanic.normal ?_) _
                go_wp2
                go_roundw
                case rel => exact ⟨j + 1, by omega, by go_num, by rw [HTd.out]; exact HI2, HB2⟩
                case measure => simp [intOf]; omega
              · by_cases k2 : K = 2
                · obtain ⟨V, e1, e2⟩ := hB2 k2
                  have HC : Hid (∀ w', w' = (wr.alloc (.cells #[.int .i64 K, .int .i64 N, .int .i64 M, .string X] 31)).drew → Calls Try.prog 16 #[.pointer (some ⟨gi, 0, none⟩)] w' fun e w'' => e = .returned (.int .i64 N) ∧ InTo w' gi (T, 0) w'') := fun w' he => by
                    subst he
                    have := inum_any gi (t, 0) _ HI1.out
                    rw [e1, e2] at this
                    exact this
                  clear hB1 hB2 hB3 hB4 HI1 e1 e2 k1
                  subst k2
                  go_wp2_with fail
                  have hS0 := HPc.out.cell 1
                  simp only [List.getElem?_toArray, List.getElem?_cons_zero, List.getElem?_cons_succ] at hS0
                  refine wp_region_noPanic ?_
                  refine wp_region_held_drew (S := fun W' => W'.cell? ⟨cp, 1, none⟩ = some (.int .i64 N)) (by kernel_rfl) (by first | exact trivial | assumption | exact ⟨by assumption, by assumption⟩) (fun hHeld => ?_)
                  refine take_at (i := 0) (v := ?_) rfl rfl (by kernel_rfl) (by kernel_rfl) (by kernel_rfl) (fun _ _ _ h => h) (Or.inl ⟨by rfl, ?_⟩) (by assumption) ?_
                  rotate_left
                  · intro w hSw; (try dsimp only at hSw); go_simp; try with_reducible rfl
                  try simp only [Act.put, List.setIfInBounds_toArray, List.set_cons_zero, List.set_cons_succ]
                  refine take_at (i := 2) (v := ?_) rfl rfl (by kernel_rfl) (by kernel_rfl) (by kernel_rfl) (fun _ _ _ h => h) (Or.inl ⟨by rfl, ?_⟩) (by assumption) ?_
                  rotate_left
                  · intro w hSw; (try dsimp only at hSw); go_simp; try with_reducible rfl
                  try simp only [Act.put, List.setIfInBounds_toArray, List.set_cons_zero, List.set_cons_succ]
                  refine take_at (i := 3) (v := ?_) rfl rfl (by kernel_rfl) (by kernel_rfl) (by kernel_rfl) (fun _ _ _ h => h) (Or.inl ⟨by rfl, ?_⟩) (by assumption) ?_
                  rotate_left
                  · intro w hSw; (try dsimp only at hSw); go_simp; try with_reducible rfl
                  try simp only [Act.put, List.setIfInBounds_toArray, List.set_cons_zero, List.set_cons_succ]
                  refine wpAnyH_ready (rs := [1]) (by kernel_rfl) (by simp) ?_
                  refine AllReadyH.cons rfl (fun K hK => ?_) AllReadyH.nil
                  go_simp
                  refine (HC.out _ rfl).mono ?_
                  rintro e w1 ⟨rfl, h1⟩
                  have HI2 : Hid (InAt w1 gi (T, 0)) := h1.1
                  have HB2 : Hid (Below W.heap.size W w1) := HB1.out.drew.trans (h1.below W.heap.size HB1.out.size hgi)
                  have hP1 := (HPc.out.on (Below.refl _ _).drew).kept h1.2 (by omega) (by simp)
                  clear h1 HC
                  have hS1 : w1.cell? ⟨cp, 1, none⟩ = some (.int .i64 N) := hP1.cell 1
                  clear hP1
                  refine hK.out _ _ hS1 (fun hHeld => ?_)
                  clear hK K
                  refine take_at (i := 4) (v := ?_) rfl rfl (by kernel_rfl) (by kernel_rfl) (by kernel_rfl) (fun _ _ _ h => h) (Or.inl ⟨by rfl, ?_⟩) (by assumption) ?_
                  rotate_left
                  · intro w hSw; (try dsimp only at hSw); go_simp; try with_reducible rfl
                  try simp only [Act.put, List.setIfInBounds_toArray, List.set_cons_zero, List.set_cons_succ]
                  refine take_at (i := 5) (v := ?_) rfl rfl (by kernel_rfl) (by kernel_rfl) (by kernel_rfl) (fun _ _ _ h => h) (Or.inl ⟨by rfl, ?_⟩) (by assumption) ?_
                  rotate_left
                  · intro w hSw; (try dsimp only at hSw); go_simp; try with_reducible rfl
                  try simp only [Act.put, List.setIfInBounds_toArray, List.set_cons_zero, List.set_cons_succ]
                  refine wpAnyH_done (by kernel_rfl) (NoPanic.normal ?_) _
                  go_wp2
                  go_roundw
                  case rel => exact ⟨j + 1, by omega, by go_num, by rw [HTd.out]; exact HI2, HB2⟩
                  case measure => simp [intOf]; omega
                · by_cases k3 : K = 3
                  · have e1 := hB3 k3
                    have HC : Hid (∀ w', w' = (wr.alloc (.cells #[.int .i64 K, .int .i64 N, .int .i64 M, .string X] 31)).drew → Calls Try.prog 17 #[.pointer (some ⟨gi, 0, none⟩)] w' fun e w'' => e = .returned (.agg #[.int .i64 N, .int .i64 M]) ∧ InTo w' gi (T, 0) w'') := fun w' he => by
                      subst he
                      have := istamp_any gi (t, 0) _ HI1.out
                      rw [e1] at this
                      exact this
                    clear hB1 hB2 hB3 hB4 HI1 e1 k1 k2
                    subst k3
                    have heq : ∀ w, (Op.equalIn 10000 40 (.agg #[.int .i64 N, .int .i64 M]) (.agg #[.int .i64 N, .int .i64 M])).run Try.prog w = .ok true w := fun w => by rw [stampEq, decide_eq_true rfl]
                    go_wp2_with fail
                    have hS0a := HPc.out.cell 1
                    have hS0b := HPc.out.cell 2
                    simp only [List.getElem?_toArray, List.getElem?_cons_zero, List.getElem?_cons_succ] at hS0a hS0b
                    refine wp_region_noPanic ?_
                    refine wp_region_held_drew (S := fun W' => W'.cell? ⟨cp, 1, none⟩ = some (.int .i64 N) ∧ W'.cell? ⟨cp, 2, none⟩ = some (.int .i64 M)) (by kernel_rfl) (by first | exact trivial | assumption | exact ⟨by assumption, by assumption⟩) (fun hHeld => ?_)
                    refine take_at (i := 0) (v := ?_) rfl rfl (by kernel_rfl) (by kernel_rfl) (by kernel_rfl) (fun _ _ _ h => h) (Or.inl ⟨by rfl, ?_⟩) (by assumption) ?_
                    rotate_left
                    · intro w hSw; (try dsimp only at hSw); go_simp; try with_reducible rfl
                    try simp only [Act.put, List.setIfInBounds_toArray, List.set_cons_zero, List.set_cons_succ]
                    refine take_at (i := 2) (v := ?_) rfl rfl (by kernel_rfl) (by kernel_rfl) (by kernel_rfl) (fun _ _ _ h => h) (Or.inl ⟨by rfl, ?_⟩) (by assumption) ?_
                    rotate_left
                    · intro w hSw; (try dsimp only at hSw); go_simp; try with_reducible rfl
                    try simp only [Act.put, List.setIfInBounds_toArray, List.set_cons_zero, List.set_cons_succ]
                    refine take_at (i := 3) (v := ?_) rfl rfl (by kernel_rfl) (by kernel_rfl) (by kernel_rfl) (fun _ _ _ h => h) (Or.inl ⟨by rfl, ?_⟩) (by assumption) ?_
                    rotate_left
                    · intro w hSw; (try dsimp only at hSw); go_simp; try with_reducible rfl
                    try simp only [Act.put, List.setIfInBounds_toArray, List.set_cons_zero, List.set_cons_succ]
                    refine take_at (i := 4) (v := ?_) rfl rfl (by kernel_rfl) (by kernel_rfl) (by kernel_rfl) (fun _ _ _ h => h) (Or.inl ⟨by rfl, ?_⟩) (by assumption) ?_
                    rotate_left
                    · intro w hSw; (try dsimp only at hSw); go_simp; try with_reducible rfl
                    try simp only [Act.put, List.setIfInBounds_toArray, List.set_cons_zero, List.set_cons_succ]
                    refine take_at (i := 5) (v := ?_) rfl rfl (by kernel_rfl) (by kernel_rfl) (by kernel_rfl) (fun _ _ _ h => h) (Or.inl ⟨by rfl, ?_⟩) (by assumption) ?_
                    rotate_left
                    · intro w hSw; (try dsimp only at hSw); go_simp; try with_reducible rfl
                    try simp only [Act.put, List.setIfInBounds_toArray, List.set_cons_zero, List.set_cons_succ]
                    refine take_at (i := 6) (v := ?_) rfl rfl (by kernel_rfl) (by kernel_rfl) (by kernel_rfl) (fun _ _ _ h => h) (Or.inl ⟨by rfl, ?_⟩) (by assumption) ?_
                    rotate_left
                    · intro w hSw; (try dsimp only at hSw); go_simp; try with_reducible rfl
                    try simp only [Act.put, List.setIfInBounds_toArray, List.set_cons_zero, List.set_cons_succ]
                    refine wpAnyH_ready (rs := [1]) (by kernel_rfl) (by simp) ?_
                    refine AllReadyH.cons rfl (fun K hK => ?_) AllReadyH.nil
                    go_simp
                    refine (HC.out _ rfl).mono ?_
                    rintro e w1 ⟨rfl, h1⟩
                    have HI2 : Hid (InAt w1 gi (T, 0)) := h1.1
                    have HB2 : Hid (Below W.heap.size W w1) := HB1.out.drew.trans (h1.below W.heap.size HB1.out.size hgi)
                    have hP1 := (HPc.out.on (Below.refl _ _).drew).kept h1.2 (by omega) (by simp)
                    clear h1 HC
                    have hS1 : w1.cell? ⟨cp, 1, none⟩ = some (.int .i64 N) ∧ w1.cell? ⟨cp, 2, none⟩ = some (.int .i64 M) := ⟨hP1.cell 1, hP1.cell 2⟩
                    clear hP1
                    refine hK.out _ _ hS1 (fun hHeld => ?_)
                    clear hK K
                    refine take_at (i := 7) (v := ?_) rfl rfl (by kernel_rfl) (by kernel_rfl) (by kernel_rfl) (fun _ _ _ h => h) (Or.inl ⟨by rfl, ?_⟩) (by assumption) ?_
                    rotate_left
                    · intro w hSw; (try dsimp only at hSw); go_simp; try with_reducible rfl
                    try simp only [Act.put, List.setIfInBounds_toArray, List.set_cons_zero, List.set_cons_succ]
                    refine take_at (i := 8) (v := ?_) rfl rfl (by kernel_rfl) (by kernel_rfl) (by kernel_rfl) (fun _ _ _ h => h) (Or.inl ⟨by rfl, ?_⟩) (by assumption) ?_
                    rotate_left
                    · intro w hSw; (try dsimp only at hSw); go_simp; try with_reducible rfl
                    try simp only [Act.put, List.setIfInBounds_toArray, List.set_cons_zero, List.set_cons_succ]
                    refine wpAnyH_done (by kernel_rfl) (NoPanic.normal ?_) _
                    go_wp2
                    go_roundw
                    case rel => exact ⟨j + 1, by omega, by go_num, by rw [HTd.out]; exact HI2, HB2⟩
                    case measure => simp [intOf]; omega
                  · have e1 := hB4 k1 k2 k3
                    have HC : Hid (∀ w', w' = (wr.alloc (.cells #[.int .i64 K, .int .i64 N, .int .i64 M, .string X] 31)).drew → Calls Try.prog 18 #[.pointer (some ⟨gi, 0, none⟩), .int .i64 65536] w' fun e w'' => e = .returned (.string X) ∧ InTo w' gi (T, 0) w'') := fun w' he => by
                      subst he
                      have := itext_any gi (t, 0) 65536 _ HI1.out
                      rw [e1] at this
                      exact this
                    clear hB1 hB2 hB3 hB4 HI1 e1
                    go_wp2_with fail
                    have hS0 := HPc.out.cell 3
                    simp only [List.getElem?_toArray, List.getElem?_cons_zero, List.getElem?_cons_succ] at hS0
                    refine wp_region_noPanic ?_
                    refine wp_region_held_drew (S := fun W' => W'.cell? ⟨cp, 3, none⟩ = some (.string X)) (by kernel_rfl) (by first | exact trivial | assumption | exact ⟨by assumption, by assumption⟩) (fun hHeld => ?_)
                    refine take_at (i := 0) (v := ?_) rfl rfl (by kernel_rfl) (by kernel_rfl) (by kernel_rfl) (fun _ _ _ h => h) (Or.inl ⟨by rfl, ?_⟩) (by assumption) ?_
                    rotate_left
                    · intro w hSw; (try dsimp only at hSw); go_simp; try with_reducible rfl
                    try simp only [Act.put, List.setIfInBounds_toArray, List.set_cons_zero, List.set_cons_succ]
                    refine take_at (i := 2) (v := ?_) rfl rfl (by kernel_rfl) (by kernel_rfl) (by kernel_rfl) (fun _ _ _ h => h) (Or.inl ⟨by rfl, ?_⟩) (by assumption) ?_
                    rotate_left
                    · intro w hSw; (try dsimp only at hSw); go_simp; try with_reducible rfl
                    try simp only [Act.put, List.setIfInBounds_toArray, List.set_cons_zero, List.set_cons_succ]
                    refine take_at (i := 3) (v := ?_) rfl rfl (by kernel_rfl) (by kernel_rfl) (by kernel_rfl) (fun _ _ _ h => h) (Or.inl ⟨by rfl, ?_⟩) (by assumption) ?_
                    rotate_left
                    · intro w hSw; (try dsimp only at hSw); go_simp; try with_reducible rfl
                    try simp only [Act.put, List.setIfInBounds_toArray, List.set_cons_zero, List.set_cons_succ]
                    refine wpAnyH_ready (rs := [1]) (by kernel_rfl) (by simp) ?_
                    refine AllReadyH.cons rfl (fun K hK => ?_) AllReadyH.nil
                    go_simp
                    refine (HC.out _ rfl).mono ?_
                    rintro e w1 ⟨rfl, h1⟩
                    have HI2 : Hid (InAt w1 gi (T, 0)) := h1.1
                    have HB2 : Hid (Below W.heap.size W w1) := HB1.out.drew.trans (h1.below W.heap.size HB1.out.size hgi)
                    have hP1 := (HPc.out.on (Below.refl _ _).drew).kept h1.2 (by omega) (by simp)
                    clear h1 HC
                    have hS1 : w1.cell? ⟨cp, 3, none⟩ = some (.string X) := hP1.cell 3
                    clear hP1
                    refine hK.out _ _ hS1 (fun hHeld => ?_)
                    clear hK K
                    refine take_at (i := 4) (v := ?_) rfl rfl (by kernel_rfl) (by kernel_rfl) (by kernel_rfl) (fun _ _ _ h => h) (Or.inl ⟨by rfl, ?_⟩) (by assumption) ?_
                    rotate_left
                    · intro w hSw; (try dsimp only at hSw); go_simp; try with_reducible rfl
                    try simp only [Act.put, List.setIfInBounds_toArray, List.set_cons_zero, List.set_cons_succ]
                    refine take_at (i := 5) (v := ?_) rfl rfl (by kernel_rfl) (by kernel_rfl) (by kernel_rfl) (fun _ _ _ h => h) (Or.inl ⟨by rfl, ?_⟩) (by assumption) ?_
                    rotate_left
                    · intro w hSw; (try dsimp only at hSw); go_simp; try with_reducible rfl
                    try simp only [Act.put, List.setIfInBounds_toArray, List.set_cons_zero, List.set_cons_succ]
                    refine wpAnyH_done (by kernel_rfl) (NoPanic.normal ?_) _
                    go_wp2
                    go_roundw
                    case rel => exact ⟨j + 1, by omega, by go_num, by rw [HTd.out]; exact HI2, HB2⟩
                    case measure => simp [intOf]; omega
            · have hj' : j = k := by omega
              subst hj'
              have HI9 : Hid (InAt wr gi (⟨#[]⟩, 0)) := by
                have e : encA (l.drop j) = ⟨#[]⟩ := by rw [List.drop_of_length_le (by rw [HLn.out]; exact Nat.le_refl _)]; rfl
                have := HIn.out
                rw [e] at this
                exact this
              have HB : Hid (Below W.heap.size W wr) := HB0
              clear HIn HB0
              go_wp2_with fail
              refine (irest_any gi _ _ HI9.out).mono ?_
              rintro e w4 ⟨rfl, hw4⟩
              subst hw4
              have hz0 : (ByteArray.size ⟨#[]⟩) = 0 := rfl
              go_wp2_with fail
              have C1 := idone_any gi _ _ HI9.out
              rw [show inDoneP (⟨#[]⟩, 0) = 0 from rfl] at C1
              refine C1.mono ?_
              clear C1
              rintro e w5 ⟨rfl, hw5⟩
              subst hw5
              go_wp2_with fail
              refine (awake9 _).mono ?_
              rintro e wz ⟨rfl, bz⟩
              have BZ : Hid (Below W.heap.size W wz) := below_step HB.out (Nat.le_refl _) bz
              clear bz
              go_wp2
              go_ret
              exact ⟨rfl, BZ.out⟩
  · go_enter Try.func4, Try.ntmps4
    have HD : Hid (¬ FewP l n) := hF
    clear hF
    go_wp2_with fail
    refine (newOut_any _).mono ?_
    rintro e w1 ⟨rfl, h1, b1⟩
    have H1 : Hid (OutAt w1 W.heap.size (.slice none 0 0) (ByteArray.empty, false)) := OutAt.ok.2 h1
    have B1 : Hid (Below W.heap.size W w1) := b1
    have l1 : W.heap.size < w1.heap.size := h1.1.lt
    clear h1 b1
    go_wp2_with fail
    refine (few9_no l a n c w1 HM.out (HI.out.below B1.out) HZ.out HD.out).mono ?_
    rintro e w2 ⟨rfl, hw2⟩
    subst hw2
    go_wp2_with fail
    refine (awake9 _).mono ?_
    rintro e w3 ⟨rfl, b3⟩
    have B3 : Hid (Below W.heap.size W w3) := below_step B1.out (Nat.le_refl _) b3
    clear b3
    go_wp2
    go_ret
    exact ⟨rfl, B3.out⟩
end Go.Proofs.Ytmpjhflbmngajaa
