/- The walk of ViewBack. -/
import Derived.Test.YtebnmghjdoblaaaGreatDoorVG
import Derived.Test.YtebnmghjdoblaaaGreatDoorVI
import Derived.Test.YtebnmghjdoblaaaGreatDoorVC
namespace Go.Proofs.YtebnmghjdoblaaaGreatDoor
open Go.RowKit
set_option linter.unusedSimpArgs false

/-- How many of the first lines have a number. -/
def cntL (R : List LineT) (id : Int × Int) : Nat → Nat
  | 0 => 0
  | k + 1 => if (lL R k).2.1 = id then cntL R id k + 1 else cntL R id k

theorem cnt_none {R : List LineT} {id : Int × Int} : ∀ k, (∀ j, j < k → (lL R j).2.1 ≠ id) → cntL R id k = 0 := by
  intro k
  induction k with
  | zero => intro _; rfl
  | succ k ih =>
    intro h
    show (if _ then _ else _) = _
    rw [if_neg (h k (by omega))]
    exact ih (fun j hj => h j (by omega))

theorem cnt_one {R : List LineT} {id : Int × Int} {i : Nat} (hi : (lL R i).2.1 = id) : ∀ k, i < k → (∀ j, j < k → (lL R j).2.1 = id → j = i) → cntL R id k = 1 := by
  intro k
  induction k with
  | zero => intro h; omega
  | succ k ih =>
    intro h hu
    show (if _ then _ else _) = _
    by_cases e : k = i
    · subst e
      rw [if_pos hi, cnt_none k (fun j hj ej => by have := hu j (by omega) ej; omega)]
    · rw [if_neg (fun ek => e (hu k (by omega) ek))]
      exact ih (by omega) (fun j hj => hu j (by omega))

theorem lines_once {l : List NodeT} (h : MayV l) : ∀ i j, i < (linesP l).length → j < (linesP l).length → (lL (linesP l) i).2.1 = (lL (linesP l) j).2.1 → i = j := by
  have hnd := each_nodup h.2.1
  have hr0 := each_out h.2.1 (r := (0, 0)) rfl
  have h1 : ((linesP l).map (fun x => x.2.1)).Nodup := (showP_ids l (l.length + 1) (0, 0) 0).nodup_iff.2 (idsD_nodup hnd hr0 (l.length + 1) 0 (0, 0) rfl)
  intro i j hi hj e
  have e1 : ∀ k (hk : k < (linesP l).length), lL (linesP l) k = (linesP l)[k] := fun k hk => by unfold lL; rw [List.getD_eq_getElem?_getD, List.getElem?_eq_getElem hk]; rfl
  rw [e1 i hi, e1 j hj] at e
  rcases Nat.lt_trichotomy i j with hl | hl | hl
  · refine absurd ?_ (List.pairwise_iff_getElem.1 h1 i j (by rw [List.length_map]; exact hi) (by rw [List.length_map]; exact hj) hl)
    rw [List.getElem_map, List.getElem_map]; exact e
  · exact hl
  · refine absurd ?_ (List.pairwise_iff_getElem.1 h1 j i (by rw [List.length_map]; exact hj) (by rw [List.length_map]; exact hi) hl)
    rw [List.getElem_map, List.getElem_map]; exact e.symm


theorem dist_pos (l : List ByteArray) (h : ∀ s ∈ l, 0 < s.size) : ∀ k, k ≤ l.length → ∀ s ∈ distF l k, 0 < s.size := by
  intro k
  induction k with
  | zero => intro _ s hs; cases hs
  | succ k ih =>
    intro hk s hs
    rw [distF_succ, List.mem_append] at hs
    rcases hs with hs | hs
    · exact ih (by omega) s hs
    · have e : s = pickN (distF l k) (strL l k) (l.length + 1) 2 (strL l k) := by simpa using hs
      have hb : 0 < (strL l k).size := h _ (by unfold strL; rw [List.getD_eq_getElem?_getD, List.getElem?_eq_getElem (show k < l.length by omega)]; exact List.getElem_mem _)
      rcases pick_of (distF l k) (strL l k) (l.length + 1) 2 (strL l k) with e2 | ⟨j, _, _, e2⟩
      · rw [e, e2]; exact hb
      · rw [e, e2]
        unfold candB tailB
        rw [ByteArray.size_append, ByteArray.size_append]
        have : (⟨#[126]⟩ : ByteArray).size = 1 := rfl
        omega

theorem lines_pos {l : List NodeT} (h : MayV l) : ∀ x ∈ linesP l, 0 < x.2.2.1.size := by
  refine show_in l _ (fun p d x hx => ?_) _ _ _
  obtain ⟨j, hj, e⟩ := childF_names _ _ _ _ x hx
  rw [e]
  have hd := dist_pos ((kidsP l p l.length).map (fun x => x.2.2.1)) (fun s hs => by
    obtain ⟨y, hy, rfl⟩ := List.mem_map.1 hs
    obtain ⟨i, hi, rfl⟩ := kidsP_mem l p _ y hy
    exact (h.2.1 i hi).2.2.1.1.2.2.1) (kidsP l p l.length).length (by rw [List.length_map]; exact Nat.le_refl _)
  refine hd _ ?_
  unfold strL
  rw [List.getD_eq_getElem?_getD, List.getElem?_eq_getElem (by rw [distF_length]; exact hj)]
  exact List.getElem_mem _

theorem preB_size (Q : List ByteArray) (s : ByteArray) : s.size ≤ (preB Q s).size := by
  induction Q with
  | nil => exact Nat.le_refl _
  | cons q Q ih =>
    show _ ≤ ((q ++ ⟨#[47]⟩) ++ preB Q s).size
    rw [ByteArray.size_append]
    omega

theorem place_few (R : List LineT) : ∀ i, (placeF R i).length ≤ i := by
  intro i
  induction i with
  | zero => exact Nat.le_refl _
  | succ i ih =>
    show ((placeF R i).take _ ++ [_]).length ≤ _
    rw [List.length_append, List.length_take]
    simp only [List.length_cons, List.length_nil]
    omega

theorem paths_once {R : List LineT} (h : StepsL 0 R) (ho : OrdAt R) (hn : ∀ x ∈ R, NoSl x.2.2.1) (hl : R.length ≤ 90) {i j : Nat} (hj : j < i) (hi : i < R.length) : pathB R j ≠ pathB R i := by
  intro e
  rw [path_join h j (by omega), path_join h i hi] at e
  have key : ∀ k, k < R.length → Lib.splitB ⟨#[47]⟩ 0 (min 513 ((joinB (placeF R (k + 1))).size + 1) - 1) (joinB (placeF R (k + 1))) = placeF R (k + 1) := fun k hk =>
    (place_split _ (placeF R (k + 1)) (by show _ ++ [_] ≠ []; simp) (fun s hs => by
      obtain ⟨z, hz, rfl⟩ := place_mem R (k + 1) (by omega) s hs
      exact hn z hz) (by have := place_few R (k + 1); omega)).2 rfl
  have k1 := key j (by omega)
  have k2 := key i hi
  rw [e, k2] at k1
  exact place_inj h ho hj hi k1.symm

theorem path_sizes {R : List LineT} (h : StepsL 0 R) (hp : ∀ x ∈ R, 0 < x.2.2.1.size) (hs : ∀ x ∈ R, x.2.2.1.size ≤ 1000000) (hl : R.length ≤ 90) {i : Nat} (hi : i < R.length) : (pathB R i).size ≠ 0 ∧ (pathB R i).size < 4294967281 := by
  have h0 := steps_at R 0 h i hi
  obtain ⟨h1, _⟩ := place_len h i hi
  constructor
  · have e : pathB R i = preB ((placeF R i).take (lL R i).1.toNat) (lL R i).2.2.1 := by
      unfold pathB
      have e : (lL R i).1 = ((lL R i).1.toNat : Int) := by omega
      rw [e, path_pre h i (by omega) _ _ h1]
      rfl
    have h2 := preB_size ((placeF R i).take (lL R i).1.toNat) (lL R i).2.2.1
    have h3 := hp _ (lL_mem R i hi)
    rw [e]
    omega
  · rw [path_join h i hi]
    have hz : (joinB (placeF R (i + 1))).size = (Lib.join ((placeF R (i + 1)).map (·.data.toList)) [47]).length := by unfold joinB ByteArray.size; simp
    have h4 := join_short 1000000 ((placeF R (i + 1)).map (·.data.toList)) (fun s hs' => by
      obtain ⟨y, hy, rfl⟩ := List.mem_map.1 hs'
      have e : y.data.toList.length = y.size := Array.length_toList
      rw [e]
      obtain ⟨z, hz', rfl⟩ := place_mem R (i + 1) (by omega) y hy
      exact hs z hz')
    rw [List.length_map] at h4
    have h5 := place_few R (i + 1)
    have : (placeF R (i + 1)).length * (1000000 + 1) ≤ 90 * 1000001 := Nat.mul_le_mul_right _ (by omega)
    omega

set_option maxRecDepth 100000 in
set_option maxHeartbeats 16000000 in
theorem viewBack_walk (a : Option Addr) (l : List OpT) (n c : Nat) (w : World) (hm : n ≤ maxLen) (hI : OpsAt w a n l) (hz : ∀ q ∈ l, OpOk q) (hG : Glob8 w) (hM : MaxL w) :
    Calls Tryz.prog 5 #[.slice a n c] w fun e w' => e = .returned (.bool true) ∧ Below w.heap.size w w' := by
  have CW : Hid (∀ W, Below w.heap.size w W → Calls Tryz.prog 11 #[] W fun e w' => e = .returned (.bool true) ∧ Below W.heap.size W w') := fun W hW => awake12_on w W hG hM hW
  have HG : Hid (Glob8 w) := hG
  have HMx : Hid (MaxL w) := hM
  have CM : Hid (Calls _ _ _ _ _) := made_any a l n c w hm hI hz
  have hmn : n ≤ 9223372036854775807 := hm
  clear hG hM hI hz hm
  go_enter Tryz.func5, Tryz.ntmps5
  go_wp2_with fail
  refine CM.out.mono ?_
  rintro e w1 ⟨hMO, hb1⟩
  have HB1 : Hid (Below w.heap.size w w1) := hb1
  clear hb1 CM
  rcases hMO with rfl | ⟨v, NN, rfl, hMay, hNl, hNd, hNV⟩
  · have HBz := HB1
    go_wp2_with fail
    refine (CW.out _ HBz.out).mono ?_
    rintro e w99 ⟨rfl, hb99⟩
    have hB99 := below_step HBz.out (Nat.le_refl _) hb99
    clear CW hb99
    go_wp2_with fail
    go_ret
    exact ⟨rfl, hB99⟩
  · obtain ⟨na, nc, rfl, hNN⟩ := hNV
    have hzN : ∀ k, k < NN.length → (nL NN k).2.2.1.size ≤ 65536 ∧ (nL NN k).2.2.2.size ≤ maxLen := fun k hk => by
      rw [nL_getE NN k hk]
      obtain ⟨_, h2, h3⟩ := hNd _ (List.getElem_mem hk)
      exact ⟨by omega, Nat.le_trans h2 (by decide)⟩
    have HNN : Hid (NodesAt w1 na NN.length NN) := hNN
    have HDN : Hid (true = true ↔ MayV NN) := ⟨fun _ => hMay, fun _ => rfl⟩
    have CN1 : Hid (Calls Tryz.prog 12 #[.slice na NN.length nc] w1 fun e w' => ∃ v, e = .returned (.tuple #[v, .int .i64 0]) ∧ OwnL w' w1.heap.size v (linesP NN) ∧ Below w1.heap.size w1 w') := by
      have h := linesV_any NN na NN.length nc w1 (by omega) hzN hNN (HG.out.below HB1.out) true HDN.out
      rw [if_pos rfl, if_pos rfl] at h
      exact h
    have CP : Hid (∀ (x y : Int) (S : ByteArray) (E : Int), PathE (linesP NN) (x, y) S E → ∀ W, Below w1.heap.size w1 W → Calls Tryz.prog 17 #[.slice na NN.length nc, .agg #[.int .i64 x, .int .i64 y]] W fun e w' => e = .returned (.tuple #[.string S, .int .i64 E]) ∧ Below W.heap.size W w') := fun x y S E hPE W hW => pathC_any NN na NN.length nc x y W (by omega) hzN (HNN.out.below hW) (HG.out.below (below_step HB1.out (Nat.le_refl _) hW)) true HDN.out S E (by rw [if_pos rfl]; exact hPE)
    have CF : Hid (∀ (p : ByteArray) (x y E : Int), p.size < 4294967281 → (if p.size = 0 then ((x, y) = ((0, 0) : Int × Int) ∧ E = (0 : Int)) else FindV (linesP NN) p (x, y) E) → ∀ W, Below w1.heap.size w1 W → Calls Tryz.prog 19 #[.slice na NN.length nc, .string p] W fun e w' => e = .returned (.tuple #[.agg #[.int .i64 x, .int .i64 y], .int .i64 E]) ∧ Below W.heap.size W w') := fun p x y E hps hFE W hW => findC_any NN na NN.length nc p W (by omega) hzN (HNN.out.below hW) (HG.out.below (below_step HB1.out (Nat.le_refl _) hW)) (HMx.out.below (below_step HB1.out (Nat.le_refl _) hW)) hps true HDN.out (x, y) E (by rw [if_pos rfl]; exact hFE)
    have hRl : (linesP NN).length ≤ NN.length := linesP_len hMay
    have HSt : Hid (StepsL 0 (linesP NN)) := show_steps NN _ _ _ (Int.le_refl _)
    have HOnce : Hid (∀ i j, i < (linesP NN).length → j < (linesP NN).length → (lL (linesP NN) i).2.1 = (lL (linesP NN) j).2.1 → i = j) := lines_once hMay
    have HPth : Hid (∀ i j, j < i → i < (linesP NN).length → pathB (linesP NN) j ≠ pathB (linesP NN) i) := fun i j hj hi => paths_once HSt.out (show_ord NN (by omega) _ _ _) (lines_noSl hMay (by omega)) (by omega) hj hi
    have HPz : Hid (∀ i, i < (linesP NN).length → (pathB (linesP NN) i).size ≠ 0 ∧ (pathB (linesP NN) i).size < 4294967281) := fun i hi => path_sizes HSt.out (lines_pos hMay) (fun x hx => Nat.le_trans (lines_size (M := 65536) (fun k hk => (hzN k hk).1) x hx) (by omega)) (by omega) hi
    obtain ⟨R, hR⟩ : ∃ R, linesP NN = R := ⟨_, rfl⟩
    simp only [hR] at CN1 CP CF hRl HSt HOnce HPth HPz
    obtain ⟨nl, hnl⟩ : ∃ nl, NN.length = nl := ⟨_, rfl⟩
    simp only [hnl] at CN1 CP CF hRl HNN hNl ⊢
    clear hMay hNd hNN hzN hR HDN hnl
    go_wp2_with fail
    refine CN1.out.mono ?_
    rintro e w5 ⟨v5, rfl, ho5, hb5⟩
    obtain ⟨a5, c5, rfl, r5, _⟩ := OwnL.lines2 ho5
    obtain ⟨rn, hrn⟩ : ∃ rn, R.length = rn := ⟨_, rfl⟩
    have HRl : Hid (R.length = rn) := hrn
    rw [hrn] at r5 hRl ⊢
    have HL : Hid (LinesAt w5 a5 rn R) := r5
    have HN : Hid (NodesAt w5 na nl NN) := HNN.out.below hb5
    have HX5 : Hid (Below w1.heap.size w1 w5) := hb5
    have HB5 : Hid (Below w.heap.size w w5) := below_step HB1.out (Nat.le_refl _) hb5
    have glen : decide ((nl : Int) < (rn : Int)) = false := by simp; omega
    have glen2 : decide (nl < rn) = false := by simp; omega
    clear ho5 hb5 CN1 r5 hrn HNN
    go_wp2_with fail
    go_loopw [7] (fun i wr => ∃ k : Nat, k ≤ nl ∧ i = .int .i64 k ∧ Hid (Below w5.heap.size w5 wr)) (fun i _ => nl - (intOf i).toNat)
    case atStart => exact ⟨0, Nat.zero_le _, rfl, Below.refl _ _⟩
    case round =>
      obtain ⟨k, hk, rfl, HB⟩ := hrel
      by_cases hlt : k < nl
      · have b0 : (k : Int) < (nl : Int) := by omega
        obtain ⟨nb, noff, rfl, _⟩ := HN.out.2.some (by omega)
        have w1k : IntKind.i64.wrap ((k : Int) + 1) = ((k + 1 : Nat) : Int) := by rw [IntKind.wrap_i64]; omega
        have HNc : Hid (∀ W, Below w5.heap.size w5 W → W.cell? ⟨nb, noff + k * 6, none⟩ = some (.int .i64 (nL NN k).1.1) ∧ W.cell? ⟨nb, noff + k * 6 + 1, none⟩ = some (.int .i64 (nL NN k).1.2)) := fun W hW => by
          have h := (HN.out.below hW).cells k hlt
          exact ⟨h.1, h.2.1⟩
        obtain ⟨⟨it, iu⟩, hid⟩ : ∃ id, id = (nL NN k).1 := ⟨_, rfl⟩
        simp only [← hid] at HNc
        clear hid
        go_wp2_with fail
        go_loopw [8, 9] (fun cv iv wi => ∃ (j : Nat) (q : Int), j ≤ rn ∧ iv = .int .i64 j ∧ cv = .int .i64 q ∧ Hid (q = (cntL R (it, iu) j : Int)) ∧ 0 ≤ q ∧ q ≤ j ∧ Hid (Below w5.heap.size w5 wi)) (fun _ iv _ => rn - (intOf iv).toNat)
        case atStart => exact ⟨0, 0, Nat.zero_le _, rfl, rfl, rfl, by omega, by omega, HB⟩
        case round =>
          clear HB
          obtain ⟨j, q, hj, rfl, rfl, HQ, hq0, hqj, HB⟩ := hrel
          by_cases hjl : j < rn
          · have c0 : (j : Int) < (rn : Int) := by omega
            obtain ⟨b, off, rfl, _⟩ := HL.out.2.some (by omega)
            have hcj := (HL.out.below HB.out).cells j hjl
            obtain ⟨n0, n1⟩ := HNc.out wr HB.out
            have w1j : IntKind.i64.wrap ((j : Int) + 1) = ((j + 1 : Nat) : Int) := by rw [IntKind.wrap_i64]; omega
            have w1q : IntKind.i64.wrap (q + 1) = q + 1 := by rw [IntKind.wrap_i64]; omega
            obtain ⟨⟨jd, ⟨jt, ju⟩, jnm, jvl⟩, hjx⟩ : ∃ x, x = lL R j := ⟨_, rfl⟩
            have HJX : Hid ((lL R j).2.1 = (jt, ju)) := by show _ = _; rw [← hjx]
            rw [← hjx] at hcj
            obtain ⟨_, x1, x2, _, _⟩ := hcj
            simp only at x1 x2
            have hS0 : (wr.cell? ⟨b, off + j * 5 + 1, none⟩ = some (.int .i64 jt) ∧ wr.cell? ⟨b, off + j * 5 + 2, none⟩ = some (.int .i64 ju)) ∧ (wr.cell? ⟨nb, noff + k * 6, none⟩ = some (.int .i64 it) ∧ wr.cell? ⟨nb, noff + k * 6 + 1, none⟩ = some (.int .i64 iu)) := ⟨⟨x1, x2⟩, n0, n1⟩
            have HBd : Hid (Below w5.heap.size w5 wr.drew) := HB.out.drew
            by_cases heq : (jt, ju) = (it, iu)
            · have eS : ∀ w, (Op.equalIn 10000 36 (.agg #[.int .i64 jt, .int .i64 ju]) (.agg #[.int .i64 it, .int .i64 iu])).run Tryz.prog w = .ok true w := fun w => by rw [stampEq jt ju it iu w, decide_eq_true heq]
              have HQ2 : Hid (q + 1 = (cntL R (it, iu) (j + 1) : Int)) := by
                show _ = (((if (lL R j).2.1 = (it, iu) then cntL R (it, iu) j + 1 else cntL R (it, iu) j) : Nat) : Int)
                rw [if_pos (HJX.out.trans heq), HQ.out]
                omega
              clear hjx x1 x2 n0 n1 heq
              go_wp2_with fail
              refine wp_region_noPanic ?_
              refine wp_region_held_drew (S := fun W => (W.cell? ⟨b, off + j * 5 + 1, none⟩ = some (.int .i64 jt) ∧ W.cell? ⟨b, off + j * 5 + 2, none⟩ = some (.int .i64 ju)) ∧ (W.cell? ⟨nb, noff + k * 6, none⟩ = some (.int .i64 it) ∧ W.cell? ⟨nb, noff + k * 6 + 1, none⟩ = some (.int .i64 iu))) (by kernel_rfl) (by first | exact trivial | assumption | exact ⟨by assumption, by assumption⟩) (fun hHeld => ?_)
              refine take_at (i := 0) (v := ?_) rfl rfl (by kernel_rfl) (by kernel_rfl) (by kernel_rfl) (fun _ _ _ h => h) (Or.inl ⟨by rfl, ?_⟩) (by assumption) ?_
              rotate_left
              · intro w hSw; (try dsimp only at hSw); go_simp; try with_reducible rfl
              try simp only [Act.put, List.setIfInBounds_toArray, List.set_cons_zero, List.set_cons_succ]
              refine take_at (i := 1) (v := ?_) rfl rfl (by kernel_rfl) (by kernel_rfl) (by kernel_rfl) (fun _ _ _ h => h) (Or.inl ⟨by rfl, ?_⟩) (by assumption) ?_
              rotate_left
              · intro w hSw; (try dsimp only at hSw); go_simp; try with_reducible rfl
              try simp only [Act.put, List.setIfInBounds_toArray, List.set_cons_zero, List.set_cons_succ]
              refine take_at (i := 2) (v := ?_) rfl rfl (by kernel_rfl) (by kernel_rfl) (by kernel_rfl) (fun _ _ _ h => h) (Or.inl ⟨by rfl, ?_⟩) (by assumption) ?_
              rotate_left
              · intro w hSw; (try dsimp only at hSw); go_simp; try with_reducible rfl
              try simp only [Act.put, List.setIfInBounds_toArray, List.set_cons_zero, List.set_cons_succ]
              refine take_at (i := 3) (v := ?_) rfl rfl (by kernel_rfl) (by kernel_rfl) (by kernel_rfl) (fun _ _ _ h => h) (Or.inl ⟨by rfl, ?_⟩) (by assumption) ?_
              rotate_left
              · intro w hSw; (try dsimp only at hSw); go_simp; try with_reducible rfl
              try simp only [Act.put, List.setIfInBounds_toArray, List.set_cons_zero, List.set_cons_succ]
              refine take_at (i := 4) (v := ?_) rfl rfl (by kernel_rfl) (by kernel_rfl) (by kernel_rfl) (fun _ _ _ h => h) (Or.inl ⟨by rfl, ?_⟩) (by assumption) ?_
              rotate_left
              · intro w hSw; (try dsimp only at hSw); go_simp; try with_reducible rfl
              try simp only [Act.put, List.setIfInBounds_toArray, List.set_cons_zero, List.set_cons_succ]
              refine take_at (i := 5) (v := ?_) rfl rfl (by kernel_rfl) (by kernel_rfl) (by kernel_rfl) (fun _ _ _ h => h) (Or.inl ⟨by rfl, ?_⟩) (by assumption) ?_
              rotate_left
              · intro w hSw; (try dsimp only at hSw); go_simp; try with_reducible rfl
              try simp only [Act.put, List.setIfInBounds_toArray, List.set_cons_zero, List.set_cons_succ]
              refine take_at (i := 6) (v := ?_) rfl rfl (by kernel_rfl) (by kernel_rfl) (by kernel_rfl) (fun _ _ _ h => h) (Or.inl ⟨by rfl, ?_⟩) (by assumption) ?_
              rotate_left
              · intro w hSw; (try dsimp only at hSw); go_simp; try with_reducible rfl
              try simp only [Act.put, List.setIfInBounds_toArray, List.set_cons_zero, List.set_cons_succ]
              refine take_at (i := 7) (v := ?_) rfl rfl (by kernel_rfl) (by kernel_rfl) (by kernel_rfl) (fun _ _ _ h => h) (Or.inl ⟨by rfl, ?_⟩) (by assumption) ?_
              rotate_left
              · intro w hSw; (try dsimp only at hSw); go_simp; try with_reducible rfl
              try simp only [Act.put, List.setIfInBounds_toArray, List.set_cons_zero, List.set_cons_succ]
              refine take_at (i := 8) (v := ?_) rfl rfl (by kernel_rfl) (by kernel_rfl) (by kernel_rfl) (fun _ _ _ h => h) (Or.inl ⟨by rfl, ?_⟩) (by assumption) ?_
              rotate_left
              · intro w hSw; (try dsimp only at hSw); go_simp; try with_reducible rfl
              try simp only [Act.put, List.setIfInBounds_toArray, List.set_cons_zero, List.set_cons_succ]
              refine take_at (i := 9) (v := ?_) rfl rfl (by kernel_rfl) (by kernel_rfl) (by kernel_rfl) (fun _ _ _ h => h) (Or.inl ⟨by rfl, ?_⟩) (by assumption) ?_
              rotate_left
              · intro w hSw; (try dsimp only at hSw); go_simp; try with_reducible rfl
              try simp only [Act.put, List.setIfInBounds_toArray, List.set_cons_zero, List.set_cons_succ]
              refine take_at (i := 10) (v := ?_) rfl rfl (by kernel_rfl) (by kernel_rfl) (by kernel_rfl) (fun _ _ _ h => h) (Or.inl ⟨by rfl, ?_⟩) (by assumption) ?_
              rotate_left
              · intro w hSw; (try dsimp only at hSw); go_simp; try with_reducible rfl
              try simp only [Act.put, List.setIfInBounds_toArray, List.set_cons_zero, List.set_cons_succ]
              refine wpAnyH_done (by kernel_rfl) (NoPanic.normal ?_) _
              go_wp2_with fail
              refine ⟨?_, ?_⟩
              · first
                | exact ⟨j + 1, q + 1, by omega, by go_num, (by first | rfl | go_num), HQ2, by omega, by omega, HBd⟩
                | ((repeat apply Exists.intro); refine ⟨?_, rfl⟩; exact ⟨j + 1, q + 1, by omega, by go_num, (by first | rfl | go_num), HQ2, by omega, by omega, HBd⟩)
              · simp [intOf] <;> omega
            · have eS : ∀ w, (Op.equalIn 10000 36 (.agg #[.int .i64 jt, .int .i64 ju]) (.agg #[.int .i64 it, .int .i64 iu])).run Tryz.prog w = .ok false w := fun w => by rw [stampEq jt ju it iu w, decide_eq_false heq]
              have HQ2 : Hid (q = (cntL R (it, iu) (j + 1) : Int)) := by
                show _ = (((if (lL R j).2.1 = (it, iu) then cntL R (it, iu) j + 1 else cntL R (it, iu) j) : Nat) : Int)
                rw [if_neg (fun e => heq (HJX.out.symm.trans e)), HQ.out]
              clear hjx x1 x2 n0 n1 heq
              go_wp2_with fail
              refine wp_region_noPanic ?_
              refine wp_region_held_drew (S := fun W => (W.cell? ⟨b, off + j * 5 + 1, none⟩ = some (.int .i64 jt) ∧ W.cell? ⟨b, off + j * 5 + 2, none⟩ = some (.int .i64 ju)) ∧ (W.cell? ⟨nb, noff + k * 6, none⟩ = some (.int .i64 it) ∧ W.cell? ⟨nb, noff + k * 6 + 1, none⟩ = some (.int .i64 iu))) (by kernel_rfl) (by first | exact trivial | assumption | exact ⟨by assumption, by assumption⟩) (fun hHeld => ?_)
              refine take_at (i := 0) (v := ?_) rfl rfl (by kernel_rfl) (by kernel_rfl) (by kernel_rfl) (fun _ _ _ h => h) (Or.inl ⟨by rfl, ?_⟩) (by assumption) ?_
              rotate_left
              · intro w hSw; (try dsimp only at hSw); go_simp; try with_reducible rfl
              try simp only [Act.put, List.setIfInBounds_toArray, List.set_cons_zero, List.set_cons_succ]
              refine take_at (i := 1) (v := ?_) rfl rfl (by kernel_rfl) (by kernel_rfl) (by kernel_rfl) (fun _ _ _ h => h) (Or.inl ⟨by rfl, ?_⟩) (by assumption) ?_
              rotate_left
              · intro w hSw; (try dsimp only at hSw); go_simp; try with_reducible rfl
              try simp only [Act.put, List.setIfInBounds_toArray, List.set_cons_zero, List.set_cons_succ]
              refine take_at (i := 2) (v := ?_) rfl rfl (by kernel_rfl) (by kernel_rfl) (by kernel_rfl) (fun _ _ _ h => h) (Or.inl ⟨by rfl, ?_⟩) (by assumption) ?_
              rotate_left
              · intro w hSw; (try dsimp only at hSw); go_simp; try with_reducible rfl
              try simp only [Act.put, List.setIfInBounds_toArray, List.set_cons_zero, List.set_cons_succ]
              refine take_at (i := 3) (v := ?_) rfl rfl (by kernel_rfl) (by kernel_rfl) (by kernel_rfl) (fun _ _ _ h => h) (Or.inl ⟨by rfl, ?_⟩) (by assumption) ?_
              rotate_left
              · intro w hSw; (try dsimp only at hSw); go_simp; try with_reducible rfl
              try simp only [Act.put, List.setIfInBounds_toArray, List.set_cons_zero, List.set_cons_succ]
              refine take_at (i := 4) (v := ?_) rfl rfl (by kernel_rfl) (by kernel_rfl) (by kernel_rfl) (fun _ _ _ h => h) (Or.inl ⟨by rfl, ?_⟩) (by assumption) ?_
              rotate_left
              · intro w hSw; (try dsimp only at hSw); go_simp; try with_reducible rfl
              try simp only [Act.put, List.setIfInBounds_toArray, List.set_cons_zero, List.set_cons_succ]
              refine take_at (i := 5) (v := ?_) rfl rfl (by kernel_rfl) (by kernel_rfl) (by kernel_rfl) (fun _ _ _ h => h) (Or.inl ⟨by rfl, ?_⟩) (by assumption) ?_
              rotate_left
              · intro w hSw; (try dsimp only at hSw); go_simp; try with_reducible rfl
              try simp only [Act.put, List.setIfInBounds_toArray, List.set_cons_zero, List.set_cons_succ]
              refine take_at (i := 6) (v := ?_) rfl rfl (by kernel_rfl) (by kernel_rfl) (by kernel_rfl) (fun _ _ _ h => h) (Or.inl ⟨by rfl, ?_⟩) (by assumption) ?_
              rotate_left
              · intro w hSw; (try dsimp only at hSw); go_simp; try with_reducible rfl
              try simp only [Act.put, List.setIfInBounds_toArray, List.set_cons_zero, List.set_cons_succ]
              refine take_at (i := 7) (v := ?_) rfl rfl (by kernel_rfl) (by kernel_rfl) (by kernel_rfl) (fun _ _ _ h => h) (Or.inl ⟨by rfl, ?_⟩) (by assumption) ?_
              rotate_left
              · intro w hSw; (try dsimp only at hSw); go_simp; try with_reducible rfl
              try simp only [Act.put, List.setIfInBounds_toArray, List.set_cons_zero, List.set_cons_succ]
              refine take_at (i := 8) (v := ?_) rfl rfl (by kernel_rfl) (by kernel_rfl) (by kernel_rfl) (fun _ _ _ h => h) (Or.inl ⟨by rfl, ?_⟩) (by assumption) ?_
              rotate_left
              · intro w hSw; (try dsimp only at hSw); go_simp; try with_reducible rfl
              try simp only [Act.put, List.setIfInBounds_toArray, List.set_cons_zero, List.set_cons_succ]
              refine take_at (i := 9) (v := ?_) rfl rfl (by kernel_rfl) (by kernel_rfl) (by kernel_rfl) (fun _ _ _ h => h) (Or.inl ⟨by rfl, ?_⟩) (by assumption) ?_
              rotate_left
              · intro w hSw; (try dsimp only at hSw); go_simp; try with_reducible rfl
              try simp only [Act.put, List.setIfInBounds_toArray, List.set_cons_zero, List.set_cons_succ]
              refine take_at (i := 10) (v := ?_) rfl rfl (by kernel_rfl) (by kernel_rfl) (by kernel_rfl) (fun _ _ _ h => h) (Or.inl ⟨by rfl, ?_⟩) (by assumption) ?_
              rotate_left
              · intro w hSw; (try dsimp only at hSw); go_simp; try with_reducible rfl
              try simp only [Act.put, List.setIfInBounds_toArray, List.set_cons_zero, List.set_cons_succ]
              refine wpAnyH_done (by kernel_rfl) (NoPanic.normal ?_) _
              go_wp2_with fail
              refine ⟨?_, ?_⟩
              · first
                | exact ⟨j + 1, q, by omega, by go_num, rfl, HQ2, by omega, by omega, HBd⟩
                | ((repeat apply Exists.intro); refine ⟨?_, rfl⟩; exact ⟨j + 1, q, by omega, by go_num, rfl, HQ2, by omega, by omega, HBd⟩)
              · simp [intOf] <;> omega
          · obtain rfl : j = rn := by omega
            have c0 : ¬ ((j : Int) < (j : Int)) := by omega
            obtain ⟨n0, n1⟩ := HNc.out wr HB.out
            by_cases hin : ∃ i0, i0 < j ∧ (lL R i0).2.1 = (it, iu)
            · obtain ⟨i0, hi0, ei0⟩ := hin
              have hi0R : i0 < R.length := by rw [HRl.out]; exact hi0
              have hq1 : q = 1 := by
                rw [HQ.out, cnt_one ei0 j hi0 (fun j2 hj2 ej2 => HOnce.out j2 i0 (by rw [HRl.out]; exact hj2) hi0R (ej2.trans ei0.symm))]
                rfl
              have hPE : PathE R (it, iu) (pathB R i0) 0 := .inl ⟨i0, hi0R, ei0, fun j2 hj2 ej2 => by have := HOnce.out j2 i0 (by omega) hi0R (ej2.trans ei0.symm); omega, rfl, rfl⟩
              obtain ⟨hz0, hz1⟩ := HPz.out i0 hi0R
              have hFV : if (pathB R i0).size = 0 then ((it, iu) = ((0, 0) : Int × Int) ∧ (0 : Int) = 0) else FindV R (pathB R i0) (it, iu) 0 := by
                rw [if_neg hz0]
                exact .inl ⟨i0, hi0R, rfl, fun j2 hj2 => HPth.out i0 j2 hj2 hi0R, ei0.symm, rfl⟩
              have CP1 : Hid (∀ W, Below w1.heap.size w1 W → _) := CP.out it iu (pathB R i0) 0 hPE
              have CF1 : Hid (∀ W, Below w1.heap.size w1 W → _) := CF.out (pathB R i0) it iu 0 hz1 hFV
              obtain ⟨S, hS⟩ : ∃ S, pathB R i0 = S := ⟨_, rfl⟩
              simp only [hS] at CP1 CF1
              subst hq1
              have e4 := fun w => stampEq_same3 it iu w
              clear hS hFV hPE hz0 hz1 hi0 ei0 hi0R HQ
              go_wp2_with fail
              refine (CP1.out wr (below_step HX5.out (Nat.le_refl _) HB.out)).mono ?_
              rintro e w6 ⟨rfl, hb6⟩
              have HB6 : Hid (Below w5.heap.size w5 w6) := below_step HB.out (Nat.le_refl _) hb6
              clear hb6 CP1 n0 n1 HB
              go_wp2_with fail
              refine (CF1.out w6 (below_step HX5.out (Nat.le_refl _) HB6.out)).mono ?_
              rintro e w7 ⟨rfl, hb7⟩
              have HB7 : Hid (Below w5.heap.size w5 w7) := below_step HB6.out (Nat.le_refl _) hb7
              obtain ⟨V, hV⟩ : ∃ V, w7.alloc (.cells #[.int .i64 it, .int .i64 iu] 36) = V := ⟨_, rfl⟩
              obtain ⟨hp, hhp⟩ : ∃ hp, w7.heap.size = hp := ⟨_, rfl⟩
              have hbV : Below w7.heap.size w7 V := by rw [← hV]; exact below_new _ _
              have hKV : Blk V 36 hp #[.int .i64 it, .int .i64 iu] := by rw [← hV, ← hhp]; exact Blk.new _ _ _
              have HBV : Hid (Below w5.heap.size w5 V) := below_step HB7.out (Nat.le_refl _) hbV
              have HV : Hid (w7.alloc (.cells #[.int .i64 it, .int .i64 iu] 36) = V) := hV
              have HHp : Hid (w7.heap.size = hp) := hhp
              have hS0 : (V.cell? ⟨hp, 0, none⟩ = some (.int .i64 it) ∧ V.cell? ⟨hp, 1, none⟩ = some (.int .i64 iu)) ∧ (V.cell? ⟨nb, noff + k * 6, none⟩ = some (.int .i64 it) ∧ V.cell? ⟨nb, noff + k * 6 + 1, none⟩ = some (.int .i64 iu)) := ⟨⟨hKV.cell 0, hKV.cell 1⟩, HNc.out V HBV.out⟩
              clear hb7 CF1 HB6 HB7 hV hhp hbV hKV
              go_wp2_with fail
              rw [HV.out, HHp.out]
              refine wp_region_noPanic ?_
              refine wp_region_held_drew (S := fun W => (W.cell? ⟨hp, 0, none⟩ = some (.int .i64 it) ∧ W.cell? ⟨hp, 1, none⟩ = some (.int .i64 iu)) ∧ (W.cell? ⟨nb, noff + k * 6, none⟩ = some (.int .i64 it) ∧ W.cell? ⟨nb, noff + k * 6 + 1, none⟩ = some (.int .i64 iu))) (by kernel_rfl) (by first | exact trivial | assumption | exact ⟨by assumption, by assumption⟩) (fun hHeld => ?_)
              refine take_at (i := 0) (v := ?_) rfl rfl (by kernel_rfl) (by kernel_rfl) (by kernel_rfl) (fun _ _ _ h => h) (Or.inl ⟨by rfl, ?_⟩) (by assumption) ?_
              rotate_left
              · intro w hSw; (try dsimp only at hSw); go_simp; try with_reducible rfl
              try simp only [Act.put, List.setIfInBounds_toArray, List.set_cons_zero, List.set_cons_succ]
              refine take_at (i := 1) (v := ?_) rfl rfl (by kernel_rfl) (by kernel_rfl) (by kernel_rfl) (fun _ _ _ h => h) (Or.inl ⟨by rfl, ?_⟩) (by assumption) ?_
              rotate_left
              · intro w hSw; (try dsimp only at hSw); go_simp; try with_reducible rfl
              try simp only [Act.put, List.setIfInBounds_toArray, List.set_cons_zero, List.set_cons_succ]
              refine take_at (i := 2) (v := ?_) rfl rfl (by kernel_rfl) (by kernel_rfl) (by kernel_rfl) (fun _ _ _ h => h) (Or.inl ⟨by rfl, ?_⟩) (by assumption) ?_
              rotate_left
              · intro w hSw; (try dsimp only at hSw); go_simp; try with_reducible rfl
              try simp only [Act.put, List.setIfInBounds_toArray, List.set_cons_zero, List.set_cons_succ]
              refine take_at (i := 3) (v := ?_) rfl rfl (by kernel_rfl) (by kernel_rfl) (by kernel_rfl) (fun _ _ _ h => h) (Or.inl ⟨by rfl, ?_⟩) (by assumption) ?_
              rotate_left
              · intro w hSw; (try dsimp only at hSw); go_simp; try with_reducible rfl
              try simp only [Act.put, List.setIfInBounds_toArray, List.set_cons_zero, List.set_cons_succ]
              refine take_at (i := 4) (v := ?_) rfl rfl (by kernel_rfl) (by kernel_rfl) (by kernel_rfl) (fun _ _ _ h => h) (Or.inl ⟨by rfl, ?_⟩) (by assumption) ?_
              rotate_left
              · intro w hSw; (try dsimp only at hSw); go_simp; try with_reducible rfl
              try simp only [Act.put, List.setIfInBounds_toArray, List.set_cons_zero, List.set_cons_succ]
              refine take_at (i := 5) (v := ?_) rfl rfl (by kernel_rfl) (by kernel_rfl) (by kernel_rfl) (fun _ _ _ h => h) (Or.inl ⟨by rfl, ?_⟩) (by assumption) ?_
              rotate_left
              · intro w hSw; (try dsimp only at hSw); go_simp; try with_reducible rfl
              try simp only [Act.put, List.setIfInBounds_toArray, List.set_cons_zero, List.set_cons_succ]
              refine take_at (i := 6) (v := ?_) rfl rfl (by kernel_rfl) (by kernel_rfl) (by kernel_rfl) (fun _ _ _ h => h) (Or.inl ⟨by rfl, ?_⟩) (by assumption) ?_
              rotate_left
              · intro w hSw; (try dsimp only at hSw); go_simp; try with_reducible rfl
              try simp only [Act.put, List.setIfInBounds_toArray, List.set_cons_zero, List.set_cons_succ]
              refine take_at (i := 7) (v := ?_) rfl rfl (by kernel_rfl) (by kernel_rfl) (by kernel_rfl) (fun _ _ _ h => h) (Or.inl ⟨by rfl, ?_⟩) (by assumption) ?_
              rotate_left
              · intro w hSw; (try dsimp only at hSw); go_simp; try with_reducible rfl
              try simp only [Act.put, List.setIfInBounds_toArray, List.set_cons_zero, List.set_cons_succ]
              refine take_at (i := 8) (v := ?_) rfl rfl (by kernel_rfl) (by kernel_rfl) (by kernel_rfl) (fun _ _ _ h => h) (Or.inl ⟨by rfl, ?_⟩) (by assumption) ?_
              rotate_left
              · intro w hSw; (try dsimp only at hSw); go_simp; try with_reducible rfl
              try simp only [Act.put, List.setIfInBounds_toArray, List.set_cons_zero, List.set_cons_succ]
              refine take_at (i := 9) (v := ?_) rfl rfl (by kernel_rfl) (by kernel_rfl) (by kernel_rfl) (fun _ _ _ h => h) (Or.inl ⟨by rfl, ?_⟩) (by assumption) ?_
              rotate_left
              · intro w hSw; (try dsimp only at hSw); go_simp; try with_reducible rfl
              try simp only [Act.put, List.setIfInBounds_toArray, List.set_cons_zero, List.set_cons_succ]
              refine take_at (i := 10) (v := ?_) rfl rfl (by kernel_rfl) (by kernel_rfl) (by kernel_rfl) (fun _ _ _ h => h) (Or.inl ⟨by rfl, ?_⟩) (by assumption) ?_
              rotate_left
              · intro w hSw; (try dsimp only at hSw); go_simp; try with_reducible rfl
              try simp only [Act.put, List.setIfInBounds_toArray, List.set_cons_zero, List.set_cons_succ]
              refine wpAnyH_done (by kernel_rfl) (NoPanic.normal ?_) _
              have HBf : Hid (Below w5.heap.size w5 V.drew) := HBV.out.drew
              go_wp2_with fail
              refine ⟨?_, ?_⟩
              · first
                | exact ⟨k + 1, by omega, by go_num, HBf⟩
                | ((repeat apply Exists.intro); refine ⟨?_, rfl⟩; exact ⟨k + 1, by omega, by go_num, HBf⟩)
              · simp [intOf] <;> omega
            · have hnone : ∀ j2, j2 < R.length → (lL R j2).2.1 ≠ (it, iu) := fun j2 hj2 e2 => hin ⟨j2, by rw [← HRl.out]; exact hj2, e2⟩
              have hq1 : q = 0 := by
                rw [HQ.out, cnt_none j (fun j2 hj2 => hnone j2 (by rw [HRl.out]; exact hj2))]
                rfl
              have CP1 : Hid (∀ W, Below w1.heap.size w1 W → _) := CP.out it iu ⟨#[]⟩ 3 (.inr ⟨hnone, rfl, rfl⟩)
              subst hq1
              clear hnone hin HQ
              go_wp2_with fail
              refine (CP1.out wr (below_step HX5.out (Nat.le_refl _) HB.out)).mono ?_
              rintro e w6 ⟨rfl, hb6⟩
              have HBf : Hid (Below w5.heap.size w5 w6) := below_step HB.out (Nat.le_refl _) hb6
              clear hb6 CP1 n0 n1 HB
              go_wp2_with fail
              refine ⟨?_, ?_⟩
              · first
                | exact ⟨k + 1, by omega, by go_num, HBf⟩
                | ((repeat apply Exists.intro); refine ⟨?_, rfl⟩; exact ⟨k + 1, by omega, by go_num, HBf⟩)
              · simp [intOf] <;> omega
      · obtain rfl : k = nl := by omega
        have b0 : ¬ ((k : Int) < (k : Int)) := by omega
        have CF1 : Hid (∀ W, Below w1.heap.size w1 W → _) := CF.out ⟨#[]⟩ 0 0 0 (by decide) (by rw [if_pos (show (⟨#[]⟩ : ByteArray).size = 0 from rfl)]; exact ⟨rfl, rfl⟩)
        have e4 := fun w => stampEq_same3 0 0 w
        go_wp2_with fail
        refine (CF1.out wr (below_step HX5.out (Nat.le_refl _) HB.out)).mono ?_
        rintro e w6 ⟨rfl, hb6⟩
        have HB6 : Hid (Below w5.heap.size w5 w6) := below_step HB.out (Nat.le_refl _) hb6
        have HBz : Hid (Below w.heap.size w (w6.alloc (.cells #[.int .i64 0, .int .i64 0] 36))) := below_step (below_step HB5.out (Nat.le_refl _) HB6.out) (Nat.le_refl _) (below_new _ _)
        clear hb6 CF1 HB6 HB
        go_wp2_with fail
        refine (CW.out _ HBz.out).mono ?_
        rintro e w99 ⟨rfl, hb99⟩
        have hB99 := below_step HBz.out (Nat.le_refl _) hb99
        clear CW hb99
        go_wp2_with fail
        go_ret
        exact ⟨rfl, hB99⟩

theorem viewBack_law (a : Option Addr) (n c : Nat) (w : World) (z : ∃ l, OpsAt w a n l ∧ n ≤ maxLen ∧ (∀ q ∈ l, OpOk q) ∧ SliceOk a n c) (hG : Glob8 w) (hM : MaxL w) :
    Calls Tryz.prog 5 #[.slice a n c] w fun e w' => e = .returned (.bool true) ∧ Below w.heap.size w w' := by
  obtain ⟨l, h1, h2, h3, _⟩ := z
  exact viewBack_walk a l n c w h2 h1 h3 hG hM
end Go.Proofs.YtebnmghjdoblaaaGreatDoor
