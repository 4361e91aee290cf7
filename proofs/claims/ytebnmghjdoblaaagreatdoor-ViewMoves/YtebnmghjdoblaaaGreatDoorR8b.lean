import Derived.Test.YtebnmghjdoblaaaGreatDoorR8
import Derived.Test.YtebnmghjdoblaaaGreatDoorG
import Derived.Test.YtebnmghjdoblaaaGreatDoorBA
import Derived.BigQuiet
/- The document's Fold. -/
namespace Go.Proofs.YtebnmghjdoblaaaGreatDoor
open Go.RowKit
set_option linter.unusedSimpArgs false

end Go.Proofs.YtebnmghjdoblaaaGreatDoor

/- strconv.Itoa of small numbers. -/
namespace Go.Proofs.YtebnmghjdoblaaaGreatDoor
open Go.RowKit
set_option linter.unusedSimpArgs false

def decB (k : Nat) : ByteArray := if k < 10 then ⟨#[UInt8.ofNat (48 + k)]⟩ else ⟨#[UInt8.ofNat (48 + k / 10), UInt8.ofNat (48 + k % 10)]⟩
theorem decB_size (k : Nat) : (decB k).size = if k < 10 then 1 else 2 := by unfold decB; split <;> rfl

set_option maxRecDepth 100000 in
set_option maxHeartbeats 1000000 in
theorem small_any (k : Nat) (w : World) (hk : k < 100) :
    Calls Tryz.prog 127 #[.int .i64 (k : Int)] w fun e w' => e = .returned (.string (decB k)) ∧ w' = w := by
  by_cases h : k < 10
  · have g0 : (k : Int) < 10 := by omega
    go_enter Tryz.func127, Tryz.ntmps127
    go_wp2
    go_ret
    refine ⟨?_, rfl⟩
    show Ending.returned (Value.string (ByteArray.extract _ _ _)) = _
    refine congrArg (fun b => Ending.returned (Value.string b)) ?_
    exact (show ∀ k, k < 10 → ByteArray.extract _ k (k + 1) = decB k by decide +kernel) k h
  · have g0 : ¬ (k : Int) < 10 := by omega
    go_enter Tryz.func127, Tryz.ntmps127
    go_wp2
    go_ret
    refine ⟨?_, rfl⟩
    show Ending.returned (Value.string (ByteArray.extract _ _ _)) = _
    refine congrArg (fun b => Ending.returned (Value.string b)) ?_
    exact (show ∀ k, k < 100 → ¬ k < 10 → ByteArray.extract _ (k * 2) (k * 2 + 2) = decB k by decide +kernel) k hk h

set_option maxHeartbeats 1000000 in
theorem format_any (k : Nat) (w : World) (hk : k < 100) :
    Calls Tryz.prog 115 #[.int .i64 (k : Int), .int .i64 10] w fun e w' => e = .returned (.string (decB k)) ∧ w' = w := by
  have C : Hid (∀ w, _) := fun w => small_any k w hk
  generalize decB k = D at *
  have g0 : decide ((0 : Int) ≤ (k : Int)) = true := by simp
  have g1 : decide ((k : Int) < 100) = true := by simp; omega
  go_enter Tryz.func115, Tryz.ntmps115
  go_wp2_with fail
  refine (C.out _).mono ?_
  rintro e w1 ⟨rfl, rfl⟩
  go_wp2_with fail
  go_ret
  exact ⟨rfl, rfl⟩

set_option maxHeartbeats 1000000 in
theorem itoa_any (k : Nat) (w : World) (hk : k < 100) :
    Calls Tryz.prog 76 #[.int .i64 (k : Int)] w fun e w' => e = .returned (.string (decB k)) ∧ w' = w := by
  have C : Hid (∀ w, _) := fun w => format_any k w hk
  generalize decB k = D at *
  have C2 : Hid (∀ w, Calls Tryz.prog 95 #[.int .i64 (k : Int)] w fun e w' => e = .returned (.string D) ∧ w' = w) := by
    intro w
    go_enter Tryz.func95, Tryz.ntmps95
    go_wp2_with fail
    refine (C.out _).mono ?_
    rintro e w1 ⟨rfl, rfl⟩
    go_wp2_with fail
    go_ret
    exact ⟨rfl, rfl⟩
  clear C
  go_enter Tryz.func76, Tryz.ntmps76
  go_wp2_with fail
  refine (C2.out _).mono ?_
  rintro e w1 ⟨rfl, rfl⟩
  go_wp2_with fail
  go_ret
  exact ⟨rfl, rfl⟩
end Go.Proofs.YtebnmghjdoblaaaGreatDoor

/- The document's has, Same. -/
namespace Go.Proofs.YtebnmghjdoblaaaGreatDoor
open Go.RowKit
set_option linter.unusedSimpArgs false

theorem strL_mem (l : List ByteArray) (s : ByteArray) : s ∈ l ↔ ∃ i, i < l.length ∧ strL l i = s := by
  constructor
  · intro h
    obtain ⟨i, hi, e⟩ := List.getElem_of_mem h
    exact ⟨i, hi, by unfold strL; rw [List.getD_eq_getElem?_getD, List.getElem?_eq_getElem hi]; exact e⟩
  · rintro ⟨i, hi, e⟩
    unfold strL at e
    rw [List.getD_eq_getElem?_getD, List.getElem?_eq_getElem hi] at e
    rw [← e]; exact List.getElem_mem hi

def decMem (s : ByteArray) (l : List ByteArray) : Decidable (s ∈ l) := decidable_of_iff (∃ i, i < l.length ∧ strL l i = s) (strL_mem l s).symm

/-- Is a text in a list? -/
def inB (s : ByteArray) (l : List ByteArray) : Bool := @decide (s ∈ l) (decMem s l)

theorem inB_yes {s : ByteArray} {l : List ByteArray} (h : s ∈ l) : inB s l = true := @decide_eq_true _ (decMem s l) h

theorem inB_no {s : ByteArray} {l : List ByteArray} (h : ¬ s ∈ l) : inB s l = false := @decide_eq_false _ (decMem s l) h

set_option maxHeartbeats 1000000 in
theorem rhas_any (l : List ByteArray) (s : ByteArray) (a : Option Addr) (n c : Nat) (w : World) (hn : n ≤ 1048576) (hI : StrsAt w a n l) :
    Calls Tryz.prog 75 #[.slice a n c, .string s] w fun e w' => e = .returned (.bool (inB s l)) ∧ w' = w := by
  have HI : Hid (StrsAt w a n l) := hI
  obtain ⟨B, HB⟩ : ∃ B, Hid (B = inB s l) := ⟨_, rfl⟩
  rw [← HB.out]
  clear hI
  go_enter Tryz.func75, Tryz.ntmps75
  go_wp2_with fail
  go_loopw [5] (fun i wr => ∃ k : Nat, k ≤ n ∧ i = .int .i64 k ∧ Hid (∀ j, j < k → ¬ strL l j = s) ∧ wr = w) (fun i _ => n - (intOf i).toNat)
  case atStart => exact ⟨0, Nat.zero_le _, rfl, fun j hj => absurd hj (Nat.not_lt_zero _), rfl⟩
  case round =>
    obtain ⟨k, hk, rfl, HN, rfl⟩ := hrel
    by_cases hlt : k < n
    · obtain ⟨b, off, rfl, hcl⟩ := HI.out.some (by omega)
      have c0 := hcl k hlt
      have b0 : (k : Int) < (n : Int) := by omega
      have hlen := HI.out.1
      clear hcl
      by_cases he : strL l k = s
      · have q0 : ((strL l k).toList == s.toList) = true := by rw [he]; simp
        have hB : B = true := by rw [HB.out]; exact inB_yes ((strL_mem l s).2 ⟨k, by omega, he⟩)
        clear he HN hlen
        generalize strL l k = X at *
        go_wp2
        go_ret
        rw [hB]
        exact ⟨rfl, rfl⟩
      · have q0 : ((strL l k).toList == s.toList) = false := by rw [beq_texts]; exact decide_eq_false he
        have HN' : Hid (∀ j, j < k + 1 → ¬ strL l j = s) := by
          show ∀ j, _
          intro j hj
          by_cases e : j = k
          · subst e; exact he
          · exact HN.out j (by omega)
        clear he HN hlen
        generalize strL l k = X at *
        go_wp2
        refine ⟨⟨k + 1, by omega, by go_num, HN', by first | rfl | trivial⟩, ?_⟩
        simp [intOf]; omega
    · have hk' : k = n := by omega
      subst hk'
      have hB : B = false := by
        rw [HB.out]
        refine inB_no (fun h => ?_)
        obtain ⟨i, hi, e⟩ := (strL_mem l s).1 h
        exact HN.out i (by have := HI.out.1; omega) e
      go_wp2
      go_ret
      rw [hB]
      exact ⟨rfl, rfl⟩

end Go.Proofs.YtebnmghjdoblaaaGreatDoor

/- The document's Distinct. -/
namespace Go.Proofs.YtebnmghjdoblaaaGreatDoor
open Go.RowKit
set_option linter.unusedSimpArgs false

def tailB (k : Nat) : ByteArray := ⟨#[126]⟩ ++ decB k

theorem tailB_size (k : Nat) : (tailB k).size ≤ 3 := by
  unfold tailB
  rw [ByteArray.size_append, decB_size]
  show 1 + _ ≤ 3
  split <;> omega

def candB (s : ByteArray) (k : Nat) : ByteArray := cutR s (32 - (tailB k).size) ++ tailB k

def pickN (O : List ByteArray) (s : ByteArray) : Nat → Nat → ByteArray → ByteArray
  | 0, _, cur => cur
  | f + 1, k, cur => if inB cur O = true then pickN O s f (k + 1) (candB s k) else cur

theorem pickN_more (O : List ByteArray) (s : ByteArray) (f k : Nat) (cur : ByteArray) (h : cur ∈ O) : pickN O s (f + 1) k cur = pickN O s f (k + 1) (candB s k) := by
  show (if inB cur O = true then _ else _) = _; rw [if_pos (inB_yes h)]

theorem pickN_stop (O : List ByteArray) (s : ByteArray) (f k : Nat) (cur : ByteArray) (h : ¬ cur ∈ O) : pickN O s f k cur = cur := by
  cases f with
  | zero => rfl
  | succ f => show (if inB cur O = true then _ else _) = _; rw [if_neg (by rw [inB_no h]; decide)]

/-- The names of their own of the first k texts. -/
def distF (l : List ByteArray) : Nat → List ByteArray
  | 0 => []
  | k + 1 => distF l k ++ [pickN (distF l k) (strL l k) (l.length + 1) 2 (strL l k)]

theorem distF_succ (l : List ByteArray) (k : Nat) : distF l (k + 1) = distF l k ++ [pickN (distF l k) (strL l k) (l.length + 1) 2 (strL l k)] := rfl

theorem distF_length (l : List ByteArray) (k : Nat) : (distF l k).length = k := by
  induction k with
  | zero => rfl
  | succ k ih => rw [distF_succ, List.length_append, ih]; rfl

theorem cutR_size (s : ByteArray) (n : Nat) : (cutR s n).size ≤ s.size := by
  unfold cutR; rw [ByteArray.size_extract]; omega

set_option maxRecDepth 100000 in
set_option maxHeartbeats 4000000 in
theorem rdistinct_any (l : List ByteArray) (a : Option Addr) (n c : Nat) (w : World) (hn : n ≤ 90) (hl : ∀ i, i < n → (strL l i).size ≤ 65536) (hI : StrsAt w a n l) :
    Calls Tryz.prog 53 #[.slice a n c] w fun e w' => ∃ v, e = .returned v ∧ OwnTx w' w.heap.size v n (distF l n) ∧ Below w.heap.size w w' := by
  have HI : Hid (StrsAt w a n l) := hI
  have Hl : Hid (∀ i, i < n → (strL l i).size ≤ 65536) := hl
  have hlen := hI.1
  clear hI hl
  go_enter Tryz.func53, Tryz.ntmps53
  go_wp2_with fail
  go_loopw [3, 4] (fun v i wr => ∃ k : Nat, k ≤ n ∧ i = .int .i64 k ∧ Hid (OwnTx wr w.heap.size v k (distF l k)) ∧ Below w.heap.size w wr) (fun _ i _ => n - (intOf i).toNat)
  case atStart => exact ⟨0, Nat.zero_le _, rfl, OwnTx.nil _ _, Below.refl _ _⟩
  case round =>
    obtain ⟨i, hi, rfl, HO, hbl⟩ := hrel
    by_cases hlt : i < n
    · obtain ⟨b, off, ha, hcl⟩ := (HI.out.below hbl).some (by omega)
      subst ha
      have c0 := hcl i hlt
      have b0 : (i : Int) < (n : Int) := by omega
      have ls := Hl.out i hlt
      have hd := distF_succ l i
      obtain ⟨O, hO⟩ : ∃ O, O = distF l i := ⟨_, rfl⟩
      rw [← hO] at HO hd
      obtain ⟨ao, co, hv, hst⟩ := HO.out.strs
      subst hv
      have HST : Hid (StrsAt wr ao i O) := hst
      have hsz := hbl.size
      generalize strL l i = s0 at *
      obtain ⟨R, HR⟩ : ∃ R, Hid (R = pickN O s0 (l.length + 1) 2 s0) := ⟨_, rfl⟩
      rw [← HR.out] at hd
      have HD : Hid (distF l (i + 1) = O ++ [R]) := hd
      rw [hlen] at HR
      clear hcl hO hst hd
      obtain ⟨w5, h5⟩ : ∃ w5, w5 = wr := ⟨_, rfl⟩
      rw [← h5] at c0 HO HST hbl hsz ⊢
      clear h5
      go_wp2_with fail
      go_loopw [5, 6] (fun v k wr => ∃ j : Nat, ∃ cur : ByteArray, 2 ≤ j ∧ j ≤ n + 3 ∧ v = .string cur ∧ k = .int .i64 j ∧ Hid (pickN O s0 (n + 3 - j) j cur = R) ∧ cur.size ≤ 65600 ∧ wr = w5) (fun _ k _ => n + 3 - (intOf k).toNat)
      case atStart => exact ⟨2, s0, by omega, by omega, rfl, rfl, by show _ = _; rw [HR.out, show n + 3 - 2 = n + 1 by omega], by omega, rfl⟩
      case round =>
        obtain ⟨j, cur, hj2, hj, rfl, rfl, HPk, hcs, rfl⟩ := hrel
        by_cases hjn : j < n + 3
        · have q1 : decide ((j : Int) < (n : Int) + 3) = true := by simp; omega
          have CH : Hid (∀ w, StrsAt w ao i O → _) := fun w h => rhas_any O cur ao i co w (by omega) h
          by_cases hin : cur ∈ O
          · have CH' := CH
            rw [inB_yes hin] at CH'
            have CI : Hid (∀ w, _) := fun w => itoa_any j w (by omega)
            obtain ⟨tl, htl⟩ : ∃ t, (⟨#[126]⟩ : ByteArray) ++ decB j = t := ⟨_, rfl⟩
            have hts : tl.size ≤ 3 := by rw [← htl]; exact tailB_size j
            have hdz : (decB j).size ≤ 2 := by rw [decB_size]; split <;> omega
            have CC' := fun w => rcut_any s0 (32 - (tl.size : Int)) w (by omega)
            rw [show (32 - (tl.size : Int)).toNat = 32 - tl.size by omega] at CC'
            obtain ⟨D, hD⟩ : ∃ D, D = cutR s0 (32 - tl.size) := ⟨_, rfl⟩
            have hDs : D.size ≤ 65536 := by rw [hD]; exact Nat.le_trans (cutR_size _ _) ls
            rw [← hD] at CC'
            have CC : Hid (∀ w, _) := CC'
            obtain ⟨cn, hcn⟩ : ∃ cn, D ++ tl = cn := ⟨_, rfl⟩
            have hce : cn = candB s0 j := by rw [← hcn, hD, ← htl]; rfl
            have HPk' : Hid (pickN O s0 (n + 3 - (j + 1)) (j + 1) cn = R) := by
              show _ = _
              rw [hce, ← HPk.out, show n + 3 - j = n + 3 - (j + 1) + 1 by omega, pickN_more _ _ _ _ _ hin]
            have hcns : cn.size ≤ 65600 := by rw [← hcn, ByteArray.size_append]; omega
            have hsum1 : ¬ (9223372036854775807 < 1 + (decB j).size) := by omega
            have hsum2 : ¬ (9223372036854775807 < D.size + tl.size) := by omega
            generalize decB j = dj at *
            clear CC' hD hce HPk hin CH
            go_wp2_with fail
            refine (CH'.out _ HST.out).mono ?_
            rintro e w6 ⟨rfl, rfl⟩
            clear CH'
            go_wp2_with fail
            refine (CI.out _).mono ?_
            rintro e w6 ⟨rfl, rfl⟩
            clear CI
            go_wp2_with fail
            refine (CC.out _).mono ?_
            rintro e w6 ⟨rfl, rfl⟩
            clear CC
            go_wp2_with fail
            refine ⟨⟨j + 1, cn, by omega, by omega, rfl, by go_num, HPk', hcns, by first | rfl | trivial⟩, ?_⟩
            simp [intOf]; omega
          · have CH' := CH
            rw [inB_no hin] at CH'
            have hR : cur = R := by rw [← HPk.out, pickN_stop _ _ _ _ _ hin]
            subst hR
            clear HPk hin CH
            go_wp2_with fail
            refine (CH'.out _ HST.out).mono ?_
            rintro e w6 ⟨rfl, rfl⟩
            clear CH'
            go_wp2_with (at_builtin; refine wpList_appS rfl (.tmp 43) (.tmp 45) rfl w.heap.size _ (.slice ao i co) i O rfl HO.out cur rfl (by omega) hsz ?_)
            intro v8 w8 O8 D8
            have HO8 : Hid (OwnTx w8 w.heap.size v8 (i + 1) (distF l (i + 1))) := by show OwnTx _ _ _ _ _; rw [HD.out]; exact O8
            have B8 := hbl.trans D8
            clear O8 D8 HO hbl HST
            go_wp2_with fail
            refine ⟨⟨i + 1, by omega, by go_num, HO8, B8⟩, ?_⟩
            simp [intOf]; omega
        · have q1 : decide ((j : Int) < (n : Int) + 3) = false := by simp; omega
          have hR : cur = R := by rw [← HPk.out, show n + 3 - j = 0 by omega]; rfl
          subst hR
          clear HPk
          go_wp2_with (at_builtin; refine wpList_appS rfl (.tmp 43) (.tmp 45) rfl w.heap.size _ (.slice ao i co) i O rfl HO.out cur rfl (by omega) hsz ?_)
          intro v8 w8 O8 D8
          have HO8 : Hid (OwnTx w8 w.heap.size v8 (i + 1) (distF l (i + 1))) := by show OwnTx _ _ _ _ _; rw [HD.out]; exact O8
          have B8 := hbl.trans D8
          clear O8 D8 HO hbl HST
          go_wp2_with fail
          refine ⟨⟨i + 1, by omega, by go_num, HO8, B8⟩, ?_⟩
          simp [intOf]; omega
    · have hi' : i = n := by omega
      subst hi'
      go_wp2_with fail
      go_ret
      exact ⟨_, rfl, HO.out, hbl⟩

end Go.Proofs.YtebnmghjdoblaaaGreatDoor

/- Runes of beginnings, and of two texts: plain. -/
namespace Go.Proofs.YtebnmghjdoblaaaGreatDoor
open Go.RowKit
set_option linter.unusedSimpArgs false

theorem accR_agree (u t : ByteArray) (x n : Nat) (h : ∀ i, i ≤ n → bt u i = bt t i) : accR u x n = accR t x n := by
  induction n with
  | zero => rfl
  | succ n ih => rw [accR_succ, accR_succ, ih (fun i hi => h i (by omega)), h (n + 1) (by omega)]

theorem tail_agree (u t : ByteArray) (n least x0 x k : Nat) (h : oneTail u n least x0 = some (x, k)) (hs : k ≤ t.size) (hb : ∀ i, i < k → bt u i = bt t i) : oneTail t n least x0 = some (x, k) := by
  unfold oneTail at h
  split at h
  · rename_i hc
    have e := Option.some.inj h
    have ek : n + 1 = k := congrArg Prod.snd e
    have ex : accR u x0 n = x := congrArg Prod.fst e
    have ea : accR t x0 n = accR u x0 n := (accR_agree u t x0 n (fun i hi => hb i (by omega))).symm
    have hct : contAll t n := fun i hi => by
      have := hc.1 i hi
      unfold contB at this ⊢
      rw [hb (i + 1) (by omega)] at this
      exact ⟨by omega, this.2⟩
    unfold oneTail
    rw [ea, if_pos ⟨hct, hc.2⟩, ex, ek]
  · cases h

/-- A rune is told by its bytes. -/
theorem oneP_agree (u t : ByteArray) (x k : Nat) (h : oneP u = some (x, k)) (hs : k ≤ t.size) (hb : ∀ i, i < k → bt u i = bt t i) : oneP t = some (x, k) := by
  have hk : 1 ≤ k := by have := oneP_pos u; rw [h] at this; exact this
  have h0 := hb 0 (by omega)
  unfold oneP at h ⊢
  rw [h0] at h
  by_cases c1 : bt t 0 < 128
  · rw [if_pos c1] at h ⊢; exact h
  · rw [if_neg c1] at h ⊢
    by_cases c2 : 194 ≤ bt t 0 ∧ bt t 0 ≤ 223
    · rw [if_pos c2] at h ⊢; exact tail_agree u t _ _ _ _ _ h hs hb
    · rw [if_neg c2] at h ⊢
      by_cases c3 : 224 ≤ bt t 0 ∧ bt t 0 ≤ 239
      · rw [if_pos c3] at h ⊢; exact tail_agree u t _ _ _ _ _ h hs hb
      · rw [if_neg c3] at h ⊢
        by_cases c4 : 240 ≤ bt t 0 ∧ bt t 0 ≤ 244
        · rw [if_pos c4] at h ⊢; exact tail_agree u t _ _ _ _ _ h hs hb
        · rw [if_neg c4] at h; cases h

theorem bt_restB (s : ByteArray) (p i : Nat) : bt (restB s p) i = bt s (p + i) := bt_rest s p i

theorem count_unique (s : ByteArray) (k : Nat) (h1 : ∀ j, j < k → posR s j < s.size) (h2 : posR s k = s.size) : countR s = k := by
  have h := count_split s k (by
    by_cases hk : k = 0
    · exact Or.inr (Or.inl hk)
    · exact Or.inr (Or.inr (h1 (k - 1) (by omega))))
  rw [leftR_end s _ (by omega)] at h
  omega

/-! ### Beginnings. -/

theorem front_size (s : ByteArray) (c : Nat) (h : c ≤ s.size) : (s.extract 0 c).size = c := by rw [ByteArray.size_extract]; omega

theorem front_bt (s : ByteArray) (c i : Nat) (h : c ≤ s.size) (hi : i < c) : bt (s.extract 0 c) i = bt s i := by rw [bt_extract s 0 c i (by omega) h, Nat.zero_add]

theorem one_front (s : ByteArray) (c p : Nat) (hc : c ≤ s.size) (hp : p < c) (hn : nextR s p ≤ c) : oneP (restB (s.extract 0 c) p) = oneP (restB s p) := by
  cases h : oneP (restB s p) with
  | some r =>
    obtain ⟨x, k⟩ := r
    have hk : nextR s p = p + k := by unfold nextR; rw [h]; rfl
    refine oneP_agree _ _ x k h (by rw [restB_size, front_size s c hc]; omega) (fun i hi => ?_)
    rw [bt_restB, bt_restB, front_bt s c _ hc (by omega)]
  | none =>
    cases h' : oneP (restB (s.extract 0 c) p) with
    | none => rfl
    | some r =>
      obtain ⟨x, k⟩ := r
      have hk : k ≤ c - p := by
        have := oneP_le (restB (s.extract 0 c) p) (by rw [restB_size, front_size s c hc]; omega)
        rw [h', restB_size, front_size s c hc] at this
        exact this
      have := oneP_agree _ (restB s p) x k h' (by rw [restB_size]; omega) (fun i hi => by rw [bt_restB, bt_restB, front_bt s c _ hc (by omega)])
      rw [h] at this; cases this

theorem pos_mono (s : ByteArray) (j k : Nat) (h : j ≤ k) : posR s j ≤ posR s k := by
  obtain ⟨d, rfl⟩ : ∃ d, k = j + d := ⟨k - j, by omega⟩
  clear h
  induction d with
  | zero => exact Nat.le_refl _
  | succ d ih =>
    rw [show j + (d + 1) = j + d + 1 by omega]
    by_cases h : posR s (j + d) < s.size
    · rw [posR_succ s _ h]; have := nextR_gt s (posR s (j + d)); omega
    · rw [posR_stop s _ h]; exact ih

theorem pos_front (s : ByteArray) (n j : Nat) (hn : n ≤ countR s) (hj : j ≤ n) : posR (s.extract 0 (posR s n)) j = posR s j := by
  have hc := posR_le s n
  induction j with
  | zero => rfl
  | succ j ih =>
    have h1 := ih (by omega)
    have h2 := pos_before s j (by omega)
    have h3 := posR_succ s j h2
    have h4 := nextR_gt s (posR s j)
    have h5 := pos_mono s (j + 1) n hj
    rw [posR_succ _ j (by rw [h1, front_size s _ hc]; omega), h1, h3]
    unfold nextR
    rw [one_front s _ _ hc (by omega) (by omega)]

/-- The first n runes are n, if there are so many. -/
theorem count_cut (s : ByteArray) (n : Nat) : countR (cutR s n) = min n (countR s) := by
  unfold cutR
  by_cases h : n ≤ countR s
  · rw [Nat.min_eq_left h]
    have hc := posR_le s n
    refine count_unique _ _ (fun j hj => ?_) ?_
    · rw [pos_front s n j h (by omega), front_size s _ hc]
      have h2 := pos_before s j (by omega)
      have h3 := posR_succ s j h2
      have h4 := nextR_gt s (posR s j)
      have h5 := pos_mono s (j + 1) n (by omega)
      omega
    · rw [pos_front s n n h (Nat.le_refl _), front_size s _ hc]
  · have hp : posR s n = s.size := by
      obtain ⟨d, rfl⟩ : ∃ d, n = countR s + d := ⟨n - countR s, by omega⟩
      rw [posR_stay s _ d (by rw [pos_count]; omega), pos_count]
    rw [hp, Nat.min_eq_right (by omega)]
    have : s.extract 0 s.size = s := restB_zero s
    rw [this]

/-! ### Two texts. -/

/-- All runes are of UTF-8. -/
def AllR (s : ByteArray) : Prop := ∀ k, k < countR s → ∃ r, oneP (restB s (posR s k)) = some r

theorem NameP.all {s : ByteArray} (h : NameP s) : AllR s := fun k hk => by
  have := h.2.1 k hk
  unfold runeAt at this
  cases hq : oneP (restB s (posR s k)) with
  | some r => exact ⟨r, rfl⟩
  | none => rw [hq] at this; exact absurd this.1 (by decide)

end Go.Proofs.YtebnmghjdoblaaaGreatDoor

/- Folded texts; names of two texts: plain. -/
namespace Go.Proofs.YtebnmghjdoblaaaGreatDoor
open Go.RowKit
set_option linter.unusedSimpArgs false

end Go.Proofs.YtebnmghjdoblaaaGreatDoor

/- Distinct names are distinct, and names: plain. -/
namespace Go.Proofs.YtebnmghjdoblaaaGreatDoor
open Go.RowKit
set_option linter.unusedSimpArgs false

/-! ### Plain bytes. -/
theorem one_plain (t : ByteArray) (h : bt t 0 < 128) : oneP t = some (bt t 0, 1) := by unfold oneP; rw [if_pos h]
theorem pos_plain (t : ByteArray) (h : ∀ i, bt t i < 128) (k : Nat) (hk : k ≤ t.size) : posR t k = k := by
  induction k with
  | zero => rfl
  | succ k ih =>
    have h1 := ih (by omega)
    rw [posR_succ t k (by omega), h1]
    unfold nextR
    rw [one_plain _ (by rw [bt_restB]; exact h _)]; rfl
theorem count_plain (t : ByteArray) (h : ∀ i, bt t i < 128) : countR t = t.size := by
  refine count_unique _ _ (fun j hj => ?_) (pos_plain t h _ (Nat.le_refl _))
  rw [pos_plain t h j (by omega)]; exact hj
/-! ### Tails. -/
theorem bt_mk1 (a : UInt8) (i : Nat) : bt ⟨#[a]⟩ i = if i = 0 then a.toNat else 0 := by
  match i with
  | 0 => rfl
  | n + 1 => rfl
theorem bt_mk2 (a b : UInt8) (i : Nat) : bt ⟨#[a, b]⟩ i = if i = 0 then a.toNat else if i = 1 then b.toNat else 0 := by
  match i with
  | 0 => rfl
  | 1 => rfl
  | n + 2 => rfl
theorem u8_of (n : Nat) (h : n < 256) : (UInt8.ofNat n).toNat = n := by simp [Nat.mod_eq_of_lt h]
theorem tail_small (k : Nat) (h : k < 10) : (tailB k).size = 2 ∧ bt (tailB k) 0 = 126 ∧ bt (tailB k) 1 = 48 + k := by
  unfold tailB decB
  rw [if_pos h]
  refine ⟨rfl, ?_, ?_⟩
  · rw [bt_append_left _ _ _ (by decide)]; rfl
  · have := bt_append_right ⟨#[126]⟩ ⟨#[UInt8.ofNat (48 + k)]⟩ 0
    rw [bt_mk1, if_pos rfl, u8_of _ (by omega)] at this
    exact this
theorem tail_great (k : Nat) (h : ¬ k < 10) (h2 : k < 100) : (tailB k).size = 3 ∧ bt (tailB k) 0 = 126 ∧ bt (tailB k) 1 = 48 + k / 10 ∧ bt (tailB k) 2 = 48 + k % 10 := by
  unfold tailB decB
  rw [if_neg h]
  refine ⟨rfl, ?_, ?_, ?_⟩
  · rw [bt_append_left _ _ _ (by decide)]; rfl
  · have := bt_append_right ⟨#[126]⟩ ⟨#[UInt8.ofNat (48 + k / 10), UInt8.ofNat (48 + k % 10)]⟩ 0
    rw [bt_mk2, if_pos rfl, u8_of _ (by omega)] at this
    exact this
  · have := bt_append_right ⟨#[126]⟩ ⟨#[UInt8.ofNat (48 + k / 10), UInt8.ofNat (48 + k % 10)]⟩ 1
    rw [bt_mk2, if_neg (by decide), if_pos rfl, u8_of _ (by omega)] at this
    exact this
theorem bt_end (D t : ByteArray) (d : Nat) (h : d < t.size) : bt (D ++ t) ((D ++ t).size - 1 - d) = bt t (t.size - 1 - d) := by
  have e : (D ++ t).size - 1 - d = D.size + (t.size - 1 - d) := by rw [ByteArray.size_append]; omega
  rw [e, bt_append_right]
theorem cand_inj (s : ByteArray) (j k : Nat) (hj : j < 100) (hk : k < 100) (h : candB s j = candB s k) : j = k := by
  have e0 : ∀ d, d < 2 → bt (tailB j) ((tailB j).size - 1 - d) = bt (tailB k) ((tailB k).size - 1 - d) := by
    intro d hd
    have hsj : d < (tailB j).size := by
      by_cases c : j < 10
      · rw [(tail_small j c).1]; omega
      · rw [(tail_great j c hj).1]; omega
    have hsk : d < (tailB k).size := by
      by_cases c : k < 10
      · rw [(tail_small k c).1]; omega
      · rw [(tail_great k c hk).1]; omega
    have h1 := bt_end (cutR s (32 - (tailB j).size)) (tailB j) d hsj
    have h2 := bt_end (cutR s (32 - (tailB k).size)) (tailB k) d hsk
    have e1 : cutR s (32 - (tailB j).size) ++ tailB j = cutR s (32 - (tailB k).size) ++ tailB k := h
    rw [← h1, ← h2, e1]
  have a0 := e0 0 (by decide)
  have a1 := e0 1 (by decide)
  by_cases cj : j < 10
  · obtain ⟨js, j0, j1⟩ := tail_small j cj
    rw [js] at a0 a1
    by_cases ck : k < 10
    · obtain ⟨ks, k0, k1⟩ := tail_small k ck
      rw [ks] at a0
      rw [show 2 - 1 - 0 = 1 by omega, j1, k1] at a0
      omega
    · obtain ⟨ks, k0, k1, k2⟩ := tail_great k ck hk
      rw [ks, show 2 - 1 - 1 = 0 by omega, show 3 - 1 - 1 = 1 by omega, j0, k1] at a1
      omega
  · obtain ⟨js, j0, j1, j2⟩ := tail_great j cj hj
    rw [js] at a0 a1
    by_cases ck : k < 10
    · obtain ⟨ks, k0, k1⟩ := tail_small k ck
      rw [ks, show 2 - 1 - 1 = 0 by omega, show 3 - 1 - 1 = 1 by omega, j1, k0] at a1
      omega
    · obtain ⟨ks, k0, k1, k2⟩ := tail_great k ck hk
      rw [ks, show 3 - 1 - 0 = 2 by omega, j2, k2] at a0
      rw [ks, show 3 - 1 - 1 = 1 by omega, j1, k1] at a1
      omega
/-! ### A name that is not there yet. -/
theorem as_many (f : Nat → ByteArray) (m : Nat) : ∀ (O : List ByteArray), (∀ i j, i < m → j < m → f i = f j → i = j) → (∀ i, i < m → f i ∈ O) → m ≤ O.length := by
  induction m with
  | zero => intro O _ _; exact Nat.zero_le _
  | succ m ih =>
    intro O hinj hmem
    obtain ⟨l1, l2, rfl⟩ := List.append_of_mem (hmem m (by omega))
    have h := ih (l1 ++ l2) (fun i j hi hj => hinj i j (by omega) (by omega)) (fun i hi => by
      have h1 := hmem i (by omega)
      rw [List.mem_append, List.mem_cons] at h1
      rw [List.mem_append]
      rcases h1 with h1 | h1 | h1
      · exact Or.inl h1
      · have := hinj i m (by omega) (by omega) h1; omega
      · exact Or.inr h1)
    rw [List.length_append] at h ⊢
    rw [List.length_cons]; omega
theorem pick_in (O : List ByteArray) (s : ByteArray) (f k : Nat) (cur : ByteArray) (h : pickN O s f k cur ∈ O) : cur ∈ O := by
  by_cases hc : cur ∈ O
  · exact hc
  · rw [pickN_stop _ _ _ _ _ hc] at h; exact h
theorem pick_all (O : List ByteArray) (s : ByteArray) (f : Nat) : ∀ (k : Nat) (cur : ByteArray), pickN O s f k cur ∈ O → ∀ j, j < f → candB s (k + j) ∈ O := by
  induction f with
  | zero => intro k cur _ j hj; omega
  | succ f ih =>
    intro k cur h j hj
    have hc := pick_in _ _ _ _ _ h
    rw [pickN_more _ _ _ _ _ hc] at h
    by_cases hj0 : j = 0
    · subst hj0; exact pick_in _ _ _ _ _ h
    · have := ih (k + 1) (candB s k) h (j - 1) (by omega)
      rw [show k + 1 + (j - 1) = k + j by omega] at this
      exact this
theorem pick_new (O : List ByteArray) (s : ByteArray) (n : Nat) (hO : O.length ≤ n) (hn : n ≤ 90) : ¬ pickN O s (n + 1) 2 s ∈ O := by
  intro h
  have := as_many (fun i => candB s (2 + i)) (n + 1) O (fun i j hi hj e => by
    have := cand_inj s (2 + i) (2 + j) (by omega) (by omega) e
    omega) (pick_all O s (n + 1) 2 s h)
  omega
/-- What is picked: the text itself, or one of those that are made of it. -/
theorem pick_of (O : List ByteArray) (s : ByteArray) (f : Nat) : ∀ (k : Nat) (cur : ByteArray), pickN O s f k cur = cur ∨ ∃ j, k ≤ j ∧ j < k + f ∧ pickN O s f k cur = candB s j := by
  induction f with
  | zero => intro k cur; exact Or.inl rfl
  | succ f ih =>
    intro k cur
    by_cases hc : cur ∈ O
    · rw [pickN_more _ _ _ _ _ hc]
      rcases ih (k + 1) (candB s k) with h | ⟨j, h1, h2, h3⟩
      · exact Or.inr ⟨k, Nat.le_refl _, by omega, h⟩
      · exact Or.inr ⟨j, by omega, by omega, h3⟩
    · exact Or.inl (pickN_stop _ _ _ _ _ hc)
theorem dist_at (l : List ByteArray) (n i : Nat) (h : i < n) : strL (distF l n) i = pickN (distF l i) (strL l i) (l.length + 1) 2 (strL l i) := by
  induction n with
  | zero => omega
  | succ n ih =>
    rw [distF_succ]
    unfold strL at ih ⊢
    by_cases e : i = n
    · subst e
      rw [List.getD_eq_getElem?_getD, List.getElem?_append_right (by rw [distF_length]; exact Nat.le_refl _), distF_length, Nat.sub_self]; rfl
    · rw [List.getD_eq_getElem?_getD, List.getElem?_append_left (by rw [distF_length]; omega), ← List.getD_eq_getElem?_getD]
      exact ih (by omega)
theorem dist_front (l : List ByteArray) (n i k : Nat) (h : i ≤ n) (hk : k < i) : strL (distF l i) k = strL (distF l n) k := by
  rw [dist_at l i k hk, dist_at l n k (by omega)]
theorem dist_apart (l : List ByteArray) (n i k : Nat) (hl : l.length = n) (hn : n ≤ 90) (hi : i < n) (hk : k < i) : strL (distF l n) k ≠ strL (distF l n) i := by
  intro e
  have h1 := pick_new (distF l i) (strL l i) l.length (by rw [distF_length]; omega) (by omega)
  rw [← dist_at l n i hi, ← e, ← dist_front l n i k (by omega) hk] at h1
  exact h1 ((strL_mem _ _).2 ⟨k, by rw [distF_length]; exact hk, rfl⟩)
/-! ### Names stay names. -/
end Go.Proofs.YtebnmghjdoblaaaGreatDoor
