import Derived.Test.YtkmdajenbidaaaaDoorR8
import Derived.Lib.ValidLaws
import Derived.Laws.RangeAny
import Derived.Test.YtkmdajenbidaaaaDoorBA
import Derived.Test.YtkmdajenbidaaaaDoorShelf
/- Runes of beginnings, and of two texts: plain. -/
namespace Go.Proofs.YtkmdajenbidaaaaDoor
open Go.RowKit
set_option maxRecDepth 100000
set_option linter.unusedSimpArgs false

theorem accR_agree (u t : ByteArray) (x n : Nat) (h : ∀ i, i ≤ n → bt u i = bt t i) : accR u x n = accR t x n := by
  induction n with
  | zero => rfl
  | succ n ih => rw [accR_succ, accR_succ, ih (fun i hi => h i (by omega)), h (n + 1) (by omega)]

theorem tail_agree (u t : ByteArray) (n least x0 x k : Nat) (h : oneTail u n least x0 = some (x, k)) (hs : k ≤ t.size) (hb : ∀ i, i < k → bt u i = bt t i) : oneTail t n least x0 = some (x, k) := by
  unfold oneTail at h
  split at h
  · rename_i hc
    have e := Option.some.inj h
    have ek : n + 1 = k := congrArg Prod.snd e
    have ex : accR u x0 n = x := congrArg Prod.fst e
    have ea : accR t x0 n = accR u x0 n := (accR_agree u t x0 n (fun i hi => hb i (by omega))).symm
    have hct : contAll t n := fun i hi => by
      have := hc.1 i hi
      unfold contB at this ⊢
      rw [hb (i + 1) (by omega)] at this
      exact ⟨by omega, this.2⟩
    unfold oneTail
    rw [ea, if_pos ⟨hct, hc.2⟩, ex, ek]
  · cases h

/-- A rune is told by its bytes. -/
theorem oneP_agree (u t : ByteArray) (x k : Nat) (h : oneP u = some (x, k)) (hs : k ≤ t.size) (hb : ∀ i, i < k → bt u i = bt t i) : oneP t = some (x, k) := by
  have hk : 1 ≤ k := by have := oneP_pos u; rw [h] at this; exact this
  have h0 := hb 0 (by omega)
  unfold oneP at h ⊢
  rw [h0] at h
  by_cases c1 : bt t 0 < 128
  · rw [if_pos c1] at h ⊢; exact h
  · rw [if_neg c1] at h ⊢
    by_cases c2 : 194 ≤ bt t 0 ∧ bt t 0 ≤ 223
    · rw [if_pos c2] at h ⊢; exact tail_agree u t _ _ _ _ _ h hs hb
    · rw [if_neg c2] at h ⊢
      by_cases c3 : 224 ≤ bt t 0 ∧ bt t 0 ≤ 239
      · rw [if_pos c3] at h ⊢; exact tail_agree u t _ _ _ _ _ h hs hb
      · rw [if_neg c3] at h ⊢
        by_cases c4 : 240 ≤ bt t 0 ∧ bt t 0 ≤ 244
        · rw [if_pos c4] at h ⊢; exact tail_agree u t _ _ _ _ _ h hs hb
        · rw [if_neg c4] at h; cases h

theorem bt_restB (s : ByteArray) (p i : Nat) : bt (restB s p) i = bt s (p + i) := bt_rest s p i

theorem count_unique (s : ByteArray) (k : Nat) (h1 : ∀ j, j < k → posR s j < s.size) (h2 : posR s k = s.size) : countR s = k := by
  have h := count_split s k (by
    by_cases hk : k = 0
    · exact Or.inr (Or.inl hk)
    · exact Or.inr (Or.inr (h1 (k - 1) (by omega))))
  rw [leftR_end s _ (by omega)] at h
  omega

/-! ### Beginnings. -/

theorem front_size (s : ByteArray) (c : Nat) (h : c ≤ s.size) : (s.extract 0 c).size = c := by rw [ByteArray.size_extract]; omega

theorem front_bt (s : ByteArray) (c i : Nat) (h : c ≤ s.size) (hi : i < c) : bt (s.extract 0 c) i = bt s i := by rw [bt_extract s 0 c i (by omega) h, Nat.zero_add]

theorem one_front (s : ByteArray) (c p : Nat) (hc : c ≤ s.size) (hp : p < c) (hn : nextR s p ≤ c) : oneP (restB (s.extract 0 c) p) = oneP (restB s p) := by
  cases h : oneP (restB s p) with
  | some r =>
    obtain ⟨x, k⟩ := r
    have hk : nextR s p = p + k := by unfold nextR; rw [h]; rfl
    refine oneP_agree _ _ x k h (by rw [restB_size, front_size s c hc]; omega) (fun i hi => ?_)
    rw [bt_restB, bt_restB, front_bt s c _ hc (by omega)]
  | none =>
    cases h' : oneP (restB (s.extract 0 c) p) with
    | none => rfl
    | some r =>
      obtain ⟨x, k⟩ := r
      have hk : k ≤ c - p := by
        have := oneP_le (restB (s.extract 0 c) p) (by rw [restB_size, front_size s c hc]; omega)
        rw [h', restB_size, front_size s c hc] at this
        exact this
      have := oneP_agree _ (restB s p) x k h' (by rw [restB_size]; omega) (fun i hi => by rw [bt_restB, bt_restB, front_bt s c _ hc (by omega)])
      rw [h] at this; cases this

theorem pos_mono (s : ByteArray) (j k : Nat) (h : j ≤ k) : posR s j ≤ posR s k := by
  obtain ⟨d, rfl⟩ : ∃ d, k = j + d := ⟨k - j, by omega⟩
  clear h
  induction d with
  | zero => exact Nat.le_refl _
  | succ d ih =>
    rw [show j + (d + 1) = j + d + 1 by omega]
    by_cases h : posR s (j + d) < s.size
    · rw [posR_succ s _ h]; have := nextR_gt s (posR s (j + d)); omega
    · rw [posR_stop s _ h]; exact ih

theorem pos_front (s : ByteArray) (n j : Nat) (hn : n ≤ countR s) (hj : j ≤ n) : posR (s.extract 0 (posR s n)) j = posR s j := by
  have hc := posR_le s n
  induction j with
  | zero => rfl
  | succ j ih =>
    have h1 := ih (by omega)
    have h2 := pos_before s j (by omega)
    have h3 := posR_succ s j h2
    have h4 := nextR_gt s (posR s j)
    have h5 := pos_mono s (j + 1) n hj
    rw [posR_succ _ j (by rw [h1, front_size s _ hc]; omega), h1, h3]
    unfold nextR
    rw [one_front s _ _ hc (by omega) (by omega)]

/-- The first n runes are n, if there are so many. -/
theorem count_cut (s : ByteArray) (n : Nat) : countR (cutR s n) = min n (countR s) := by
  unfold cutR
  by_cases h : n ≤ countR s
  · rw [Nat.min_eq_left h]
    have hc := posR_le s n
    refine count_unique _ _ (fun j hj => ?_) ?_
    · rw [pos_front s n j h (by omega), front_size s _ hc]
      have h2 := pos_before s j (by omega)
      have h3 := posR_succ s j h2
      have h4 := nextR_gt s (posR s j)
      have h5 := pos_mono s (j + 1) n (by omega)
      omega
    · rw [pos_front s n n h (Nat.le_refl _), front_size s _ hc]
  · have hp : posR s n = s.size := by
      obtain ⟨d, rfl⟩ : ∃ d, n = countR s + d := ⟨n - countR s, by omega⟩
      rw [posR_stay s _ d (by rw [pos_count]; omega), pos_count]
    rw [hp, Nat.min_eq_right (by omega)]
    have : s.extract 0 s.size = s := restB_zero s
    rw [this]

/-! ### Two texts. -/

/-- All runes are of UTF-8. -/
def AllR (s : ByteArray) : Prop := ∀ k, k < countR s → ∃ r, oneP (restB s (posR s k)) = some r

theorem NameP.all {s : ByteArray} (h : NameP s) : AllR s := fun k hk => by
  have := h.2.1 k hk
  unfold runeAt at this
  cases hq : oneP (restB s (posR s k)) with
  | some r => exact ⟨r, rfl⟩
  | none => rw [hq] at this; exact absurd this.1 (by decide)

theorem one_two (a b : ByteArray) (p x k : Nat) (hp : p < a.size) (h : oneP (restB a p) = some (x, k)) : oneP (restB (a ++ b) p) = some (x, k) := by
  have hk : k ≤ a.size - p := by
    have := oneP_le (restB a p) (by rw [restB_size]; omega)
    rw [h, restB_size] at this; exact this
  refine oneP_agree _ _ x k h (by rw [restB_size, ByteArray.size_append]; omega) (fun i hi => ?_)
  rw [bt_restB, bt_restB, bt_append_left _ _ _ (by omega)]

theorem pos_first (a b : ByteArray) (ha : AllR a) (j : Nat) (hj : j ≤ countR a) : posR (a ++ b) j = posR a j := by
  induction j with
  | zero => rfl
  | succ j ih =>
    have h1 := ih (by omega)
    have h2 := pos_before a j (by omega)
    obtain ⟨⟨x, k⟩, hr⟩ := ha j (by omega)
    rw [posR_succ _ j (by rw [h1, ByteArray.size_append]; omega), posR_succ a j h2, h1]
    unfold nextR
    rw [one_two a b _ x k h2 hr, hr]

theorem restB_two (a b : ByteArray) (p : Nat) : restB (a ++ b) (a.size + p) = restB b p := by
  apply bt_ext
  · rw [restB_size, restB_size, ByteArray.size_append]; omega
  · intro i _; rw [bt_restB, bt_restB, Nat.add_assoc, bt_append_right]

theorem pos_second (a b : ByteArray) (ha : AllR a) (j : Nat) : posR (a ++ b) (countR a + j) = a.size + posR b j := by
  induction j with
  | zero => rw [Nat.add_zero, pos_first a b ha _ (Nat.le_refl _), pos_count]; rfl
  | succ j ih =>
    rw [show countR a + (j + 1) = countR a + j + 1 by omega]
    by_cases h : posR b j < b.size
    · rw [posR_succ _ _ (by rw [ih, ByteArray.size_append]; omega), posR_succ b j h, ih]
      unfold nextR
      rw [restB_two]; omega
    · rw [posR_stop _ _ (by rw [ih, ByteArray.size_append]; omega), posR_stop b j h, ih]

theorem count_two (a b : ByteArray) (ha : AllR a) : countR (a ++ b) = countR a + countR b := by
  refine count_unique _ _ (fun j hj => ?_) ?_
  · rw [ByteArray.size_append]
    by_cases h : j < countR a
    · rw [pos_first a b ha j (by omega)]
      have := pos_before a j h; omega
    · obtain ⟨d, rfl⟩ : ∃ d, j = countR a + d := ⟨j - countR a, by omega⟩
      rw [pos_second a b ha d]
      have := pos_before b d (by omega); omega
  · rw [pos_second a b ha, pos_count, ByteArray.size_append]

theorem cut_two (a b : ByteArray) (ha : AllR a) : cutR (a ++ b) (countR a) = a := by
  unfold cutR
  rw [pos_first a b ha _ (Nat.le_refl _), pos_count]
  refine bt_ext _ _ (front_size _ _ (by rw [ByteArray.size_append]; omega)) (fun i hi => ?_)
  rw [front_size _ _ (by rw [ByteArray.size_append]; omega)] at hi
  rw [front_bt _ _ _ (by rw [ByteArray.size_append]; omega) hi, bt_append_left _ _ _ hi]

theorem rune_first (a b : ByteArray) (ha : AllR a) (j : Nat) (hj : j < countR a) : runeAt (a ++ b) (posR (a ++ b) j) = runeAt a (posR a j) := by
  obtain ⟨⟨x, k⟩, hr⟩ := ha j hj
  rw [pos_first a b ha j (by omega)]
  unfold runeAt
  rw [one_two a b _ x k (pos_before a j hj) hr, hr]

theorem rune_second (a b : ByteArray) (ha : AllR a) (j : Nat) : runeAt (a ++ b) (posR (a ++ b) (countR a + j)) = runeAt b (posR b j) := by
  rw [pos_second a b ha j]
  unfold runeAt
  rw [restB_two]

end Go.Proofs.YtkmdajenbidaaaaDoor

/- Texts of UTF-8 alone, as the language's own package tells them: plain. -/
namespace Go.Proofs.YtkmdajenbidaaaaDoor
open Go.RowKit
set_option maxRecDepth 100000
set_option linter.unusedSimpArgs false

theorem one_single (t : ByteArray) (x : Nat) (h : oneP t = some (x, 1)) : x < 128 := by
  have ht : ∀ n least y, 1 ≤ n → oneTail t n least y ≠ some (x, 1) := by
    intro n least y hn e
    unfold oneTail at e
    split at e
    · have := congrArg Prod.snd (Option.some.inj e)
      have : n + 1 = 1 := this
      omega
    · cases e
  unfold oneP at h
  split at h
  · have := congrArg Prod.fst (Option.some.inj h)
    have : bt t 0 = x := this
    omega
  · split at h
    · exact absurd h (ht _ _ _ (by decide))
    · split at h
      · exact absurd h (ht _ _ _ (by decide))
      · split at h
        · exact absurd h (ht _ _ _ (by decide))
        · cases h

theorem rune_bad (t : ByteArray) : ((runeOf (oneP t)).1 = 65533 ∧ (runeOf (oneP t)).2 = 1) ↔ oneP t = none := by
  cases h : oneP t with
  | none => exact ⟨fun _ => rfl, fun _ => ⟨rfl, rfl⟩⟩
  | some r =>
    obtain ⟨x, k⟩ := r
    constructor
    · rintro ⟨h1, h2⟩
      have e1 : x = 65533 := h1
      have e2 : k = 1 := h2
      subst e2
      have := one_single t x h
      omega
    · intro h; cases h

theorem runeOf_k (o : Option (Nat × Nat)) : (runeOf o).2 = runeK o := by cases o <;> rfl

theorem decode_rest (s : ByteArray) (p : Nat) (h : p ≤ s.size) : Utf8.decode s p = runeOf (oneP (restB s p)) := decode_one s p h

theorem valid_from (s : ByteArray) (d : Nat) : ∀ k, countR s = k + d → (Lib.validD (s.data.toList.drop (posR s k)) = true ↔ ∀ j, k ≤ j → j < countR s → oneP (restB s (posR s j)) ≠ none) := by
  induction d with
  | zero =>
    intro k hk
    rw [show k = countR s by omega, pos_count]
    have : s.data.toList.drop s.size = [] := List.drop_eq_nil_of_le (by rw [Array.length_toList]; exact Nat.le_refl _)
    rw [this, Lib.validD_nil]
    exact ⟨fun _ j h1 h2 => by omega, fun _ => rfl⟩
  | succ d ih =>
    intro k hk
    have hp := pos_before s k (by omega)
    have hne : s.data.toList.drop (posR s k) ≠ [] := by
      intro e
      have := congrArg List.length e
      rw [List.length_drop, Array.length_toList] at this
      have hz : s.data.size = s.size := rfl
      rw [hz, List.length_nil] at this
      omega
    rw [Lib.validD_step _ hne, Lib.decodeL_drop, decode_rest s _ (by omega)]
    by_cases hb : oneP (restB s (posR s k)) = none
    · rw [if_pos ((rune_bad _).2 hb)]
      exact ⟨fun h => (by cases h), fun h => absurd hb (h k (Nat.le_refl _) (by omega))⟩
    · rw [if_neg (fun h => hb ((rune_bad _).1 h)), List.drop_drop, runeOf_k]
      have e : posR s k + runeK (oneP (restB s (posR s k))) = posR s (k + 1) := (posR_succ s k hp).symm
      rw [e, ih (k + 1) (by omega)]
      refine Iff.intro ?_ ?_
      · intro h j h1 h2
        by_cases c : j = k
        · subst c; exact hb
        · exact h j (by omega) h2
      · intro h j h1 h2; exact h j (by omega) h2

/-- UTF-8 alone. -/
theorem valid_all (s : ByteArray) : Lib.validD s.data.toList = true ↔ ∀ j, j < countR s → oneP (restB s (posR s j)) ≠ none := by
  have := valid_from s (countR s) 0 (by omega)
  rw [posR_zero, List.drop_zero] at this
  rw [this]
  exact ⟨fun h j hj => h j (Nat.zero_le _) hj, fun h j _ hj => h j hj⟩

/-- The rune of a place of UTF-8. -/
theorem rune_of (s : ByteArray) (p : Nat) (h : oneP (restB s p) ≠ none) : ((runeOf (oneP (restB s p))).1 : Int) = runeAt s p := by
  unfold runeAt
  cases hq : oneP (restB s p) with
  | none => exact absurd hq h
  | some r => obtain ⟨x, k⟩ := r; rfl

theorem cut_same (s : ByteArray) (n : Nat) : cutR s n = s ↔ countR s ≤ n := by
  constructor
  · intro h
    have h1 := count_cut s n
    rw [h] at h1
    omega
  · intro h
    unfold cutR
    have hp : posR s n = s.size := by
      obtain ⟨d, rfl⟩ : ∃ d, n = countR s + d := ⟨n - countR s, by omega⟩
      rw [posR_stay s _ d (by rw [pos_count]; omega), pos_count]
    rw [hp]
    exact restB_zero s

/-- The first byte, and the last one, as a text. -/
theorem one_text (a : ByteArray) (x : UInt8) (h : a.size = 1) : a = ⟨#[x]⟩ ↔ bt a 0 = x.toNat := by
  constructor
  · intro e; rw [e]; rfl
  · intro e
    refine bt_ext _ _ (by rw [h]; rfl) (fun i hi => ?_)
    rw [h] at hi
    obtain rfl : i = 0 := by omega
    rw [e]; rfl

theorem front_one (s : ByteArray) (h : 0 < s.size) (x : UInt8) : s.extract 0 1 = ⟨#[x]⟩ ↔ bt s 0 = x.toNat := by
  rw [one_text _ x (by rw [ByteArray.size_extract]; omega), bt_extract s 0 1 0 (by omega) (by omega)]

theorem last_one (s : ByteArray) (h : 0 < s.size) (x : UInt8) : s.extract (s.size - 1) s.size = ⟨#[x]⟩ ↔ bt s (s.size - 1) = x.toNat := by
  rw [one_text _ x (by rw [ByteArray.size_extract]; omega), bt_extract s (s.size - 1) s.size 0 (by omega) (Nat.le_refl _), Nat.add_zero]

end Go.Proofs.YtkmdajenbidaaaaDoor

/- The code's Count, Cut, let. -/
namespace Go.Proofs.YtkmdajenbidaaaaDoor
open Go.RowKit
set_option maxRecDepth 100000
set_option linter.unusedSimpArgs false

theorem next_rune (w : World) (s : ByteArray) (p : Nat) (h : p < s.size) (ty : TypeId) :
    (Instr.next (.pointer (some ⟨w.heap.size, 0, none⟩)) true ty).run Tryd.prog (w.iter s p) = .ok (.tuple #[.bool true, .int .i64 p, .int .i32 ((runeOf (oneP (restB s p))).1 : Int)]) (w.iter s (nextR s p)) := by
  have := run_next_any (P := Tryd.prog) w s p ty h
  rw [decode_rest s p (by omega), runeOf_k] at this
  exact this

theorem runeOf_le (t : ByteArray) : (runeOf (oneP t)).1 ≤ 1114111 := by
  have ht : ∀ n least y, (runeOf (oneTail t n least y)).1 ≤ 1114111 := by
    intro n least y
    unfold oneTail
    split
    · rename_i hc; exact hc.2.2.1
    · decide
  unfold oneP
  split
  · show bt t 0 ≤ _; omega
  · split
    · exact ht _ _ _
    · split
      · exact ht _ _ _
      · split
        · exact ht _ _ _
        · decide

set_option maxRecDepth 100000 in
set_option maxHeartbeats 1000000 in
theorem ncut_any (s : ByteArray) (n : Int) (w : World) (_hs : s.size ≤ 1048576) (hn : n ≤ 9223372036854775807) :
    Calls Tryd.prog 61 #[.string s, .int .i64 n] w fun e w' => e = .returned (.string (cutR s n.toNat)) ∧ Below w.heap.size w w' := by
  obtain ⟨E, HE⟩ : ∃ E, Hid (E = cutR s n.toNat) := ⟨_, rfl⟩
  rw [← HE.out]
  go_enter Tryd.func61, Tryd.ntmps61
  go_wp2
  go_loopw [1] (fun m w' => ∃ k p : Nat, ∃ d : Int, Hid (p = posR s k) ∧ Hid (cutR s n.toNat = cutR s (k + d.toNat)) ∧ p ≤ s.size ∧ d ≤ 9223372036854775807 ∧ w' = w.iter s p ∧ m = .int .i64 d) (fun _ w' => s.size - w'.iterPos w.heap.size)
  case atStart => exact ⟨0, 0, n, rfl, by show _ = _; rw [Nat.zero_add], Nat.zero_le _, hn, rfl, rfl⟩
  case round =>
    obtain ⟨k, p, d, HP, HC, hps, hdm, rfl, rfl⟩ := hrel
    by_cases hp : p < s.size
    · have HP' : Hid (nextR s p = posR s (k + 1)) := by show _ = _; rw [posR_succ s k (by rw [← HP.out]; exact hp), ← HP.out]
      have hgt := nextR_gt s p
      have hle := nextR_le s p hp
      have hnx0 := next_rune w s p hp
      generalize nextR s p = p' at *
      generalize ((runeOf (oneP (restB s p))).1 : Int) = X at *
      have hnx : ∀ ty, (Instr.next (.pointer (some ⟨w.heap.size, 0, none⟩)) true ty).run Tryd.prog (w.iter s p) = .ok (.tuple #[.bool true, .int .i64 p, .int .i32 X]) (w.iter s p') := hnx0
      clear hnx0
      have hpi : (p : Int) ≤ (s.size : Int) := by omega
      by_cases hd : d < 1
      · have q0 : decide (d < 1) = true := decide_eq_true hd
        have hEE : s.extract 0 p = E := by
          rw [HE.out, HC.out, show d.toNat = 0 by omega, Nat.add_zero, HP.out]; rfl
        go_wp2
        go_ret
        exact ⟨rfl, below_new w _⟩
      · have q0 : decide (d < 1) = false := decide_eq_false hd
        have HC' : Hid (cutR s n.toNat = cutR s (k + 1 + (d - 1).toNat)) := by show _ = _; rw [HC.out, show k + 1 + (d - 1).toNat = k + d.toNat by omega]
        go_wp2
        go_roundw
        case rel => exact ⟨k + 1, p', d - 1, HP', HC', hle, by omega, rfl, by go_num⟩
        case measure => simp; omega
    · have hnx : ∀ ty, (Instr.next (.pointer (some ⟨w.heap.size, 0, none⟩)) true ty).run Tryd.prog (w.iter s p) = _ := fun ty => run_next_end w s p ty hp
      have HEE : Hid (s = E) := by
        show s = E
        have hks : ¬ posR s k < s.size := by rw [← HP.out]; exact hp
        have e : posR s (k + d.toNat) = s.size := by
          rw [posR_stay s k _ hks]; have := posR_le s k; omega
        rw [HE.out, HC.out]
        unfold cutR
        rw [e]
        exact (restB_zero s).symm
      go_wp2
      go_ret
      exact ⟨by rw [← HEE.out]; rfl, below_new w _⟩

theorem let_any (x : Int) (w : World) (D : Bool) (hD : D = true ↔ goodX x) :
    Calls Tryd.prog 64 #[.int .i32 x] w fun e w' => e = .returned (.bool D) ∧ w' = w := by
  unfold goodX at hD
  by_cases h1 : 32 ≤ x
  · have g1 : decide ((32 : Int) ≤ x) = true := decide_eq_true h1
    by_cases h2 : x = 47
    · obtain rfl : D = false := by cases D with | false => rfl | true => exact absurd h2 (hD.1 rfl).2.1
      subst h2
      go_enter Tryd.func64, Tryd.ntmps64
      go_wp2
      go_ret
      exact ⟨rfl, rfl⟩
    · have g2 : (x != 47) = true := by rw [bne_iff_ne]; exact h2
      have g2' : (x == 47) = false := by rw [beq_eq_false_iff_ne]; exact h2
      by_cases h3 : x < 127
      · have g3 : decide (x < 127) = true := decide_eq_true h3
        obtain rfl : D = true := hD.2 ⟨h1, h2, by omega⟩
        clear hD
        go_enter Tryd.func64, Tryd.ntmps64
        go_wp2
        go_ret
        exact ⟨rfl, rfl⟩
      · have g3 : decide (x < 127) = false := decide_eq_false h3
        by_cases h4 : 159 < x
        · have g4 : decide (159 < x) = true := decide_eq_true h4
          obtain rfl : D = true := hD.2 ⟨h1, h2, by omega⟩
          clear hD
          go_enter Tryd.func64, Tryd.ntmps64
          go_wp2
          go_ret
          exact ⟨rfl, rfl⟩
        · have g4 : decide (159 < x) = false := decide_eq_false h4
          obtain rfl : D = false := by cases D with | false => rfl | true => exact absurd ⟨by omega, by omega⟩ (hD.1 rfl).2.2
          clear hD
          go_enter Tryd.func64, Tryd.ntmps64
          go_wp2
          go_ret
          exact ⟨rfl, rfl⟩
  · have g1 : decide ((32 : Int) ≤ x) = false := decide_eq_false h1
    obtain rfl : D = false := by cases D with | false => rfl | true => exact absurd (hD.1 rfl).1 h1
    clear hD
    go_enter Tryd.func64, Tryd.ntmps64
    go_wp2
    go_ret
    exact ⟨rfl, rfl⟩

set_option maxHeartbeats 1000000 in
theorem front_any (s p T : ByteArray) (D : Bool) (w : World) (hs : s.size ≤ 1048576) (h0 : 0 < s.size) (hp : p.size = 1) (hT : s.extract 0 1 = T) (hD : (T.toList == p.toList) = D) :
    Calls Tryd.prog 62 #[.string s, .string p] w fun e w' => e = .returned (.bool D) ∧ w' = w := by
  have C : Hid (∀ w, Calls Tryd.prog 66 #[.string s, .string p] w fun e w' => e = .returned (.bool D) ∧ w' = w) := by
    show ∀ w, _
    intro w
    have g1 : decide ((1 : Int) ≤ (s.size : Int)) = true := by simp; omega
    have g2 : (1 : Int) ≤ (s.size : Int) := by omega
    go_enter Tryd.func66, Tryd.ntmps66
    go_wp2
    go_ret
    exact ⟨rfl, rfl⟩
  go_enter Tryd.func62, Tryd.ntmps62
  go_wp2_with fail
  refine (C.out _).mono ?_
  rintro e w1 ⟨rfl, rfl⟩
  go_wp2_with fail
  go_ret
  exact ⟨rfl, rfl⟩

set_option maxHeartbeats 1000000 in
theorem back_any (s p T : ByteArray) (D : Bool) (w : World) (m : Nat) (hs : s.size ≤ 1048576) (h0 : s.size = m + 1) (hp : p.size = 1) (hT : s.extract m (m + 1) = T) (hD : (T.toList == p.toList) = D) :
    Calls Tryd.prog 63 #[.string s, .string p] w fun e w' => e = .returned (.bool D) ∧ w' = w := by
  have C : Hid (∀ w, Calls Tryd.prog 67 #[.string s, .string p] w fun e w' => e = .returned (.bool D) ∧ w' = w) := by
    show ∀ w, _
    intro w
    have g1 : decide ((1 : Int) ≤ (m : Int) + 1) = true := by simp; omega
    have g2 : (m : Int) + 1 - 1 = (m : Int) := by omega
    have g3 : (m : Int) ≤ (m : Int) + 1 := by omega
    go_enter Tryd.func67, Tryd.ntmps67
    go_wp2
    go_ret
    exact ⟨rfl, rfl⟩
  go_enter Tryd.func63, Tryd.ntmps63
  go_wp2_with fail
  refine (C.out _).mono ?_
  rintro e w1 ⟨rfl, rfl⟩
  go_wp2_with fail
  go_ret
  exact ⟨rfl, rfl⟩

end Go.Proofs.YtkmdajenbidaaaaDoor

/- The code's Check. -/
namespace Go.Proofs.YtkmdajenbidaaaaDoor
open Go.RowKit
set_option maxRecDepth 100000
set_option linter.unusedSimpArgs false

/-- The library's two tables of UTF-8 stand where they must. -/
def Glob8 (w : World) : Prop := Lib.Utf8Tabs 0 1 w

theorem Glob8.below {w w' : World} (h : Glob8 w) (hb : Below w.heap.size w w') : Glob8 w' := by
  refine ⟨fun c hc => ?_, fun i hi => ⟨?_, ?_⟩⟩
  · have := h.1 c hc
    rw [hb.cell (World.block_lt_of_cell? w _ this)]; exact this
  · have := (h.2 i hi).1
    rw [hb.cell (World.block_lt_of_cell? w _ this)]; exact this
  · have := (h.2 i hi).2
    rw [hb.cell (World.block_lt_of_cell? w _ this)]; exact this

theorem valid_any (s : ByteArray) (w : World) (hs : s.size ≤ 1048576) (hG : Glob8 w) :
    Calls Tryd.prog 60 #[.string s] w fun e w' => e = .returned (.bool (Lib.validD s.data.toList)) ∧ Below w.heap.size w w' :=
  Any.utf8_ValidString Tryd.lays196 s w (by omega) hG




set_option maxRecDepth 100000 in
set_option maxHeartbeats 4000000 in
theorem ncheck_any (s : ByteArray) (w : World) (hs : s.size ≤ 1048576) (hG : Glob8 w) :
    Calls Tryd.prog 57 #[.string s] w fun e w' => ∃ x, e = .returned (.int .i64 x) ∧ NameE s x ∧ Below w.heap.size w w' := by
  have CV0 := valid_any s w hs hG
  by_cases hV : Lib.validD s.data.toList = true
  · rw [hV] at CV0
    have CV : Hid (Calls _ _ _ _ _) := CV0
    have HR : Hid (∀ j, j < countR s → oneP (restB s (posR s j)) ≠ none) := (valid_all s).1 hV
    clear CV0 hG hV
    by_cases h3 : s.size = 0
    · have g3 := isEmpty_yes s h3
      have hno : ¬ NameP s := fun h => by have := h.1.2.2.1; omega
      clear h3
      go_enter Tryd.func57, Tryd.ntmps57
      go_wp2_with fail
      refine CV.out.mono ?_
      rintro e w1 ⟨rfl, hb1⟩
      clear CV
      go_wp2_with fail
      go_ret
      exact ⟨80, rfl, .inr ⟨rfl, hno⟩, hb1⟩
    · have g3 := isEmpty_no s h3
      obtain ⟨T, HT⟩ : ∃ T, Hid (T = cutR s 32) := ⟨_, rfl⟩
      have CC0 := fun w => ncut_any s 32 w hs (by decide)
      rw [show (32 : Int).toNat = 32 from rfl, ← HT.out] at CC0
      have CC : Hid (∀ w, _) := CC0
      clear CC0
      by_cases h32 : countR s ≤ 32
      · have hTs : T = s := by rw [HT.out]; exact (cut_same s 32).2 h32
        have q0 : (T.toList != s.toList) = false := by rw [hTs]; simp
        have q0' : (T.toList == s.toList) = true := by rw [hTs]; simp
        clear hTs HT
        by_cases h1 : s.toList = [46]
        · have g1 : (s.toList == [46]) = true := by rw [beq_iff_eq]; exact h1
          have hno : ¬ NameP s := fun h => h.1.1 h1
          clear h1
          go_enter Tryd.func57, Tryd.ntmps57
          go_wp2_with fail
          refine CV.out.mono ?_
          rintro e w1 ⟨rfl, hb1⟩
          clear CV
          go_wp2_with fail
          refine (CC.out _).mono ?_
          rintro e w2 ⟨rfl, hb2⟩
          have hB2 := below_step hb1 (Nat.le_refl _) hb2
          clear CC hb1 hb2
          go_wp2_with fail
          go_ret
          exact ⟨80, rfl, .inr ⟨rfl, hno⟩, hB2⟩
        · have g1 : (s.toList == [46]) = false := by rw [beq_eq_false_iff_ne]; exact h1
          by_cases h2 : s.toList = [46, 46]
          · have g2 : (s.toList == [46, 46]) = true := by rw [beq_iff_eq]; exact h2
            have hno : ¬ NameP s := fun h => h.1.2.1 h2
            clear h2 h1
            go_enter Tryd.func57, Tryd.ntmps57
            go_wp2_with fail
            refine CV.out.mono ?_
            rintro e w1 ⟨rfl, hb1⟩
            clear CV
            go_wp2_with fail
            refine (CC.out _).mono ?_
            rintro e w2 ⟨rfl, hb2⟩
            have hB2 := below_step hb1 (Nat.le_refl _) hb2
            clear CC hb1 hb2
            go_wp2_with fail
            go_ret
            exact ⟨80, rfl, .inr ⟨rfl, hno⟩, hB2⟩
          · have g2 : (s.toList == [46, 46]) = false := by rw [beq_eq_false_iff_ne]; exact h2
            have CP0 := fun w => front_any s ⟨#[32]⟩ (s.extract 0 1) (decide (bt s 0 = 32)) w hs (by omega) rfl rfl (by rw [beq_texts]; exact decide_eq_decide.2 (front_one s (by omega) 32))
            by_cases h4 : bt s 0 = 32
            · rw [decide_eq_true h4] at CP0
              have CP : Hid (∀ w, _) := CP0
              have hno : ¬ NameP s := fun h => h.1.2.2.2.1 h4
              clear CP0 h1 h2 h4
              go_enter Tryd.func57, Tryd.ntmps57
              go_wp2_with fail
              refine CV.out.mono ?_
              rintro e w1 ⟨rfl, hb1⟩
              clear CV
              go_wp2_with fail
              refine (CC.out _).mono ?_
              rintro e w2 ⟨rfl, hb2⟩
              have hB2 := below_step hb1 (Nat.le_refl _) hb2
              clear CC hb1 hb2
              go_wp2_with fail
              refine (CP.out _).mono ?_
              rintro e w3 ⟨rfl, rfl⟩
              clear CP
              go_wp2_with fail
              go_ret
              exact ⟨80, rfl, .inr ⟨rfl, hno⟩, hB2⟩
            · rw [decide_eq_false h4] at CP0
              have CP : Hid (∀ w, _) := CP0
              obtain ⟨m, hm⟩ : ∃ m, s.size = m + 1 := ⟨s.size - 1, by omega⟩
              have CS0 := fun w => back_any s ⟨#[32]⟩ (s.extract m (m + 1)) (decide (bt s (s.size - 1) = 32)) w m hs hm rfl rfl (by
                have := last_one s (by omega) 32
                rw [show s.size - 1 = m by omega, hm] at this
                rw [beq_texts, show s.size - 1 = m by omega]; exact decide_eq_decide.2 this)
              clear hm
              by_cases h5 : bt s (s.size - 1) = 32
              · rw [decide_eq_true h5] at CS0
                have CS : Hid (∀ w, _) := CS0
                have hno : ¬ NameP s := fun h => h.1.2.2.2.2 h5
                clear CP0 CS0 h1 h2 h4 h5
                go_enter Tryd.func57, Tryd.ntmps57
                go_wp2_with fail
                refine CV.out.mono ?_
                rintro e w1 ⟨rfl, hb1⟩
                clear CV
                go_wp2_with fail
                refine (CC.out _).mono ?_
                rintro e w2 ⟨rfl, hb2⟩
                have hB2 := below_step hb1 (Nat.le_refl _) hb2
                clear CC hb1 hb2
                go_wp2_with fail
                refine (CP.out _).mono ?_
                rintro e w3 ⟨rfl, rfl⟩
                clear CP
                go_wp2_with fail
                refine (CS.out _).mono ?_
                rintro e w4 ⟨rfl, rfl⟩
                clear CS
                go_wp2_with fail
                go_ret
                exact ⟨80, rfl, .inr ⟨rfl, hno⟩, hB2⟩
              · rw [decide_eq_false h5] at CS0
                have CS : Hid (∀ w, _) := CS0
                have HB : Hid (BaseP s) := ⟨h1, h2, by omega, h4, h5⟩
                clear CP0 CS0 h1 h2 h4 h5
                go_enter Tryd.func57, Tryd.ntmps57
                go_wp2_with fail
                refine CV.out.mono ?_
                rintro e w1 ⟨rfl, hb1⟩
                clear CV
                go_wp2_with fail
                refine (CC.out _).mono ?_
                rintro e w2 ⟨rfl, hb2⟩
                have hB2 := below_step hb1 (Nat.le_refl _) hb2
                clear CC hb1 hb2
                go_wp2_with fail
                refine (CP.out _).mono ?_
                rintro e w3 ⟨rfl, rfl⟩
                clear CP
                go_wp2_with fail
                refine (CS.out _).mono ?_
                rintro e w4 ⟨rfl, rfl⟩
                clear CS g1 g2 g3 q0 q0'
                go_wp2_with fail
                go_loopw [] (fun wr => ∃ k p : Nat, Hid (p = posR s k) ∧ Hid (∀ j, j < k → goodX (runeAt s (posR s j))) ∧ k ≤ countR s ∧ p ≤ s.size ∧ wr = w4.iter s p) (fun wr => s.size - wr.iterPos w4.heap.size)
                case atStart => exact ⟨0, 0, rfl, fun j hj => absurd hj (Nat.not_lt_zero _), Nat.zero_le _, Nat.zero_le _, rfl⟩
                case round =>
                  obtain ⟨k, p, HP, HK, hkc, hps, rfl⟩ := hrel
                  by_cases hp : p < s.size
                  · have h1 : posR s k < s.size := by rw [← HP.out]; exact hp
                    have hkN : k < countR s := by
                      have h2 := count_split s k (.inl h1)
                      have h3 := leftR_step s _ h1
                      omega
                    have HP' : Hid (nextR s p = posR s (k + 1)) := by show _ = _; rw [posR_succ s k h1, ← HP.out]
                    have hgt := nextR_gt s p
                    have hle := nextR_le s p hp
                    have hnx0 := next_rune w4 s p hp
                    have hX : ((runeOf (oneP (restB s p))).1 : Int) = runeAt s p := rune_of s p (by rw [HP.out]; exact HR.out k hkN)
                    rw [hX] at hnx0
                    have hrk : runeAt s p = runeAt s (posR s k) := by rw [← HP.out]
                    generalize nextR s p = p' at *
                    generalize runeAt s p = X at *
                    have hnx : ∀ ty, (Instr.next (.pointer (some ⟨w4.heap.size, 0, none⟩)) true ty).run Tryd.prog (w4.iter s p) = .ok (.tuple #[.bool true, .int .i64 p, .int .i32 X]) (w4.iter s p') := hnx0
                    clear hnx0 hX h1
                    by_cases hgx : goodX X
                    · have CL : Hid (∀ w, _) := fun w => let_any X w true ⟨fun _ => hgx, fun _ => rfl⟩
                      have HK' : Hid (∀ j, j < k + 1 → goodX (runeAt s (posR s j))) := by
                        show ∀ j, _
                        intro j hj
                        by_cases e : j = k
                        · subst e; rw [← hrk]; exact hgx
                        · exact HK.out j (by omega)
                      clear hgx hrk
                      go_wp2_with fail
                      refine (CL.out _).mono ?_
                      rintro e w5 ⟨rfl, rfl⟩
                      clear CL
                      go_wp2_with fail
                      refine ⟨⟨k + 1, p', HP', HK', hkN, hle, by first | rfl | trivial⟩, ?_⟩
                      simp; omega
                    · have CL : Hid (∀ w, _) := fun w => let_any X w false ⟨fun h => (by cases h), fun h => absurd h hgx⟩
                      have hno : ¬ NameP s := fun h => hgx (by rw [hrk]; exact h.2.1 k hkN)
                      clear hgx hrk
                      go_wp2_with fail
                      refine (CL.out _).mono ?_
                      rintro e w5 ⟨rfl, rfl⟩
                      clear CL
                      go_wp2_with fail
                      go_ret
                      exact ⟨80, rfl, .inr ⟨rfl, hno⟩, below_step hB2 (Nat.le_refl _) (below_new w4 _)⟩
                  · have hnx : ∀ ty, (Instr.next (.pointer (some ⟨w4.heap.size, 0, none⟩)) true ty).run Tryd.prog (w4.iter s p) = _ := fun ty => run_next_end w4 s p ty hp
                    have hk' : k = countR s := by
                      by_cases e : k < countR s
                      · have := pos_before s k e; rw [← HP.out] at this; exact absurd this hp
                      · omega
                    have hyes : NameP s := ⟨HB.out, by rw [← hk']; exact HK.out, h32⟩
                    clear hk' h32
                    go_wp2_with fail
                    go_ret
                    exact ⟨0, rfl, .inl ⟨rfl, hyes⟩, below_step hB2 (Nat.le_refl _) (below_new w4 _)⟩
      · have hTs : T ≠ s := by rw [HT.out]; exact fun e => h32 ((cut_same s 32).1 e)
        have q0' : (T.toList == s.toList) = false := by rw [beq_texts]; exact decide_eq_false hTs
        have q0 : (T.toList != s.toList) = true := by rw [bne, q0']; rfl
        have hno : ¬ NameP s := fun h => h32 h.2.2
        clear hTs HT h32
        go_enter Tryd.func57, Tryd.ntmps57
        go_wp2_with fail
        refine CV.out.mono ?_
        rintro e w1 ⟨rfl, hb1⟩
        clear CV
        go_wp2_with fail
        refine (CC.out _).mono ?_
        rintro e w2 ⟨rfl, hb2⟩
        have hB2 := below_step hb1 (Nat.le_refl _) hb2
        clear CC hb1 hb2
        go_wp2_with fail
        go_ret
        exact ⟨80, rfl, .inr ⟨rfl, hno⟩, hB2⟩
  · have hV' : Lib.validD s.data.toList = false := by revert hV; cases Lib.validD s.data.toList <;> simp
    rw [hV'] at CV0
    have CV : Hid (Calls _ _ _ _ _) := CV0
    have hno : ¬ NameP s := fun h => hV ((valid_all s).2 (fun j hj => by obtain ⟨r, hr⟩ := h.all j hj; rw [hr]; exact fun e => by cases e))
    clear CV0 hV'
    clear hV
    go_enter Tryd.func57, Tryd.ntmps57
    go_wp2_with fail
    refine CV.out.mono ?_
    rintro e w1 ⟨rfl, hb1⟩
    clear CV
    go_wp2_with fail
    go_ret
    exact ⟨80, rfl, .inr ⟨rfl, hno⟩, hb1⟩

end Go.Proofs.YtkmdajenbidaaaaDoor
