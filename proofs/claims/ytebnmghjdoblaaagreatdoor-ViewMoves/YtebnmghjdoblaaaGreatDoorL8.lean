import Derived.Test.YtebnmghjdoblaaaGreatDoorR8b
import Derived.Lib.ValidLaws
import Derived.Laws.RangeAny
import Derived.Test.YtebnmghjdoblaaaGreatDoorBA
import Derived.Test.YtebnmghjdoblaaaGreatDoorShelf
import Derived.Test.YtebnmghjdoblaaaGreatDoorMapSI
import Derived.BigQuiet
/- Texts of UTF-8 alone, as the language's own package tells them: plain. -/
namespace Go.Proofs.YtebnmghjdoblaaaGreatDoor
open Go.RowKit
set_option linter.unusedSimpArgs false

theorem one_single (t : ByteArray) (x : Nat) (h : oneP t = some (x, 1)) : x < 128 := by
  have ht : ∀ n least y, 1 ≤ n → oneTail t n least y ≠ some (x, 1) := by
    intro n least y hn e
    unfold oneTail at e
    split at e
    · have := congrArg Prod.snd (Option.some.inj e)
      have : n + 1 = 1 := this
      omega
    · cases e
  unfold oneP at h
  split at h
  · have := congrArg Prod.fst (Option.some.inj h)
    have : bt t 0 = x := this
    omega
  · split at h
    · exact absurd h (ht _ _ _ (by decide))
    · split at h
      · exact absurd h (ht _ _ _ (by decide))
      · split at h
        · exact absurd h (ht _ _ _ (by decide))
        · cases h

theorem rune_bad (t : ByteArray) : ((runeOf (oneP t)).1 = 65533 ∧ (runeOf (oneP t)).2 = 1) ↔ oneP t = none := by
  cases h : oneP t with
  | none => exact ⟨fun _ => rfl, fun _ => ⟨rfl, rfl⟩⟩
  | some r =>
    obtain ⟨x, k⟩ := r
    constructor
    · rintro ⟨h1, h2⟩
      have e1 : x = 65533 := h1
      have e2 : k = 1 := h2
      subst e2
      have := one_single t x h
      omega
    · intro h; cases h

theorem runeOf_k (o : Option (Nat × Nat)) : (runeOf o).2 = runeK o := by cases o <;> rfl

theorem decode_rest (s : ByteArray) (p : Nat) (h : p ≤ s.size) : Utf8.decode s p = runeOf (oneP (restB s p)) := decode_one s p h

theorem valid_from (s : ByteArray) (d : Nat) : ∀ k, countR s = k + d → (Lib.validD (s.data.toList.drop (posR s k)) = true ↔ ∀ j, k ≤ j → j < countR s → oneP (restB s (posR s j)) ≠ none) := by
  induction d with
  | zero =>
    intro k hk
    rw [show k = countR s by omega, pos_count]
    have : s.data.toList.drop s.size = [] := List.drop_eq_nil_of_le (by rw [Array.length_toList]; exact Nat.le_refl _)
    rw [this, Lib.validD_nil]
    exact ⟨fun _ j h1 h2 => by omega, fun _ => rfl⟩
  | succ d ih =>
    intro k hk
    have hp := pos_before s k (by omega)
    have hne : s.data.toList.drop (posR s k) ≠ [] := by
      intro e
      have := congrArg List.length e
      rw [List.length_drop, Array.length_toList] at this
      have hz : s.data.size = s.size := rfl
      rw [hz, List.length_nil] at this
      omega
    rw [Lib.validD_step _ hne, Lib.decodeL_drop, decode_rest s _ (by omega)]
    by_cases hb : oneP (restB s (posR s k)) = none
    · rw [if_pos ((rune_bad _).2 hb)]
      exact ⟨fun h => (by cases h), fun h => absurd hb (h k (Nat.le_refl _) (by omega))⟩
    · rw [if_neg (fun h => hb ((rune_bad _).1 h)), List.drop_drop, runeOf_k]
      have e : posR s k + runeK (oneP (restB s (posR s k))) = posR s (k + 1) := (posR_succ s k hp).symm
      rw [e, ih (k + 1) (by omega)]
      refine Iff.intro ?_ ?_
      · intro h j h1 h2
        by_cases c : j = k
        · subst c; exact hb
        · exact h j (by omega) h2
      · intro h j h1 h2; exact h j (by omega) h2

/-- UTF-8 alone. -/
theorem valid_all (s : ByteArray) : Lib.validD s.data.toList = true ↔ ∀ j, j < countR s → oneP (restB s (posR s j)) ≠ none := by
  have := valid_from s (countR s) 0 (by omega)
  rw [posR_zero, List.drop_zero] at this
  rw [this]
  exact ⟨fun h j hj => h j (Nat.zero_le _) hj, fun h j _ hj => h j hj⟩

/-- The rune of a place of UTF-8. -/
theorem rune_of (s : ByteArray) (p : Nat) (h : oneP (restB s p) ≠ none) : ((runeOf (oneP (restB s p))).1 : Int) = runeAt s p := by
  unfold runeAt
  cases hq : oneP (restB s p) with
  | none => exact absurd hq h
  | some r => obtain ⟨x, k⟩ := r; rfl

theorem cut_same (s : ByteArray) (n : Nat) : cutR s n = s ↔ countR s ≤ n := by
  constructor
  · intro h
    have h1 := count_cut s n
    rw [h] at h1
    omega
  · intro h
    unfold cutR
    have hp : posR s n = s.size := by
      obtain ⟨d, rfl⟩ : ∃ d, n = countR s + d := ⟨n - countR s, by omega⟩
      rw [posR_stay s _ d (by rw [pos_count]; omega), pos_count]
    rw [hp]
    exact restB_zero s

/-- The first byte, and the last one, as a text. -/
theorem one_text (a : ByteArray) (x : UInt8) (h : a.size = 1) : a = ⟨#[x]⟩ ↔ bt a 0 = x.toNat := by
  constructor
  · intro e; rw [e]; rfl
  · intro e
    refine bt_ext _ _ (by rw [h]; rfl) (fun i hi => ?_)
    rw [h] at hi
    obtain rfl : i = 0 := by omega
    rw [e]; rfl

theorem front_one (s : ByteArray) (h : 0 < s.size) (x : UInt8) : s.extract 0 1 = ⟨#[x]⟩ ↔ bt s 0 = x.toNat := by
  rw [one_text _ x (by rw [ByteArray.size_extract]; omega), bt_extract s 0 1 0 (by omega) (by omega)]

theorem last_one (s : ByteArray) (h : 0 < s.size) (x : UInt8) : s.extract (s.size - 1) s.size = ⟨#[x]⟩ ↔ bt s (s.size - 1) = x.toNat := by
  rw [one_text _ x (by rw [ByteArray.size_extract]; omega), bt_extract s (s.size - 1) s.size 0 (by omega) (Nat.le_refl _), Nat.add_zero]

end Go.Proofs.YtebnmghjdoblaaaGreatDoor

/- The code's Count, Cut, let. -/
namespace Go.Proofs.YtebnmghjdoblaaaGreatDoor
open Go.RowKit
set_option linter.unusedSimpArgs false

theorem next_rune (w : World) (s : ByteArray) (p : Nat) (h : p < s.size) (ty : TypeId) :
    (Instr.next (.pointer (some ⟨w.heap.size, 0, none⟩)) true ty).run Tryz.prog (w.iter s p) = .ok (.tuple #[.bool true, .int .i64 p, .int .i32 ((runeOf (oneP (restB s p))).1 : Int)]) (w.iter s (nextR s p)) := by
  have := run_next_any (P := Tryz.prog) w s p ty h
  rw [decode_rest s p (by omega), runeOf_k] at this
  exact this

set_option maxRecDepth 100000 in
set_option maxHeartbeats 1000000 in
theorem ncount_any (s : ByteArray) (w : World) (hs : s.size ≤ 1048576) :
    Calls Tryz.prog 121 #[.string s] w fun e w' => e = .returned (.int .i64 (countR s : Int)) ∧ Below w.heap.size w w' := by
  obtain ⟨N, HN⟩ : ∃ N, Hid (N = countR s) := ⟨_, rfl⟩
  rw [← HN.out]
  go_enter Tryz.func121, Tryz.ntmps121
  go_wp2
  go_loopw [3] (fun n w' => ∃ k p : Nat, Hid (p = posR s k) ∧ k ≤ N ∧ p ≤ s.size ∧ w' = w.iter s p ∧ n = .int .i64 k) (fun _ w' => s.size - w'.iterPos w.heap.size)
  case atStart => exact ⟨0, 0, rfl, Nat.zero_le _, Nat.zero_le _, rfl, rfl⟩
  case round =>
    obtain ⟨k, p, HP, hk, hps, rfl, rfl⟩ := hrel
    have hNs : N ≤ 1048576 := by rw [HN.out]; exact Nat.le_trans (count_le s) hs
    by_cases hp : p < s.size
    · have hkN : k < N := by
        rw [HN.out]
        have h1 : posR s k < s.size := by rw [← HP.out]; exact hp
        have h2 := count_split s k (.inl h1)
        have h3 := leftR_step s _ h1
        omega
      have HP' : Hid (nextR s p = posR s (k + 1)) := by show _ = _; rw [posR_succ s k (by rw [← HP.out]; exact hp), ← HP.out]
      have hgt := nextR_gt s p
      have hle := nextR_le s p hp
      have hnx0 := next_rune w s p hp
      generalize nextR s p = p' at *
      generalize ((runeOf (oneP (restB s p))).1 : Int) = X at *
      have hnx : ∀ ty, (Instr.next (.pointer (some ⟨w.heap.size, 0, none⟩)) true ty).run Tryz.prog (w.iter s p) = .ok (.tuple #[.bool true, .int .i64 p, .int .i32 X]) (w.iter s p') := hnx0
      clear hnx0
      go_wp2
      go_roundw
      case rel => exact ⟨k + 1, p', HP', hkN, hle, rfl, by go_num⟩
      case measure => simp; omega
    · have hnx : ∀ ty, (Instr.next (.pointer (some ⟨w.heap.size, 0, none⟩)) true ty).run Tryz.prog (w.iter s p) = _ := fun ty => run_next_end w s p ty hp
      have hkN : k = N := by
        rw [HN.out]
        by_cases e : k < countR s
        · have := pos_before s k e; rw [← HP.out] at this; exact absurd this hp
        · have := HN.out; omega
      subst hkN
      go_wp2
      go_ret
      exact ⟨rfl, below_new w _⟩

set_option maxRecDepth 100000 in
set_option maxHeartbeats 1000000 in
theorem ncut_any (s : ByteArray) (n : Int) (w : World) (_hs : s.size ≤ 1048576) (hn : n ≤ 9223372036854775807) :
    Calls Tryz.prog 80 #[.string s, .int .i64 n] w fun e w' => e = .returned (.string (cutR s n.toNat)) ∧ Below w.heap.size w w' := by
  obtain ⟨E, HE⟩ : ∃ E, Hid (E = cutR s n.toNat) := ⟨_, rfl⟩
  rw [← HE.out]
  go_enter Tryz.func80, Tryz.ntmps80
  go_wp2
  go_loopw [1] (fun m w' => ∃ k p : Nat, ∃ d : Int, Hid (p = posR s k) ∧ Hid (cutR s n.toNat = cutR s (k + d.toNat)) ∧ p ≤ s.size ∧ d ≤ 9223372036854775807 ∧ w' = w.iter s p ∧ m = .int .i64 d) (fun _ w' => s.size - w'.iterPos w.heap.size)
  case atStart => exact ⟨0, 0, n, rfl, by show _ = _; rw [Nat.zero_add], Nat.zero_le _, hn, rfl, rfl⟩
  case round =>
    obtain ⟨k, p, d, HP, HC, hps, hdm, rfl, rfl⟩ := hrel
    by_cases hp : p < s.size
    · have HP' : Hid (nextR s p = posR s (k + 1)) := by show _ = _; rw [posR_succ s k (by rw [← HP.out]; exact hp), ← HP.out]
      have hgt := nextR_gt s p
      have hle := nextR_le s p hp
      have hnx0 := next_rune w s p hp
      generalize nextR s p = p' at *
      generalize ((runeOf (oneP (restB s p))).1 : Int) = X at *
      have hnx : ∀ ty, (Instr.next (.pointer (some ⟨w.heap.size, 0, none⟩)) true ty).run Tryz.prog (w.iter s p) = .ok (.tuple #[.bool true, .int .i64 p, .int .i32 X]) (w.iter s p') := hnx0
      clear hnx0
      have hpi : (p : Int) ≤ (s.size : Int) := by omega
      by_cases hd : d < 1
      · have q0 : decide (d < 1) = true := decide_eq_true hd
        have hEE : s.extract 0 p = E := by
          rw [HE.out, HC.out, show d.toNat = 0 by omega, Nat.add_zero, HP.out]; rfl
        go_wp2
        go_ret
        exact ⟨rfl, below_new w _⟩
      · have q0 : decide (d < 1) = false := decide_eq_false hd
        have HC' : Hid (cutR s n.toNat = cutR s (k + 1 + (d - 1).toNat)) := by show _ = _; rw [HC.out, show k + 1 + (d - 1).toNat = k + d.toNat by omega]
        go_wp2
        go_roundw
        case rel => exact ⟨k + 1, p', d - 1, HP', HC', hle, by omega, rfl, by go_num⟩
        case measure => simp; omega
    · have hnx : ∀ ty, (Instr.next (.pointer (some ⟨w.heap.size, 0, none⟩)) true ty).run Tryz.prog (w.iter s p) = _ := fun ty => run_next_end w s p ty hp
      have HEE : Hid (s = E) := by
        show s = E
        have hks : ¬ posR s k < s.size := by rw [← HP.out]; exact hp
        have e : posR s (k + d.toNat) = s.size := by
          rw [posR_stay s k _ hks]; have := posR_le s k; omega
        rw [HE.out, HC.out]
        unfold cutR
        rw [e]
        exact (restB_zero s).symm
      go_wp2
      go_ret
      exact ⟨by rw [← HEE.out]; rfl, below_new w _⟩

theorem let_any (x : Int) (w : World) (D : Bool) (hD : D = true ↔ goodX x) :
    Calls Tryz.prog 82 #[.int .i32 x] w fun e w' => e = .returned (.bool D) ∧ w' = w := by
  unfold goodX at hD
  by_cases h1 : 32 ≤ x
  · have g1 : decide ((32 : Int) ≤ x) = true := decide_eq_true h1
    by_cases h2 : x = 47
    · obtain rfl : D = false := by cases D with | false => rfl | true => exact absurd h2 (hD.1 rfl).2.1
      subst h2
      go_enter Tryz.func82, Tryz.ntmps82
      go_wp2
      go_ret
      exact ⟨rfl, rfl⟩
    · have g2 : (x != 47) = true := by rw [bne_iff_ne]; exact h2
      have g2' : (x == 47) = false := by rw [beq_eq_false_iff_ne]; exact h2
      by_cases h3 : x < 127
      · have g3 : decide (x < 127) = true := decide_eq_true h3
        obtain rfl : D = true := hD.2 ⟨h1, h2, by omega⟩
        clear hD
        go_enter Tryz.func82, Tryz.ntmps82
        go_wp2
        go_ret
        exact ⟨rfl, rfl⟩
      · have g3 : decide (x < 127) = false := decide_eq_false h3
        by_cases h4 : 159 < x
        · have g4 : decide (159 < x) = true := decide_eq_true h4
          obtain rfl : D = true := hD.2 ⟨h1, h2, by omega⟩
          clear hD
          go_enter Tryz.func82, Tryz.ntmps82
          go_wp2
          go_ret
          exact ⟨rfl, rfl⟩
        · have g4 : decide (159 < x) = false := decide_eq_false h4
          obtain rfl : D = false := by cases D with | false => rfl | true => exact absurd ⟨by omega, by omega⟩ (hD.1 rfl).2.2
          clear hD
          go_enter Tryz.func82, Tryz.ntmps82
          go_wp2
          go_ret
          exact ⟨rfl, rfl⟩
  · have g1 : decide ((32 : Int) ≤ x) = false := decide_eq_false h1
    obtain rfl : D = false := by cases D with | false => rfl | true => exact absurd (hD.1 rfl).1 h1
    clear hD
    go_enter Tryz.func82, Tryz.ntmps82
    go_wp2
    go_ret
    exact ⟨rfl, rfl⟩

set_option maxHeartbeats 1000000 in
theorem front_any (s p T : ByteArray) (D : Bool) (w : World) (hs : s.size ≤ 1048576) (h0 : 0 < s.size) (hp : p.size = 1) (hT : s.extract 0 1 = T) (hD : (T.toList == p.toList) = D) :
    Calls Tryz.prog 63 #[.string s, .string p] w fun e w' => e = .returned (.bool D) ∧ w' = w := by
  have C : Hid (∀ w, Calls Tryz.prog 90 #[.string s, .string p] w fun e w' => e = .returned (.bool D) ∧ w' = w) := by
    show ∀ w, _
    intro w
    have g1 : decide ((1 : Int) ≤ (s.size : Int)) = true := by simp; omega
    have g2 : (1 : Int) ≤ (s.size : Int) := by omega
    go_enter Tryz.func90, Tryz.ntmps90
    go_wp2
    go_ret
    exact ⟨rfl, rfl⟩
  go_enter Tryz.func63, Tryz.ntmps63
  go_wp2_with fail
  refine (C.out _).mono ?_
  rintro e w1 ⟨rfl, rfl⟩
  go_wp2_with fail
  go_ret
  exact ⟨rfl, rfl⟩

set_option maxHeartbeats 1000000 in
theorem back_any (s p T : ByteArray) (D : Bool) (w : World) (m : Nat) (hs : s.size ≤ 1048576) (h0 : s.size = m + 1) (hp : p.size = 1) (hT : s.extract m (m + 1) = T) (hD : (T.toList == p.toList) = D) :
    Calls Tryz.prog 81 #[.string s, .string p] w fun e w' => e = .returned (.bool D) ∧ w' = w := by
  have C : Hid (∀ w, Calls Tryz.prog 97 #[.string s, .string p] w fun e w' => e = .returned (.bool D) ∧ w' = w) := by
    show ∀ w, _
    intro w
    have g1 : decide ((1 : Int) ≤ (m : Int) + 1) = true := by simp; omega
    have g2 : (m : Int) + 1 - 1 = (m : Int) := by omega
    have g3 : (m : Int) ≤ (m : Int) + 1 := by omega
    go_enter Tryz.func97, Tryz.ntmps97
    go_wp2
    go_ret
    exact ⟨rfl, rfl⟩
  go_enter Tryz.func81, Tryz.ntmps81
  go_wp2_with fail
  refine (C.out _).mono ?_
  rintro e w1 ⟨rfl, rfl⟩
  go_wp2_with fail
  go_ret
  exact ⟨rfl, rfl⟩

end Go.Proofs.YtebnmghjdoblaaaGreatDoor

/- The code's Check. -/
namespace Go.Proofs.YtebnmghjdoblaaaGreatDoor
open Go.RowKit
set_option linter.unusedSimpArgs false

/-- The library's two tables of UTF-8 stand where they must. -/
def Glob8 (w : World) : Prop := Lib.Utf8Tabs 0 1 w

theorem Glob8.below {w w' : World} (h : Glob8 w) (hb : Below w.heap.size w w') : Glob8 w' := by
  refine ⟨fun c hc => ?_, fun i hi => ⟨?_, ?_⟩⟩
  · have := h.1 c hc
    rw [hb.cell (World.block_lt_of_cell? w _ this)]; exact this
  · have := (h.2 i hi).1
    rw [hb.cell (World.block_lt_of_cell? w _ this)]; exact this
  · have := (h.2 i hi).2
    rw [hb.cell (World.block_lt_of_cell? w _ this)]; exact this

theorem valid_any (s : ByteArray) (w : World) (hs : s.size ≤ 1048576) (hG : Glob8 w) :
    Calls Tryz.prog 79 #[.string s] w fun e w' => e = .returned (.bool (Lib.validD s.data.toList)) ∧ Below w.heap.size w w' :=
  Any.utf8_ValidString Tryz.lays196 s w (by omega) hG

set_option maxRecDepth 100000 in
set_option maxHeartbeats 4000000 in
theorem ncheck_any (s : ByteArray) (w : World) (hs : s.size ≤ 1048576) (hG : Glob8 w) :
    Calls Tryz.prog 56 #[.string s] w fun e w' => ∃ x, e = .returned (.int .i64 x) ∧ NameE s x ∧ Below w.heap.size w w' := by
  have CV0 := valid_any s w hs hG
  by_cases hV : Lib.validD s.data.toList = true
  · rw [hV] at CV0
    have CV : Hid (Calls _ _ _ _ _) := CV0
    have HR : Hid (∀ j, j < countR s → oneP (restB s (posR s j)) ≠ none) := (valid_all s).1 hV
    clear CV0 hG hV
    by_cases h3 : s.size = 0
    · have g3 := isEmpty_yes s h3
      have hno : ¬ NameP s := fun h => by have := h.1.2.2.1; omega
      clear h3
      go_enter Tryz.func56, Tryz.ntmps56
      go_wp2_with fail
      refine CV.out.mono ?_
      rintro e w1 ⟨rfl, hb1⟩
      clear CV
      go_wp2_with fail
      go_ret
      exact ⟨80, rfl, .inr ⟨rfl, hno⟩, hb1⟩
    · have g3 := isEmpty_no s h3
      obtain ⟨T, HT⟩ : ∃ T, Hid (T = cutR s 32) := ⟨_, rfl⟩
      have CC0 := fun w => ncut_any s 32 w hs (by decide)
      rw [show (32 : Int).toNat = 32 from rfl, ← HT.out] at CC0
      have CC : Hid (∀ w, _) := CC0
      clear CC0
      by_cases h32 : countR s ≤ 32
      · have hTs : T = s := by rw [HT.out]; exact (cut_same s 32).2 h32
        have q0 : (T.toList != s.toList) = false := by rw [hTs]; simp
        have q0' : (T.toList == s.toList) = true := by rw [hTs]; simp
        clear hTs HT
        by_cases h1 : s.toList = [46]
        · have g1 : (s.toList == [46]) = true := by rw [beq_iff_eq]; exact h1
          have hno : ¬ NameP s := fun h => h.1.1 h1
          clear h1
          go_enter Tryz.func56, Tryz.ntmps56
          go_wp2_with fail
          refine CV.out.mono ?_
          rintro e w1 ⟨rfl, hb1⟩
          clear CV
          go_wp2_with fail
          refine (CC.out _).mono ?_
          rintro e w2 ⟨rfl, hb2⟩
          have hB2 := below_step hb1 (Nat.le_refl _) hb2
          clear CC hb1 hb2
          go_wp2_with fail
          go_ret
          exact ⟨80, rfl, .inr ⟨rfl, hno⟩, hB2⟩
        · have g1 : (s.toList == [46]) = false := by rw [beq_eq_false_iff_ne]; exact h1
          by_cases h2 : s.toList = [46, 46]
          · have g2 : (s.toList == [46, 46]) = true := by rw [beq_iff_eq]; exact h2
            have hno : ¬ NameP s := fun h => h.1.2.1 h2
            clear h2 h1
            go_enter Tryz.func56, Tryz.ntmps56
            go_wp2_with fail
            refine CV.out.mono ?_
            rintro e w1 ⟨rfl, hb1⟩
            clear CV
            go_wp2_with fail
            refine (CC.out _).mono ?_
            rintro e w2 ⟨rfl, hb2⟩
            have hB2 := below_step hb1 (Nat.le_refl _) hb2
            clear CC hb1 hb2
            go_wp2_with fail
            go_ret
            exact ⟨80, rfl, .inr ⟨rfl, hno⟩, hB2⟩
          · have g2 : (s.toList == [46, 46]) = false := by rw [beq_eq_false_iff_ne]; exact h2
            have CP0 := fun w => front_any s ⟨#[32]⟩ (s.extract 0 1) (decide (bt s 0 = 32)) w hs (by omega) rfl rfl (by rw [beq_texts]; exact decide_eq_decide.2 (front_one s (by omega) 32))
            by_cases h4 : bt s 0 = 32
            · rw [decide_eq_true h4] at CP0
              have CP : Hid (∀ w, _) := CP0
              have hno : ¬ NameP s := fun h => h.1.2.2.2.1 h4
              clear CP0 h1 h2 h4
              go_enter Tryz.func56, Tryz.ntmps56
              go_wp2_with fail
              refine CV.out.mono ?_
              rintro e w1 ⟨rfl, hb1⟩
              clear CV
              go_wp2_with fail
              refine (CC.out _).mono ?_
              rintro e w2 ⟨rfl, hb2⟩
              have hB2 := below_step hb1 (Nat.le_refl _) hb2
              clear CC hb1 hb2
              go_wp2_with fail
              refine (CP.out _).mono ?_
              rintro e w3 ⟨rfl, rfl⟩
              clear CP
              go_wp2_with fail
              go_ret
              exact ⟨80, rfl, .inr ⟨rfl, hno⟩, hB2⟩
            · rw [decide_eq_false h4] at CP0
              have CP : Hid (∀ w, _) := CP0
              obtain ⟨m, hm⟩ : ∃ m, s.size = m + 1 := ⟨s.size - 1, by omega⟩
              have CS0 := fun w => back_any s ⟨#[32]⟩ (s.extract m (m + 1)) (decide (bt s (s.size - 1) = 32)) w m hs hm rfl rfl (by
                have := last_one s (by omega) 32
                rw [show s.size - 1 = m by omega, hm] at this
                rw [beq_texts, show s.size - 1 = m by omega]; exact decide_eq_decide.2 this)
              clear hm
              by_cases h5 : bt s (s.size - 1) = 32
              · rw [decide_eq_true h5] at CS0
                have CS : Hid (∀ w, _) := CS0
                have hno : ¬ NameP s := fun h => h.1.2.2.2.2 h5
                clear CP0 CS0 h1 h2 h4 h5
                go_enter Tryz.func56, Tryz.ntmps56
                go_wp2_with fail
                refine CV.out.mono ?_
                rintro e w1 ⟨rfl, hb1⟩
                clear CV
                go_wp2_with fail
                refine (CC.out _).mono ?_
                rintro e w2 ⟨rfl, hb2⟩
                have hB2 := below_step hb1 (Nat.le_refl _) hb2
                clear CC hb1 hb2
                go_wp2_with fail
                refine (CP.out _).mono ?_
                rintro e w3 ⟨rfl, rfl⟩
                clear CP
                go_wp2_with fail
                refine (CS.out _).mono ?_
                rintro e w4 ⟨rfl, rfl⟩
                clear CS
                go_wp2_with fail
                go_ret
                exact ⟨80, rfl, .inr ⟨rfl, hno⟩, hB2⟩
              · rw [decide_eq_false h5] at CS0
                have CS : Hid (∀ w, _) := CS0
                have HB : Hid (BaseP s) := ⟨h1, h2, by omega, h4, h5⟩
                clear CP0 CS0 h1 h2 h4 h5
                go_enter Tryz.func56, Tryz.ntmps56
                go_wp2_with fail
                refine CV.out.mono ?_
                rintro e w1 ⟨rfl, hb1⟩
                clear CV
                go_wp2_with fail
                refine (CC.out _).mono ?_
                rintro e w2 ⟨rfl, hb2⟩
                have hB2 := below_step hb1 (Nat.le_refl _) hb2
                clear CC hb1 hb2
                go_wp2_with fail
                refine (CP.out _).mono ?_
                rintro e w3 ⟨rfl, rfl⟩
                clear CP
                go_wp2_with fail
                refine (CS.out _).mono ?_
                rintro e w4 ⟨rfl, rfl⟩
                clear CS g1 g2 g3 q0 q0'
                go_wp2_with fail
                go_loopw [] (fun wr => ∃ k p : Nat, Hid (p = posR s k) ∧ Hid (∀ j, j < k → goodX (runeAt s (posR s j))) ∧ k ≤ countR s ∧ p ≤ s.size ∧ wr = w4.iter s p) (fun wr => s.size - wr.iterPos w4.heap.size)
                case atStart => exact ⟨0, 0, rfl, fun j hj => absurd hj (Nat.not_lt_zero _), Nat.zero_le _, Nat.zero_le _, rfl⟩
                case round =>
                  obtain ⟨k, p, HP, HK, hkc, hps, rfl⟩ := hrel
                  by_cases hp : p < s.size
                  · have h1 : posR s k < s.size := by rw [← HP.out]; exact hp
                    have hkN : k < countR s := by
                      have h2 := count_split s k (.inl h1)
                      have h3 := leftR_step s _ h1
                      omega
                    have HP' : Hid (nextR s p = posR s (k + 1)) := by show _ = _; rw [posR_succ s k h1, ← HP.out]
                    have hgt := nextR_gt s p
                    have hle := nextR_le s p hp
                    have hnx0 := next_rune w4 s p hp
                    have hX : ((runeOf (oneP (restB s p))).1 : Int) = runeAt s p := rune_of s p (by rw [HP.out]; exact HR.out k hkN)
                    rw [hX] at hnx0
                    have hrk : runeAt s p = runeAt s (posR s k) := by rw [← HP.out]
                    generalize nextR s p = p' at *
                    generalize runeAt s p = X at *
                    have hnx : ∀ ty, (Instr.next (.pointer (some ⟨w4.heap.size, 0, none⟩)) true ty).run Tryz.prog (w4.iter s p) = .ok (.tuple #[.bool true, .int .i64 p, .int .i32 X]) (w4.iter s p') := hnx0
                    clear hnx0 hX h1
                    by_cases hgx : goodX X
                    · have CL : Hid (∀ w, _) := fun w => let_any X w true ⟨fun _ => hgx, fun _ => rfl⟩
                      have HK' : Hid (∀ j, j < k + 1 → goodX (runeAt s (posR s j))) := by
                        show ∀ j, _
                        intro j hj
                        by_cases e : j = k
                        · subst e; rw [← hrk]; exact hgx
                        · exact HK.out j (by omega)
                      clear hgx hrk
                      go_wp2_with fail
                      refine (CL.out _).mono ?_
                      rintro e w5 ⟨rfl, rfl⟩
                      clear CL
                      go_wp2_with fail
                      refine ⟨⟨k + 1, p', HP', HK', hkN, hle, by first | rfl | trivial⟩, ?_⟩
                      simp; omega
                    · have CL : Hid (∀ w, _) := fun w => let_any X w false ⟨fun h => (by cases h), fun h => absurd h hgx⟩
                      have hno : ¬ NameP s := fun h => hgx (by rw [hrk]; exact h.2.1 k hkN)
                      clear hgx hrk
                      go_wp2_with fail
                      refine (CL.out _).mono ?_
                      rintro e w5 ⟨rfl, rfl⟩
                      clear CL
                      go_wp2_with fail
                      go_ret
                      exact ⟨80, rfl, .inr ⟨rfl, hno⟩, below_step hB2 (Nat.le_refl _) (below_new w4 _)⟩
                  · have hnx : ∀ ty, (Instr.next (.pointer (some ⟨w4.heap.size, 0, none⟩)) true ty).run Tryz.prog (w4.iter s p) = _ := fun ty => run_next_end w4 s p ty hp
                    have hk' : k = countR s := by
                      by_cases e : k < countR s
                      · have := pos_before s k e; rw [← HP.out] at this; exact absurd this hp
                      · omega
                    have hyes : NameP s := ⟨HB.out, by rw [← hk']; exact HK.out, h32⟩
                    clear hk' h32
                    go_wp2_with fail
                    go_ret
                    exact ⟨0, rfl, .inl ⟨rfl, hyes⟩, below_step hB2 (Nat.le_refl _) (below_new w4 _)⟩
      · have hTs : T ≠ s := by rw [HT.out]; exact fun e => h32 ((cut_same s 32).1 e)
        have q0' : (T.toList == s.toList) = false := by rw [beq_texts]; exact decide_eq_false hTs
        have q0 : (T.toList != s.toList) = true := by rw [bne, q0']; rfl
        have hno : ¬ NameP s := fun h => h32 h.2.2
        clear hTs HT h32
        go_enter Tryz.func56, Tryz.ntmps56
        go_wp2_with fail
        refine CV.out.mono ?_
        rintro e w1 ⟨rfl, hb1⟩
        clear CV
        go_wp2_with fail
        refine (CC.out _).mono ?_
        rintro e w2 ⟨rfl, hb2⟩
        have hB2 := below_step hb1 (Nat.le_refl _) hb2
        clear CC hb1 hb2
        go_wp2_with fail
        go_ret
        exact ⟨80, rfl, .inr ⟨rfl, hno⟩, hB2⟩
  · have hV' : Lib.validD s.data.toList = false := by revert hV; cases Lib.validD s.data.toList <;> simp
    rw [hV'] at CV0
    have CV : Hid (Calls _ _ _ _ _) := CV0
    have hno : ¬ NameP s := fun h => hV ((valid_all s).2 (fun j hj => by obtain ⟨r, hr⟩ := h.all j hj; rw [hr]; exact fun e => by cases e))
    clear CV0 hV'
    clear hV
    go_enter Tryz.func56, Tryz.ntmps56
    go_wp2_with fail
    refine CV.out.mono ?_
    rintro e w1 ⟨rfl, hb1⟩
    clear CV
    go_wp2_with fail
    go_ret
    exact ⟨80, rfl, .inr ⟨rfl, hno⟩, hb1⟩

end Go.Proofs.YtebnmghjdoblaaaGreatDoor

/- The code's Fold. -/
namespace Go.Proofs.YtebnmghjdoblaaaGreatDoor
open Go.RowKit
set_option linter.unusedSimpArgs false

end Go.Proofs.YtebnmghjdoblaaaGreatDoor

/- The code's Distinct: what is taken. -/
namespace Go.Proofs.YtebnmghjdoblaaaGreatDoor
open Go.RowKit
set_option linter.unusedSimpArgs false

/-! ### Plain facts. -/

theorem tail_plain (k : Nat) (hk : k < 100) (i : Nat) : bt (tailB k) i < 128 := by
  by_cases c : k < 10
  · obtain ⟨s, a0, a1⟩ := tail_small k c
    match i with
    | 0 => omega
    | 1 => omega
    | n + 2 => rw [bt_beyond _ _ (by omega)]; omega
  · obtain ⟨s, a0, a1, a2⟩ := tail_great k c hk
    match i with
    | 0 => omega
    | 1 => omega
    | 2 => omega
    | n + 3 => rw [bt_beyond _ _ (by omega)]; omega

theorem tail_count (k : Nat) (hk : k < 100) : countR (tailB k) = (tailB k).size := count_plain _ (tail_plain k hk)

/-- With each text that is taken is kept a number up to which those that are made of it are taken. -/
def TakenF (f : ByteArray → Nat) (O : List ByteArray) : Prop := ∀ t, (t ∈ O ∧ 2 ≤ f t ∧ ∀ i, 2 ≤ i → i < f t → candB t i ∈ O) ∨ (¬ t ∈ O ∧ f t = 0)

theorem TakenF.pos {f : ByteArray → Nat} {O : List ByteArray} (h : TakenF f O) (t : ByteArray) : 0 < f t ↔ t ∈ O := by
  rcases h t with ⟨h1, h2, _⟩ | ⟨h1, h2⟩
  · exact ⟨fun _ => h1, fun _ => by omega⟩
  · exact ⟨fun h => by omega, fun h => absurd h h1⟩

theorem TakenF.nil : TakenF (fun _ => 0) [] := fun _ => .inr ⟨List.not_mem_nil, rfl⟩

/-- So many are made of a text and taken: there are no more than are taken. -/
theorem cand_many (O : List ByteArray) (s : ByteArray) (j m : Nat) (hO : O.length ≤ m) (hm : m ≤ 90) (hj : j ≤ m + 3) (h : ∀ i, 2 ≤ i → i < j → candB s i ∈ O) : j ≤ m + 2 := by
  by_cases c : j ≤ m + 2
  · exact c
  · exfalso
    have := as_many (fun i => candB s (2 + i)) (m + 1) O (fun a b ha hb e => by have := cand_inj s (2 + a) (2 + b) (by omega) (by omega) e; omega) (fun i hi => h (2 + i) (by omega) (by omega))
    omega

theorem TakenF.le {f : ByteArray → Nat} {O : List ByteArray} (h : TakenF f O) (m : Nat) (hO : O.length ≤ m) (hm : m ≤ 90) (t : ByteArray) : f t ≤ m + 2 := by
  rcases h t with ⟨_, _, h3⟩ | ⟨_, h2⟩
  · by_cases c : f t ≤ m + 3
    · exact cand_many O t (f t) m hO hm c h3
    · have := cand_many O t (m + 3) m hO hm (by omega) (fun i h1 h2 => h3 i h1 (by omega))
      omega
  · omega

theorem pick_any (O : List ByteArray) (s : ByteArray) (f k : Nat) (x y : ByteArray) (hx : x ∈ O) (hy : y ∈ O) : pickN O s (f + 1) k x = pickN O s (f + 1) k y := by
  rw [pickN_more _ _ _ _ _ hx, pickN_more _ _ _ _ _ hy]

/-- Those that are taken need not be tried. -/
theorem pick_skip (O : List ByteArray) (s : ByteArray) (m : Nat) (hs : s ∈ O) (d : Nat) : ∀ j, j = d + 2 → j ≤ m + 2 → (∀ i, 2 ≤ i → i < j → candB s i ∈ O) → pickN O s (m + 1) 2 s = pickN O s (m + 3 - j) j s := by
  induction d with
  | zero => intro j hj _ _; subst hj; rfl
  | succ d ih =>
    intro j hj hm h
    obtain ⟨e, rfl⟩ : ∃ e, j = e + 1 := ⟨j - 1, by omega⟩
    rw [ih e (by omega) (by omega) (fun i h1 h2 => h i h1 (by omega))]
    rw [show m + 3 - e = m + 3 - (e + 1) + 1 by omega, pickN_more _ _ _ _ _ hs]
    rw [show m + 3 - (e + 1) = m + 1 - e + 1 by omega]
    exact pick_any O s _ _ _ _ (h e (by omega) (by omega)) hs

/-- What is taken behind one more. -/
theorem TakenF.more {f : ByteArray → Nat} {O : List ByteArray} (h : TakenF f O) (s cur : ByteArray) (j : Nat) (h1 : ¬ s ∈ O → cur = s) (h2 : s ∈ O → 2 ≤ j) (hA : ∀ i, 2 ≤ i → i < j → candB s i ∈ O ∨ candB s i = cur) :
    TakenF (fun t => if t = cur then 2 else if t = s then j else f t) (O ++ [cur]) := by
  intro t
  have hin : ∀ x, x ∈ O ++ [cur] ↔ x ∈ O ∨ x = cur := fun x => by rw [List.mem_append, List.mem_singleton]
  by_cases c1 : t = cur
  · left
    simp only [if_pos c1, hin]
    exact ⟨.inr c1, Nat.le_refl _, fun i h3 h4 => by omega⟩
  · simp only [if_neg c1, hin]
    by_cases c2 : t = s
    · subst c2
      simp only [if_pos]
      have hs : t ∈ O := by
        by_cases c : t ∈ O
        · exact c
        · exact absurd (h1 c).symm c1
      exact .inl ⟨.inl hs, h2 hs, hA⟩
    · simp only [if_neg c2]
      rcases h t with ⟨h3, h4, h5⟩ | ⟨h3, h4⟩
      · exact .inl ⟨.inl h3, h4, fun i h6 h7 => .inl (h5 i h6 h7)⟩
      · exact .inr ⟨fun h => by rcases h with h | h; exact h3 h; exact c1 h, h4⟩

/-! ### The code. -/

set_option maxHeartbeats 1000000 in
theorem numbered_any (s : ByteArray) (k : Nat) (w : World) (hs : s.size ≤ 65536) (hk : k < 100) :
    Calls Tryz.prog 103 #[.string s, .int .i64 k] w fun e w' => e = .returned (.string (candB s k)) ∧ Below w.heap.size w w' := by
  have CI : Hid (∀ w, _) := fun w => itoa_any k w hk
  obtain ⟨tl, htl⟩ : ∃ t, (⟨#[126]⟩ : ByteArray) ++ decB k = t := ⟨_, rfl⟩
  have hts : tl.size ≤ 3 := by rw [← htl]; exact tailB_size k
  have hdz : (decB k).size ≤ 2 := by rw [decB_size]; split <;> omega
  have hcn : countR tl = tl.size := by rw [← htl]; exact tail_count k hk
  have CN0 := fun w => ncount_any tl w (by omega)
  rw [hcn] at CN0
  have CN : Hid (∀ w, _) := CN0
  have CC0 := fun w => ncut_any s (32 - (tl.size : Int)) w (by omega) (by omega)
  rw [show (32 - (tl.size : Int)).toNat = 32 - tl.size by omega] at CC0
  obtain ⟨D, hD⟩ : ∃ D, D = cutR s (32 - tl.size) := ⟨_, rfl⟩
  have hDs : D.size ≤ 65536 := by rw [hD]; exact Nat.le_trans (cutR_size _ _) hs
  rw [← hD] at CC0
  have CC : Hid (∀ w, _) := CC0
  obtain ⟨cn, hcn2⟩ : ∃ cn, D ++ tl = cn := ⟨_, rfl⟩
  have hce : candB s k = cn := by rw [← hcn2, hD, ← htl]; rfl
  rw [hce]
  have hsum1 : ¬ (9223372036854775807 < 1 + (decB k).size) := by omega
  have hsum2 : ¬ (9223372036854775807 < D.size + tl.size) := by omega
  generalize decB k = dk at *
  clear CN0 CC0 hD hce hcn
  go_enter Tryz.func103, Tryz.ntmps103
  go_wp2_with fail
  refine (CI.out _).mono ?_
  rintro e w1 ⟨rfl, rfl⟩
  clear CI
  go_wp2_with fail
  refine (CN.out _).mono ?_
  rintro e w2 ⟨rfl, hb2⟩
  clear CN
  go_wp2_with fail
  refine (CC.out _).mono ?_
  rintro e w3 ⟨rfl, hb3⟩
  have hB3 := below_step hb2 (Nat.le_refl _) hb3
  clear CC
  go_wp2_with fail
  go_ret
  exact ⟨rfl, hB3⟩

end Go.Proofs.YtebnmghjdoblaaaGreatDoor

/- The code's take, Distinct. -/
namespace Go.Proofs.YtebnmghjdoblaaaGreatDoor
open Go.RowKit
set_option linter.unusedSimpArgs false

/-- What holds between two rounds of take: cur is the text itself, or the last one that was made of it; all that were made ahead of it are taken. -/
def TakeI (O : List ByteArray) (s R : ByteArray) (m j : Nat) (cur : ByteArray) : Prop :=
  (¬ s ∈ O → cur = s) ∧ (s ∈ O → 2 ≤ j) ∧ (∀ i, 2 ≤ i → i < j → candB s i ∈ O ∨ candB s i = cur) ∧ (s ∈ O → pickN O s (m + 3 - j) j cur = R)

set_option maxRecDepth 100000 in
set_option maxHeartbeats 4000000 in
theorem take8_any (O : List ByteArray) (f : ByteArray → Nat) (s : ByteArray) (b n m : Nat) (w : World) (hO : O.length ≤ m) (hm : m ≤ 90) (hs : s.size ≤ 65536) (hn : n ≤ 1000) (hM : MapSI w b n f) (hT : TakenF f O) :
    Calls Tryz.prog 91 #[.map (some b), .string s] w fun e w' => ∃ f', e = .returned (.string (pickN O s (m + 1) 2 s)) ∧ MapSI w' b (n + 2) f' ∧ TakenF f' (O ++ [pickN O s (m + 1) 2 s]) ∧ w.grownBy w' (some b) := by
  obtain ⟨R, HR⟩ : ∃ R, Hid (pickN O s (m + 1) 2 s = R) := ⟨_, rfl⟩
  rw [HR.out]
  have HT : Hid (TakenF f O) := hT
  have HM : Hid (MapSI w b n f) := hM
  have hfs := hT.le m hO hm s
  have hl0 := hM.look s (by unfold maxLen; omega)
  have hl0d := (MapSI.block (w' := w.drew) hM rfl).look s (by unfold maxLen; omega)
  have HI : Hid (TakeI O s R m (f s) s) := by
    refine ⟨fun _ => rfl, ?_, ?_, ?_⟩
    · intro h
      rcases hT s with ⟨_, h2, _⟩ | ⟨h1, _⟩
      · exact h2
      · exact absurd h h1
    · intro i h1 h2
      rcases hT s with ⟨_, _, h3⟩ | ⟨_, h3⟩
      · exact .inl (h3 i h1 h2)
      · omega
    · intro h
      rcases hT s with ⟨_, h2, h3⟩ | ⟨h1, _⟩
      · rw [← HR.out, pick_skip O s m h (f s - 2) (f s) (by omega) hfs h3]
      · exact absurd h h1
  obtain ⟨k0, hk0⟩ : ∃ k, f s = k := ⟨_, rfl⟩
  rw [hk0] at hl0 hl0d HI hfs
  clear hT hM hk0
  go_enter Tryz.func91, Tryz.ntmps91
  go_wp2_with fail
  refine wp_region_noPanic ?_
  refine wp_region_held_drew (S := fun W => (Instr.lookup 123 (.map (some b)) (.string s) false).run Tryz.prog W = .ok (.int .i64 (k0 : Int)) W) (by kernel_rfl) (by first | exact trivial | assumption | exact ⟨by assumption, by assumption⟩) (fun hHeld => ?_)
  refine take_at (i := 0) (v := ?_) rfl rfl (by kernel_rfl) (by kernel_rfl) (by kernel_rfl) (fun _ _ _ h => h) (Or.inl ⟨by rfl, ?_⟩) (by assumption) ?_
  rotate_left
  · intro w hSw; (try dsimp only at hSw); go_simp; try with_reducible rfl
  try simp only [Act.put, List.setIfInBounds_toArray, List.set_cons_zero, List.set_cons_succ]
  refine take_at (i := 1) (v := ?_) rfl rfl (by kernel_rfl) (by kernel_rfl) (by kernel_rfl) (fun _ _ _ h => h) (Or.inl ⟨by rfl, ?_⟩) (by assumption) ?_
  rotate_left
  · intro w hSw; (try dsimp only at hSw); go_simp; try with_reducible rfl
  try simp only [Act.put, List.setIfInBounds_toArray, List.set_cons_zero, List.set_cons_succ]
  refine take_at (i := 2) (v := ?_) rfl rfl (by kernel_rfl) (by kernel_rfl) (by kernel_rfl) (fun _ _ _ h => h) (Or.inl ⟨by rfl, ?_⟩) (by assumption) ?_
  rotate_left
  · intro w hSw; (try dsimp only at hSw); go_simp; try with_reducible rfl
  try simp only [Act.put, List.setIfInBounds_toArray, List.set_cons_zero, List.set_cons_succ]
  refine take_at (i := 3) (v := ?_) rfl rfl (by kernel_rfl) (by kernel_rfl) (by kernel_rfl) (fun _ _ _ h => h) (Or.inl ⟨by rfl, ?_⟩) (by assumption) ?_
  rotate_left
  · intro w hSw; (try dsimp only at hSw); go_simp; try with_reducible rfl
  try simp only [Act.put, List.setIfInBounds_toArray, List.set_cons_zero, List.set_cons_succ]
  refine take_at (i := 4) (v := ?_) rfl rfl (by kernel_rfl) (by kernel_rfl) (by kernel_rfl) (fun _ _ _ h => h) (Or.inl ⟨by rfl, ?_⟩) (by assumption) ?_
  rotate_left
  · intro w hSw; (try dsimp only at hSw); go_simp; try with_reducible rfl
  try simp only [Act.put, List.setIfInBounds_toArray, List.set_cons_zero, List.set_cons_succ]
  refine take_at (i := 5) (v := ?_) rfl rfl (by kernel_rfl) (by kernel_rfl) (by kernel_rfl) (fun _ _ _ h => h) (Or.inl ⟨by rfl, ?_⟩) (by assumption) ?_
  rotate_left
  · intro w hSw; (try dsimp only at hSw); go_simp; try with_reducible rfl
  try simp only [Act.put, List.setIfInBounds_toArray, List.set_cons_zero, List.set_cons_succ]
  refine wpAnyH_done (by kernel_rfl) (NoPanic.normal ?_) _
  go_wp2_with fail
  generalize hq : World.drew w = wq
  have HMq : Hid (MapSI wq b n f) := by show MapSI _ _ _ _; rw [← hq]; exact HM.out.block rfl
  have hgq : w.grownBy wq (some b) := by rw [← hq]; exact ⟨rfl, rfl, rfl, Nat.le_refl _, fun _ _ _ => rfl⟩
  clear hq HM hl0 hl0d
  go_loopw [5, 6] (fun v k wr => ∃ j : Nat, ∃ cur : ByteArray, j ≤ m + 3 ∧ v = .string cur ∧ k = .int .i64 j ∧ cur.size ≤ 65600 ∧ Hid (TakeI O s R m j cur) ∧ Hid (MapSI wr b n f) ∧ w.grownBy wr (some b)) (fun _ k _ => m + 4 - (intOf k).toNat)
  case atStart => exact ⟨k0, s, by omega, rfl, rfl, by omega, HI, HMq, hgq⟩
  case round =>
    obtain ⟨j, cur, hj, rfl, rfl, hcs, HJ, HMr, hgr⟩ := hrel
    have hl1 := HMr.out.look cur (by unfold maxLen; omega)
    obtain ⟨z, hz⟩ : ∃ z, f cur = z := ⟨_, rfl⟩
    have hzp := HT.out.pos cur
    have hzl := HT.out.le m hO hm cur
    rw [hz] at hl1 hzp hzl
    clear hz
    by_cases hin : cur ∈ O
    · have hsO : s ∈ O := by
        by_cases c : s ∈ O
        · exact c
        · have := HJ.out.1 c; rw [this] at hin; exact absurd hin c
      have hj2 : 2 ≤ j := HJ.out.2.1 hsO
      have hAll : ∀ i, 2 ≤ i → i < j → candB s i ∈ O := fun i h1 h2 => by
        rcases HJ.out.2.2.1 i h1 h2 with h | h
        · exact h
        · rw [h]; exact hin
      have hjm := cand_many O s j m hO hm hj hAll
      have q0 : decide ((0 : Int) < (z : Int)) = true := by have := hzp.2 hin; simp; omega
      have q0n : decide (0 < z) = true := decide_eq_true (hzp.2 hin)
      have CN : Hid (∀ w, _) := fun w => numbered_any s j w hs (by omega)
      obtain ⟨cn, hcn⟩ : ∃ cn, candB s j = cn := ⟨_, rfl⟩
      have hcs2 : cn.size ≤ 65600 := by
        rw [← hcn]; unfold candB
        rw [ByteArray.size_append]
        have h1 := cutR_size s (32 - (tailB j).size)
        have h2 := tailB_size j
        omega
      have HJ' : Hid (TakeI O s R m (j + 1) cn) := by
        refine ⟨fun h => absurd hsO h, fun _ => by omega, fun i h1 h2 => ?_, fun _ => ?_⟩
        · by_cases e : i = j
          · subst e; exact .inr hcn
          · exact .inl (hAll i h1 (by omega))
        · rw [← HJ.out.2.2.2 hsO, ← hcn, show m + 3 - j = m + 3 - (j + 1) + 1 by omega, pickN_more _ _ _ _ _ hin]
      rw [hcn] at CN
      clear hcn hAll HJ hzp hin hsO HI
      go_wp2_with fail
      refine (CN.out _).mono ?_
      rintro e w2 ⟨rfl, hb2⟩
      have HM2 : Hid (MapSI w2 b n f) := HMr.out.below hb2
      have hg2 := grownBy_below hgr hb2
      clear CN hl1 HMr hgr hb2
      go_wp2_with fail
      refine ⟨⟨j + 1, cn, by omega, rfl, by go_num, hcs2, HJ', HM2, hg2⟩, ?_⟩
      simp [intOf]; omega
    · have q0 : decide ((0 : Int) < (z : Int)) = false := by
        have : ¬ 0 < z := fun h => hin (hzp.1 h)
        simp; omega
      have q0n : decide (0 < z) = false := decide_eq_false (fun h => hin (hzp.1 h))
      have hR : R = cur := by
        by_cases c : s ∈ O
        · rw [← HJ.out.2.2.2 c, pickN_stop _ _ _ _ _ hin]
        · rw [← HR.out, pickN_stop _ _ _ _ _ c, HJ.out.1 c]
      subst hR
      have HT2 : Hid (TakenF (fun t => if t = R then 2 else if t = s then j else f t) (O ++ [R])) := HT.out.more s R j HJ.out.1 HJ.out.2.1 HJ.out.2.2.1
      obtain ⟨w2, hp2, M2, g2⟩ := HMr.out.put s j (by unfold maxLen; omega) (by omega) (by unfold maxLen; omega)
      obtain ⟨w3, hp3, M3, g3⟩ := M2.put R 2 (by unfold maxLen; omega) (by omega) (by unfold maxLen; omega)
      rw [show ((2 : Nat) : Int) = 2 from rfl] at hp3
      have hg3 := grownBy_trans (grownBy_trans hgr g2) g3
      have HM3 : Hid (MapSI w3 b (n + 2) (fun t => if t = R then 2 else if t = s then j else f t)) := M3
      clear HJ hzp hin M2 M3 g2 g3 HMr hgr HR HI
      go_wp2_with fail
      go_ret
      exact ⟨_, rfl, HM3.out, HT2.out, hg3⟩

end Go.Proofs.YtebnmghjdoblaaaGreatDoor

/- The code's Distinct. -/
namespace Go.Proofs.YtebnmghjdoblaaaGreatDoor
open Go.RowKit
set_option linter.unusedSimpArgs false

theorem made_texts (w : World) (n : Nat) (hn : n ≤ 1048576) :
    ∃ w', (Instr.makeSlice 67 (.int .i64 (n : Int)) (.int .i64 (n : Int))).run Tryz.prog w = .ok (.slice (some ⟨w.heap.size, 0, none⟩) n n) w' ∧ RowT w' w.heap.size n (fun _ => ⟨#[]⟩) ∧ Below w.heap.size w w' := by
  obtain ⟨i0, hi, hz0, hz1, hz2⟩ := info_parts Tryz.infoS
  have hr := run_make (P := Tryz.prog) w 67 9 i0 (.string ⟨#[]⟩) Tryz.underlying67 hi hz0 .i64 .i64 n n (by omega) (Int.le_refl _) (by rw [hz2]; omega) (by omega)
  rw [hz1, Int.toNat_natCast, Nat.mul_one] at hr
  exact ⟨_, hr, RowT.made w _ n, below_new w _⟩

set_option maxRecDepth 100000 in
set_option maxHeartbeats 4000000 in
theorem ndistinct_any (l : List ByteArray) (a : Option Addr) (n c : Nat) (w : World) (hn : n ≤ 90) (hl : ∀ i, i < n → (strL l i).size ≤ 65536) (hI : StrsAt w a n l) :
    Calls Tryz.prog 69 #[.slice a n c] w fun e w' => ∃ a' c', e = .returned (.slice a' n c') ∧ StrsAt w' a' n (distF l n) ∧ Below w.heap.size w w' := by
  have HI : Hid (StrsAt w a n l) := hI
  have Hl : Hid (∀ i, i < n → (strL l i).size ≤ 65536) := hl
  have hlen := hI.1
  have hmm := @run_makeMap Tryz.prog
  obtain ⟨w2, hmk, R2, hb2⟩ := made_texts (w.alloc (.map #[] 0)) n (by omega)
  have M2 : MapSI w2 w.heap.size 0 (fun _ => 0) := (MapSI.made w).below hb2
  have hsz : (w.alloc (.map #[] 0)).heap.size = w.heap.size + 1 := by simp
  rw [hsz] at hmk R2
  have hB2 : Below w.heap.size w w2 := below_step (below_new w _) (Nat.le_refl _) hb2
  have HM2 : Hid (MapSI w2 w.heap.size 0 (fun _ => 0)) := M2
  have HR2 : Hid (RowT w2 (w.heap.size + 1) n (strL (distF l 0))) := R2
  clear hI hl M2 R2 hb2 hsz
  go_enter Tryz.func69, Tryz.ntmps69
  go_wp2_with fail
  go_loopw [13] (fun i wr => ∃ k : Nat, k ≤ n ∧ i = .int .i64 k ∧ (∃ f, Hid (MapSI wr w.heap.size (2 * k) f) ∧ Hid (TakenF f (distF l k))) ∧ Hid (RowT wr (w.heap.size + 1) n (strL (distF l k))) ∧ Below w.heap.size w wr) (fun i _ => n - (intOf i).toNat)
  case atStart => exact ⟨0, Nat.zero_le _, rfl, ⟨_, HM2, TakenF.nil⟩, HR2, hB2⟩
  case round =>
    obtain ⟨k, hk, rfl, ⟨f, HM, HT⟩, HR, hbl⟩ := hrel
    by_cases hlt : k < n
    · obtain ⟨b, off, rfl, hcl⟩ := (HI.out.below hbl).some (by omega)
      have c0 := hcl k hlt
      have b0 : (k : Int) < (n : Int) := by omega
      have ls := Hl.out k hlt
      have hd := distF_succ l k
      have hdl := distF_length l k
      obtain ⟨O, hO⟩ : ∃ O, O = distF l k := ⟨_, rfl⟩
      rw [← hO] at HT HR hd hdl
      rw [hlen] at hd
      generalize strL l k = s0 at *
      have CT0 := take8_any O f s0 w.heap.size (2 * k) n wr (by omega) hn ls (by omega) HM.out HT.out
      obtain ⟨X, hX⟩ : ∃ X, pickN O s0 (n + 1) 2 s0 = X := ⟨_, rfl⟩
      rw [hX] at CT0 hd
      have CT : Hid (Calls _ _ _ _ _) := CT0
      have HD : Hid (O ++ [X] = distF l (k + 1)) := hd.symm
      have hOl : O.length = k := hdl
      clear CT0 hX hd hdl hcl hO HM HT
      go_wp2_with fail
      refine CT.out.mono ?_
      rintro e w3 ⟨f', rfl, M3, T3, g3⟩
      have R3 : RowT w3 (w.heap.size + 1) n (strL O) := HR.out.block (g3.block _ HR.out.lt (by simp))
      have c3 := R3.cell k hlt
      have f3 := R3.free k hlt
      have R4 := R3.set k X
      rw [show (fun i => if i = k then X else strL O i) = strL (O ++ [X]) by rw [← hOl]; exact strL_snoc O X, HD.out] at R4
      rw [HD.out] at T3
      have B3 : Below w.heap.size w w3 := hbl.grown g3 hbl.size (fun j hj => by cases hj; exact Nat.le_refl _)
      have B4 : Below w.heap.size w (w3.setCell ⟨w.heap.size + 1, k, none⟩ (.string X)) := B3.setCell (by show w.heap.size ≤ w.heap.size + 1; omega) _
      have HM4 : Hid (MapSI (w3.setCell ⟨w.heap.size + 1, k, none⟩ (.string X)) w.heap.size (2 * (k + 1)) f') := M3.block (heap_setCell_other _ _ _ _ (by show w.heap.size ≠ w.heap.size + 1; omega))
      have HT4 : Hid (TakenF f' (distF l (k + 1))) := T3
      have HR4 : Hid (RowT (w3.setCell ⟨w.heap.size + 1, k, none⟩ (.string X)) (w.heap.size + 1) n (strL (distF l (k + 1)))) := R4
      clear CT c0 M3 T3 g3 R3 R4 B3 HR HD hbl
      go_wp2_with fail
      refine ⟨⟨k + 1, by omega, by go_num, ⟨f', HM4, HT4⟩, HR4, B4⟩, ?_⟩
      simp [intOf]; omega
    · have hk' : k = n := by omega
      subst hk'
      have hS := HR.out.strs (distF_length l k)
      go_wp2_with fail
      go_ret
      exact ⟨_, _, rfl, hS, hbl⟩

end Go.Proofs.YtebnmghjdoblaaaGreatDoor
