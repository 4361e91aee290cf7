import Derived.Test.YtfbgofbjbfidoaaDoorInts
namespace Go.Proofs.YtfbgofbjbfidoaaDoor
open Go.RowKit

/-- The byte at a place of words, from as far up as sh says. -/
def pb (l : List Int) (sh : Nat → Nat) (j : Nat) : Nat := (l.getD (j / 4) 0 / ((2 ^ sh j : Nat) : Int) % 256).toNat
theorem pb_lt (l : List Int) (sh : Nat → Nat) (j : Nat) : pb l sh j < 256 := by unfold pb; omega
theorem pb_int (l : List Int) (sh : Nat → Nat) (j : Nat) : ((pb l sh j : Nat) : Int) = l.getD (j / 4) 0 / ((2 ^ sh j : Nat) : Int) % 256 := by unfold pb; omega
def putL (l : List Int) (sh : Nat → Nat) : List UInt8 := bytesOf (4 * l.length) (pb l sh)
def putAt (l : List Int) (sh : Nat → Nat) (k j : Nat) : Int := if j < k then (pb l sh j : Int) else 0
theorem putAt_zero (l : List Int) (sh : Nat → Nat) (j : Nat) : putAt l sh 0 j = 0 := by simp [putAt]
theorem putAt_set (l : List Int) (sh : Nat → Nat) (n j : Nat) : (tab n (putAt l sh j)).set j (pb l sh j : Int) = tab n (putAt l sh (j + 1)) := by
  refine tab_set _ _ _ _ _ (by unfold putAt; rw [if_pos (by omega)]) (fun i _ hne => ?_)
  unfold putAt
  by_cases h : i < j
  · rw [if_pos h, if_pos (by omega)]
  · rw [if_neg h, if_neg (by omega)]
theorem putAt_end (l : List Int) (sh : Nat → Nat) (n : Nat) (hn : l.length = n) : tab (4 * n) (putAt l sh (4 * n)) = nums (putL l sh) := by
  unfold putL
  rw [nums_bytesOf _ _ (fun i _ => pb_lt l sh i), hn]
  exact tab_congr _ _ _ (fun i hi => by unfold putAt; rw [if_pos hi])

set_option maxHeartbeats 2000000 in
theorem put_big (a : Option Addr) (n c : Nat) (l : List Int) (w : World) (hn : n ≤ 262144) (hI : IntsAt w .i64 a n l) :
    Calls Tryd.prog 39 #[.slice a n c, .func (Fn.func 40) #[] #[]] w fun e w' => e = .returned (.string ⟨(putL l bsh).toArray⟩) ∧ Below w.heap.size w w' := by
  have HI : Hid (IntsAt w .i64 a n l) := hI
  clear hI
  obtain ⟨i0, hi, hz0, hz1, hz2⟩ := info_parts Tryd.info5
  go_enter Tryd.func39, Tryd.ntmps39
  go_wp2_with (at_make; refine wpList_make_full _ rfl _ _ 26 rfl w.heap.size 5 i0 (.int .u8 0) 1 Tryd.underlying26 hi hz0 hz1 _ _ _ _ (4 * n) rfl rfl ?b4 ?b5 ?b1 ?b2 ?b3 ?_)
  case b1 => rw [hz2]; omega
  case b2 => unfold maxLen; omega
  case b3 => omega
  case b4 => omega
  case b5 => omega
  intro w1 hown0 hgrow
  have hown : Own w1 w.heap.size 5 .u8 w.heap.size (4 * n) (tab (4 * n) (putAt l bsh 0)) := Own.made' _ (fun i _ => putAt_zero l bsh i) hown0
  have hbl : Below w.heap.size w w1 := (Below.refl _ _).grown hgrow (Nat.le_refl _) (fun k hk => by cases hk)
  clear hown0 hgrow hi hz0 hz1 hz2
  go_wp2
  go_loopw [13] (fun i wr => ∃ k : Nat, k ≤ 4 * n ∧ i = .int .i64 k ∧ Own wr w.heap.size 5 .u8 w.heap.size (4 * n) (tab (4 * n) (putAt l bsh k)) ∧ Below w.heap.size w wr) (fun i _ => 4 * n - (intOf i).toNat)
  case atStart => exact ⟨0, Nat.zero_le _, rfl, hown, hbl⟩
  case round =>
    clear hown hbl
    obtain ⟨k, hk, rfl, hown, hbl⟩ := hrel
    by_cases hlt : k < 4 * n
    · obtain ⟨b, off, rfl, hcl⟩ : ∃ b off, a = some ⟨b, off, none⟩ ∧ ∀ i, i < n → w.cell? ⟨b, off + i, none⟩ = some (.int .i64 (l.getD i 0)) := by
        rcases HI.out.2 with h0 | h1
        · omega
        · exact h1
      obtain ⟨x, hx⟩ : ∃ x, x = l.getD (k / 4) 0 := ⟨_, rfl⟩
      have h1 := hcl (k / 4) (by omega)
      have hlb := World.block_lt_of_cell? w _ h1
      have g1 : wr.cell? ⟨b, off + k / 4, none⟩ = some (.int .i64 x) := by
        rw [hbl.cell (p := ⟨b, off + k / 4, none⟩) hlb, h1, hx]
      have HX : Hid (x = l.getD (k / 4) 0) := hx
      clear hx h1 hcl
      have hc := hown.cell k hlt
      rw [tab_getD _ _ _ hlt] at hc
      have hf := hown.free k
      have hq0 : (0 : Int) ≤ (k : Int) / 4 := by omega
      have hq1 : (k : Int) / 4 < (n : Int) := by omega
      have hq2 : IntKind.i64.wrap ((k : Int) / 4) = (k : Int) / 4 := wrap_nat (k / 4) (by omega)
      have hq4 : ((k : Int) / 4).toNat = k / 4 := by omega
      go_wp2
      go_region_with (go_at_call 40; refine (bigShift_any k _ (by omega)).mono ?_; rintro e w' ⟨rfl, rfl⟩)
      all_goals
        have TB : Hid (x / 2 ^ (24 - 8 * (k % 4)) % 256 = ((pb l bsh k : Nat) : Int)) := by
          show _ = _
          rw [pb_int, HX.out, Int.natCast_pow]; rfl
        have HO := hown.set k ((pb l bsh k : Nat) : Int)
        rw [putAt_set] at HO
        have HB := hbl.setCell (p := ⟨w.heap.size, k, none⟩) (Nat.le_refl _) (Value.int .u8 ((pb l bsh k : Nat) : Int))
        go_wp2
        go_roundw
        case rel =>
          rw [TB.out]
          exact ⟨k + 1, by omega, by go_num, HO, HB.drew⟩
        case measure => simp [intOf]; omega
    · have hk' : k = 4 * n := by omega
      subst hk'
      rw [putAt_end l bsh n HI.out.1] at hown
      have hcv := Own.conv (P := Tryd.prog) 26 9 hown Tryd.underlying26 Tryd.underlying5 Tryd.underlying9
      clear hown
      go_wp2
      go_ret
      exact ⟨rfl, hbl⟩

set_option maxHeartbeats 400000 in
theorem putBig_any (a : Option Addr) (n c : Nat) (l : List Int) (w : World) (hn : n ≤ 262144) (hI : IntsAt w .i64 a n l) :
    Calls Tryd.prog 25 #[.slice a n c] w fun e w' => e = .returned (.string ⟨(putL l bsh).toArray⟩) ∧ Below w.heap.size w w' := by
  have HI : Hid (IntsAt w .i64 a n l) := hI
  clear hI
  go_enter Tryd.func25, Tryd.ntmps25
  go_wp2_with fail
  refine (put_big a n c l _ hn HI.out).mono ?_
  rintro e w1 ⟨rfl, hb1⟩
  go_wp2_with fail
  go_ret
  exact ⟨rfl, hb1⟩

set_option maxHeartbeats 400000 in
theorem big_odd (s : ByteArray) (w : World) (hs : s.size ≤ 1048576) (h : ¬ s.size % 4 = 0) :
    Calls Tryd.prog 49 #[.string s] w fun e w' => e = .returned (.tuple #[.slice none 0 0, .int .i64 1]) ∧ Below w.heap.size w w' := by
  go_enter Tryd.func49, Tryd.ntmps49
  go_wp2_with fail
  refine (take_odd s _ _ hs h).mono ?_
  rintro e w1 ⟨rfl, hb1⟩
  go_wp2_with fail
  go_ret2
  exact ⟨rfl, hb1⟩

set_option maxHeartbeats 400000 in
theorem big_even (s : ByteArray) (w : World) (hs : s.size ≤ 1048576) (h : s.size % 4 = 0) :
    Calls Tryd.prog 49 #[.string s] w fun e w' => e = .returned (.tuple #[.slice (some ⟨w.heap.size, 0, none⟩) (s.size / 4) (s.size / 4), .int .i64 0]) ∧
      Own w' w.heap.size 3 .i64 w.heap.size (s.size / 4) (wordsL s bsh) ∧ Below w.heap.size w w' := by
  go_enter Tryd.func49, Tryd.ntmps49
  go_wp2_with fail
  refine (take_big s _ hs h).mono ?_
  rintro e w1 ⟨rfl, ho, hb1⟩
  go_wp2_with fail
  go_ret2
  exact ⟨rfl, ho, hb1⟩

end Go.Proofs.YtfbgofbjbfidoaaDoor
