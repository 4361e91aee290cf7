import Derived.Test.YtogbkfakihnbdaaGreatDoorG
import Derived.Laws.ResultCell
/- Structs by value; the document's with (layer 9). -/
namespace Go.Proofs.YtogbkfakihnbdaaGreatDoor
open Go.RowKit
set_option linter.unusedSimpArgs false

def layP (o : ByteArray × Bool) (s : ByteArray) (ok : Bool) : ByteArray × Bool := if ok = true ∧ o.2 = false ∧ o.1.size + s.size ≤ 65536 then (o.1 ++ s, false) else (o.1, true)

/-- A number as so many bytes, the highest first. -/
def bigF (n : Int) (many j : Nat) : Nat := (n / 2 ^ (8 * (many - 1 - j)) % 256).toNat

theorem bigF_lt (n : Int) (many j : Nat) : bigF n many j < 256 := by unfold bigF; omega

def bigB (n : Int) (many : Nat) : ByteArray := ⟨(bytesOf many (bigF n many)).toArray⟩

theorem bigB_size (n : Int) (many : Nat) : (bigB n many).size = many := by
  show (bytesOf many _).toArray.size = _
  rw [List.size_toArray, bytesOf_length]

end Go.Proofs.YtogbkfakihnbdaaGreatDoor

/- The document's Byte, Num (layer 9). -/
namespace Go.Proofs.YtogbkfakihnbdaaGreatDoor
open Go.RowKit
set_option linter.unusedSimpArgs false

def oneOk (n most : Int) : Bool := decide (0 ≤ n) && decide (n ≤ most)

def numP (o : ByteArray × Bool) (n : Int) (many : Nat) (most : Int) : ByteArray × Bool := layP o (bigB n many) (oneOk n most)

end Go.Proofs.YtogbkfakihnbdaaGreatDoor

/- The document's Num (layer 9). -/
namespace Go.Proofs.YtogbkfakihnbdaaGreatDoor
open Go.RowKit
set_option linter.unusedSimpArgs false

end Go.Proofs.YtogbkfakihnbdaaGreatDoor

/- The document's Text, Done (layer 9). -/
namespace Go.Proofs.YtogbkfakihnbdaaGreatDoor
open Go.RowKit
set_option linter.unusedSimpArgs false

def textP (o : ByteArray × Bool) (s : ByteArray) : ByteArray × Bool := if 65535 < s.size then layP o ⟨#[]⟩ false else layP o (bigB (s.size : Int) 2 ++ s) true

def doneP (o : ByteArray × Bool) : Value := if o.2 then .tuple #[.string ⟨#[]⟩, .int .i64 1] else .tuple #[.string o.1, .int .i64 0]

end Go.Proofs.YtogbkfakihnbdaaGreatDoor

/- The document's wrong, number (layer 9). -/
namespace Go.Proofs.YtogbkfakihnbdaaGreatDoor
open Go.RowKit
set_option linter.unusedSimpArgs false

/-- An In on plain data; one with which something is wrong. -/
def inV (i : ByteArray × Int) : Value := .agg #[.string i.1, .int .i64 i.2]

def wrongP (i : ByteArray × Int) (e : Int) : ByteArray × Int := (⟨#[]⟩, if i.2 = 0 then e else i.2)

set_option maxRecDepth 100000 in
set_option maxHeartbeats 2000000 in
theorem rwrong_any (i : ByteArray × Int) (e : Int) (w : World) :
    Calls Tryz.prog 48 #[inV i, .int .i64 e] w fun x w' => x = .returned (inV (wrongP i e)) ∧ Below w.heap.size w w' := by
  obtain ⟨S, c⟩ := i
  show Calls Tryz.prog _ #[.agg #[.string S, .int .i64 c], .int .i64 e] w _
  unfold inV wrongP
  by_cases hc : c = 0
  · subst hc
    show Calls Tryz.prog _ _ w fun x w' => x = .returned (.agg #[.string ⟨#[]⟩, .int .i64 e]) ∧ Below w.heap.size w w'
    go_enter Tryz.func48, Tryz.ntmps48
    go_wp2
    exact bodyPost_row rfl (w.heap.size + 1) #[.string ⟨#[]⟩, .int .i64 e] rfl rfl (Blk.new' _ _ _ _ (by simp)) _ Tryz.underlying55 rfl (by kernel_rfl) ⟨rfl, (below_new w _).alloc (by simp) _⟩
  · show Calls Tryz.prog _ _ w fun x w' => x = .returned (.agg #[.string ⟨#[]⟩, .int .i64 (if c = 0 then e else c)]) ∧ Below w.heap.size w w'
    rw [if_neg hc]
    have g0 : (c == 0) = false := by rw [beq_eq_false_iff_ne]; exact hc
    go_enter Tryz.func48, Tryz.ntmps48
    go_wp2
    exact bodyPost_row rfl (w.heap.size + 1) #[.string ⟨#[]⟩, .int .i64 c] rfl rfl (Blk.new' _ _ _ _ (by simp)) _ Tryz.underlying55 rfl (by kernel_rfl) ⟨rfl, (below_new w _).alloc (by simp) _⟩

/-- The number of the first k bytes, the highest first. -/
def accB (s : ByteArray) : Nat → Nat
  | 0 => 0
  | k + 1 => accB s k * 256 + bt s k

theorem accB_lt (s : ByteArray) (k : Nat) : accB s k < 256 ^ k := by
  induction k with
  | zero => show 0 < 1; omega
  | succ k ih =>
    show accB s k * 256 + bt s k < _
    have := bt_lt s k
    rw [Nat.pow_succ]; omega

def numberP (i : ByteArray × Int) (many : Nat) : (ByteArray × Int) × Nat := if i.2 ≠ 0 ∨ i.1.size < many then (wrongP i 90, 0) else ((i.1.extract many i.1.size, i.2), accB i.1 many)

theorem or256 (X y : Nat) (hX : X < 281474976710656) (hy : y < 256) : bits .or .i64 ((X : Int) * 256) (y : Int) = ((X * 256 + y : Nat) : Int) := by
  have e : (X : Int) * 256 = ((X * 256 : Nat) : Int) := by simp
  rw [e, i64_or_nat _ _ (by omega) (by omega)]
  have h := Nat.two_pow_add_eq_or_of_lt (i := 8) (b := y) (by omega) X
  rw [show X * 256 = 2 ^ 8 * X by omega, ← h]

set_option maxRecDepth 100000 in
set_option maxHeartbeats 4000000 in
theorem rnumber_any (i : ByteArray × Int) (many : Nat) (w : World) (hm : many ≤ 6) (hs : i.1.size ≤ 1048576) :
    Calls Tryz.prog 47 #[inV i, .int .i64 (many : Int)] w fun x w' => x = .returned (.tuple #[inV (numberP i many).1, .int .i64 ((numberP i many).2 : Int)]) ∧ Below w.heap.size w w' := by
  obtain ⟨S, c⟩ := i
  have hS : S.size ≤ 1048576 := hs
  clear hs
  show Calls Tryz.prog _ #[.agg #[.string S, .int .i64 c], .int .i64 (many : Int)] w _
  have CW' := fun w => rwrong_any (S, c) 90 w
  obtain ⟨⟨S', c'⟩, hR⟩ : ∃ r, r = wrongP (S, c) 90 := ⟨_, rfl⟩
  rw [← hR] at CW'
  have CW : Hid (∀ w, Calls Tryz.prog 48 #[.agg #[.string S, .int .i64 c], .int .i64 90] w fun x w' => x = .returned (.agg #[.string S', .int .i64 c']) ∧ Below w.heap.size w w') := CW'
  have A1 : Hid (Blk ((w.alloc (.cells #[.string S, .int .i64 c] 55)).alloc (.cells #[.string ⟨#[]⟩, .int .i64 0] 55)) 55 (w.heap.size + 1) #[.string ⟨#[]⟩, .int .i64 0]) := Blk.new' _ _ _ _ (by simp)
  have AB : Below w.heap.size w ((w.alloc (.cells #[.string S, .int .i64 c] 55)).alloc (.cells #[.string ⟨#[]⟩, .int .i64 0] 55)) := (below_new w _).alloc (by simp) _
  by_cases hc : c = 0
  · by_cases hz : S.size < many
    · have hRes : numberP (S, c) many = ((S', c'), 0) := by unfold numberP; rw [if_pos (Or.inr hz), hR]
      rw [hRes]
      subst hc
      have g1 : decide ((S.size : Int) < (many : Int)) = true := by simp; omega
      have g2 : decide (S.size < many) = true := by simp; exact hz
      clear CW' hR hRes hz
      go_enter Tryz.func47, Tryz.ntmps47
      go_wp2_with fail
      refine (CW.out _).mono ?_
      rintro e w1 ⟨rfl, hb1⟩
      have A2 := A1.out.on hb1
      have B1 := below_step AB (Nat.le_refl _) hb1
      clear CW A1 AB hb1
      go_wp2_with (with_reducible refine wpList_storeBlk rfl 55 _ _ rfl (w.heap.size + 1) #[.string ⟨#[]⟩, .int .i64 0] #[.string S', .int .i64 c'] ?hx ?hy A2 rfl ?hi ?h1 ?_)
      try (case hx => rfl)
      try (case hy => rfl)
      try (case hi => kernel_rfl)
      try (case h1 => simp [Value.oneCell'])
      exact bodyPost_rowTmp rfl (w.heap.size + 1) #[.string S', .int .i64 c'] (.int .i64 0) rfl rfl rfl (A2.setRow _) _ Tryz.underlying55 rfl (by kernel_rfl) ⟨rfl, below_setRow B1 (by omega) _⟩
    · have hRes : numberP (S, c) many = ((S.extract many S.size, c), accB S many) := by unfold numberP; rw [if_neg (fun h => h.elim (fun h => h hc) hz)]
      rw [hRes]
      subst hc
      have g1 : decide ((S.size : Int) < (many : Int)) = false := by simp; omega
      have g2 : decide (S.size < many) = false := by simp; omega
      obtain ⟨T, hT⟩ : ∃ T, S.extract many S.size = T := ⟨_, rfl⟩
      rw [hT]
      have HL : Hid (∀ k, k ≤ 6 → accB S k < 281474976710656) := fun k hk => Nat.lt_of_lt_of_le (accB_lt S k) (Nat.le_trans (Nat.pow_le_pow_right (by decide) hk) (by decide))
      have HA : Hid (∀ k, accB S (k + 1) = accB S k * 256 + bt S k) := fun k => rfl
      have H0 : Hid (accB S 0 = 0) := rfl
      obtain ⟨f, Hf⟩ : ∃ f, Hid (f = accB S) := ⟨_, rfl⟩
      rw [← Hf.out] at HL HA H0
      rw [← Hf.out]
      obtain ⟨V, HV⟩ : ∃ V, Hid (V = f many) := ⟨_, rfl⟩
      rw [← HV.out]
      have i1 : (many : Int) ≤ (S.size : Int) := by omega
      have i2 : many ≤ S.size := by omega
      clear CW' hR hRes CW Hf
      go_enter Tryz.func47, Tryz.ntmps47
      go_wp2_with fail
      go_loopw [6, 7] (fun x k wr => ∃ j X : Nat, j ≤ many ∧ k = .int .i64 j ∧ x = .int .i64 (X : Int) ∧ Hid (X = f j) ∧ wr = ((w.alloc (.cells #[.string S, .int .i64 0] 55)).alloc (.cells #[.string ⟨#[]⟩, .int .i64 0] 55))) (fun _ k _ => many - (intOf k).toNat)
      case atStart => exact ⟨0, 0, Nat.zero_le _, rfl, rfl, H0.out.symm, rfl⟩
      case round =>
        obtain ⟨j, X, hj, rfl, rfl, HX, rfl⟩ := hrel
        by_cases hlt : j < many
        · have hin : j < S.size := by omega
          have bk := bt_get S j hin
          have lb := bt_lt S j
          have lX : X < 281474976710656 := by rw [HX.out]; exact HL.out j (by omega)
          have HN : Hid (X * 256 + bt S j = f (j + 1)) := by show _ = _; rw [HA.out, HX.out]
          have v2 := or256 X (bt S j) lX lb
          have b0 : (j : Int) < (many : Int) := by omega
          generalize bt S j = y at *
          obtain ⟨U, hU⟩ : ∃ U, U = X * 256 + y := ⟨_, rfl⟩
          rw [← hU] at v2 HN
          clear hU HX
          go_wp2
          refine ⟨⟨j + 1, U, by omega, by go_num, rfl, HN, by first | rfl | trivial⟩, ?_⟩
          simp [intOf]; omega
        · have hjm : j = many := by omega
          subst hjm
          have hX : X = V := by rw [HX.out, HV.out]
          subst hX
          clear HX HV
          go_wp2
          exact bodyPost_rowTmp rfl (w.heap.size + 1) #[.string T, .int .i64 0] (.int .i64 (X : Int)) rfl rfl rfl (Blk.new' _ _ _ _ (by simp)) _ Tryz.underlying55 rfl (by kernel_rfl) ⟨rfl, (below_new w _).alloc (by simp) _⟩
  · have hRes : numberP (S, c) many = ((S', c'), 0) := by unfold numberP; rw [if_pos (Or.inl hc), hR]
    rw [hRes]
    have g0 : (c != 0) = true := by rw [bne_iff_ne]; exact hc
    clear CW' hR hRes hc
    go_enter Tryz.func47, Tryz.ntmps47
    go_wp2_with fail
    refine (CW.out _).mono ?_
    rintro e w1 ⟨rfl, hb1⟩
    have A2 := A1.out.on hb1
    have B1 := below_step AB (Nat.le_refl _) hb1
    clear CW A1 AB hb1
    go_wp2_with (with_reducible refine wpList_storeBlk rfl 55 _ _ rfl (w.heap.size + 1) #[.string ⟨#[]⟩, .int .i64 0] #[.string S', .int .i64 c'] ?hx ?hy A2 rfl ?hi ?h1 ?_)
    try (case hx => rfl)
    try (case hy => rfl)
    try (case hi => kernel_rfl)
    try (case h1 => simp [Value.oneCell'])
    exact bodyPost_rowTmp rfl (w.heap.size + 1) #[.string S', .int .i64 c'] (.int .i64 0) rfl rfl rfl (A2.setRow _) _ Tryz.underlying55 rfl (by kernel_rfl) ⟨rfl, below_setRow B1 (by omega) _⟩

end Go.Proofs.YtogbkfakihnbdaaGreatDoor

/- The document's InNum, InDone (layer 9). -/
namespace Go.Proofs.YtogbkfakihnbdaaGreatDoor
open Go.RowKit
set_option linter.unusedSimpArgs false

def inNumP (i : ByteArray × Int) : (ByteArray × Int) × Nat := if 1099511627775 < (numberP i 6).2 then (wrongP (numberP i 6).1 91, 0) else numberP i 6

set_option maxRecDepth 100000 in
set_option maxHeartbeats 4000000 in
theorem rinNum_any (i : ByteArray × Int) (w : World) (hs : i.1.size ≤ 1048576) :
    Calls Tryz.prog 21 #[inV i] w fun x w' => x = .returned (.tuple #[inV (inNumP i).1, .int .i64 ((inNumP i).2 : Int)]) ∧ Below w.heap.size w w' := by
  have CN' := fun w => rnumber_any i 6 w (by decide) hs
  obtain ⟨⟨⟨S1, c1⟩, n⟩, hR⟩ : ∃ r, r = numberP i 6 := ⟨_, rfl⟩
  have hdef : inNumP i = if 1099511627775 < n then (wrongP (S1, c1) 91, 0) else ((S1, c1), n) := by unfold inNumP; rw [← hR]
  have hnl : n < 281474976710656 := by
    have h : n = (numberP i 6).2 := by rw [← hR]
    rw [h]
    unfold numberP
    split
    · show 0 < 281474976710656; decide
    · exact accB_lt i.1 6
  rw [hdef]
  rw [← hR] at CN'
  obtain ⟨S, c⟩ := i
  have CN : Hid (∀ w, Calls Tryz.prog 47 #[.agg #[.string S, .int .i64 c], .int .i64 6] w fun x w' => x = .returned (.tuple #[.agg #[.string S1, .int .i64 c1], .int .i64 (n : Int)]) ∧ Below w.heap.size w w') := CN'
  clear CN' hR hdef hs
  show Calls Tryz.prog _ #[.agg #[.string S, .int .i64 c]] w _
  have A1 : Hid (Blk ((w.alloc (.cells #[.string S, .int .i64 c] 55)).alloc (.cells #[.string ⟨#[]⟩, .int .i64 0] 55)) 55 (w.heap.size + 1) #[.string ⟨#[]⟩, .int .i64 0]) := Blk.new' _ _ _ _ (by simp)
  have AB : Below w.heap.size w ((w.alloc (.cells #[.string S, .int .i64 c] 55)).alloc (.cells #[.string ⟨#[]⟩, .int .i64 0] 55)) := (below_new w _).alloc (by simp) _
  by_cases hbig : 1099511627775 < n
  · rw [if_pos hbig]
    have CW' := fun w => rwrong_any (S1, c1) 91 w
    obtain ⟨⟨S9, c9⟩, hR9⟩ : ∃ r, r = wrongP (S1, c1) 91 := ⟨_, rfl⟩
    rw [← hR9] at CW' ⊢
    have CW : Hid (∀ w, Calls Tryz.prog 48 #[.agg #[.string S1, .int .i64 c1], .int .i64 91] w fun x w' => x = .returned (.agg #[.string S9, .int .i64 c9]) ∧ Below w.heap.size w w') := CW'
    have g0 : decide ((1099511627775 : Int) < (n : Int)) = true := by simp; omega
    clear CW' hR9 hbig
    show Calls Tryz.prog _ _ w fun x w' => x = .returned (.tuple #[.agg #[.string S9, .int .i64 c9], .int .i64 0]) ∧ Below w.heap.size w w'
    go_enter Tryz.func21, Tryz.ntmps21
    go_wp2_with fail
    refine (CN.out _).mono ?_
    rintro e w1 ⟨rfl, hb1⟩
    have A2 := A1.out.on hb1
    have B1 := below_step AB (Nat.le_refl _) hb1
    have A3 : Hid (Blk (w1.alloc (.cells #[.string S1, .int .i64 c1] 55)) 55 (w.heap.size + 1) #[.string ⟨#[]⟩, .int .i64 0]) := A2.alloc _
    have B2 : Below w.heap.size w (w1.alloc (.cells #[.string S1, .int .i64 c1] 55)) := B1.alloc B1.size _
    clear CN A1 AB hb1 A2 B1
    go_wp2_with fail
    refine (CW.out _).mono ?_
    rintro e w2 ⟨rfl, hb2⟩
    have A9 : Hid (Blk w2 55 (w.heap.size + 1) #[.string ⟨#[]⟩, .int .i64 0]) := A3.out.on hb2
    have B9 := below_step B2 (Nat.le_refl _) hb2
    clear CW A3 B2 hb2
    go_wp2_with (with_reducible refine wpList_storeBlk rfl 55 _ _ rfl (w.heap.size + 1) #[.string ⟨#[]⟩, .int .i64 0] #[.string S9, .int .i64 c9] ?hx ?hy A9.out rfl ?hi ?h1 ?_)
    try (case hx => rfl)
    try (case hy => rfl)
    try (case hi => kernel_rfl)
    try (case h1 => simp [Value.oneCell'])
    exact bodyPost_rowTmp rfl (w.heap.size + 1) #[.string S9, .int .i64 c9] (.int .i64 0) rfl rfl rfl (A9.out.setRow _) _ Tryz.underlying55 rfl (by kernel_rfl) ⟨rfl, below_setRow B9 (by omega) _⟩
  · rw [if_neg hbig]
    have g0 : decide ((1099511627775 : Int) < (n : Int)) = false := by simp; omega
    clear hbig
    show Calls Tryz.prog _ _ w fun x w' => x = .returned (.tuple #[.agg #[.string S1, .int .i64 c1], .int .i64 (n : Int)]) ∧ Below w.heap.size w w'
    obtain ⟨S9, h9⟩ : ∃ S9, S9 = S1 := ⟨_, rfl⟩
    obtain ⟨c9, h9'⟩ : ∃ c9, c9 = c1 := ⟨_, rfl⟩
    rw [← h9, ← h9'] at CN ⊢
    clear h9 h9'
    go_enter Tryz.func21, Tryz.ntmps21
    go_wp2_with fail
    refine (CN.out _).mono ?_
    rintro e w1 ⟨rfl, hb1⟩
    have A2 := A1.out.on hb1
    have B1 := below_step AB (Nat.le_refl _) hb1
    have A9 : Hid (Blk (w1.alloc (.cells #[.string S9, .int .i64 c9] 55)) 55 (w.heap.size + 1) #[.string ⟨#[]⟩, .int .i64 0]) := A2.alloc _
    have B9 : Below w.heap.size w (w1.alloc (.cells #[.string S9, .int .i64 c9] 55)) := B1.alloc B1.size _
    clear CN A1 AB hb1 A2 B1
    go_wp2_with (with_reducible refine wpList_storeBlk rfl 55 _ _ rfl (w.heap.size + 1) #[.string ⟨#[]⟩, .int .i64 0] #[.string S9, .int .i64 c9] ?hx ?hy A9.out rfl ?hi ?h1 ?_)
    try (case hx => rfl)
    try (case hy => rfl)
    try (case hi => kernel_rfl)
    try (case h1 => simp [Value.oneCell'])
    go_wp2_with fail
    exact bodyPost_rowTmp rfl (w.heap.size + 1) #[.string S9, .int .i64 c9] (.int .i64 (n : Int)) rfl rfl rfl (A9.out.setRow _) _ Tryz.underlying55 rfl (by kernel_rfl) ⟨rfl, below_setRow B9 (by omega) _⟩

end Go.Proofs.YtogbkfakihnbdaaGreatDoor

/- The document's InByte, InDone, InText (layer 9). -/
namespace Go.Proofs.YtogbkfakihnbdaaGreatDoor
open Go.RowKit
set_option linter.unusedSimpArgs false

def inDoneP (i : ByteArray × Int) : Int := if i.2 = 0 ∧ ¬ i.1.size = 0 then 91 else i.2

theorem empty_yes (s : ByteArray) (h : s.size = 0) : s.toList.isEmpty = true := by
  rw [toList_data]
  have : s.data.size = 0 := h
  rw [Array.eq_empty_of_size_eq_zero this]; rfl

theorem empty_no (s : ByteArray) (h : ¬ s.size = 0) : s.toList.isEmpty = false := by
  rw [toList_data]
  cases hq : s.data.toList with
  | nil =>
    have h2 : s.data.toList.length = 0 := by rw [hq]; rfl
    rw [Array.length_toList] at h2
    exact absurd h2 h
  | cons a l => rfl

set_option maxHeartbeats 1000000 in
theorem rinDone_any (i : ByteArray × Int) (w : World) :
    Calls Tryz.prog 24 #[inV i] w fun x w' => x = .returned (.int .i64 (inDoneP i)) ∧ Below w.heap.size w w' := by
  obtain ⟨S, c⟩ := i
  show Calls Tryz.prog _ #[.agg #[.string S, .int .i64 c]] w _
  unfold inDoneP
  by_cases hc : c = 0
  · subst hc
    by_cases hz : S.size = 0
    · rw [if_neg (fun h => h.2 hz)]
      have g0 := empty_yes S hz
      show Calls Tryz.prog _ _ w fun x w' => x = .returned (.int .i64 0) ∧ Below w.heap.size w w'
      clear hz
      go_enter Tryz.func24, Tryz.ntmps24
      go_wp2
      go_ret
      exact ⟨rfl, below_new w _⟩
    · rw [if_pos ⟨rfl, hz⟩]
      have g0 := empty_no S hz
      clear hz
      go_enter Tryz.func24, Tryz.ntmps24
      go_wp2
      go_ret
      exact ⟨rfl, below_new w _⟩
  · rw [if_neg (fun h => hc h.1)]
    have g0 : (c == 0) = false := by rw [beq_eq_false_iff_ne]; exact hc
    show Calls Tryz.prog _ _ w fun x w' => x = .returned (.int .i64 c) ∧ Below w.heap.size w w'
    clear hc
    go_enter Tryz.func24, Tryz.ntmps24
    go_wp2
    go_ret
    exact ⟨rfl, below_new w _⟩

set_option maxRecDepth 100000 in
set_option maxHeartbeats 4000000 in
theorem rinByte_any (i : ByteArray × Int) (w : World) (hs : i.1.size ≤ 1048576) :
    Calls Tryz.prog 49 #[inV i] w fun x w' => x = .returned (.tuple #[inV (numberP i 1).1, .int .i64 ((numberP i 1).2 : Int)]) ∧ Below w.heap.size w w' := by
  have CN' := fun w => rnumber_any i 1 w (by decide) hs
  obtain ⟨⟨⟨S9, c9⟩, n⟩, hR⟩ : ∃ r, r = numberP i 1 := ⟨_, rfl⟩
  rw [← hR] at CN' ⊢
  obtain ⟨S, c⟩ := i
  have CN : Hid (∀ w, Calls Tryz.prog 47 #[.agg #[.string S, .int .i64 c], .int .i64 1] w fun x w' => x = .returned (.tuple #[.agg #[.string S9, .int .i64 c9], .int .i64 (n : Int)]) ∧ Below w.heap.size w w') := CN'
  clear CN' hR hs
  show Calls Tryz.prog _ #[.agg #[.string S, .int .i64 c]] w fun x w' => x = .returned (.tuple #[.agg #[.string S9, .int .i64 c9], .int .i64 (n : Int)]) ∧ Below w.heap.size w w'
  have A1 : Hid (Blk ((w.alloc (.cells #[.string S, .int .i64 c] 55)).alloc (.cells #[.string ⟨#[]⟩, .int .i64 0] 55)) 55 (w.heap.size + 1) #[.string ⟨#[]⟩, .int .i64 0]) := Blk.new' _ _ _ _ (by simp)
  have AB : Below w.heap.size w ((w.alloc (.cells #[.string S, .int .i64 c] 55)).alloc (.cells #[.string ⟨#[]⟩, .int .i64 0] 55)) := (below_new w _).alloc (by simp) _
  go_enter Tryz.func49, Tryz.ntmps49
  go_wp2_with fail
  refine (CN.out _).mono ?_
  rintro e w1 ⟨rfl, hb1⟩
  have A9 : Hid (Blk w1 55 (w.heap.size + 1) #[.string ⟨#[]⟩, .int .i64 0]) := A1.out.on hb1
  have B9 := below_step AB (Nat.le_refl _) hb1
  clear CN A1 AB hb1
  go_wp2_with (with_reducible refine wpList_storeBlk rfl 55 _ _ rfl (w.heap.size + 1) #[.string ⟨#[]⟩, .int .i64 0] #[.string S9, .int .i64 c9] ?hx ?hy A9.out rfl ?hi ?h1 ?_)
  try (case hx => rfl)
  try (case hy => rfl)
  try (case hi => kernel_rfl)
  try (case h1 => simp [Value.oneCell'])
  go_wp2_with fail
  exact bodyPost_rowTmp rfl (w.heap.size + 1) #[.string S9, .int .i64 c9] (.int .i64 (n : Int)) rfl rfl rfl (A9.out.setRow _) _ Tryz.underlying55 rfl (by kernel_rfl) ⟨rfl, below_setRow B9 (by omega) _⟩

end Go.Proofs.YtogbkfakihnbdaaGreatDoor

/- The document's InText (layer 9). -/
namespace Go.Proofs.YtogbkfakihnbdaaGreatDoor
open Go.RowKit
set_option linter.unusedSimpArgs false

def inTextP (i : ByteArray × Int) (most : Int) : (ByteArray × Int) × ByteArray :=
  if (numberP i 2).1.2 ≠ 0 then ((numberP i 2).1, ⟨#[]⟩)
  else if most < ((numberP i 2).2 : Int) then (wrongP (numberP i 2).1 91, ⟨#[]⟩)
  else if (numberP i 2).1.1.size < (numberP i 2).2 then (wrongP (numberP i 2).1 90, ⟨#[]⟩)
  else (((numberP i 2).1.1.extract (numberP i 2).2 (numberP i 2).1.1.size, (numberP i 2).1.2), (numberP i 2).1.1.extract 0 (numberP i 2).2)

set_option maxRecDepth 100000 in
set_option maxHeartbeats 4000000 in
theorem rinText_any (i : ByteArray × Int) (most : Int) (w : World) (hs : i.1.size ≤ 1048576) :
    Calls Tryz.prog 22 #[inV i, .int .i64 most] w fun x w' => x = .returned (.tuple #[inV (inTextP i most).1, .string (inTextP i most).2]) ∧ Below w.heap.size w w' := by
  have CN' := fun w => rnumber_any i 2 w (by decide) hs
  have hnl : (numberP i 2).2 < 65536 ∧ (numberP i 2).1.1.size ≤ 1048576 := by
    unfold numberP
    split
    · exact ⟨by show 0 < 65536; decide, by show 0 ≤ 1048576; decide⟩
    · refine ⟨accB_lt i.1 2, ?_⟩
      show (i.1.extract 2 i.1.size).size ≤ _
      rw [ByteArray.size_extract]; omega
  unfold inTextP
  obtain ⟨⟨⟨S1, c1⟩, n⟩, hR⟩ : ∃ r, r = numberP i 2 := ⟨_, rfl⟩
  rw [← hR] at CN' hnl ⊢
  have hn : n < 65536 := hnl.1
  have hS1 : S1.size ≤ 1048576 := hnl.2
  clear hnl hR hs
  obtain ⟨S, c⟩ := i
  have CN : Hid (∀ w, Calls Tryz.prog 47 #[.agg #[.string S, .int .i64 c], .int .i64 2] w fun x w' => x = .returned (.tuple #[.agg #[.string S1, .int .i64 c1], .int .i64 (n : Int)]) ∧ Below w.heap.size w w') := CN'
  clear CN'
  show Calls Tryz.prog _ #[.agg #[.string S, .int .i64 c], .int .i64 most] w _
  have A1 : Hid (Blk ((w.alloc (.cells #[.string S, .int .i64 c] 55)).alloc (.cells #[.string ⟨#[]⟩, .int .i64 0] 55)) 55 (w.heap.size + 1) #[.string ⟨#[]⟩, .int .i64 0]) := Blk.new' _ _ _ _ (by simp)
  have AB : Below w.heap.size w ((w.alloc (.cells #[.string S, .int .i64 c] 55)).alloc (.cells #[.string ⟨#[]⟩, .int .i64 0] 55)) := (below_new w _).alloc (by simp) _
  by_cases hc : c1 = 0
  · subst hc
    obtain ⟨c1, hc1⟩ : ∃ c : Int, c = 0 := ⟨_, rfl⟩
    by_cases hm : most < (n : Int)
    · have CW' := fun w => rwrong_any (S1, 0) 91 w
      obtain ⟨⟨S9, c9⟩, hR9⟩ : ∃ r, r = wrongP (S1, 0) 91 := ⟨_, rfl⟩
      rw [if_neg (fun h => h rfl), if_pos hm, ← hR9]
      rw [← hR9] at CW'
      have CW : Hid (∀ w, Calls Tryz.prog 48 #[.agg #[.string S1, .int .i64 0], .int .i64 91] w fun x w' => x = .returned (.agg #[.string S9, .int .i64 c9]) ∧ Below w.heap.size w w') := CW'
      have g0 : decide (most < (n : Int)) = true := by simp; exact hm
      clear CW' hR9 hm
      show Calls Tryz.prog _ _ w fun x w' => x = .returned (.tuple #[.agg #[.string S9, .int .i64 c9], .string ⟨#[]⟩]) ∧ Below w.heap.size w w'
      clear hc1 c1
      go_enter Tryz.func22, Tryz.ntmps22
      go_wp2_with fail
      refine (CN.out _).mono ?_
      rintro e w1 ⟨rfl, hb1⟩
      have A2 := A1.out.on hb1
      have B1 := below_step AB (Nat.le_refl _) hb1
      have hl1 := A2.lt
      have A3 : Hid (Blk (w1.alloc (.cells #[.string S1, .int .i64 0] 55)) 55 (w.heap.size + 1) #[.string ⟨#[]⟩, .int .i64 0]) := A2.alloc _
      have B2 : Below w.heap.size w (w1.alloc (.cells #[.string S1, .int .i64 0] 55)) := B1.alloc B1.size _
      clear CN A1 AB hb1 A2 B1 hl1
      go_wp2_with fail
      refine (CW.out _).mono ?_
      rintro e w2 ⟨rfl, hb2⟩
      have A9 : Hid (Blk w2 55 (w.heap.size + 1) #[.string ⟨#[]⟩, .int .i64 0]) := A3.out.on hb2
      have B9 := below_step B2 (Nat.le_refl _) hb2
      clear CW A3 B2 hb2
      go_wp2_with (with_reducible refine wpList_storeBlk rfl 55 _ _ rfl (w.heap.size + 1) #[.string ⟨#[]⟩, .int .i64 0] #[.string S9, .int .i64 c9] ?hx ?hy A9.out rfl ?hi ?h1 ?_)
      try (case hx => rfl)
      try (case hy => rfl)
      try (case hi => kernel_rfl)
      try (case h1 => simp [Value.oneCell'])
      exact bodyPost_rowTmp rfl (w.heap.size + 1) #[.string S9, .int .i64 c9] (.string ⟨#[]⟩) rfl rfl rfl (A9.out.setRow _) _ Tryz.underlying55 rfl (by kernel_rfl) ⟨rfl, below_setRow B9 (by omega) _⟩
    · have g0 : decide (most < (n : Int)) = false := by simp; omega
      by_cases hz : S1.size < n
      · have CW' := fun w => rwrong_any (S1, 0) 90 w
        obtain ⟨⟨S9, c9⟩, hR9⟩ : ∃ r, r = wrongP (S1, 0) 90 := ⟨_, rfl⟩
        rw [if_neg (fun h => h rfl), if_neg hm, if_pos hz, ← hR9]
        rw [← hR9] at CW'
        have CW : Hid (∀ w, Calls Tryz.prog 48 #[.agg #[.string S1, .int .i64 0], .int .i64 90] w fun x w' => x = .returned (.agg #[.string S9, .int .i64 c9]) ∧ Below w.heap.size w w') := CW'
        have g1 : decide ((S1.size : Int) < (n : Int)) = true := by simp; omega
        have g2 : decide (S1.size < n) = true := by simp; exact hz
        clear CW' hR9 hm hz
        show Calls Tryz.prog _ _ w fun x w' => x = .returned (.tuple #[.agg #[.string S9, .int .i64 c9], .string ⟨#[]⟩]) ∧ Below w.heap.size w w'
        clear hc1 c1
        go_enter Tryz.func22, Tryz.ntmps22
        go_wp2_with fail
        refine (CN.out _).mono ?_
        rintro e w1 ⟨rfl, hb1⟩
        have A2 := A1.out.on hb1
        have B1 := below_step AB (Nat.le_refl _) hb1
        have hl1 := A2.lt
        have A3 : Hid (Blk (w1.alloc (.cells #[.string S1, .int .i64 0] 55)) 55 (w.heap.size + 1) #[.string ⟨#[]⟩, .int .i64 0]) := A2.alloc _
        have B2 : Below w.heap.size w (w1.alloc (.cells #[.string S1, .int .i64 0] 55)) := B1.alloc B1.size _
        clear CN A1 AB hb1 A2 B1 hl1
        go_wp2_with fail
        refine (CW.out _).mono ?_
        rintro e w2 ⟨rfl, hb2⟩
        have A9 : Hid (Blk w2 55 (w.heap.size + 1) #[.string ⟨#[]⟩, .int .i64 0]) := A3.out.on hb2
        have B9 := below_step B2 (Nat.le_refl _) hb2
        clear CW A3 B2 hb2
        go_wp2_with (with_reducible refine wpList_storeBlk rfl 55 _ _ rfl (w.heap.size + 1) #[.string ⟨#[]⟩, .int .i64 0] #[.string S9, .int .i64 c9] ?hx ?hy A9.out rfl ?hi ?h1 ?_)
        try (case hx => rfl)
        try (case hy => rfl)
        try (case hi => kernel_rfl)
        try (case h1 => simp [Value.oneCell'])
        exact bodyPost_rowTmp rfl (w.heap.size + 1) #[.string S9, .int .i64 c9] (.string ⟨#[]⟩) rfl rfl rfl (A9.out.setRow _) _ Tryz.underlying55 rfl (by kernel_rfl) ⟨rfl, below_setRow B9 (by omega) _⟩
      · rw [if_neg (fun h => h rfl), if_neg hm, if_neg hz]
        have g1 : decide ((S1.size : Int) < (n : Int)) = false := by simp; omega
        have g2 : decide (S1.size < n) = false := by simp; omega
        obtain ⟨S9, h9⟩ : ∃ S9, S1.extract n S1.size = S9 := ⟨_, rfl⟩
        obtain ⟨F, hF⟩ : ∃ F, S1.extract 0 n = F := ⟨_, rfl⟩
        obtain ⟨c9, h9'⟩ : ∃ c9 : Int, c9 = 0 := ⟨_, rfl⟩
        have i1 : (n : Int) ≤ (S1.size : Int) := by omega
        have i2 : n ≤ S1.size := by omega
        clear hm hz
        show Calls Tryz.prog _ _ w fun x w' => x = .returned (.tuple #[.agg #[.string (S1.extract n S1.size), .int .i64 0], .string (S1.extract 0 n)]) ∧ Below w.heap.size w w'
        rw [h9, hF]
        clear hc1 c1 h9' c9
        go_enter Tryz.func22, Tryz.ntmps22
        go_wp2_with fail
        refine (CN.out _).mono ?_
        rintro e w1 ⟨rfl, hb1⟩
        have A2 := A1.out.on hb1
        have B1 := below_step AB (Nat.le_refl _) hb1
        have hl1 := A2.lt
        have A9 : Hid (Blk (w1.alloc (.cells #[.string S9, .int .i64 0] 55)) 55 (w.heap.size + 1) #[.string ⟨#[]⟩, .int .i64 0]) := A2.alloc _
        have B9 : Below w.heap.size w (w1.alloc (.cells #[.string S9, .int .i64 0] 55)) := B1.alloc B1.size _
        clear CN A1 AB hb1 A2 B1 hl1
        go_wp2_with (with_reducible refine wpList_storeBlk rfl 55 _ _ rfl (w.heap.size + 1) #[.string ⟨#[]⟩, .int .i64 0] #[.string S9, .int .i64 0] ?hx ?hy A9.out rfl ?hi ?h1 ?_)
        try (case hx => rfl)
        try (case hy => rfl)
        try (case hi => kernel_rfl)
        try (case h1 => simp [Value.oneCell'])
        go_wp2_with fail
        exact bodyPost_rowTmp rfl (w.heap.size + 1) #[.string S9, .int .i64 0] (.string F) rfl rfl rfl (A9.out.setRow _) _ Tryz.underlying55 rfl (by kernel_rfl) ⟨rfl, below_setRow B9 (by omega) _⟩
  · rw [if_pos hc]
    have g0 : (c1 != 0) = true := by rw [bne_iff_ne]; exact hc
    show Calls Tryz.prog _ _ w fun x w' => x = .returned (.tuple #[.agg #[.string S1, .int .i64 c1], .string ⟨#[]⟩]) ∧ Below w.heap.size w w'
    obtain ⟨S9, h9⟩ : ∃ S9, S9 = S1 := ⟨_, rfl⟩
    obtain ⟨c9, h9'⟩ : ∃ c9, c9 = c1 := ⟨_, rfl⟩
    rw [← h9, ← h9'] at CN ⊢
    rw [← h9'] at g0
    clear h9 h9' hc
    go_enter Tryz.func22, Tryz.ntmps22
    go_wp2_with fail
    refine (CN.out _).mono ?_
    rintro e w1 ⟨rfl, hb1⟩
    have A2 := A1.out.on hb1
    have B1 := below_step AB (Nat.le_refl _) hb1
    have hl1 := A2.lt
    have A9 : Hid (Blk (w1.alloc (.cells #[.string S9, .int .i64 c9] 55)) 55 (w.heap.size + 1) #[.string ⟨#[]⟩, .int .i64 0]) := A2.alloc _
    have B9 : Below w.heap.size w (w1.alloc (.cells #[.string S9, .int .i64 c9] 55)) := B1.alloc B1.size _
    clear CN A1 AB hb1 A2 B1 hl1
    go_wp2_with (with_reducible refine wpList_storeBlk rfl 55 _ _ rfl (w.heap.size + 1) #[.string ⟨#[]⟩, .int .i64 0] #[.string S9, .int .i64 c9] ?hx ?hy A9.out rfl ?hi ?h1 ?_)
    try (case hx => rfl)
    try (case hy => rfl)
    try (case hi => kernel_rfl)
    try (case h1 => simp [Value.oneCell'])
    go_wp2_with fail
    exact bodyPost_rowTmp rfl (w.heap.size + 1) #[.string S9, .int .i64 c9] (.string ⟨#[]⟩) rfl rfl rfl (A9.out.setRow _) _ Tryz.underlying55 rfl (by kernel_rfl) ⟨rfl, below_setRow B9 (by omega) _⟩

end Go.Proofs.YtogbkfakihnbdaaGreatDoor

/- The document's Stamp (layer 9). -/
namespace Go.Proofs.YtogbkfakihnbdaaGreatDoor
open Go.RowKit
set_option linter.unusedSimpArgs false

def stampOk (t u : Int) : Bool := oneOk t 1099511627775 && oneOk u 255

def stampP (o : ByteArray × Bool) (t u : Int) : ByteArray × Bool := layP o (bigB t 6 ++ bigB u 1) (stampOk t u)

end Go.Proofs.YtogbkfakihnbdaaGreatDoor

/- The document's InStamp, where nothing is wrong (layer 9). -/
namespace Go.Proofs.YtogbkfakihnbdaaGreatDoor
open Go.RowKit
set_option linter.unusedSimpArgs false

def inStampP (i : ByteArray × Int) : (ByteArray × Int) × (Int × Int) :=
  if (numberP (inNumP i).1 1).1.2 ≠ 0 then ((numberP (inNumP i).1 1).1, (0, 0)) else ((numberP (inNumP i).1 1).1, (((inNumP i).2 : Int), ((numberP (inNumP i).1 1).2 : Int)))

theorem numberP_size (i : ByteArray × Int) (many : Nat) : (numberP i many).1.1.size ≤ i.1.size := by
  unfold numberP
  split
  · exact Nat.zero_le _
  · show (i.1.extract many i.1.size).size ≤ _; rw [ByteArray.size_extract]; omega

theorem inNumP_size (i : ByteArray × Int) : (inNumP i).1.1.size ≤ i.1.size := by
  unfold inNumP
  split
  · exact Nat.zero_le _
  · exact numberP_size i 6

set_option maxRecDepth 100000 in
set_option maxHeartbeats 4000000 in
theorem rinStamp_ok (i : ByteArray × Int) (w : World) (hs : i.1.size ≤ 1048576) (hok : (numberP (inNumP i).1 1).1.2 = 0) :
    Calls Tryz.prog 20 #[inV i] w fun x w' => x = .returned (.tuple #[inV (inStampP i).1, .agg #[.int .i64 (inStampP i).2.1, .int .i64 (inStampP i).2.2]]) ∧ Below w.heap.size w w' := by
  have CN' := fun w => rinNum_any i w hs
  have hz := inNumP_size i
  have CK' := fun w => rnumber_any (inNumP i).1 1 w (by decide) (by omega)
  unfold inStampP
  obtain ⟨⟨⟨S1, c1⟩, t⟩, hR⟩ : ∃ r, r = inNumP i := ⟨_, rfl⟩
  rw [← hR] at CN' CK' hok ⊢
  obtain ⟨⟨⟨S9, c9⟩, u⟩, hR2⟩ : ∃ r, r = numberP (S1, c1) 1 := ⟨_, rfl⟩
  rw [show numberP ((S1, c1), t).1 1 = ((S9, c9), u) by rw [hR2]] at CK' hok ⊢
  have hc : c9 = 0 := hok
  clear hok
  obtain ⟨S, c⟩ := i
  have CN : Hid (∀ w, Calls Tryz.prog 21 #[.agg #[.string S, .int .i64 c]] w fun x w' => x = .returned (.tuple #[.agg #[.string S1, .int .i64 c1], .int .i64 (t : Int)]) ∧ Below w.heap.size w w') := CN'
  have CK : Hid (∀ w, Calls Tryz.prog 47 #[.agg #[.string S1, .int .i64 c1], .int .i64 1] w fun x w' => x = .returned (.tuple #[.agg #[.string S9, .int .i64 c9], .int .i64 (u : Int)]) ∧ Below w.heap.size w w') := CK'
  clear CN' CK' hR hR2 hs hz
  show Calls Tryz.prog _ #[.agg #[.string S, .int .i64 c]] w _
  have A1 : Hid (Blk (((w.alloc (.cells #[.string S, .int .i64 c] 55)).alloc (.cells #[.string ⟨#[]⟩, .int .i64 0] 55)).alloc (.cells #[.int .i64 0, .int .i64 0] 26)) 55 (w.heap.size + 1) #[.string ⟨#[]⟩, .int .i64 0]) := (Blk.new' _ _ _ _ (by simp)).alloc _
  have A2 : Hid (Blk (((w.alloc (.cells #[.string S, .int .i64 c] 55)).alloc (.cells #[.string ⟨#[]⟩, .int .i64 0] 55)).alloc (.cells #[.int .i64 0, .int .i64 0] 26)) 26 (w.heap.size + 2) #[.int .i64 0, .int .i64 0]) := Blk.new' _ _ _ _ (by simp)
  have AB : Below w.heap.size w (((w.alloc (.cells #[.string S, .int .i64 c] 55)).alloc (.cells #[.string ⟨#[]⟩, .int .i64 0] 55)).alloc (.cells #[.int .i64 0, .int .i64 0] 26)) := ((below_new w _).alloc (by simp) _).alloc (by simp; omega) _
  rw [if_neg (fun h => h hc)]
  subst hc
  obtain ⟨T9, hT9⟩ : ∃ T : Int, T = (t : Int) := ⟨_, rfl⟩
  obtain ⟨U9, hU9⟩ : ∃ U : Int, U = (u : Int) := ⟨_, rfl⟩
  rw [← hT9] at CN
  rw [← hU9] at CK
  show Calls Tryz.prog _ _ w fun x w' => x = .returned (.tuple #[.agg #[.string S9, .int .i64 0], .agg #[.int .i64 (t : Int), .int .i64 (u : Int)]]) ∧ Below w.heap.size w w'
  rw [← hT9, ← hU9]
  clear hT9 hU9
  go_enter Tryz.func20, Tryz.ntmps20
  go_wp2_with fail
  refine (CN.out _).mono ?_
  rintro e w1 ⟨rfl, hb1⟩
  have X2 := A1.out.on hb1
  have Y2 := A2.out.on hb1
  have B1 := below_step AB (Nat.le_refl _) hb1
  have X3 : Hid (Blk (w1.alloc (.cells #[.string S1, .int .i64 c1] 55)) 55 (w.heap.size + 1) #[.string ⟨#[]⟩, .int .i64 0]) := X2.alloc _
  have Y3 : Hid (Blk (w1.alloc (.cells #[.string S1, .int .i64 c1] 55)) 26 (w.heap.size + 2) #[.int .i64 0, .int .i64 0]) := Y2.alloc _
  have B2 : Below w.heap.size w (w1.alloc (.cells #[.string S1, .int .i64 c1] 55)) := B1.alloc B1.size _
  clear CN A1 A2 AB hb1 X2 Y2 B1
  go_wp2_with fail
  refine (CK.out _).mono ?_
  rintro e w2 ⟨rfl, hb2⟩
  have X4 := X3.out.on hb2
  have Y4 := Y3.out.on hb2
  have B3 := below_step B2 (Nat.le_refl _) hb2
  have X5 : Hid (Blk (w2.alloc (.cells #[.string S9, .int .i64 0] 55)) 55 (w.heap.size + 1) #[.string ⟨#[]⟩, .int .i64 0]) := X4.alloc _
  have Y5 : Hid (Blk ((w2.alloc (.cells #[.string S9, .int .i64 0] 55)).setRow (w.heap.size + 1) #[.string S9, .int .i64 0]) 26 (w.heap.size + 2) #[.int .i64 0, .int .i64 0]) := (Y4.alloc _).setRowOther _ (by omega) _
  have B4 : Below w.heap.size w (w2.alloc (.cells #[.string S9, .int .i64 0] 55)) := B3.alloc B3.size _
  clear CK X3 Y3 B2 hb2 X4 Y4 B3
  go_wp2_with (first
    | (with_reducible refine wpList_storeBlk rfl 55 _ _ rfl (w.heap.size + 1) #[.string ⟨#[]⟩, .int .i64 0] #[.string S9, .int .i64 0] ?hx ?hy X5.out rfl ?hi ?h1 ?_)
    | (with_reducible refine wpList_storeBlk rfl 26 _ _ rfl (w.heap.size + 2) #[.int .i64 0, .int .i64 0] #[.int .i64 T9, .int .i64 U9] ?hx2 ?hy2 Y5.out rfl ?hi2 ?h12 ?_))
  try (case hx => rfl)
  try (case hy => rfl)
  try (case hi => kernel_rfl)
  try (case h1 => simp [Value.oneCell'])
  try (case hx2 => rfl)
  try (case hy2 => rfl)
  try (case hi2 => kernel_rfl)
  try (case h12 => simp [Value.oneCell'])
  exact bodyPost_rows rfl (w.heap.size + 1) (w.heap.size + 2) #[.string S9, .int .i64 0] #[.int .i64 T9, .int .i64 U9] rfl rfl rfl ((X5.out.setRow _).setRowOther _ (by omega) _) (Y5.out.setRow _) _ _ Tryz.underlying55 rfl (by kernel_rfl) Tryz.underlying26 rfl (by kernel_rfl) ⟨rfl, below_setRow (below_setRow B4 (by omega) _) (by omega) _⟩

end Go.Proofs.YtogbkfakihnbdaaGreatDoor

/- The document's InStamp, where something is wrong (layer 9). -/
namespace Go.Proofs.YtogbkfakihnbdaaGreatDoor
open Go.RowKit
set_option linter.unusedSimpArgs false

set_option maxRecDepth 100000 in
set_option maxHeartbeats 4000000 in
theorem rinStamp_bad (i : ByteArray × Int) (w : World) (hs : i.1.size ≤ 1048576) (hok : (numberP (inNumP i).1 1).1.2 ≠ 0) :
    Calls Tryz.prog 20 #[inV i] w fun x w' => x = .returned (.tuple #[inV (inStampP i).1, .agg #[.int .i64 (inStampP i).2.1, .int .i64 (inStampP i).2.2]]) ∧ Below w.heap.size w w' := by
  have CN' := fun w => rinNum_any i w hs
  have hz := inNumP_size i
  have CK' := fun w => rnumber_any (inNumP i).1 1 w (by decide) (by omega)
  unfold inStampP
  obtain ⟨⟨⟨S1, c1⟩, t⟩, hR⟩ : ∃ r, r = inNumP i := ⟨_, rfl⟩
  rw [← hR] at CN' CK' hok ⊢
  obtain ⟨⟨⟨S9, c9⟩, u⟩, hR2⟩ : ∃ r, r = numberP (S1, c1) 1 := ⟨_, rfl⟩
  rw [show numberP ((S1, c1), t).1 1 = ((S9, c9), u) by rw [hR2]] at CK' hok ⊢
  have hc : c9 ≠ 0 := hok
  clear hok
  obtain ⟨S, c⟩ := i
  have CN : Hid (∀ w, Calls Tryz.prog 21 #[.agg #[.string S, .int .i64 c]] w fun x w' => x = .returned (.tuple #[.agg #[.string S1, .int .i64 c1], .int .i64 (t : Int)]) ∧ Below w.heap.size w w') := CN'
  have CK : Hid (∀ w, Calls Tryz.prog 47 #[.agg #[.string S1, .int .i64 c1], .int .i64 1] w fun x w' => x = .returned (.tuple #[.agg #[.string S9, .int .i64 c9], .int .i64 (u : Int)]) ∧ Below w.heap.size w w') := CK'
  clear CN' CK' hR hR2 hs hz
  show Calls Tryz.prog _ #[.agg #[.string S, .int .i64 c]] w _
  have A1 : Hid (Blk (((w.alloc (.cells #[.string S, .int .i64 c] 55)).alloc (.cells #[.string ⟨#[]⟩, .int .i64 0] 55)).alloc (.cells #[.int .i64 0, .int .i64 0] 26)) 55 (w.heap.size + 1) #[.string ⟨#[]⟩, .int .i64 0]) := (Blk.new' _ _ _ _ (by simp)).alloc _
  have A2 : Hid (Blk (((w.alloc (.cells #[.string S, .int .i64 c] 55)).alloc (.cells #[.string ⟨#[]⟩, .int .i64 0] 55)).alloc (.cells #[.int .i64 0, .int .i64 0] 26)) 26 (w.heap.size + 2) #[.int .i64 0, .int .i64 0]) := Blk.new' _ _ _ _ (by simp)
  have AB : Below w.heap.size w (((w.alloc (.cells #[.string S, .int .i64 c] 55)).alloc (.cells #[.string ⟨#[]⟩, .int .i64 0] 55)).alloc (.cells #[.int .i64 0, .int .i64 0] 26)) := ((below_new w _).alloc (by simp) _).alloc (by simp; omega) _
  rw [if_pos hc]
  obtain ⟨T9, hT9⟩ : ∃ T : Int, T = (t : Int) := ⟨_, rfl⟩
  obtain ⟨U9, hU9⟩ : ∃ U : Int, U = (u : Int) := ⟨_, rfl⟩
  rw [← hT9] at CN
  rw [← hU9] at CK
  have g0 : (c9 != 0) = true := by rw [bne_iff_ne]; exact hc
  clear hT9 hU9 hc
  go_enter Tryz.func20, Tryz.ntmps20
  go_wp2_with fail
  refine (CN.out _).mono ?_
  rintro e w1 ⟨rfl, hb1⟩
  have X2 := A1.out.on hb1
  have Y2 := A2.out.on hb1
  have B1 := below_step AB (Nat.le_refl _) hb1
  have X3 : Hid (Blk (w1.alloc (.cells #[.string S1, .int .i64 c1] 55)) 55 (w.heap.size + 1) #[.string ⟨#[]⟩, .int .i64 0]) := X2.alloc _
  have Y3 : Hid (Blk (w1.alloc (.cells #[.string S1, .int .i64 c1] 55)) 26 (w.heap.size + 2) #[.int .i64 0, .int .i64 0]) := Y2.alloc _
  have B2 : Below w.heap.size w (w1.alloc (.cells #[.string S1, .int .i64 c1] 55)) := B1.alloc B1.size _
  clear CN A1 A2 AB hb1 X2 Y2 B1
  go_wp2_with fail
  refine (CK.out _).mono ?_
  rintro e w2 ⟨rfl, hb2⟩
  have X4 := X3.out.on hb2
  have Y4 := Y3.out.on hb2
  have B3 := below_step B2 (Nat.le_refl _) hb2
  have X5 : Hid (Blk (w2.alloc (.cells #[.string S9, .int .i64 c9] 55)) 55 (w.heap.size + 1) #[.string ⟨#[]⟩, .int .i64 0]) := X4.alloc _
  have Y5 : Hid (Blk ((w2.alloc (.cells #[.string S9, .int .i64 c9] 55)).setRow (w.heap.size + 1) #[.string S9, .int .i64 c9]) 26 (w.heap.size + 2) #[.int .i64 0, .int .i64 0]) := (Y4.alloc _).setRowOther _ (by omega) _
  have B4 : Below w.heap.size w (w2.alloc (.cells #[.string S9, .int .i64 c9] 55)) := B3.alloc B3.size _
  clear CK X3 Y3 B2 hb2 X4 Y4 B3
  go_wp2_with (with_reducible refine wpList_storeBlkH rfl 55 _ _ rfl (w.heap.size + 1) #[.string ⟨#[]⟩, .int .i64 0] #[.string S9, .int .i64 c9] ?hx ?hy X5.out rfl ?hi ?h1 ?_)
  case hx => rfl
  case hy => rfl
  case hi => kernel_rfl
  case h1 => simp [Value.oneCell']
  unfold Hid
  refine wpList_storeBlkH rfl 26 (.tmp 3) (.tmp 22) rfl (w.heap.size + 2) #[.int .i64 0, .int .i64 0] #[.int .i64 0, .int .i64 0] rfl rfl Y5.out rfl (by kernel_rfl) (by simp [Value.oneCell']) ?_
  unfold Hid
  go_wp2
  exact bodyPost_rows rfl (w.heap.size + 1) (w.heap.size + 2) #[.string S9, .int .i64 c9] #[.int .i64 0, .int .i64 0] rfl rfl rfl ((X5.out.setRow _).setRowOther _ (by omega) _) (Y5.out.setRow _) _ _ Tryz.underlying55 rfl (by kernel_rfl) Tryz.underlying26 rfl (by kernel_rfl) ⟨rfl, below_setRow (below_setRow B4 (by omega) _) (by omega) _⟩

theorem rinStamp_any (i : ByteArray × Int) (w : World) (hs : i.1.size ≤ 1048576) :
    Calls Tryz.prog 20 #[inV i] w fun x w' => x = .returned (.tuple #[inV (inStampP i).1, .agg #[.int .i64 (inStampP i).2.1, .int .i64 (inStampP i).2.2]]) ∧ Below w.heap.size w w' := by
  by_cases h : (numberP (inNumP i).1 1).1.2 = 0
  · exact rinStamp_ok i w hs h
  · exact rinStamp_bad i w hs h

end Go.Proofs.YtogbkfakihnbdaaGreatDoor

/- Layer 9 on plain data: what was written is read; what is cut is too short. Nothing of the program. -/
namespace Go.Proofs.YtogbkfakihnbdaaGreatDoor
open Go.RowKit
set_option linter.unusedSimpArgs false

/-- The number of a number's bytes. -/
theorem bt_bigB (N many j : Nat) (hj : j < many) : bt (bigB (N : Int) many) j = N / 256 ^ (many - 1 - j) % 256 := by
  unfold bigB
  rw [bt_bytesOf _ _ _ hj (bigF_lt _ _ _)]
  unfold bigF
  have e : (2 : Int) ^ (8 * (many - 1 - j)) = ((256 ^ (many - 1 - j) : Nat) : Int) := by
    rw [show (256 : Nat) = 2 ^ 8 by decide, ← Nat.pow_mul]; simp
  rw [e]
  generalize 256 ^ (many - 1 - j) = P
  have : (N : Int) / (P : Int) % 256 = ((N / P % 256 : Nat) : Int) := by simp
  rw [this, Int.toNat_natCast]

theorem accB_congr (s t : ByteArray) (k : Nat) (h : ∀ j, j < k → bt s j = bt t j) : accB s k = accB t k := by
  induction k with
  | zero => rfl
  | succ k ih =>
    show accB s k * 256 + bt s k = accB t k * 256 + bt t k
    rw [ih (fun j hj => h j (by omega)), h k (by omega)]

theorem accB_big_to (N many k : Nat) (hk : k ≤ many) (hN : N < 256 ^ many) : accB (bigB (N : Int) many) k = N / 256 ^ (many - k) := by
  induction k with
  | zero => exact (Nat.div_eq_of_lt hN).symm
  | succ k ih =>
    show accB _ k * 256 + bt _ k = _
    rw [ih (by omega), bt_bigB N many k (by omega), show many - k = (many - (k + 1)) + 1 by omega, Nat.pow_succ, ← Nat.div_div_eq_div_mul, show many - 1 - k = many - (k + 1) by omega]
    generalize N / 256 ^ (many - (k + 1)) = M
    omega

theorem accB_big (N many : Nat) (hN : N < 256 ^ many) : accB (bigB (N : Int) many) many = N := by
  rw [accB_big_to N many many (Nat.le_refl _) hN, Nat.sub_self]
  simp

/-- A text is a beginning of another. -/
def PreB (t u : ByteArray) : Prop := t.size ≤ u.size ∧ ∀ j, j < t.size → bt t j = bt u j

theorem PreB.refl (t : ByteArray) : PreB t t := ⟨Nat.le_refl _, fun _ _ => rfl⟩

theorem PreB.cut (u : ByteArray) (n : Nat) (h : n ≤ u.size) : PreB (u.extract 0 n) u := by
  have e : (u.extract 0 n).size = n := by rw [ByteArray.size_extract]; omega
  exact ⟨by omega, fun j hj => by rw [bt_extract _ 0 n j (by omega) h, Nat.zero_add]⟩

theorem PreB.whole {t u : ByteArray} (h : PreB t u) (e : t.size = u.size) : t = u := bt_ext _ _ e (fun i hi => h.2 i hi)

theorem PreB.left {t E T : ByteArray} (h : PreB t (E ++ T)) (j : Nat) (hj : j < t.size) (hE : j < E.size) : bt t j = bt E j := by
  rw [h.2 j hj, bt_append_left _ _ _ hE]

theorem PreB.rest {t E T : ByteArray} (h : PreB t (E ++ T)) (n : Nat) (hE : E.size = n) (hn : n ≤ t.size) : PreB (t.extract n t.size) T := by
  have h1 := h.1
  rw [ByteArray.size_append] at h1
  have e : (t.extract n t.size).size = t.size - n := by rw [ByteArray.size_extract]; omega
  refine ⟨by omega, fun j hj => ?_⟩
  rw [bt_extract _ n t.size j (by omega) (Nat.le_refl _), h.2 _ (by omega), ← hE, bt_append_right]

/-- A number of a beginning. -/
theorem number_pre (t T : ByteArray) (N many : Nat) (hN : N < 256 ^ many) (h : PreB t (bigB (N : Int) many ++ T)) :
    (t.size < many ∧ numberP (t, 0) many = ((⟨#[]⟩, 90), 0)) ∨ (many ≤ t.size ∧ numberP (t, 0) many = ((t.extract many t.size, 0), N) ∧ PreB (t.extract many t.size) T) := by
  unfold numberP
  by_cases hm : t.size < many
  · left
    refine ⟨hm, ?_⟩
    rw [if_pos (Or.inr hm)]; rfl
  · right
    refine ⟨by omega, ?_, h.rest many (bigB_size _ _) (by omega)⟩
    rw [if_neg (by rintro (h | h); exact h rfl; exact hm h)]
    show ((t.extract many t.size, (0 : Int)), accB t many) = _
    rw [accB_congr t (bigB (N : Int) many) many (fun j hj => h.left j (by omega) (by rw [bigB_size]; exact hj)), accB_big N many hN]

theorem number_bad (e : Int) (he : e ≠ 0) (many : Nat) : numberP (⟨#[]⟩, e) many = ((⟨#[]⟩, e), 0) := by
  unfold numberP
  rw [if_pos (Or.inl he)]
  unfold wrongP
  rw [if_neg he]

/-- A part: its kind, two numbers, a text. -/
def kd (p : Int × Int × Int × ByteArray) : Int := p.1

def pn (p : Int × Int × Int × ByteArray) : Int := p.2.1

def pm (p : Int × Int × Int × ByteArray) : Int := p.2.2.1

def ps (p : Int × Int × Int × ByteArray) : ByteArray := p.2.2.2

def encP (p : Int × Int × Int × ByteArray) : ByteArray :=
  if kd p = 1 then bigB (pn p) 1 else if kd p = 2 then bigB (pn p) 6 else if kd p = 3 then bigB (pn p) 6 ++ bigB (pm p) 1 else bigB ((ps p).size : Int) 2 ++ ps p

def okP (p : Int × Int × Int × ByteArray) : Bool :=
  if kd p = 1 then oneOk (pn p) 255 else if kd p = 2 then oneOk (pn p) 1099511627775 else if kd p = 3 then stampOk (pn p) (pm p) else decide ((ps p).size ≤ 65535)

def writeP (o : ByteArray × Bool) (p : Int × Int × Int × ByteArray) : ByteArray × Bool :=
  if kd p = 1 then numP o (pn p) 1 255 else if kd p = 2 then numP o (pn p) 6 1099511627775 else if kd p = 3 then stampP o (pn p) (pm p) else textP o (ps p)

theorem layP_no (o : ByteArray × Bool) (s t : ByteArray) : layP o s false = layP o t false := by
  unfold layP
  rw [if_neg (fun h => by cases h.1), if_neg (fun h => by cases h.1)]

theorem writeP_eq (o : ByteArray × Bool) (p : Int × Int × Int × ByteArray) : writeP o p = layP o (encP p) (okP p) := by
  unfold writeP encP okP
  split
  · rfl
  · split
    · rfl
    · split
      · rfl
      · unfold textP
        split
        · next h => rw [decide_eq_false (by omega)]; exact layP_no _ _ _
        · next h => rw [decide_eq_true (by omega)]

/-- What k parts are, one behind the other. -/
def encA : List (Int × Int × Int × ByteArray) → ByteArray
  | [] => ByteArray.empty
  | p :: l => encP p ++ encA l

def writeA (o : ByteArray × Bool) (l : List (Int × Int × Int × ByteArray)) : ByteArray × Bool := l.foldl writeP o

theorem writeA_bad (S : ByteArray) (l : List (Int × Int × Int × ByteArray)) : writeA (S, true) l = (S, true) := by
  induction l with
  | nil => rfl
  | cons p l ih =>
    show writeA (writeP (S, true) p) l = _
    rw [writeP_eq]
    unfold layP
    rw [if_neg (fun h => by cases h.2.1)]
    exact ih

theorem writeA_ok (S : ByteArray) (l : List (Int × Int × Int × ByteArray)) (h : (writeA (S, false) l).2 = false) : (∀ p ∈ l, okP p = true) ∧ (writeA (S, false) l).1 = S ++ encA l := by
  induction l generalizing S with
  | nil =>
    refine ⟨fun p hp => (by cases hp), ?_⟩
    show S = S ++ ByteArray.empty
    apply bytes_ext
    rw [ByteArray.data_append, Array.toList_append]
    exact (List.append_nil _).symm
  | cons p l ih =>
    have e : writeA (S, false) (p :: l) = writeA (layP (S, false) (encP p) (okP p)) l := by
      show writeA (writeP (S, false) p) l = _
      rw [writeP_eq]
    rw [e] at h ⊢
    by_cases hc : okP p = true ∧ false = false ∧ S.size + (encP p).size ≤ 65536
    · have e2 : layP (S, false) (encP p) (okP p) = (S ++ encP p, false) := by unfold layP; exact if_pos hc
      rw [e2] at h ⊢
      obtain ⟨h1, h2⟩ := ih _ h
      refine ⟨fun q hq => ?_, ?_⟩
      · rcases List.mem_cons.1 hq with rfl | hq
        · exact hc.1
        · exact h1 q hq
      · rw [h2, ByteArray.append_assoc]; rfl
    · have e2 : layP (S, false) (encP p) (okP p) = (S, true) := by unfold layP; exact if_neg hc
      rw [e2, writeA_bad] at h
      cases h

end Go.Proofs.YtogbkfakihnbdaaGreatDoor

/- Layer 9 on plain data: parts of a beginning, read. -/
namespace Go.Proofs.YtogbkfakihnbdaaGreatDoor
open Go.RowKit
set_option linter.unusedSimpArgs false

theorem inNum_pre (t T : ByteArray) (N : Nat) (hN : N ≤ 1099511627775) (h : PreB t (bigB (N : Int) 6 ++ T)) :
    (t.size < 6 ∧ inNumP (t, 0) = ((⟨#[]⟩, 90), 0)) ∨ (6 ≤ t.size ∧ inNumP (t, 0) = ((t.extract 6 t.size, 0), N) ∧ PreB (t.extract 6 t.size) T) := by
  unfold inNumP
  rcases number_pre t T N 6 (Nat.lt_of_le_of_lt hN (by decide)) h with ⟨h1, h2⟩ | ⟨h1, h2, h3⟩
  · left; rw [h2]; exact ⟨h1, rfl⟩
  · right; rw [h2]
    exact ⟨h1, if_neg (by show ¬ 1099511627775 < N; omega), h3⟩

theorem append_mid (a b c : ByteArray) : (a ++ b) ++ c = a ++ (b ++ c) := ByteArray.append_assoc

theorem extract_twice (t : ByteArray) (a b : Nat) (h : a + b ≤ t.size) : (t.extract a t.size).extract b (t.extract a t.size).size = t.extract (a + b) t.size := by
  have e1 : (t.extract a t.size).size = t.size - a := by rw [ByteArray.size_extract]; omega
  refine bt_ext _ _ (by simp only [ByteArray.size_extract]; omega) (fun j hj => ?_)
  rw [ByteArray.size_extract, e1] at hj
  rw [bt_extract _ b _ j (by omega) (Nat.le_refl _), bt_extract _ a t.size (b + j) (by omega) (Nat.le_refl _), bt_extract _ (a + b) t.size j (by omega) (Nat.le_refl _), Nat.add_assoc]

theorem inStamp_pre (t T : ByteArray) (N U : Nat) (hN : N ≤ 1099511627775) (hU : U ≤ 255) (h : PreB t ((bigB (N : Int) 6 ++ bigB (U : Int) 1) ++ T)) :
    (t.size < 7 ∧ inStampP (t, 0) = ((⟨#[]⟩, 90), (0, 0))) ∨ (7 ≤ t.size ∧ inStampP (t, 0) = ((t.extract 7 t.size, 0), ((N : Int), (U : Int))) ∧ PreB (t.extract 7 t.size) T) := by
  rw [append_mid] at h
  unfold inStampP
  rcases inNum_pre t _ N hN h with ⟨h1, h2⟩ | ⟨h1, h2, h3⟩
  · left
    rw [h2]
    refine ⟨by omega, ?_⟩
    show (if (numberP (⟨#[]⟩, 90) 1).1.2 ≠ 0 then _ else _) = _
    rw [number_bad 90 (by decide), if_pos (by decide)]
  · rw [h2]
    have e1 : (t.extract 6 t.size).size = t.size - 6 := by rw [ByteArray.size_extract]; omega
    rcases number_pre _ T U 1 (by omega) h3 with ⟨k1, k2⟩ | ⟨k1, k2, k3⟩
    · left
      refine ⟨by omega, ?_⟩
      show (if (numberP (t.extract 6 t.size, 0) 1).1.2 ≠ 0 then _ else _) = _
      rw [k2, if_pos (by decide)]
    · right
      have e2 := extract_twice t 6 1 (by omega)
      rw [e2] at k2 k3
      refine ⟨by omega, ?_, k3⟩
      show (if (numberP (t.extract 6 t.size, 0) 1).1.2 ≠ 0 then _ else _) = _
      rw [k2, if_neg (fun h => h rfl)]

theorem inText_pre (t T s : ByteArray) (most : Int) (hs : s.size ≤ 65535) (hm : (s.size : Int) ≤ most) (h : PreB t ((bigB (s.size : Int) 2 ++ s) ++ T)) :
    (t.size < 2 + s.size ∧ inTextP (t, 0) most = ((⟨#[]⟩, 90), ⟨#[]⟩)) ∨ (2 + s.size ≤ t.size ∧ inTextP (t, 0) most = ((t.extract (2 + s.size) t.size, 0), s) ∧ PreB (t.extract (2 + s.size) t.size) T) := by
  rw [append_mid] at h
  unfold inTextP
  rcases number_pre t _ s.size 2 (by omega) h with ⟨h1, h2⟩ | ⟨h1, h2, h3⟩
  · left
    rw [h2]
    exact ⟨by omega, if_pos (by decide)⟩
  · rw [h2]
    have e1 : (t.extract 2 t.size).size = t.size - 2 := by rw [ByteArray.size_extract]; omega
    show (_ ∧ (if (0 : Int) ≠ 0 then _ else if most < (s.size : Int) then _ else if (t.extract 2 t.size).size < s.size then (wrongP (t.extract 2 t.size, 0) 90, _) else (((t.extract 2 t.size).extract s.size (t.extract 2 t.size).size, (0 : Int)), (t.extract 2 t.size).extract 0 s.size)) = _) ∨ (_ ∧ (if (0 : Int) ≠ 0 then _ else if most < (s.size : Int) then _ else if (t.extract 2 t.size).size < s.size then (wrongP (t.extract 2 t.size, 0) 90, _) else (((t.extract 2 t.size).extract s.size (t.extract 2 t.size).size, (0 : Int)), (t.extract 2 t.size).extract 0 s.size)) = _ ∧ _)
    rw [if_neg (fun h => h rfl), if_neg (by omega)]
    by_cases hc : (t.extract 2 t.size).size < s.size
    · left
      rw [if_pos hc]
      exact ⟨by omega, rfl⟩
    · right
      rw [if_neg hc, extract_twice t 2 s.size (by omega)]
      have h4 := h3.rest s.size rfl (by omega)
      rw [extract_twice t 2 s.size (by omega)] at h4
      refine ⟨by omega, ?_, h4⟩
      have e3 : (t.extract 2 t.size).extract 0 s.size = s := by
        refine bt_ext _ _ (by rw [ByteArray.size_extract]; omega) (fun j hj => ?_)
        rw [ByteArray.size_extract] at hj
        rw [bt_extract _ 0 s.size j (by omega) (by omega), Nat.zero_add]
        exact h3.left j (by omega) (by omega)
      rw [e3]

theorem oneOk_nat (n most : Int) (h : oneOk n most = true) : ∃ N : Nat, n = (N : Int) ∧ (N : Int) ≤ most := by
  unfold oneOk at h
  rw [Bool.and_eq_true, decide_eq_true_iff, decide_eq_true_iff] at h
  exact ⟨n.toNat, by omega, by omega⟩

end Go.Proofs.YtogbkfakihnbdaaGreatDoor
