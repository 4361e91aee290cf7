/- The code's In (layer 9): its methods, of one that NewIn gave. -/
import Derived.Test.YtmpjhflbmngajaaCdH
namespace Go.Proofs.Ytmpjhflbmngajaa
open Go.RowKit
set_option linter.unusedSimpArgs false

theorem take_number (i : ByteArray × Int) (n : Nat) : (takeI i n, accB (takeS i n) (takeS i n).size) = numberP i n := by
  unfold takeI takeS numberP
  split
  · rfl
  · next h =>
    have hn : n ≤ i.1.size := by
      rcases Nat.lt_or_ge i.1.size n with h' | h'
      · exact absurd (Or.inr h') h
      · exact h'
    have e : (i.1.extract 0 n).size = n := by rw [ByteArray.size_extract]; omega
    rw [e, accB_congr (i.1.extract 0 n) i.1 n (fun j hj => by rw [bt_extract _ 0 n j (by omega) hn, Nat.zero_add])]
theorem takeS_size (i : ByteArray × Int) (n : Nat) : (takeS i n).size ≤ n := by
  unfold takeS
  split
  · exact Nat.zero_le _
  · rw [ByteArray.size_extract]; omega

set_option maxRecDepth 100000 in
set_option maxHeartbeats 2000000 in
theorem ibyte_any (g : Nat) (i : ByteArray × Int) (w : World) (h : InAt w g i) :
    Calls Try.prog 15 #[.pointer (some ⟨g, 0, none⟩)] w fun e w' => e = .returned (.int .i64 ((numberP i 1).2 : Int)) ∧ InTo w g (numberP i 1).1 w' := by
  have HT : Hid (∀ w', w' = w → Calls Try.prog 32 #[.pointer (some ⟨g, 0, none⟩), .int .i64 1] w' fun e w'' => e = .returned (.string (takeS i 1)) ∧ InTo w' g (takeI i 1) w'') := fun w' e => by subst e; exact itake_any g i 1 _ h (by decide)
  have HRd : Hid (∀ w', Calls Try.prog 31 #[.string (takeS i 1)] w' fun e w'' => e = .returned (.int .i64 (accB (takeS i 1) (takeS i 1).size : Int)) ∧ w'' = w') := fun w' => cread_any _ _ (Nat.le_trans (takeS_size i 1) (by decide))
  rw [← take_number i 1]
  show Calls _ _ _ _ fun e w' => e = .returned (.int .i64 ((accB (takeS i 1) (takeS i 1).size : Nat) : Int)) ∧ InTo w g (takeI i 1) w'
  generalize accB (takeS i 1) (takeS i 1).size = n at *
  generalize takeS i 1 = T at *
  generalize takeI i 1 = J at *
  clear h
  go_enter Try.func15, Try.ntmps15
  go_wp2_with fail
  refine (HT.out _ rfl).mono ?_
  rintro e w1 ⟨rfl, h1⟩
  have H1 : Hid (InTo w g J w1) := h1
  clear h1
  go_wp2_with fail
  refine (HRd.out _).mono ?_
  rintro e w2 ⟨rfl, rfl⟩
  go_wp2
  go_ret
  exact ⟨rfl, H1.out⟩
set_option maxRecDepth 100000 in
set_option maxHeartbeats 2000000 in
theorem inum_any (g : Nat) (i : ByteArray × Int) (w : World) (h : InAt w g i) :
    Calls Try.prog 16 #[.pointer (some ⟨g, 0, none⟩)] w fun e w' => e = .returned (.int .i64 ((inNumP i).2 : Int)) ∧ InTo w g (inNumP i).1 w' := by
  have HT : Hid (∀ w', w' = w → Calls Try.prog 32 #[.pointer (some ⟨g, 0, none⟩), .int .i64 6] w' fun e w'' => e = .returned (.string (takeS i 6)) ∧ InTo w' g (takeI i 6) w'') := fun w' e => by subst e; exact itake_any g i 6 _ h (by decide)
  have HRd : Hid (∀ w', Calls Try.prog 31 #[.string (takeS i 6)] w' fun e w'' => e = .returned (.int .i64 (accB (takeS i 6) (takeS i 6).size : Int)) ∧ w'' = w') := fun w' => cread_any _ _ (takeS_size i 6)
  unfold inNumP
  rw [← take_number i 6]
  show Calls _ _ _ _ fun e w' => e = .returned (.int .i64 (((if 1099511627775 < accB (takeS i 6) (takeS i 6).size then (wrongP (takeI i 6) 91, 0) else (takeI i 6, accB (takeS i 6) (takeS i 6).size)).2 : Nat) : Int)) ∧ InTo w g ((if 1099511627775 < accB (takeS i 6) (takeS i 6).size then (wrongP (takeI i 6) 91, 0) else (takeI i 6, accB (takeS i 6) (takeS i 6).size)).1) w'
  generalize accB (takeS i 6) (takeS i 6).size = n at *
  generalize takeS i 6 = T at *
  generalize takeI i 6 = J at *
  clear h
  by_cases hn : 1099511627775 < n
  · rw [if_pos hn]
    go_enter Try.func16, Try.ntmps16
    go_wp2_with fail
    refine (HT.out _ rfl).mono ?_
    rintro e w1 ⟨rfl, h1⟩
    have H1 : Hid (InTo w g J w1) := h1
    clear h1
    go_wp2_with fail
    refine (HRd.out _).mono ?_
    rintro e w2 ⟨rfl, rfl⟩
    go_wp2_with fail
    refine (ifail_any g J 91 _ H1.out.1).mono ?_
    rintro e w3 ⟨rfl, h3⟩
    have H3 : Hid (InTo w g (wrongP J 91) w3) := H1.out.trans h3
    clear h3
    go_wp2
    go_ret
    exact ⟨rfl, H3.out⟩
  · rw [if_neg hn]
    go_enter Try.func16, Try.ntmps16
    go_wp2_with fail
    refine (HT.out _ rfl).mono ?_
    rintro e w1 ⟨rfl, h1⟩
    have H1 : Hid (InTo w g J w1) := h1
    clear h1
    go_wp2_with fail
    refine (HRd.out _).mono ?_
    rintro e w2 ⟨rfl, rfl⟩
    go_wp2
    go_ret
    exact ⟨rfl, H1.out⟩

theorem InAt.none {w : World} {g : Nat} {i : ByteArray × Int} (h : InAt w g i) (hc : i.2 ≠ 0) (e : Int) : wrongP i e = i := by
  obtain ⟨S, c⟩ := i
  have hw : S = ⟨#[]⟩ := h.2.1 hc
  have hc' : ¬ c = 0 := hc
  unfold wrongP
  rw [if_neg hc', hw]
/-- A text, as the code takes it. -/
def inTextC (i : ByteArray × Int) (most : Int) : (ByteArray × Int) × ByteArray :=
  if most < ((numberP i 2).2 : Int) then (wrongP (numberP i 2).1 91, ⟨#[]⟩) else (takeI (numberP i 2).1 (numberP i 2).2, takeS (numberP i 2).1 (numberP i 2).2)
theorem number_wrong (i : ByteArray × Int) (n : Nat) (h : (numberP i n).1.2 ≠ 0) : (numberP i n).2 = 0 := by
  unfold numberP at h ⊢
  split
  · rfl
  · next hc =>
    rw [if_neg hc] at h
    exact absurd (Or.inl h) hc
theorem text_same (i : ByteArray × Int) (most : Int) (hi : ∀ e, (numberP i 2).1.2 ≠ 0 → wrongP (numberP i 2).1 e = (numberP i 2).1) : inTextC i most = inTextP i most := by
  unfold inTextC inTextP
  by_cases hc : (numberP i 2).1.2 ≠ 0
  · rw [if_pos hc, number_wrong i 2 hc]
    unfold takeI takeS
    rw [if_pos (Or.inl hc), if_pos (Or.inl hc), hi 90 hc, hi 91 hc]
    split <;> rfl
  · rw [if_neg hc]
    split
    · rfl
    · unfold takeI takeS
      by_cases hz : (numberP i 2).1.1.size < (numberP i 2).2
      · rw [if_pos (Or.inr hz), if_pos (Or.inr hz), if_pos hz]
      · rw [if_neg (fun h => h.elim hc hz), if_neg (fun h => h.elim hc hz), if_neg hz]
theorem number2_lt (i : ByteArray × Int) : (numberP i 2).2 < 65536 := by
  unfold numberP
  split
  · show 0 < 65536; decide
  · exact Nat.lt_of_lt_of_le (accB_lt i.1 2) (by decide)

set_option maxRecDepth 100000 in
set_option maxHeartbeats 2000000 in
theorem itext_any (g : Nat) (i : ByteArray × Int) (most : Int) (w : World) (h : InAt w g i) :
    Calls Try.prog 18 #[.pointer (some ⟨g, 0, none⟩), .int .i64 most] w fun e w' => e = .returned (.string (inTextC i most).2) ∧ InTo w g (inTextC i most).1 w' := by
  have HT : Hid (∀ w', w' = w → Calls Try.prog 32 #[.pointer (some ⟨g, 0, none⟩), .int .i64 2] w' fun e w'' => e = .returned (.string (takeS i 2)) ∧ InTo w' g (takeI i 2) w'') := fun w' e => by subst e; exact itake_any g i 2 _ h (by decide)
  have HRd : Hid (∀ w', Calls Try.prog 31 #[.string (takeS i 2)] w' fun e w'' => e = .returned (.int .i64 (accB (takeS i 2) (takeS i 2).size : Int)) ∧ w'' = w') := fun w' => cread_any _ _ (Nat.le_trans (takeS_size i 2) (by decide))
  have hl := number2_lt i
  unfold inTextC
  rw [← take_number i 2] at hl ⊢
  show Calls _ _ _ _ fun e w' => e = .returned (.string (if most < ((accB (takeS i 2) (takeS i 2).size : Nat) : Int) then (wrongP (takeI i 2) 91, ⟨#[]⟩) else (takeI (takeI i 2) (accB (takeS i 2) (takeS i 2).size), takeS (takeI i 2) (accB (takeS i 2) (takeS i 2).size))).2) ∧ InTo w g ((if most < ((accB (takeS i 2) (takeS i 2).size : Nat) : Int) then (wrongP (takeI i 2) 91, ⟨#[]⟩) else (takeI (takeI i 2) (accB (takeS i 2) (takeS i 2).size), takeS (takeI i 2) (accB (takeS i 2) (takeS i 2).size))).1) w'
  have hl' : accB (takeS i 2) (takeS i 2).size < 65536 := hl
  clear hl
  generalize accB (takeS i 2) (takeS i 2).size = n at *
  generalize takeS i 2 = T at *
  generalize takeI i 2 = J at *
  clear h
  by_cases hn : most < (n : Int)
  · rw [if_pos hn]
    go_enter Try.func18, Try.ntmps18
    go_wp2_with fail
    refine (HT.out _ rfl).mono ?_
    rintro e w1 ⟨rfl, h1⟩
    have H1 : Hid (InTo w g J w1) := h1
    clear h1
    go_wp2_with fail
    refine (HRd.out _).mono ?_
    rintro e w2 ⟨rfl, rfl⟩
    go_wp2_with fail
    refine (ifail_any g J 91 _ H1.out.1).mono ?_
    rintro e w3 ⟨rfl, h3⟩
    have H3 : Hid (InTo w g (wrongP J 91) w3) := H1.out.trans h3
    clear h3
    go_wp2
    go_ret
    exact ⟨rfl, H3.out⟩
  · rw [if_neg hn]
    go_enter Try.func18, Try.ntmps18
    go_wp2_with fail
    refine (HT.out _ rfl).mono ?_
    rintro e w1 ⟨rfl, h1⟩
    have H1 : Hid (InTo w g J w1) := h1
    clear h1
    go_wp2_with fail
    refine (HRd.out _).mono ?_
    rintro e w2 ⟨rfl, rfl⟩
    go_wp2_with fail
    refine (itake_any g J n _ H1.out.1 (by omega)).mono ?_
    rintro e w3 ⟨rfl, h3⟩
    have H3 : Hid (InTo w g (takeI J n) w3) := H1.out.trans h3
    clear h3
    go_wp2
    go_ret
    exact ⟨rfl, H3.out⟩

/-- A stamp, as the code takes it. -/
def stampI (i : ByteArray × Int) : ByteArray × Int := if i.1.size < 7 then wrongP i 90 else i
def inStampC (i : ByteArray × Int) : (ByteArray × Int) × (Int × Int) :=
  ((numberP (inNumP (stampI i)).1 1).1, (((inNumP (stampI i)).2 : Int), ((numberP (inNumP (stampI i)).1 1).2 : Int)))
set_option maxRecDepth 100000 in
set_option maxHeartbeats 4000000 in
theorem istamp_any (g : Nat) (i : ByteArray × Int) (w : World) (h : InAt w g i) :
    Calls Try.prog 17 #[.pointer (some ⟨g, 0, none⟩)] w fun e w' => e = .returned (.agg #[.int .i64 (inStampC i).2.1, .int .i64 (inStampC i).2.2]) ∧ InTo w g (inStampC i).1 w' := by
  have hlt := h.1.lt
  have HB0 : Hid (Blk (w.alloc (.cells #[.int .i64 0, .int .i64 0] 40)) 40 w.heap.size #[.int .i64 0, .int .i64 0]) := Blk.new _ _ _
  have hI : Hid (InAt (w.alloc (.cells #[.int .i64 0, .int .i64 0] 40)) g i) := h.on (below_new w _)
  have hs : i.1.size ≤ 1048576 := h.2.2
  clear h
  show Calls _ _ _ _ fun e w' => e = .returned (.agg #[.int .i64 ((inNumP (stampI i)).2 : Int), .int .i64 ((numberP (inNumP (stampI i)).1 1).2 : Int)]) ∧ InTo w g (numberP (inNumP (stampI i)).1 1).1 w'
  obtain ⟨X, hX⟩ : ∃ X, inNumP (stampI i) = X := ⟨_, rfl⟩
  have HNum0 : Hid (∀ w', InAt w' g (stampI i) → Calls Try.prog 16 #[.pointer (some ⟨g, 0, none⟩)] w' fun e w'' => e = .returned (.int .i64 (X.2 : Int)) ∧ InTo w' g X.1 w'') := fun w' h => by rw [← hX]; exact inum_any g _ w' h
  rw [hX]
  obtain ⟨Y, hY⟩ : ∃ Y, numberP X.1 1 = Y := ⟨_, rfl⟩
  have HByte : Hid (∀ w', InAt w' g X.1 → Calls Try.prog 15 #[.pointer (some ⟨g, 0, none⟩)] w' fun e w'' => e = .returned (.int .i64 (Y.2 : Int)) ∧ InTo w' g Y.1 w'') := fun w' h => by rw [← hY]; exact ibyte_any g _ w' h
  rw [hY]
  clear hX hY
  by_cases hz : i.1.size < 7
  · have e : stampI i = wrongP i 90 := if_pos hz
    rw [e] at HNum0
    obtain ⟨J, hJ⟩ : ∃ J, wrongP i 90 = J := ⟨_, rfl⟩
    have HFl : Hid (∀ w', w' = w.alloc (.cells #[.int .i64 0, .int .i64 0] 40) → Calls Try.prog 33 #[.pointer (some ⟨g, 0, none⟩), .int .i64 90] w' fun e w'' => e = .returned (.tuple #[]) ∧ InTo w' g J w'') := fun w' e => by subst e; rw [← hJ]; exact ifail_any g i 90 _ hI.out
    have HNum : Hid (∀ w', InAt w' g J → Calls Try.prog 16 #[.pointer (some ⟨g, 0, none⟩)] w' fun e w'' => e = .returned (.int .i64 (X.2 : Int)) ∧ InTo w' g X.1 w'') := by rw [← hJ]; exact HNum0
    clear hJ e HNum0
    go_enter Try.func17, Try.ntmps17
    go_wp2_with fail
    refine (irest_any g i _ hI.out).mono ?_
    rintro e w1 ⟨rfl, hw1⟩
    subst hw1
    go_wp2_with fail
    refine (HFl.out _ rfl).mono ?_
    rintro e w2 ⟨rfl, h2⟩
    have HJ : Hid (InTo (w.alloc (.cells #[.int .i64 0, .int .i64 0] 40)) g J w2) := h2
    have HB : Hid (Blk (w.alloc (.cells #[.int .i64 0, .int .i64 0] 40)) 40 w.heap.size #[.int .i64 0, .int .i64 0]) := HB0
    clear h2 HB0
    go_wp2_with fail
    refine (HNum.out _ HJ.out.1).mono ?_
    rintro e w3 ⟨rfl, h3⟩
    have H3 : Hid (InTo w g X.1 w3) := InTo.behind (below_new w _) (HJ.out.trans h3)
    have B3 : Hid (Blk w3 40 w.heap.size #[.int .i64 0, .int .i64 0]) := HB.out.kept (HJ.out.trans h3).2 (by omega) (by simp)
    have hlt3 : w.heap.size < w3.heap.size := B3.out.lt
    clear h3
    go_wp2_with fail
    refine (HByte.out _ H3.out.1).mono ?_
    rintro e w4 ⟨rfl, h4⟩
    have H4 : Hid (InTo w g Y.1 w4) := H3.out.trans h4
    have B4 : Hid (Blk w4 40 w.heap.size #[.int .i64 0, .int .i64 0]) := B3.out.kept h4.2 (by omega) (by simp)
    clear h4 H3 B3
    go_wp2_with (with_reducible refine wpList_storeBlk rfl 40 _ _ rfl w.heap.size #[.int .i64 0, .int .i64 0] #[.int .i64 (X.2 : Int), .int .i64 (Y.2 : Int)] ?hx ?hy B4.out rfl ?hi ?h1 ?_)
    try (case hx => rfl)
    try (case hy => rfl)
    try (case hi => kernel_rfl)
    try (case h1 => simp [Value.oneCell'])
    exact bodyPost_row rfl w.heap.size #[.int .i64 (X.2 : Int), .int .i64 (Y.2 : Int)] rfl rfl (B4.out.setRow _) _ Try.underlying40 rfl (by kernel_rfl) ⟨rfl, ⟨H4.out.1.1.setRowOther _ (by omega) _, H4.out.1.2⟩, ⟨H4.out.2.os, H4.out.2.tape, H4.out.2.output, by have := H4.out.2.size; simpa [World.setRow] using this, fun k a b c => by rw [setRow_other _ _ _ _ (by omega)]; exact H4.out.2.block k a b c⟩⟩
  · have e : stampI i = i := if_neg hz
    rw [e] at HNum0
    have HNum : Hid _ := HNum0.out
    clear e HNum0
    go_enter Try.func17, Try.ntmps17
    go_wp2_with fail
    refine (irest_any g i _ hI.out).mono ?_
    rintro e w1 ⟨rfl, hw1⟩
    subst hw1
    have HJ : Hid (InTo (w.alloc (.cells #[.int .i64 0, .int .i64 0] 40)) g i (w.alloc (.cells #[.int .i64 0, .int .i64 0] 40))) := InTo.same hI.out
    have HB : Hid (Blk (w.alloc (.cells #[.int .i64 0, .int .i64 0] 40)) 40 w.heap.size #[.int .i64 0, .int .i64 0]) := HB0
    clear HB0
    go_wp2_with fail
    refine (HNum.out _ HJ.out.1).mono ?_
    rintro e w3 ⟨rfl, h3⟩
    have H3 : Hid (InTo w g X.1 w3) := InTo.behind (below_new w _) (HJ.out.trans h3)
    have B3 : Hid (Blk w3 40 w.heap.size #[.int .i64 0, .int .i64 0]) := HB.out.kept (HJ.out.trans h3).2 (by omega) (by simp)
    have hlt3 : w.heap.size < w3.heap.size := B3.out.lt
    clear h3
    go_wp2_with fail
    refine (HByte.out _ H3.out.1).mono ?_
    rintro e w4 ⟨rfl, h4⟩
    have H4 : Hid (InTo w g Y.1 w4) := H3.out.trans h4
    have B4 : Hid (Blk w4 40 w.heap.size #[.int .i64 0, .int .i64 0]) := B3.out.kept h4.2 (by omega) (by simp)
    clear h4 H3 B3
    go_wp2_with (with_reducible refine wpList_storeBlk rfl 40 _ _ rfl w.heap.size #[.int .i64 0, .int .i64 0] #[.int .i64 (X.2 : Int), .int .i64 (Y.2 : Int)] ?hx ?hy B4.out rfl ?hi ?h1 ?_)
    try (case hx => rfl)
    try (case hy => rfl)
    try (case hi => kernel_rfl)
    try (case h1 => simp [Value.oneCell'])
    exact bodyPost_row rfl w.heap.size #[.int .i64 (X.2 : Int), .int .i64 (Y.2 : Int)] rfl rfl (B4.out.setRow _) _ Try.underlying40 rfl (by kernel_rfl) ⟨rfl, ⟨H4.out.1.1.setRowOther _ (by omega) _, H4.out.1.2⟩, ⟨H4.out.2.os, H4.out.2.tape, H4.out.2.output, by have := H4.out.2.size; simpa [World.setRow] using this, fun k a b c => by rw [setRow_other _ _ _ _ (by omega)]; exact H4.out.2.block k a b c⟩⟩
end Go.Proofs.Ytmpjhflbmngajaa
