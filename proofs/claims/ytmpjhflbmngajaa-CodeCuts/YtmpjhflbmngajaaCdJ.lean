/- The code's In (layer 9): one that nobody made; its stamps beside the document's. -/
import Derived.Test.YtmpjhflbmngajaaCdI
namespace Go.Proofs.Ytmpjhflbmngajaa
open Go.RowKit
set_option linter.unusedSimpArgs false

set_option maxRecDepth 100000 in
set_option maxHeartbeats 2000000 in
theorem itake_no (p : Value) (n : Int) (w : World) (h : NoIn w p) :
    Calls Try.prog 32 #[p, .int .i64 n] w fun e w' => e = .returned (.string ⟨#[]⟩) ∧ w' = w := by
  have HN : Hid (NoIn w p) := h
  clear h
  by_cases hn : 0 < n
  · go_enter Try.func32, Try.ntmps32
    go_wp2_with fail
    refine (irest_no p _ HN.out).mono ?_
    rintro e w1 ⟨rfl, rfl⟩
    go_wp2_with fail
    refine (ifail_no p 90 _ HN.out).mono ?_
    rintro e w2 ⟨rfl, rfl⟩
    go_wp2_with fail
    refine (iwell_no p _ HN.out).mono ?_
    rintro e w3 ⟨rfl, rfl⟩
    go_wp2
    go_ret
    exact ⟨rfl, rfl⟩
  · go_enter Try.func32, Try.ntmps32
    go_wp2_with fail
    refine (irest_no p _ HN.out).mono ?_
    rintro e w1 ⟨rfl, rfl⟩
    go_wp2_with fail
    refine (iwell_no p _ HN.out).mono ?_
    rintro e w3 ⟨rfl, rfl⟩
    go_wp2
    go_ret
    exact ⟨rfl, rfl⟩
theorem cread_none (w : World) : Calls Try.prog 31 #[.string ⟨#[]⟩] w fun x w' => x = .returned (.int .i64 0) ∧ w' = w := cread_any ⟨#[]⟩ w (Nat.zero_le _)
set_option maxHeartbeats 1000000 in
theorem ibyte_no (p : Value) (w : World) (h : NoIn w p) : Calls Try.prog 15 #[p] w fun e w' => e = .returned (.int .i64 0) ∧ w' = w := by
  have HN : Hid (NoIn w p) := h
  clear h
  go_enter Try.func15, Try.ntmps15
  go_wp2_with fail
  refine (itake_no p _ _ HN.out).mono ?_
  rintro e w1 ⟨rfl, rfl⟩
  go_wp2_with fail
  refine (cread_none _).mono ?_
  rintro e w2 ⟨rfl, rfl⟩
  go_wp2
  go_ret
  exact ⟨rfl, rfl⟩
set_option maxHeartbeats 1000000 in
theorem inum_no (p : Value) (w : World) (h : NoIn w p) : Calls Try.prog 16 #[p] w fun e w' => e = .returned (.int .i64 0) ∧ w' = w := by
  have HN : Hid (NoIn w p) := h
  clear h
  go_enter Try.func16, Try.ntmps16
  go_wp2_with fail
  refine (itake_no p _ _ HN.out).mono ?_
  rintro e w1 ⟨rfl, rfl⟩
  go_wp2_with fail
  refine (cread_none _).mono ?_
  rintro e w2 ⟨rfl, rfl⟩
  go_wp2
  go_ret
  exact ⟨rfl, rfl⟩
set_option maxHeartbeats 1000000 in
theorem itext_no (p : Value) (most : Int) (w : World) (h : NoIn w p) : Calls Try.prog 18 #[p, .int .i64 most] w fun e w' => e = .returned (.string ⟨#[]⟩) ∧ w' = w := by
  have HN : Hid (NoIn w p) := h
  clear h
  by_cases hm : most < 0
  · go_enter Try.func18, Try.ntmps18
    go_wp2_with fail
    refine (itake_no p _ _ HN.out).mono ?_
    rintro e w1 ⟨rfl, rfl⟩
    go_wp2_with fail
    refine (cread_none _).mono ?_
    rintro e w2 ⟨rfl, rfl⟩
    go_wp2_with fail
    refine (ifail_no p 91 _ HN.out).mono ?_
    rintro e w3 ⟨rfl, rfl⟩
    go_wp2
    go_ret
    exact ⟨rfl, rfl⟩
  · go_enter Try.func18, Try.ntmps18
    go_wp2_with fail
    refine (itake_no p _ _ HN.out).mono ?_
    rintro e w1 ⟨rfl, rfl⟩
    go_wp2_with fail
    refine (cread_none _).mono ?_
    rintro e w2 ⟨rfl, rfl⟩
    go_wp2_with fail
    refine (itake_no p 0 _ HN.out).mono ?_
    rintro e w3 ⟨rfl, rfl⟩
    go_wp2
    go_ret
    exact ⟨rfl, rfl⟩
set_option maxRecDepth 100000 in
set_option maxHeartbeats 2000000 in
theorem istamp_no (p : Value) (w : World) (h : NoIn w p) : Calls Try.prog 17 #[p] w fun e w' => e = .returned (.agg #[.int .i64 0, .int .i64 0]) ∧ Below w.heap.size w w' := by
  have HN : Hid (NoIn (w.alloc (.cells #[.int .i64 0, .int .i64 0] 40)) p) := h.on (below_new w _)
  have HB : Hid (Blk (w.alloc (.cells #[.int .i64 0, .int .i64 0] 40)) 40 w.heap.size #[.int .i64 0, .int .i64 0]) := Blk.new _ _ _
  clear h
  go_enter Try.func17, Try.ntmps17
  go_wp2_with fail
  refine (irest_no p _ HN.out).mono ?_
  rintro e w1 ⟨rfl, hw1⟩
  subst hw1
  go_wp2_with fail
  refine (ifail_no p 90 _ HN.out).mono ?_
  rintro e w2 ⟨rfl, hw2⟩
  subst hw2
  go_wp2_with fail
  refine (inum_no p _ HN.out).mono ?_
  rintro e w3 ⟨rfl, hw3⟩
  subst hw3
  go_wp2_with fail
  refine (ibyte_no p _ HN.out).mono ?_
  rintro e w4 ⟨rfl, hw4⟩
  subst hw4
  go_wp2_with (with_reducible refine wpList_storeBlk rfl 40 _ _ rfl w.heap.size #[.int .i64 0, .int .i64 0] #[.int .i64 0, .int .i64 0] ?hx ?hy HB.out rfl ?hi ?h1 ?_)
  try (case hx => rfl)
  try (case hy => rfl)
  try (case hi => kernel_rfl)
  try (case h1 => simp [Value.oneCell'])
  exact bodyPost_row rfl w.heap.size #[.int .i64 0, .int .i64 0] rfl rfl (HB.out.setRow _) _ Try.underlying40 rfl (by kernel_rfl) ⟨rfl, below_setRow (below_new w _) (Nat.le_refl _) _⟩

/-- The code's stamp is the document's, but where six bytes are a number above the last time. -/
theorem stampC_bad (e : Int) (he : e ≠ 0) : inStampC (⟨#[]⟩, e) = ((⟨#[]⟩, e), (0, 0)) := by
  have h1 : stampI (⟨#[]⟩, e) = (⟨#[]⟩, e) := by
    show (if (0 : Nat) < 7 then wrongP (⟨#[]⟩, e) 90 else _) = _
    rw [if_pos (by decide)]
    unfold wrongP; rw [if_neg he]
  unfold inStampC
  rw [h1, inNum_bad e he]
  show ((numberP (⟨#[]⟩, e) 1).1, (((0 : Nat) : Int), ((numberP (⟨#[]⟩, e) 1).2 : Int))) = _
  rw [number_bad e he]; rfl
theorem stampC_short (t : ByteArray) (h : t.size < 7) : inStampC (t, 0) = ((⟨#[]⟩, 90), (0, 0)) := by
  have h1 : stampI (t, 0) = (⟨#[]⟩, 90) := by
    show (if t.size < 7 then wrongP (t, 0) 90 else _) = _
    rw [if_pos h]
    unfold wrongP; rw [if_pos rfl]
  have h2 := stampC_bad 90 (by decide)
  unfold inStampC at h2 ⊢
  rw [h1]
  have h3 : stampI (⟨#[]⟩, 90) = (⟨#[]⟩, 90) := by
    show (if (0 : Nat) < 7 then wrongP (⟨#[]⟩, 90) 90 else _) = _
    rw [if_pos (by decide)]; rfl
  rw [h3] at h2
  exact h2
theorem inNum_wrong (i : ByteArray × Int) (h : (inNumP i).1.2 ≠ 0) : (inNumP i).2 = 0 := by
  unfold inNumP at h ⊢
  split
  · rfl
  · next hc =>
    rw [if_neg hc] at h
    exact number_wrong i 6 h
theorem stampC_long (t : ByteArray) (h : 7 ≤ t.size) : inStampC (t, 0) = inStampP (t, 0) := by
  have h1 : stampI (t, 0) = (t, 0) := by
    show (if t.size < 7 then _ else (t, (0 : Int))) = _
    rw [if_neg (by omega)]
  unfold inStampC inStampP
  rw [h1]
  by_cases hc : (numberP (inNumP (t, 0)).1 1).1.2 ≠ 0
  · rw [if_pos hc, number_wrong _ 1 hc]
    have hw : (inNumP (t, 0)).1.2 ≠ 0 := by
      intro e
      have e1 : (inNumP (t, 0)) = numberP (t, 0) 6 := by
        unfold inNumP at e ⊢
        split
        · next h' =>
          rw [if_pos h'] at e
          unfold wrongP at e
          have : (if (numberP (t, 0) 6).1.2 = 0 then (91 : Int) else (numberP (t, 0) 6).1.2) = 0 := e
          split at this <;> contradiction
        · rfl
      have e2 : numberP (t, 0) 6 = ((t.extract 6 t.size, 0), accB t 6) := by
        unfold numberP
        rw [if_neg (by rintro (h' | h'); exact h' rfl; have h2 : t.size < 6 := h'; omega)]
      have hs : (t.extract 6 t.size).size = t.size - 6 := by rw [ByteArray.size_extract]; omega
      rw [e1, e2] at hc
      apply hc
      show (numberP (t.extract 6 t.size, 0) 1).1.2 = 0
      unfold numberP
      rw [if_neg (by rintro (h' | h'); exact h' rfl; have h2 : (t.extract 6 t.size).size < 1 := h'; omega)]
    rw [inNum_wrong _ hw]; rfl
  · rw [if_neg hc]
theorem stampC_same (t : ByteArray) (h : t.size ≠ 6 ∨ accB t 6 ≤ 1099511627775) : inStampC (t, 0) = inStampP (t, 0) := by
  by_cases hz : 7 ≤ t.size
  · exact stampC_long t hz
  · rw [stampC_short t (by omega)]
    unfold inStampP
    by_cases h6 : t.size = 6
    · have hl : accB t 6 ≤ 1099511627775 := h.resolve_left (fun h => h h6)
      have e2 : numberP (t, 0) 6 = ((t.extract 6 t.size, 0), accB t 6) := by
        unfold numberP
        rw [if_neg (by rintro (h' | h'); exact h' rfl; have h2 : t.size < 6 := h'; omega)]
      have e3 : inNumP (t, 0) = ((t.extract 6 t.size, 0), accB t 6) := by
        unfold inNumP
        rw [e2, if_neg (by show ¬ 1099511627775 < accB t 6; omega)]
      have hs : (t.extract 6 t.size).size = 0 := by rw [ByteArray.size_extract]; omega
      have e4 : numberP (t.extract 6 t.size, 0) 1 = ((⟨#[]⟩, 90), 0) := by
        unfold numberP
        rw [if_pos (Or.inr (by show (t.extract 6 t.size).size < 1; omega))]; rfl
      rw [e3]
      show _ = (if (numberP (t.extract 6 t.size, 0) 1).1.2 ≠ 0 then _ else _)
      rw [e4, if_pos (by decide)]
    · have e2 : numberP (t, 0) 6 = ((⟨#[]⟩, 90), 0) := by
        unfold numberP
        rw [if_pos (Or.inr (by show t.size < 6; omega))]; rfl
      have e3 : inNumP (t, 0) = ((⟨#[]⟩, 90), 0) := by
        unfold inNumP
        rw [e2]; rfl
      rw [e3]
      show _ = (if (numberP (⟨#[]⟩, 90) 1).1.2 ≠ 0 then _ else _)
      rw [number_bad 90 (by decide), if_pos (by decide)]
end Go.Proofs.Ytmpjhflbmngajaa
