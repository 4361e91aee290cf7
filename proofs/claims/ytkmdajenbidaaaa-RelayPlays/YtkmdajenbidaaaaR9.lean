import Derived.Test.YtkmdajenbidaaaaG
import Derived.Laws.ResultCell
/- Structs by value; the document's with (layer 9). -/
namespace Go.Proofs.Ytkmdajenbidaaaa
open Go.RowKit
set_option maxRecDepth 100000
set_option linter.unusedSimpArgs false

/-- An Out on plain data; with a part more. -/
def outV (o : ByteArray × Bool) : Value := .agg #[.string o.1, .bool o.2]

def layP (o : ByteArray × Bool) (s : ByteArray) (ok : Bool) : ByteArray × Bool := if ok = true ∧ o.2 = false ∧ o.1.size + s.size ≤ 65536 then (o.1 ++ s, false) else (o.1, true)


set_option maxRecDepth 100000 in
set_option maxHeartbeats 2000000 in
theorem rwith_any (o : ByteArray × Bool) (s : ByteArray) (ok : Bool) (w : World) (ho : o.1.size ≤ 65536) (hs : s.size ≤ 1048576) :
    Calls Try.prog 36 #[outV o, .string s, .bool ok] w fun e w' => e = .returned (outV (layP o s ok)) ∧ Below w.heap.size w w' := by
  obtain ⟨S, b⟩ := o
  have hS : S.size ≤ 65536 := ho
  clear ho
  show Calls Try.prog 36 #[.agg #[.string S, .bool b], .string s, .bool ok] w _
  unfold outV layP
  cases ok with
  | false =>
    rw [if_neg (fun h => by cases h.1)]
    go_enter Try.func36, Try.ntmps36
    go_wp2
    exact bodyPost_row rfl (w.heap.size + 1) #[.string S, .bool true] rfl rfl (Blk.new' _ _ _ _ (by simp)) _ Try.underlying55 rfl (by kernel_rfl) ⟨rfl, (below_new w _).alloc (by simp) _⟩
  | true =>
    cases b with
    | true =>
      rw [if_neg (fun h => by cases h.2.1)]
      go_enter Try.func36, Try.ntmps36
      go_wp2
      exact bodyPost_row rfl (w.heap.size + 1) #[.string S, .bool true] rfl rfl (Blk.new' _ _ _ _ (by simp)) _ Try.underlying55 rfl (by kernel_rfl) ⟨rfl, (below_new w _).alloc (by simp) _⟩
    | false =>
      by_cases hz : S.size + s.size ≤ 65536
      · rw [if_pos ⟨rfl, rfl, hz⟩]
        have g0 : decide ((65536 : Int) < (S.size : Int) + (s.size : Int)) = false := by simp; omega
        have hsum : ¬ (9223372036854775807 < S.size + s.size) := by omega
        obtain ⟨E, hE⟩ : ∃ E, S ++ s = E := ⟨_, rfl⟩
        rw [hE]
        go_enter Try.func36, Try.ntmps36
        go_wp2
        exact bodyPost_row rfl (w.heap.size + 1) #[.string E, .bool false] rfl rfl (Blk.new' _ _ _ _ (by simp)) _ Try.underlying55 rfl (by kernel_rfl) ⟨rfl, (below_new w _).alloc (by simp) _⟩
      · rw [if_neg (fun h => hz h.2.2)]
        have g0 : decide ((65536 : Int) < (S.size : Int) + (s.size : Int)) = true := by simp; omega
        go_enter Try.func36, Try.ntmps36
        go_wp2
        exact bodyPost_row rfl (w.heap.size + 1) #[.string S, .bool true] rfl rfl (Blk.new' _ _ _ _ (by simp)) _ Try.underlying55 rfl (by kernel_rfl) ⟨rfl, (below_new w _).alloc (by simp) _⟩

theorem layP_size (o : ByteArray × Bool) (s : ByteArray) (ok : Bool) (h : o.1.size ≤ 65536) : (layP o s ok).1.size ≤ 65536 := by
  unfold layP
  split
  · rename_i hc; show (o.1 ++ s).size ≤ _; rw [ByteArray.size_append]; exact hc.2.2
  · exact h

/-- A number as so many bytes, the highest first. -/
def bigF (n : Int) (many j : Nat) : Nat := (n / 2 ^ (8 * (many - 1 - j)) % 256).toNat

theorem bigF_lt (n : Int) (many j : Nat) : bigF n many j < 256 := by unfold bigF; omega

def bigB (n : Int) (many : Nat) : ByteArray := ⟨(bytesOf many (bigF n many)).toArray⟩

theorem bigB_size (n : Int) (many : Nat) : (bigB n many).size = many := by
  show (bytesOf many _).toArray.size = _
  rw [List.size_toArray, bytesOf_length]

set_option maxRecDepth 100000 in
set_option maxHeartbeats 2000000 in
theorem rbig_any (n : Int) (many : Nat) (w : World) (hm : many ≤ 7) :
    Calls Try.prog 37 #[.int .i64 n, .int .i64 (many : Int)] w fun e w' => e = .returned (.string (bigB n many)) ∧ Below w.heap.size w w' := by
  obtain ⟨i1, hj, hy0, hy1, hy2⟩ := info_parts Try.info5
  obtain ⟨F, HF⟩ : ∃ F, Hid (F = bigF n many) := ⟨_, rfl⟩
  have HFl : Hid (∀ i, F i < 256) := by show ∀ i, _; rw [HF.out]; exact bigF_lt n many
  obtain ⟨E, HE⟩ : ∃ E, Hid (E = bigB n many) := ⟨_, rfl⟩
  have HEF : Hid ((⟨(bytesOf many F).toArray⟩ : ByteArray) = E) := by show _ = _; rw [HE.out, HF.out]; rfl
  rw [← HE.out]
  go_enter Try.func37, Try.ntmps37
  go_wp2_with fail
  go_loopw [5, 6] (fun v i wr => ∃ k : Nat, ∃ z : Int, k ≤ many ∧ i = .int .i64 z ∧ Hid (z = (many : Int) - 1 - (k : Int)) ∧ OwnV wr w.heap.size 5 .u8 v k (wT F k) ∧ Below w.heap.size w wr) (fun _ i _ => (intOf i + 1).toNat)
  case atStart => exact ⟨0, (many : Int) - 1, Nat.zero_le _, rfl, by show _ = _; omega, OwnV.nil _ _ _ _, Below.refl _ _⟩
  case round =>
    obtain ⟨k, z, hk, rfl, HZ, hown, hbl⟩ := hrel
    by_cases hlt : k < many
    · have hsz := hbl.size
      obtain ⟨m, hm2⟩ : ∃ m : Nat, z = (m : Int) := ⟨many - 1 - k, by have := HZ.out; omega⟩
      subst hm2
      have hmk : m = many - 1 - k := by have := HZ.out; omega
      have hFk : F k = (n / 2 ^ (8 * m) % 256).toNat := by rw [HF.out, hmk]; rfl
      have hsn := wT_snoc F k ((F k : Nat) : Int) rfl
      have hlF := HFl.out k
      have va : bits .and .i64 (n / 2 ^ (8 * m)) 255 = ((F k : Nat) : Int) := by rw [i64_and255, hFk]; omega
      have b0 : (0 : Int) ≤ (m : Int) := by omega
      have lm : m ≤ 6 := by omega
      generalize F k = X at *
      have HSn : Hid (wT F k ++ [(X : Int)] = wT F (k + 1)) := hsn
      have HMK : Hid (m = many - 1 - k) := hmk
      clear hsn hFk hmk
      go_wp2_with (at_builtin; refine wpList_app1 rfl (.tmp 13) (.tmp 20) 93 rfl w.heap.size 5 i1 .u8 1 Try.underlying93 hj hy0 hy1 hy2 wr u5 k _ rfl hown (X : Int) rfl (by omega) (by omega) hsz ?_)
      intro v8 w8 O8 D8
      rw [HSn.out] at O8
      have B8 := hbl.trans D8
      clear hown hbl D8 HSn
      go_wp2
      refine ⟨⟨k + 1, (m : Int) - 1, by omega, rfl, by have := HMK.out; show _ = _; omega, O8, B8⟩, ?_⟩
      simp [intOf]
    · have hk' : k = many := by omega
      subst hk'
      have hz1 : z = -1 := by have := HZ.out; omega
      subst hz1
      have hnum : wT F k = nums (bytesOf k F) := (nums_bytesOf k F (fun i _ => HFl.out i)).symm
      rw [hnum] at hown
      have hcv := own_conv (P := Try.prog) 93 9 hown Try.underlying93 Try.underlying5 Try.underlying9
      rw [HEF.out] at hcv
      clear hown hnum
      go_wp2
      go_ret
      exact ⟨rfl, hbl⟩

end Go.Proofs.Ytkmdajenbidaaaa

/- The document's Byte, Num (layer 9). -/
namespace Go.Proofs.Ytkmdajenbidaaaa
open Go.RowKit
set_option maxRecDepth 100000
set_option linter.unusedSimpArgs false

def oneOk (n most : Int) : Bool := decide (0 ≤ n) && decide (n ≤ most)

def numP (o : ByteArray × Bool) (n : Int) (many : Nat) (most : Int) : ByteArray × Bool := layP o (bigB n many) (oneOk n most)






set_option maxRecDepth 100000 in
set_option maxHeartbeats 4000000 in
theorem rbyte_any (o : ByteArray × Bool) (n : Int) (w : World) (ho : o.1.size ≤ 65536) :
    Calls Try.prog 20 #[outV o, .int .i64 n] w fun e w' => e = .returned (outV (numP o n 1 255)) ∧ Below w.heap.size w w' := by
  obtain ⟨S, b⟩ := o
  have hS : S.size ≤ 65536 := ho
  clear ho
  show Calls Try.prog _ #[.agg #[.string S, .bool b], .int .i64 n] w _
  obtain ⟨E, hE⟩ : ∃ E, E = bigB n 1 := ⟨_, rfl⟩
  have hEs : E.size ≤ 1048576 := by rw [hE, bigB_size]; decide
  have CB' := fun w => rbig_any n 1 w (by decide)
  rw [← hE] at CB'
  have CB : Hid (∀ w, _) := CB'
  obtain ⟨ok, hok⟩ : ∃ ok, ok = oneOk n 255 := ⟨_, rfl⟩
  have CW' := fun w => rwith_any (S, b) E ok w hS hEs
  obtain ⟨⟨S', b'⟩, hR⟩ : ∃ r, r = layP (S, b) E ok := ⟨_, rfl⟩
  have hRes : numP (S, b) n 1 255 = (S', b') := by rw [hR, hE, hok]; rfl
  rw [hRes]
  rw [← hR] at CW'
  have CW : Hid (∀ w, Calls Try.prog 36 #[.agg #[.string S, .bool b], .string E, .bool ok] w fun e w' => e = .returned (.agg #[.string S', .bool b']) ∧ Below w.heap.size w w') := CW'
  unfold outV
  clear CB' CW' hR hRes hE
  have A0 : Hid (Blk ((w.alloc (.cells #[.string S, .bool b] 55)).alloc (.cells #[.string ⟨#[]⟩, .bool false] 55)) 55 w.heap.size #[.string S, .bool b]) := (Blk.new w _ _).alloc _
  have A1 : Hid (Blk ((w.alloc (.cells #[.string S, .bool b] 55)).alloc (.cells #[.string ⟨#[]⟩, .bool false] 55)) 55 (w.heap.size + 1) #[.string ⟨#[]⟩, .bool false]) := Blk.new' _ _ _ _ (by simp)
  have AB : Below w.heap.size w ((w.alloc (.cells #[.string S, .bool b] 55)).alloc (.cells #[.string ⟨#[]⟩, .bool false] 55)) := (below_new w _).alloc (by simp) _
  by_cases h0 : 0 ≤ n
  · have g0 : decide ((0 : Int) ≤ n) = true := by simp; exact h0
    by_cases h1 : n ≤ 255
    · have g1 : decide (n ≤ 255) = true := by simp; exact h1
      have hk : ok = true := by rw [hok]; unfold oneOk; rw [g0, g1]; rfl
      subst hk
      clear hok
      go_enter Try.func20, Try.ntmps20
      go_wp2_with fail
      generalize hq : World.alloc (World.alloc w _) _ = W at *
      clear hq
      refine wp_region_noPanic ?_
      refine wp_region_held_drew (S := fun w' => Blk w' 55 w.heap.size #[.string S, .bool b]) (by kernel_rfl) (by first | exact trivial | assumption | exact ⟨by assumption, by assumption⟩) (fun hHeld => ?_)
      refine take_at (i := 0) (v := .agg #[.string S, .bool b]) rfl rfl (by kernel_rfl) (by kernel_rfl) (by kernel_rfl) (fun _ _ _ h => h) (Or.inl ⟨by rfl, ?_⟩) (by assumption) ?_
      · intro w' hSw
        exact exec_loadRow 55 _ rfl w.heap.size #[.string S, .bool b] rfl hSw _ Try.underlying55 rfl (by kernel_rfl)
      try simp only [Act.put, List.setIfInBounds_toArray, List.set_cons_zero, List.set_cons_succ]
      refine take_at (i := 1) (v := ?_) rfl rfl (by kernel_rfl) (by kernel_rfl) (by kernel_rfl) (fun _ _ _ h => h) (Or.inl ⟨by rfl, ?_⟩) (by assumption) ?_
      rotate_left
      · intro w hSw; (try dsimp only at hSw); go_simp; try with_reducible rfl
      try simp only [Act.put, List.setIfInBounds_toArray, List.set_cons_zero, List.set_cons_succ]
      refine take_at (i := 3) (v := ?_) rfl rfl (by kernel_rfl) (by kernel_rfl) (by kernel_rfl) (fun _ _ _ h => h) (Or.inl ⟨by rfl, ?_⟩) (by assumption) ?_
      rotate_left
      · intro w hSw; (try dsimp only at hSw); go_simp; try with_reducible rfl
      try simp only [Act.put, List.setIfInBounds_toArray, List.set_cons_zero, List.set_cons_succ]
      refine take_at (i := 4) (v := ?_) rfl rfl (by kernel_rfl) (by kernel_rfl) (by kernel_rfl) (fun _ _ _ h => h) (Or.inl ⟨by rfl, ?_⟩) (by assumption) ?_
      rotate_left
      · intro w hSw; (try dsimp only at hSw); go_simp; try with_reducible rfl
      try simp only [Act.put, List.setIfInBounds_toArray, List.set_cons_zero, List.set_cons_succ]
      have hS0 : Blk W.drew 55 w.heap.size #[.string S, .bool b] := A0.out
      have hS1 : Blk W.drew 55 (w.heap.size + 1) #[.string ⟨#[]⟩, .bool false] := A1.out
      have hB0 : Below w.heap.size w W.drew := AB.drew
      clear A0 A1 AB
      refine wpAnyH_ready (rs := [2]) (by kernel_rfl) (by simp) ?_
      refine AllReadyH.cons rfl (fun K hK => ?_) AllReadyH.nil
      go_simp
      refine (CB.out _).mono ?_
      rintro e w4 ⟨rfl, hb4⟩
      have hS4 := hS0.on hb4
      have hT4 := hS1.on hb4
      have hB4 := below_step hB0 (Nat.le_refl _) hb4
      clear CB hb4 hS0 hS1 hB0
      refine hK.out _ _ hS4 (fun hHeld => ?_)
      clear hK K
      refine take_at (i := 5) (v := ?_) rfl rfl (by kernel_rfl) (by kernel_rfl) (by kernel_rfl) (fun _ _ _ h => h) (Or.inl ⟨by rfl, ?_⟩) (by assumption) ?_
      rotate_left
      · intro w hSw; (try dsimp only at hSw); go_simp; try with_reducible rfl
      try simp only [Act.put, List.setIfInBounds_toArray, List.set_cons_zero, List.set_cons_succ]
      refine take_at (i := 6) (v := ?_) rfl rfl (by kernel_rfl) (by kernel_rfl) (by kernel_rfl) (fun _ _ _ h => h) (Or.inl ⟨by rfl, ?_⟩) (by assumption) ?_
      rotate_left
      · intro w hSw; (try dsimp only at hSw); go_simp; try with_reducible rfl
      try simp only [Act.put, List.setIfInBounds_toArray, List.set_cons_zero, List.set_cons_succ]
      refine take_at (i := 7) (v := ?_) rfl rfl (by kernel_rfl) (by kernel_rfl) (by kernel_rfl) (fun _ _ _ h => h) (Or.inl ⟨by rfl, ?_⟩) (by assumption) ?_
      rotate_left
      · intro w hSw; (try dsimp only at hSw); go_simp; try with_reducible rfl
      try simp only [Act.put, List.setIfInBounds_toArray, List.set_cons_zero, List.set_cons_succ]
      refine take_at (i := 8) (v := ?_) rfl rfl (by kernel_rfl) (by kernel_rfl) (by kernel_rfl) (fun _ _ _ h => h) (Or.inl ⟨by rfl, ?_⟩) (by assumption) ?_
      rotate_left
      · intro w hSw; (try dsimp only at hSw); go_simp; try with_reducible rfl
      try simp only [Act.put, List.setIfInBounds_toArray, List.set_cons_zero, List.set_cons_succ]
      refine wpAnyH_ready (rs := [9]) (by kernel_rfl) (by simp) ?_
      refine AllReadyH.cons rfl (fun K hK => ?_) AllReadyH.nil
      go_simp
      refine (CW.out _).mono ?_
      rintro e w5 ⟨rfl, hb5⟩
      have hS5 := hS4.on hb5
      have hT5 := hT4.on hb5
      have hB5 := below_step hB4 (Nat.le_refl _) hb5
      clear CW hb5 hS4 hT4 hB4
      refine hK.out _ _ hS5 (fun hHeld => ?_)
      clear hK K
      refine wpAnyH_ready (rs := [10]) (by kernel_rfl) (by simp) ?_
      refine AllReadyH.cons rfl (fun K hK => ?_) AllReadyH.nil
      refine step_storeRow rfl rfl 55 _ _ rfl (w.heap.size + 1) #[.string ⟨#[]⟩, .bool false] #[.string S', .bool b'] rfl rfl hT5 rfl (by kernel_rfl) (by simp [Value.oneCell']) ?_
      refine hK.out _ _ (hS5.setRowOther _ (by omega) _) (fun hHeld => ?_)
      clear hK K
      refine wpAnyH_done (by kernel_rfl) (NoPanic.normal ?_) _
      go_wp2_with fail
      exact bodyPost_row rfl (w.heap.size + 1) #[.string S', .bool b'] rfl rfl (hT5.setRow _) _ Try.underlying55 rfl (by kernel_rfl) ⟨rfl, below_setRow hB5 (by omega) _⟩
    · have g1 : decide (n ≤ 255) = false := by simp; omega
      have hk : ok = false := by rw [hok]; unfold oneOk; rw [g0, g1]; rfl
      subst hk
      clear hok
      go_enter Try.func20, Try.ntmps20
      go_wp2_with fail
      generalize hq : World.alloc (World.alloc w _) _ = W at *
      clear hq
      refine wp_region_noPanic ?_
      refine wp_region_held_drew (S := fun w' => Blk w' 55 w.heap.size #[.string S, .bool b]) (by kernel_rfl) (by first | exact trivial | assumption | exact ⟨by assumption, by assumption⟩) (fun hHeld => ?_)
      refine take_at (i := 0) (v := .agg #[.string S, .bool b]) rfl rfl (by kernel_rfl) (by kernel_rfl) (by kernel_rfl) (fun _ _ _ h => h) (Or.inl ⟨by rfl, ?_⟩) (by assumption) ?_
      · intro w' hSw
        exact exec_loadRow 55 _ rfl w.heap.size #[.string S, .bool b] rfl hSw _ Try.underlying55 rfl (by kernel_rfl)
      try simp only [Act.put, List.setIfInBounds_toArray, List.set_cons_zero, List.set_cons_succ]
      refine take_at (i := 1) (v := ?_) rfl rfl (by kernel_rfl) (by kernel_rfl) (by kernel_rfl) (fun _ _ _ h => h) (Or.inl ⟨by rfl, ?_⟩) (by assumption) ?_
      rotate_left
      · intro w hSw; (try dsimp only at hSw); go_simp; try with_reducible rfl
      try simp only [Act.put, List.setIfInBounds_toArray, List.set_cons_zero, List.set_cons_succ]
      refine take_at (i := 3) (v := ?_) rfl rfl (by kernel_rfl) (by kernel_rfl) (by kernel_rfl) (fun _ _ _ h => h) (Or.inl ⟨by rfl, ?_⟩) (by assumption) ?_
      rotate_left
      · intro w hSw; (try dsimp only at hSw); go_simp; try with_reducible rfl
      try simp only [Act.put, List.setIfInBounds_toArray, List.set_cons_zero, List.set_cons_succ]
      refine take_at (i := 4) (v := ?_) rfl rfl (by kernel_rfl) (by kernel_rfl) (by kernel_rfl) (fun _ _ _ h => h) (Or.inl ⟨by rfl, ?_⟩) (by assumption) ?_
      rotate_left
      · intro w hSw; (try dsimp only at hSw); go_simp; try with_reducible rfl
      try simp only [Act.put, List.setIfInBounds_toArray, List.set_cons_zero, List.set_cons_succ]
      have hS0 : Blk W.drew 55 w.heap.size #[.string S, .bool b] := A0.out
      have hS1 : Blk W.drew 55 (w.heap.size + 1) #[.string ⟨#[]⟩, .bool false] := A1.out
      have hB0 : Below w.heap.size w W.drew := AB.drew
      clear A0 A1 AB
      refine wpAnyH_ready (rs := [2]) (by kernel_rfl) (by simp) ?_
      refine AllReadyH.cons rfl (fun K hK => ?_) AllReadyH.nil
      go_simp
      refine (CB.out _).mono ?_
      rintro e w4 ⟨rfl, hb4⟩
      have hS4 := hS0.on hb4
      have hT4 := hS1.on hb4
      have hB4 := below_step hB0 (Nat.le_refl _) hb4
      clear CB hb4 hS0 hS1 hB0
      refine hK.out _ _ hS4 (fun hHeld => ?_)
      clear hK K
      refine take_at (i := 5) (v := ?_) rfl rfl (by kernel_rfl) (by kernel_rfl) (by kernel_rfl) (fun _ _ _ h => h) (Or.inl ⟨by rfl, ?_⟩) (by assumption) ?_
      rotate_left
      · intro w hSw; (try dsimp only at hSw); go_simp; try with_reducible rfl
      try simp only [Act.put, List.setIfInBounds_toArray, List.set_cons_zero, List.set_cons_succ]
      refine take_at (i := 6) (v := ?_) rfl rfl (by kernel_rfl) (by kernel_rfl) (by kernel_rfl) (fun _ _ _ h => h) (Or.inl ⟨by rfl, ?_⟩) (by assumption) ?_
      rotate_left
      · intro w hSw; (try dsimp only at hSw); go_simp; try with_reducible rfl
      try simp only [Act.put, List.setIfInBounds_toArray, List.set_cons_zero, List.set_cons_succ]
      refine take_at (i := 7) (v := ?_) rfl rfl (by kernel_rfl) (by kernel_rfl) (by kernel_rfl) (fun _ _ _ h => h) (Or.inl ⟨by rfl, ?_⟩) (by assumption) ?_
      rotate_left
      · intro w hSw; (try dsimp only at hSw); go_simp; try with_reducible rfl
      try simp only [Act.put, List.setIfInBounds_toArray, List.set_cons_zero, List.set_cons_succ]
      refine take_at (i := 8) (v := ?_) rfl rfl (by kernel_rfl) (by kernel_rfl) (by kernel_rfl) (fun _ _ _ h => h) (Or.inl ⟨by rfl, ?_⟩) (by assumption) ?_
      rotate_left
      · intro w hSw; (try dsimp only at hSw); go_simp; try with_reducible rfl
      try simp only [Act.put, List.setIfInBounds_toArray, List.set_cons_zero, List.set_cons_succ]
      refine wpAnyH_ready (rs := [9]) (by kernel_rfl) (by simp) ?_
      refine AllReadyH.cons rfl (fun K hK => ?_) AllReadyH.nil
      go_simp
      refine (CW.out _).mono ?_
      rintro e w5 ⟨rfl, hb5⟩
      have hS5 := hS4.on hb5
      have hT5 := hT4.on hb5
      have hB5 := below_step hB4 (Nat.le_refl _) hb5
      clear CW hb5 hS4 hT4 hB4
      refine hK.out _ _ hS5 (fun hHeld => ?_)
      clear hK K
      refine wpAnyH_ready (rs := [10]) (by kernel_rfl) (by simp) ?_
      refine AllReadyH.cons rfl (fun K hK => ?_) AllReadyH.nil
      refine step_storeRow rfl rfl 55 _ _ rfl (w.heap.size + 1) #[.string ⟨#[]⟩, .bool false] #[.string S', .bool b'] rfl rfl hT5 rfl (by kernel_rfl) (by simp [Value.oneCell']) ?_
      refine hK.out _ _ (hS5.setRowOther _ (by omega) _) (fun hHeld => ?_)
      clear hK K
      refine wpAnyH_done (by kernel_rfl) (NoPanic.normal ?_) _
      go_wp2_with fail
      exact bodyPost_row rfl (w.heap.size + 1) #[.string S', .bool b'] rfl rfl (hT5.setRow _) _ Try.underlying55 rfl (by kernel_rfl) ⟨rfl, below_setRow hB5 (by omega) _⟩
  · have g0 : decide ((0 : Int) ≤ n) = false := by simp; omega
    have hk : ok = false := by rw [hok]; unfold oneOk; rw [g0]; rfl
    subst hk
    clear hok
    go_enter Try.func20, Try.ntmps20
    go_wp2_with fail
    generalize hq : World.alloc (World.alloc w _) _ = W at *
    clear hq
    refine wp_region_noPanic ?_
    refine wp_region_held_drew (S := fun w' => Blk w' 55 w.heap.size #[.string S, .bool b]) (by kernel_rfl) (by first | exact trivial | assumption | exact ⟨by assumption, by assumption⟩) (fun hHeld => ?_)
    refine take_at (i := 0) (v := .agg #[.string S, .bool b]) rfl rfl (by kernel_rfl) (by kernel_rfl) (by kernel_rfl) (fun _ _ _ h => h) (Or.inl ⟨by rfl, ?_⟩) (by assumption) ?_
    · intro w' hSw
      exact exec_loadRow 55 _ rfl w.heap.size #[.string S, .bool b] rfl hSw _ Try.underlying55 rfl (by kernel_rfl)
    try simp only [Act.put, List.setIfInBounds_toArray, List.set_cons_zero, List.set_cons_succ]
    refine take_at (i := 1) (v := ?_) rfl rfl (by kernel_rfl) (by kernel_rfl) (by kernel_rfl) (fun _ _ _ h => h) (Or.inl ⟨by rfl, ?_⟩) (by assumption) ?_
    rotate_left
    · intro w hSw; (try dsimp only at hSw); go_simp; try with_reducible rfl
    try simp only [Act.put, List.setIfInBounds_toArray, List.set_cons_zero, List.set_cons_succ]
    refine take_at (i := 3) (v := ?_) rfl rfl (by kernel_rfl) (by kernel_rfl) (by kernel_rfl) (fun _ _ _ h => h) (Or.inl ⟨by rfl, ?_⟩) (by assumption) ?_
    rotate_left
    · intro w hSw; (try dsimp only at hSw); go_simp; try with_reducible rfl
    try simp only [Act.put, List.setIfInBounds_toArray, List.set_cons_zero, List.set_cons_succ]
    refine take_at (i := 4) (v := ?_) rfl rfl (by kernel_rfl) (by kernel_rfl) (by kernel_rfl) (fun _ _ _ h => h) (Or.inl ⟨by rfl, ?_⟩) (by assumption) ?_
    rotate_left
    · intro w hSw; (try dsimp only at hSw); go_simp; try with_reducible rfl
    try simp only [Act.put, List.setIfInBounds_toArray, List.set_cons_zero, List.set_cons_succ]
    have hS0 : Blk W.drew 55 w.heap.size #[.string S, .bool b] := A0.out
    have hS1 : Blk W.drew 55 (w.heap.size + 1) #[.string ⟨#[]⟩, .bool false] := A1.out
    have hB0 : Below w.heap.size w W.drew := AB.drew
    clear A0 A1 AB
    refine wpAnyH_ready (rs := [2]) (by kernel_rfl) (by simp) ?_
    refine AllReadyH.cons rfl (fun K hK => ?_) AllReadyH.nil
    go_simp
    refine (CB.out _).mono ?_
    rintro e w4 ⟨rfl, hb4⟩
    have hS4 := hS0.on hb4
    have hT4 := hS1.on hb4
    have hB4 := below_step hB0 (Nat.le_refl _) hb4
    clear CB hb4 hS0 hS1 hB0
    refine hK.out _ _ hS4 (fun hHeld => ?_)
    clear hK K
    refine take_at (i := 5) (v := ?_) rfl rfl (by kernel_rfl) (by kernel_rfl) (by kernel_rfl) (fun _ _ _ h => h) (Or.inl ⟨by rfl, ?_⟩) (by assumption) ?_
    rotate_left
    · intro w hSw; (try dsimp only at hSw); go_simp; try with_reducible rfl
    try simp only [Act.put, List.setIfInBounds_toArray, List.set_cons_zero, List.set_cons_succ]
    refine take_at (i := 6) (v := undef) rfl rfl (by kernel_rfl) (by kernel_rfl) (by kernel_rfl) (fun _ _ _ h => h) (Or.inr ⟨by rfl, rfl⟩) (by assumption) ?_
    try simp only [Act.put, List.setIfInBounds_toArray, List.set_cons_zero, List.set_cons_succ]
    refine take_at (i := 7) (v := undef) rfl rfl (by kernel_rfl) (by kernel_rfl) (by kernel_rfl) (fun _ _ _ h => h) (Or.inr ⟨by rfl, rfl⟩) (by assumption) ?_
    try simp only [Act.put, List.setIfInBounds_toArray, List.set_cons_zero, List.set_cons_succ]
    refine take_at (i := 8) (v := ?_) rfl rfl (by kernel_rfl) (by kernel_rfl) (by kernel_rfl) (fun _ _ _ h => h) (Or.inl ⟨by rfl, ?_⟩) (by assumption) ?_
    rotate_left
    · intro w hSw; (try dsimp only at hSw); go_simp; try with_reducible rfl
    try simp only [Act.put, List.setIfInBounds_toArray, List.set_cons_zero, List.set_cons_succ]
    refine wpAnyH_ready (rs := [9]) (by kernel_rfl) (by simp) ?_
    refine AllReadyH.cons rfl (fun K hK => ?_) AllReadyH.nil
    go_simp
    refine (CW.out _).mono ?_
    rintro e w5 ⟨rfl, hb5⟩
    have hS5 := hS4.on hb5
    have hT5 := hT4.on hb5
    have hB5 := below_step hB4 (Nat.le_refl _) hb5
    clear CW hb5 hS4 hT4 hB4
    refine hK.out _ _ hS5 (fun hHeld => ?_)
    clear hK K
    refine wpAnyH_ready (rs := [10]) (by kernel_rfl) (by simp) ?_
    refine AllReadyH.cons rfl (fun K hK => ?_) AllReadyH.nil
    refine step_storeRow rfl rfl 55 _ _ rfl (w.heap.size + 1) #[.string ⟨#[]⟩, .bool false] #[.string S', .bool b'] rfl rfl hT5 rfl (by kernel_rfl) (by simp [Value.oneCell']) ?_
    refine hK.out _ _ (hS5.setRowOther _ (by omega) _) (fun hHeld => ?_)
    clear hK K
    refine wpAnyH_done (by kernel_rfl) (NoPanic.normal ?_) _
    go_wp2_with fail
    exact bodyPost_row rfl (w.heap.size + 1) #[.string S', .bool b'] rfl rfl (hT5.setRow _) _ Try.underlying55 rfl (by kernel_rfl) ⟨rfl, below_setRow hB5 (by omega) _⟩

end Go.Proofs.Ytkmdajenbidaaaa

/- The document's Num (layer 9). -/
namespace Go.Proofs.Ytkmdajenbidaaaa
open Go.RowKit
set_option maxRecDepth 100000
set_option linter.unusedSimpArgs false






set_option maxRecDepth 100000 in
set_option maxHeartbeats 4000000 in
theorem rnum_any (o : ByteArray × Bool) (n : Int) (w : World) (ho : o.1.size ≤ 65536) :
    Calls Try.prog 19 #[outV o, .int .i64 n] w fun e w' => e = .returned (outV (numP o n 6 1099511627775)) ∧ Below w.heap.size w w' := by
  obtain ⟨S, b⟩ := o
  have hS : S.size ≤ 65536 := ho
  clear ho
  show Calls Try.prog _ #[.agg #[.string S, .bool b], .int .i64 n] w _
  obtain ⟨E, hE⟩ : ∃ E, E = bigB n 6 := ⟨_, rfl⟩
  have hEs : E.size ≤ 1048576 := by rw [hE, bigB_size]; decide
  have CB' := fun w => rbig_any n 6 w (by decide)
  rw [← hE] at CB'
  have CB : Hid (∀ w, _) := CB'
  obtain ⟨ok, hok⟩ : ∃ ok, ok = oneOk n 1099511627775 := ⟨_, rfl⟩
  have CW' := fun w => rwith_any (S, b) E ok w hS hEs
  obtain ⟨⟨S', b'⟩, hR⟩ : ∃ r, r = layP (S, b) E ok := ⟨_, rfl⟩
  have hRes : numP (S, b) n 6 1099511627775 = (S', b') := by rw [hR, hE, hok]; rfl
  rw [hRes]
  rw [← hR] at CW'
  have CW : Hid (∀ w, Calls Try.prog 36 #[.agg #[.string S, .bool b], .string E, .bool ok] w fun e w' => e = .returned (.agg #[.string S', .bool b']) ∧ Below w.heap.size w w') := CW'
  unfold outV
  clear CB' CW' hR hRes hE
  have A0 : Hid (Blk ((w.alloc (.cells #[.string S, .bool b] 55)).alloc (.cells #[.string ⟨#[]⟩, .bool false] 55)) 55 w.heap.size #[.string S, .bool b]) := (Blk.new w _ _).alloc _
  have A1 : Hid (Blk ((w.alloc (.cells #[.string S, .bool b] 55)).alloc (.cells #[.string ⟨#[]⟩, .bool false] 55)) 55 (w.heap.size + 1) #[.string ⟨#[]⟩, .bool false]) := Blk.new' _ _ _ _ (by simp)
  have AB : Below w.heap.size w ((w.alloc (.cells #[.string S, .bool b] 55)).alloc (.cells #[.string ⟨#[]⟩, .bool false] 55)) := (below_new w _).alloc (by simp) _
  by_cases h0 : 0 ≤ n
  · have g0 : decide ((0 : Int) ≤ n) = true := by simp; exact h0
    by_cases h1 : n ≤ 1099511627775
    · have g1 : decide (n ≤ 1099511627775) = true := by simp; exact h1
      have hk : ok = true := by rw [hok]; unfold oneOk; rw [g0, g1]; rfl
      subst hk
      clear hok
      go_enter Try.func19, Try.ntmps19
      go_wp2_with fail
      generalize hq : World.alloc (World.alloc w _) _ = W at *
      clear hq
      refine wp_region_noPanic ?_
      refine wp_region_held_drew (S := fun w' => Blk w' 55 w.heap.size #[.string S, .bool b]) (by kernel_rfl) (by first | exact trivial | assumption | exact ⟨by assumption, by assumption⟩) (fun hHeld => ?_)
      refine take_at (i := 0) (v := .agg #[.string S, .bool b]) rfl rfl (by kernel_rfl) (by kernel_rfl) (by kernel_rfl) (fun _ _ _ h => h) (Or.inl ⟨by rfl, ?_⟩) (by assumption) ?_
      · intro w' hSw
        exact exec_loadRow 55 _ rfl w.heap.size #[.string S, .bool b] rfl hSw _ Try.underlying55 rfl (by kernel_rfl)
      try simp only [Act.put, List.setIfInBounds_toArray, List.set_cons_zero, List.set_cons_succ]
      refine take_at (i := 1) (v := ?_) rfl rfl (by kernel_rfl) (by kernel_rfl) (by kernel_rfl) (fun _ _ _ h => h) (Or.inl ⟨by rfl, ?_⟩) (by assumption) ?_
      rotate_left
      · intro w hSw; (try dsimp only at hSw); go_simp; try with_reducible rfl
      try simp only [Act.put, List.setIfInBounds_toArray, List.set_cons_zero, List.set_cons_succ]
      refine take_at (i := 3) (v := ?_) rfl rfl (by kernel_rfl) (by kernel_rfl) (by kernel_rfl) (fun _ _ _ h => h) (Or.inl ⟨by rfl, ?_⟩) (by assumption) ?_
      rotate_left
      · intro w hSw; (try dsimp only at hSw); go_simp; try with_reducible rfl
      try simp only [Act.put, List.setIfInBounds_toArray, List.set_cons_zero, List.set_cons_succ]
      refine take_at (i := 4) (v := ?_) rfl rfl (by kernel_rfl) (by kernel_rfl) (by kernel_rfl) (fun _ _ _ h => h) (Or.inl ⟨by rfl, ?_⟩) (by assumption) ?_
      rotate_left
      · intro w hSw; (try dsimp only at hSw); go_simp; try with_reducible rfl
      try simp only [Act.put, List.setIfInBounds_toArray, List.set_cons_zero, List.set_cons_succ]
      have hS0 : Blk W.drew 55 w.heap.size #[.string S, .bool b] := A0.out
      have hS1 : Blk W.drew 55 (w.heap.size + 1) #[.string ⟨#[]⟩, .bool false] := A1.out
      have hB0 : Below w.heap.size w W.drew := AB.drew
      clear A0 A1 AB
      refine wpAnyH_ready (rs := [2]) (by kernel_rfl) (by simp) ?_
      refine AllReadyH.cons rfl (fun K hK => ?_) AllReadyH.nil
      go_simp
      refine (CB.out _).mono ?_
      rintro e w4 ⟨rfl, hb4⟩
      have hS4 := hS0.on hb4
      have hT4 := hS1.on hb4
      have hB4 := below_step hB0 (Nat.le_refl _) hb4
      clear CB hb4 hS0 hS1 hB0
      refine hK.out _ _ hS4 (fun hHeld => ?_)
      clear hK K
      refine take_at (i := 5) (v := ?_) rfl rfl (by kernel_rfl) (by kernel_rfl) (by kernel_rfl) (fun _ _ _ h => h) (Or.inl ⟨by rfl, ?_⟩) (by assumption) ?_
      rotate_left
      · intro w hSw; (try dsimp only at hSw); go_simp; try with_reducible rfl
      try simp only [Act.put, List.setIfInBounds_toArray, List.set_cons_zero, List.set_cons_succ]
      refine take_at (i := 6) (v := ?_) rfl rfl (by kernel_rfl) (by kernel_rfl) (by kernel_rfl) (fun _ _ _ h => h) (Or.inl ⟨by rfl, ?_⟩) (by assumption) ?_
      rotate_left
      · intro w hSw; (try dsimp only at hSw); go_simp; try with_reducible rfl
      try simp only [Act.put, List.setIfInBounds_toArray, List.set_cons_zero, List.set_cons_succ]
      refine take_at (i := 7) (v := ?_) rfl rfl (by kernel_rfl) (by kernel_rfl) (by kernel_rfl) (fun _ _ _ h => h) (Or.inl ⟨by rfl, ?_⟩) (by assumption) ?_
      rotate_left
      · intro w hSw; (try dsimp only at hSw); go_simp; try with_reducible rfl
      try simp only [Act.put, List.setIfInBounds_toArray, List.set_cons_zero, List.set_cons_succ]
      refine take_at (i := 8) (v := ?_) rfl rfl (by kernel_rfl) (by kernel_rfl) (by kernel_rfl) (fun _ _ _ h => h) (Or.inl ⟨by rfl, ?_⟩) (by assumption) ?_
      rotate_left
      · intro w hSw; (try dsimp only at hSw); go_simp; try with_reducible rfl
      try simp only [Act.put, List.setIfInBounds_toArray, List.set_cons_zero, List.set_cons_succ]
      refine wpAnyH_ready (rs := [9]) (by kernel_rfl) (by simp) ?_
      refine AllReadyH.cons rfl (fun K hK => ?_) AllReadyH.nil
      go_simp
      refine (CW.out _).mono ?_
      rintro e w5 ⟨rfl, hb5⟩
      have hS5 := hS4.on hb5
      have hT5 := hT4.on hb5
      have hB5 := below_step hB4 (Nat.le_refl _) hb5
      clear CW hb5 hS4 hT4 hB4
      refine hK.out _ _ hS5 (fun hHeld => ?_)
      clear hK K
      refine wpAnyH_ready (rs := [10]) (by kernel_rfl) (by simp) ?_
      refine AllReadyH.cons rfl (fun K hK => ?_) AllReadyH.nil
      refine step_storeRow rfl rfl 55 _ _ rfl (w.heap.size + 1) #[.string ⟨#[]⟩, .bool false] #[.string S', .bool b'] rfl rfl hT5 rfl (by kernel_rfl) (by simp [Value.oneCell']) ?_
      refine hK.out _ _ (hS5.setRowOther _ (by omega) _) (fun hHeld => ?_)
      clear hK K
      refine wpAnyH_done (by kernel_rfl) (NoPanic.normal ?_) _
      go_wp2_with fail
      exact bodyPost_row rfl (w.heap.size + 1) #[.string S', .bool b'] rfl rfl (hT5.setRow _) _ Try.underlying55 rfl (by kernel_rfl) ⟨rfl, below_setRow hB5 (by omega) _⟩
    · have g1 : decide (n ≤ 1099511627775) = false := by simp; omega
      have hk : ok = false := by rw [hok]; unfold oneOk; rw [g0, g1]; rfl
      subst hk
      clear hok
      go_enter Try.func19, Try.ntmps19
      go_wp2_with fail
      generalize hq : World.alloc (World.alloc w _) _ = W at *
      clear hq
      refine wp_region_noPanic ?_
      refine wp_region_held_drew (S := fun w' => Blk w' 55 w.heap.size #[.string S, .bool b]) (by kernel_rfl) (by first | exact trivial | assumption | exact ⟨by assumption, by assumption⟩) (fun hHeld => ?_)
      refine take_at (i := 0) (v := .agg #[.string S, .bool b]) rfl rfl (by kernel_rfl) (by kernel_rfl) (by kernel_rfl) (fun _ _ _ h => h) (Or.inl ⟨by rfl, ?_⟩) (by assumption) ?_
      · intro w' hSw
        exact exec_loadRow 55 _ rfl w.heap.size #[.string S, .bool b] rfl hSw _ Try.underlying55 rfl (by kernel_rfl)
      try simp only [Act.put, List.setIfInBounds_toArray, List.set_cons_zero, List.set_cons_succ]
      refine take_at (i := 1) (v := ?_) rfl rfl (by kernel_rfl) (by kernel_rfl) (by kernel_rfl) (fun _ _ _ h => h) (Or.inl ⟨by rfl, ?_⟩) (by assumption) ?_
      rotate_left
      · intro w hSw; (try dsimp only at hSw); go_simp; try with_reducible rfl
      try simp only [Act.put, List.setIfInBounds_toArray, List.set_cons_zero, List.set_cons_succ]
      refine take_at (i := 3) (v := ?_) rfl rfl (by kernel_rfl) (by kernel_rfl) (by kernel_rfl) (fun _ _ _ h => h) (Or.inl ⟨by rfl, ?_⟩) (by assumption) ?_
      rotate_left
      · intro w hSw; (try dsimp only at hSw); go_simp; try with_reducible rfl
      try simp only [Act.put, List.setIfInBounds_toArray, List.set_cons_zero, List.set_cons_succ]
      refine take_at (i := 4) (v := ?_) rfl rfl (by kernel_rfl) (by kernel_rfl) (by kernel_rfl) (fun _ _ _ h => h) (Or.inl ⟨by rfl, ?_⟩) (by assumption) ?_
      rotate_left
      · intro w hSw; (try dsimp only at hSw); go_simp; try with_reducible rfl
      try simp only [Act.put, List.setIfInBounds_toArray, List.set_cons_zero, List.set_cons_succ]
      have hS0 : Blk W.drew 55 w.heap.size #[.string S, .bool b] := A0.out
      have hS1 : Blk W.drew 55 (w.heap.size + 1) #[.string ⟨#[]⟩, .bool false] := A1.out
      have hB0 : Below w.heap.size w W.drew := AB.drew
      clear A0 A1 AB
      refine wpAnyH_ready (rs := [2]) (by kernel_rfl) (by simp) ?_
      refine AllReadyH.cons rfl (fun K hK => ?_) AllReadyH.nil
      go_simp
      refine (CB.out _).mono ?_
      rintro e w4 ⟨rfl, hb4⟩
      have hS4 := hS0.on hb4
      have hT4 := hS1.on hb4
      have hB4 := below_step hB0 (Nat.le_refl _) hb4
      clear CB hb4 hS0 hS1 hB0
      refine hK.out _ _ hS4 (fun hHeld => ?_)
      clear hK K
      refine take_at (i := 5) (v := ?_) rfl rfl (by kernel_rfl) (by kernel_rfl) (by kernel_rfl) (fun _ _ _ h => h) (Or.inl ⟨by rfl, ?_⟩) (by assumption) ?_
      rotate_left
      · intro w hSw; (try dsimp only at hSw); go_simp; try with_reducible rfl
      try simp only [Act.put, List.setIfInBounds_toArray, List.set_cons_zero, List.set_cons_succ]
      refine take_at (i := 6) (v := ?_) rfl rfl (by kernel_rfl) (by kernel_rfl) (by kernel_rfl) (fun _ _ _ h => h) (Or.inl ⟨by rfl, ?_⟩) (by assumption) ?_
      rotate_left
      · intro w hSw; (try dsimp only at hSw); go_simp; try with_reducible rfl
      try simp only [Act.put, List.setIfInBounds_toArray, List.set_cons_zero, List.set_cons_succ]
      refine take_at (i := 7) (v := ?_) rfl rfl (by kernel_rfl) (by kernel_rfl) (by kernel_rfl) (fun _ _ _ h => h) (Or.inl ⟨by rfl, ?_⟩) (by assumption) ?_
      rotate_left
      · intro w hSw; (try dsimp only at hSw); go_simp; try with_reducible rfl
      try simp only [Act.put, List.setIfInBounds_toArray, List.set_cons_zero, List.set_cons_succ]
      refine take_at (i := 8) (v := ?_) rfl rfl (by kernel_rfl) (by kernel_rfl) (by kernel_rfl) (fun _ _ _ h => h) (Or.inl ⟨by rfl, ?_⟩) (by assumption) ?_
      rotate_left
      · intro w hSw; (try dsimp only at hSw); go_simp; try with_reducible rfl
      try simp only [Act.put, List.setIfInBounds_toArray, List.set_cons_zero, List.set_cons_succ]
      refine wpAnyH_ready (rs := [9]) (by kernel_rfl) (by simp) ?_
      refine AllReadyH.cons rfl (fun K hK => ?_) AllReadyH.nil
      go_simp
      refine (CW.out _).mono ?_
      rintro e w5 ⟨rfl, hb5⟩
      have hS5 := hS4.on hb5
      have hT5 := hT4.on hb5
      have hB5 := below_step hB4 (Nat.le_refl _) hb5
      clear CW hb5 hS4 hT4 hB4
      refine hK.out _ _ hS5 (fun hHeld => ?_)
      clear hK K
      refine wpAnyH_ready (rs := [10]) (by kernel_rfl) (by simp) ?_
      refine AllReadyH.cons rfl (fun K hK => ?_) AllReadyH.nil
      refine step_storeRow rfl rfl 55 _ _ rfl (w.heap.size + 1) #[.string ⟨#[]⟩, .bool false] #[.string S', .bool b'] rfl rfl hT5 rfl (by kernel_rfl) (by simp [Value.oneCell']) ?_
      refine hK.out _ _ (hS5.setRowOther _ (by omega) _) (fun hHeld => ?_)
      clear hK K
      refine wpAnyH_done (by kernel_rfl) (NoPanic.normal ?_) _
      go_wp2_with fail
      exact bodyPost_row rfl (w.heap.size + 1) #[.string S', .bool b'] rfl rfl (hT5.setRow _) _ Try.underlying55 rfl (by kernel_rfl) ⟨rfl, below_setRow hB5 (by omega) _⟩
  · have g0 : decide ((0 : Int) ≤ n) = false := by simp; omega
    have hk : ok = false := by rw [hok]; unfold oneOk; rw [g0]; rfl
    subst hk
    clear hok
    go_enter Try.func19, Try.ntmps19
    go_wp2_with fail
    generalize hq : World.alloc (World.alloc w _) _ = W at *
    clear hq
    refine wp_region_noPanic ?_
    refine wp_region_held_drew (S := fun w' => Blk w' 55 w.heap.size #[.string S, .bool b]) (by kernel_rfl) (by first | exact trivial | assumption | exact ⟨by assumption, by assumption⟩) (fun hHeld => ?_)
    refine take_at (i := 0) (v := .agg #[.string S, .bool b]) rfl rfl (by kernel_rfl) (by kernel_rfl) (by kernel_rfl) (fun _ _ _ h => h) (Or.inl ⟨by rfl, ?_⟩) (by assumption) ?_
    · intro w' hSw
      exact exec_loadRow 55 _ rfl w.heap.size #[.string S, .bool b] rfl hSw _ Try.underlying55 rfl (by kernel_rfl)
    try simp only [Act.put, List.setIfInBounds_toArray, List.set_cons_zero, List.set_cons_succ]
    refine take_at (i := 1) (v := ?_) rfl rfl (by kernel_rfl) (by kernel_rfl) (by kernel_rfl) (fun _ _ _ h => h) (Or.inl ⟨by rfl, ?_⟩) (by assumption) ?_
    rotate_left
    · intro w hSw; (try dsimp only at hSw); go_simp; try with_reducible rfl
    try simp only [Act.put, List.setIfInBounds_toArray, List.set_cons_zero, List.set_cons_succ]
    refine take_at (i := 3) (v := ?_) rfl rfl (by kernel_rfl) (by kernel_rfl) (by kernel_rfl) (fun _ _ _ h => h) (Or.inl ⟨by rfl, ?_⟩) (by assumption) ?_
    rotate_left
    · intro w hSw; (try dsimp only at hSw); go_simp; try with_reducible rfl
    try simp only [Act.put, List.setIfInBounds_toArray, List.set_cons_zero, List.set_cons_succ]
    refine take_at (i := 4) (v := ?_) rfl rfl (by kernel_rfl) (by kernel_rfl) (by kernel_rfl) (fun _ _ _ h => h) (Or.inl ⟨by rfl, ?_⟩) (by assumption) ?_
    rotate_left
    · intro w hSw; (try dsimp only at hSw); go_simp; try with_reducible rfl
    try simp only [Act.put, List.setIfInBounds_toArray, List.set_cons_zero, List.set_cons_succ]
    have hS0 : Blk W.drew 55 w.heap.size #[.string S, .bool b] := A0.out
    have hS1 : Blk W.drew 55 (w.heap.size + 1) #[.string ⟨#[]⟩, .bool false] := A1.out
    have hB0 : Below w.heap.size w W.drew := AB.drew
    clear A0 A1 AB
    refine wpAnyH_ready (rs := [2]) (by kernel_rfl) (by simp) ?_
    refine AllReadyH.cons rfl (fun K hK => ?_) AllReadyH.nil
    go_simp
    refine (CB.out _).mono ?_
    rintro e w4 ⟨rfl, hb4⟩
    have hS4 := hS0.on hb4
    have hT4 := hS1.on hb4
    have hB4 := below_step hB0 (Nat.le_refl _) hb4
    clear CB hb4 hS0 hS1 hB0
    refine hK.out _ _ hS4 (fun hHeld => ?_)
    clear hK K
    refine take_at (i := 5) (v := ?_) rfl rfl (by kernel_rfl) (by kernel_rfl) (by kernel_rfl) (fun _ _ _ h => h) (Or.inl ⟨by rfl, ?_⟩) (by assumption) ?_
    rotate_left
    · intro w hSw; (try dsimp only at hSw); go_simp; try with_reducible rfl
    try simp only [Act.put, List.setIfInBounds_toArray, List.set_cons_zero, List.set_cons_succ]
    refine take_at (i := 6) (v := undef) rfl rfl (by kernel_rfl) (by kernel_rfl) (by kernel_rfl) (fun _ _ _ h => h) (Or.inr ⟨by rfl, rfl⟩) (by assumption) ?_
    try simp only [Act.put, List.setIfInBounds_toArray, List.set_cons_zero, List.set_cons_succ]
    refine take_at (i := 7) (v := undef) rfl rfl (by kernel_rfl) (by kernel_rfl) (by kernel_rfl) (fun _ _ _ h => h) (Or.inr ⟨by rfl, rfl⟩) (by assumption) ?_
    try simp only [Act.put, List.setIfInBounds_toArray, List.set_cons_zero, List.set_cons_succ]
    refine take_at (i := 8) (v := ?_) rfl rfl (by kernel_rfl) (by kernel_rfl) (by kernel_rfl) (fun _ _ _ h => h) (Or.inl ⟨by rfl, ?_⟩) (by assumption) ?_
    rotate_left
    · intro w hSw; (try dsimp only at hSw); go_simp; try with_reducible rfl
    try simp only [Act.put, List.setIfInBounds_toArray, List.set_cons_zero, List.set_cons_succ]
    refine wpAnyH_ready (rs := [9]) (by kernel_rfl) (by simp) ?_
    refine AllReadyH.cons rfl (fun K hK => ?_) AllReadyH.nil
    go_simp
    refine (CW.out _).mono ?_
    rintro e w5 ⟨rfl, hb5⟩
    have hS5 := hS4.on hb5
    have hT5 := hT4.on hb5
    have hB5 := below_step hB4 (Nat.le_refl _) hb5
    clear CW hb5 hS4 hT4 hB4
    refine hK.out _ _ hS5 (fun hHeld => ?_)
    clear hK K
    refine wpAnyH_ready (rs := [10]) (by kernel_rfl) (by simp) ?_
    refine AllReadyH.cons rfl (fun K hK => ?_) AllReadyH.nil
    refine step_storeRow rfl rfl 55 _ _ rfl (w.heap.size + 1) #[.string ⟨#[]⟩, .bool false] #[.string S', .bool b'] rfl rfl hT5 rfl (by kernel_rfl) (by simp [Value.oneCell']) ?_
    refine hK.out _ _ (hS5.setRowOther _ (by omega) _) (fun hHeld => ?_)
    clear hK K
    refine wpAnyH_done (by kernel_rfl) (NoPanic.normal ?_) _
    go_wp2_with fail
    exact bodyPost_row rfl (w.heap.size + 1) #[.string S', .bool b'] rfl rfl (hT5.setRow _) _ Try.underlying55 rfl (by kernel_rfl) ⟨rfl, below_setRow hB5 (by omega) _⟩

end Go.Proofs.Ytkmdajenbidaaaa

/- The document's Text, Done (layer 9). -/
namespace Go.Proofs.Ytkmdajenbidaaaa
open Go.RowKit
set_option maxRecDepth 100000
set_option linter.unusedSimpArgs false

def textP (o : ByteArray × Bool) (s : ByteArray) : ByteArray × Bool := if 65535 < s.size then layP o ⟨#[]⟩ false else layP o (bigB (s.size : Int) 2 ++ s) true

set_option maxRecDepth 100000 in
set_option maxHeartbeats 4000000 in
theorem rtext_any (o : ByteArray × Bool) (s : ByteArray) (w : World) (ho : o.1.size ≤ 65536) (hs : s.size ≤ 1000000) :
    Calls Try.prog 21 #[outV o, .string s] w fun e w' => e = .returned (outV (textP o s)) ∧ Below w.heap.size w w' := by
  obtain ⟨S, b⟩ := o
  have hS : S.size ≤ 65536 := ho
  clear ho
  show Calls Try.prog _ #[.agg #[.string S, .bool b], .string s] w _
  by_cases hz : 65535 < s.size
  · have g0 : decide ((65535 : Int) < (s.size : Int)) = true := by simp; omega
    have CW' := fun w => rwith_any (S, b) ⟨#[]⟩ false w hS (by decide)
    obtain ⟨⟨S', b'⟩, hR⟩ : ∃ r, r = layP (S, b) ⟨#[]⟩ false := ⟨_, rfl⟩
    have hRes : textP (S, b) s = (S', b') := by unfold textP; rw [if_pos hz, hR]
    rw [hRes]
    rw [← hR] at CW'
    have CW : Hid (∀ w, Calls Try.prog 36 #[.agg #[.string S, .bool b], .string ⟨#[]⟩, .bool false] w fun e w' => e = .returned (.agg #[.string S', .bool b']) ∧ Below w.heap.size w w') := CW'
    unfold outV
    clear CW' hR hRes hz
    have A1 : Hid (Blk ((w.alloc (.cells #[.string S, .bool b] 55)).alloc (.cells #[.string ⟨#[]⟩, .bool false] 55)) 55 (w.heap.size + 1) #[.string ⟨#[]⟩, .bool false]) := Blk.new' _ _ _ _ (by simp)
    have AB : Below w.heap.size w ((w.alloc (.cells #[.string S, .bool b] 55)).alloc (.cells #[.string ⟨#[]⟩, .bool false] 55)) := (below_new w _).alloc (by simp) _
    go_enter Try.func21, Try.ntmps21
    go_wp2_with fail
    refine (CW.out _).mono ?_
    rintro e w1 ⟨rfl, hb1⟩
    have A2 := A1.out.on hb1
    have B1 := below_step AB (Nat.le_refl _) hb1
    clear CW A1 AB hb1
    go_wp2_with (with_reducible refine wpList_storeBlk rfl 55 _ _ rfl (w.heap.size + 1) #[.string ⟨#[]⟩, .bool false] #[.string S', .bool b'] ?hx ?hy A2 rfl ?hi ?h1 ?_)
    try (case hx => rfl)
    try (case hy => rfl)
    try (case hi => kernel_rfl)
    try (case h1 => simp [Value.oneCell'])
    exact bodyPost_row rfl (w.heap.size + 1) #[.string S', .bool b'] rfl rfl (A2.setRow _) _ Try.underlying55 rfl (by kernel_rfl) ⟨rfl, below_setRow B1 (by omega) _⟩
  · have g0 : decide ((65535 : Int) < (s.size : Int)) = false := by simp; omega
    obtain ⟨D, hD⟩ : ∃ D, D = bigB (s.size : Int) 2 := ⟨_, rfl⟩
    have hDs : D.size = 2 := by rw [hD, bigB_size]
    have CB' := fun w => rbig_any (s.size : Int) 2 w (by decide)
    rw [← hD] at CB'
    have CB : Hid (∀ w, _) := CB'
    obtain ⟨E, hE⟩ : ∃ E, D ++ s = E := ⟨_, rfl⟩
    have hEs : E.size ≤ 1048576 := by rw [← hE, ByteArray.size_append]; omega
    have CW' := fun w => rwith_any (S, b) E true w hS hEs
    obtain ⟨⟨S', b'⟩, hR⟩ : ∃ r, r = layP (S, b) E true := ⟨_, rfl⟩
    have hRes : textP (S, b) s = (S', b') := by unfold textP; rw [if_neg hz, hR, ← hE, hD]
    rw [hRes]
    rw [← hR] at CW'
    have CW : Hid (∀ w, Calls Try.prog 36 #[.agg #[.string S, .bool b], .string E, .bool true] w fun e w' => e = .returned (.agg #[.string S', .bool b']) ∧ Below w.heap.size w w') := CW'
    unfold outV
    have hsum : ¬ (9223372036854775807 < 2 + s.size) := by omega
    clear CB' CW' hR hRes hD hz
    have A0 : Hid (Blk ((w.alloc (.cells #[.string S, .bool b] 55)).alloc (.cells #[.string ⟨#[]⟩, .bool false] 55)) 55 w.heap.size #[.string S, .bool b]) := (Blk.new w _ _).alloc _
    have A1 : Hid (Blk ((w.alloc (.cells #[.string S, .bool b] 55)).alloc (.cells #[.string ⟨#[]⟩, .bool false] 55)) 55 (w.heap.size + 1) #[.string ⟨#[]⟩, .bool false]) := Blk.new' _ _ _ _ (by simp)
    have AB : Below w.heap.size w ((w.alloc (.cells #[.string S, .bool b] 55)).alloc (.cells #[.string ⟨#[]⟩, .bool false] 55)) := (below_new w _).alloc (by simp) _
    go_enter Try.func21, Try.ntmps21
    go_wp2_with fail
    generalize hq : World.alloc (World.alloc w _) _ = W at *
    clear hq
    refine wp_region_noPanic ?_
    refine wp_region_held_drew (S := fun w' => Blk w' 55 w.heap.size #[.string S, .bool b]) (by kernel_rfl) (by first | exact trivial | assumption | exact ⟨by assumption, by assumption⟩) (fun hHeld => ?_)
    refine take_at (i := 0) (v := .agg #[.string S, .bool b]) rfl rfl (by kernel_rfl) (by kernel_rfl) (by kernel_rfl) (fun _ _ _ h => h) (Or.inl ⟨by rfl, ?_⟩) (by assumption) ?_
    · intro w' hSw
      exact exec_loadRow 55 _ rfl w.heap.size #[.string S, .bool b] rfl hSw _ Try.underlying55 rfl (by kernel_rfl)
    try simp only [Act.put, List.setIfInBounds_toArray, List.set_cons_zero, List.set_cons_succ]
    refine take_at (i := 1) (v := ?_) rfl rfl (by kernel_rfl) (by kernel_rfl) (by kernel_rfl) (fun _ _ _ h => h) (Or.inl ⟨by rfl, ?_⟩) (by assumption) ?_
    rotate_left
    · intro w hSw; (try dsimp only at hSw); go_simp; try with_reducible rfl
    try simp only [Act.put, List.setIfInBounds_toArray, List.set_cons_zero, List.set_cons_succ]
    refine take_at (i := 2) (v := ?_) rfl rfl (by kernel_rfl) (by kernel_rfl) (by kernel_rfl) (fun _ _ _ h => h) (Or.inl ⟨by rfl, ?_⟩) (by assumption) ?_
    rotate_left
    · intro w hSw; (try dsimp only at hSw); go_simp; try with_reducible rfl
    try simp only [Act.put, List.setIfInBounds_toArray, List.set_cons_zero, List.set_cons_succ]
    refine take_at (i := 4) (v := ?_) rfl rfl (by kernel_rfl) (by kernel_rfl) (by kernel_rfl) (fun _ _ _ h => h) (Or.inl ⟨by rfl, ?_⟩) (by assumption) ?_
    rotate_left
    · intro w hSw; (try dsimp only at hSw); go_simp; try with_reducible rfl
    try simp only [Act.put, List.setIfInBounds_toArray, List.set_cons_zero, List.set_cons_succ]
    have hS0 : Blk W.drew 55 w.heap.size #[.string S, .bool b] := A0.out
    have hS1 : Blk W.drew 55 (w.heap.size + 1) #[.string ⟨#[]⟩, .bool false] := A1.out
    have hB0 : Below w.heap.size w W.drew := AB.drew
    clear A0 A1 AB
    refine wpAnyH_ready (rs := [3]) (by kernel_rfl) (by simp) ?_
    refine AllReadyH.cons rfl (fun K hK => ?_) AllReadyH.nil
    go_simp
    refine (CB.out _).mono ?_
    rintro e w4 ⟨rfl, hb4⟩
    have hS4 := hS0.on hb4
    have hT4 := hS1.on hb4
    have hB4 := below_step hB0 (Nat.le_refl _) hb4
    clear CB hb4 hS0 hS1 hB0
    refine hK.out _ _ hS4 (fun hHeld => ?_)
    clear hK K
    refine take_at (i := 5) (v := ?_) rfl rfl (by kernel_rfl) (by kernel_rfl) (by kernel_rfl) (fun _ _ _ h => h) (Or.inl ⟨by rfl, ?_⟩) (by assumption) ?_
    rotate_left
    · intro w hSw; (try dsimp only at hSw); go_simp; try with_reducible rfl
    try simp only [Act.put, List.setIfInBounds_toArray, List.set_cons_zero, List.set_cons_succ]
    refine wpAnyH_ready (rs := [6]) (by kernel_rfl) (by simp) ?_
    refine AllReadyH.cons rfl (fun K hK => ?_) AllReadyH.nil
    go_simp
    refine (CW.out _).mono ?_
    rintro e w5 ⟨rfl, hb5⟩
    have hS5 := hS4.on hb5
    have hT5 := hT4.on hb5
    have hB5 := below_step hB4 (Nat.le_refl _) hb5
    clear CW hb5 hS4 hT4 hB4
    refine hK.out _ _ hS5 (fun hHeld => ?_)
    clear hK K
    refine wpAnyH_ready (rs := [7]) (by kernel_rfl) (by simp) ?_
    refine AllReadyH.cons rfl (fun K hK => ?_) AllReadyH.nil
    refine step_storeRow rfl rfl 55 _ _ rfl (w.heap.size + 1) #[.string ⟨#[]⟩, .bool false] #[.string S', .bool b'] rfl rfl hT5 rfl (by kernel_rfl) (by simp [Value.oneCell']) ?_
    refine hK.out _ _ (hS5.setRowOther _ (by omega) _) (fun hHeld => ?_)
    clear hK K
    refine wpAnyH_done (by kernel_rfl) (NoPanic.normal ?_) _
    go_wp2_with fail
    exact bodyPost_row rfl (w.heap.size + 1) #[.string S', .bool b'] rfl rfl (hT5.setRow _) _ Try.underlying55 rfl (by kernel_rfl) ⟨rfl, below_setRow hB5 (by omega) _⟩

def doneP (o : ByteArray × Bool) : Value := if o.2 then .tuple #[.string ⟨#[]⟩, .int .i64 1] else .tuple #[.string o.1, .int .i64 0]

set_option maxHeartbeats 1000000 in
theorem rdone_any (o : ByteArray × Bool) (w : World) :
    Calls Try.prog 22 #[outV o] w fun e w' => e = .returned (doneP o) ∧ Below w.heap.size w w' := by
  obtain ⟨S, b⟩ := o
  show Calls Try.prog _ #[.agg #[.string S, .bool b]] w _
  cases b with
  | true =>
    go_enter Try.func22, Try.ntmps22
    go_wp2
    go_ret2
    exact ⟨rfl, below_new w _⟩
  | false =>
    go_enter Try.func22, Try.ntmps22
    go_wp2
    go_ret2
    exact ⟨rfl, below_new w _⟩

end Go.Proofs.Ytkmdajenbidaaaa

/- The document's wrong, number (layer 9). -/
namespace Go.Proofs.Ytkmdajenbidaaaa
open Go.RowKit
set_option maxRecDepth 100000
set_option linter.unusedSimpArgs false

/-- An In on plain data; one with which something is wrong. -/
def inV (i : ByteArray × Int) : Value := .agg #[.string i.1, .int .i64 i.2]

def wrongP (i : ByteArray × Int) (e : Int) : ByteArray × Int := (⟨#[]⟩, if i.2 = 0 then e else i.2)

set_option maxRecDepth 100000 in
set_option maxHeartbeats 2000000 in
theorem rwrong_any (i : ByteArray × Int) (e : Int) (w : World) :
    Calls Try.prog 55 #[inV i, .int .i64 e] w fun x w' => x = .returned (inV (wrongP i e)) ∧ Below w.heap.size w w' := by
  obtain ⟨S, c⟩ := i
  show Calls Try.prog _ #[.agg #[.string S, .int .i64 c], .int .i64 e] w _
  unfold inV wrongP
  by_cases hc : c = 0
  · subst hc
    show Calls Try.prog _ _ w fun x w' => x = .returned (.agg #[.string ⟨#[]⟩, .int .i64 e]) ∧ Below w.heap.size w w'
    go_enter Try.func55, Try.ntmps55
    go_wp2
    exact bodyPost_row rfl (w.heap.size + 1) #[.string ⟨#[]⟩, .int .i64 e] rfl rfl (Blk.new' _ _ _ _ (by simp)) _ Try.underlying74 rfl (by kernel_rfl) ⟨rfl, (below_new w _).alloc (by simp) _⟩
  · show Calls Try.prog _ _ w fun x w' => x = .returned (.agg #[.string ⟨#[]⟩, .int .i64 (if c = 0 then e else c)]) ∧ Below w.heap.size w w'
    rw [if_neg hc]
    have g0 : (c == 0) = false := by rw [beq_eq_false_iff_ne]; exact hc
    go_enter Try.func55, Try.ntmps55
    go_wp2
    exact bodyPost_row rfl (w.heap.size + 1) #[.string ⟨#[]⟩, .int .i64 c] rfl rfl (Blk.new' _ _ _ _ (by simp)) _ Try.underlying74 rfl (by kernel_rfl) ⟨rfl, (below_new w _).alloc (by simp) _⟩

/-- The number of the first k bytes, the highest first. -/
def accB (s : ByteArray) : Nat → Nat
  | 0 => 0
  | k + 1 => accB s k * 256 + bt s k

theorem accB_lt (s : ByteArray) (k : Nat) : accB s k < 256 ^ k := by
  induction k with
  | zero => show 0 < 1; omega
  | succ k ih =>
    show accB s k * 256 + bt s k < _
    have := bt_lt s k
    rw [Nat.pow_succ]; omega

def numberP (i : ByteArray × Int) (many : Nat) : (ByteArray × Int) × Nat := if i.2 ≠ 0 ∨ i.1.size < many then (wrongP i 90, 0) else ((i.1.extract many i.1.size, i.2), accB i.1 many)

theorem or256 (X y : Nat) (hX : X < 281474976710656) (hy : y < 256) : bits .or .i64 ((X : Int) * 256) (y : Int) = ((X * 256 + y : Nat) : Int) := by
  have e : (X : Int) * 256 = ((X * 256 : Nat) : Int) := by simp
  rw [e, i64_or_nat _ _ (by omega) (by omega)]
  have h := Nat.two_pow_add_eq_or_of_lt (i := 8) (b := y) (by omega) X
  rw [show X * 256 = 2 ^ 8 * X by omega, ← h]


set_option maxRecDepth 100000 in
set_option maxHeartbeats 4000000 in
theorem rnumber_any (i : ByteArray × Int) (many : Nat) (w : World) (hm : many ≤ 6) (hs : i.1.size ≤ 1048576) :
    Calls Try.prog 54 #[inV i, .int .i64 (many : Int)] w fun x w' => x = .returned (.tuple #[inV (numberP i many).1, .int .i64 ((numberP i many).2 : Int)]) ∧ Below w.heap.size w w' := by
  obtain ⟨S, c⟩ := i
  have hS : S.size ≤ 1048576 := hs
  clear hs
  show Calls Try.prog _ #[.agg #[.string S, .int .i64 c], .int .i64 (many : Int)] w _
  have CW' := fun w => rwrong_any (S, c) 90 w
  obtain ⟨⟨S', c'⟩, hR⟩ : ∃ r, r = wrongP (S, c) 90 := ⟨_, rfl⟩
  rw [← hR] at CW'
  have CW : Hid (∀ w, Calls Try.prog 55 #[.agg #[.string S, .int .i64 c], .int .i64 90] w fun x w' => x = .returned (.agg #[.string S', .int .i64 c']) ∧ Below w.heap.size w w') := CW'
  have A1 : Hid (Blk ((w.alloc (.cells #[.string S, .int .i64 c] 74)).alloc (.cells #[.string ⟨#[]⟩, .int .i64 0] 74)) 74 (w.heap.size + 1) #[.string ⟨#[]⟩, .int .i64 0]) := Blk.new' _ _ _ _ (by simp)
  have AB : Below w.heap.size w ((w.alloc (.cells #[.string S, .int .i64 c] 74)).alloc (.cells #[.string ⟨#[]⟩, .int .i64 0] 74)) := (below_new w _).alloc (by simp) _
  by_cases hc : c = 0
  · by_cases hz : S.size < many
    · have hRes : numberP (S, c) many = ((S', c'), 0) := by unfold numberP; rw [if_pos (Or.inr hz), hR]
      rw [hRes]
      subst hc
      have g1 : decide ((S.size : Int) < (many : Int)) = true := by simp; omega
      have g2 : decide (S.size < many) = true := by simp; exact hz
      clear CW' hR hRes hz
      go_enter Try.func54, Try.ntmps54
      go_wp2_with fail
      refine (CW.out _).mono ?_
      rintro e w1 ⟨rfl, hb1⟩
      have A2 := A1.out.on hb1
      have B1 := below_step AB (Nat.le_refl _) hb1
      clear CW A1 AB hb1
      go_wp2_with (with_reducible refine wpList_storeBlk rfl 74 _ _ rfl (w.heap.size + 1) #[.string ⟨#[]⟩, .int .i64 0] #[.string S', .int .i64 c'] ?hx ?hy A2 rfl ?hi ?h1 ?_)
      try (case hx => rfl)
      try (case hy => rfl)
      try (case hi => kernel_rfl)
      try (case h1 => simp [Value.oneCell'])
      exact bodyPost_rowTmp rfl (w.heap.size + 1) #[.string S', .int .i64 c'] (.int .i64 0) rfl rfl rfl (A2.setRow _) _ Try.underlying74 rfl (by kernel_rfl) ⟨rfl, below_setRow B1 (by omega) _⟩
    · have hRes : numberP (S, c) many = ((S.extract many S.size, c), accB S many) := by unfold numberP; rw [if_neg (fun h => h.elim (fun h => h hc) hz)]
      rw [hRes]
      subst hc
      have g1 : decide ((S.size : Int) < (many : Int)) = false := by simp; omega
      have g2 : decide (S.size < many) = false := by simp; omega
      obtain ⟨T, hT⟩ : ∃ T, S.extract many S.size = T := ⟨_, rfl⟩
      rw [hT]
      have HL : Hid (∀ k, k ≤ 6 → accB S k < 281474976710656) := fun k hk => Nat.lt_of_lt_of_le (accB_lt S k) (Nat.le_trans (Nat.pow_le_pow_right (by decide) hk) (by decide))
      have HA : Hid (∀ k, accB S (k + 1) = accB S k * 256 + bt S k) := fun k => rfl
      have H0 : Hid (accB S 0 = 0) := rfl
      obtain ⟨f, Hf⟩ : ∃ f, Hid (f = accB S) := ⟨_, rfl⟩
      rw [← Hf.out] at HL HA H0
      rw [← Hf.out]
      obtain ⟨V, HV⟩ : ∃ V, Hid (V = f many) := ⟨_, rfl⟩
      rw [← HV.out]
      have i1 : (many : Int) ≤ (S.size : Int) := by omega
      have i2 : many ≤ S.size := by omega
      clear CW' hR hRes CW Hf
      go_enter Try.func54, Try.ntmps54
      go_wp2_with fail
      go_loopw [6, 7] (fun x k wr => ∃ j X : Nat, j ≤ many ∧ k = .int .i64 j ∧ x = .int .i64 (X : Int) ∧ Hid (X = f j) ∧ wr = ((w.alloc (.cells #[.string S, .int .i64 0] 74)).alloc (.cells #[.string ⟨#[]⟩, .int .i64 0] 74))) (fun _ k _ => many - (intOf k).toNat)
      case atStart => exact ⟨0, 0, Nat.zero_le _, rfl, rfl, H0.out.symm, rfl⟩
      case round =>
        obtain ⟨j, X, hj, rfl, rfl, HX, rfl⟩ := hrel
        by_cases hlt : j < many
        · have hin : j < S.size := by omega
          have bk := bt_get S j hin
          have lb := bt_lt S j
          have lX : X < 281474976710656 := by rw [HX.out]; exact HL.out j (by omega)
          have HN : Hid (X * 256 + bt S j = f (j + 1)) := by show _ = _; rw [HA.out, HX.out]
          have v2 := or256 X (bt S j) lX lb
          have b0 : (j : Int) < (many : Int) := by omega
          generalize bt S j = y at *
          obtain ⟨U, hU⟩ : ∃ U, U = X * 256 + y := ⟨_, rfl⟩
          rw [← hU] at v2 HN
          clear hU HX
          go_wp2
          refine ⟨⟨j + 1, U, by omega, by go_num, rfl, HN, by first | rfl | trivial⟩, ?_⟩
          simp [intOf]; omega
        · have hjm : j = many := by omega
          subst hjm
          have hX : X = V := by rw [HX.out, HV.out]
          subst hX
          clear HX HV
          go_wp2
          exact bodyPost_rowTmp rfl (w.heap.size + 1) #[.string T, .int .i64 0] (.int .i64 (X : Int)) rfl rfl rfl (Blk.new' _ _ _ _ (by simp)) _ Try.underlying74 rfl (by kernel_rfl) ⟨rfl, (below_new w _).alloc (by simp) _⟩
  · have hRes : numberP (S, c) many = ((S', c'), 0) := by unfold numberP; rw [if_pos (Or.inl hc), hR]
    rw [hRes]
    have g0 : (c != 0) = true := by rw [bne_iff_ne]; exact hc
    clear CW' hR hRes hc
    go_enter Try.func54, Try.ntmps54
    go_wp2_with fail
    refine (CW.out _).mono ?_
    rintro e w1 ⟨rfl, hb1⟩
    have A2 := A1.out.on hb1
    have B1 := below_step AB (Nat.le_refl _) hb1
    clear CW A1 AB hb1
    go_wp2_with (with_reducible refine wpList_storeBlk rfl 74 _ _ rfl (w.heap.size + 1) #[.string ⟨#[]⟩, .int .i64 0] #[.string S', .int .i64 c'] ?hx ?hy A2 rfl ?hi ?h1 ?_)
    try (case hx => rfl)
    try (case hy => rfl)
    try (case hi => kernel_rfl)
    try (case h1 => simp [Value.oneCell'])
    exact bodyPost_rowTmp rfl (w.heap.size + 1) #[.string S', .int .i64 c'] (.int .i64 0) rfl rfl rfl (A2.setRow _) _ Try.underlying74 rfl (by kernel_rfl) ⟨rfl, below_setRow B1 (by omega) _⟩

end Go.Proofs.Ytkmdajenbidaaaa

/- The document's InNum, InDone (layer 9). -/
namespace Go.Proofs.Ytkmdajenbidaaaa
open Go.RowKit
set_option maxRecDepth 100000
set_option linter.unusedSimpArgs false

def inNumP (i : ByteArray × Int) : (ByteArray × Int) × Nat := if 1099511627775 < (numberP i 6).2 then (wrongP (numberP i 6).1 91, 0) else numberP i 6


set_option maxRecDepth 100000 in
set_option maxHeartbeats 4000000 in
theorem rinNum_any (i : ByteArray × Int) (w : World) (hs : i.1.size ≤ 1048576) :
    Calls Try.prog 39 #[inV i] w fun x w' => x = .returned (.tuple #[inV (inNumP i).1, .int .i64 ((inNumP i).2 : Int)]) ∧ Below w.heap.size w w' := by
  have CN' := fun w => rnumber_any i 6 w (by decide) hs
  obtain ⟨⟨⟨S1, c1⟩, n⟩, hR⟩ : ∃ r, r = numberP i 6 := ⟨_, rfl⟩
  have hdef : inNumP i = if 1099511627775 < n then (wrongP (S1, c1) 91, 0) else ((S1, c1), n) := by unfold inNumP; rw [← hR]
  have hnl : n < 281474976710656 := by
    have h : n = (numberP i 6).2 := by rw [← hR]
    rw [h]
    unfold numberP
    split
    · show 0 < 281474976710656; decide
    · exact accB_lt i.1 6
  rw [hdef]
  rw [← hR] at CN'
  obtain ⟨S, c⟩ := i
  have CN : Hid (∀ w, Calls Try.prog 54 #[.agg #[.string S, .int .i64 c], .int .i64 6] w fun x w' => x = .returned (.tuple #[.agg #[.string S1, .int .i64 c1], .int .i64 (n : Int)]) ∧ Below w.heap.size w w') := CN'
  clear CN' hR hdef hs
  show Calls Try.prog _ #[.agg #[.string S, .int .i64 c]] w _
  have A1 : Hid (Blk ((w.alloc (.cells #[.string S, .int .i64 c] 74)).alloc (.cells #[.string ⟨#[]⟩, .int .i64 0] 74)) 74 (w.heap.size + 1) #[.string ⟨#[]⟩, .int .i64 0]) := Blk.new' _ _ _ _ (by simp)
  have AB : Below w.heap.size w ((w.alloc (.cells #[.string S, .int .i64 c] 74)).alloc (.cells #[.string ⟨#[]⟩, .int .i64 0] 74)) := (below_new w _).alloc (by simp) _
  by_cases hbig : 1099511627775 < n
  · rw [if_pos hbig]
    have CW' := fun w => rwrong_any (S1, c1) 91 w
    obtain ⟨⟨S9, c9⟩, hR9⟩ : ∃ r, r = wrongP (S1, c1) 91 := ⟨_, rfl⟩
    rw [← hR9] at CW' ⊢
    have CW : Hid (∀ w, Calls Try.prog 55 #[.agg #[.string S1, .int .i64 c1], .int .i64 91] w fun x w' => x = .returned (.agg #[.string S9, .int .i64 c9]) ∧ Below w.heap.size w w') := CW'
    have g0 : decide ((1099511627775 : Int) < (n : Int)) = true := by simp; omega
    clear CW' hR9 hbig
    show Calls Try.prog _ _ w fun x w' => x = .returned (.tuple #[.agg #[.string S9, .int .i64 c9], .int .i64 0]) ∧ Below w.heap.size w w'
    go_enter Try.func39, Try.ntmps39
    go_wp2_with fail
    refine (CN.out _).mono ?_
    rintro e w1 ⟨rfl, hb1⟩
    have A2 := A1.out.on hb1
    have B1 := below_step AB (Nat.le_refl _) hb1
    have A3 : Hid (Blk (w1.alloc (.cells #[.string S1, .int .i64 c1] 74)) 74 (w.heap.size + 1) #[.string ⟨#[]⟩, .int .i64 0]) := A2.alloc _
    have B2 : Below w.heap.size w (w1.alloc (.cells #[.string S1, .int .i64 c1] 74)) := B1.alloc B1.size _
    clear CN A1 AB hb1 A2 B1
    go_wp2_with fail
    refine (CW.out _).mono ?_
    rintro e w2 ⟨rfl, hb2⟩
    have A9 : Hid (Blk w2 74 (w.heap.size + 1) #[.string ⟨#[]⟩, .int .i64 0]) := A3.out.on hb2
    have B9 := below_step B2 (Nat.le_refl _) hb2
    clear CW A3 B2 hb2
    go_wp2_with (with_reducible refine wpList_storeBlk rfl 74 _ _ rfl (w.heap.size + 1) #[.string ⟨#[]⟩, .int .i64 0] #[.string S9, .int .i64 c9] ?hx ?hy A9.out rfl ?hi ?h1 ?_)
    try (case hx => rfl)
    try (case hy => rfl)
    try (case hi => kernel_rfl)
    try (case h1 => simp [Value.oneCell'])
    exact bodyPost_rowTmp rfl (w.heap.size + 1) #[.string S9, .int .i64 c9] (.int .i64 0) rfl rfl rfl (A9.out.setRow _) _ Try.underlying74 rfl (by kernel_rfl) ⟨rfl, below_setRow B9 (by omega) _⟩
  · rw [if_neg hbig]
    have g0 : decide ((1099511627775 : Int) < (n : Int)) = false := by simp; omega
    clear hbig
    show Calls Try.prog _ _ w fun x w' => x = .returned (.tuple #[.agg #[.string S1, .int .i64 c1], .int .i64 (n : Int)]) ∧ Below w.heap.size w w'
    obtain ⟨S9, h9⟩ : ∃ S9, S9 = S1 := ⟨_, rfl⟩
    obtain ⟨c9, h9'⟩ : ∃ c9, c9 = c1 := ⟨_, rfl⟩
    rw [← h9, ← h9'] at CN ⊢
    clear h9 h9'
    go_enter Try.func39, Try.ntmps39
    go_wp2_with fail
    refine (CN.out _).mono ?_
    rintro e w1 ⟨rfl, hb1⟩
    have A2 := A1.out.on hb1
    have B1 := below_step AB (Nat.le_refl _) hb1
    have A9 : Hid (Blk (w1.alloc (.cells #[.string S9, .int .i64 c9] 74)) 74 (w.heap.size + 1) #[.string ⟨#[]⟩, .int .i64 0]) := A2.alloc _
    have B9 : Below w.heap.size w (w1.alloc (.cells #[.string S9, .int .i64 c9] 74)) := B1.alloc B1.size _
    clear CN A1 AB hb1 A2 B1
    go_wp2_with (with_reducible refine wpList_storeBlk rfl 74 _ _ rfl (w.heap.size + 1) #[.string ⟨#[]⟩, .int .i64 0] #[.string S9, .int .i64 c9] ?hx ?hy A9.out rfl ?hi ?h1 ?_)
    try (case hx => rfl)
    try (case hy => rfl)
    try (case hi => kernel_rfl)
    try (case h1 => simp [Value.oneCell'])
    go_wp2_with fail
    exact bodyPost_rowTmp rfl (w.heap.size + 1) #[.string S9, .int .i64 c9] (.int .i64 (n : Int)) rfl rfl rfl (A9.out.setRow _) _ Try.underlying74 rfl (by kernel_rfl) ⟨rfl, below_setRow B9 (by omega) _⟩

end Go.Proofs.Ytkmdajenbidaaaa

/- The document's InByte, InDone, InText (layer 9). -/
namespace Go.Proofs.Ytkmdajenbidaaaa
open Go.RowKit
set_option maxRecDepth 100000
set_option linter.unusedSimpArgs false

def inDoneP (i : ByteArray × Int) : Int := if i.2 = 0 ∧ ¬ i.1.size = 0 then 91 else i.2

theorem empty_yes (s : ByteArray) (h : s.size = 0) : s.toList.isEmpty = true := by
  rw [toList_data]
  have : s.data.size = 0 := h
  rw [Array.eq_empty_of_size_eq_zero this]; rfl

theorem empty_no (s : ByteArray) (h : ¬ s.size = 0) : s.toList.isEmpty = false := by
  rw [toList_data]
  cases hq : s.data.toList with
  | nil =>
    have h2 : s.data.toList.length = 0 := by rw [hq]; rfl
    rw [Array.length_toList] at h2
    exact absurd h2 h
  | cons a l => rfl

set_option maxHeartbeats 1000000 in
theorem rinDone_any (i : ByteArray × Int) (w : World) :
    Calls Try.prog 41 #[inV i] w fun x w' => x = .returned (.int .i64 (inDoneP i)) ∧ Below w.heap.size w w' := by
  obtain ⟨S, c⟩ := i
  show Calls Try.prog _ #[.agg #[.string S, .int .i64 c]] w _
  unfold inDoneP
  by_cases hc : c = 0
  · subst hc
    by_cases hz : S.size = 0
    · rw [if_neg (fun h => h.2 hz)]
      have g0 := empty_yes S hz
      show Calls Try.prog _ _ w fun x w' => x = .returned (.int .i64 0) ∧ Below w.heap.size w w'
      clear hz
      go_enter Try.func41, Try.ntmps41
      go_wp2
      go_ret
      exact ⟨rfl, below_new w _⟩
    · rw [if_pos ⟨rfl, hz⟩]
      have g0 := empty_no S hz
      clear hz
      go_enter Try.func41, Try.ntmps41
      go_wp2
      go_ret
      exact ⟨rfl, below_new w _⟩
  · rw [if_neg (fun h => hc h.1)]
    have g0 : (c == 0) = false := by rw [beq_eq_false_iff_ne]; exact hc
    show Calls Try.prog _ _ w fun x w' => x = .returned (.int .i64 c) ∧ Below w.heap.size w w'
    clear hc
    go_enter Try.func41, Try.ntmps41
    go_wp2
    go_ret
    exact ⟨rfl, below_new w _⟩



set_option maxRecDepth 100000 in
set_option maxHeartbeats 4000000 in
theorem rinByte_any (i : ByteArray × Int) (w : World) (hs : i.1.size ≤ 1048576) :
    Calls Try.prog 38 #[inV i] w fun x w' => x = .returned (.tuple #[inV (numberP i 1).1, .int .i64 ((numberP i 1).2 : Int)]) ∧ Below w.heap.size w w' := by
  have CN' := fun w => rnumber_any i 1 w (by decide) hs
  obtain ⟨⟨⟨S9, c9⟩, n⟩, hR⟩ : ∃ r, r = numberP i 1 := ⟨_, rfl⟩
  rw [← hR] at CN' ⊢
  obtain ⟨S, c⟩ := i
  have CN : Hid (∀ w, Calls Try.prog 54 #[.agg #[.string S, .int .i64 c], .int .i64 1] w fun x w' => x = .returned (.tuple #[.agg #[.string S9, .int .i64 c9], .int .i64 (n : Int)]) ∧ Below w.heap.size w w') := CN'
  clear CN' hR hs
  show Calls Try.prog _ #[.agg #[.string S, .int .i64 c]] w fun x w' => x = .returned (.tuple #[.agg #[.string S9, .int .i64 c9], .int .i64 (n : Int)]) ∧ Below w.heap.size w w'
  have A1 : Hid (Blk ((w.alloc (.cells #[.string S, .int .i64 c] 74)).alloc (.cells #[.string ⟨#[]⟩, .int .i64 0] 74)) 74 (w.heap.size + 1) #[.string ⟨#[]⟩, .int .i64 0]) := Blk.new' _ _ _ _ (by simp)
  have AB : Below w.heap.size w ((w.alloc (.cells #[.string S, .int .i64 c] 74)).alloc (.cells #[.string ⟨#[]⟩, .int .i64 0] 74)) := (below_new w _).alloc (by simp) _
  go_enter Try.func38, Try.ntmps38
  go_wp2_with fail
  refine (CN.out _).mono ?_
  rintro e w1 ⟨rfl, hb1⟩
  have A9 : Hid (Blk w1 74 (w.heap.size + 1) #[.string ⟨#[]⟩, .int .i64 0]) := A1.out.on hb1
  have B9 := below_step AB (Nat.le_refl _) hb1
  clear CN A1 AB hb1
  go_wp2_with (with_reducible refine wpList_storeBlk rfl 74 _ _ rfl (w.heap.size + 1) #[.string ⟨#[]⟩, .int .i64 0] #[.string S9, .int .i64 c9] ?hx ?hy A9.out rfl ?hi ?h1 ?_)
  try (case hx => rfl)
  try (case hy => rfl)
  try (case hi => kernel_rfl)
  try (case h1 => simp [Value.oneCell'])
  go_wp2_with fail
  exact bodyPost_rowTmp rfl (w.heap.size + 1) #[.string S9, .int .i64 c9] (.int .i64 (n : Int)) rfl rfl rfl (A9.out.setRow _) _ Try.underlying74 rfl (by kernel_rfl) ⟨rfl, below_setRow B9 (by omega) _⟩

end Go.Proofs.Ytkmdajenbidaaaa

/- The document's InText (layer 9). -/
namespace Go.Proofs.Ytkmdajenbidaaaa
open Go.RowKit
set_option maxRecDepth 100000
set_option linter.unusedSimpArgs false

def inTextP (i : ByteArray × Int) (most : Int) : (ByteArray × Int) × ByteArray :=
  if (numberP i 2).1.2 ≠ 0 then ((numberP i 2).1, ⟨#[]⟩)
  else if most < ((numberP i 2).2 : Int) then (wrongP (numberP i 2).1 91, ⟨#[]⟩)
  else if (numberP i 2).1.1.size < (numberP i 2).2 then (wrongP (numberP i 2).1 90, ⟨#[]⟩)
  else (((numberP i 2).1.1.extract (numberP i 2).2 (numberP i 2).1.1.size, (numberP i 2).1.2), (numberP i 2).1.1.extract 0 (numberP i 2).2)




set_option maxRecDepth 100000 in
set_option maxHeartbeats 4000000 in
theorem rinText_any (i : ByteArray × Int) (most : Int) (w : World) (hs : i.1.size ≤ 1048576) :
    Calls Try.prog 40 #[inV i, .int .i64 most] w fun x w' => x = .returned (.tuple #[inV (inTextP i most).1, .string (inTextP i most).2]) ∧ Below w.heap.size w w' := by
  have CN' := fun w => rnumber_any i 2 w (by decide) hs
  have hnl : (numberP i 2).2 < 65536 ∧ (numberP i 2).1.1.size ≤ 1048576 := by
    unfold numberP
    split
    · exact ⟨by show 0 < 65536; decide, by show 0 ≤ 1048576; decide⟩
    · refine ⟨accB_lt i.1 2, ?_⟩
      show (i.1.extract 2 i.1.size).size ≤ _
      rw [ByteArray.size_extract]; omega
  unfold inTextP
  obtain ⟨⟨⟨S1, c1⟩, n⟩, hR⟩ : ∃ r, r = numberP i 2 := ⟨_, rfl⟩
  rw [← hR] at CN' hnl ⊢
  have hn : n < 65536 := hnl.1
  have hS1 : S1.size ≤ 1048576 := hnl.2
  clear hnl hR hs
  obtain ⟨S, c⟩ := i
  have CN : Hid (∀ w, Calls Try.prog 54 #[.agg #[.string S, .int .i64 c], .int .i64 2] w fun x w' => x = .returned (.tuple #[.agg #[.string S1, .int .i64 c1], .int .i64 (n : Int)]) ∧ Below w.heap.size w w') := CN'
  clear CN'
  show Calls Try.prog _ #[.agg #[.string S, .int .i64 c], .int .i64 most] w _
  have A1 : Hid (Blk ((w.alloc (.cells #[.string S, .int .i64 c] 74)).alloc (.cells #[.string ⟨#[]⟩, .int .i64 0] 74)) 74 (w.heap.size + 1) #[.string ⟨#[]⟩, .int .i64 0]) := Blk.new' _ _ _ _ (by simp)
  have AB : Below w.heap.size w ((w.alloc (.cells #[.string S, .int .i64 c] 74)).alloc (.cells #[.string ⟨#[]⟩, .int .i64 0] 74)) := (below_new w _).alloc (by simp) _
  by_cases hc : c1 = 0
  · subst hc
    obtain ⟨c1, hc1⟩ : ∃ c : Int, c = 0 := ⟨_, rfl⟩
    by_cases hm : most < (n : Int)
    · have CW' := fun w => rwrong_any (S1, 0) 91 w
      obtain ⟨⟨S9, c9⟩, hR9⟩ : ∃ r, r = wrongP (S1, 0) 91 := ⟨_, rfl⟩
      rw [if_neg (fun h => h rfl), if_pos hm, ← hR9]
      rw [← hR9] at CW'
      have CW : Hid (∀ w, Calls Try.prog 55 #[.agg #[.string S1, .int .i64 0], .int .i64 91] w fun x w' => x = .returned (.agg #[.string S9, .int .i64 c9]) ∧ Below w.heap.size w w') := CW'
      have g0 : decide (most < (n : Int)) = true := by simp; exact hm
      clear CW' hR9 hm
      show Calls Try.prog _ _ w fun x w' => x = .returned (.tuple #[.agg #[.string S9, .int .i64 c9], .string ⟨#[]⟩]) ∧ Below w.heap.size w w'
      clear hc1 c1
      go_enter Try.func40, Try.ntmps40
      go_wp2_with fail
      refine (CN.out _).mono ?_
      rintro e w1 ⟨rfl, hb1⟩
      have A2 := A1.out.on hb1
      have B1 := below_step AB (Nat.le_refl _) hb1
      have hl1 := A2.lt
      have A3 : Hid (Blk (w1.alloc (.cells #[.string S1, .int .i64 0] 74)) 74 (w.heap.size + 1) #[.string ⟨#[]⟩, .int .i64 0]) := A2.alloc _
      have B2 : Below w.heap.size w (w1.alloc (.cells #[.string S1, .int .i64 0] 74)) := B1.alloc B1.size _
      clear CN A1 AB hb1 A2 B1 hl1
      go_wp2_with fail
      refine (CW.out _).mono ?_
      rintro e w2 ⟨rfl, hb2⟩
      have A9 : Hid (Blk w2 74 (w.heap.size + 1) #[.string ⟨#[]⟩, .int .i64 0]) := A3.out.on hb2
      have B9 := below_step B2 (Nat.le_refl _) hb2
      clear CW A3 B2 hb2
      go_wp2_with (with_reducible refine wpList_storeBlk rfl 74 _ _ rfl (w.heap.size + 1) #[.string ⟨#[]⟩, .int .i64 0] #[.string S9, .int .i64 c9] ?hx ?hy A9.out rfl ?hi ?h1 ?_)
      try (case hx => rfl)
      try (case hy => rfl)
      try (case hi => kernel_rfl)
      try (case h1 => simp [Value.oneCell'])
      exact bodyPost_rowTmp rfl (w.heap.size + 1) #[.string S9, .int .i64 c9] (.string ⟨#[]⟩) rfl rfl rfl (A9.out.setRow _) _ Try.underlying74 rfl (by kernel_rfl) ⟨rfl, below_setRow B9 (by omega) _⟩
    · have g0 : decide (most < (n : Int)) = false := by simp; omega
      by_cases hz : S1.size < n
      · have CW' := fun w => rwrong_any (S1, 0) 90 w
        obtain ⟨⟨S9, c9⟩, hR9⟩ : ∃ r, r = wrongP (S1, 0) 90 := ⟨_, rfl⟩
        rw [if_neg (fun h => h rfl), if_neg hm, if_pos hz, ← hR9]
        rw [← hR9] at CW'
        have CW : Hid (∀ w, Calls Try.prog 55 #[.agg #[.string S1, .int .i64 0], .int .i64 90] w fun x w' => x = .returned (.agg #[.string S9, .int .i64 c9]) ∧ Below w.heap.size w w') := CW'
        have g1 : decide ((S1.size : Int) < (n : Int)) = true := by simp; omega
        have g2 : decide (S1.size < n) = true := by simp; exact hz
        clear CW' hR9 hm hz
        show Calls Try.prog _ _ w fun x w' => x = .returned (.tuple #[.agg #[.string S9, .int .i64 c9], .string ⟨#[]⟩]) ∧ Below w.heap.size w w'
        clear hc1 c1
        go_enter Try.func40, Try.ntmps40
        go_wp2_with fail
        refine (CN.out _).mono ?_
        rintro e w1 ⟨rfl, hb1⟩
        have A2 := A1.out.on hb1
        have B1 := below_step AB (Nat.le_refl _) hb1
        have hl1 := A2.lt
        have A3 : Hid (Blk (w1.alloc (.cells #[.string S1, .int .i64 0] 74)) 74 (w.heap.size + 1) #[.string ⟨#[]⟩, .int .i64 0]) := A2.alloc _
        have B2 : Below w.heap.size w (w1.alloc (.cells #[.string S1, .int .i64 0] 74)) := B1.alloc B1.size _
        clear CN A1 AB hb1 A2 B1 hl1
        go_wp2_with fail
        refine (CW.out _).mono ?_
        rintro e w2 ⟨rfl, hb2⟩
        have A9 : Hid (Blk w2 74 (w.heap.size + 1) #[.string ⟨#[]⟩, .int .i64 0]) := A3.out.on hb2
        have B9 := below_step B2 (Nat.le_refl _) hb2
        clear CW A3 B2 hb2
        go_wp2_with (with_reducible refine wpList_storeBlk rfl 74 _ _ rfl (w.heap.size + 1) #[.string ⟨#[]⟩, .int .i64 0] #[.string S9, .int .i64 c9] ?hx ?hy A9.out rfl ?hi ?h1 ?_)
        try (case hx => rfl)
        try (case hy => rfl)
        try (case hi => kernel_rfl)
        try (case h1 => simp [Value.oneCell'])
        exact bodyPost_rowTmp rfl (w.heap.size + 1) #[.string S9, .int .i64 c9] (.string ⟨#[]⟩) rfl rfl rfl (A9.out.setRow _) _ Try.underlying74 rfl (by kernel_rfl) ⟨rfl, below_setRow B9 (by omega) _⟩
      · rw [if_neg (fun h => h rfl), if_neg hm, if_neg hz]
        have g1 : decide ((S1.size : Int) < (n : Int)) = false := by simp; omega
        have g2 : decide (S1.size < n) = false := by simp; omega
        obtain ⟨S9, h9⟩ : ∃ S9, S1.extract n S1.size = S9 := ⟨_, rfl⟩
        obtain ⟨F, hF⟩ : ∃ F, S1.extract 0 n = F := ⟨_, rfl⟩
        obtain ⟨c9, h9'⟩ : ∃ c9 : Int, c9 = 0 := ⟨_, rfl⟩
        have i1 : (n : Int) ≤ (S1.size : Int) := by omega
        have i2 : n ≤ S1.size := by omega
        clear hm hz
        show Calls Try.prog _ _ w fun x w' => x = .returned (.tuple #[.agg #[.string (S1.extract n S1.size), .int .i64 0], .string (S1.extract 0 n)]) ∧ Below w.heap.size w w'
        rw [h9, hF]
        clear hc1 c1 h9' c9
        go_enter Try.func40, Try.ntmps40
        go_wp2_with fail
        refine (CN.out _).mono ?_
        rintro e w1 ⟨rfl, hb1⟩
        have A2 := A1.out.on hb1
        have B1 := below_step AB (Nat.le_refl _) hb1
        have hl1 := A2.lt
        have A9 : Hid (Blk (w1.alloc (.cells #[.string S9, .int .i64 0] 74)) 74 (w.heap.size + 1) #[.string ⟨#[]⟩, .int .i64 0]) := A2.alloc _
        have B9 : Below w.heap.size w (w1.alloc (.cells #[.string S9, .int .i64 0] 74)) := B1.alloc B1.size _
        clear CN A1 AB hb1 A2 B1 hl1
        go_wp2_with (with_reducible refine wpList_storeBlk rfl 74 _ _ rfl (w.heap.size + 1) #[.string ⟨#[]⟩, .int .i64 0] #[.string S9, .int .i64 0] ?hx ?hy A9.out rfl ?hi ?h1 ?_)
        try (case hx => rfl)
        try (case hy => rfl)
        try (case hi => kernel_rfl)
        try (case h1 => simp [Value.oneCell'])
        go_wp2_with fail
        exact bodyPost_rowTmp rfl (w.heap.size + 1) #[.string S9, .int .i64 0] (.string F) rfl rfl rfl (A9.out.setRow _) _ Try.underlying74 rfl (by kernel_rfl) ⟨rfl, below_setRow B9 (by omega) _⟩
  · rw [if_pos hc]
    have g0 : (c1 != 0) = true := by rw [bne_iff_ne]; exact hc
    show Calls Try.prog _ _ w fun x w' => x = .returned (.tuple #[.agg #[.string S1, .int .i64 c1], .string ⟨#[]⟩]) ∧ Below w.heap.size w w'
    obtain ⟨S9, h9⟩ : ∃ S9, S9 = S1 := ⟨_, rfl⟩
    obtain ⟨c9, h9'⟩ : ∃ c9, c9 = c1 := ⟨_, rfl⟩
    rw [← h9, ← h9'] at CN ⊢
    rw [← h9'] at g0
    clear h9 h9' hc
    go_enter Try.func40, Try.ntmps40
    go_wp2_with fail
    refine (CN.out _).mono ?_
    rintro e w1 ⟨rfl, hb1⟩
    have A2 := A1.out.on hb1
    have B1 := below_step AB (Nat.le_refl _) hb1
    have hl1 := A2.lt
    have A9 : Hid (Blk (w1.alloc (.cells #[.string S9, .int .i64 c9] 74)) 74 (w.heap.size + 1) #[.string ⟨#[]⟩, .int .i64 0]) := A2.alloc _
    have B9 : Below w.heap.size w (w1.alloc (.cells #[.string S9, .int .i64 c9] 74)) := B1.alloc B1.size _
    clear CN A1 AB hb1 A2 B1 hl1
    go_wp2_with (with_reducible refine wpList_storeBlk rfl 74 _ _ rfl (w.heap.size + 1) #[.string ⟨#[]⟩, .int .i64 0] #[.string S9, .int .i64 c9] ?hx ?hy A9.out rfl ?hi ?h1 ?_)
    try (case hx => rfl)
    try (case hy => rfl)
    try (case hi => kernel_rfl)
    try (case h1 => simp [Value.oneCell'])
    go_wp2_with fail
    exact bodyPost_rowTmp rfl (w.heap.size + 1) #[.string S9, .int .i64 c9] (.string ⟨#[]⟩) rfl rfl rfl (A9.out.setRow _) _ Try.underlying74 rfl (by kernel_rfl) ⟨rfl, below_setRow B9 (by omega) _⟩

end Go.Proofs.Ytkmdajenbidaaaa

/- The document's Stamp (layer 9). -/
namespace Go.Proofs.Ytkmdajenbidaaaa
open Go.RowKit
set_option maxRecDepth 100000
set_option linter.unusedSimpArgs false

def stampOk (t u : Int) : Bool := oneOk t 1099511627775 && oneOk u 255

def stampP (o : ByteArray × Bool) (t u : Int) : ByteArray × Bool := layP o (bigB t 6 ++ bigB u 1) (stampOk t u)



end Go.Proofs.Ytkmdajenbidaaaa

/- The document's InStamp, where nothing is wrong (layer 9). -/
namespace Go.Proofs.Ytkmdajenbidaaaa
open Go.RowKit
set_option maxRecDepth 100000
set_option linter.unusedSimpArgs false

def inStampP (i : ByteArray × Int) : (ByteArray × Int) × (Int × Int) :=
  if (numberP (inNumP i).1 1).1.2 ≠ 0 then ((numberP (inNumP i).1 1).1, (0, 0)) else ((numberP (inNumP i).1 1).1, (((inNumP i).2 : Int), ((numberP (inNumP i).1 1).2 : Int)))

theorem wrongP_size (i : ByteArray × Int) (e : Int) : (wrongP i e).1.size = 0 := rfl

theorem numberP_size (i : ByteArray × Int) (many : Nat) : (numberP i many).1.1.size ≤ i.1.size := by
  unfold numberP
  split
  · exact Nat.zero_le _
  · show (i.1.extract many i.1.size).size ≤ _; rw [ByteArray.size_extract]; omega

theorem inNumP_size (i : ByteArray × Int) : (inNumP i).1.1.size ≤ i.1.size := by
  unfold inNumP
  split
  · exact Nat.zero_le _
  · exact numberP_size i 6

end Go.Proofs.Ytkmdajenbidaaaa

/- The document's InStamp, where something is wrong (layer 9). -/
namespace Go.Proofs.Ytkmdajenbidaaaa
open Go.RowKit
set_option maxRecDepth 100000
set_option linter.unusedSimpArgs false

end Go.Proofs.Ytkmdajenbidaaaa

/- Layer 9 on plain data: what was written is read; what is cut is too short. Nothing of the program. -/
namespace Go.Proofs.Ytkmdajenbidaaaa
open Go.RowKit
set_option maxRecDepth 100000
set_option linter.unusedSimpArgs false

/-- The number of a number's bytes. -/
theorem bt_bigB (N many j : Nat) (hj : j < many) : bt (bigB (N : Int) many) j = N / 256 ^ (many - 1 - j) % 256 := by
  unfold bigB
  rw [bt_bytesOf _ _ _ hj (bigF_lt _ _ _)]
  unfold bigF
  have e : (2 : Int) ^ (8 * (many - 1 - j)) = ((256 ^ (many - 1 - j) : Nat) : Int) := by
    rw [show (256 : Nat) = 2 ^ 8 by decide, ← Nat.pow_mul]; simp
  rw [e]
  generalize 256 ^ (many - 1 - j) = P
  have : (N : Int) / (P : Int) % 256 = ((N / P % 256 : Nat) : Int) := by simp
  rw [this, Int.toNat_natCast]

theorem accB_congr (s t : ByteArray) (k : Nat) (h : ∀ j, j < k → bt s j = bt t j) : accB s k = accB t k := by
  induction k with
  | zero => rfl
  | succ k ih =>
    show accB s k * 256 + bt s k = accB t k * 256 + bt t k
    rw [ih (fun j hj => h j (by omega)), h k (by omega)]

theorem accB_big_to (N many k : Nat) (hk : k ≤ many) (hN : N < 256 ^ many) : accB (bigB (N : Int) many) k = N / 256 ^ (many - k) := by
  induction k with
  | zero => exact (Nat.div_eq_of_lt hN).symm
  | succ k ih =>
    show accB _ k * 256 + bt _ k = _
    rw [ih (by omega), bt_bigB N many k (by omega), show many - k = (many - (k + 1)) + 1 by omega, Nat.pow_succ, ← Nat.div_div_eq_div_mul, show many - 1 - k = many - (k + 1) by omega]
    generalize N / 256 ^ (many - (k + 1)) = M
    omega

theorem accB_big (N many : Nat) (hN : N < 256 ^ many) : accB (bigB (N : Int) many) many = N := by
  rw [accB_big_to N many many (Nat.le_refl _) hN, Nat.sub_self]
  simp

/-- A text is a beginning of another. -/
def PreB (t u : ByteArray) : Prop := t.size ≤ u.size ∧ ∀ j, j < t.size → bt t j = bt u j

theorem PreB.refl (t : ByteArray) : PreB t t := ⟨Nat.le_refl _, fun _ _ => rfl⟩

theorem PreB.cut (u : ByteArray) (n : Nat) (h : n ≤ u.size) : PreB (u.extract 0 n) u := by
  have e : (u.extract 0 n).size = n := by rw [ByteArray.size_extract]; omega
  exact ⟨by omega, fun j hj => by rw [bt_extract _ 0 n j (by omega) h, Nat.zero_add]⟩

theorem PreB.whole {t u : ByteArray} (h : PreB t u) (e : t.size = u.size) : t = u := bt_ext _ _ e (fun i hi => h.2 i hi)

theorem PreB.left {t E T : ByteArray} (h : PreB t (E ++ T)) (j : Nat) (hj : j < t.size) (hE : j < E.size) : bt t j = bt E j := by
  rw [h.2 j hj, bt_append_left _ _ _ hE]

theorem PreB.rest {t E T : ByteArray} (h : PreB t (E ++ T)) (n : Nat) (hE : E.size = n) (hn : n ≤ t.size) : PreB (t.extract n t.size) T := by
  have h1 := h.1
  rw [ByteArray.size_append] at h1
  have e : (t.extract n t.size).size = t.size - n := by rw [ByteArray.size_extract]; omega
  refine ⟨by omega, fun j hj => ?_⟩
  rw [bt_extract _ n t.size j (by omega) (Nat.le_refl _), h.2 _ (by omega), ← hE, bt_append_right]

/-- A number of a beginning. -/
theorem number_pre (t T : ByteArray) (N many : Nat) (hN : N < 256 ^ many) (h : PreB t (bigB (N : Int) many ++ T)) :
    (t.size < many ∧ numberP (t, 0) many = ((⟨#[]⟩, 90), 0)) ∨ (many ≤ t.size ∧ numberP (t, 0) many = ((t.extract many t.size, 0), N) ∧ PreB (t.extract many t.size) T) := by
  unfold numberP
  by_cases hm : t.size < many
  · left
    refine ⟨hm, ?_⟩
    rw [if_pos (Or.inr hm)]; rfl
  · right
    refine ⟨by omega, ?_, h.rest many (bigB_size _ _) (by omega)⟩
    rw [if_neg (by rintro (h | h); exact h rfl; exact hm h)]
    show ((t.extract many t.size, (0 : Int)), accB t many) = _
    rw [accB_congr t (bigB (N : Int) many) many (fun j hj => h.left j (by omega) (by rw [bigB_size]; exact hj)), accB_big N many hN]

theorem number_bad (e : Int) (he : e ≠ 0) (many : Nat) : numberP (⟨#[]⟩, e) many = ((⟨#[]⟩, e), 0) := by
  unfold numberP
  rw [if_pos (Or.inl he)]
  unfold wrongP
  rw [if_neg he]

/-- A part: its kind, two numbers, a text. -/
def kd (p : Int × Int × Int × ByteArray) : Int := p.1

def pn (p : Int × Int × Int × ByteArray) : Int := p.2.1

def pm (p : Int × Int × Int × ByteArray) : Int := p.2.2.1

def ps (p : Int × Int × Int × ByteArray) : ByteArray := p.2.2.2

def encP (p : Int × Int × Int × ByteArray) : ByteArray :=
  if kd p = 1 then bigB (pn p) 1 else if kd p = 2 then bigB (pn p) 6 else if kd p = 3 then bigB (pn p) 6 ++ bigB (pm p) 1 else bigB ((ps p).size : Int) 2 ++ ps p

def okP (p : Int × Int × Int × ByteArray) : Bool :=
  if kd p = 1 then oneOk (pn p) 255 else if kd p = 2 then oneOk (pn p) 1099511627775 else if kd p = 3 then stampOk (pn p) (pm p) else decide ((ps p).size ≤ 65535)

def writeP (o : ByteArray × Bool) (p : Int × Int × Int × ByteArray) : ByteArray × Bool :=
  if kd p = 1 then numP o (pn p) 1 255 else if kd p = 2 then numP o (pn p) 6 1099511627775 else if kd p = 3 then stampP o (pn p) (pm p) else textP o (ps p)

theorem layP_no (o : ByteArray × Bool) (s t : ByteArray) : layP o s false = layP o t false := by
  unfold layP
  rw [if_neg (fun h => by cases h.1), if_neg (fun h => by cases h.1)]

theorem writeP_eq (o : ByteArray × Bool) (p : Int × Int × Int × ByteArray) : writeP o p = layP o (encP p) (okP p) := by
  unfold writeP encP okP
  split
  · rfl
  · split
    · rfl
    · split
      · rfl
      · unfold textP
        split
        · next h => rw [decide_eq_false (by omega)]; exact layP_no _ _ _
        · next h => rw [decide_eq_true (by omega)]

/-- What k parts are, one behind the other. -/
def encA : List (Int × Int × Int × ByteArray) → ByteArray
  | [] => ByteArray.empty
  | p :: l => encP p ++ encA l

def writeA (o : ByteArray × Bool) (l : List (Int × Int × Int × ByteArray)) : ByteArray × Bool := l.foldl writeP o

theorem writeA_bad (S : ByteArray) (l : List (Int × Int × Int × ByteArray)) : writeA (S, true) l = (S, true) := by
  induction l with
  | nil => rfl
  | cons p l ih =>
    show writeA (writeP (S, true) p) l = _
    rw [writeP_eq]
    unfold layP
    rw [if_neg (fun h => by cases h.2.1)]
    exact ih

theorem writeA_ok (S : ByteArray) (l : List (Int × Int × Int × ByteArray)) (h : (writeA (S, false) l).2 = false) : (∀ p ∈ l, okP p = true) ∧ (writeA (S, false) l).1 = S ++ encA l := by
  induction l generalizing S with
  | nil =>
    refine ⟨fun p hp => (by cases hp), ?_⟩
    show S = S ++ ByteArray.empty
    apply bytes_ext
    rw [ByteArray.data_append, Array.toList_append]
    exact (List.append_nil _).symm
  | cons p l ih =>
    have e : writeA (S, false) (p :: l) = writeA (layP (S, false) (encP p) (okP p)) l := by
      show writeA (writeP (S, false) p) l = _
      rw [writeP_eq]
    rw [e] at h ⊢
    by_cases hc : okP p = true ∧ false = false ∧ S.size + (encP p).size ≤ 65536
    · have e2 : layP (S, false) (encP p) (okP p) = (S ++ encP p, false) := by unfold layP; exact if_pos hc
      rw [e2] at h ⊢
      obtain ⟨h1, h2⟩ := ih _ h
      refine ⟨fun q hq => ?_, ?_⟩
      · rcases List.mem_cons.1 hq with rfl | hq
        · exact hc.1
        · exact h1 q hq
      · rw [h2, ByteArray.append_assoc]; rfl
    · have e2 : layP (S, false) (encP p) (okP p) = (S, true) := by unfold layP; exact if_neg hc
      rw [e2, writeA_bad] at h
      cases h

end Go.Proofs.Ytkmdajenbidaaaa

/- Layer 9 on plain data: parts of a beginning, read. -/
namespace Go.Proofs.Ytkmdajenbidaaaa
open Go.RowKit
set_option maxRecDepth 100000
set_option linter.unusedSimpArgs false

theorem inNum_pre (t T : ByteArray) (N : Nat) (hN : N ≤ 1099511627775) (h : PreB t (bigB (N : Int) 6 ++ T)) :
    (t.size < 6 ∧ inNumP (t, 0) = ((⟨#[]⟩, 90), 0)) ∨ (6 ≤ t.size ∧ inNumP (t, 0) = ((t.extract 6 t.size, 0), N) ∧ PreB (t.extract 6 t.size) T) := by
  unfold inNumP
  rcases number_pre t T N 6 (Nat.lt_of_le_of_lt hN (by decide)) h with ⟨h1, h2⟩ | ⟨h1, h2, h3⟩
  · left; rw [h2]; exact ⟨h1, rfl⟩
  · right; rw [h2]
    exact ⟨h1, if_neg (by show ¬ 1099511627775 < N; omega), h3⟩

theorem inNum_bad (e : Int) (he : e ≠ 0) : inNumP (⟨#[]⟩, e) = ((⟨#[]⟩, e), 0) := by
  unfold inNumP
  rw [number_bad e he]; rfl

theorem append_mid (a b c : ByteArray) : (a ++ b) ++ c = a ++ (b ++ c) := ByteArray.append_assoc

theorem extract_twice (t : ByteArray) (a b : Nat) (h : a + b ≤ t.size) : (t.extract a t.size).extract b (t.extract a t.size).size = t.extract (a + b) t.size := by
  have e1 : (t.extract a t.size).size = t.size - a := by rw [ByteArray.size_extract]; omega
  refine bt_ext _ _ (by simp only [ByteArray.size_extract]; omega) (fun j hj => ?_)
  rw [ByteArray.size_extract, e1] at hj
  rw [bt_extract _ b _ j (by omega) (Nat.le_refl _), bt_extract _ a t.size (b + j) (by omega) (Nat.le_refl _), bt_extract _ (a + b) t.size j (by omega) (Nat.le_refl _), Nat.add_assoc]

theorem inStamp_pre (t T : ByteArray) (N U : Nat) (hN : N ≤ 1099511627775) (hU : U ≤ 255) (h : PreB t ((bigB (N : Int) 6 ++ bigB (U : Int) 1) ++ T)) :
    (t.size < 7 ∧ inStampP (t, 0) = ((⟨#[]⟩, 90), (0, 0))) ∨ (7 ≤ t.size ∧ inStampP (t, 0) = ((t.extract 7 t.size, 0), ((N : Int), (U : Int))) ∧ PreB (t.extract 7 t.size) T) := by
  rw [append_mid] at h
  unfold inStampP
  rcases inNum_pre t _ N hN h with ⟨h1, h2⟩ | ⟨h1, h2, h3⟩
  · left
    rw [h2]
    refine ⟨by omega, ?_⟩
    show (if (numberP (⟨#[]⟩, 90) 1).1.2 ≠ 0 then _ else _) = _
    rw [number_bad 90 (by decide), if_pos (by decide)]
  · rw [h2]
    have e1 : (t.extract 6 t.size).size = t.size - 6 := by rw [ByteArray.size_extract]; omega
    rcases number_pre _ T U 1 (by omega) h3 with ⟨k1, k2⟩ | ⟨k1, k2, k3⟩
    · left
      refine ⟨by omega, ?_⟩
      show (if (numberP (t.extract 6 t.size, 0) 1).1.2 ≠ 0 then _ else _) = _
      rw [k2, if_pos (by decide)]
    · right
      have e2 := extract_twice t 6 1 (by omega)
      rw [e2] at k2 k3
      refine ⟨by omega, ?_, k3⟩
      show (if (numberP (t.extract 6 t.size, 0) 1).1.2 ≠ 0 then _ else _) = _
      rw [k2, if_neg (fun h => h rfl)]

theorem inStamp_bad (e : Int) (he : e ≠ 0) : inStampP (⟨#[]⟩, e) = ((⟨#[]⟩, e), (0, 0)) := by
  unfold inStampP
  rw [inNum_bad e he]
  show (if (numberP (⟨#[]⟩, e) 1).1.2 ≠ 0 then _ else _) = _
  rw [number_bad e he]
  exact if_pos he

theorem inText_pre (t T s : ByteArray) (most : Int) (hs : s.size ≤ 65535) (hm : (s.size : Int) ≤ most) (h : PreB t ((bigB (s.size : Int) 2 ++ s) ++ T)) :
    (t.size < 2 + s.size ∧ inTextP (t, 0) most = ((⟨#[]⟩, 90), ⟨#[]⟩)) ∨ (2 + s.size ≤ t.size ∧ inTextP (t, 0) most = ((t.extract (2 + s.size) t.size, 0), s) ∧ PreB (t.extract (2 + s.size) t.size) T) := by
  rw [append_mid] at h
  unfold inTextP
  rcases number_pre t _ s.size 2 (by omega) h with ⟨h1, h2⟩ | ⟨h1, h2, h3⟩
  · left
    rw [h2]
    exact ⟨by omega, if_pos (by decide)⟩
  · rw [h2]
    have e1 : (t.extract 2 t.size).size = t.size - 2 := by rw [ByteArray.size_extract]; omega
    show (_ ∧ (if (0 : Int) ≠ 0 then _ else if most < (s.size : Int) then _ else if (t.extract 2 t.size).size < s.size then (wrongP (t.extract 2 t.size, 0) 90, _) else (((t.extract 2 t.size).extract s.size (t.extract 2 t.size).size, (0 : Int)), (t.extract 2 t.size).extract 0 s.size)) = _) ∨ (_ ∧ (if (0 : Int) ≠ 0 then _ else if most < (s.size : Int) then _ else if (t.extract 2 t.size).size < s.size then (wrongP (t.extract 2 t.size, 0) 90, _) else (((t.extract 2 t.size).extract s.size (t.extract 2 t.size).size, (0 : Int)), (t.extract 2 t.size).extract 0 s.size)) = _ ∧ _)
    rw [if_neg (fun h => h rfl), if_neg (by omega)]
    by_cases hc : (t.extract 2 t.size).size < s.size
    · left
      rw [if_pos hc]
      exact ⟨by omega, rfl⟩
    · right
      rw [if_neg hc, extract_twice t 2 s.size (by omega)]
      have h4 := h3.rest s.size rfl (by omega)
      rw [extract_twice t 2 s.size (by omega)] at h4
      refine ⟨by omega, ?_, h4⟩
      have e3 : (t.extract 2 t.size).extract 0 s.size = s := by
        refine bt_ext _ _ (by rw [ByteArray.size_extract]; omega) (fun j hj => ?_)
        rw [ByteArray.size_extract] at hj
        rw [bt_extract _ 0 s.size j (by omega) (by omega), Nat.zero_add]
        exact h3.left j (by omega) (by omega)
      rw [e3]

theorem inText_bad (e : Int) (he : e ≠ 0) (most : Int) : inTextP (⟨#[]⟩, e) most = ((⟨#[]⟩, e), ⟨#[]⟩) := by
  unfold inTextP
  rw [number_bad e he]
  exact if_pos he

/-- What a part leaves; what it gives. -/
def nextP (i : ByteArray × Int) (p : Int × Int × Int × ByteArray) : ByteArray × Int :=
  if kd p = 1 then (numberP i 1).1 else if kd p = 2 then (inNumP i).1 else if kd p = 3 then (inStampP i).1 else (inTextP i 65536).1

theorem oneOk_nat (n most : Int) (h : oneOk n most = true) : ∃ N : Nat, n = (N : Int) ∧ (N : Int) ≤ most := by
  unfold oneOk at h
  rw [Bool.and_eq_true, decide_eq_true_iff, decide_eq_true_iff] at h
  exact ⟨n.toNat, by omega, by omega⟩

theorem next_pre (t T : ByteArray) (p : Int × Int × Int × ByteArray) (hok : okP p = true) (h : PreB t (encP p ++ T)) :
    (t.size < (encP p).size ∧ nextP (t, 0) p = (⟨#[]⟩, 90)) ∨ ((encP p).size ≤ t.size ∧ nextP (t, 0) p = (t.extract (encP p).size t.size, 0) ∧ PreB (t.extract (encP p).size t.size) T) := by
  unfold nextP
  unfold okP at hok
  unfold encP at h ⊢
  by_cases h1 : kd p = 1
  · simp only [if_pos h1] at hok h ⊢
    obtain ⟨N, hN, hl⟩ := oneOk_nat _ _ hok
    rw [hN] at h ⊢
    rw [bigB_size]
    rcases number_pre t T N 1 (by omega) h with ⟨k1, k2⟩ | ⟨k1, k2, k3⟩
    · left; rw [k2]; exact ⟨k1, rfl⟩
    · right; rw [k2]; exact ⟨k1, rfl, k3⟩
  · simp only [if_neg h1] at hok h ⊢
    by_cases h2 : kd p = 2
    · simp only [if_pos h2] at hok h ⊢
      obtain ⟨N, hN, hl⟩ := oneOk_nat _ _ hok
      rw [hN] at h ⊢
      rw [bigB_size]
      rcases inNum_pre t T N (by omega) h with ⟨k1, k2⟩ | ⟨k1, k2, k3⟩
      · left; rw [k2]; exact ⟨k1, rfl⟩
      · right; rw [k2]; exact ⟨k1, rfl, k3⟩
    · simp only [if_neg h2] at hok h ⊢
      by_cases h3 : kd p = 3
      · simp only [if_pos h3] at hok h ⊢
        unfold stampOk at hok
        rw [Bool.and_eq_true] at hok
        obtain ⟨N, hN, hl⟩ := oneOk_nat _ _ hok.1
        obtain ⟨U, hU, hu⟩ := oneOk_nat _ _ hok.2
        rw [hN, hU] at h ⊢
        rw [ByteArray.size_append, bigB_size, bigB_size]
        rcases inStamp_pre t T N U (by omega) (by omega) h with ⟨k1, k2⟩ | ⟨k1, k2, k3⟩
        · left; rw [k2]; exact ⟨k1, rfl⟩
        · right; rw [k2]; exact ⟨k1, rfl, k3⟩
      · simp only [if_neg h3] at hok h ⊢
        rw [decide_eq_true_iff] at hok
        rw [ByteArray.size_append, bigB_size]
        rcases inText_pre t T (ps p) 65536 hok (by omega) h with ⟨k1, k2⟩ | ⟨k1, k2, k3⟩
        · left; rw [k2]; exact ⟨k1, rfl⟩
        · right; rw [k2]; exact ⟨k1, rfl, k3⟩

theorem next_bad (e : Int) (he : e ≠ 0) (p : Int × Int × Int × ByteArray) : nextP (⟨#[]⟩, e) p = (⟨#[]⟩, e) := by
  unfold nextP
  rw [number_bad e he, inNum_bad e he, inStamp_bad e he, inText_bad e he]
  split
  · rfl
  · split
    · rfl
    · split <;> rfl

def nextA (i : ByteArray × Int) (l : List (Int × Int × Int × ByteArray)) : ByteArray × Int := l.foldl nextP i

theorem nextA_bad (e : Int) (he : e ≠ 0) (l : List (Int × Int × Int × ByteArray)) : nextA (⟨#[]⟩, e) l = (⟨#[]⟩, e) := by
  induction l with
  | nil => rfl
  | cons p l ih =>
    show nextA (nextP (⟨#[]⟩, e) p) l = _
    rw [next_bad e he]; exact ih

/-- What is cut is too short. -/
theorem nextA_cut (l : List (Int × Int × Int × ByteArray)) (t : ByteArray) (hok : ∀ p ∈ l, okP p = true) (h : PreB t (encA l)) (hlt : t.size < (encA l).size) : nextA (t, 0) l = (⟨#[]⟩, 90) := by
  induction l generalizing t with
  | nil =>
    have : (encA []).size = 0 := rfl
    omega
  | cons p l ih =>
    show nextA (nextP (t, 0) p) l = _
    have hs : (encA (p :: l)).size = (encP p).size + (encA l).size := ByteArray.size_append
    rcases next_pre t (encA l) p (hok p (List.mem_cons_self ..)) h with ⟨k1, k2⟩ | ⟨k1, k2, k3⟩
    · rw [k2]; exact nextA_bad 90 (by decide) l
    · rw [k2]
      exact ih _ (fun q hq => hok q (List.mem_cons_of_mem _ hq)) k3 (by rw [ByteArray.size_extract]; omega)

/-- What was written is read, and what stands behind it is left. -/
theorem nextA_all (l : List (Int × Int × Int × ByteArray)) (t T : ByteArray) (hok : ∀ p ∈ l, okP p = true) (h : PreB t (encA l ++ T)) (hle : (encA l).size ≤ t.size) :
    nextA (t, 0) l = (t.extract (encA l).size t.size, 0) ∧ PreB (t.extract (encA l).size t.size) T := by
  induction l generalizing t with
  | nil =>
    have e : t.extract 0 t.size = t := bt_ext _ _ (by rw [ByteArray.size_extract]; omega) (fun j hj => by
      rw [ByteArray.size_extract] at hj
      rw [bt_extract _ 0 _ j (by omega) (Nat.le_refl _), Nat.zero_add])
    have e0 : (encA []).size = 0 := rfl
    refine ⟨?_, h.rest _ rfl hle⟩
    rw [e0, e]; rfl
  | cons p l ih =>
    have hs : (encA (p :: l)).size = (encP p).size + (encA l).size := ByteArray.size_append
    have h' : PreB t (encP p ++ (encA l ++ T)) := by
      have : encA (p :: l) ++ T = encP p ++ (encA l ++ T) := append_mid _ _ _
      rw [← this]; exact h
    show nextA (nextP (t, 0) p) l = _ ∧ _
    rcases next_pre t _ p (hok p (List.mem_cons_self ..)) h' with ⟨k1, k2⟩ | ⟨k1, k2, k3⟩
    · omega
    · have e1 : (t.extract (encP p).size t.size).size = t.size - (encP p).size := by rw [ByteArray.size_extract]; omega
      obtain ⟨j1, j2⟩ := ih _ (fun q hq => hok q (List.mem_cons_of_mem _ hq)) k3 (by omega)
      rw [extract_twice t _ _ (by omega)] at j1 j2
      rw [k2, hs]
      exact ⟨j1, j2⟩

end Go.Proofs.Ytkmdajenbidaaaa
