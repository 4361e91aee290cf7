import Derived.Maps.RangeWalk
import Derived.Test.YtabhkebkbidfhaaGreatDoorG
import Derived.Laws.ResultCell
namespace Go.Proofs.YtabhkebkbidfhaaGreatDoor
open Go.RowKit
set_option maxRecDepth 100000
set_option linter.unusedSimpArgs false
def outV (o : ByteArray × Bool) : Value := .agg #[.string o.1, .bool o.2]
def layP (o : ByteArray × Bool) (s : ByteArray) (ok : Bool) : ByteArray × Bool := if ok = true ∧ o.2 = false ∧ o.1.size + s.size ≤ 65536 then (o.1 ++ s, false) else (o.1, true)
set_option maxRecDepth 100000 in
set_option maxHeartbeats 2000000 in
theorem rwith_any (o : ByteArray × Bool) (s : ByteArray) (ok : Bool) (w : World) (ho : o.1.size ≤ 65536) (hs : s.size ≤ 1048576) :
    Calls Tryz.prog 121 #[outV o, .string s, .bool ok] w fun e w' => e = .returned (outV (layP o s ok)) ∧ Below w.heap.size w w' := by
  obtain ⟨S, b⟩ := o
  have hS : S.size ≤ 65536 := ho
  clear ho
  show Calls Tryz.prog 121 #[.agg #[.string S, .bool b], .string s, .bool ok] w _
  unfold outV layP
  cases ok with
  | false =>
    rw [if_neg (fun h => by cases h.1)]
    go_enter Tryz.func121, Tryz.ntmps121
    go_wp2
    exact bodyPost_row rfl (w.heap.size + 1) #[.string S, .bool true] rfl rfl (Blk.new' _ _ _ _ (by simp)) _ Tryz.underlying120 rfl (by kernel_rfl) ⟨rfl, (below_new w _).alloc (by simp) _⟩
  | true =>
    cases b with
    | true =>
      rw [if_neg (fun h => by cases h.2.1)]
      go_enter Tryz.func121, Tryz.ntmps121
      go_wp2
      exact bodyPost_row rfl (w.heap.size + 1) #[.string S, .bool true] rfl rfl (Blk.new' _ _ _ _ (by simp)) _ Tryz.underlying120 rfl (by kernel_rfl) ⟨rfl, (below_new w _).alloc (by simp) _⟩
    | false =>
      by_cases hz : S.size + s.size ≤ 65536
      · rw [if_pos ⟨rfl, rfl, hz⟩]
        have g0 : decide ((65536 : Int) < (S.size : Int) + (s.size : Int)) = false := by simp; omega
        have hsum : ¬ (9223372036854775807 < S.size + s.size) := by omega
        obtain ⟨E, hE⟩ : ∃ E, S ++ s = E := ⟨_, rfl⟩
        rw [hE]
        go_enter Tryz.func121, Tryz.ntmps121
        go_wp2
        exact bodyPost_row rfl (w.heap.size + 1) #[.string E, .bool false] rfl rfl (Blk.new' _ _ _ _ (by simp)) _ Tryz.underlying120 rfl (by kernel_rfl) ⟨rfl, (below_new w _).alloc (by simp) _⟩
      · rw [if_neg (fun h => hz h.2.2)]
        have g0 : decide ((65536 : Int) < (S.size : Int) + (s.size : Int)) = true := by simp; omega
        go_enter Tryz.func121, Tryz.ntmps121
        go_wp2
        exact bodyPost_row rfl (w.heap.size + 1) #[.string S, .bool true] rfl rfl (Blk.new' _ _ _ _ (by simp)) _ Tryz.underlying120 rfl (by kernel_rfl) ⟨rfl, (below_new w _).alloc (by simp) _⟩
def bigF (n : Int) (many j : Nat) : Nat := (n / 2 ^ (8 * (many - 1 - j)) % 256).toNat
theorem bigF_lt (n : Int) (many j : Nat) : bigF n many j < 256 := by unfold bigF; omega
def bigB (n : Int) (many : Nat) : ByteArray := ⟨(bytesOf many (bigF n many)).toArray⟩
theorem bigB_size (n : Int) (many : Nat) : (bigB n many).size = many := by
  show (bytesOf many _).toArray.size = _
  rw [List.size_toArray, bytesOf_length]
set_option maxRecDepth 100000 in
set_option maxHeartbeats 2000000 in
theorem rbig_any (n : Int) (many : Nat) (w : World) (hm : many ≤ 7) :
    Calls Tryz.prog 122 #[.int .i64 n, .int .i64 (many : Int)] w fun e w' => e = .returned (.string (bigB n many)) ∧ Below w.heap.size w w' := by
  obtain ⟨i1, hj, hy0, hy1, hy2⟩ := info_parts Tryz.info5
  obtain ⟨F, HF⟩ : ∃ F, Hid (F = bigF n many) := ⟨_, rfl⟩
  have HFl : Hid (∀ i, F i < 256) := by show ∀ i, _; rw [HF.out]; exact bigF_lt n many
  obtain ⟨E, HE⟩ : ∃ E, Hid (E = bigB n many) := ⟨_, rfl⟩
  have HEF : Hid ((⟨(bytesOf many F).toArray⟩ : ByteArray) = E) := by show _ = _; rw [HE.out, HF.out]; rfl
  rw [← HE.out]
  go_enter Tryz.func122, Tryz.ntmps122
  go_wp2_with fail
  go_loopw [5, 6] (fun v i wr => ∃ k : Nat, ∃ z : Int, k ≤ many ∧ i = .int .i64 z ∧ Hid (z = (many : Int) - 1 - (k : Int)) ∧ OwnV wr w.heap.size 5 .u8 v k (wT F k) ∧ Below w.heap.size w wr) (fun _ i _ => (intOf i + 1).toNat)
  case atStart => exact ⟨0, (many : Int) - 1, Nat.zero_le _, rfl, by show _ = _; omega, OwnV.nil _ _ _ _, Below.refl _ _⟩
  case round =>
    obtain ⟨k, z, hk, rfl, HZ, hown, hbl⟩ := hrel
    by_cases hlt : k < many
    · have hsz := hbl.size
      obtain ⟨m, hm2⟩ : ∃ m : Nat, z = (m : Int) := ⟨many - 1 - k, by have := HZ.out; omega⟩
      subst hm2
      have hmk : m = many - 1 - k := by have := HZ.out; omega
      have hFk : F k = (n / 2 ^ (8 * m) % 256).toNat := by rw [HF.out, hmk]; rfl
      have hsn := wT_snoc F k ((F k : Nat) : Int) rfl
      have hlF := HFl.out k
      have va : bits .and .i64 (n / 2 ^ (8 * m)) 255 = ((F k : Nat) : Int) := by rw [i64_and255, hFk]; omega
      have b0 : (0 : Int) ≤ (m : Int) := by omega
      have lm : m ≤ 6 := by omega
      generalize F k = X at *
      have HSn : Hid (wT F k ++ [(X : Int)] = wT F (k + 1)) := hsn
      have HMK : Hid (m = many - 1 - k) := hmk
      clear hsn hFk hmk
      go_wp2_with (at_builtin; refine wpList_app1 rfl (.tmp 13) (.tmp 20) 68 rfl w.heap.size 5 i1 .u8 1 Tryz.underlying68 hj hy0 hy1 hy2 wr u5 k _ rfl hown (X : Int) rfl (by omega) (by omega) hsz ?_)
      intro v8 w8 O8 D8
      rw [HSn.out] at O8
      have B8 := hbl.trans D8
      clear hown hbl D8 HSn
      go_wp2
      refine ⟨⟨k + 1, (m : Int) - 1, by omega, rfl, by have := HMK.out; show _ = _; omega, O8, B8⟩, ?_⟩
      simp [intOf]
    · have hk' : k = many := by omega
      subst hk'
      have hz1 : z = -1 := by have := HZ.out; omega
      subst hz1
      have hnum : wT F k = nums (bytesOf k F) := (nums_bytesOf k F (fun i _ => HFl.out i)).symm
      rw [hnum] at hown
      have hcv := own_conv (P := Tryz.prog) 68 9 hown Tryz.underlying68 Tryz.underlying5 Tryz.underlying9
      rw [HEF.out] at hcv
      clear hown hnum
      go_wp2
      go_ret
      exact ⟨rfl, hbl⟩
end Go.Proofs.YtabhkebkbidfhaaGreatDoor
namespace Go.Proofs.YtabhkebkbidfhaaGreatDoor
open Go.RowKit
set_option maxRecDepth 100000
set_option linter.unusedSimpArgs false
def oneOk (n most : Int) : Bool := decide (0 ≤ n) && decide (n ≤ most)
def numP (o : ByteArray × Bool) (n : Int) (many : Nat) (most : Int) : ByteArray × Bool := layP o (bigB n many) (oneOk n most)
end Go.Proofs.YtabhkebkbidfhaaGreatDoor
namespace Go.Proofs.YtabhkebkbidfhaaGreatDoor
open Go.RowKit
set_option maxRecDepth 100000
set_option linter.unusedSimpArgs false
set_option maxRecDepth 100000 in
set_option maxHeartbeats 4000000 in
theorem rnum_any (o : ByteArray × Bool) (n : Int) (w : World) (ho : o.1.size ≤ 65536) :
    Calls Tryz.prog 96 #[outV o, .int .i64 n] w fun e w' => e = .returned (outV (numP o n 6 1099511627775)) ∧ Below w.heap.size w w' := by
  obtain ⟨S, b⟩ := o
  have hS : S.size ≤ 65536 := ho
  clear ho
  show Calls Tryz.prog _ #[.agg #[.string S, .bool b], .int .i64 n] w _
  obtain ⟨E, hE⟩ : ∃ E, E = bigB n 6 := ⟨_, rfl⟩
  have hEs : E.size ≤ 1048576 := by rw [hE, bigB_size]; decide
  have CB' := fun w => rbig_any n 6 w (by decide)
  rw [← hE] at CB'
  have CB : Hid (∀ w, _) := CB'
  obtain ⟨ok, hok⟩ : ∃ ok, ok = oneOk n 1099511627775 := ⟨_, rfl⟩
  have CW' := fun w => rwith_any (S, b) E ok w hS hEs
  obtain ⟨⟨S', b'⟩, hR⟩ : ∃ r, r = layP (S, b) E ok := ⟨_, rfl⟩
  have hRes : numP (S, b) n 6 1099511627775 = (S', b') := by rw [hR, hE, hok]; rfl
  rw [hRes]
  rw [← hR] at CW'
  have CW : Hid (∀ w, Calls Tryz.prog 121 #[.agg #[.string S, .bool b], .string E, .bool ok] w fun e w' => e = .returned (.agg #[.string S', .bool b']) ∧ Below w.heap.size w w') := CW'
  unfold outV
  clear CB' CW' hR hRes hE
  have A0 : Hid (Blk ((w.alloc (.cells #[.string S, .bool b] 120)).alloc (.cells #[.string ⟨#[]⟩, .bool false] 120)) 120 w.heap.size #[.string S, .bool b]) := (Blk.new w _ _).alloc _
  have A1 : Hid (Blk ((w.alloc (.cells #[.string S, .bool b] 120)).alloc (.cells #[.string ⟨#[]⟩, .bool false] 120)) 120 (w.heap.size + 1) #[.string ⟨#[]⟩, .bool false]) := Blk.new' _ _ _ _ (by simp)
  have AB : Below w.heap.size w ((w.alloc (.cells #[.string S, .bool b] 120)).alloc (.cells #[.string ⟨#[]⟩, .bool false] 120)) := (below_new w _).alloc (by simp) _
  by_cases h0 : 0 ≤ n
  · have g0 : decide ((0 : Int) ≤ n) = true := by simp; exact h0
    by_cases h1 : n ≤ 1099511627775
    · have g1 : decide (n ≤ 1099511627775) = true := by simp; exact h1
      have hk : ok = true := by rw [hok]; unfold oneOk; rw [g0, g1]; rfl
      subst hk
      clear hok
      go_enter Tryz.func96, Tryz.ntmps96
      go_wp2_with fail
      generalize hq : World.alloc (World.alloc w _) _ = W at *
      clear hq
      refine wp_region_noPanic ?_
      refine wp_region_held_drew (S := fun w' => Blk w' 120 w.heap.size #[.string S, .bool b]) (by kernel_rfl) (by first | exact trivial | assumption | exact ⟨by assumption, by assumption⟩) (fun hHeld => ?_)
      refine take_at (i := 0) (v := .agg #[.string S, .bool b]) rfl rfl (by kernel_rfl) (by kernel_rfl) (by kernel_rfl) (fun _ _ _ h => h) (Or.inl ⟨by rfl, ?_⟩) (by assumption) ?_
      · intro w' hSw
        exact exec_loadRow 120 _ rfl w.heap.size #[.string S, .bool b] rfl hSw _ Tryz.underlying120 rfl (by kernel_rfl)
      try go_frame
      refine take_at (i := 1) (v := ?_) rfl rfl (by kernel_rfl) (by kernel_rfl) (by kernel_rfl) (fun _ _ _ h => h) (Or.inl ⟨by rfl, ?_⟩) (by assumption) ?_
      rotate_left
      · intro w hSw; (try dsimp only at hSw); go_simp; try with_reducible rfl
      try go_frame
      refine take_at (i := 3) (v := ?_) rfl rfl (by kernel_rfl) (by kernel_rfl) (by kernel_rfl) (fun _ _ _ h => h) (Or.inl ⟨by rfl, ?_⟩) (by assumption) ?_
      rotate_left
      · intro w hSw; (try dsimp only at hSw); go_simp; try with_reducible rfl
      try go_frame
      refine take_at (i := 4) (v := ?_) rfl rfl (by kernel_rfl) (by kernel_rfl) (by kernel_rfl) (fun _ _ _ h => h) (Or.inl ⟨by rfl, ?_⟩) (by assumption) ?_
      rotate_left
      · intro w hSw; (try dsimp only at hSw); go_simp; try with_reducible rfl
      try go_frame
      have hS0 : Blk W.drew 120 w.heap.size #[.string S, .bool b] := A0.out
      have hS1 : Blk W.drew 120 (w.heap.size + 1) #[.string ⟨#[]⟩, .bool false] := A1.out
      have hB0 : Below w.heap.size w W.drew := AB.drew
      clear A0 A1 AB
      refine wpAnyH_ready (rs := [2]) (by kernel_rfl) (by simp) ?_
      refine AllReadyH.cons rfl (fun K hK => ?_) AllReadyH.nil
      go_simp
      refine (CB.out _).mono ?_
      rintro e w4 ⟨rfl, hb4⟩
      have hS4 := hS0.on hb4
      have hT4 := hS1.on hb4
      have hB4 := below_step hB0 (Nat.le_refl _) hb4
      clear CB hb4 hS0 hS1 hB0
      refine hK.out _ _ hS4 (fun hHeld => ?_)
      clear hK K
      refine take_at (i := 5) (v := ?_) rfl rfl (by kernel_rfl) (by kernel_rfl) (by kernel_rfl) (fun _ _ _ h => h) (Or.inl ⟨by rfl, ?_⟩) (by assumption) ?_
      rotate_left
      · intro w hSw; (try dsimp only at hSw); go_simp; try with_reducible rfl
      try go_frame
      refine take_at (i := 6) (v := ?_) rfl rfl (by kernel_rfl) (by kernel_rfl) (by kernel_rfl) (fun _ _ _ h => h) (Or.inl ⟨by rfl, ?_⟩) (by assumption) ?_
      rotate_left
      · intro w hSw; (try dsimp only at hSw); go_simp; try with_reducible rfl
      try go_frame
      refine take_at (i := 7) (v := ?_) rfl rfl (by kernel_rfl) (by kernel_rfl) (by kernel_rfl) (fun _ _ _ h => h) (Or.inl ⟨by rfl, ?_⟩) (by assumption) ?_
      rotate_left
      · intro w hSw; (try dsimp only at hSw); go_simp; try with_reducible rfl
      try go_frame
      refine take_at (i := 8) (v := ?_) rfl rfl (by kernel_rfl) (by kernel_rfl) (by kernel_rfl) (fun _ _ _ h => h) (Or.inl ⟨by rfl, ?_⟩) (by assumption) ?_
      rotate_left
      · intro w hSw; (try dsimp only at hSw); go_simp; try with_reducible rfl
      try go_frame
      refine wpAnyH_ready (rs := [9]) (by kernel_rfl) (by simp) ?_
      refine AllReadyH.cons rfl (fun K hK => ?_) AllReadyH.nil
      go_simp
      refine (CW.out _).mono ?_
      rintro e w5 ⟨rfl, hb5⟩
      have hS5 := hS4.on hb5
      have hT5 := hT4.on hb5
      have hB5 := below_step hB4 (Nat.le_refl _) hb5
      clear CW hb5 hS4 hT4 hB4
      refine hK.out _ _ hS5 (fun hHeld => ?_)
      clear hK K
      refine wpAnyH_ready (rs := [10]) (by kernel_rfl) (by simp) ?_
      refine AllReadyH.cons rfl (fun K hK => ?_) AllReadyH.nil
      refine step_storeRow rfl rfl 120 _ _ rfl (w.heap.size + 1) #[.string ⟨#[]⟩, .bool false] #[.string S', .bool b'] rfl rfl hT5 rfl (by kernel_rfl) (by simp [Value.oneCell']) ?_
      refine hK.out _ _ (hS5.setRowOther _ (by omega) _) (fun hHeld => ?_)
      clear hK K
      refine wpAnyH_done (by kernel_rfl) (NoPanic.normal ?_) _
      go_wp2_with fail
      exact bodyPost_row rfl (w.heap.size + 1) #[.string S', .bool b'] rfl rfl (hT5.setRow _) _ Tryz.underlying120 rfl (by kernel_rfl) ⟨rfl, below_setRow hB5 (by omega) _⟩
    · have g1 : decide (n ≤ 1099511627775) = false := by simp; omega
      have hk : ok = false := by rw [hok]; unfold oneOk; rw [g0, g1]; rfl
      subst hk
      clear hok
      go_enter Tryz.func96, Tryz.ntmps96
      go_wp2_with fail
      generalize hq : World.alloc (World.alloc w _) _ = W at *
      clear hq
      refine wp_region_noPanic ?_
      refine wp_region_held_drew (S := fun w' => Blk w' 120 w.heap.size #[.string S, .bool b]) (by kernel_rfl) (by first | exact trivial | assumption | exact ⟨by assumption, by assumption⟩) (fun hHeld => ?_)
      refine take_at (i := 0) (v := .agg #[.string S, .bool b]) rfl rfl (by kernel_rfl) (by kernel_rfl) (by kernel_rfl) (fun _ _ _ h => h) (Or.inl ⟨by rfl, ?_⟩) (by assumption) ?_
      · intro w' hSw
        exact exec_loadRow 120 _ rfl w.heap.size #[.string S, .bool b] rfl hSw _ Tryz.underlying120 rfl (by kernel_rfl)
      try go_frame
      refine take_at (i := 1) (v := ?_) rfl rfl (by kernel_rfl) (by kernel_rfl) (by kernel_rfl) (fun _ _ _ h => h) (Or.inl ⟨by rfl, ?_⟩) (by assumption) ?_
      rotate_left
      · intro w hSw; (try dsimp only at hSw); go_simp; try with_reducible rfl
      try go_frame
      refine take_at (i := 3) (v := ?_) rfl rfl (by kernel_rfl) (by kernel_rfl) (by kernel_rfl) (fun _ _ _ h => h) (Or.inl ⟨by rfl, ?_⟩) (by assumption) ?_
      rotate_left
      · intro w hSw; (try dsimp only at hSw); go_simp; try with_reducible rfl
      try go_frame
      refine take_at (i := 4) (v := ?_) rfl rfl (by kernel_rfl) (by kernel_rfl) (by kernel_rfl) (fun _ _ _ h => h) (Or.inl ⟨by rfl, ?_⟩) (by assumption) ?_
      rotate_left
      · intro w hSw; (try dsimp only at hSw); go_simp; try with_reducible rfl
      try go_frame
      have hS0 : Blk W.drew 120 w.heap.size #[.string S, .bool b] := A0.out
      have hS1 : Blk W.drew 120 (w.heap.size + 1) #[.string ⟨#[]⟩, .bool false] := A1.out
      have hB0 : Below w.heap.size w W.drew := AB.drew
      clear A0 A1 AB
      refine wpAnyH_ready (rs := [2]) (by kernel_rfl) (by simp) ?_
      refine AllReadyH.cons rfl (fun K hK => ?_) AllReadyH.nil
      go_simp
      refine (CB.out _).mono ?_
      rintro e w4 ⟨rfl, hb4⟩
      have hS4 := hS0.on hb4
      have hT4 := hS1.on hb4
      have hB4 := below_step hB0 (Nat.le_refl _) hb4
      clear CB hb4 hS0 hS1 hB0
      refine hK.out _ _ hS4 (fun hHeld => ?_)
      clear hK K
      refine take_at (i := 5) (v := ?_) rfl rfl (by kernel_rfl) (by kernel_rfl) (by kernel_rfl) (fun _ _ _ h => h) (Or.inl ⟨by rfl, ?_⟩) (by assumption) ?_
      rotate_left
      · intro w hSw; (try dsimp only at hSw); go_simp; try with_reducible rfl
      try go_frame
      refine take_at (i := 6) (v := ?_) rfl rfl (by kernel_rfl) (by kernel_rfl) (by kernel_rfl) (fun _ _ _ h => h) (Or.inl ⟨by rfl, ?_⟩) (by assumption) ?_
      rotate_left
      · intro w hSw; (try dsimp only at hSw); go_simp; try with_reducible rfl
      try go_frame
      refine take_at (i := 7) (v := ?_) rfl rfl (by kernel_rfl) (by kernel_rfl) (by kernel_rfl) (fun _ _ _ h => h) (Or.inl ⟨by rfl, ?_⟩) (by assumption) ?_
      rotate_left
      · intro w hSw; (try dsimp only at hSw); go_simp; try with_reducible rfl
      try go_frame
      refine take_at (i := 8) (v := ?_) rfl rfl (by kernel_rfl) (by kernel_rfl) (by kernel_rfl) (fun _ _ _ h => h) (Or.inl ⟨by rfl, ?_⟩) (by assumption) ?_
      rotate_left
      · intro w hSw; (try dsimp only at hSw); go_simp; try with_reducible rfl
      try go_frame
      refine wpAnyH_ready (rs := [9]) (by kernel_rfl) (by simp) ?_
      refine AllReadyH.cons rfl (fun K hK => ?_) AllReadyH.nil
      go_simp
      refine (CW.out _).mono ?_
      rintro e w5 ⟨rfl, hb5⟩
      have hS5 := hS4.on hb5
      have hT5 := hT4.on hb5
      have hB5 := below_step hB4 (Nat.le_refl _) hb5
      clear CW hb5 hS4 hT4 hB4
      refine hK.out _ _ hS5 (fun hHeld => ?_)
      clear hK K
      refine wpAnyH_ready (rs := [10]) (by kernel_rfl) (by simp) ?_
      refine AllReadyH.cons rfl (fun K hK => ?_) AllReadyH.nil
      refine step_storeRow rfl rfl 120 _ _ rfl (w.heap.size + 1) #[.string ⟨#[]⟩, .bool false] #[.string S', .bool b'] rfl rfl hT5 rfl (by kernel_rfl) (by simp [Value.oneCell']) ?_
      refine hK.out _ _ (hS5.setRowOther _ (by omega) _) (fun hHeld => ?_)
      clear hK K
      refine wpAnyH_done (by kernel_rfl) (NoPanic.normal ?_) _
      go_wp2_with fail
      exact bodyPost_row rfl (w.heap.size + 1) #[.string S', .bool b'] rfl rfl (hT5.setRow _) _ Tryz.underlying120 rfl (by kernel_rfl) ⟨rfl, below_setRow hB5 (by omega) _⟩
  · have g0 : decide ((0 : Int) ≤ n) = false := by simp; omega
    have hk : ok = false := by rw [hok]; unfold oneOk; rw [g0]; rfl
    subst hk
    clear hok
    go_enter Tryz.func96, Tryz.ntmps96
    go_wp2_with fail
    generalize hq : World.alloc (World.alloc w _) _ = W at *
    clear hq
    refine wp_region_noPanic ?_
    refine wp_region_held_drew (S := fun w' => Blk w' 120 w.heap.size #[.string S, .bool b]) (by kernel_rfl) (by first | exact trivial | assumption | exact ⟨by assumption, by assumption⟩) (fun hHeld => ?_)
    refine take_at (i := 0) (v := .agg #[.string S, .bool b]) rfl rfl (by kernel_rfl) (by kernel_rfl) (by kernel_rfl) (fun _ _ _ h => h) (Or.inl ⟨by rfl, ?_⟩) (by assumption) ?_
    · intro w' hSw
      exact exec_loadRow 120 _ rfl w.heap.size #[.string S, .bool b] rfl hSw _ Tryz.underlying120 rfl (by kernel_rfl)
    try go_frame
    refine take_at (i := 1) (v := ?_) rfl rfl (by kernel_rfl) (by kernel_rfl) (by kernel_rfl) (fun _ _ _ h => h) (Or.inl ⟨by rfl, ?_⟩) (by assumption) ?_
    rotate_left
    · intro w hSw; (try dsimp only at hSw); go_simp; try with_reducible rfl
    try go_frame
    refine take_at (i := 3) (v := ?_) rfl rfl (by kernel_rfl) (by kernel_rfl) (by kernel_rfl) (fun _ _ _ h => h) (Or.inl ⟨by rfl, ?_⟩) (by assumption) ?_
    rotate_left
    · intro w hSw; (try dsimp only at hSw); go_simp; try with_reducible rfl
    try go_frame
    refine take_at (i := 4) (v := ?_) rfl rfl (by kernel_rfl) (by kernel_rfl) (by kernel_rfl) (fun _ _ _ h => h) (Or.inl ⟨by rfl, ?_⟩) (by assumption) ?_
    rotate_left
    · intro w hSw; (try dsimp only at hSw); go_simp; try with_reducible rfl
    try go_frame
    have hS0 : Blk W.drew 120 w.heap.size #[.string S, .bool b] := A0.out
    have hS1 : Blk W.drew 120 (w.heap.size + 1) #[.string ⟨#[]⟩, .bool false] := A1.out
    have hB0 : Below w.heap.size w W.drew := AB.drew
    clear A0 A1 AB
    refine wpAnyH_ready (rs := [2]) (by kernel_rfl) (by simp) ?_
    refine AllReadyH.cons rfl (fun K hK => ?_) AllReadyH.nil
    go_simp
    refine (CB.out _).mono ?_
    rintro e w4 ⟨rfl, hb4⟩
    have hS4 := hS0.on hb4
    have hT4 := hS1.on hb4
    have hB4 := below_step hB0 (Nat.le_refl _) hb4
    clear CB hb4 hS0 hS1 hB0
    refine hK.out _ _ hS4 (fun hHeld => ?_)
    clear hK K
    refine take_at (i := 5) (v := ?_) rfl rfl (by kernel_rfl) (by kernel_rfl) (by kernel_rfl) (fun _ _ _ h => h) (Or.inl ⟨by rfl, ?_⟩) (by assumption) ?_
    rotate_left
    · intro w hSw; (try dsimp only at hSw); go_simp; try with_reducible rfl
    try go_frame
    refine take_at (i := 6) (v := undef) rfl rfl (by kernel_rfl) (by kernel_rfl) (by kernel_rfl) (fun _ _ _ h => h) (Or.inr ⟨by rfl, rfl⟩) (by assumption) ?_
    try go_frame
    refine take_at (i := 7) (v := undef) rfl rfl (by kernel_rfl) (by kernel_rfl) (by kernel_rfl) (fun _ _ _ h => h) (Or.inr ⟨by rfl, rfl⟩) (by assumption) ?_
    try go_frame
    refine take_at (i := 8) (v := ?_) rfl rfl (by kernel_rfl) (by kernel_rfl) (by kernel_rfl) (fun _ _ _ h => h) (Or.inl ⟨by rfl, ?_⟩) (by assumption) ?_
    rotate_left
    · intro w hSw; (try dsimp only at hSw); go_simp; try with_reducible rfl
    try go_frame
    refine wpAnyH_ready (rs := [9]) (by kernel_rfl) (by simp) ?_
    refine AllReadyH.cons rfl (fun K hK => ?_) AllReadyH.nil
    go_simp
    refine (CW.out _).mono ?_
    rintro e w5 ⟨rfl, hb5⟩
    have hS5 := hS4.on hb5
    have hT5 := hT4.on hb5
    have hB5 := below_step hB4 (Nat.le_refl _) hb5
    clear CW hb5 hS4 hT4 hB4
    refine hK.out _ _ hS5 (fun hHeld => ?_)
    clear hK K
    refine wpAnyH_ready (rs := [10]) (by kernel_rfl) (by simp) ?_
    refine AllReadyH.cons rfl (fun K hK => ?_) AllReadyH.nil
    refine step_storeRow rfl rfl 120 _ _ rfl (w.heap.size + 1) #[.string ⟨#[]⟩, .bool false] #[.string S', .bool b'] rfl rfl hT5 rfl (by kernel_rfl) (by simp [Value.oneCell']) ?_
    refine hK.out _ _ (hS5.setRowOther _ (by omega) _) (fun hHeld => ?_)
    clear hK K
    refine wpAnyH_done (by kernel_rfl) (NoPanic.normal ?_) _
    go_wp2_with fail
    exact bodyPost_row rfl (w.heap.size + 1) #[.string S', .bool b'] rfl rfl (hT5.setRow _) _ Tryz.underlying120 rfl (by kernel_rfl) ⟨rfl, below_setRow hB5 (by omega) _⟩
end Go.Proofs.YtabhkebkbidfhaaGreatDoor
namespace Go.Proofs.YtabhkebkbidfhaaGreatDoor
open Go.RowKit
set_option maxRecDepth 100000
set_option linter.unusedSimpArgs false
def textP (o : ByteArray × Bool) (s : ByteArray) : ByteArray × Bool := if 65535 < s.size then layP o ⟨#[]⟩ false else layP o (bigB (s.size : Int) 2 ++ s) true
def doneP (o : ByteArray × Bool) : Value := if o.2 then .tuple #[.string ⟨#[]⟩, .int .i64 1] else .tuple #[.string o.1, .int .i64 0]
set_option maxHeartbeats 1000000 in
theorem rdone_any (o : ByteArray × Bool) (w : World) :
    Calls Tryz.prog 95 #[outV o] w fun e w' => e = .returned (doneP o) ∧ Below w.heap.size w w' := by
  obtain ⟨S, b⟩ := o
  show Calls Tryz.prog _ #[.agg #[.string S, .bool b]] w _
  cases b with
  | true =>
    go_enter Tryz.func95, Tryz.ntmps95
    go_wp2
    go_ret2
    exact ⟨rfl, below_new w _⟩
  | false =>
    go_enter Tryz.func95, Tryz.ntmps95
    go_wp2
    go_ret2
    exact ⟨rfl, below_new w _⟩
end Go.Proofs.YtabhkebkbidfhaaGreatDoor
namespace Go.Proofs.YtabhkebkbidfhaaGreatDoor
open Go.RowKit
set_option maxRecDepth 100000
set_option linter.unusedSimpArgs false
def wrongP (i : ByteArray × Int) (e : Int) : ByteArray × Int := (⟨#[]⟩, if i.2 = 0 then e else i.2)
def accB (s : ByteArray) : Nat → Nat
  | 0 => 0
  | k + 1 => accB s k * 256 + bt s k
theorem accB_lt (s : ByteArray) (k : Nat) : accB s k < 256 ^ k := by
  induction k with
  | zero => show 0 < 1; omega
  | succ k ih =>
    show accB s k * 256 + bt s k < _
    have := bt_lt s k
    rw [Nat.pow_succ]; omega
def numberP (i : ByteArray × Int) (many : Nat) : (ByteArray × Int) × Nat := if i.2 ≠ 0 ∨ i.1.size < many then (wrongP i 90, 0) else ((i.1.extract many i.1.size, i.2), accB i.1 many)
theorem or256 (X y : Nat) (hX : X < 281474976710656) (hy : y < 256) : bits .or .i64 ((X : Int) * 256) (y : Int) = ((X * 256 + y : Nat) : Int) := by
  have e : (X : Int) * 256 = ((X * 256 : Nat) : Int) := by simp
  rw [e, i64_or_nat _ _ (by omega) (by omega)]
  have h := Nat.two_pow_add_eq_or_of_lt (i := 8) (b := y) (by omega) X
  rw [show X * 256 = 2 ^ 8 * X by omega, ← h]
end Go.Proofs.YtabhkebkbidfhaaGreatDoor
namespace Go.Proofs.YtabhkebkbidfhaaGreatDoor
open Go.RowKit
set_option maxRecDepth 100000
set_option linter.unusedSimpArgs false
def inNumP (i : ByteArray × Int) : (ByteArray × Int) × Nat := if 1099511627775 < (numberP i 6).2 then (wrongP (numberP i 6).1 91, 0) else numberP i 6
end Go.Proofs.YtabhkebkbidfhaaGreatDoor
namespace Go.Proofs.YtabhkebkbidfhaaGreatDoor
open Go.RowKit
set_option maxRecDepth 100000
set_option linter.unusedSimpArgs false
end Go.Proofs.YtabhkebkbidfhaaGreatDoor
namespace Go.Proofs.YtabhkebkbidfhaaGreatDoor
open Go.RowKit
set_option maxRecDepth 100000
set_option linter.unusedSimpArgs false
end Go.Proofs.YtabhkebkbidfhaaGreatDoor
namespace Go.Proofs.YtabhkebkbidfhaaGreatDoor
open Go.RowKit
set_option maxRecDepth 100000
set_option linter.unusedSimpArgs false
def stampOk (t u : Int) : Bool := oneOk t 1099511627775 && oneOk u 255
def stampP (o : ByteArray × Bool) (t u : Int) : ByteArray × Bool := layP o (bigB t 6 ++ bigB u 1) (stampOk t u)
end Go.Proofs.YtabhkebkbidfhaaGreatDoor
namespace Go.Proofs.YtabhkebkbidfhaaGreatDoor
open Go.RowKit
set_option maxRecDepth 100000
set_option linter.unusedSimpArgs false
end Go.Proofs.YtabhkebkbidfhaaGreatDoor
namespace Go.Proofs.YtabhkebkbidfhaaGreatDoor
open Go.RowKit
set_option maxRecDepth 100000
set_option linter.unusedSimpArgs false
end Go.Proofs.YtabhkebkbidfhaaGreatDoor
namespace Go.Proofs.YtabhkebkbidfhaaGreatDoor
open Go.RowKit
set_option maxRecDepth 100000
set_option linter.unusedSimpArgs false
theorem bt_bigB (N many j : Nat) (hj : j < many) : bt (bigB (N : Int) many) j = N / 256 ^ (many - 1 - j) % 256 := by
  unfold bigB
  rw [bt_bytesOf _ _ _ hj (bigF_lt _ _ _)]
  unfold bigF
  have e : (2 : Int) ^ (8 * (many - 1 - j)) = ((256 ^ (many - 1 - j) : Nat) : Int) := by
    rw [show (256 : Nat) = 2 ^ 8 by decide, ← Nat.pow_mul]; simp
  rw [e]
  generalize 256 ^ (many - 1 - j) = P
  have : (N : Int) / (P : Int) % 256 = ((N / P % 256 : Nat) : Int) := by simp
  rw [this, Int.toNat_natCast]
theorem accB_congr (s t : ByteArray) (k : Nat) (h : ∀ j, j < k → bt s j = bt t j) : accB s k = accB t k := by
  induction k with
  | zero => rfl
  | succ k ih =>
    show accB s k * 256 + bt s k = accB t k * 256 + bt t k
    rw [ih (fun j hj => h j (by omega)), h k (by omega)]
theorem accB_big_to (N many k : Nat) (hk : k ≤ many) (hN : N < 256 ^ many) : accB (bigB (N : Int) many) k = N / 256 ^ (many - k) := by
  induction k with
  | zero => exact (Nat.div_eq_of_lt hN).symm
  | succ k ih =>
    show accB _ k * 256 + bt _ k = _
    rw [ih (by omega), bt_bigB N many k (by omega), show many - k = (many - (k + 1)) + 1 by omega, Nat.pow_succ, ← Nat.div_div_eq_div_mul, show many - 1 - k = many - (k + 1) by omega]
    generalize N / 256 ^ (many - (k + 1)) = M
    omega
theorem accB_big (N many : Nat) (hN : N < 256 ^ many) : accB (bigB (N : Int) many) many = N := by
  rw [accB_big_to N many many (Nat.le_refl _) hN, Nat.sub_self]
  simp
def PreB (t u : ByteArray) : Prop := t.size ≤ u.size ∧ ∀ j, j < t.size → bt t j = bt u j
theorem PreB.refl (t : ByteArray) : PreB t t := ⟨Nat.le_refl _, fun _ _ => rfl⟩
theorem PreB.cut (u : ByteArray) (n : Nat) (h : n ≤ u.size) : PreB (u.extract 0 n) u := by
  have e : (u.extract 0 n).size = n := by rw [ByteArray.size_extract]; omega
  exact ⟨by omega, fun j hj => by rw [bt_extract _ 0 n j (by omega) h, Nat.zero_add]⟩
theorem PreB.whole {t u : ByteArray} (h : PreB t u) (e : t.size = u.size) : t = u := bt_ext _ _ e (fun i hi => h.2 i hi)
theorem PreB.left {t E T : ByteArray} (h : PreB t (E ++ T)) (j : Nat) (hj : j < t.size) (hE : j < E.size) : bt t j = bt E j := by
  rw [h.2 j hj, bt_append_left _ _ _ hE]
theorem PreB.rest {t E T : ByteArray} (h : PreB t (E ++ T)) (n : Nat) (hE : E.size = n) (hn : n ≤ t.size) : PreB (t.extract n t.size) T := by
  have h1 := h.1
  rw [ByteArray.size_append] at h1
  have e : (t.extract n t.size).size = t.size - n := by rw [ByteArray.size_extract]; omega
  refine ⟨by omega, fun j hj => ?_⟩
  rw [bt_extract _ n t.size j (by omega) (Nat.le_refl _), h.2 _ (by omega), ← hE, bt_append_right]
theorem number_pre (t T : ByteArray) (N many : Nat) (hN : N < 256 ^ many) (h : PreB t (bigB (N : Int) many ++ T)) :
    (t.size < many ∧ numberP (t, 0) many = ((⟨#[]⟩, 90), 0)) ∨ (many ≤ t.size ∧ numberP (t, 0) many = ((t.extract many t.size, 0), N) ∧ PreB (t.extract many t.size) T) := by
  unfold numberP
  by_cases hm : t.size < many
  · left
    refine ⟨hm, ?_⟩
    rw [if_pos (Or.inr hm)]; rfl
  · right
    refine ⟨by omega, ?_, h.rest many (bigB_size _ _) (by omega)⟩
    rw [if_neg (by rintro (h | h); exact h rfl; exact hm h)]
    show ((t.extract many t.size, (0 : Int)), accB t many) = _
    rw [accB_congr t (bigB (N : Int) many) many (fun j hj => h.left j (by omega) (by rw [bigB_size]; exact hj)), accB_big N many hN]
def kd (p : Int × Int × Int × ByteArray) : Int := p.1
def pn (p : Int × Int × Int × ByteArray) : Int := p.2.1
def pm (p : Int × Int × Int × ByteArray) : Int := p.2.2.1
def ps (p : Int × Int × Int × ByteArray) : ByteArray := p.2.2.2
def encP (p : Int × Int × Int × ByteArray) : ByteArray :=
  if kd p = 1 then bigB (pn p) 1 else if kd p = 2 then bigB (pn p) 6 else if kd p = 3 then bigB (pn p) 6 ++ bigB (pm p) 1 else bigB ((ps p).size : Int) 2 ++ ps p
def okP (p : Int × Int × Int × ByteArray) : Bool :=
  if kd p = 1 then oneOk (pn p) 255 else if kd p = 2 then oneOk (pn p) 1099511627775 else if kd p = 3 then stampOk (pn p) (pm p) else decide ((ps p).size ≤ 65535)
def writeP (o : ByteArray × Bool) (p : Int × Int × Int × ByteArray) : ByteArray × Bool :=
  if kd p = 1 then numP o (pn p) 1 255 else if kd p = 2 then numP o (pn p) 6 1099511627775 else if kd p = 3 then stampP o (pn p) (pm p) else textP o (ps p)
theorem layP_no (o : ByteArray × Bool) (s t : ByteArray) : layP o s false = layP o t false := by
  unfold layP
  rw [if_neg (fun h => by cases h.1), if_neg (fun h => by cases h.1)]
theorem writeP_eq (o : ByteArray × Bool) (p : Int × Int × Int × ByteArray) : writeP o p = layP o (encP p) (okP p) := by
  unfold writeP encP okP
  split
  · rfl
  · split
    · rfl
    · split
      · rfl
      · unfold textP
        split
        · next h => rw [decide_eq_false (by omega)]; exact layP_no _ _ _
        · next h => rw [decide_eq_true (by omega)]
def encA : List (Int × Int × Int × ByteArray) → ByteArray
  | [] => ByteArray.empty
  | p :: l => encP p ++ encA l
def writeA (o : ByteArray × Bool) (l : List (Int × Int × Int × ByteArray)) : ByteArray × Bool := l.foldl writeP o
theorem writeA_bad (S : ByteArray) (l : List (Int × Int × Int × ByteArray)) : writeA (S, true) l = (S, true) := by
  induction l with
  | nil => rfl
  | cons p l ih =>
    show writeA (writeP (S, true) p) l = _
    rw [writeP_eq]
    unfold layP
    rw [if_neg (fun h => by cases h.2.1)]
    exact ih
theorem writeA_ok (S : ByteArray) (l : List (Int × Int × Int × ByteArray)) (h : (writeA (S, false) l).2 = false) : (∀ p ∈ l, okP p = true) ∧ (writeA (S, false) l).1 = S ++ encA l := by
  induction l generalizing S with
  | nil =>
    refine ⟨fun p hp => (by cases hp), ?_⟩
    show S = S ++ ByteArray.empty
    apply bytes_ext
    rw [ByteArray.data_append, Array.toList_append]
    exact (List.append_nil _).symm
  | cons p l ih =>
    have e : writeA (S, false) (p :: l) = writeA (layP (S, false) (encP p) (okP p)) l := by
      show writeA (writeP (S, false) p) l = _
      rw [writeP_eq]
    rw [e] at h ⊢
    by_cases hc : okP p = true ∧ false = false ∧ S.size + (encP p).size ≤ 65536
    · have e2 : layP (S, false) (encP p) (okP p) = (S ++ encP p, false) := by unfold layP; exact if_pos hc
      rw [e2] at h ⊢
      obtain ⟨h1, h2⟩ := ih _ h
      refine ⟨fun q hq => ?_, ?_⟩
      · rcases List.mem_cons.1 hq with rfl | hq
        · exact hc.1
        · exact h1 q hq
      · rw [h2, ByteArray.append_assoc]; rfl
    · have e2 : layP (S, false) (encP p) (okP p) = (S, true) := by unfold layP; exact if_neg hc
      rw [e2, writeA_bad] at h
      cases h
end Go.Proofs.YtabhkebkbidfhaaGreatDoor
namespace Go.Proofs.YtabhkebkbidfhaaGreatDoor
open Go.RowKit
set_option maxRecDepth 100000
set_option linter.unusedSimpArgs false
theorem inNum_pre (t T : ByteArray) (N : Nat) (hN : N ≤ 1099511627775) (h : PreB t (bigB (N : Int) 6 ++ T)) :
    (t.size < 6 ∧ inNumP (t, 0) = ((⟨#[]⟩, 90), 0)) ∨ (6 ≤ t.size ∧ inNumP (t, 0) = ((t.extract 6 t.size, 0), N) ∧ PreB (t.extract 6 t.size) T) := by
  unfold inNumP
  rcases number_pre t T N 6 (Nat.lt_of_le_of_lt hN (by decide)) h with ⟨h1, h2⟩ | ⟨h1, h2, h3⟩
  · left; rw [h2]; exact ⟨h1, rfl⟩
  · right; rw [h2]
    exact ⟨h1, if_neg (by show ¬ 1099511627775 < N; omega), h3⟩
theorem append_mid (a b c : ByteArray) : (a ++ b) ++ c = a ++ (b ++ c) := ByteArray.append_assoc
theorem oneOk_nat (n most : Int) (h : oneOk n most = true) : ∃ N : Nat, n = (N : Int) ∧ (N : Int) ≤ most := by
  unfold oneOk at h
  rw [Bool.and_eq_true, decide_eq_true_iff, decide_eq_true_iff] at h
  exact ⟨n.toNat, by omega, by omega⟩
end Go.Proofs.YtabhkebkbidfhaaGreatDoor
