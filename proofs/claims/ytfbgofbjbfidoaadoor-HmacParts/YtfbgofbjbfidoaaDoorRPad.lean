import Derived.Test.YtfbgofbjbfidoaaDoorShaPad
namespace Go.Proofs.YtfbgofbjbfidoaaDoor
open Go.RowKit
set_option linter.unusedSimpArgs false

def lenV : Value → Nat
  | .slice _ n _ => n
  | _ => 0
theorem ownV_lit (w : World) (e : TypeId) (K : IntKind) (y : Int) : OwnV (w.alloc (.cells #[.int K y] e)) w.heap.size e K (.slice (some ⟨w.heap.size, 0, none⟩) 1 1) 1 [y] :=
  ⟨rfl, .inr ⟨w.heap.size, 1, #[.int K y], rfl, Nat.le_refl _, heap_alloc_last w _, Nat.le_refl _, by unfold maxLen; omega, rfl, rfl⟩⟩
theorem OwnV.below {w w' : World} {B n : Nat} {e : TypeId} {K : IntKind} {v : Value} {l : List Int} (h : OwnV w B e K v n l) (hb : Below w.heap.size w w') : OwnV w' B e K v n l := by
  refine ⟨h.1, ?_⟩
  rcases h.2 with h0 | ⟨g, cap, cur, hv, hB, hg, hr⟩
  · exact .inl h0
  · exact .inr ⟨g, cap, cur, hv, hB, by rw [hb.block g (Array.getElem?_eq_some_iff.1 hg).1]; exact hg, hr⟩
theorem OwnV.alloc {w : World} {B n : Nat} {e : TypeId} {K : IntKind} {v : Value} {l : List Int} (h : OwnV w B e K v n l) (o : Obj) : OwnV (w.alloc o) B e K v n l := World.ownsRow.alloc h o
/-- The first bytes of what stands behind a text. -/
def headL (k : Nat) : List UInt8 := 128 :: List.replicate k 0
theorem headL_snoc (k : Nat) : nums (headL k) ++ [0] = nums (headL (k + 1)) := by
  simp [nums, headL, List.replicate_succ']
theorem headL_length (k : Nat) : (headL k).length = k + 1 := by simp [headL]
theorem lenL_mod (n : Nat) : putL [8 * (n : Int) / 4294967296, 8 * (n : Int) % 4294967296] bsh = lenL n := by
  rw [← lenL_int]
  unfold putL bytesOf
  apply List.map_congr_left
  intro i hi
  have hi' : i < 8 := List.mem_range.1 hi
  have e : pb [8 * (n : Int) / 4294967296, 8 * (n : Int) % 4294967296] bsh i = pb [8 * (n : Int) / 4294967296, 8 * (n : Int)] bsh i := by
    rcases (show i = 0 ∨ i = 1 ∨ i = 2 ∨ i = 3 ∨ i = 4 ∨ i = 5 ∨ i = 6 ∨ i = 7 by omega) with rfl | rfl | rfl | rfl | rfl | rfl | rfl | rfl <;>
      simp [pb, bsh] <;> omega
  rw [e]
theorem rpad_bytes (n : Nat) : (⟨(headL (zerosN n)).toArray⟩ : ByteArray) ++ ⟨(lenL n).toArray⟩ = padB n := by
  apply bytes_ext
  simp [padB, padL, headL]

set_option maxRecDepth 100000 in
set_option maxHeartbeats 4000000 in
theorem rpad_ok (n : Nat) (w : World) (hn : n ≤ 1125899906842624) :
    Calls Tryd.prog 21 #[.int .i64 (n : Int)] w fun e w' => e = .returned (.tuple #[.string (padB n), .int .i64 0]) ∧ Below w.heap.size w w' := by
  have h0 : decide ((n : Int) < 0) = false := by simp
  have h1 : decide ((1125899906842624 : Int) < (n : Int)) = false := by simp; omega
  obtain ⟨z, hz⟩ : ∃ z, z = zerosN n := ⟨_, rfl⟩
  have hz63 : z ≤ 63 := by rw [hz]; unfold zerosN; omega
  have hzm : (n + 9 + z) % 64 = 0 := by rw [hz]; unfold zerosN; omega
  have HZ : Hid (z = zerosN n) := hz
  have HZM : Hid ((n + 9 + z) % 64 = 0) := hzm
  clear hz hzm
  obtain ⟨i0, hi, hz0, hz1, hz2⟩ := info_parts Tryd.info5
  go_enter Tryd.func21, Tryd.ntmps21
  go_wp2_with fail
  go_loopw [4] (fun v wr => ∃ k m : Nat, k ≤ z ∧ Hid (m = k + 1) ∧ OwnV wr w.heap.size 5 .u8 v m (nums (headL k)) ∧ Below w.heap.size w wr) (fun v _ => 100 - lenV v)
  case atStart => exact ⟨0, 1, by omega, rfl, ownV_lit w _ _ _, below_new _ _⟩
  case round =>
    obtain ⟨k, m, hk, HM, hown, hbl⟩ := hrel
    have hm : m ≤ 64 := by have := HM.out; omega
    have hm1 : 1 ≤ m := by have := HM.out; omega
    obtain ⟨g, c, rfl, hc⟩ := hown.at (by omega)
    clear hc
    have hsz := hbl.size
    by_cases hlt : k < z
    · have ht : ((((n : Int) + (m : Int) + 8) % 64) != 0) = true := by
        rw [bne_iff_ne]; have h1 := HM.out; have h2 := HZM.out; omega
      go_wp2_with (at_builtin; refine wpList_app1 rfl (.tmp 20) (.tmp 21) 26 rfl w.heap.size 5 i0 .u8 1 Tryd.underlying26 hi hz0 hz1 hz2 _ (.slice (some ⟨g, 0, none⟩) m c) m _ rfl hown _ rfl (by omega) (by omega) hsz ?_)
      intro v1 w1 hown1 hbl1
      rw [headL_snoc] at hown1
      have hbl2 := hbl.trans hbl1
      clear hown hbl hbl1
      obtain ⟨g', c', rfl, hc⟩ := hown1.at (by omega)
      clear hc ht
      go_wp2
      go_roundw
      case rel => exact ⟨k + 1, m + 1, by omega, by have := HM.out; show m + 1 = k + 1 + 1; omega, hown1, hbl2⟩
      case measure => simp [lenV]; omega
    · have hk' : k = z := by omega
      subst hk'
      have ht : ((((n : Int) + (m : Int) + 8) % 64) != 0) = false := by
        rw [bne_eq_false_iff_eq]; have h1 := HM.out; have h2 := HZM.out; omega
      have hm32 := i64_and32 (8 * (n : Int))
      go_wp2_with fail
      clear ht hi hz0 hz1 hz2
      refine wp_region_noPanic ?_
      refine wp_region_held_drew (S := fun w' => OwnV w' w.heap.size 5 .u8 (.slice (some ⟨g, 0, none⟩) m c) m (nums (headL k))) (by kernel_rfl) (by first | exact trivial | assumption | exact ⟨by assumption, by assumption⟩) (fun hHeld => ?_)
      refine take_at (i := 0) (v := ?_) rfl rfl (by kernel_rfl) (by kernel_rfl) (by kernel_rfl) (fun _ _ _ h => h) (Or.inl ⟨by rfl, ?_⟩) (by assumption) ?_
      rotate_left
      · intro w hSw; (try dsimp only at hSw); go_simp; try with_reducible rfl
      try simp only [Act.put, List.setIfInBounds_toArray, List.set_cons_zero, List.set_cons_succ]
      refine take_at (i := 2) (v := ?_) rfl rfl (by kernel_rfl) (by kernel_rfl) (by kernel_rfl) (fun _ _ _ h => h) (Or.inl ⟨by rfl, ?_⟩) (by assumption) ?_
      rotate_left
      · intro w hSw; (try dsimp only at hSw); go_simp; try with_reducible rfl
      try simp only [Act.put, List.setIfInBounds_toArray, List.set_cons_zero, List.set_cons_succ]
      refine take_at (i := 3) (v := ?_) rfl rfl (by kernel_rfl) (by kernel_rfl) (by kernel_rfl) (fun _ _ _ h => h) (Or.inl ⟨by rfl, ?_⟩) (by assumption) ?_
      rotate_left
      · intro w hSw; (try dsimp only at hSw); go_simp; try with_reducible rfl
      try simp only [Act.put, List.setIfInBounds_toArray, List.set_cons_zero, List.set_cons_succ]
      refine take_at (i := 4) (v := ?_) rfl rfl (by kernel_rfl) (by kernel_rfl) (by kernel_rfl) (fun _ _ _ h => h) (Or.inl ⟨by rfl, ?_⟩) (by assumption) ?_
      rotate_left
      · intro w hSw; (try dsimp only at hSw); go_simp; try with_reducible rfl
      try simp only [Act.put, List.setIfInBounds_toArray, List.set_cons_zero, List.set_cons_succ]
      refine take_at (i := 5) (v := ?_) rfl rfl (by kernel_rfl) (by kernel_rfl) (by kernel_rfl) (fun _ _ _ h => h) (Or.inl ⟨by rfl, ?_⟩) (by assumption) ?_
      rotate_left
      · intro w hSw; (try dsimp only at hSw); go_simp; try with_reducible rfl
      try simp only [Act.put, List.setIfInBounds_toArray, List.set_cons_zero, List.set_cons_succ]
      obtain ⟨Hd, HHd⟩ : ∃ Hd : ByteArray, Hid (Hd = ⟨(headL k).toArray⟩) := ⟨_, rfl⟩
      refine take_at (i := 1) (v := .string Hd) rfl rfl (by kernel_rfl) (by kernel_rfl) (by kernel_rfl) (fun _ _ _ h => h) (Or.inl ⟨by rfl, ?_⟩) (by assumption) ?_
      · intro w' hSw
        have hcv := own_conv (P := Tryd.prog) 26 9 hSw Tryd.underlying26 Tryd.underlying5 Tryd.underlying9
        rw [← HHd.out] at hcv
        clear hSw
        go_simp
      try simp only [Act.put, List.setIfInBounds_toArray, List.set_cons_zero, List.set_cons_succ]
      refine wpAnyH_ready (rs := [6]) (by kernel_rfl) (by simp) ?_
      refine AllReadyH.cons rfl (fun K hK => ?_) AllReadyH.nil
      go_simp
      refine hK.out _ _ (hown.alloc _) (fun hHeld => ?_)
      clear hK K
      refine wpAnyH_ready (rs := [7]) (by kernel_rfl) (by simp) ?_
      refine AllReadyH.cons rfl (fun K hK => ?_) AllReadyH.nil
      go_simp
      have hI : IntsAt (wr.alloc (.cells #[.int .i64 (8 * (n : Int) / 4294967296), .int .i64 (8 * (n : Int) % 4294967296)] 3)).drew .i64 (some ⟨wr.heap.size, 0, none⟩) 2 [8 * (n : Int) / 4294967296, 8 * (n : Int) % 4294967296] := ints_alloc wr _ _ 2 _ rfl rfl
      refine (rputBig_any _ 2 _ _ _ (by omega) hI).mono ?_
      rintro e w2 ⟨rfl, hb2⟩
      rw [lenL_mod]
      obtain ⟨L, hL⟩ : ∃ L : ByteArray, L = ⟨(lenL n).toArray⟩ := ⟨_, rfl⟩
      have hs : L.size = 8 := by rw [hL]; exact lenL_size n
      have HL : Hid (Hd ++ L = padB n) := by show _ = _; rw [HHd.out, hL, HZ.out]; exact rpad_bytes n
      have hsh : Hd.size = k + 1 := by rw [HHd.out]; show (headL k).toArray.size = _; rw [List.size_toArray, headL_length]
      have hsum : ¬ (9223372036854775807 < Hd.size + L.size) := by omega
      rw [← hL]
      clear hL hs hsh
      have hown2 : OwnV w2 w.heap.size 5 .u8 (.slice (some ⟨g, 0, none⟩) m c) m (nums (headL k)) := OwnV.below (w := (wr.alloc (.cells #[.int .i64 (8 * (n : Int) / 4294967296), .int .i64 (8 * (n : Int) % 4294967296)] 3)).drew) (hown.alloc _) hb2
      have hB2 : Below w.heap.size w w2 := below_step (hbl.alloc (by omega) _).drew (Nat.le_refl _) hb2
      refine hK.out _ _ hown2 (fun hHeld => ?_)
      clear hK K
      refine take_at (i := 8) (v := ?_) rfl rfl (by kernel_rfl) (by kernel_rfl) (by kernel_rfl) (fun _ _ _ h => h) (Or.inl ⟨by rfl, ?_⟩) (by assumption) ?_
      rotate_left
      · intro w hSw; (try dsimp only at hSw); go_simp; try with_reducible rfl
      try simp only [Act.put, List.setIfInBounds_toArray, List.set_cons_zero, List.set_cons_succ]
      refine take_at (i := 9) (v := ?_) rfl rfl (by kernel_rfl) (by kernel_rfl) (by kernel_rfl) (fun _ _ _ h => h) (Or.inl ⟨by rfl, ?_⟩) (by assumption) ?_
      rotate_left
      · intro w hSw; (try dsimp only at hSw); go_simp; try with_reducible rfl
      try simp only [Act.put, List.setIfInBounds_toArray, List.set_cons_zero, List.set_cons_succ]
      refine take_at (i := 10) (v := ?_) rfl rfl (by kernel_rfl) (by kernel_rfl) (by kernel_rfl) (fun _ _ _ h => h) (Or.inl ⟨by rfl, ?_⟩) (by assumption) ?_
      rotate_left
      · intro w hSw; (try dsimp only at hSw); go_simp; try with_reducible rfl
      try simp only [Act.put, List.setIfInBounds_toArray, List.set_cons_zero, List.set_cons_succ]
      refine wpAnyH_done (by kernel_rfl) (NoPanic.normal ?_) _
      rw [HL.out]
      go_wp2
      go_ret2
      exact ⟨rfl, hB2⟩
end Go.Proofs.YtfbgofbjbfidoaaDoor
