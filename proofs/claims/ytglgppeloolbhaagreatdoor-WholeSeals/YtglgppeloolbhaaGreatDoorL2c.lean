import Derived.Test.YtglgppeloolbhaaGreatDoorL2b
import Derived.Test.YtglgppeloolbhaaGreatDoorL2a
import Derived.Deep.MidRow
import Derived.Test.YtglgppeloolbhaaGreatDoorRows
import Derived.Lib.LaidTab
import Derived.MakeChecks
import Derived.Stop.LaidErr
import Derived.Test.YtglgppeloolbhaaGreatDoorShelf
namespace Go.Proofs.YtglgppeloolbhaaGreatDoor
open Go.RowKit
set_option maxRecDepth 100000
set_option linter.unusedSimpArgs false

end Go.Proofs.YtglgppeloolbhaaGreatDoor

namespace Go.Proofs.YtglgppeloolbhaaGreatDoor
open Go.RowKit
set_option maxRecDepth 100000
set_option linter.unusedSimpArgs false

end Go.Proofs.YtglgppeloolbhaaGreatDoor

namespace Go.Proofs.YtglgppeloolbhaaGreatDoor
open Go.RowKit
set_option maxRecDepth 100000

theorem Tryz.gB : Tryz.prog.globalNamed "samphire/sha.beginning" = some 1 := by kernel_rfl
theorem Tryz.gK : Tryz.prog.globalNamed "samphire/sha.constants" = some 3 := by kernel_rfl
theorem Tryz.tB : (Tryz.prog.globals[1]?).map (·.type) = some 75 := by kernel_rfl
theorem Tryz.tK : (Tryz.prog.globals[3]?).map (·.type) = some 101 := by kernel_rfl
theorem Tryz.cellsE : Tryz.prog.cellsOf 74 = 1 := by kernel_rfl
theorem Tryz.cellsB : Tryz.prog.cellsOf 75 = 8 := by kernel_rfl
theorem Tryz.cellsK : Tryz.prog.cellsOf 101 = 64 := by kernel_rfl
theorem datumB : (Rows.laid_samphire_sha_beginning : DataW Unit) = Lib.tabData .u32 (ints bN) := by kernel_rfl
theorem datumK : (Rows.laid_samphire_sha_constants : DataW Unit) = Lib.tabData .u32 (ints kN) := by kernel_rfl

theorem globB_of {W : World} {rest : List (String × DataW Unit)} (h : laidMet Tryz.prog (("samphire/sha.beginning", Rows.laid_samphire_sha_beginning) :: rest) W) : GlobB W := by
  rw [datumB] at h
  have hT := Lib.tabIs_of_head Tryz.gB Tryz.tB Tryz.underlying75 Tryz.underlying74 Tryz.cellsE Tryz.cellsB h
  intro j hj
  rw [hT.cell Tryz.gB j (by rw [ints_length]; exact hj), ints_getD]
theorem globK_of {W : World} {rest : List (String × DataW Unit)} (h : laidMet Tryz.prog (("samphire/sha.constants", Rows.laid_samphire_sha_constants) :: rest) W) : GlobK W := by
  rw [datumK] at h
  have hT := Lib.tabIs_of_head Tryz.gK Tryz.tK Tryz.underlying101 Tryz.underlying74 Tryz.cellsE Tryz.cellsK h
  intro j hj
  rw [hT.cell Tryz.gK j (by rw [ints_length]; exact hj), ints_getD]
end Go.Proofs.YtglgppeloolbhaaGreatDoor

namespace Go.Proofs.YtglgppeloolbhaaGreatDoor
open Go.RowKit
set_option maxRecDepth 100000
set_option linter.unusedSimpArgs false

theorem repeat_any (c : Nat) (w : World) (hc : c ≤ 63) :
    Calls Tryz.prog 79 #[.string ⟨#[0]⟩, .int .i64 c] w fun e w' => e = .returned (.string ⟨(List.replicate c (0 : UInt8)).toArray⟩) ∧ Below w.heap.size w w' := by
  refine (Tryz.strings_Repeat ⟨#[0]⟩ c w (by omega) (by show 1 * c ≤ _; omega)).mono ?_
  rintro e w' ⟨rfl, hb⟩
  refine ⟨?_, hb⟩
  have := Lib.repeatL_replicate 0 1 c
  simp at this
  show Ending.returned (.string ⟨(Lib.repeatL [0] c).toArray⟩) = _
  rw [this]

theorem lenL_int (n : Nat) : putL [8 * (n : Int) / 4294967296, 8 * (n : Int)] bsh = lenL n := by
  unfold lenL
  rw [show 8 * (n : Int) / 4294967296 = ((8 * n / 4294967296 : Nat) : Int) by omega, show 8 * (n : Int) = ((8 * n : Nat) : Int) by omega]
theorem lenL_length (n : Nat) : (lenL n).length = 8 := by unfold lenL; rw [putL_length]; rfl
theorem lenL_size (n : Nat) : (⟨(lenL n).toArray⟩ : ByteArray).size = 8 := by
  show (lenL n).toArray.size = 8
  rw [List.size_toArray, lenL_length]
theorem pad_bytes (n : Nat) : (⟨#[128]⟩ : ByteArray) ++ ⟨Array.replicate (zerosN n) 0⟩ ++ ⟨(lenL n).toArray⟩ = padB n := by
  apply bytes_ext
  simp [padB, padL]

set_option maxHeartbeats 2000000 in
theorem pad_ok (n : Nat) (w : World) (hn : n ≤ 1125899906842624) :
    Calls Tryz.prog 60 #[.int .i64 (n : Int)] w fun e w' => e = .returned (.tuple #[.string (padB n), .int .i64 0]) ∧ Below w.heap.size w w' := by
  have h0 : decide ((n : Int) < 0) = false := by simp
  have h1 : decide ((1125899906842624 : Int) < (n : Int)) = false := by simp; omega
  have hz : zerosN n ≤ 63 := by unfold zerosN; omega
  go_enter Tryz.func60, Tryz.ntmps60
  go_wp2_with fail
  rw [show (-(((n : Int) + 1 + 8) % 64) % 64 : Int) = ((zerosN n : Nat) : Int) by unfold zerosN; omega]
  refine (repeat_any _ _ hz).mono ?_
  rintro e w1 ⟨rfl, hb1⟩
  go_wp2_with fail
  refine (putBig_any _ 2 _ [8 * (n : Int) / 4294967296, 8 * (n : Int)] _ (by omega) (ints_alloc _ _ _ 2 _ rfl rfl)).mono ?_
  rintro e w2 ⟨rfl, hb2⟩
  rw [lenL_int]
  obtain ⟨L, hL⟩ : ∃ L : ByteArray, L = ⟨(lenL n).toArray⟩ := ⟨_, rfl⟩
  have hs : L.size = 8 := by rw [hL]; exact lenL_size n
  have HL : Hid (⟨#[128]⟩ ++ ⟨Array.replicate (zerosN n) 0⟩ ++ L = padB n) := by show _ = _; rw [hL]; exact pad_bytes n
  rw [← hL]
  clear hL
  go_wp2_with fail
  rw [HL.out]
  go_ret2
  exact ⟨rfl, below_step (below_step hb1 (Nat.le_refl _) (below_new _ _)) (Nat.le_refl _) hb2⟩
end Go.Proofs.YtglgppeloolbhaaGreatDoor

namespace Go.Proofs.YtglgppeloolbhaaGreatDoor
open Go.RowKit
set_option maxRecDepth 100000
set_option linter.unusedSimpArgs false

def lenV : Value → Nat
  | .slice _ n _ => n
  | _ => 0
theorem ownV_lit (w : World) (e : TypeId) (K : IntKind) (y : Int) : OwnV (w.alloc (.cells #[.int K y] e)) w.heap.size e K (.slice (some ⟨w.heap.size, 0, none⟩) 1 1) 1 [y] :=
  ⟨rfl, .inr ⟨w.heap.size, 1, #[.int K y], rfl, Nat.le_refl _, heap_alloc_last w _, Nat.le_refl _, by unfold maxLen; omega, rfl, rfl⟩⟩
theorem OwnV.below {w w' : World} {B n : Nat} {e : TypeId} {K : IntKind} {v : Value} {l : List Int} (h : OwnV w B e K v n l) (hb : Below w.heap.size w w') : OwnV w' B e K v n l := by
  refine ⟨h.1, ?_⟩
  rcases h.2 with h0 | ⟨g, cap, cur, hv, hB, hg, hr⟩
  · exact .inl h0
  · exact .inr ⟨g, cap, cur, hv, hB, by rw [hb.block g (Array.getElem?_eq_some_iff.1 hg).1]; exact hg, hr⟩
theorem OwnV.alloc {w : World} {B n : Nat} {e : TypeId} {K : IntKind} {v : Value} {l : List Int} (h : OwnV w B e K v n l) (o : Obj) : OwnV (w.alloc o) B e K v n l := World.ownsRow.alloc h o
/-- The first bytes of what stands behind a text. -/
def headL (k : Nat) : List UInt8 := 128 :: List.replicate k 0
theorem headL_snoc (k : Nat) : nums (headL k) ++ [0] = nums (headL (k + 1)) := by
  simp [nums, headL, List.replicate_succ']
theorem headL_length (k : Nat) : (headL k).length = k + 1 := by simp [headL]
theorem lenL_mod (n : Nat) : putL [8 * (n : Int) / 4294967296, 8 * (n : Int) % 4294967296] bsh = lenL n := by
  rw [← lenL_int]
  unfold putL bytesOf
  apply List.map_congr_left
  intro i hi
  have hi' : i < 8 := List.mem_range.1 hi
  have e : pb [8 * (n : Int) / 4294967296, 8 * (n : Int) % 4294967296] bsh i = pb [8 * (n : Int) / 4294967296, 8 * (n : Int)] bsh i := by
    rcases (show i = 0 ∨ i = 1 ∨ i = 2 ∨ i = 3 ∨ i = 4 ∨ i = 5 ∨ i = 6 ∨ i = 7 by omega) with rfl | rfl | rfl | rfl | rfl | rfl | rfl | rfl <;>
      simp [pb, bsh] <;> omega
  rw [e]
theorem rpad_bytes (n : Nat) : (⟨(headL (zerosN n)).toArray⟩ : ByteArray) ++ ⟨(lenL n).toArray⟩ = padB n := by
  apply bytes_ext
  simp [padB, padL, headL]

set_option maxRecDepth 100000 in
set_option maxHeartbeats 4000000 in
theorem rpad_ok (n : Nat) (w : World) (hn : n ≤ 1125899906842624) :
    Calls Tryz.prog 76 #[.int .i64 (n : Int)] w fun e w' => e = .returned (.tuple #[.string (padB n), .int .i64 0]) ∧ Below w.heap.size w w' := by
  have h0 : decide ((n : Int) < 0) = false := by simp
  have h1 : decide ((1125899906842624 : Int) < (n : Int)) = false := by simp; omega
  obtain ⟨z, hz⟩ : ∃ z, z = zerosN n := ⟨_, rfl⟩
  have hz63 : z ≤ 63 := by rw [hz]; unfold zerosN; omega
  have hzm : (n + 9 + z) % 64 = 0 := by rw [hz]; unfold zerosN; omega
  have HZ : Hid (z = zerosN n) := hz
  have HZM : Hid ((n + 9 + z) % 64 = 0) := hzm
  clear hz hzm
  obtain ⟨i0, hi, hz0, hz1, hz2⟩ := info_parts Tryz.info5
  go_enter Tryz.func76, Tryz.ntmps76
  go_wp2_with fail
  go_loopw [4] (fun v wr => ∃ k m : Nat, k ≤ z ∧ Hid (m = k + 1) ∧ OwnV wr w.heap.size 5 .u8 v m (nums (headL k)) ∧ Below w.heap.size w wr) (fun v _ => 100 - lenV v)
  case atStart => exact ⟨0, 1, by omega, rfl, ownV_lit w _ _ _, below_new _ _⟩
  case round =>
    obtain ⟨k, m, hk, HM, hown, hbl⟩ := hrel
    have hm : m ≤ 64 := by have := HM.out; omega
    have hm1 : 1 ≤ m := by have := HM.out; omega
    obtain ⟨g, c, rfl, hc⟩ := hown.at (by omega)
    clear hc
    have hsz := hbl.size
    by_cases hlt : k < z
    · have ht : ((((n : Int) + (m : Int) + 8) % 64) != 0) = true := by
        rw [bne_iff_ne]; have h1 := HM.out; have h2 := HZM.out; omega
      go_wp2_with (at_builtin; refine wpList_app1 rfl (.tmp 20) (.tmp 21) 35 rfl w.heap.size 5 i0 .u8 1 Tryz.underlying35 hi hz0 hz1 hz2 _ (.slice (some ⟨g, 0, none⟩) m c) m _ rfl hown _ rfl (by omega) (by omega) hsz ?_)
      intro v1 w1 hown1 hbl1
      rw [headL_snoc] at hown1
      have hbl2 := hbl.trans hbl1
      clear hown hbl hbl1
      obtain ⟨g', c', rfl, hc⟩ := hown1.at (by omega)
      clear hc ht
      go_wp2
      go_roundw
      case rel => exact ⟨k + 1, m + 1, by omega, by have := HM.out; show m + 1 = k + 1 + 1; omega, hown1, hbl2⟩
      case measure => simp [lenV]; omega
    · have hk' : k = z := by omega
      subst hk'
      have ht : ((((n : Int) + (m : Int) + 8) % 64) != 0) = false := by
        rw [bne_eq_false_iff_eq]; have h1 := HM.out; have h2 := HZM.out; omega
      have hm32 := i64_and32 (8 * (n : Int))
      go_wp2_with fail
      clear ht hi hz0 hz1 hz2
      refine wp_region_noPanic ?_
      refine wp_region_held_drew (S := fun w' => OwnV w' w.heap.size 5 .u8 (.slice (some ⟨g, 0, none⟩) m c) m (nums (headL k))) (by kernel_rfl) (by first | exact trivial | assumption | exact ⟨by assumption, by assumption⟩) (fun hHeld => ?_)
      refine take_at (i := 0) (v := ?_) rfl rfl (by kernel_rfl) (by kernel_rfl) (by kernel_rfl) (fun _ _ _ h => h) (Or.inl ⟨by rfl, ?_⟩) (by assumption) ?_
      rotate_left
      · intro w hSw; (try dsimp only at hSw); go_simp; try with_reducible rfl
      try simp only [Act.put, List.setIfInBounds_toArray, List.set_cons_zero, List.set_cons_succ]
      refine take_at (i := 2) (v := ?_) rfl rfl (by kernel_rfl) (by kernel_rfl) (by kernel_rfl) (fun _ _ _ h => h) (Or.inl ⟨by rfl, ?_⟩) (by assumption) ?_
      rotate_left
      · intro w hSw; (try dsimp only at hSw); go_simp; try with_reducible rfl
      try simp only [Act.put, List.setIfInBounds_toArray, List.set_cons_zero, List.set_cons_succ]
      refine take_at (i := 3) (v := ?_) rfl rfl (by kernel_rfl) (by kernel_rfl) (by kernel_rfl) (fun _ _ _ h => h) (Or.inl ⟨by rfl, ?_⟩) (by assumption) ?_
      rotate_left
      · intro w hSw; (try dsimp only at hSw); go_simp; try with_reducible rfl
      try simp only [Act.put, List.setIfInBounds_toArray, List.set_cons_zero, List.set_cons_succ]
      refine take_at (i := 4) (v := ?_) rfl rfl (by kernel_rfl) (by kernel_rfl) (by kernel_rfl) (fun _ _ _ h => h) (Or.inl ⟨by rfl, ?_⟩) (by assumption) ?_
      rotate_left
      · intro w hSw; (try dsimp only at hSw); go_simp; try with_reducible rfl
      try simp only [Act.put, List.setIfInBounds_toArray, List.set_cons_zero, List.set_cons_succ]
      refine take_at (i := 5) (v := ?_) rfl rfl (by kernel_rfl) (by kernel_rfl) (by kernel_rfl) (fun _ _ _ h => h) (Or.inl ⟨by rfl, ?_⟩) (by assumption) ?_
      rotate_left
      · intro w hSw; (try dsimp only at hSw); go_simp; try with_reducible rfl
      try simp only [Act.put, List.setIfInBounds_toArray, List.set_cons_zero, List.set_cons_succ]
      obtain ⟨Hd, HHd⟩ : ∃ Hd : ByteArray, Hid (Hd = ⟨(headL k).toArray⟩) := ⟨_, rfl⟩
      refine take_at (i := 1) (v := .string Hd) rfl rfl (by kernel_rfl) (by kernel_rfl) (by kernel_rfl) (fun _ _ _ h => h) (Or.inl ⟨by rfl, ?_⟩) (by assumption) ?_
      · intro w' hSw
        have hcv := own_conv (P := Tryz.prog) 35 9 hSw Tryz.underlying35 Tryz.underlying5 Tryz.underlying9
        rw [← HHd.out] at hcv
        clear hSw
        go_simp
      try simp only [Act.put, List.setIfInBounds_toArray, List.set_cons_zero, List.set_cons_succ]
      refine wpAnyH_ready (rs := [6]) (by kernel_rfl) (by simp) ?_
      refine AllReadyH.cons rfl (fun K hK => ?_) AllReadyH.nil
      go_simp
      refine hK.out _ _ (hown.alloc _) (fun hHeld => ?_)
      clear hK K
      refine wpAnyH_ready (rs := [7]) (by kernel_rfl) (by simp) ?_
      refine AllReadyH.cons rfl (fun K hK => ?_) AllReadyH.nil
      go_simp
      have hI : IntsAt (wr.alloc (.cells #[.int .i64 (8 * (n : Int) / 4294967296), .int .i64 (8 * (n : Int) % 4294967296)] 3)).drew .i64 (some ⟨wr.heap.size, 0, none⟩) 2 [8 * (n : Int) / 4294967296, 8 * (n : Int) % 4294967296] := ints_alloc wr _ _ 2 _ rfl rfl
      refine (rputBig_any _ 2 _ _ _ (by omega) hI).mono ?_
      rintro e w2 ⟨rfl, hb2⟩
      rw [lenL_mod]
      obtain ⟨L, hL⟩ : ∃ L : ByteArray, L = ⟨(lenL n).toArray⟩ := ⟨_, rfl⟩
      have hs : L.size = 8 := by rw [hL]; exact lenL_size n
      have HL : Hid (Hd ++ L = padB n) := by show _ = _; rw [HHd.out, hL, HZ.out]; exact rpad_bytes n
      have hsh : Hd.size = k + 1 := by rw [HHd.out]; show (headL k).toArray.size = _; rw [List.size_toArray, headL_length]
      have hsum : ¬ (9223372036854775807 < Hd.size + L.size) := by omega
      rw [← hL]
      clear hL hs hsh
      have hown2 : OwnV w2 w.heap.size 5 .u8 (.slice (some ⟨g, 0, none⟩) m c) m (nums (headL k)) := OwnV.below (w := (wr.alloc (.cells #[.int .i64 (8 * (n : Int) / 4294967296), .int .i64 (8 * (n : Int) % 4294967296)] 3)).drew) (hown.alloc _) hb2
      have hB2 : Below w.heap.size w w2 := below_step (hbl.alloc (by omega) _).drew (Nat.le_refl _) hb2
      refine hK.out _ _ hown2 (fun hHeld => ?_)
      clear hK K
      refine take_at (i := 8) (v := ?_) rfl rfl (by kernel_rfl) (by kernel_rfl) (by kernel_rfl) (fun _ _ _ h => h) (Or.inl ⟨by rfl, ?_⟩) (by assumption) ?_
      rotate_left
      · intro w hSw; (try dsimp only at hSw); go_simp; try with_reducible rfl
      try simp only [Act.put, List.setIfInBounds_toArray, List.set_cons_zero, List.set_cons_succ]
      refine take_at (i := 9) (v := ?_) rfl rfl (by kernel_rfl) (by kernel_rfl) (by kernel_rfl) (fun _ _ _ h => h) (Or.inl ⟨by rfl, ?_⟩) (by assumption) ?_
      rotate_left
      · intro w hSw; (try dsimp only at hSw); go_simp; try with_reducible rfl
      try simp only [Act.put, List.setIfInBounds_toArray, List.set_cons_zero, List.set_cons_succ]
      refine take_at (i := 10) (v := ?_) rfl rfl (by kernel_rfl) (by kernel_rfl) (by kernel_rfl) (fun _ _ _ h => h) (Or.inl ⟨by rfl, ?_⟩) (by assumption) ?_
      rotate_left
      · intro w hSw; (try dsimp only at hSw); go_simp; try with_reducible rfl
      try simp only [Act.put, List.setIfInBounds_toArray, List.set_cons_zero, List.set_cons_succ]
      refine wpAnyH_done (by kernel_rfl) (NoPanic.normal ?_) _
      rw [HL.out]
      go_wp2
      go_ret2
      exact ⟨rfl, hB2⟩
end Go.Proofs.YtglgppeloolbhaaGreatDoor

namespace Go.Proofs.YtglgppeloolbhaaGreatDoor
open Go.RowKit
set_option maxRecDepth 100000
set_option linter.unusedSimpArgs false

theorem padB_size (n : Nat) : (padB n).size = 9 + zerosN n := by
  show (padL n).toArray.size = _
  rw [List.size_toArray]
  simp [padL, lenL_length]
  omega
theorem zerosN_mod (n : Nat) : (n + (9 + zerosN n)) % 64 = 0 := by unfold zerosN; omega
theorem zerosN_le (n : Nat) : zerosN n ≤ 63 := by unfold zerosN; omega

end Go.Proofs.YtglgppeloolbhaaGreatDoor

namespace Go.Proofs.YtglgppeloolbhaaGreatDoor
open Go.RowKit
set_option maxRecDepth 100000
set_option linter.unusedSimpArgs false

set_option maxRecDepth 100000 in
set_option maxHeartbeats 4000000 in
theorem behindAll_any (x : List Nat) (s : ByteArray) (w : World) (hx : x.length = 8) (ho : Ok x) (hs : s.size ≤ 1048576) (hK : GlobK w) :
    Calls Tryz.prog 62 #[.agg (vals x), .string s] w fun e w' => e = .returned (.agg (vals (foldN (bt s) x (s.size / 64)))) ∧ Below w.heap.size w w' := by
  have HK : Hid (GlobK w) := hK
  have HL : Hid (∀ k, (foldN (bt s) x k).length = 8) := foldN_length (bt s) x hx
  have HO : Hid (∀ k, Ok (foldN (bt s) x k)) := foldN_ok (bt s) x ho
  have HS : Hid (∀ k, foldN (bt s) x (k + 1) = _) := foldN_succ (bt s) x
  obtain ⟨m, HM⟩ : ∃ m, Hid (m = s.size / 64) := ⟨_, rfl⟩
  have hm : (s.size : Int) / 64 = (m : Int) := by rw [HM.out]; omega
  have hm2 : m ≤ 1048576 := by omega
  obtain ⟨F, HF⟩ : ∃ F : Nat → List Nat, Hid (F = foldN (bt s) x) := ⟨_, rfl⟩
  rw [← HF.out] at HL HO HS
  have HS' : Hid (∀ k, F (k + 1) = behindN (F k) (fun j => bt s (64 * k + j))) := HS
  have H0 : Hid (F 0 = x) := by show _ = _; rw [HF.out]; rfl
  clear hK HS
  go_enter Tryz.func62, Tryz.ntmps62
  go_wp2_with fail
  have V0 : Hid (Arr _ 75 w.heap.size (F 0)) := Arr.cast H0.out.symm <| (Arr.new w 75 x _ rfl).alloc (.cells #[.int .u32 0, .int .u32 0, .int .u32 0, .int .u32 0, .int .u32 0, .int .u32 0, .int .u32 0, .int .u32 0] 75)
  have V1 : Hid (Arr _ 75 (w.heap.size + 1) (tabN 8 (fun _ => 0))) := Arr.new' (w.alloc (.cells (vals x) 75)) 75 (tabN 8 (fun _ => 0)) #[.int .u32 0, .int .u32 0, .int .u32 0, .int .u32 0, .int .u32 0, .int .u32 0, .int .u32 0, .int .u32 0] (w.heap.size + 1) (by simp) (by kernel_rfl)
  have V2 : Below w.heap.size w _ := (below_new w (.cells (vals x) 75)).alloc (by simp) (.cells #[.int .u32 0, .int .u32 0, .int .u32 0, .int .u32 0, .int .u32 0, .int .u32 0, .int .u32 0, .int .u32 0] 75)
  go_loopw [9] (fun i wr => ∃ k : Nat, k ≤ m ∧ i = .int .i64 k ∧ Hid (Arr wr 75 w.heap.size (F k)) ∧ Hid (Arr wr 75 (w.heap.size + 1) (tabN 8 (fun _ => 0))) ∧ Below w.heap.size w wr) (fun i _ => m - (intOf i).toNat)
  case atStart => exact ⟨0, by omega, rfl, V0, V1, V2⟩
  case round =>
    clear V0 V1 V2
    obtain ⟨k, hk, rfl, V0, V1, hbl⟩ := hrel
    by_cases hlt : k < m
    · obtain ⟨p, hp⟩ : ∃ p, p = 64 * k := ⟨_, rfl⟩
      obtain ⟨q, hq⟩ : ∃ q, q = 64 * k + 64 := ⟨_, rfl⟩
      have hms := HM.out
      have hqs : q ≤ s.size := by omega
      have e1 : IntKind.i64.wrap ((k : Int) * 64) = (p : Int) := by rw [i64_small _ (by omega) (by omega)]; omega
      have e2 : IntKind.i64.wrap ((k : Int) + 1) = (k : Int) + 1 := by rw [i64_small _ (by omega) (by omega)]
      have e3 : IntKind.i64.wrap (((k : Int) + 1) * 64) = (q : Int) := by rw [i64_small _ (by omega) (by omega)]; omega
      have b1 : (p : Int) ≤ (q : Int) := by omega
      have b2 : (q : Int) ≤ (s.size : Int) := by omega
      have hes : (s.extract p q).size = 64 := by rw [ByteArray.size_extract]; omega
      have CB : Hid (∀ w, GlobK w → _) := fun w h => behind_any (F k) (s.extract p q) w (HL.out k) (HO.out k) hes h
      have HN : Hid (behindN (F k) (bt (s.extract p q)) = F (k + 1)) := by
        show _ = _
        rw [HS'.out k]
        exact behindN_congr _ _ _ (fun j hj => by rw [bt_extract s p q j (by omega) hqs, hp])
      have hKr : Hid (GlobK wr) := HK.out.below hbl
      clear hms hes hp hq
      have b0 : (k : Int) < (m : Int) := by omega
      go_wp2_with fail
      refine wp_region_noPanic ?_
      refine wp_region_held_drew (S := fun _ => True) (by kernel_rfl) (by first | exact trivial | assumption | exact ⟨by assumption, by assumption⟩) (fun hHeld => ?_)
      refine take_at (i := 1) (v := ?_) rfl rfl (by kernel_rfl) (by kernel_rfl) (by kernel_rfl) (fun _ _ _ h => h) (Or.inl ⟨by rfl, ?_⟩) (by assumption) ?_
      rotate_left
      · intro w hSw; (try dsimp only at hSw); go_simp; try with_reducible rfl
      try simp only [Act.put, List.setIfInBounds_toArray, List.set_cons_zero, List.set_cons_succ]
      refine take_at (i := 2) (v := ?_) rfl rfl (by kernel_rfl) (by kernel_rfl) (by kernel_rfl) (fun _ _ _ h => h) (Or.inl ⟨by rfl, ?_⟩) (by assumption) ?_
      rotate_left
      · intro w hSw; (try dsimp only at hSw); go_simp; try with_reducible rfl
      try simp only [Act.put, List.setIfInBounds_toArray, List.set_cons_zero, List.set_cons_succ]
      refine take_at (i := 3) (v := ?_) rfl rfl (by kernel_rfl) (by kernel_rfl) (by kernel_rfl) (fun _ _ _ h => h) (Or.inl ⟨by rfl, ?_⟩) (by assumption) ?_
      rotate_left
      · intro w hSw; (try dsimp only at hSw); go_simp; try with_reducible rfl
      try simp only [Act.put, List.setIfInBounds_toArray, List.set_cons_zero, List.set_cons_succ]
      refine take_at (i := 4) (v := ?_) rfl rfl (by kernel_rfl) (by kernel_rfl) (by kernel_rfl) (fun _ _ _ h => h) (Or.inl ⟨by rfl, ?_⟩) (by assumption) ?_
      rotate_left
      · intro w hSw; (try dsimp only at hSw); go_simp; try with_reducible rfl
      try simp only [Act.put, List.setIfInBounds_toArray, List.set_cons_zero, List.set_cons_succ]
      refine take_at (i := 5) (v := ?_) rfl rfl (by kernel_rfl) (by kernel_rfl) (by kernel_rfl) (fun _ _ _ h => h) (Or.inl ⟨by rfl, ?_⟩) (by assumption) ?_
      rotate_left
      · intro w hSw; (try dsimp only at hSw); go_simp; try with_reducible rfl
      try simp only [Act.put, List.setIfInBounds_toArray, List.set_cons_zero, List.set_cons_succ]
      refine take_at (i := 6) (v := ?_) rfl rfl (by kernel_rfl) (by kernel_rfl) (by kernel_rfl) (fun _ _ _ h => h) (Or.inl ⟨by rfl, ?_⟩) (by assumption) ?_
      rotate_left
      · intro w hSw; (try dsimp only at hSw); go_simp; try with_reducible rfl
      try simp only [Act.put, List.setIfInBounds_toArray, List.set_cons_zero, List.set_cons_succ]
      refine take_at (i := 7) (v := ?_) rfl rfl (by kernel_rfl) (by kernel_rfl) (by kernel_rfl) (fun _ _ _ h => h) (Or.inl ⟨by rfl, ?_⟩) (by assumption) ?_
      rotate_left
      · intro w hSw; (try dsimp only at hSw); go_simp; try with_reducible rfl
      try simp only [Act.put, List.setIfInBounds_toArray, List.set_cons_zero, List.set_cons_succ]
      refine wpAnyH_ready (rs := [0]) (by kernel_rfl) (by simp) ?_
      refine AllReadyH.cons rfl (fun K hK => ?_) AllReadyH.nil
      refine step_loadArr rfl rfl 75 _ rfl w.heap.size (F k) rfl V0.out 8 74 Tryz.underlying75 (by rw [HL.out]; exact Tryz.arr8) ?_
      refine hK.out _ _ trivial (fun hHeld => ?_)
      clear hK K
      refine wpAnyH_ready (rs := [8]) (by kernel_rfl) (by simp) ?_
      refine AllReadyH.cons rfl (fun K hK => ?_) AllReadyH.nil
      go_simp
      refine (CB.out wr.drew hKr.out).mono ?_
      rintro e w2 ⟨rfl, hb2⟩
      rw [HN.out]
      refine hK.out _ _ trivial (fun hHeld => ?_)
      clear hK K
      refine wpAnyH_ready (rs := [9]) (by kernel_rfl) (by simp) ?_
      refine AllReadyH.cons rfl (fun K hK => ?_) AllReadyH.nil
      have V0' := Arr.below (w := wr.drew) V0.out hb2 V0.out.lt
      have V1' := Arr.below (w := wr.drew) V1.out hb2 V1.out.lt
      have hb2' : Below w.heap.size w w2 := below_step hbl.drew (Nat.le_refl _) hb2
      refine step_storeArr rfl rfl 75 _ _ rfl w.heap.size (F k) (F (k + 1)) rfl rfl V0' (by rw [HL.out, HL.out]) (by rw [HL.out]; exact Tryz.arr8) ?_
      refine hK.out _ _ trivial (fun hHeld => ?_)
      clear hK K
      refine wpAnyH_done (by kernel_rfl) (NoPanic.normal ?_) _
      have V0n : Hid (Arr _ 75 w.heap.size (F (k + 1))) := V0'.setRow (F (k + 1))
      have V1n : Hid (Arr _ 75 (w.heap.size + 1) _) := V1'.setRowOther w.heap.size (by omega) (vals (F (k + 1)))
      have hbn := below_setRow hb2' (Nat.le_refl _) (vals (F (k + 1)))
      clear V0' V1' hb2 hb2' hbl CB HN hKr
      try simp only [Act.put]
      go_wp2
      go_roundw
      case rel => exact ⟨k + 1, by omega, by go_num, V0n, V1n, hbn⟩
      case measure => simp [intOf]; omega
    · have hk' : k = m := by omega
      subst hk'
      have hl8 := HL.out k
      go_wp2_with (first
        | (with_reducible refine wpList_loadArr rfl 75 _ rfl w.heap.size (F k) ?hx V0.out 8 74 Tryz.underlying75 ?hi ?_)
        | (with_reducible refine wpList_storeArr rfl 75 _ _ rfl (w.heap.size + 1) (tabN 8 (fun _ => 0)) (F k) ?hx2 ?hy V1.out ?hl ?hi2 ?_))
      case hx => rfl
      case hi => rw [hl8]; exact Tryz.arr8
      case hl => rw [tabN_length, hl8]
      case hi2 => rw [tabN_length]; exact Tryz.arr8
      rw [← HM.out, ← HF.out]
      exact bodyPost_arr rfl (w.heap.size + 1) (F k) rfl rfl (V1.out.setRow (F k)) 8 74 Tryz.underlying75 (by rw [hl8]; exact Tryz.arr8) ⟨rfl, below_setRow hbl (by omega) _⟩
end Go.Proofs.YtglgppeloolbhaaGreatDoor

namespace Go.Proofs.YtglgppeloolbhaaGreatDoor
open Go.RowKit
set_option maxRecDepth 100000
set_option linter.unusedSimpArgs false

section
variable {P : Program} {ops : Array Oper} {o : Oper} {a : Act} {w : World} {K' : Act → World → Prop} {Q : Exit → Act → World → Prop} {E : Prop}
/-- Words that lie somewhere, read as a whole at a step of a region that draws its order. -/
theorem step_loadCells {d : Tmp} (hgd : o.guard = none) (hd : o.dst = some d) (t : TypeId) (x : Operand) (ho : o.op = .load t x) (g : Nat) (l : List Nat) (hx : a.eval x = .pointer (some ⟨g, 0, none⟩)) (h : ∀ j, j < l.length → w.cell? ⟨g, j, none⟩ = some (.int .u32 ((l.getD j 0 : Nat) : Int)))
    (n : Nat) (e : TypeId) (hu : P.underlying t = some (.array n e)) (hi : (P.info? t).map (·.size) = some l.length) (hk : K' (a.put (some d) (.agg (vals l))) w) :
    if Region.wanted o (yielded ops a.tmps) = true then Oper.wp P o a w K' Q else E := by
  rw [if_pos (by simp [Region.wanted, hgd])]
  refine wp_load_mid t x ho g 0 hx (vals l).toList _ (fun j v hv => ?_) hu rfl ?_ ?_
  · rw [Nat.zero_add]
    have hj : j < l.length := by
      have := (List.getElem?_eq_some_iff.1 hv).1
      simpa [vals_size] using this
    rw [h j hj, ← vals_get l j hj, ← hv]; simp
  · rw [hi]; simp [vals_size]
  · rw [hd]; simpa using hk
end

theorem fullF_left (s : ByteArray) (j : Nat) (h : j < s.size) : fullF s j = bt s j := by unfold fullF; rw [if_pos h]
theorem fullF_right (s : ByteArray) (j : Nat) : fullF s (s.size + j) = bt (padB s.size) j := by
  unfold fullF
  rw [if_neg (by omega), show s.size + j - s.size = j by omega]
  rfl
theorem full_bt (s : ByteArray) (j : Nat) : bt (s ++ padB s.size) j = fullF s j := by
  by_cases h : j < s.size
  · rw [bt_append_left _ _ _ h, fullF_left _ _ h]
  · obtain ⟨i, rfl⟩ : ∃ i, j = s.size + i := ⟨j - s.size, by omega⟩
    rw [bt_append_right, fullF_right]
theorem sum_split (s : ByteArray) (W : Nat) (hW : W = 64 * (s.size / 64)) (T : ByteArray) (hT : T = s.extract W s.size) :
    foldN (bt (T ++ padB s.size)) (foldN (bt (s.extract 0 W)) bN (W / 64)) ((T ++ padB s.size).size / 64) = sumN s := by
  have hTs : T.size = s.size - W := by rw [hT, ByteArray.size_extract]; omega
  have hWs : W ≤ s.size := by omega
  have hP := padB_size s.size
  unfold sumN
  rw [ByteArray.size_append, hTs, hP]
  have e : (s.size + 9 + zerosN s.size) / 64 = W / 64 + (s.size - W + (9 + zerosN s.size)) / 64 := by omega
  rw [e, foldN_add]
  rw [foldN_congr (bt (s.extract 0 W)) (fullF s) bN (W / 64) (fun j hj => by
    rw [bt_extract s 0 W j (by omega) hWs, fullF_left s j (by omega), Nat.zero_add])]
  refine foldN_congr _ _ _ _ (fun j hj => ?_)
  by_cases h : j < T.size
  · rw [bt_append_left _ _ _ h, hT, bt_extract s W s.size j (by omega) (Nat.le_refl _), fullF_left s _ (by omega), show 64 * (W / 64) + j = W + j by omega]
  · obtain ⟨i, rfl⟩ : ∃ i, j = T.size + i := ⟨j - T.size, by omega⟩
    rw [bt_append_right, show 64 * (W / 64) + (T.size + i) = s.size + i by omega, fullF_right]

set_option maxRecDepth 100000 in
set_option maxHeartbeats 4000000 in
theorem sum_any (s : ByteArray) (w : World) (hs : s.size ≤ 65536) (hB : GlobB w) (hK : GlobK w) :
    Calls Tryz.prog 38 #[.string s] w fun e w' => e = .returned (.string (ofN (sumN s))) ∧ Below w.heap.size w w' := by
  have HB : Hid (GlobB w) := hB
  have HK : Hid (GlobK w) := hK
  have CP : Hid (∀ w, _) := fun w => pad_ok s.size w (by omega)
  obtain ⟨P, HP⟩ : ∃ P : ByteArray, Hid (P = padB s.size) := ⟨_, rfl⟩
  rw [← HP.out] at CP
  have hPs : P.size ≤ 72 := by rw [HP.out, padB_size]; have := zerosN_le s.size; omega
  obtain ⟨W, hW⟩ : ∃ W, W = 64 * (s.size / 64) := ⟨_, rfl⟩
  have eW : (s.size : Int) - (s.size : Int) % 64 = (W : Int) := by omega
  have bW : (W : Int) ≤ (s.size : Int) := by omega
  have HW : Hid (W = 64 * (s.size / 64)) := hW
  clear hB hK hW
  go_enter Tryz.func38, Tryz.ntmps38
  go_wp2_with fail
  refine (CP.out _).mono ?_
  rintro e w1 ⟨rfl, hb1⟩
  have HB1 : Hid (∀ j, j < bN.length → w1.cell? ⟨1, j, none⟩ = some (.int .u32 ((bN.getD j 0 : Nat) : Int))) := HB.out.below hb1
  have HK1 : Hid (GlobK w1) := HK.out.below hb1
  go_wp2_with fail
  have hsum : ¬ (9223372036854775807 < s.size - W + P.size) := by omega
  obtain ⟨T, HT⟩ : ∃ T, Hid (T = s.extract W s.size) := ⟨_, rfl⟩
  have hs1 : (s.extract 0 W).size = W := by rw [ByteArray.size_extract]; omega
  have hs2 : (T ++ P).size ≤ 1048576 := by rw [ByteArray.size_append, HT.out, ByteArray.size_extract]; omega
  obtain ⟨y, Hy⟩ : ∃ y, Hid (y = foldN (bt (s.extract 0 W)) bN (W / 64)) := ⟨_, rfl⟩
  have hyl : Hid (y.length = 8) := by show _ = _; rw [Hy.out]; exact foldN_length _ _ rfl _
  have hyo : Hid (Ok y) := by show Ok y; rw [Hy.out]; exact foldN_ok _ _ bN_ok _
  have C1 : Hid (∀ w, GlobK w → Calls Tryz.prog 62 #[.agg (vals bN), .string (s.extract 0 W)] w fun e w' => e = .returned (.agg (vals y)) ∧ Below w.heap.size w w') := by
    rw [Hy.out]
    have := fun w h => behindAll_any bN (s.extract 0 W) w rfl bN_ok (by omega) h
    rw [hs1] at this
    exact this
  have HS : Hid (foldN (bt (T ++ P)) y ((T ++ P).size / 64) = sumN s) := by
    show _ = _
    rw [Hy.out, HP.out]; exact sum_split s W HW.out T HT.out
  obtain ⟨z, Hz⟩ : ∃ z, Hid (z = sumN s) := ⟨_, rfl⟩
  rw [← Hz.out] at HS
  have hzl : Hid (z.length = 8) := by show _ = _; rw [← HS.out]; exact foldN_length _ _ hyl.out _
  have hzo : Hid (Ok z) := by show Ok z; rw [← HS.out]; exact foldN_ok _ _ hyo.out _
  have C2 : Hid (∀ w, GlobK w → Calls Tryz.prog 62 #[.agg (vals y), .string (s.extract W s.size ++ P)] w fun e w' => e = .returned (.agg (vals z)) ∧ Below w.heap.size w w') := by
    have := fun w h => behindAll_any y (T ++ P) w hyl.out hyo.out hs2 h
    rw [HS.out, HT.out] at this
    exact this
  clear hs1 hs2
  refine wp_region_noPanic ?_
  refine wp_region_held_drew (S := fun _ => True) (by kernel_rfl) (by first | exact trivial | assumption | exact ⟨by assumption, by assumption⟩) (fun hHeld => ?_)
  refine take_at (i := 1) (v := ?_) rfl rfl (by kernel_rfl) (by kernel_rfl) (by kernel_rfl) (fun _ _ _ h => h) (Or.inl ⟨by rfl, ?_⟩) (by assumption) ?_
  rotate_left
  · intro w hSw; (try dsimp only at hSw); go_simp; try with_reducible rfl
  try simp only [Act.put, List.setIfInBounds_toArray, List.set_cons_zero, List.set_cons_succ]
  refine take_at (i := 2) (v := ?_) rfl rfl (by kernel_rfl) (by kernel_rfl) (by kernel_rfl) (fun _ _ _ h => h) (Or.inl ⟨by rfl, ?_⟩) (by assumption) ?_
  rotate_left
  · intro w hSw; (try dsimp only at hSw); go_simp; try with_reducible rfl
  try simp only [Act.put, List.setIfInBounds_toArray, List.set_cons_zero, List.set_cons_succ]
  refine take_at (i := 3) (v := ?_) rfl rfl (by kernel_rfl) (by kernel_rfl) (by kernel_rfl) (fun _ _ _ h => h) (Or.inl ⟨by rfl, ?_⟩) (by assumption) ?_
  rotate_left
  · intro w hSw; (try dsimp only at hSw); go_simp; try with_reducible rfl
  try simp only [Act.put, List.setIfInBounds_toArray, List.set_cons_zero, List.set_cons_succ]
  refine take_at (i := 5) (v := ?_) rfl rfl (by kernel_rfl) (by kernel_rfl) (by kernel_rfl) (fun _ _ _ h => h) (Or.inl ⟨by rfl, ?_⟩) (by assumption) ?_
  rotate_left
  · intro w hSw; (try dsimp only at hSw); go_simp; try with_reducible rfl
  try simp only [Act.put, List.setIfInBounds_toArray, List.set_cons_zero, List.set_cons_succ]
  refine take_at (i := 6) (v := ?_) rfl rfl (by kernel_rfl) (by kernel_rfl) (by kernel_rfl) (fun _ _ _ h => h) (Or.inl ⟨by rfl, ?_⟩) (by assumption) ?_
  rotate_left
  · intro w hSw; (try dsimp only at hSw); go_simp; try with_reducible rfl
  try simp only [Act.put, List.setIfInBounds_toArray, List.set_cons_zero, List.set_cons_succ]
  refine take_at (i := 7) (v := ?_) rfl rfl (by kernel_rfl) (by kernel_rfl) (by kernel_rfl) (fun _ _ _ h => h) (Or.inl ⟨by rfl, ?_⟩) (by assumption) ?_
  rotate_left
  · intro w hSw; (try dsimp only at hSw); go_simp; try with_reducible rfl
  try simp only [Act.put, List.setIfInBounds_toArray, List.set_cons_zero, List.set_cons_succ]
  refine take_at (i := 8) (v := ?_) rfl rfl (by kernel_rfl) (by kernel_rfl) (by kernel_rfl) (fun _ _ _ h => h) (Or.inl ⟨by rfl, ?_⟩) (by assumption) ?_
  rotate_left
  · intro w hSw; (try dsimp only at hSw); go_simp; try with_reducible rfl
  try simp only [Act.put, List.setIfInBounds_toArray, List.set_cons_zero, List.set_cons_succ]
  refine take_at (i := 9) (v := ?_) rfl rfl (by kernel_rfl) (by kernel_rfl) (by kernel_rfl) (fun _ _ _ h => h) (Or.inl ⟨by rfl, ?_⟩) (by assumption) ?_
  rotate_left
  · intro w hSw; (try dsimp only at hSw); go_simp; try with_reducible rfl
  try simp only [Act.put, List.setIfInBounds_toArray, List.set_cons_zero, List.set_cons_succ]
  refine wpAnyH_ready (rs := [0]) (by kernel_rfl) (by simp) ?_
  refine AllReadyH.cons rfl (fun K hK => ?_) AllReadyH.nil
  refine step_loadCells rfl rfl 75 _ rfl 1 bN rfl HB1.out 8 74 Tryz.underlying75 Tryz.arr8 ?_
  refine hK.out _ _ trivial (fun hHeld => ?_)
  clear hK K
  refine wpAnyH_ready (rs := [4]) (by kernel_rfl) (by simp) ?_
  refine AllReadyH.cons rfl (fun K hK => ?_) AllReadyH.nil
  go_simp
  refine (C1.out w1.drew HK1.out).mono ?_
  rintro e w2 ⟨rfl, hb2⟩
  have hb2' := below_step hb1.drew (Nat.le_refl _) hb2
  have HK2 : Hid (GlobK w2) := HK.out.below hb2'
  refine hK.out _ _ trivial (fun hHeld => ?_)
  clear hK K
  refine wpAnyH_ready (rs := [10]) (by kernel_rfl) (by simp) ?_
  refine AllReadyH.cons rfl (fun K hK => ?_) AllReadyH.nil
  go_simp
  refine (C2.out w2 HK2.out).mono ?_
  rintro e w3 ⟨rfl, hb3⟩
  have hb3' := below_step hb2' (Nat.le_refl _) hb3
  refine hK.out _ _ trivial (fun hHeld => ?_)
  clear hK K
  refine wpAnyH_ready (rs := [11]) (by kernel_rfl) (by simp) ?_
  refine AllReadyH.cons rfl (fun K hK => ?_) AllReadyH.nil
  go_simp
  refine (put_any z w3 hzl.out hzo.out).mono ?_
  rintro e w4 ⟨rfl, hb4⟩
  have hb4' := below_step hb3' (Nat.le_refl _) hb4
  rw [Hz.out]
  refine hK.out _ _ trivial (fun hHeld => ?_)
  clear hK K
  refine take_at (i := 12) (v := ?_) rfl rfl (by kernel_rfl) (by kernel_rfl) (by kernel_rfl) (fun _ _ _ h => h) (Or.inl ⟨by rfl, ?_⟩) (by assumption) ?_
  rotate_left
  · intro w hSw; (try dsimp only at hSw); go_simp; try with_reducible rfl
  try simp only [Act.put, List.setIfInBounds_toArray, List.set_cons_zero, List.set_cons_succ]
  refine wpAnyH_done (by kernel_rfl) (NoPanic.normal ?_) _
  go_wp2
  go_ret
  exact ⟨rfl, hb4'⟩
end Go.Proofs.YtglgppeloolbhaaGreatDoor

namespace Go.Proofs.YtglgppeloolbhaaGreatDoor
open Go.RowKit
set_option maxRecDepth 100000
set_option linter.unusedSimpArgs false

set_option maxRecDepth 100000 in
set_option maxHeartbeats 4000000 in
theorem rsum_any (s : ByteArray) (w : World) (hs : s.size ≤ 65536) :
    Calls Tryz.prog 58 #[.string s] w fun e w' => e = .returned (.string (ofN (sumN s))) ∧ Below w.heap.size w w' := by
  have CP : Hid (∀ w, _) := fun w => rpad_ok s.size w (by omega)
  obtain ⟨P, HP⟩ : ∃ P : ByteArray, Hid (P = padB s.size) := ⟨_, rfl⟩
  rw [← HP.out] at CP
  have hPs : P.size = 9 + zerosN s.size := by rw [HP.out, padB_size]
  have hz := zerosN_le s.size
  have hm := zerosN_mod s.size
  have hsum : ¬ (9223372036854775807 < s.size + P.size) := by omega
  obtain ⟨n, Hn⟩ : ∃ n, Hid (n = (s.size + 9 + zerosN s.size) / 64) := ⟨_, rfl⟩
  have hFs : Hid ((s ++ P).size = 64 * n) := by show _ = _; rw [ByteArray.size_append, Hn.out, hPs]; omega
  have hn : n ≤ 65536 := by rw [Hn.out]; omega
  obtain ⟨F, HF⟩ : ∃ F : Nat → List Nat, Hid (F = foldN (fullF s) bN) := ⟨_, rfl⟩
  have HL : Hid (∀ k, (F k).length = 8) := by rw [HF.out]; exact foldN_length _ _ rfl
  have HO : Hid (∀ k, Ok (F k)) := by rw [HF.out]; exact foldN_ok _ _ bN_ok
  have HN : Hid (∀ k, F (k + 1) = behindN (F k) (fun j => bt (s ++ P) (64 * k + j))) := by
    show ∀ k, _
    intro k
    rw [HF.out, foldN_succ]
    exact behindN_congr _ _ _ (fun j _ => by rw [HP.out, full_bt])
  have H0 : Hid (F 0 = bN) := by show _ = _; rw [HF.out]; rfl
  have HE : Hid (F n = sumN s) := by show _ = _; rw [HF.out, Hn.out]; rfl
  clear hPs hz hm
  go_enter Tryz.func58, Tryz.ntmps58
  go_wp2_with fail
  refine (CP.out _).mono ?_
  rintro e w1 ⟨rfl, hb1⟩
  go_wp2_with fail
  refine (rbegin_any _).mono ?_
  rintro e w2 ⟨rfl, hb2⟩
  have hB2 : Hid (Below w.heap.size w w2) := below_step hb1 (Nat.le_refl _) hb2
  rw [← H0.out]
  generalize s ++ P = S at *
  clear hb1 hb2 CP hsum
  go_wp2_with fail
  go_loopw [5, 6] (fun v i wr => ∃ k j : Nat, j ≤ 64 * n ∧ i = .int .i64 j ∧ Hid (j = 64 * k) ∧ v = .string (ofN (F k)) ∧ Below w.heap.size w wr) (fun _ i _ => 64 * n - (intOf i).toNat)
  case atStart => exact ⟨0, 0, by omega, rfl, rfl, rfl, hB2.out⟩
  case round =>
    obtain ⟨k, j, hj, rfl, HJ, rfl, hbl⟩ := hrel
    have hS := hFs.out
    by_cases hlt : j < 64 * n
    · have hJ := HJ.out
      have hq : j + 64 ≤ S.size := by omega
      have hes : (S.extract j (j + 64)).size = 64 := by rw [ByteArray.size_extract]; omega
      have CB : Hid (∀ w, Calls Tryz.prog 78 #[.string (ofN (F k)), .string (S.extract j (j + 64))] w fun e w' => e = .returned (.tuple #[.string (ofN (F (k + 1))), .int .i64 0]) ∧ Below w.heap.size w w') := by
        have := fun w => rblock_ok (ofN (F k)) (S.extract j (j + 64)) w (ofN_size _ (HL.out k)) hes
        rw [wordsN_ofN _ (HO.out k)] at this
        rw [HN.out k]
        rw [behindN_congr (F k) (bt (S.extract j (j + 64))) (fun i => bt S (64 * k + i)) (fun i hi => by rw [bt_extract S j (j + 64) i (by omega) hq, hJ])] at this
        exact this
      have b1 : (j : Int) + 64 ≤ (S.size : Int) := by omega
      clear hJ hes hS
      go_wp2_with fail
      refine (CB.out _).mono ?_
      rintro e w3 ⟨rfl, hb3⟩
      have hb3' := below_step hbl (Nat.le_refl _) hb3
      clear CB
      go_wp2_with fail
      go_roundw
      case rel => exact ⟨k + 1, j + 64, by have := HJ.out; omega, by go_num, by have := HJ.out; show j + 64 = 64 * (k + 1); omega, rfl, hb3'⟩
      case measure => simp [intOf]; omega
    · have hj' : j = 64 * n := by omega
      have hk' : k = n := by have := HJ.out; omega
      have b1 : ¬ ((j : Int) + 64 ≤ (S.size : Int)) := by omega
      rw [hk', HE.out]
      clear hj' hS
      go_wp2_with fail
      go_ret
      exact ⟨rfl, hbl⟩
end Go.Proofs.YtglgppeloolbhaaGreatDoor
