import Derived.Test.YtagmfgaojmholaaDoorShaPut
import Derived.Laws.CopyOwn
namespace Go.Proofs.YtagmfgaojmholaaDoor
open Go.RowKit
set_option linter.unusedSimpArgs false

/-- Rows of words told place by place. -/
def tabN (n : Nat) (f : Nat → Nat) : List Nat := (List.range n).map f
theorem tabN_length (n : Nat) (f : Nat → Nat) : (tabN n f).length = n := by simp [tabN]
theorem tabN_getD (n : Nat) (f : Nat → Nat) (i : Nat) (h : i < n) : (tabN n f).getD i 0 = f i := map_range_getD n f i h
theorem tabN_congr (n : Nat) (f g : Nat → Nat) (h : ∀ i, i < n → f i = g i) : tabN n f = tabN n g := by
  unfold tabN; exact List.map_congr_left (fun i hi => h i (List.mem_range.1 hi))
theorem tabN_set (n : Nat) (f g : Nat → Nat) (j v : Nat) (hj : g j = v) (h : ∀ i, i < n → i ≠ j → f i = g i) : (tabN n f).set j v = tabN n g := by
  apply List.ext_getElem (by simp [tabN])
  intro i h1 h2
  have hi : i < n := by rw [tabN_length] at h2; exact h2
  rw [List.getElem_set]
  by_cases e : j = i
  · rw [if_pos e]; subst e; simp [tabN, hj]
  · rw [if_neg e]; simp [tabN]; exact h i hi (fun h => e h.symm)
/-- The first k of f, noughts behind them. -/
def cutN (f : Nat → Nat) (k j : Nat) : Nat := if j < k then f j else 0
theorem cutN_set (n : Nat) (f : Nat → Nat) (k : Nat) : (tabN n (cutN f k)).set k (f k) = tabN n (cutN f (k + 1)) := by
  refine tabN_set _ _ _ _ _ (by unfold cutN; rw [if_pos (by omega)]) (fun i _ hne => ?_)
  unfold cutN
  by_cases h : i < k
  · rw [if_pos h, if_pos (by omega)]
  · rw [if_neg h, if_neg (by omega)]
theorem cutN_all (n : Nat) (f : Nat → Nat) : tabN n (cutN f n) = tabN n f := tabN_congr _ _ _ (fun i hi => by unfold cutN; rw [if_pos hi])
theorem tabN_of (l : List Nat) (n : Nat) (h : l.length = n) : tabN n (fun i => l.getD i 0) = l := by
  apply List.ext_getElem
  · rw [tabN_length, h]
  · intro i h1 h2
    simp [tabN, List.getD_eq_getElem?_getD, List.getElem?_eq_getElem h2]
theorem IntsAt.other {w : World} {K : IntKind} {g n : Nat} {l : List Int} (h : IntsAt w K (some ⟨g, 0, none⟩) n l) (p : Addr) (hp : p.block ≠ g) (u : Value) : IntsAt (w.setCell p u) K (some ⟨g, 0, none⟩) n l := by
  refine ⟨h.1, ?_⟩
  rcases h.2 with h0 | ⟨b, off, ha, hc⟩
  · exact .inl h0
  · cases ha
    refine .inr ⟨g, 0, rfl, fun i hi => ?_⟩
    rw [World.cell?_setCell_far _ _ _ _ hp]
    exact hc i hi

theorem Arr.new' (w : World) (t : TypeId) (l : List Nat) (c : Array Value) (g : Nat) (hg : w.heap.size = g) (hc : c = vals l) : Arr (w.alloc (.cells c t)) t g l := by
  subst hg; exact Arr.new w t l c hc

set_option maxHeartbeats 2000000 in
theorem read_any (s : ByteArray) (w : World) (hs : s.size = 32) :
    Calls Tryd.prog 21 #[.string s] w fun e w' => e = .returned (.agg (vals (wordsN s))) ∧ Below w.heap.size w w' := by
  obtain ⟨f, hf⟩ : ∃ f : Nat → Nat, f = fun i => (wordsN s).getD i 0 := ⟨_, rfl⟩
  have HF : Hid (tabN 8 f = wordsN s) := by show _ = _; rw [hf]; exact tabN_of _ _ (by rw [wordsN_length, hs])
  have HL : Hid (∀ i, f i < 4294967296) := by show ∀ i, _; rw [hf]; exact wordsN_ok s
  have HW : Hid (wordsL s bsh = wT f 8) := by show _ = _; rw [wordsN_ints]; exact wT_first _ _ _ (by rw [wordsN_length, hs]) (fun i _ => by rw [hf])
  clear hf
  go_enter Tryd.func21, Tryd.ntmps21
  go_wp2_with fail
  refine (big_even s _ (by omega) (by omega)).mono ?_
  rintro e w1 ⟨rfl, ho1, hb1⟩
  have hsz : s.size / 4 = 8 := by omega
  rw [HW.out, hsz] at ho1
  have a0 := ((Arr.new w 36 (tabN 8 (cutN f 0)) _ (by kernel_rfl)).alloc _).below hb1 (by simp; omega)
  have a1 := (Arr.new' _ 36 (tabN 8 (cutN f 0)) _ (w.heap.size + 1) (by simp) (by kernel_rfl)).below hb1 (by simp)
  have hB : Below w.heap.size w w1 := ((below_new w _).alloc (by simp) _).trans (hb1.mono (by simp; omega))
  have hI := ho1.ints
  have HA0 : Hid (Arr w1 36 w.heap.size _) := a0
  have HA1 : Hid (Arr w1 36 (w.heap.size + 1) _) := a1
  clear ho1 hb1 a1 a0
  simp only [World.size_alloc] at hI
  have HI : Hid (IntsAt w1 _ _ _ _) := hI
  clear hI
  go_wp2_with fail
  go_loopw [14] (fun i wr => ∃ k : Nat, k ≤ 8 ∧ i = .int .i64 k ∧ Hid (Arr wr 36 w.heap.size (tabN 8 (cutN f 0))) ∧ Hid (Arr wr 36 (w.heap.size + 1) (tabN 8 (cutN f k))) ∧ Hid (IntsAt wr .i64 (some ⟨w.heap.size + 1 + 1, 0, none⟩) 8 (wT f 8)) ∧ Below w.heap.size w wr) (fun i _ => 8 - (intOf i).toNat)
  case atStart => exact ⟨0, Nat.zero_le _, rfl, HA0, HA1, HI, hB⟩
  case round =>
    clear HA0 HA1 HI hB
    obtain ⟨k, hk, rfl, HA0, HA1, HI, hbl⟩ := hrel
    by_cases hlt : k < 8
    · obtain ⟨X, hX⟩ : ∃ x, x = f k := ⟨_, rfl⟩
      have lX : X < 4294967296 := by rw [hX]; exact HL.out k
      have c0 := HI.out.cellAt k hlt
      rw [wT_getD _ _ _ hlt, ← hX] at c0
      have c1 := HA1.out.cell k (by rw [tabN_length]; exact hlt)
      have hf := HA1.out.free k
      have HO := HA1.out.set k X
      rw [hX, cutN_set, ← hX] at HO
      have HA0' : Hid (Arr _ 36 w.heap.size _) := HA0.out.other ⟨w.heap.size + 1, k, none⟩ (by simp) (Value.int .u32 (X : Int))
      have HI' : Hid (IntsAt _ .i64 (some ⟨w.heap.size + 1 + 1, 0, none⟩) 8 (wT f 8)) := HI.out.other ⟨w.heap.size + 1, k, none⟩ (by simp) (Value.int .u32 (X : Int))
      have HO' : Hid (Arr _ 36 (w.heap.size + 1) _) := HO
      have HBl := hbl.setCell (p := ⟨w.heap.size + 1, k, none⟩) (by simp) (Value.int .u32 (X : Int))
      have b0 : (k : Int) < 8 := by omega
      clear hX HO HA0 HA1 HI
      go_wp2
      go_roundw
      case rel => exact ⟨k + 1, by omega, by go_num, HA0', HO', HI', HBl⟩
      case measure => simp [intOf]; omega
    · have hk' : k = 8 := by omega
      subst hk'
      have hA1 := HA1.out
      rw [cutN_all, HF.out] at hA1
      have HA1' : Hid (Arr wr 36 (w.heap.size + 1) (wordsN s)) := hA1
      have hl : (wordsN s).length = 8 := by rw [wordsN_length, hs]
      clear HA1 hA1 HI
      go_wp2_with (first
        | (with_reducible refine wpList_loadArr rfl 36 _ rfl (w.heap.size + 1) (wordsN s) ?hx HA1'.out 8 35 Tryd.underlying36 ?hi ?_)
        | (with_reducible refine wpList_storeArr rfl 36 _ _ rfl w.heap.size (tabN 8 (cutN f 0)) (wordsN s) ?hx2 ?hy HA0.out ?hl ?hi2 ?_))
      case hx => rfl
      case hi => rw [hl]; exact Tryd.arr8
      case hl => rw [hl, tabN_length]
      case hi2 => rw [tabN_length]; exact Tryd.arr8
      exact bodyPost_arr rfl w.heap.size (wordsN s) rfl rfl (HA0.out.setRow (wordsN s)) 8 35 Tryd.underlying36 (by rw [hl]; exact Tryd.arr8) ⟨rfl, below_setRow hbl (Nat.le_refl _) _⟩
end Go.Proofs.YtagmfgaojmholaaDoor
