/- The walk of WireMany. -/
import Derived.Test.YtmjjpfinkpfifaaDoorWiI
namespace Go.Proofs.YtmjjpfinkpfifaaDoor
open Go.RowKit
set_option maxRecDepth 100000
set_option linter.unusedSimpArgs false
set_option linter.unusedVariables false

theorem below_grown {w w' w'' : World} {r : Option Nat} (h : Below w.heap.size w w') (g : w'.grownBy w'' r) (hr : ∀ j, r = some j → w.heap.size ≤ j) : Below w.heap.size w w'' :=
  ⟨g.os.trans h.os, g.tape.trans h.tape, g.output.trans h.output, Nat.le_trans h.size g.size, fun k hk => (g.block k (by have := h.size; omega) (fun e => by have := hr k e.symm; omega)).trans (h.block k hk)⟩

/-- n items, each with one blob. -/
def itsM (b : ByteArray) : Nat → List (Int × Int × ByteArray)
  | 0 => []
  | k + 1 => itsM b k ++ [((k : Int) + 1, 1, b)]

theorem itsM_len (b : ByteArray) : ∀ k, (itsM b k).length = k := by
  intro k
  induction k with
  | zero => rfl
  | succ k ih => show (itsM b k ++ [_]).length = _; rw [List.length_append, ih]; rfl

theorem itsM_mem (b : ByteArray) : ∀ k, ∀ x ∈ itsM b k, x.2.2 = b ∧ x.2.1 = 1 ∧ 1 ≤ x.1 ∧ x.1 ≤ k := by
  intro k
  induction k with
  | zero => intro x hx; cases hx
  | succ k ih =>
    intro x hx
    have hx' : x ∈ itsM b k ++ [((k : Int) + 1, 1, b)] := hx
    rcases List.mem_append.1 hx' with e | e
    · obtain ⟨h1, h2, h3, h4⟩ := ih x e
      exact ⟨h1, h2, h3, by omega⟩
    · obtain rfl := List.mem_singleton.1 e
      exact ⟨rfl, rfl, by show (1 : Int) ≤ (k : Int) + 1; omega, by show (k : Int) + 1 ≤ ((k + 1 : Nat) : Int); omega⟩

theorem itsM_size (b : ByteArray) : ∀ k, (encA ((itsM b k).flatMap itPs)).size = k * (14 + b.size) := by
  intro k
  induction k with
  | zero => rw [Nat.zero_mul]; rfl
  | succ k ih =>
    rw [show itsM b (k + 1) = itsM b k ++ [((k : Int) + 1, 1, b)] from rfl, List.flatMap_append, encA_snoc, ByteArray.size_append, ih, Nat.add_mul, Nat.one_mul]
    congr 1
    rw [List.flatMap_cons, List.flatMap_nil, List.append_nil]
    simp only [itPs, encA, ByteArray.size_append, encP_size19, kd, ps, ByteArray.size_empty]
    simp
    omega

theorem itsM_fit (b : ByteArray) (hb : b.size ≤ 9223372036854775807) (n : Nat) (i : Nat) : (itL (itsM b n) i).2.2.size ≤ 9223372036854775807 := by
  by_cases hi : i < (itsM b n).length
  · rw [itL_get _ i hi, (itsM_mem b n _ (List.getElem_mem hi)).1]; exact hb
  · unfold itL
    rw [List.getD_eq_getElem?_getD, List.getElem?_eq_none (by omega)]
    exact Nat.zero_le _

def frmM (b : ByteArray) (n : Nat) : FrmT := (4, 0, 0, 0, 0, ⟨#[]⟩, itsM b n, 0)

theorem frmM_own (b : ByteArray) (n : Nat) : ownB (frmM b n) = true := by
  rw [ownB_iff]
  unfold OwnFr frmM
  exact ⟨⟨by show (1 : Int) ≤ 4; decide, by show (4 : Int) ≤ 9; decide⟩, .inr rfl, .inr rfl, .inr rfl, .inr rfl, .inl rfl, .inr rfl⟩

theorem frmM_yes (b : ByteArray) (n : Nat) (hn : n ≤ 32) (hb : b.size ≤ 20000) (hs : n * (14 + b.size) ≤ 65000) : ∃ S : ByteArray, putFC (frmM b n) = (S, 0) ∧ S.size ≤ 65536 := by
  have h1 : mayCb (frmM b n) = true := by
    unfold mayCb
    rw [frmM_own]
    have h2 : mayIb (itsM b n) = true := (mayIb_iff _).2 ⟨by rw [itsM_len]; exact hn, fun i hi => by rw [itL_get _ i hi, (itsM_mem b n _ (List.getElem_mem hi)).1]; exact hb⟩
    show (decide ((0 : Int) ≤ 999) && decide ((⟨#[]⟩ : ByteArray).size ≤ 20000) && mayIb (itsM b n) && true) = true
    rw [h2]; rfl
  have h2 : ∀ p ∈ frPs (frmM b n), okP p = true := by
    intro p hp
    have hp' : p ∈ frHd (frmM b n) ++ (itsM b n).flatMap itPs := hp
    rcases List.mem_append.1 hp' with e | e
    · simp only [frHd, frmM, List.mem_cons, List.not_mem_nil, or_false] at e
      have hl := itsM_len b n
      rcases e with rfl | rfl | rfl | rfl | rfl | rfl | rfl | rfl
      · rfl
      · rfl
      · rfl
      · rfl
      · rfl
      · rfl
      · rfl
      · exact byte_okP _ _ _ ((oneOk_iff _ _).2 (by omega))
    · obtain ⟨x, hx, e⟩ := List.mem_flatMap.1 e
      obtain ⟨k1, k2, k3, k4⟩ := itsM_mem b n x hx
      simp only [itPs, List.mem_cons, List.not_mem_nil, or_false] at e
      rcases e with rfl | rfl | rfl
      · rw [num_okP]; exact (oneOk_iff _ _).2 (by omega)
      · rw [num_okP]; exact (oneOk_iff _ _).2 (by omega)
      · exact text_okP _ _ _ (by rw [k1]; omega)
  have h3 : (encA (frPs (frmM b n))).size ≤ 65536 := by
    unfold frmM
    rw [frPs_enc]
    have := itsM_size b n
    simp only [ByteArray.size_append, encP_size19, kd, ps, this]
    have h0 : (⟨#[]⟩ : ByteArray).size = 0 := rfl
    simp [h0]
    omega
  exact ⟨_, putB_fit _ _ h1 h2 h3, h3⟩

theorem frmM_no (b : ByteArray) (n : Nat) (h : 32 < n ∨ (0 < n ∧ 20000 < b.size)) : putFC (frmM b n) = (⟨#[]⟩, 1) := by
  unfold putFC putB
  rw [if_neg]
  intro e
  have h1 := (mayC_parts e).2.2.1
  have h2 : (itsM b n).length ≤ 32 := h1.1
  rw [itsM_len] at h2
  rcases h with h | ⟨h3, h4⟩
  · omega
  · have h5 := h1.2 0 (by show 0 < (itsM b n).length; rw [itsM_len]; exact h3)
    have h6 : (itL (itsM b n) 0).2.2.size ≤ 20000 := h5
    rw [itL_get _ 0 (by rw [itsM_len]; exact h3), (itsM_mem b n _ (List.getElem_mem _)).1] at h6
    omega

/-- The frame's cell and its items. -/
def FiM (w : World) (W : World) (h B : Nat) (v : Value) (l : List (Int × Int × ByteArray)) : Prop := Below w.heap.size w W ∧ Blk W 41 h #[.int .i64 4, .int .i64 0, .int .i64 0, .int .i64 0, .int .i64 0, .string ⟨#[]⟩, v, .int .i64 0] ∧ OwnI19 W B v l ∧ h < B ∧ w.heap.size ≤ h ∧ B ≤ W.heap.size

theorem manyP_any (b : ByteArray) (n : Nat) (hn : n ≤ 40) (hb : b.size ≤ 1048576) (S : ByteArray) (E : Int) (hp : putFC (frmM b n) = (S, E)) : ∀ (a : Option Addr) (c : Nat) (W : World), ItsAt W a n (itsM b n) → Calls Tryd.prog 19 #[.agg #[.int .i64 4, .int .i64 0, .int .i64 0, .int .i64 0, .int .i64 0, .string ⟨#[]⟩, .slice a n c, .int .i64 0]] W fun e w' => e = .returned (.tuple #[.string S, .int .i64 E]) ∧ Below W.heap.size W w' := fun a c W hI => by
  have h := putF_any (frmM b n) a c W (by show (itsM b n).length ≤ _; rw [itsM_len]; omega) (by show ItsAt W a (itsM b n).length (itsM b n); rw [itsM_len]; exact hI) (fun i => itsM_fit b (by omega) n i) (by show (⟨#[]⟩ : ByteArray).size ≤ _; decide)
  rw [hp] at h
  unfold frmA frmM at h
  simp only [itsM_len] at h
  exact h

theorem manyT_any (b : ByteArray) (n : Nat) (S : ByteArray) (hs : S.size ≤ 65536) (hp : putFC (frmM b n) = (S, 0)) : ∀ (W : World), Calls Tryd.prog 21 #[.string S] W fun e w' => ∃ a1 c1, e = .returned (.tuple #[.agg #[.int .i64 4, .int .i64 0, .int .i64 0, .int .i64 0, .int .i64 0, .string ⟨#[]⟩, .slice a1 n c1, .int .i64 0], .int .i64 0]) ∧ n ≤ c1 ∧ ItsAt w' a1 n (itsM b n) ∧ Below W.heap.size W w' := fun W => by
  have h := takeF_any S W (by omega)
  rw [takeFC_put _ _ hp] at h
  refine h.mono ?_
  rintro e w' ⟨a, c, h1, h2, h3, h4, h5⟩
  have h4' : ItsAt w' a (itsM b n).length (itsM b n) := h4
  have h2' : (itsM b n).length ≤ c := h2
  rw [itsM_len] at h2' h4'
  refine ⟨a, c, ?_, h2', h4', h5⟩
  rw [h1]
  unfold frmA frmM
  simp only [itsM_len]

theorem manyS_any (b : ByteArray) (n : Nat) (hn : n ≤ 40) : ∀ (a a1 : Option Addr) (c c1 : Nat) (W : World), n ≤ c → n ≤ c1 → ItsAt W a n (itsM b n) → ItsAt W a1 n (itsM b n) → Calls Tryd.prog 22 #[.agg #[.int .i64 4, .int .i64 0, .int .i64 0, .int .i64 0, .int .i64 0, .string ⟨#[]⟩, .slice a n c, .int .i64 0], .agg #[.int .i64 4, .int .i64 0, .int .i64 0, .int .i64 0, .int .i64 0, .string ⟨#[]⟩, .slice a1 n c1, .int .i64 0]] W fun e w' => e = .returned (.bool true) ∧ Below W.heap.size W w' := fun a a1 c c1 W h1 h2 h3 h4 => by
  have hl := itsM_len b n
  have h := rsame19_any (frmM b n) (frmM b n) true ⟨fun _ => rfl, fun _ => rfl⟩ a a1 c c1 W (by show (itsM b n).length ≤ _; omega) (by show (itsM b n).length ≤ _; omega) (by show (itsM b n).length ≤ _; omega) (by show ItsAt W a (itsM b n).length (itsM b n); rw [hl]; exact h3) (by show ItsAt W a1 (itsM b n).length (itsM b n); rw [hl]; exact h4)
  unfold frmA frmM at h
  simp only [itsM_len] at h
  exact h

set_option maxHeartbeats 8000000 in
theorem wireMany_walk (x y z : Int) (w : World) (hG : Glob8 w) : Calls Tryd.prog 8 #[.int .i64 x, .int .i64 y, .int .i64 z] w fun e w' => e = .returned (.bool true) ∧ Below w.heap.size w w' := by
  have CA : Hid (∀ W, Below w.heap.size w W → Calls Tryd.prog 10 #[] W fun e w' => e = .returned (.bool true) ∧ Below w.heap.size w w') := fun W hW => (awake19 W (hG.below hW)).mono fun e w' h => ⟨h.1, below_step hW (Nat.le_refl _) h.2⟩
  obtain ⟨i0, hi, hz0, hz1, hz2⟩ := info_parts Tryd.infoI19
  clear hG
  obtain ⟨q, hq0, hq1⟩ : ∃ q : Nat, bits .and .i64 x 3 = (q : Int) ∧ q < 4 := ⟨(x % 4).toNat, by rw [i64_mask x 2 (by decide) 3 (by decide)]; omega, by omega⟩
  obtain ⟨p, hp0, hp1⟩ : ∃ p : Nat, bits .and .i64 y 1023 = (p : Int) ∧ p < 1024 := ⟨(y % 1024).toNat, by rw [i64_mask y 10 (by decide) 1023 (by decide)]; omega, by omega⟩
  obtain ⟨p3, hp30, hp31⟩ : ∃ p : Nat, bits .and .i64 y 3 = (p : Int) ∧ p < 4 := ⟨(y % 4).toNat, by rw [i64_mask y 2 (by decide) 3 (by decide)]; omega, by omega⟩
  obtain ⟨n, hn⟩ : ∃ n : Nat, n = 31 + q := ⟨_, rfl⟩
  have e31 : (31 : Int) + (q : Int) = (n : Int) := by omega
  have m1 := make_zeros p (p : Int) rfl (by omega) w
  obtain ⟨Wa, hWa⟩ : ∃ Wa, w.alloc (.cells (zcells p) 5) = Wa := ⟨_, rfl⟩
  have hBa : Below w.heap.size w Wa := by rw [← hWa]; exact below_new _ _
  obtain ⟨b1, hb1⟩ : ∃ b1, zeroB p = b1 := ⟨_, rfl⟩
  have hbp1 : b1.size = p := by rw [← hb1, zeroB_size]
  have v1 : (convert 54 9 (.slice (some ⟨w.heap.size, 0, none⟩) p p)).run Tryd.prog Wa = .ok (.string b1) Wa := by rw [← hWa, ← hb1]; exact conv_zeros (row_zeros p w)
  rw [hWa] at m1
  rcases (by omega : z % 2 = 0 ∨ z % 2 = 1) with hz | hz
  · have hand : bits .and .i64 z 1 = 0 := by rw [i64_mask z 1 (by decide) 1 (by decide)]; omega
    obtain ⟨W0, hW0⟩ : ∃ W0, Wa = W0 := ⟨_, rfl⟩
    obtain ⟨b, hb⟩ : ∃ b, b1 = b := ⟨_, rfl⟩
    rw [hW0] at hBa m1 v1
    rw [hb] at hbp1 v1
    have hbp := hbp1
    clear hb hb1 hbp1 hWa hW0
    have hB0 := hBa
    clear hBa hz hp30 hp31
    by_cases h32 : n ≤ 32
    · have g32 : ¬ ((32 : Int) < (n : Int)) := by omega
      have gb : ¬ ((20000 : Int) < (b.size : Int)) := by omega
      have hq32 : n ≤ 32 := h32
      have hp14 : p ≤ 1023 := by omega
      obtain ⟨S, hS, hSs⟩ := frmM_yes b n (by omega) (by omega) (by rw [hbp]; exact Nat.le_trans (Nat.mul_le_mul hq32 (Nat.add_le_add_left hp14 14)) (by decide))
      have CP : Hid (∀ (a : Option Addr) (c : Nat) (W : World), ItsAt W a n (itsM b n) → _) := manyP_any b n (by omega) (by omega) S 0 hS
      have CT : Hid (∀ (W : World), _) := manyT_any b n S hSs hS
      have CS : Hid (∀ (a a1 : Option Addr) (c c1 : Nat) (W : World), n ≤ c → n ≤ c1 → ItsAt W a n (itsM b n) → ItsAt W a1 n (itsM b n) → _) := manyS_any b n (by omega)
      clear hS hSs
      clear hbp hp14 hq32
      have hn40 : n ≤ 40 := by omega
      clear hn
      have HB0 : Hid (Below w.heap.size w W0) := hB0
      have X1 : Blk (W0.alloc (.cells #[.int .i64 0, .int .i64 0, .int .i64 0, .int .i64 0, .int .i64 0, .string ⟨#[]⟩, .slice none 0 0, .int .i64 0] 41)) 41 W0.heap.size #[.int .i64 0, .int .i64 0, .int .i64 0, .int .i64 0, .int .i64 0, .string ⟨#[]⟩, .slice none 0 0, .int .i64 0] := Blk.new _ _ _
      have HF1 : Hid (Blk ((W0.alloc (.cells #[.int .i64 0, .int .i64 0, .int .i64 0, .int .i64 0, .int .i64 0, .string ⟨#[]⟩, .slice none 0 0, .int .i64 0] 41)).setRow W0.heap.size #[.int .i64 4, .int .i64 0, .int .i64 0, .int .i64 0, .int .i64 0, .string ⟨#[]⟩, .slice none 0 0, .int .i64 0]) 41 W0.heap.size #[.int .i64 4, .int .i64 0, .int .i64 0, .int .i64 0, .int .i64 0, .string ⟨#[]⟩, .slice none 0 0, .int .i64 0]) := X1.setRow _
      have HB1 : Hid (Below w.heap.size w ((W0.alloc (.cells #[.int .i64 0, .int .i64 0, .int .i64 0, .int .i64 0, .int .i64 0, .string ⟨#[]⟩, .slice none 0 0, .int .i64 0] 41)).setRow W0.heap.size #[.int .i64 4, .int .i64 0, .int .i64 0, .int .i64 0, .int .i64 0, .string ⟨#[]⟩, .slice none 0 0, .int .i64 0])) := below_setRow (HB0.out.alloc HB0.out.size _) HB0.out.size _
      have HS1 : Hid (W0.heap.size + 1 ≤ ((W0.alloc (.cells #[.int .i64 0, .int .i64 0, .int .i64 0, .int .i64 0, .int .i64 0, .string ⟨#[]⟩, .slice none 0 0, .int .i64 0] 41)).setRow W0.heap.size #[.int .i64 4, .int .i64 0, .int .i64 0, .int .i64 0, .int .i64 0, .string ⟨#[]⟩, .slice none 0 0, .int .i64 0]).heap.size) := by show _ ≤ _; simp [World.setRow]
      obtain ⟨w1, hw1⟩ : ∃ w1, (W0.alloc (.cells #[.int .i64 0, .int .i64 0, .int .i64 0, .int .i64 0, .int .i64 0, .string ⟨#[]⟩, .slice none 0 0, .int .i64 0] 41)).setRow W0.heap.size #[.int .i64 4, .int .i64 0, .int .i64 0, .int .i64 0, .int .i64 0, .string ⟨#[]⟩, .slice none 0 0, .int .i64 0] = w1 := ⟨_, rfl⟩
      rw [hw1] at HF1 HB1 HS1
      clear hB0
      go_enter Tryd.func8, Tryd.ntmps8
      go_wp2_with (with_reducible refine wpList_storeBlk rfl 41 _ _ rfl W0.heap.size #[.int .i64 0, .int .i64 0, .int .i64 0, .int .i64 0, .int .i64 0, .string ⟨#[]⟩, .slice none 0 0, .int .i64 0] #[.int .i64 4, .int .i64 0, .int .i64 0, .int .i64 0, .int .i64 0, .string ⟨#[]⟩, .slice none 0 0, .int .i64 0] (by with_unfolding_all rfl) (by with_unfolding_all rfl) X1 rfl (by kernel_rfl) (by kernel_rfl) ?_)
      try rw [hw1]
      obtain ⟨h, hh⟩ : ∃ h, W0.heap.size = h := ⟨_, rfl⟩
      have HI1 : Hid (FiM w w1 h (h + 1) (.slice none 0 0) []) := by
        show FiM _ _ _ _ _ _
        rw [← hh]
        exact ⟨HB1.out, HF1.out, World.ownsRow_nil _ _ _ _, Nat.lt_succ_self _, HB0.out.size, HS1.out⟩
      try rw [hh]
      clear hw1 hh X1 HF1 HB1 HS1 HB0 m1 v1 hq0 hp0 e31 hand
      go_loopw [10] (fun i wr => ∃ k : Nat, k ≤ n ∧ i = .int .i64 k ∧ Hid (∃ v, FiM w wr h (h + 1) v (itsM b k))) (fun i _ => n - (intOf i).toNat)
      case atStart => exact ⟨0, Nat.zero_le _, rfl, ⟨_, HI1.out⟩⟩
      case round =>
        clear HI1
        obtain ⟨k, hk, rfl, HX⟩ := hrel
        obtain ⟨v, hI⟩ := HX.out
        obtain ⟨t1, t2, t3, t4, t5, t6⟩ := hI
        have HIk : Hid (FiM w wr h (h + 1) v (itsM b k)) := ⟨t1, t2, t3, t4, t5, t6⟩
        clear t1 t3 t4 t5 t6 HX
        by_cases hlt : k < n
        · have b0 : (k : Int) < (n : Int) := by omega
          have b2 : IntKind.i64.wrap ((k : Int) + 1) = (k : Int) + 1 := by rw [IntKind.wrap_i64]; omega
          have c6 : wr.cell? ⟨h, 6, none⟩ = some v := t2.cell 6
          have hown := HIk.out.2.2.1
          have hsz := HIk.out.2.2.2.2.2
          unfold OwnI19 at hown
          rw [itsM_len] at hown
          clear t2
          go_wp2_with (at_builtin; refine wpList_appR2 rfl (.tmp 37) (.tmp 42) 39 rfl (h + 1) 52 i0 _ 3 32 Tryd.underlying39 hi hz0 hz1 hz2 rfl (by decide) wr v _ _ rfl hown #[.int .i64 ((k : Int) + 1), .int .i64 1, .string b] rfl (itemA_one ((k : Int) + 1, 1, b)) rfl (by omega) (by unfold maxLen; omega) hsz ?_)
          intro v4 w4 hown4 hg4
          have HO4 : Hid (OwnI19 w4 (h + 1) v4 (itsM b (k + 1))) := by
            show OwnI19 _ _ _ _
            unfold OwnI19
            rw [itsM_len, show itsM b (k + 1) = itsM b k ++ [((k : Int) + 1, 1, b)] from rfl, cellsI_snoc]; exact hown4
          have HK4 : Hid (Blk w4 41 h #[.int .i64 4, .int .i64 0, .int .i64 0, .int .i64 0, .int .i64 0, .string ⟨#[]⟩, v, .int .i64 0]) := (HIk.out.2.1.on (below_new _ _)).grown hg4 (fun e => by have := (World.ownsRow.lt hown h e.symm).1; omega)
          have HB4 : Hid (Below w.heap.size w w4) := by
            have q1 := HIk.out.1
            have q2 := HIk.out.2.2.2.2.1
            exact below_grown (q1.alloc q1.size _) hg4 (fun j hj => by have := (World.ownsRow.lt hown j hj).1; omega)
          have HS4 : Hid (h + 1 ≤ w4.heap.size) := by have := hg4.size; rw [World.size_alloc] at this; show _ ≤ _; omega
          have c0 : w4.cell? ⟨h, 6, none⟩ = some _ := HK4.out.cell 6
          have c1 : w4.frozen? ⟨h, 6, none⟩ = false := HK4.out.free 6
          have HW5 : Hid (FiM w (w4.setCell ⟨h, 6, none⟩ v4) h (h + 1) v4 (itsM b (k + 1))) := by
            have q2 := HIk.out.2.2.2.2.1
            refine ⟨HB4.out.setCell (p := ⟨h, 6, none⟩) q2 _, HK4.out.setAt 6 v4, owns_same HO4.out (fun j hj => Below.heap_setCell w4 ⟨h, 6, none⟩ _ j (by have := (World.ownsRow.lt HO4.out j hj).1; show j ≠ h; omega)), Nat.lt_succ_self _, q2, Nat.le_trans HS4.out (grown_set w4 h 6 v4).size⟩
          obtain ⟨a4, n4, q4, hv4⟩ : ∃ a n q, v4 = .slice a n q := by
            obtain ⟨a, cap, e, _⟩ := HO4.out.rows
            exact ⟨_, _, _, e⟩
          subst hv4
          obtain ⟨W5, hW5⟩ : ∃ W5, w4.setCell ⟨h, 6, none⟩ (.slice a4 n4 q4) = W5 := ⟨_, rfl⟩
          rw [hW5] at HW5
          clear hown4 hg4 hown HO4 HK4 HB4 HS4 HIk c6 hsz
          go_wp2_with fail
          try rw [hW5]
          clear hW5 c0 c1
          refine ⟨?_, ?_⟩
          · first
            | exact ⟨k + 1, by omega, by go_num, ⟨_, HW5.out⟩⟩
            | ((repeat apply Exists.intro); refine ⟨?_, rfl⟩; exact ⟨k + 1, by omega, by go_num, ⟨_, HW5.out⟩⟩)
          · simp [intOf] <;> omega
        · obtain rfl : k = n := by omega
          have b0 : ¬ ((k : Int) < (k : Int)) := by omega
          obtain ⟨a, c, hv, hlc, hcm, hit⟩ := HIk.out.2.2.1.rows
          rw [itsM_len] at hv hlc hit
          subst hv
          have d0 : wr.cell? ⟨h, 0, none⟩ = some (.int .i64 4) := t2.cell 0
          have d1 : wr.cell? ⟨h, 1, none⟩ = some (.int .i64 0) := t2.cell 1
          have d2 : wr.cell? ⟨h, 2, none⟩ = some (.int .i64 0) := t2.cell 2
          have d3 : wr.cell? ⟨h, 3, none⟩ = some (.int .i64 0) := t2.cell 3
          have d4 : wr.cell? ⟨h, 4, none⟩ = some (.int .i64 0) := t2.cell 4
          have d5 : wr.cell? ⟨h, 5, none⟩ = some (.string ⟨#[]⟩) := t2.cell 5
          have d6 : wr.cell? ⟨h, 6, none⟩ = some (.slice a k c) := t2.cell 6
          have d7 : wr.cell? ⟨h, 7, none⟩ = some (.int .i64 0) := t2.cell 7
          have HIt : Hid (ItsAt wr a k (itsM b k)) := hit
          have HLC : Hid (k ≤ c) := hlc
          have HBr : Hid (Below w.heap.size w wr) := HIk.out.1
          have HFr : Hid (Blk wr 41 h #[.int .i64 4, .int .i64 0, .int .i64 0, .int .i64 0, .int .i64 0, .string ⟨#[]⟩, .slice a k c, .int .i64 0]) := t2
          clear hit hlc hcm t2 HIk
          go_wp2_with fail
          clear d0 d1 d2 d3 d4 d5 d6 d7
          refine (CP.out a c wr HIt.out).mono ?_
          rintro e w2 ⟨rfl, hb⟩
          have HB2 : Hid (Below w.heap.size w w2) := below_step HBr.out (Nat.le_refl _) hb
          have HF2 : Hid (Blk w2 41 h #[.int .i64 4, .int .i64 0, .int .i64 0, .int .i64 0, .int .i64 0, .string ⟨#[]⟩, .slice a k c, .int .i64 0]) := HFr.out.on hb
          have HI2 : Hid (ItsAt w2 a k (itsM b k)) := HIt.out.below hb
          clear hb HBr HFr HIt CP
          go_wp2_with fail
          refine (CT.out w2).mono ?_
          rintro e w3 ⟨a1, c1, rfl, hc1, hi1, hb⟩
          have HB3 : Hid (Below w.heap.size w w3) := below_step HB2.out (Nat.le_refl _) hb
          have hF3 : Blk w3 41 h #[.int .i64 4, .int .i64 0, .int .i64 0, .int .i64 0, .int .i64 0, .string ⟨#[]⟩, .slice a k c, .int .i64 0] := HF2.out.on hb
          have HI3 : Hid (ItsAt w3 a k (itsM b k)) := HI2.out.below hb
          have HJ3 : Hid (ItsAt w3 a1 k (itsM b k)) := hi1
          have HC1 : Hid (k ≤ c1) := hc1
          clear hb HB2 HF2 HI2 CT hi1 hc1
          have X2 : Blk (w3.alloc (.cells #[.int .i64 0, .int .i64 0, .int .i64 0, .int .i64 0, .int .i64 0, .string ⟨#[]⟩, .slice none 0 0, .int .i64 0] 41)) 41 w3.heap.size #[.int .i64 0, .int .i64 0, .int .i64 0, .int .i64 0, .int .i64 0, .string ⟨#[]⟩, .slice none 0 0, .int .i64 0] := Blk.new _ _ _
          have hG4 : Blk ((w3.alloc (.cells #[.int .i64 0, .int .i64 0, .int .i64 0, .int .i64 0, .int .i64 0, .string ⟨#[]⟩, .slice none 0 0, .int .i64 0] 41)).setRow w3.heap.size #[.int .i64 4, .int .i64 0, .int .i64 0, .int .i64 0, .int .i64 0, .string ⟨#[]⟩, .slice a1 k c1, .int .i64 0]) 41 w3.heap.size #[.int .i64 4, .int .i64 0, .int .i64 0, .int .i64 0, .int .i64 0, .string ⟨#[]⟩, .slice a1 k c1, .int .i64 0] := X2.setRow _
          have hb4 : Below w3.heap.size w3 ((w3.alloc (.cells #[.int .i64 0, .int .i64 0, .int .i64 0, .int .i64 0, .int .i64 0, .string ⟨#[]⟩, .slice none 0 0, .int .i64 0] 41)).setRow w3.heap.size #[.int .i64 4, .int .i64 0, .int .i64 0, .int .i64 0, .int .i64 0, .string ⟨#[]⟩, .slice a1 k c1, .int .i64 0]) := below_setRow (below_new _ _) (Nat.le_refl _) _
          obtain ⟨w4, hw4⟩ : ∃ w4, (w3.alloc (.cells #[.int .i64 0, .int .i64 0, .int .i64 0, .int .i64 0, .int .i64 0, .string ⟨#[]⟩, .slice none 0 0, .int .i64 0] 41)).setRow w3.heap.size #[.int .i64 4, .int .i64 0, .int .i64 0, .int .i64 0, .int .i64 0, .string ⟨#[]⟩, .slice a1 k c1, .int .i64 0] = w4 := ⟨_, rfl⟩
          rw [hw4] at hG4 hb4
          have HB4 : Hid (Below w.heap.size w w4) := below_step HB3.out (Nat.le_refl _) hb4
          have hF4 : Blk w4 41 h #[.int .i64 4, .int .i64 0, .int .i64 0, .int .i64 0, .int .i64 0, .string ⟨#[]⟩, .slice a k c, .int .i64 0] := hF3.on hb4
          have HI4 : Hid (ItsAt w4 a k (itsM b k)) := HI3.out.below hb4
          have HJ4 : Hid (ItsAt w4 a1 k (itsM b k)) := HJ3.out.below hb4
          have d0 : w4.cell? ⟨h, 0, none⟩ = some (.int .i64 4) := hF4.cell 0
          have d1 : w4.cell? ⟨h, 1, none⟩ = some (.int .i64 0) := hF4.cell 1
          have d2 : w4.cell? ⟨h, 2, none⟩ = some (.int .i64 0) := hF4.cell 2
          have d3 : w4.cell? ⟨h, 3, none⟩ = some (.int .i64 0) := hF4.cell 3
          have d4 : w4.cell? ⟨h, 4, none⟩ = some (.int .i64 0) := hF4.cell 4
          have d5 : w4.cell? ⟨h, 5, none⟩ = some (.string ⟨#[]⟩) := hF4.cell 5
          have d6 : w4.cell? ⟨h, 6, none⟩ = some (.slice a k c) := hF4.cell 6
          have d7 : w4.cell? ⟨h, 7, none⟩ = some (.int .i64 0) := hF4.cell 7
          have e0 : w4.cell? ⟨w3.heap.size, 0, none⟩ = some (.int .i64 4) := hG4.cell 0
          have e1 : w4.cell? ⟨w3.heap.size, 1, none⟩ = some (.int .i64 0) := hG4.cell 1
          have e2 : w4.cell? ⟨w3.heap.size, 2, none⟩ = some (.int .i64 0) := hG4.cell 2
          have e3 : w4.cell? ⟨w3.heap.size, 3, none⟩ = some (.int .i64 0) := hG4.cell 3
          have e4 : w4.cell? ⟨w3.heap.size, 4, none⟩ = some (.int .i64 0) := hG4.cell 4
          have e5 : w4.cell? ⟨w3.heap.size, 5, none⟩ = some (.string ⟨#[]⟩) := hG4.cell 5
          have e6 : w4.cell? ⟨w3.heap.size, 6, none⟩ = some (.slice a1 k c1) := hG4.cell 6
          have e7 : w4.cell? ⟨w3.heap.size, 7, none⟩ = some (.int .i64 0) := hG4.cell 7
          clear hb4 HB3 HI3 HJ3 hF3 hF4 hG4
          go_wp2_with (with_reducible refine wpList_storeBlk rfl 41 _ _ rfl w3.heap.size #[.int .i64 0, .int .i64 0, .int .i64 0, .int .i64 0, .int .i64 0, .string ⟨#[]⟩, .slice none 0 0, .int .i64 0] #[.int .i64 4, .int .i64 0, .int .i64 0, .int .i64 0, .int .i64 0, .string ⟨#[]⟩, .slice a1 k c1, .int .i64 0] (by with_unfolding_all rfl) (by with_unfolding_all rfl) X2 rfl (by kernel_rfl) (by kernel_rfl) ?_)
          try rw [hw4]
          clear hw4 X2 d0 e0 d1 e1 d2 e2 d3 e3 d4 e4 d5 e5 d6 e6 d7 e7
          refine (CS.out a a1 c c1 w4 HLC.out HC1.out HI4.out HJ4.out).mono ?_
          rintro e w5 ⟨rfl, hb⟩
          have HB5 : Hid (Below w.heap.size w w5) := below_step HB4.out (Nat.le_refl _) hb
          clear hb HB4 CS
          go_wp2_with fail
          refine (CA.out w5 HB5.out).mono ?_
          rintro e w6 ⟨rfl, hb⟩
          go_wp2_with fail
          go_ret
          exact ⟨rfl, hb⟩
    · have g32 : (32 : Int) < (n : Int) := by omega
      have CP : Hid (∀ (a : Option Addr) (c : Nat) (W : World), ItsAt W a n (itsM b n) → _) := manyP_any b n (by omega) (by omega) ⟨#[]⟩ 1 (frmM_no b n (.inl (by omega)))
      have hn40 : n ≤ 40 := by omega
      clear hn h32
      have HB0 : Hid (Below w.heap.size w W0) := hB0
      have X1 : Blk (W0.alloc (.cells #[.int .i64 0, .int .i64 0, .int .i64 0, .int .i64 0, .int .i64 0, .string ⟨#[]⟩, .slice none 0 0, .int .i64 0] 41)) 41 W0.heap.size #[.int .i64 0, .int .i64 0, .int .i64 0, .int .i64 0, .int .i64 0, .string ⟨#[]⟩, .slice none 0 0, .int .i64 0] := Blk.new _ _ _
      have HF1 : Hid (Blk ((W0.alloc (.cells #[.int .i64 0, .int .i64 0, .int .i64 0, .int .i64 0, .int .i64 0, .string ⟨#[]⟩, .slice none 0 0, .int .i64 0] 41)).setRow W0.heap.size #[.int .i64 4, .int .i64 0, .int .i64 0, .int .i64 0, .int .i64 0, .string ⟨#[]⟩, .slice none 0 0, .int .i64 0]) 41 W0.heap.size #[.int .i64 4, .int .i64 0, .int .i64 0, .int .i64 0, .int .i64 0, .string ⟨#[]⟩, .slice none 0 0, .int .i64 0]) := X1.setRow _
      have HB1 : Hid (Below w.heap.size w ((W0.alloc (.cells #[.int .i64 0, .int .i64 0, .int .i64 0, .int .i64 0, .int .i64 0, .string ⟨#[]⟩, .slice none 0 0, .int .i64 0] 41)).setRow W0.heap.size #[.int .i64 4, .int .i64 0, .int .i64 0, .int .i64 0, .int .i64 0, .string ⟨#[]⟩, .slice none 0 0, .int .i64 0])) := below_setRow (HB0.out.alloc HB0.out.size _) HB0.out.size _
      have HS1 : Hid (W0.heap.size + 1 ≤ ((W0.alloc (.cells #[.int .i64 0, .int .i64 0, .int .i64 0, .int .i64 0, .int .i64 0, .string ⟨#[]⟩, .slice none 0 0, .int .i64 0] 41)).setRow W0.heap.size #[.int .i64 4, .int .i64 0, .int .i64 0, .int .i64 0, .int .i64 0, .string ⟨#[]⟩, .slice none 0 0, .int .i64 0]).heap.size) := by show _ ≤ _; simp [World.setRow]
      obtain ⟨w1, hw1⟩ : ∃ w1, (W0.alloc (.cells #[.int .i64 0, .int .i64 0, .int .i64 0, .int .i64 0, .int .i64 0, .string ⟨#[]⟩, .slice none 0 0, .int .i64 0] 41)).setRow W0.heap.size #[.int .i64 4, .int .i64 0, .int .i64 0, .int .i64 0, .int .i64 0, .string ⟨#[]⟩, .slice none 0 0, .int .i64 0] = w1 := ⟨_, rfl⟩
      rw [hw1] at HF1 HB1 HS1
      clear hB0
      go_enter Tryd.func8, Tryd.ntmps8
      go_wp2_with (with_reducible refine wpList_storeBlk rfl 41 _ _ rfl W0.heap.size #[.int .i64 0, .int .i64 0, .int .i64 0, .int .i64 0, .int .i64 0, .string ⟨#[]⟩, .slice none 0 0, .int .i64 0] #[.int .i64 4, .int .i64 0, .int .i64 0, .int .i64 0, .int .i64 0, .string ⟨#[]⟩, .slice none 0 0, .int .i64 0] (by with_unfolding_all rfl) (by with_unfolding_all rfl) X1 rfl (by kernel_rfl) (by kernel_rfl) ?_)
      try rw [hw1]
      obtain ⟨h, hh⟩ : ∃ h, W0.heap.size = h := ⟨_, rfl⟩
      have HI1 : Hid (FiM w w1 h (h + 1) (.slice none 0 0) []) := by
        show FiM _ _ _ _ _ _
        rw [← hh]
        exact ⟨HB1.out, HF1.out, World.ownsRow_nil _ _ _ _, Nat.lt_succ_self _, HB0.out.size, HS1.out⟩
      try rw [hh]
      clear hw1 hh X1 HF1 HB1 HS1 HB0 m1 v1 hq0 hp0 e31 hand
      go_loopw [10] (fun i wr => ∃ k : Nat, k ≤ n ∧ i = .int .i64 k ∧ Hid (∃ v, FiM w wr h (h + 1) v (itsM b k))) (fun i _ => n - (intOf i).toNat)
      case atStart => exact ⟨0, Nat.zero_le _, rfl, ⟨_, HI1.out⟩⟩
      case round =>
        clear HI1
        obtain ⟨k, hk, rfl, HX⟩ := hrel
        obtain ⟨v, hI⟩ := HX.out
        obtain ⟨t1, t2, t3, t4, t5, t6⟩ := hI
        have HIk : Hid (FiM w wr h (h + 1) v (itsM b k)) := ⟨t1, t2, t3, t4, t5, t6⟩
        clear t1 t3 t4 t5 t6 HX
        by_cases hlt : k < n
        · have b0 : (k : Int) < (n : Int) := by omega
          have b2 : IntKind.i64.wrap ((k : Int) + 1) = (k : Int) + 1 := by rw [IntKind.wrap_i64]; omega
          have c6 : wr.cell? ⟨h, 6, none⟩ = some v := t2.cell 6
          have hown := HIk.out.2.2.1
          have hsz := HIk.out.2.2.2.2.2
          unfold OwnI19 at hown
          rw [itsM_len] at hown
          clear t2
          go_wp2_with (at_builtin; refine wpList_appR2 rfl (.tmp 37) (.tmp 42) 39 rfl (h + 1) 52 i0 _ 3 32 Tryd.underlying39 hi hz0 hz1 hz2 rfl (by decide) wr v _ _ rfl hown #[.int .i64 ((k : Int) + 1), .int .i64 1, .string b] rfl (itemA_one ((k : Int) + 1, 1, b)) rfl (by omega) (by unfold maxLen; omega) hsz ?_)
          intro v4 w4 hown4 hg4
          have HO4 : Hid (OwnI19 w4 (h + 1) v4 (itsM b (k + 1))) := by
            show OwnI19 _ _ _ _
            unfold OwnI19
            rw [itsM_len, show itsM b (k + 1) = itsM b k ++ [((k : Int) + 1, 1, b)] from rfl, cellsI_snoc]; exact hown4
          have HK4 : Hid (Blk w4 41 h #[.int .i64 4, .int .i64 0, .int .i64 0, .int .i64 0, .int .i64 0, .string ⟨#[]⟩, v, .int .i64 0]) := (HIk.out.2.1.on (below_new _ _)).grown hg4 (fun e => by have := (World.ownsRow.lt hown h e.symm).1; omega)
          have HB4 : Hid (Below w.heap.size w w4) := by
            have q1 := HIk.out.1
            have q2 := HIk.out.2.2.2.2.1
            exact below_grown (q1.alloc q1.size _) hg4 (fun j hj => by have := (World.ownsRow.lt hown j hj).1; omega)
          have HS4 : Hid (h + 1 ≤ w4.heap.size) := by have := hg4.size; rw [World.size_alloc] at this; show _ ≤ _; omega
          have c0 : w4.cell? ⟨h, 6, none⟩ = some _ := HK4.out.cell 6
          have c1 : w4.frozen? ⟨h, 6, none⟩ = false := HK4.out.free 6
          have HW5 : Hid (FiM w (w4.setCell ⟨h, 6, none⟩ v4) h (h + 1) v4 (itsM b (k + 1))) := by
            have q2 := HIk.out.2.2.2.2.1
            refine ⟨HB4.out.setCell (p := ⟨h, 6, none⟩) q2 _, HK4.out.setAt 6 v4, owns_same HO4.out (fun j hj => Below.heap_setCell w4 ⟨h, 6, none⟩ _ j (by have := (World.ownsRow.lt HO4.out j hj).1; show j ≠ h; omega)), Nat.lt_succ_self _, q2, Nat.le_trans HS4.out (grown_set w4 h 6 v4).size⟩
          obtain ⟨a4, n4, q4, hv4⟩ : ∃ a n q, v4 = .slice a n q := by
            obtain ⟨a, cap, e, _⟩ := HO4.out.rows
            exact ⟨_, _, _, e⟩
          subst hv4
          obtain ⟨W5, hW5⟩ : ∃ W5, w4.setCell ⟨h, 6, none⟩ (.slice a4 n4 q4) = W5 := ⟨_, rfl⟩
          rw [hW5] at HW5
          clear hown4 hg4 hown HO4 HK4 HB4 HS4 HIk c6 hsz
          go_wp2_with fail
          try rw [hW5]
          clear hW5 c0 c1
          refine ⟨?_, ?_⟩
          · first
            | exact ⟨k + 1, by omega, by go_num, ⟨_, HW5.out⟩⟩
            | ((repeat apply Exists.intro); refine ⟨?_, rfl⟩; exact ⟨k + 1, by omega, by go_num, ⟨_, HW5.out⟩⟩)
          · simp [intOf] <;> omega
        · obtain rfl : k = n := by omega
          have b0 : ¬ ((k : Int) < (k : Int)) := by omega
          obtain ⟨a, c, hv, hlc, hcm, hit⟩ := HIk.out.2.2.1.rows
          rw [itsM_len] at hv hlc hit
          subst hv
          have d0 : wr.cell? ⟨h, 0, none⟩ = some (.int .i64 4) := t2.cell 0
          have d1 : wr.cell? ⟨h, 1, none⟩ = some (.int .i64 0) := t2.cell 1
          have d2 : wr.cell? ⟨h, 2, none⟩ = some (.int .i64 0) := t2.cell 2
          have d3 : wr.cell? ⟨h, 3, none⟩ = some (.int .i64 0) := t2.cell 3
          have d4 : wr.cell? ⟨h, 4, none⟩ = some (.int .i64 0) := t2.cell 4
          have d5 : wr.cell? ⟨h, 5, none⟩ = some (.string ⟨#[]⟩) := t2.cell 5
          have d6 : wr.cell? ⟨h, 6, none⟩ = some (.slice a k c) := t2.cell 6
          have d7 : wr.cell? ⟨h, 7, none⟩ = some (.int .i64 0) := t2.cell 7
          have HIt : Hid (ItsAt wr a k (itsM b k)) := hit
          have HLC : Hid (k ≤ c) := hlc
          have HBr : Hid (Below w.heap.size w wr) := HIk.out.1
          have HFr : Hid (Blk wr 41 h #[.int .i64 4, .int .i64 0, .int .i64 0, .int .i64 0, .int .i64 0, .string ⟨#[]⟩, .slice a k c, .int .i64 0]) := t2
          clear hit hlc hcm t2 HIk
          go_wp2_with fail
          clear d0 d1 d2 d3 d4 d5 d6 d7
          refine (CP.out a c wr HIt.out).mono ?_
          rintro e w2 ⟨rfl, hb⟩
          have HB2 : Hid (Below w.heap.size w w2) := below_step HBr.out (Nat.le_refl _) hb
          have HF2 : Hid (Blk w2 41 h #[.int .i64 4, .int .i64 0, .int .i64 0, .int .i64 0, .int .i64 0, .string ⟨#[]⟩, .slice a k c, .int .i64 0]) := HFr.out.on hb
          have HI2 : Hid (ItsAt w2 a k (itsM b k)) := HIt.out.below hb
          clear hb HBr HFr HIt CP
          go_wp2_with fail
          refine (CA.out w2 HB2.out).mono ?_
          rintro e w3 ⟨rfl, hb⟩
          go_wp2_with fail
          go_ret
          exact ⟨rfl, hb⟩
  · have hand : bits .and .i64 z 1 = 1 := by rw [i64_mask z 1 (by decide) 1 (by decide)]; omega
    obtain ⟨m, hm⟩ : ∃ m : Nat, m = 19999 + p3 := ⟨_, rfl⟩
    have e19 : (19999 : Int) + (p3 : Int) = (m : Int) := by omega
    have m2 := make_zeros m (m : Int) rfl (by omega) Wa
    obtain ⟨W0, hW0⟩ : ∃ W0, Wa.alloc (.cells (zcells m) 5) = W0 := ⟨_, rfl⟩
    have hB0 : Below w.heap.size w W0 := by rw [← hW0]; exact hBa.alloc hBa.size _
    obtain ⟨b, hb⟩ : ∃ b, zeroB m = b := ⟨_, rfl⟩
    have hbm : b.size = m := by rw [← hb, zeroB_size]
    have v2 : (convert 54 9 (.slice (some ⟨Wa.heap.size, 0, none⟩) m m)).run Tryd.prog W0 = .ok (.string b) W0 := by rw [← hW0, ← hb]; exact conv_zeros (row_zeros m Wa)
    rw [hW0] at m2
    clear hWa hW0 hb hb1 hBa hz hn
    by_cases hbig : b.size ≤ 20000
    · have gb : ¬ ((20000 : Int) < (b.size : Int)) := by omega
      obtain ⟨S, hS, hSs⟩ := frmM_yes b 3 (by omega) (by omega) (by omega)
      have CP : Hid (∀ (a : Option Addr) (c : Nat) (W : World), ItsAt W a 3 (itsM b 3) → _) := manyP_any b 3 (by omega) (by omega) S 0 hS
      have CT : Hid (∀ (W : World), _) := manyT_any b 3 S hSs hS
      have CS : Hid (∀ (a a1 : Option Addr) (c c1 : Nat) (W : World), 3 ≤ c → 3 ≤ c1 → ItsAt W a 3 (itsM b 3) → ItsAt W a1 3 (itsM b 3) → _) := manyS_any b 3 (by omega)
      clear hS hSs
      clear hbm hm
      have HB0 : Hid (Below w.heap.size w W0) := hB0
      have X1 : Blk (W0.alloc (.cells #[.int .i64 0, .int .i64 0, .int .i64 0, .int .i64 0, .int .i64 0, .string ⟨#[]⟩, .slice none 0 0, .int .i64 0] 41)) 41 W0.heap.size #[.int .i64 0, .int .i64 0, .int .i64 0, .int .i64 0, .int .i64 0, .string ⟨#[]⟩, .slice none 0 0, .int .i64 0] := Blk.new _ _ _
      have HF1 : Hid (Blk ((W0.alloc (.cells #[.int .i64 0, .int .i64 0, .int .i64 0, .int .i64 0, .int .i64 0, .string ⟨#[]⟩, .slice none 0 0, .int .i64 0] 41)).setRow W0.heap.size #[.int .i64 4, .int .i64 0, .int .i64 0, .int .i64 0, .int .i64 0, .string ⟨#[]⟩, .slice none 0 0, .int .i64 0]) 41 W0.heap.size #[.int .i64 4, .int .i64 0, .int .i64 0, .int .i64 0, .int .i64 0, .string ⟨#[]⟩, .slice none 0 0, .int .i64 0]) := X1.setRow _
      have HB1 : Hid (Below w.heap.size w ((W0.alloc (.cells #[.int .i64 0, .int .i64 0, .int .i64 0, .int .i64 0, .int .i64 0, .string ⟨#[]⟩, .slice none 0 0, .int .i64 0] 41)).setRow W0.heap.size #[.int .i64 4, .int .i64 0, .int .i64 0, .int .i64 0, .int .i64 0, .string ⟨#[]⟩, .slice none 0 0, .int .i64 0])) := below_setRow (HB0.out.alloc HB0.out.size _) HB0.out.size _
      have HS1 : Hid (W0.heap.size + 1 ≤ ((W0.alloc (.cells #[.int .i64 0, .int .i64 0, .int .i64 0, .int .i64 0, .int .i64 0, .string ⟨#[]⟩, .slice none 0 0, .int .i64 0] 41)).setRow W0.heap.size #[.int .i64 4, .int .i64 0, .int .i64 0, .int .i64 0, .int .i64 0, .string ⟨#[]⟩, .slice none 0 0, .int .i64 0]).heap.size) := by show _ ≤ _; simp [World.setRow]
      obtain ⟨w1, hw1⟩ : ∃ w1, (W0.alloc (.cells #[.int .i64 0, .int .i64 0, .int .i64 0, .int .i64 0, .int .i64 0, .string ⟨#[]⟩, .slice none 0 0, .int .i64 0] 41)).setRow W0.heap.size #[.int .i64 4, .int .i64 0, .int .i64 0, .int .i64 0, .int .i64 0, .string ⟨#[]⟩, .slice none 0 0, .int .i64 0] = w1 := ⟨_, rfl⟩
      rw [hw1] at HF1 HB1 HS1
      clear hB0
      go_enter Tryd.func8, Tryd.ntmps8
      go_wp2_with (with_reducible refine wpList_storeBlk rfl 41 _ _ rfl W0.heap.size #[.int .i64 0, .int .i64 0, .int .i64 0, .int .i64 0, .int .i64 0, .string ⟨#[]⟩, .slice none 0 0, .int .i64 0] #[.int .i64 4, .int .i64 0, .int .i64 0, .int .i64 0, .int .i64 0, .string ⟨#[]⟩, .slice none 0 0, .int .i64 0] (by with_unfolding_all rfl) (by with_unfolding_all rfl) X1 rfl (by kernel_rfl) (by kernel_rfl) ?_)
      try rw [hw1]
      obtain ⟨h, hh⟩ : ∃ h, W0.heap.size = h := ⟨_, rfl⟩
      have HI1 : Hid (FiM w w1 h (h + 1) (.slice none 0 0) []) := by
        show FiM _ _ _ _ _ _
        rw [← hh]
        exact ⟨HB1.out, HF1.out, World.ownsRow_nil _ _ _ _, Nat.lt_succ_self _, HB0.out.size, HS1.out⟩
      try rw [hh]
      clear hw1 hh X1 HF1 HB1 HS1 HB0 m1 v1 m2 v2 hq0 hp0 hp30 e19 e31 hand
      go_loopw [10] (fun i wr => ∃ k : Nat, k ≤ 3 ∧ i = .int .i64 k ∧ Hid (∃ v, FiM w wr h (h + 1) v (itsM b k))) (fun i _ => 3 - (intOf i).toNat)
      case atStart => exact ⟨0, Nat.zero_le _, rfl, ⟨_, HI1.out⟩⟩
      case round =>
        clear HI1
        obtain ⟨k, hk, rfl, HX⟩ := hrel
        obtain ⟨v, hI⟩ := HX.out
        obtain ⟨t1, t2, t3, t4, t5, t6⟩ := hI
        have HIk : Hid (FiM w wr h (h + 1) v (itsM b k)) := ⟨t1, t2, t3, t4, t5, t6⟩
        clear t1 t3 t4 t5 t6 HX
        by_cases hlt : k < 3
        · have b0 : (k : Int) < 3 := by omega
          have b2 : IntKind.i64.wrap ((k : Int) + 1) = (k : Int) + 1 := by rw [IntKind.wrap_i64]; omega
          have c6 : wr.cell? ⟨h, 6, none⟩ = some v := t2.cell 6
          have hown := HIk.out.2.2.1
          have hsz := HIk.out.2.2.2.2.2
          unfold OwnI19 at hown
          rw [itsM_len] at hown
          clear t2
          go_wp2_with (at_builtin; refine wpList_appR2 rfl (.tmp 37) (.tmp 42) 39 rfl (h + 1) 52 i0 _ 3 32 Tryd.underlying39 hi hz0 hz1 hz2 rfl (by decide) wr v _ _ rfl hown #[.int .i64 ((k : Int) + 1), .int .i64 1, .string b] rfl (itemA_one ((k : Int) + 1, 1, b)) rfl (by omega) (by unfold maxLen; omega) hsz ?_)
          intro v4 w4 hown4 hg4
          have HO4 : Hid (OwnI19 w4 (h + 1) v4 (itsM b (k + 1))) := by
            show OwnI19 _ _ _ _
            unfold OwnI19
            rw [itsM_len, show itsM b (k + 1) = itsM b k ++ [((k : Int) + 1, 1, b)] from rfl, cellsI_snoc]; exact hown4
          have HK4 : Hid (Blk w4 41 h #[.int .i64 4, .int .i64 0, .int .i64 0, .int .i64 0, .int .i64 0, .string ⟨#[]⟩, v, .int .i64 0]) := (HIk.out.2.1.on (below_new _ _)).grown hg4 (fun e => by have := (World.ownsRow.lt hown h e.symm).1; omega)
          have HB4 : Hid (Below w.heap.size w w4) := by
            have q1 := HIk.out.1
            have q2 := HIk.out.2.2.2.2.1
            exact below_grown (q1.alloc q1.size _) hg4 (fun j hj => by have := (World.ownsRow.lt hown j hj).1; omega)
          have HS4 : Hid (h + 1 ≤ w4.heap.size) := by have := hg4.size; rw [World.size_alloc] at this; show _ ≤ _; omega
          have c0 : w4.cell? ⟨h, 6, none⟩ = some _ := HK4.out.cell 6
          have c1 : w4.frozen? ⟨h, 6, none⟩ = false := HK4.out.free 6
          have HW5 : Hid (FiM w (w4.setCell ⟨h, 6, none⟩ v4) h (h + 1) v4 (itsM b (k + 1))) := by
            have q2 := HIk.out.2.2.2.2.1
            refine ⟨HB4.out.setCell (p := ⟨h, 6, none⟩) q2 _, HK4.out.setAt 6 v4, owns_same HO4.out (fun j hj => Below.heap_setCell w4 ⟨h, 6, none⟩ _ j (by have := (World.ownsRow.lt HO4.out j hj).1; show j ≠ h; omega)), Nat.lt_succ_self _, q2, Nat.le_trans HS4.out (grown_set w4 h 6 v4).size⟩
          obtain ⟨a4, n4, q4, hv4⟩ : ∃ a n q, v4 = .slice a n q := by
            obtain ⟨a, cap, e, _⟩ := HO4.out.rows
            exact ⟨_, _, _, e⟩
          subst hv4
          obtain ⟨W5, hW5⟩ : ∃ W5, w4.setCell ⟨h, 6, none⟩ (.slice a4 n4 q4) = W5 := ⟨_, rfl⟩
          rw [hW5] at HW5
          clear hown4 hg4 hown HO4 HK4 HB4 HS4 HIk c6 hsz
          go_wp2_with fail
          try rw [hW5]
          clear hW5 c0 c1
          refine ⟨?_, ?_⟩
          · first
            | exact ⟨k + 1, by omega, by go_num, ⟨_, HW5.out⟩⟩
            | ((repeat apply Exists.intro); refine ⟨?_, rfl⟩; exact ⟨k + 1, by omega, by go_num, ⟨_, HW5.out⟩⟩)
          · simp [intOf] <;> omega
        · obtain rfl : k = 3 := by omega
          obtain ⟨a, c, hv, hlc, hcm, hit⟩ := HIk.out.2.2.1.rows
          rw [itsM_len] at hv hlc hit
          subst hv
          have d0 : wr.cell? ⟨h, 0, none⟩ = some (.int .i64 4) := t2.cell 0
          have d1 : wr.cell? ⟨h, 1, none⟩ = some (.int .i64 0) := t2.cell 1
          have d2 : wr.cell? ⟨h, 2, none⟩ = some (.int .i64 0) := t2.cell 2
          have d3 : wr.cell? ⟨h, 3, none⟩ = some (.int .i64 0) := t2.cell 3
          have d4 : wr.cell? ⟨h, 4, none⟩ = some (.int .i64 0) := t2.cell 4
          have d5 : wr.cell? ⟨h, 5, none⟩ = some (.string ⟨#[]⟩) := t2.cell 5
          have d6 : wr.cell? ⟨h, 6, none⟩ = some (.slice a 3 c) := t2.cell 6
          have d7 : wr.cell? ⟨h, 7, none⟩ = some (.int .i64 0) := t2.cell 7
          have HIt : Hid (ItsAt wr a 3 (itsM b 3)) := hit
          have HLC : Hid (3 ≤ c) := hlc
          have HBr : Hid (Below w.heap.size w wr) := HIk.out.1
          have HFr : Hid (Blk wr 41 h #[.int .i64 4, .int .i64 0, .int .i64 0, .int .i64 0, .int .i64 0, .string ⟨#[]⟩, .slice a 3 c, .int .i64 0]) := t2
          clear hit hlc hcm t2 HIk
          go_wp2_with fail
          clear d0 d1 d2 d3 d4 d5 d6 d7
          refine (CP.out a c wr HIt.out).mono ?_
          rintro e w2 ⟨rfl, hb⟩
          have HB2 : Hid (Below w.heap.size w w2) := below_step HBr.out (Nat.le_refl _) hb
          have HF2 : Hid (Blk w2 41 h #[.int .i64 4, .int .i64 0, .int .i64 0, .int .i64 0, .int .i64 0, .string ⟨#[]⟩, .slice a 3 c, .int .i64 0]) := HFr.out.on hb
          have HI2 : Hid (ItsAt w2 a 3 (itsM b 3)) := HIt.out.below hb
          clear hb HBr HFr HIt CP
          go_wp2_with fail
          refine (CT.out w2).mono ?_
          rintro e w3 ⟨a1, c1, rfl, hc1, hi1, hb⟩
          have HB3 : Hid (Below w.heap.size w w3) := below_step HB2.out (Nat.le_refl _) hb
          have hF3 : Blk w3 41 h #[.int .i64 4, .int .i64 0, .int .i64 0, .int .i64 0, .int .i64 0, .string ⟨#[]⟩, .slice a 3 c, .int .i64 0] := HF2.out.on hb
          have HI3 : Hid (ItsAt w3 a 3 (itsM b 3)) := HI2.out.below hb
          have HJ3 : Hid (ItsAt w3 a1 3 (itsM b 3)) := hi1
          have HC1 : Hid (3 ≤ c1) := hc1
          clear hb HB2 HF2 HI2 CT hi1 hc1
          have X2 : Blk (w3.alloc (.cells #[.int .i64 0, .int .i64 0, .int .i64 0, .int .i64 0, .int .i64 0, .string ⟨#[]⟩, .slice none 0 0, .int .i64 0] 41)) 41 w3.heap.size #[.int .i64 0, .int .i64 0, .int .i64 0, .int .i64 0, .int .i64 0, .string ⟨#[]⟩, .slice none 0 0, .int .i64 0] := Blk.new _ _ _
          have hG4 : Blk ((w3.alloc (.cells #[.int .i64 0, .int .i64 0, .int .i64 0, .int .i64 0, .int .i64 0, .string ⟨#[]⟩, .slice none 0 0, .int .i64 0] 41)).setRow w3.heap.size #[.int .i64 4, .int .i64 0, .int .i64 0, .int .i64 0, .int .i64 0, .string ⟨#[]⟩, .slice a1 3 c1, .int .i64 0]) 41 w3.heap.size #[.int .i64 4, .int .i64 0, .int .i64 0, .int .i64 0, .int .i64 0, .string ⟨#[]⟩, .slice a1 3 c1, .int .i64 0] := X2.setRow _
          have hb4 : Below w3.heap.size w3 ((w3.alloc (.cells #[.int .i64 0, .int .i64 0, .int .i64 0, .int .i64 0, .int .i64 0, .string ⟨#[]⟩, .slice none 0 0, .int .i64 0] 41)).setRow w3.heap.size #[.int .i64 4, .int .i64 0, .int .i64 0, .int .i64 0, .int .i64 0, .string ⟨#[]⟩, .slice a1 3 c1, .int .i64 0]) := below_setRow (below_new _ _) (Nat.le_refl _) _
          obtain ⟨w4, hw4⟩ : ∃ w4, (w3.alloc (.cells #[.int .i64 0, .int .i64 0, .int .i64 0, .int .i64 0, .int .i64 0, .string ⟨#[]⟩, .slice none 0 0, .int .i64 0] 41)).setRow w3.heap.size #[.int .i64 4, .int .i64 0, .int .i64 0, .int .i64 0, .int .i64 0, .string ⟨#[]⟩, .slice a1 3 c1, .int .i64 0] = w4 := ⟨_, rfl⟩
          rw [hw4] at hG4 hb4
          have HB4 : Hid (Below w.heap.size w w4) := below_step HB3.out (Nat.le_refl _) hb4
          have hF4 : Blk w4 41 h #[.int .i64 4, .int .i64 0, .int .i64 0, .int .i64 0, .int .i64 0, .string ⟨#[]⟩, .slice a 3 c, .int .i64 0] := hF3.on hb4
          have HI4 : Hid (ItsAt w4 a 3 (itsM b 3)) := HI3.out.below hb4
          have HJ4 : Hid (ItsAt w4 a1 3 (itsM b 3)) := HJ3.out.below hb4
          have d0 : w4.cell? ⟨h, 0, none⟩ = some (.int .i64 4) := hF4.cell 0
          have d1 : w4.cell? ⟨h, 1, none⟩ = some (.int .i64 0) := hF4.cell 1
          have d2 : w4.cell? ⟨h, 2, none⟩ = some (.int .i64 0) := hF4.cell 2
          have d3 : w4.cell? ⟨h, 3, none⟩ = some (.int .i64 0) := hF4.cell 3
          have d4 : w4.cell? ⟨h, 4, none⟩ = some (.int .i64 0) := hF4.cell 4
          have d5 : w4.cell? ⟨h, 5, none⟩ = some (.string ⟨#[]⟩) := hF4.cell 5
          have d6 : w4.cell? ⟨h, 6, none⟩ = some (.slice a 3 c) := hF4.cell 6
          have d7 : w4.cell? ⟨h, 7, none⟩ = some (.int .i64 0) := hF4.cell 7
          have e0 : w4.cell? ⟨w3.heap.size, 0, none⟩ = some (.int .i64 4) := hG4.cell 0
          have e1 : w4.cell? ⟨w3.heap.size, 1, none⟩ = some (.int .i64 0) := hG4.cell 1
          have e2 : w4.cell? ⟨w3.heap.size, 2, none⟩ = some (.int .i64 0) := hG4.cell 2
          have e3 : w4.cell? ⟨w3.heap.size, 3, none⟩ = some (.int .i64 0) := hG4.cell 3
          have e4 : w4.cell? ⟨w3.heap.size, 4, none⟩ = some (.int .i64 0) := hG4.cell 4
          have e5 : w4.cell? ⟨w3.heap.size, 5, none⟩ = some (.string ⟨#[]⟩) := hG4.cell 5
          have e6 : w4.cell? ⟨w3.heap.size, 6, none⟩ = some (.slice a1 3 c1) := hG4.cell 6
          have e7 : w4.cell? ⟨w3.heap.size, 7, none⟩ = some (.int .i64 0) := hG4.cell 7
          clear hb4 HB3 HI3 HJ3 hF3 hF4 hG4
          go_wp2_with (with_reducible refine wpList_storeBlk rfl 41 _ _ rfl w3.heap.size #[.int .i64 0, .int .i64 0, .int .i64 0, .int .i64 0, .int .i64 0, .string ⟨#[]⟩, .slice none 0 0, .int .i64 0] #[.int .i64 4, .int .i64 0, .int .i64 0, .int .i64 0, .int .i64 0, .string ⟨#[]⟩, .slice a1 3 c1, .int .i64 0] (by with_unfolding_all rfl) (by with_unfolding_all rfl) X2 rfl (by kernel_rfl) (by kernel_rfl) ?_)
          try rw [hw4]
          clear hw4 X2 d0 e0 d1 e1 d2 e2 d3 e3 d4 e4 d5 e5 d6 e6 d7 e7
          refine (CS.out a a1 c c1 w4 HLC.out HC1.out HI4.out HJ4.out).mono ?_
          rintro e w5 ⟨rfl, hb⟩
          have HB5 : Hid (Below w.heap.size w w5) := below_step HB4.out (Nat.le_refl _) hb
          clear hb HB4 CS
          go_wp2_with fail
          refine (CA.out w5 HB5.out).mono ?_
          rintro e w6 ⟨rfl, hb⟩
          go_wp2_with fail
          go_ret
          exact ⟨rfl, hb⟩
    · have gb : (20000 : Int) < (b.size : Int) := by omega
      have CP : Hid (∀ (a : Option Addr) (c : Nat) (W : World), ItsAt W a 3 (itsM b 3) → _) := manyP_any b 3 (by omega) (by omega) ⟨#[]⟩ 1 (frmM_no b 3 (.inr ⟨by decide, by omega⟩))
      clear hbm hbig hm
      have HB0 : Hid (Below w.heap.size w W0) := hB0
      have X1 : Blk (W0.alloc (.cells #[.int .i64 0, .int .i64 0, .int .i64 0, .int .i64 0, .int .i64 0, .string ⟨#[]⟩, .slice none 0 0, .int .i64 0] 41)) 41 W0.heap.size #[.int .i64 0, .int .i64 0, .int .i64 0, .int .i64 0, .int .i64 0, .string ⟨#[]⟩, .slice none 0 0, .int .i64 0] := Blk.new _ _ _
      have HF1 : Hid (Blk ((W0.alloc (.cells #[.int .i64 0, .int .i64 0, .int .i64 0, .int .i64 0, .int .i64 0, .string ⟨#[]⟩, .slice none 0 0, .int .i64 0] 41)).setRow W0.heap.size #[.int .i64 4, .int .i64 0, .int .i64 0, .int .i64 0, .int .i64 0, .string ⟨#[]⟩, .slice none 0 0, .int .i64 0]) 41 W0.heap.size #[.int .i64 4, .int .i64 0, .int .i64 0, .int .i64 0, .int .i64 0, .string ⟨#[]⟩, .slice none 0 0, .int .i64 0]) := X1.setRow _
      have HB1 : Hid (Below w.heap.size w ((W0.alloc (.cells #[.int .i64 0, .int .i64 0, .int .i64 0, .int .i64 0, .int .i64 0, .string ⟨#[]⟩, .slice none 0 0, .int .i64 0] 41)).setRow W0.heap.size #[.int .i64 4, .int .i64 0, .int .i64 0, .int .i64 0, .int .i64 0, .string ⟨#[]⟩, .slice none 0 0, .int .i64 0])) := below_setRow (HB0.out.alloc HB0.out.size _) HB0.out.size _
      have HS1 : Hid (W0.heap.size + 1 ≤ ((W0.alloc (.cells #[.int .i64 0, .int .i64 0, .int .i64 0, .int .i64 0, .int .i64 0, .string ⟨#[]⟩, .slice none 0 0, .int .i64 0] 41)).setRow W0.heap.size #[.int .i64 4, .int .i64 0, .int .i64 0, .int .i64 0, .int .i64 0, .string ⟨#[]⟩, .slice none 0 0, .int .i64 0]).heap.size) := by show _ ≤ _; simp [World.setRow]
      obtain ⟨w1, hw1⟩ : ∃ w1, (W0.alloc (.cells #[.int .i64 0, .int .i64 0, .int .i64 0, .int .i64 0, .int .i64 0, .string ⟨#[]⟩, .slice none 0 0, .int .i64 0] 41)).setRow W0.heap.size #[.int .i64 4, .int .i64 0, .int .i64 0, .int .i64 0, .int .i64 0, .string ⟨#[]⟩, .slice none 0 0, .int .i64 0] = w1 := ⟨_, rfl⟩
      rw [hw1] at HF1 HB1 HS1
      clear hB0
      go_enter Tryd.func8, Tryd.ntmps8
      go_wp2_with (with_reducible refine wpList_storeBlk rfl 41 _ _ rfl W0.heap.size #[.int .i64 0, .int .i64 0, .int .i64 0, .int .i64 0, .int .i64 0, .string ⟨#[]⟩, .slice none 0 0, .int .i64 0] #[.int .i64 4, .int .i64 0, .int .i64 0, .int .i64 0, .int .i64 0, .string ⟨#[]⟩, .slice none 0 0, .int .i64 0] (by with_unfolding_all rfl) (by with_unfolding_all rfl) X1 rfl (by kernel_rfl) (by kernel_rfl) ?_)
      try rw [hw1]
      obtain ⟨h, hh⟩ : ∃ h, W0.heap.size = h := ⟨_, rfl⟩
      have HI1 : Hid (FiM w w1 h (h + 1) (.slice none 0 0) []) := by
        show FiM _ _ _ _ _ _
        rw [← hh]
        exact ⟨HB1.out, HF1.out, World.ownsRow_nil _ _ _ _, Nat.lt_succ_self _, HB0.out.size, HS1.out⟩
      try rw [hh]
      clear hw1 hh X1 HF1 HB1 HS1 HB0 m1 v1 m2 v2 hq0 hp0 hp30 e19 e31 hand
      go_loopw [10] (fun i wr => ∃ k : Nat, k ≤ 3 ∧ i = .int .i64 k ∧ Hid (∃ v, FiM w wr h (h + 1) v (itsM b k))) (fun i _ => 3 - (intOf i).toNat)
      case atStart => exact ⟨0, Nat.zero_le _, rfl, ⟨_, HI1.out⟩⟩
      case round =>
        clear HI1
        obtain ⟨k, hk, rfl, HX⟩ := hrel
        obtain ⟨v, hI⟩ := HX.out
        obtain ⟨t1, t2, t3, t4, t5, t6⟩ := hI
        have HIk : Hid (FiM w wr h (h + 1) v (itsM b k)) := ⟨t1, t2, t3, t4, t5, t6⟩
        clear t1 t3 t4 t5 t6 HX
        by_cases hlt : k < 3
        · have b0 : (k : Int) < 3 := by omega
          have b2 : IntKind.i64.wrap ((k : Int) + 1) = (k : Int) + 1 := by rw [IntKind.wrap_i64]; omega
          have c6 : wr.cell? ⟨h, 6, none⟩ = some v := t2.cell 6
          have hown := HIk.out.2.2.1
          have hsz := HIk.out.2.2.2.2.2
          unfold OwnI19 at hown
          rw [itsM_len] at hown
          clear t2
          go_wp2_with (at_builtin; refine wpList_appR2 rfl (.tmp 37) (.tmp 42) 39 rfl (h + 1) 52 i0 _ 3 32 Tryd.underlying39 hi hz0 hz1 hz2 rfl (by decide) wr v _ _ rfl hown #[.int .i64 ((k : Int) + 1), .int .i64 1, .string b] rfl (itemA_one ((k : Int) + 1, 1, b)) rfl (by omega) (by unfold maxLen; omega) hsz ?_)
          intro v4 w4 hown4 hg4
          have HO4 : Hid (OwnI19 w4 (h + 1) v4 (itsM b (k + 1))) := by
            show OwnI19 _ _ _ _
            unfold OwnI19
            rw [itsM_len, show itsM b (k + 1) = itsM b k ++ [((k : Int) + 1, 1, b)] from rfl, cellsI_snoc]; exact hown4
          have HK4 : Hid (Blk w4 41 h #[.int .i64 4, .int .i64 0, .int .i64 0, .int .i64 0, .int .i64 0, .string ⟨#[]⟩, v, .int .i64 0]) := (HIk.out.2.1.on (below_new _ _)).grown hg4 (fun e => by have := (World.ownsRow.lt hown h e.symm).1; omega)
          have HB4 : Hid (Below w.heap.size w w4) := by
            have q1 := HIk.out.1
            have q2 := HIk.out.2.2.2.2.1
            exact below_grown (q1.alloc q1.size _) hg4 (fun j hj => by have := (World.ownsRow.lt hown j hj).1; omega)
          have HS4 : Hid (h + 1 ≤ w4.heap.size) := by have := hg4.size; rw [World.size_alloc] at this; show _ ≤ _; omega
          have c0 : w4.cell? ⟨h, 6, none⟩ = some _ := HK4.out.cell 6
          have c1 : w4.frozen? ⟨h, 6, none⟩ = false := HK4.out.free 6
          have HW5 : Hid (FiM w (w4.setCell ⟨h, 6, none⟩ v4) h (h + 1) v4 (itsM b (k + 1))) := by
            have q2 := HIk.out.2.2.2.2.1
            refine ⟨HB4.out.setCell (p := ⟨h, 6, none⟩) q2 _, HK4.out.setAt 6 v4, owns_same HO4.out (fun j hj => Below.heap_setCell w4 ⟨h, 6, none⟩ _ j (by have := (World.ownsRow.lt HO4.out j hj).1; show j ≠ h; omega)), Nat.lt_succ_self _, q2, Nat.le_trans HS4.out (grown_set w4 h 6 v4).size⟩
          obtain ⟨a4, n4, q4, hv4⟩ : ∃ a n q, v4 = .slice a n q := by
            obtain ⟨a, cap, e, _⟩ := HO4.out.rows
            exact ⟨_, _, _, e⟩
          subst hv4
          obtain ⟨W5, hW5⟩ : ∃ W5, w4.setCell ⟨h, 6, none⟩ (.slice a4 n4 q4) = W5 := ⟨_, rfl⟩
          rw [hW5] at HW5
          clear hown4 hg4 hown HO4 HK4 HB4 HS4 HIk c6 hsz
          go_wp2_with fail
          try rw [hW5]
          clear hW5 c0 c1
          refine ⟨?_, ?_⟩
          · first
            | exact ⟨k + 1, by omega, by go_num, ⟨_, HW5.out⟩⟩
            | ((repeat apply Exists.intro); refine ⟨?_, rfl⟩; exact ⟨k + 1, by omega, by go_num, ⟨_, HW5.out⟩⟩)
          · simp [intOf] <;> omega
        · obtain rfl : k = 3 := by omega
          obtain ⟨a, c, hv, hlc, hcm, hit⟩ := HIk.out.2.2.1.rows
          rw [itsM_len] at hv hlc hit
          subst hv
          have d0 : wr.cell? ⟨h, 0, none⟩ = some (.int .i64 4) := t2.cell 0
          have d1 : wr.cell? ⟨h, 1, none⟩ = some (.int .i64 0) := t2.cell 1
          have d2 : wr.cell? ⟨h, 2, none⟩ = some (.int .i64 0) := t2.cell 2
          have d3 : wr.cell? ⟨h, 3, none⟩ = some (.int .i64 0) := t2.cell 3
          have d4 : wr.cell? ⟨h, 4, none⟩ = some (.int .i64 0) := t2.cell 4
          have d5 : wr.cell? ⟨h, 5, none⟩ = some (.string ⟨#[]⟩) := t2.cell 5
          have d6 : wr.cell? ⟨h, 6, none⟩ = some (.slice a 3 c) := t2.cell 6
          have d7 : wr.cell? ⟨h, 7, none⟩ = some (.int .i64 0) := t2.cell 7
          have HIt : Hid (ItsAt wr a 3 (itsM b 3)) := hit
          have HLC : Hid (3 ≤ c) := hlc
          have HBr : Hid (Below w.heap.size w wr) := HIk.out.1
          have HFr : Hid (Blk wr 41 h #[.int .i64 4, .int .i64 0, .int .i64 0, .int .i64 0, .int .i64 0, .string ⟨#[]⟩, .slice a 3 c, .int .i64 0]) := t2
          clear hit hlc hcm t2 HIk
          go_wp2_with fail
          clear d0 d1 d2 d3 d4 d5 d6 d7
          refine (CP.out a c wr HIt.out).mono ?_
          rintro e w2 ⟨rfl, hb⟩
          have HB2 : Hid (Below w.heap.size w w2) := below_step HBr.out (Nat.le_refl _) hb
          have HF2 : Hid (Blk w2 41 h #[.int .i64 4, .int .i64 0, .int .i64 0, .int .i64 0, .int .i64 0, .string ⟨#[]⟩, .slice a 3 c, .int .i64 0]) := HFr.out.on hb
          have HI2 : Hid (ItsAt w2 a 3 (itsM b 3)) := HIt.out.below hb
          clear hb HBr HFr HIt CP
          go_wp2_with fail
          refine (CA.out w2 HB2.out).mono ?_
          rintro e w3 ⟨rfl, hb⟩
          go_wp2_with fail
          go_ret
          exact ⟨rfl, hb⟩

end Go.Proofs.YtmjjpfinkpfifaaDoor
