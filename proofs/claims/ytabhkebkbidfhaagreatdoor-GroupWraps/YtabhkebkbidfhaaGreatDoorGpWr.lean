import Derived.Test.YtabhkebkbidfhaaGreatDoorGpW
import Derived.Test.YtabhkebkbidfhaaGreatDoorKyD
import Derived.Test.YtabhkebkbidfhaaGreatDoorRKyB
import Derived.Test.YtabhkebkbidfhaaGreatDoorBA
/- Layer 20: Wraps, the code's and the document's. -/
namespace Go.Proofs.YtabhkebkbidfhaaGreatDoor
open Go.RowKit
set_option maxRecDepth 100000
set_option linter.unusedSimpArgs false
set_option linter.unusedVariables false
set_option maxRecDepth 100000

theorem Tryz.infoWrap : (Tryz.prog.info? 33).map (fun i => (i.zero, i.size, i.bytes)) = some (some (.agg #[.int .i64 0, .string ⟨#[]⟩]), 2, 24) := by kernel_rfl
def wrapV (x : Int × ByteArray) : Array Value := #[.int .i64 x.1, .string x.2]
def cellsWr (l : List (Int × ByteArray)) : List Value := l.flatMap (fun x => (wrapV x).toList)
theorem cellsWr_at (l : List (Int × ByteArray)) : ∀ i, i < l.length → ∀ j, j < 2 → ∃ u, (wrapV (wrL l i))[j]? = some u ∧ (cellsWr l)[i * 2 + j]? = some u := by
  induction l with
  | nil => intro i hi; exact absurd hi (Nat.not_lt_zero _)
  | cons x l ih =>
    intro i hi j hj
    have hs : (wrapV x).toList.length = 2 := rfl
    cases i with
    | zero =>
      refine ⟨(wrapV x)[j]'(by show j < 2; exact hj), ?_, ?_⟩
      · show (wrapV x)[j]? = _
        exact Array.getElem?_eq_getElem _
      · show ((wrapV x).toList ++ cellsWr l)[0 * 2 + j]? = _
        rw [Nat.zero_mul, Nat.zero_add, List.getElem?_append_left (by rw [hs]; exact hj), Array.getElem?_toList]
        exact Array.getElem?_eq_getElem _
    | succ i =>
      obtain ⟨u, h1, h2⟩ := ih i (by simp at hi; omega) j hj
      refine ⟨u, ?_, ?_⟩
      · have : wrL (x :: l) (i + 1) = wrL l i := rfl
        rw [this]; exact h1
      · show ((wrapV x).toList ++ cellsWr l)[(i + 1) * 2 + j]? = _
        rw [List.getElem?_append_right (by rw [hs]; omega), hs, show (i + 1) * 2 + j - 2 = i * 2 + j by omega]
        exact h2
def OwnWr (w : World) (B : Nat) (v : Value) (l : List (Int × ByteArray)) : Prop := w.ownsRow B 33 2 v l.length (cellsWr l)
theorem OwnWr.rows {w : World} {B : Nat} {v : Value} {l : List (Int × ByteArray)} (h : OwnWr w B v l) : ∃ a cap, v = .slice a l.length cap ∧ WrAt w a l.length l := by
  obtain ⟨a, cap, hv, hr⟩ := rows_of_owns h (cellsWr_at l)
  refine ⟨a, cap, hv, rfl, hr.imp id (fun ⟨b, off, e, hc⟩ => ⟨b, off, e, fun i hi => ?_⟩)⟩
  obtain ⟨u0, a0, b0⟩ := hc i hi 0 (by decide)
  obtain ⟨u1, a1, b1⟩ := hc i hi 1 (by decide)
  cases a0
  cases a1
  exact ⟨b0, b1⟩
theorem cellsWr_snoc (l : List (Int × ByteArray)) (x : Int × ByteArray) : cellsWr (l ++ [x]) = cellsWr l ++ (wrapV x).toList := by
  unfold cellsWr
  rw [List.flatMap_append]
  simp
theorem wrapV_one (x : Int × ByteArray) : ∀ u ∈ (wrapV x).toList, u.oneCell' = true := by
  intro u hu
  simp [wrapV] at hu
  rcases hu with rfl | rfl <;> rfl

/-- The wraps of the first k members. -/
def wrK (Ep : Int) (own : List ByteArray) (key : ByteArray) (l : List MemT) : Nat → List (Int × ByteArray)
  | 0 => []
  | k + 1 => if (mmL l k).2.2 = true then wrK Ep own key l k ++ [((k : Int) + 1, wrapB (strL own k) ((k : Int) + 1) Ep key)] else wrK Ep own key l k
theorem wrK_len (Ep : Int) (own : List ByteArray) (key : ByteArray) (l : List MemT) (k : Nat) : (wrK Ep own key l k).length ≤ k := by
  induction k with
  | zero => exact Nat.le_refl _
  | succ k ih =>
    show (if _ then _ else _ : List _).length ≤ _
    by_cases h : (mmL l k).2.2 = true
    · rw [if_pos h, List.length_append]; simp; omega
    · rw [if_neg h]; omega
/-- What each wrap is. -/
theorem wrK_at (Ep : Int) (own : List ByteArray) (key : ByteArray) (l : List MemT) (k : Nat) : ∀ x ∈ wrK Ep own key l k, ∃ j, j < k ∧ (mmL l j).2.2 = true ∧ x = ((j : Int) + 1, wrapB (strL own j) ((j : Int) + 1) Ep key) := by
  induction k with
  | zero => intro x hx; cases hx
  | succ k ih =>
    intro x hx
    have hx' : x ∈ (if (mmL l k).2.2 = true then wrK Ep own key l k ++ [((k : Int) + 1, wrapB (strL own k) ((k : Int) + 1) Ep key)] else wrK Ep own key l k) := hx
    by_cases h : (mmL l k).2.2 = true
    · rw [if_pos h] at hx'
      rcases List.mem_append.1 hx' with e | e
      · obtain ⟨j, h1, h2, h3⟩ := ih x e; exact ⟨j, by omega, h2, h3⟩
      · exact ⟨k, by omega, h, List.mem_singleton.1 e⟩
    · rw [if_neg h] at hx'
      obtain ⟨j, h1, h2, h3⟩ := ih x hx'; exact ⟨j, by omega, h2, h3⟩
/-- Has each that is in a key, and is it one? -/
def OneK (n : Nat) (own : List ByteArray) (key : ByteArray) (l : List MemT) (j : Nat) : Prop := (mmL l j).2.2 = true → j < n ∧ (strL own j).size = 32 ∧ key.size = 32
def OkW (G : GrpT) (own : List ByteArray) (key : ByteArray) : Prop := MayG G ∧ ∀ j, j < 6 → OneK own.length own key G.2.1 j
theorem OkW.key {G : GrpT} {own : List ByteArray} {key : ByteArray} (h : OkW G own key) : key.size = 32 := (h.2 0 (by decide) ((h.1.2.2.2 0 (by decide)).2.2.2 rfl)).2.2

/-- What is answered. -/
def WrOut (w : World) (D : Bool) (L : List (Int × ByteArray)) (e : Ending) (w' : World) : Prop :=
  ((D = false ∧ e = .returned (.tuple #[.slice none 0 0, .int .i64 1])) ∨ (D = true ∧ ∃ v, e = .returned (.tuple #[v, .int .i64 0]) ∧ OwnWr w' w.heap.size v L)) ∧ Below w.heap.size w w'

set_option maxHeartbeats 8000000 in
theorem wraps20_any (G : GrpT) (a : Option Addr) (c : Nat) (own : List ByteArray) (ao : Option Addr) (no co : Nat) (key : ByteArray) (w : World) (D : Bool) (hD : D = true ↔ OkW G own key) (hT : Tabs w) (hn : G.2.1.length ≤ 1048576) (hno : no ≤ 1048576) (hI : MmsAt w a G.2.1.length G.2.1) (hO : StrsAt w ao no own) :
    Calls Tryz.prog 6 #[.agg (grpA G a c), .slice ao no co, .string key] w fun e w' => WrOut w D (wrK G.1 own key G.2.1 6) e w' := by
  obtain ⟨i0, hi, hz0, hz1, hz2⟩ := info_parts Tryz.infoWrap
  have CHG : ∀ W, Below w.heap.size w W → _ := fun W hW => check20_any G a c W (mayGb G) (mayGb_iff G) hn (hI.below hW)
  have hMG := mayGb_iff G
  obtain ⟨X, hX⟩ : ∃ X : Bool, mayGb G = X := ⟨_, rfl⟩
  rw [hX] at CHG hMG
  obtain ⟨Ep, l, Op⟩ := G
  simp only [grpA] at CHG hI hn ⊢
  obtain ⟨L6, hL6⟩ : ∃ L6, wrK Ep own key l 6 = L6 := ⟨_, rfl⟩
  rw [hL6]
  have HL6 : Hid (wrK Ep own key l 6 = L6) := hL6
  have HD : Hid (D = true ↔ OkW (Ep, l, Op) own key) := hD
  have HMG : Hid (X = true ↔ MayG (Ep, l, Op)) := hMG
  obtain ⟨n, hnn⟩ : ∃ n, l.length = n := ⟨_, rfl⟩
  simp only [hnn] at CHG hI hn ⊢
  have HHG : Hid (∀ W, Below w.heap.size w W → _) := CHG
  have HI : Hid (MmsAt w a n l) := hI
  have HO : Hid (StrsAt w ao no own) := hO
  have HT : Hid (Tabs w) := hT
  clear CHG hD hMG hX hI hO hT hnn hL6
  have HB0 : Hid (Below w.heap.size w (w.alloc (.cells #[.int .i64 Ep, .slice a n c, .int .i64 Op] 24))) := below_new _ _
  have HK0 : Hid (Blk (w.alloc (.cells #[.int .i64 Ep, .slice a n c, .int .i64 Op] 24)) 24 w.heap.size #[.int .i64 Ep, .slice a n c, .int .i64 Op]) := Blk.new _ _ _
  go_enter Tryz.func6, Tryz.ntmps6
  go_wp2_with fail
  refine (HHG.out _ HB0.out).mono ?_
  rintro e w1 ⟨rfl, hb⟩
  have HB1 : Hid (Below w.heap.size w w1) := below_step HB0.out (Nat.le_refl _) hb
  have HK1 : Hid (Blk w1 24 w.heap.size #[.int .i64 Ep, .slice a n c, .int .i64 Op]) := HK0.out.on hb
  clear hb HB0 HK0 HHG
  cases X with
  | false =>
    obtain rfl : D = false := Bool.eq_false_iff.2 (fun e => Bool.noConfusion (HMG.out.2 (HD.out.1 e).1))
    rw [if_neg (by simp)]
    go_wp2_with fail
    go_ret2
    exact ⟨.inl ⟨rfl, rfl⟩, HB1.out⟩
  | true =>
  rw [if_pos rfl]
  have HMY : Hid (MayG (Ep, l, Op)) := HMG.out.1 rfl
  clear HMG
  obtain rfl : n = 6 := by rw [← HI.out.1]; exact HMY.out.2.2.1
  obtain ⟨b, off, rfl, hcl⟩ : ∃ lb off, a = some ⟨lb, off, none⟩ ∧ ∀ i, i < 6 → w.cell? ⟨lb, off + i * 3, none⟩ = some (.int .i64 (mmL l i).1) ∧ w.cell? ⟨lb, off + i * 3 + 1, none⟩ = some (.int .i64 (mmL l i).2.1) ∧ w.cell? ⟨lb, off + i * 3 + 2, none⟩ = some (.bool (mmL l i).2.2) := by
    rcases HI.out.2 with h | h
    · omega
    · exact h
  have HCL : Hid (∀ i, i < 6 → w.cell? ⟨b, off + i * 3, none⟩ = some (.int .i64 (mmL l i).1) ∧ w.cell? ⟨b, off + i * 3 + 1, none⟩ = some (.int .i64 (mmL l i).2.1) ∧ w.cell? ⟨b, off + i * 3 + 2, none⟩ = some (.bool (mmL l i).2.2)) := hcl
  have HCO : Hid (∀ i, i < no → ∃ ob oo, ao = some ⟨ob, oo, none⟩ ∧ w.cell? ⟨ob, oo + i, none⟩ = some (.string (strL own i))) := fun i hi => by
    rcases HO.out.2 with h | ⟨ob, oo, e, h⟩
    · omega
    · exact ⟨ob, oo, e, h i hi⟩
  have HNO : Hid (own.length = no) := HO.out.1
  have d1 : w1.cell? ⟨w.heap.size, 1, none⟩ = some (.slice (some ⟨b, off, none⟩) 6 c) := HK1.out.cell 1
  clear hcl HI HO
  go_wp2_with fail
  clear d1
  have HS1 : Hid (w.heap.size + 1 ≤ w1.heap.size) := HK1.out.lt
  go_loopw [8, 19] (fun lv iv wr => ∃ k : Nat, k ≤ 6 ∧ iv = .int .i64 (k : Int) ∧ Hid (OwnWr wr (w.heap.size + 1) lv (wrK Ep own key l k)) ∧ Hid (∀ j, j < k → OneK no own key l j) ∧ Hid (Blk wr 24 w.heap.size #[.int .i64 Ep, .slice (some ⟨b, off, none⟩) 6 c, .int .i64 Op]) ∧ Hid (Below w.heap.size w wr)) (fun _ iv _ => 6 - (intOf iv).toNat)
  case atStart => exact ⟨0, Nat.zero_le _, rfl, World.ownsRow_nil _ _ _ _, fun j h => absurd h (Nat.not_lt_zero _), HK1.out, HB1.out⟩
  case round =>
    clear HB1 HK1 HS1
    obtain ⟨k, hk, rfl, HOW, HK, HG, HB⟩ := hrel
    by_cases hlt : k < 6
    · have b0 : (k : Int) < 6 := by omega
      have b1 : (0 : Int) ≤ (k : Int) := by omega
      have HK6 : Hid (k < 6) := hlt
      obtain ⟨c0, c1, c2⟩ := HCL.out k hlt
      have hwho := (HMY.out.2.2.2 k hlt).1
      have hwho' : (mmL l k).1 = (k : Int) + 1 := hwho
      rw [hwho'] at c0
      have cell : ∀ {p : Addr} {v : Value}, w.cell? p = some v → wr.cell? p = some v := fun h => by rw [HB.out.cell (World.block_lt_of_cell? w _ h)]; exact h
      replace c0 := cell c0
      replace c1 := cell c1
      replace c2 := cell c2
      obtain ⟨y, hy⟩ : ∃ y, (mmL l k).2.1 = y := ⟨_, rfl⟩
      obtain ⟨z, hz⟩ : ∃ z, (mmL l k).2.2 = z := ⟨_, rfl⟩
      rw [hy] at c1
      rw [hz] at c2
      have HZ : Hid ((mmL l k).2.2 = z) := hz
      clear hy hz hwho hwho' cell
      have nm := below_new wr (.cells #[.int .i64 ((k : Int) + 1), .int .i64 y, .bool z] 54)
      have HBm : Hid (Below wr.heap.size wr (wr.alloc (.cells #[.int .i64 ((k : Int) + 1), .int .i64 y, .bool z] 54))) := nm
      clear nm
      cases z with
      | false =>
        have hwn : wrK Ep own key l (k + 1) = wrK Ep own key l k := by show (if _ then _ else _) = _; rw [HZ.out, if_neg (by simp)]
        have HWN : Hid (wrK Ep own key l (k + 1) = wrK Ep own key l k) := hwn
        clear hwn
        go_wp2_with fail
        have HNK : Hid (∀ j, j < k + 1 → OneK no own key l j) := fun j hj => by
          by_cases e : j = k
          · rw [e]; intro h; rw [HZ.out] at h; cases h
          · exact HK.out j (by omega)
        refine ⟨?_, ?_⟩
        · first
          | exact ⟨k + 1, by omega, by go_num, by rw [HWN.out]; exact owns_on HOW.out HBm.out, HNK, HG.out.on HBm.out, below_step HB.out (Nat.le_refl _) HBm.out⟩
          | ((repeat apply Exists.intro); refine ⟨?_, rfl⟩; exact ⟨k + 1, by omega, by go_num, by rw [HWN.out]; exact owns_on HOW.out HBm.out, HNK, HG.out.on HBm.out, below_step HB.out (Nat.le_refl _) HBm.out⟩)
        · simp [intOf] <;> omega
      | true =>
        by_cases hno2 : k < no
        · have t1 : ¬ ((no : Int) < (k : Int) + 1) := by omega
          obtain ⟨ob, oo, rfl, ho0⟩ := HCO.out k hno2
          obtain ⟨wm, hwm⟩ : ∃ wm, wr.alloc (.cells #[.int .i64 ((k : Int) + 1), .int .i64 y, .bool true] 54) = wm := ⟨_, rfl⟩
          have HM : Hid (Blk wm 54 wr.heap.size #[.int .i64 ((k : Int) + 1), .int .i64 y, .bool true]) := by show Blk _ _ _ _; rw [← hwm]; exact Blk.new _ _ _
          rw [hwm] at HBm
          have HBw : Hid (Below w.heap.size w wm) := below_step HB.out (Nat.le_refl _) HBm.out
          have HGm : Hid (Blk wm 24 w.heap.size #[.int .i64 Ep, .slice (some ⟨b, off, none⟩) 6 c, .int .i64 Op]) := HG.out.on HBm.out
          have HOm : Hid (OwnWr wm (w.heap.size + 1) u8 (wrK Ep own key l k)) := owns_on HOW.out HBm.out
          obtain ⟨hM, hhM⟩ : ∃ hM, wr.heap.size = hM := ⟨_, rfl⟩
          rw [show Hid (Blk wm 54 wr.heap.size #[.int .i64 ((k : Int) + 1), .int .i64 y, .bool true]) = Hid (Blk wm 54 hM #[.int .i64 ((k : Int) + 1), .int .i64 y, .bool true]) by rw [hhM]] at HM
          obtain ⟨sk, hsk⟩ : ∃ sk, strL own k = sk := ⟨_, rfl⟩
          rw [hsk] at ho0
          have HSK : Hid (strL own k = sk) := hsk
          have a1 : IntKind.i64.wrap ((k : Int) + 1 - 1) = (k : Int) := by rw [IntKind.wrap_i64]; omega
          have a2 : (k : Int) < (no : Int) := by omega
          have a3 : IntKind.i64.wrap (k : Int) = (k : Int) := by rw [IntKind.wrap_i64]; omega
          have e0 : ∀ p : Beh wm, p.w'.cell? ⟨hM, 0, none⟩ = some (.int .i64 ((k : Int) + 1)) := fun p => p.cell (HM.out.cell 0)
          have e1 : ∀ p : Beh wm, p.w'.cell? ⟨w.heap.size, 0, none⟩ = some (.int .i64 Ep) := fun p => p.cell (HGm.out.cell 0)
          have e2 : ∀ p : Beh wm, p.w'.cell? ⟨ob, oo + k, none⟩ = some (.string sk) := fun p => p.cell (by rw [HBw.out.cell (World.block_lt_of_cell? w _ ho0)]; exact ho0)
          have HWM : Hid (wr.alloc (.cells #[.int .i64 ((k : Int) + 1), .int .i64 y, .bool true] 54) = wm) := hwm
          have HHM : Hid (wr.heap.size = hM) := hhM
          clear hwm hhM hsk ho0 HBm HG HOW HB
          go_wp2_with fail
          try rw [HWM.out]
          try rw [HHM.out]
          clear c0 c1 c2 HWM HHM
          by_cases hok : MayWk sk ((k : Int) + 1) Ep ∧ key.size = 32
          · have CW : Hid (∀ p : Beh wm, Calls Tryz.prog 17 #[.string sk, .int .i64 ((k : Int) + 1), .int .i64 Ep, .string key] p.w' fun e w' => e = .returned (.tuple #[.string (wrapB sk ((k : Int) + 1) Ep key), .int .i64 0]) ∧ Below p.w'.heap.size p.w' w') := fun p => kwrap_yes sk key _ Ep p.w' (HT.out.below (below_step HBw.out (Nat.le_refl _) p.h)) hok.1 hok.2
            obtain ⟨T, hTT⟩ : ∃ T, wrapB sk ((k : Int) + 1) Ep key = T := ⟨_, rfl⟩
            rw [hTT] at CW
            have HWN : Hid (wrK Ep own key l (k + 1) = wrK Ep own key l k ++ [((k : Int) + 1, T)]) := by show (if _ then _ else _) = _; rw [HZ.out, if_pos rfl, HSK.out, hTT]
            have HNK : Hid (∀ j, j < k + 1 → OneK no own key l j) := fun j hj => by
              by_cases e : j = k
              · rw [e]; intro _; exact ⟨hno2, by rw [HSK.out]; exact hok.1.1, hok.2⟩
              · exact HK.out j (by omega)
            obtain ⟨m, hm⟩ : ∃ m, (wrK Ep own key l k).length = m := ⟨_, rfl⟩
            have hm6 : m ≤ 6 := by have := wrK_len Ep own key l k; omega
            have HM9 : Hid ((wrK Ep own key l k).length = m) := hm
            clear hTT hok HK HSK hm
            have hne_ : Nonempty (Beh wm) := ⟨⟨_, Below.refl _ _⟩⟩
            refine wp_region_quiet_beh (by kernel_rfl) (by kernel_rfl) ?_
            repeat (quiet_step (first | (go_at_call 17; refine Calls.beh_of (CW.out _))))
            refine wpQuiet_nil ?_
            intro wq hw_
            obtain ⟨⟨wz_, hbq⟩, hw_⟩ := hw_
            subst hw_
            try dsimp only
            clear hne_
            have HGq : Hid (Blk wq 24 w.heap.size #[.int .i64 Ep, .slice (some ⟨b, off, none⟩) 6 c, .int .i64 Op]) := HGm.out.on hbq
            have HBq : Hid (Below w.heap.size w wq) := below_step HBw.out (Nat.le_refl _) hbq
            have HMq : Hid (Blk wq 54 hM #[.int .i64 ((k : Int) + 1), .int .i64 y, .bool true]) := HM.out.on hbq
            have hown : wq.ownsRow (w.heap.size + 1) 33 2 u8 m (cellsWr (wrK Ep own key l k)) := by rw [← HM9.out]; exact owns_on HOm.out hbq
            have hlt9 := HGq.out.lt
            have q0 : wq.cell? ⟨hM, 0, none⟩ = some (.int .i64 ((k : Int) + 1)) := HMq.out.cell 0
            clear e0 e1 e2 CW HGm HBw HM HOm hbq HMq
            go_wp2_with (at_builtin; refine wpList_appR2 rfl (.tmp 48) (.tmp 53) 28 rfl (w.heap.size + 1) 33 i0 _ 2 24 Tryz.underlying28 hi hz0 hz1 hz2 rfl (by decide) wq u8 _ _ rfl hown #[.int .i64 ((k : Int) + 1), .string T] rfl (wrapV_one ((k : Int) + 1, T)) rfl (by omega) (by unfold maxLen; omega) hlt9 ?_)
            intro v5 w5 hown5 hg5
            have nv := below_new wq (.cells #[.int .i64 ((k : Int) + 1), .string T] 33)
            have hgr : ∀ j, u8.ownBlock = some j → w.heap.size < j := fun j hj => by have := (World.ownsRow.lt hown j hj).1; omega
            have HO5 : Hid (OwnWr w5 (w.heap.size + 1) v5 (wrK Ep own key l (k + 1))) := by
              show World.ownsRow _ _ _ _ _ _ _
              rw [HWN.out, List.length_append, HM9.out, cellsWr_snoc]
              exact hown5
            have HG5 : Hid (Blk w5 24 w.heap.size #[.int .i64 Ep, .slice (some ⟨b, off, none⟩) 6 c, .int .i64 Op]) := (HGq.out.on nv).grown hg5 (fun e => by have := hgr _ e.symm; omega)
            have HB5 : Hid (Below w.heap.size w w5) := below_grown20 (below_step HBq.out (Nat.le_refl _) nv) hg5 (fun j hj => by have := hgr j hj; omega)
            clear hown5 hg5 nv hgr hown hlt9 HGq HBq HWN HM9 q0
            go_wp2_with fail
            refine ⟨?_, ?_⟩
            · first
              | exact ⟨k + 1, by omega, by go_num, HO5, HNK, HG5, HB5⟩
              | ((repeat apply Exists.intro); refine ⟨?_, rfl⟩; exact ⟨k + 1, by omega, by go_num, HO5, HNK, HG5, HB5⟩)
            · simp [intOf] <;> omega
          · have CW : Hid (∀ p : Beh wm, Calls Tryz.prog 17 #[.string sk, .int .i64 ((k : Int) + 1), .int .i64 Ep, .string key] p.w' fun e w' => e = .returned (.tuple #[.string ⟨#[]⟩, .int .i64 1]) ∧ Below p.w'.heap.size p.w' w') := fun p => kwrap_not sk key _ Ep p.w' hok
            obtain rfl : D = false := Bool.eq_false_iff.2 (fun e => by
              have q := (HD.out.1 e).2 k HK6.out HZ.out
              rw [HSK.out] at q
              exact hok ⟨⟨q.2.1, ⟨by omega, by omega⟩, HMY.out.1⟩, q.2.2⟩)
            clear hok HD
            have hne_ : Nonempty (Beh wm) := ⟨⟨_, Below.refl _ _⟩⟩
            refine wp_region_quiet_beh (by kernel_rfl) (by kernel_rfl) ?_
            repeat (quiet_step (first | (go_at_call 17; refine Calls.beh_of (CW.out _))))
            refine wpQuiet_nil ?_
            intro wq hw_
            obtain ⟨⟨wz_, hbq⟩, hw_⟩ := hw_
            subst hw_
            try dsimp only
            clear hne_
            have HBq : Hid (Below w.heap.size w wq) := below_step HBw.out (Nat.le_refl _) hbq
            clear e0 e1 e2 CW HGm HBw HM HOm hbq
            go_wp2_with fail
            go_ret2
            exact ⟨.inl ⟨rfl, rfl⟩, HBq.out⟩
        · have t1 : (no : Int) < (k : Int) + 1 := by omega
          obtain rfl : D = false := Bool.eq_false_iff.2 (fun e => by
            have q := (HD.out.1 e).2 k HK6.out HZ.out
            rw [HNO.out] at q
            exact hno2 q.1)
          have HBx : Hid (Below w.heap.size w (wr.alloc (.cells #[.int .i64 ((k : Int) + 1), .int .i64 y, .bool true] 54))) := below_step HB.out (Nat.le_refl _) HBm.out
          clear HD hno2
          go_wp2_with fail
          go_ret2
          exact ⟨.inl ⟨rfl, rfl⟩, HBx.out⟩
    · obtain rfl : k = 6 := by omega
      have b0 : ¬ ((6 : Int) < 6) := by omega
      obtain rfl : D = true := HD.out.2 ⟨HMY.out, fun j hj => by
        show OneK own.length own key l j
        rw [HNO.out]; exact HK.out j hj⟩
      go_wp2_with fail
      go_ret2
      refine ⟨.inr ⟨rfl, _, rfl, ?_⟩, HB.out⟩
      show OwnWr _ _ _ _
      rw [← HL6.out]
      exact owns_less HOW.out (by omega)

end Go.Proofs.YtabhkebkbidfhaaGreatDoor
