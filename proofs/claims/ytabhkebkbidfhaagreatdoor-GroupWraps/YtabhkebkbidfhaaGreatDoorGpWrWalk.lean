import Derived.Test.YtabhkebkbidfhaaGreatDoorGpW
import Derived.Test.YtabhkebkbidfhaaGreatDoorRKyB
import Derived.Test.YtabhkebkbidfhaaGreatDoorBA
import Derived.Test.YtabhkebkbidfhaaGreatDoorRGpB
import Derived.Test.YtabhkebkbidfhaaGreatDoorRT
import Derived.Test.YtabhkebkbidfhaaGreatDoorRGpA
import Derived.SliceStrings
import Derived.OpenShut
import Derived.ProofKit
import Derived.Test.YtabhkebkbidfhaaGreatDoorTA
namespace Go.Proofs.YtabhkebkbidfhaaGreatDoor
open Go.RowKit
set_option maxRecDepth 100000
set_option linter.unusedSimpArgs false
set_option linter.unusedVariables false
theorem Tryz.infoWrap : (Tryz.prog.info? 33).map (fun i => (i.zero, i.size, i.bytes)) = some (some (.agg #[.int .i64 0, .string ⟨#[]⟩]), 2, 24) := by kernel_rfl
def wrapV (x : Int × ByteArray) : Array Value := #[.int .i64 x.1, .string x.2]
def cellsWr (l : List (Int × ByteArray)) : List Value := l.flatMap (fun x => (wrapV x).toList)
theorem cellsWr_at (l : List (Int × ByteArray)) : ∀ i, i < l.length → ∀ j, j < 2 → ∃ u, (wrapV (wrL l i))[j]? = some u ∧ (cellsWr l)[i * 2 + j]? = some u := by
  induction l with
  | nil => intro i hi; exact absurd hi (Nat.not_lt_zero _)
  | cons x l ih =>
    intro i hi j hj
    have hs : (wrapV x).toList.length = 2 := rfl
    cases i with
    | zero =>
      refine ⟨(wrapV x)[j]'(by show j < 2; exact hj), ?_, ?_⟩
      · show (wrapV x)[j]? = _
        exact Array.getElem?_eq_getElem _
      · show ((wrapV x).toList ++ cellsWr l)[0 * 2 + j]? = _
        rw [Nat.zero_mul, Nat.zero_add, List.getElem?_append_left (by rw [hs]; exact hj), Array.getElem?_toList]
        exact Array.getElem?_eq_getElem _
    | succ i =>
      obtain ⟨u, h1, h2⟩ := ih i (by simp at hi; omega) j hj
      refine ⟨u, ?_, ?_⟩
      · have : wrL (x :: l) (i + 1) = wrL l i := rfl
        rw [this]; exact h1
      · show ((wrapV x).toList ++ cellsWr l)[(i + 1) * 2 + j]? = _
        rw [List.getElem?_append_right (by rw [hs]; omega), hs, show (i + 1) * 2 + j - 2 = i * 2 + j by omega]
        exact h2
def OwnWr (w : World) (B : Nat) (v : Value) (l : List (Int × ByteArray)) : Prop := w.ownsRow B 33 2 v l.length (cellsWr l)
theorem OwnWr.rows {w : World} {B : Nat} {v : Value} {l : List (Int × ByteArray)} (h : OwnWr w B v l) : ∃ a cap, v = .slice a l.length cap ∧ WrAt w a l.length l := by
  obtain ⟨a, cap, hv, hr⟩ := rows_of_owns h (cellsWr_at l)
  refine ⟨a, cap, hv, rfl, hr.imp id (fun ⟨b, off, e, hc⟩ => ⟨b, off, e, fun i hi => ?_⟩)⟩
  obtain ⟨u0, a0, b0⟩ := hc i hi 0 (by decide)
  obtain ⟨u1, a1, b1⟩ := hc i hi 1 (by decide)
  cases a0
  cases a1
  exact ⟨b0, b1⟩
theorem cellsWr_snoc (l : List (Int × ByteArray)) (x : Int × ByteArray) : cellsWr (l ++ [x]) = cellsWr l ++ (wrapV x).toList := by
  unfold cellsWr
  rw [List.flatMap_append]
  simp
theorem wrapV_one (x : Int × ByteArray) : ∀ u ∈ (wrapV x).toList, u.oneCell' = true := by
  intro u hu
  simp [wrapV] at hu
  rcases hu with rfl | rfl <;> rfl
def wrK (Ep : Int) (own : List ByteArray) (key : ByteArray) (l : List MemT) : Nat → List (Int × ByteArray)
  | 0 => []
  | k + 1 => if (mmL l k).2.2 = true then wrK Ep own key l k ++ [((k : Int) + 1, wrapB (strL own k) ((k : Int) + 1) Ep key)] else wrK Ep own key l k
theorem wrK_len (Ep : Int) (own : List ByteArray) (key : ByteArray) (l : List MemT) (k : Nat) : (wrK Ep own key l k).length ≤ k := by
  induction k with
  | zero => exact Nat.le_refl _
  | succ k ih =>
    show (if _ then _ else _ : List _).length ≤ _
    by_cases h : (mmL l k).2.2 = true
    · rw [if_pos h, List.length_append]; simp; omega
    · rw [if_neg h]; omega
theorem wrK_at (Ep : Int) (own : List ByteArray) (key : ByteArray) (l : List MemT) (k : Nat) : ∀ x ∈ wrK Ep own key l k, ∃ j, j < k ∧ (mmL l j).2.2 = true ∧ x = ((j : Int) + 1, wrapB (strL own j) ((j : Int) + 1) Ep key) := by
  induction k with
  | zero => intro x hx; cases hx
  | succ k ih =>
    intro x hx
    have hx' : x ∈ (if (mmL l k).2.2 = true then wrK Ep own key l k ++ [((k : Int) + 1, wrapB (strL own k) ((k : Int) + 1) Ep key)] else wrK Ep own key l k) := hx
    by_cases h : (mmL l k).2.2 = true
    · rw [if_pos h] at hx'
      rcases List.mem_append.1 hx' with e | e
      · obtain ⟨j, h1, h2, h3⟩ := ih x e; exact ⟨j, by omega, h2, h3⟩
      · exact ⟨k, by omega, h, List.mem_singleton.1 e⟩
    · rw [if_neg h] at hx'
      obtain ⟨j, h1, h2, h3⟩ := ih x hx'; exact ⟨j, by omega, h2, h3⟩
def OneK (n : Nat) (own : List ByteArray) (key : ByteArray) (l : List MemT) (j : Nat) : Prop := (mmL l j).2.2 = true → j < n ∧ (strL own j).size = 32 ∧ key.size = 32
def OkW (G : GrpT) (own : List ByteArray) (key : ByteArray) : Prop := MayG G ∧ ∀ j, j < 6 → OneK own.length own key G.2.1 j
theorem OkW.key {G : GrpT} {own : List ByteArray} {key : ByteArray} (h : OkW G own key) : key.size = 32 := (h.2 0 (by decide) ((h.1.2.2.2 0 (by decide)).2.2.2 rfl)).2.2
def WrOut (w : World) (D : Bool) (L : List (Int × ByteArray)) (e : Ending) (w' : World) : Prop :=
  ((D = false ∧ e = .returned (.tuple #[.slice none 0 0, .int .i64 1])) ∨ (D = true ∧ ∃ v, e = .returned (.tuple #[v, .int .i64 0]) ∧ OwnWr w' w.heap.size v L)) ∧ Below w.heap.size w w'
set_option maxHeartbeats 8000000 in
theorem wraps20_any (G : GrpT) (a : Option Addr) (c : Nat) (own : List ByteArray) (ao : Option Addr) (no co : Nat) (key : ByteArray) (w : World) (D : Bool) (hD : D = true ↔ OkW G own key) (hT : Tabs w) (hn : G.2.1.length ≤ 1048576) (hno : no ≤ 1048576) (hI : MmsAt w a G.2.1.length G.2.1) (hO : StrsAt w ao no own) :
    Calls Tryz.prog 6 #[.agg (grpA G a c), .slice ao no co, .string key] w fun e w' => WrOut w D (wrK G.1 own key G.2.1 6) e w' := by
  obtain ⟨i0, hi, hz0, hz1, hz2⟩ := info_parts Tryz.infoWrap
  have CHG : ∀ W, Below w.heap.size w W → _ := fun W hW => check20_any G a c W (mayGb G) (mayGb_iff G) hn (hI.below hW)
  have hMG := mayGb_iff G
  obtain ⟨X, hX⟩ : ∃ X : Bool, mayGb G = X := ⟨_, rfl⟩
  rw [hX] at CHG hMG
  obtain ⟨Ep, l, Op⟩ := G
  simp only [grpA] at CHG hI hn ⊢
  obtain ⟨L6, hL6⟩ : ∃ L6, wrK Ep own key l 6 = L6 := ⟨_, rfl⟩
  rw [hL6]
  have HL6 : Hid (wrK Ep own key l 6 = L6) := hL6
  have HD : Hid (D = true ↔ OkW (Ep, l, Op) own key) := hD
  have HMG : Hid (X = true ↔ MayG (Ep, l, Op)) := hMG
  obtain ⟨n, hnn⟩ : ∃ n, l.length = n := ⟨_, rfl⟩
  simp only [hnn] at CHG hI hn ⊢
  have HHG : Hid (∀ W, Below w.heap.size w W → _) := CHG
  have HI : Hid (MmsAt w a n l) := hI
  have HO : Hid (StrsAt w ao no own) := hO
  have HT : Hid (Tabs w) := hT
  clear CHG hD hMG hX hI hO hT hnn hL6
  have HB0 : Hid (Below w.heap.size w (w.alloc (.cells #[.int .i64 Ep, .slice a n c, .int .i64 Op] 24))) := below_new _ _
  have HK0 : Hid (Blk (w.alloc (.cells #[.int .i64 Ep, .slice a n c, .int .i64 Op] 24)) 24 w.heap.size #[.int .i64 Ep, .slice a n c, .int .i64 Op]) := Blk.new _ _ _
  go_enter Tryz.func6, Tryz.ntmps6
  go_wp2_with fail
  refine (HHG.out _ HB0.out).mono ?_
  rintro e w1 ⟨rfl, hb⟩
  have HB1 : Hid (Below w.heap.size w w1) := below_step HB0.out (Nat.le_refl _) hb
  have HK1 : Hid (Blk w1 24 w.heap.size #[.int .i64 Ep, .slice a n c, .int .i64 Op]) := HK0.out.on hb
  clear hb HB0 HK0 HHG
  cases X with
  | false =>
    obtain rfl : D = false := Bool.eq_false_iff.2 (fun e => Bool.noConfusion (HMG.out.2 (HD.out.1 e).1))
    rw [if_neg (by simp)]
    go_wp2_with fail
    go_ret2
    exact ⟨.inl ⟨rfl, rfl⟩, HB1.out⟩
  | true =>
  rw [if_pos rfl]
  have HMY : Hid (MayG (Ep, l, Op)) := HMG.out.1 rfl
  clear HMG
  obtain rfl : n = 6 := by rw [← HI.out.1]; exact HMY.out.2.2.1
  obtain ⟨b, off, rfl, hcl⟩ : ∃ lb off, a = some ⟨lb, off, none⟩ ∧ ∀ i, i < 6 → w.cell? ⟨lb, off + i * 3, none⟩ = some (.int .i64 (mmL l i).1) ∧ w.cell? ⟨lb, off + i * 3 + 1, none⟩ = some (.int .i64 (mmL l i).2.1) ∧ w.cell? ⟨lb, off + i * 3 + 2, none⟩ = some (.bool (mmL l i).2.2) := by
    rcases HI.out.2 with h | h
    · omega
    · exact h
  have HCL : Hid (∀ i, i < 6 → w.cell? ⟨b, off + i * 3, none⟩ = some (.int .i64 (mmL l i).1) ∧ w.cell? ⟨b, off + i * 3 + 1, none⟩ = some (.int .i64 (mmL l i).2.1) ∧ w.cell? ⟨b, off + i * 3 + 2, none⟩ = some (.bool (mmL l i).2.2)) := hcl
  have HCO : Hid (∀ i, i < no → ∃ ob oo, ao = some ⟨ob, oo, none⟩ ∧ w.cell? ⟨ob, oo + i, none⟩ = some (.string (strL own i))) := fun i hi => by
    rcases HO.out.2 with h | ⟨ob, oo, e, h⟩
    · omega
    · exact ⟨ob, oo, e, h i hi⟩
  have HNO : Hid (own.length = no) := HO.out.1
  have d1 : w1.cell? ⟨w.heap.size, 1, none⟩ = some (.slice (some ⟨b, off, none⟩) 6 c) := HK1.out.cell 1
  clear hcl HI HO
  go_wp2_with fail
  clear d1
  have HS1 : Hid (w.heap.size + 1 ≤ w1.heap.size) := HK1.out.lt
  go_loopw [8, 19] (fun lv iv wr => ∃ k : Nat, k ≤ 6 ∧ iv = .int .i64 (k : Int) ∧ Hid (OwnWr wr (w.heap.size + 1) lv (wrK Ep own key l k)) ∧ Hid (∀ j, j < k → OneK no own key l j) ∧ Hid (Blk wr 24 w.heap.size #[.int .i64 Ep, .slice (some ⟨b, off, none⟩) 6 c, .int .i64 Op]) ∧ Hid (Below w.heap.size w wr)) (fun _ iv _ => 6 - (intOf iv).toNat)
  case atStart => exact ⟨0, Nat.zero_le _, rfl, World.ownsRow_nil _ _ _ _, fun j h => absurd h (Nat.not_lt_zero _), HK1.out, HB1.out⟩
  case round =>
    clear HB1 HK1 HS1
    obtain ⟨k, hk, rfl, HOW, HK, HG, HB⟩ := hrel
    by_cases hlt : k < 6
    · have b0 : (k : Int) < 6 := by omega
      have b1 : (0 : Int) ≤ (k : Int) := by omega
      have HK6 : Hid (k < 6) := hlt
      obtain ⟨c0, c1, c2⟩ := HCL.out k hlt
      have hwho := (HMY.out.2.2.2 k hlt).1
      have hwho' : (mmL l k).1 = (k : Int) + 1 := hwho
      rw [hwho'] at c0
      have cell : ∀ {p : Addr} {v : Value}, w.cell? p = some v → wr.cell? p = some v := fun h => by rw [HB.out.cell (World.block_lt_of_cell? w _ h)]; exact h
      replace c0 := cell c0
      replace c1 := cell c1
      replace c2 := cell c2
      obtain ⟨y, hy⟩ : ∃ y, (mmL l k).2.1 = y := ⟨_, rfl⟩
      obtain ⟨z, hz⟩ : ∃ z, (mmL l k).2.2 = z := ⟨_, rfl⟩
      rw [hy] at c1
      rw [hz] at c2
      have HZ : Hid ((mmL l k).2.2 = z) := hz
      clear hy hz hwho hwho' cell
      have nm := below_new wr (.cells #[.int .i64 ((k : Int) + 1), .int .i64 y, .bool z] 54)
      have HBm : Hid (Below wr.heap.size wr (wr.alloc (.cells #[.int .i64 ((k : Int) + 1), .int .i64 y, .bool z] 54))) := nm
      clear nm
      cases z with
      | false =>
        have hwn : wrK Ep own key l (k + 1) = wrK Ep own key l k := by show (if _ then _ else _) = _; rw [HZ.out, if_neg (by simp)]
        have HWN : Hid (wrK Ep own key l (k + 1) = wrK Ep own key l k) := hwn
        clear hwn
        go_wp2_with fail
        have HNK : Hid (∀ j, j < k + 1 → OneK no own key l j) := fun j hj => by
          by_cases e : j = k
          · rw [e]; intro h; rw [HZ.out] at h; cases h
          · exact HK.out j (by omega)
        refine ⟨?_, ?_⟩
        · first
          | exact ⟨k + 1, by omega, by go_num, by rw [HWN.out]; exact owns_on HOW.out HBm.out, HNK, HG.out.on HBm.out, below_step HB.out (Nat.le_refl _) HBm.out⟩
          | ((repeat apply Exists.intro); refine ⟨?_, rfl⟩; exact ⟨k + 1, by omega, by go_num, by rw [HWN.out]; exact owns_on HOW.out HBm.out, HNK, HG.out.on HBm.out, below_step HB.out (Nat.le_refl _) HBm.out⟩)
        · simp [intOf] <;> omega
      | true =>
        by_cases hno2 : k < no
        · have t1 : ¬ ((no : Int) < (k : Int) + 1) := by omega
          obtain ⟨ob, oo, rfl, ho0⟩ := HCO.out k hno2
          obtain ⟨wm, hwm⟩ : ∃ wm, wr.alloc (.cells #[.int .i64 ((k : Int) + 1), .int .i64 y, .bool true] 54) = wm := ⟨_, rfl⟩
          have HM : Hid (Blk wm 54 wr.heap.size #[.int .i64 ((k : Int) + 1), .int .i64 y, .bool true]) := by show Blk _ _ _ _; rw [← hwm]; exact Blk.new _ _ _
          rw [hwm] at HBm
          have HBw : Hid (Below w.heap.size w wm) := below_step HB.out (Nat.le_refl _) HBm.out
          have HGm : Hid (Blk wm 24 w.heap.size #[.int .i64 Ep, .slice (some ⟨b, off, none⟩) 6 c, .int .i64 Op]) := HG.out.on HBm.out
          have HOm : Hid (OwnWr wm (w.heap.size + 1) u8 (wrK Ep own key l k)) := owns_on HOW.out HBm.out
          obtain ⟨hM, hhM⟩ : ∃ hM, wr.heap.size = hM := ⟨_, rfl⟩
          rw [show Hid (Blk wm 54 wr.heap.size #[.int .i64 ((k : Int) + 1), .int .i64 y, .bool true]) = Hid (Blk wm 54 hM #[.int .i64 ((k : Int) + 1), .int .i64 y, .bool true]) by rw [hhM]] at HM
          obtain ⟨sk, hsk⟩ : ∃ sk, strL own k = sk := ⟨_, rfl⟩
          rw [hsk] at ho0
          have HSK : Hid (strL own k = sk) := hsk
          have a1 : IntKind.i64.wrap ((k : Int) + 1 - 1) = (k : Int) := by rw [IntKind.wrap_i64]; omega
          have a2 : (k : Int) < (no : Int) := by omega
          have a3 : IntKind.i64.wrap (k : Int) = (k : Int) := by rw [IntKind.wrap_i64]; omega
          have e0 : ∀ p : Beh wm, p.w'.cell? ⟨hM, 0, none⟩ = some (.int .i64 ((k : Int) + 1)) := fun p => p.cell (HM.out.cell 0)
          have e1 : ∀ p : Beh wm, p.w'.cell? ⟨w.heap.size, 0, none⟩ = some (.int .i64 Ep) := fun p => p.cell (HGm.out.cell 0)
          have e2 : ∀ p : Beh wm, p.w'.cell? ⟨ob, oo + k, none⟩ = some (.string sk) := fun p => p.cell (by rw [HBw.out.cell (World.block_lt_of_cell? w _ ho0)]; exact ho0)
          have HWM : Hid (wr.alloc (.cells #[.int .i64 ((k : Int) + 1), .int .i64 y, .bool true] 54) = wm) := hwm
          have HHM : Hid (wr.heap.size = hM) := hhM
          clear hwm hhM hsk ho0 HBm HG HOW HB
          go_wp2_with fail
          try rw [HWM.out]
          try rw [HHM.out]
          clear c0 c1 c2 HWM HHM
          by_cases hok : MayWk sk ((k : Int) + 1) Ep ∧ key.size = 32
          · have CW : Hid (∀ p : Beh wm, Calls Tryz.prog 17 #[.string sk, .int .i64 ((k : Int) + 1), .int .i64 Ep, .string key] p.w' fun e w' => e = .returned (.tuple #[.string (wrapB sk ((k : Int) + 1) Ep key), .int .i64 0]) ∧ Below p.w'.heap.size p.w' w') := fun p => kwrap_yes sk key _ Ep p.w' (HT.out.below (below_step HBw.out (Nat.le_refl _) p.h)) hok.1 hok.2
            obtain ⟨T, hTT⟩ : ∃ T, wrapB sk ((k : Int) + 1) Ep key = T := ⟨_, rfl⟩
            rw [hTT] at CW
            have HWN : Hid (wrK Ep own key l (k + 1) = wrK Ep own key l k ++ [((k : Int) + 1, T)]) := by show (if _ then _ else _) = _; rw [HZ.out, if_pos rfl, HSK.out, hTT]
            have HNK : Hid (∀ j, j < k + 1 → OneK no own key l j) := fun j hj => by
              by_cases e : j = k
              · rw [e]; intro _; exact ⟨hno2, by rw [HSK.out]; exact hok.1.1, hok.2⟩
              · exact HK.out j (by omega)
            obtain ⟨m, hm⟩ : ∃ m, (wrK Ep own key l k).length = m := ⟨_, rfl⟩
            have hm6 : m ≤ 6 := by have := wrK_len Ep own key l k; omega
            have HM9 : Hid ((wrK Ep own key l k).length = m) := hm
            clear hTT hok HK HSK hm
            have hne_ : Nonempty (Beh wm) := ⟨⟨_, Below.refl _ _⟩⟩
            refine wp_region_quiet_beh (by kernel_rfl) (by kernel_rfl) ?_
            repeat (quiet_step (first | (go_at_call 17; refine Calls.beh_of (CW.out _))))
            refine wpQuiet_nil ?_
            intro wq hw_
            obtain ⟨⟨wz_, hbq⟩, hw_⟩ := hw_
            subst hw_
            try dsimp only
            clear hne_
            have HGq : Hid (Blk wq 24 w.heap.size #[.int .i64 Ep, .slice (some ⟨b, off, none⟩) 6 c, .int .i64 Op]) := HGm.out.on hbq
            have HBq : Hid (Below w.heap.size w wq) := below_step HBw.out (Nat.le_refl _) hbq
            have HMq : Hid (Blk wq 54 hM #[.int .i64 ((k : Int) + 1), .int .i64 y, .bool true]) := HM.out.on hbq
            have hown : wq.ownsRow (w.heap.size + 1) 33 2 u8 m (cellsWr (wrK Ep own key l k)) := by rw [← HM9.out]; exact owns_on HOm.out hbq
            have hlt9 := HGq.out.lt
            have q0 : wq.cell? ⟨hM, 0, none⟩ = some (.int .i64 ((k : Int) + 1)) := HMq.out.cell 0
            clear e0 e1 e2 CW HGm HBw HM HOm hbq HMq
            go_wp2_with (at_builtin; refine wpList_appR2 rfl (.tmp 48) (.tmp 53) 28 rfl (w.heap.size + 1) 33 i0 _ 2 24 Tryz.underlying28 hi hz0 hz1 hz2 rfl (by decide) wq u8 _ _ rfl hown #[.int .i64 ((k : Int) + 1), .string T] rfl (wrapV_one ((k : Int) + 1, T)) rfl (by omega) (by unfold maxLen; omega) hlt9 ?_)
            intro v5 w5 hown5 hg5
            have nv := below_new wq (.cells #[.int .i64 ((k : Int) + 1), .string T] 33)
            have hgr : ∀ j, u8.ownBlock = some j → w.heap.size < j := fun j hj => by have := (World.ownsRow.lt hown j hj).1; omega
            have HO5 : Hid (OwnWr w5 (w.heap.size + 1) v5 (wrK Ep own key l (k + 1))) := by
              show World.ownsRow _ _ _ _ _ _ _
              rw [HWN.out, List.length_append, HM9.out, cellsWr_snoc]
              exact hown5
            have HG5 : Hid (Blk w5 24 w.heap.size #[.int .i64 Ep, .slice (some ⟨b, off, none⟩) 6 c, .int .i64 Op]) := (HGq.out.on nv).grown hg5 (fun e => by have := hgr _ e.symm; omega)
            have HB5 : Hid (Below w.heap.size w w5) := below_grown20 (below_step HBq.out (Nat.le_refl _) nv) hg5 (fun j hj => by have := hgr j hj; omega)
            clear hown5 hg5 nv hgr hown hlt9 HGq HBq HWN HM9 q0
            go_wp2_with fail
            refine ⟨?_, ?_⟩
            · first
              | exact ⟨k + 1, by omega, by go_num, HO5, HNK, HG5, HB5⟩
              | ((repeat apply Exists.intro); refine ⟨?_, rfl⟩; exact ⟨k + 1, by omega, by go_num, HO5, HNK, HG5, HB5⟩)
            · simp [intOf] <;> omega
          · have CW : Hid (∀ p : Beh wm, Calls Tryz.prog 17 #[.string sk, .int .i64 ((k : Int) + 1), .int .i64 Ep, .string key] p.w' fun e w' => e = .returned (.tuple #[.string ⟨#[]⟩, .int .i64 1]) ∧ Below p.w'.heap.size p.w' w') := fun p => kwrap_not sk key _ Ep p.w' hok
            obtain rfl : D = false := Bool.eq_false_iff.2 (fun e => by
              have q := (HD.out.1 e).2 k HK6.out HZ.out
              rw [HSK.out] at q
              exact hok ⟨⟨q.2.1, ⟨by omega, by omega⟩, HMY.out.1⟩, q.2.2⟩)
            clear hok HD
            have hne_ : Nonempty (Beh wm) := ⟨⟨_, Below.refl _ _⟩⟩
            refine wp_region_quiet_beh (by kernel_rfl) (by kernel_rfl) ?_
            repeat (quiet_step (first | (go_at_call 17; refine Calls.beh_of (CW.out _))))
            refine wpQuiet_nil ?_
            intro wq hw_
            obtain ⟨⟨wz_, hbq⟩, hw_⟩ := hw_
            subst hw_
            try dsimp only
            clear hne_
            have HBq : Hid (Below w.heap.size w wq) := below_step HBw.out (Nat.le_refl _) hbq
            clear e0 e1 e2 CW HGm HBw HM HOm hbq
            go_wp2_with fail
            go_ret2
            exact ⟨.inl ⟨rfl, rfl⟩, HBq.out⟩
        · have t1 : (no : Int) < (k : Int) + 1 := by omega
          obtain rfl : D = false := Bool.eq_false_iff.2 (fun e => by
            have q := (HD.out.1 e).2 k HK6.out HZ.out
            rw [HNO.out] at q
            exact hno2 q.1)
          have HBx : Hid (Below w.heap.size w (wr.alloc (.cells #[.int .i64 ((k : Int) + 1), .int .i64 y, .bool true] 54))) := below_step HB.out (Nat.le_refl _) HBm.out
          clear HD hno2
          go_wp2_with fail
          go_ret2
          exact ⟨.inl ⟨rfl, rfl⟩, HBx.out⟩
    · obtain rfl : k = 6 := by omega
      have b0 : ¬ ((6 : Int) < 6) := by omega
      obtain rfl : D = true := HD.out.2 ⟨HMY.out, fun j hj => by
        show OneK own.length own key l j
        rw [HNO.out]; exact HK.out j hj⟩
      go_wp2_with fail
      go_ret2
      refine ⟨.inr ⟨rfl, _, rfl, ?_⟩, HB.out⟩
      show OwnWr _ _ _ _
      rw [← HL6.out]
      exact owns_less HOW.out (by omega)
end Go.Proofs.YtabhkebkbidfhaaGreatDoor

namespace Go.Proofs.YtabhkebkbidfhaaGreatDoor
open Go.RowKit
set_option maxRecDepth 100000
set_option linter.unusedSimpArgs false
set_option linter.unusedVariables false
set_option maxHeartbeats 8000000 in
theorem rwraps20_any (G : GrpT) (a : Option Addr) (c : Nat) (own : List ByteArray) (ao : Option Addr) (no co : Nat) (key : ByteArray) (w : World) (D : Bool) (hD : D = true ↔ OkW G own key) (hw : ∀ i, i < 6 → -9223372036854775808 ≤ (mmL G.2.1 i).1 ∧ (mmL G.2.1 i).1 ≤ 9223372036854775807) (hn : G.2.1.length ≤ 1048576) (hno : no ≤ 1048576) (hI : MmsAt w a G.2.1.length G.2.1) (hO : StrsAt w ao no own) :
    Calls Tryz.prog 7 #[.agg (grpA G a c), .slice ao no co, .string key] w fun e w' => WrOut w D (wrK G.1 own key G.2.1 6) e w' := by
  obtain ⟨i0, hi, hz0, hz1, hz2⟩ := info_parts Tryz.infoWrap
  have CHG : ∀ W, Below w.heap.size w W → _ := fun W hW => rmay20_any G a c W (mayGb G) (mayGb_iff G) hn (hI.below hW) hw
  have hMG := mayGb_iff G
  obtain ⟨X, hX⟩ : ∃ X : Bool, mayGb G = X := ⟨_, rfl⟩
  rw [hX] at CHG hMG
  obtain ⟨Ep, l, Op⟩ := G
  simp only [grpA] at CHG hI hn ⊢
  obtain ⟨L6, hL6⟩ : ∃ L6, wrK Ep own key l 6 = L6 := ⟨_, rfl⟩
  rw [hL6]
  have HL6 : Hid (wrK Ep own key l 6 = L6) := hL6
  have HD : Hid (D = true ↔ OkW (Ep, l, Op) own key) := hD
  have HMG : Hid (X = true ↔ MayG (Ep, l, Op)) := hMG
  obtain ⟨n, hnn⟩ : ∃ n, l.length = n := ⟨_, rfl⟩
  simp only [hnn] at CHG hI hn ⊢
  have HHG : Hid (∀ W, Below w.heap.size w W → _) := CHG
  have HI : Hid (MmsAt w a n l) := hI
  have HO : Hid (StrsAt w ao no own) := hO
  clear CHG hD hMG hX hI hO hw hnn hL6
  have HB0 : Hid (Below w.heap.size w (w.alloc (.cells #[.int .i64 Ep, .slice a n c, .int .i64 Op] 24))) := below_new _ _
  have HK0 : Hid (Blk (w.alloc (.cells #[.int .i64 Ep, .slice a n c, .int .i64 Op] 24)) 24 w.heap.size #[.int .i64 Ep, .slice a n c, .int .i64 Op]) := Blk.new _ _ _
  go_enter Tryz.func7, Tryz.ntmps7
  go_wp2_with fail
  refine (HHG.out _ HB0.out).mono ?_
  rintro e w1 ⟨rfl, hb⟩
  have HB1 : Hid (Below w.heap.size w w1) := below_step HB0.out (Nat.le_refl _) hb
  have HK1 : Hid (Blk w1 24 w.heap.size #[.int .i64 Ep, .slice a n c, .int .i64 Op]) := HK0.out.on hb
  clear hb HB0 HK0 HHG
  cases X with
  | false =>
    obtain rfl : D = false := Bool.eq_false_iff.2 (fun e => Bool.noConfusion (HMG.out.2 (HD.out.1 e).1))
    go_wp2_with fail
    go_ret2
    exact ⟨.inl ⟨rfl, rfl⟩, HB1.out⟩
  | true =>
  have HMY : Hid (MayG (Ep, l, Op)) := HMG.out.1 rfl
  clear HMG
  by_cases hkey : key.size = 32
  case neg =>
    obtain rfl : D = false := Bool.eq_false_iff.2 (fun e => hkey (HD.out.1 e).key)
    have g0 : ((key.size : Int) == 32) = false := by simp; omega
    have g0' : ¬ (key.size : Int) = 32 := by omega
    have g0'' : ((key.size : Int) != 32) = true := by simp; omega
    clear hkey HD HMY
    go_wp2_with fail
    go_ret2
    exact ⟨.inl ⟨rfl, rfl⟩, HB1.out⟩
  have g0 : ((key.size : Int) == 32) = true := by simp; omega
  have g0' : (key.size : Int) = 32 := by omega
  have g0'' : ((key.size : Int) != 32) = false := by simp; omega
  have HKEY : Hid (key.size = 32) := hkey
  clear hkey
  obtain rfl : n = 6 := by rw [← HI.out.1]; exact HMY.out.2.2.1
  obtain ⟨b, off, rfl, hcl⟩ : ∃ lb off, a = some ⟨lb, off, none⟩ ∧ ∀ i, i < 6 → w.cell? ⟨lb, off + i * 3, none⟩ = some (.int .i64 (mmL l i).1) ∧ w.cell? ⟨lb, off + i * 3 + 1, none⟩ = some (.int .i64 (mmL l i).2.1) ∧ w.cell? ⟨lb, off + i * 3 + 2, none⟩ = some (.bool (mmL l i).2.2) := by
    rcases HI.out.2 with h | h
    · omega
    · exact h
  have HCL : Hid (∀ i, i < 6 → w.cell? ⟨b, off + i * 3, none⟩ = some (.int .i64 (mmL l i).1) ∧ w.cell? ⟨b, off + i * 3 + 1, none⟩ = some (.int .i64 (mmL l i).2.1) ∧ w.cell? ⟨b, off + i * 3 + 2, none⟩ = some (.bool (mmL l i).2.2)) := hcl
  have HCO : Hid (∀ i, i < no → ∃ ob oo, ao = some ⟨ob, oo, none⟩ ∧ w.cell? ⟨ob, oo + i, none⟩ = some (.string (strL own i))) := fun i hi => by
    rcases HO.out.2 with h | ⟨ob, oo, e, h⟩
    · omega
    · exact ⟨ob, oo, e, h i hi⟩
  have HNO : Hid (own.length = no) := HO.out.1
  have d1 : w1.cell? ⟨w.heap.size, 1, none⟩ = some (.slice (some ⟨b, off, none⟩) 6 c) := HK1.out.cell 1
  clear hcl HI HO
  go_wp2_with fail
  clear d1 g0 g0' g0''
  have HS1 : Hid (w.heap.size + 1 ≤ w1.heap.size) := HK1.out.lt
  go_loopw [8, 9] (fun lv iv wr => ∃ k : Nat, k ≤ 6 ∧ iv = .int .i64 (k : Int) ∧ Hid (OwnWr wr (w.heap.size + 1) lv (wrK Ep own key l k)) ∧ Hid (∀ j, j < k → OneK no own key l j) ∧ Hid (Blk wr 24 w.heap.size #[.int .i64 Ep, .slice (some ⟨b, off, none⟩) 6 c, .int .i64 Op]) ∧ Hid (Below w.heap.size w wr)) (fun _ iv _ => 6 - (intOf iv).toNat)
  case atStart => exact ⟨0, Nat.zero_le _, rfl, World.ownsRow_nil _ _ _ _, fun j h => absurd h (Nat.not_lt_zero _), HK1.out, HB1.out⟩
  case round =>
    clear HB1 HK1 HS1
    obtain ⟨k, hk, rfl, HOW, HK, HG, HB⟩ := hrel
    by_cases hlt : k < 6
    · have b0 : (k : Int) < 6 := by omega
      have b1 : (0 : Int) ≤ (k : Int) := by omega
      have HK6 : Hid (k < 6) := hlt
      obtain ⟨c0, c1, c2⟩ := HCL.out k hlt
      have q1 : wr.cell? ⟨w.heap.size, 1, none⟩ = some (.slice (some ⟨b, off, none⟩) 6 c) := HG.out.cell 1
      have hwho := (HMY.out.2.2.2 k hlt).1
      have hwho' : (mmL l k).1 = (k : Int) + 1 := hwho
      rw [hwho'] at c0
      have cell : ∀ {p : Addr} {v : Value}, w.cell? p = some v → wr.cell? p = some v := fun h => by rw [HB.out.cell (World.block_lt_of_cell? w _ h)]; exact h
      replace c0 := cell c0
      replace c1 := cell c1
      replace c2 := cell c2
      obtain ⟨y, hy⟩ : ∃ y, (mmL l k).2.1 = y := ⟨_, rfl⟩
      obtain ⟨z, hz⟩ : ∃ z, (mmL l k).2.2 = z := ⟨_, rfl⟩
      rw [hy] at c1
      rw [hz] at c2
      have HZ : Hid ((mmL l k).2.2 = z) := hz
      clear hy hz hwho hwho' cell
      cases z with
      | false =>
        have hwn : wrK Ep own key l (k + 1) = wrK Ep own key l k := by show (if _ then _ else _) = _; rw [HZ.out, if_neg (by simp)]
        have HWN : Hid (wrK Ep own key l (k + 1) = wrK Ep own key l k) := hwn
        clear hwn
        go_wp2_with fail
        have HNK : Hid (∀ j, j < k + 1 → OneK no own key l j) := fun j hj => by
          by_cases e : j = k
          · rw [e]; intro h; rw [HZ.out] at h; cases h
          · exact HK.out j (by omega)
        refine ⟨?_, ?_⟩
        · first
          | exact ⟨k + 1, by omega, by go_num, by rw [HWN.out]; exact HOW.out, HNK, HG.out, HB.out⟩
          | ((repeat apply Exists.intro); refine ⟨?_, rfl⟩; exact ⟨k + 1, by omega, by go_num, by rw [HWN.out]; exact HOW.out, HNK, HG.out, HB.out⟩)
        · simp [intOf] <;> omega
      | true =>
        by_cases hno2 : k < no
        · have t1 : ¬ ((no : Int) ≤ (k : Int)) := by omega
          obtain ⟨ob, oo, rfl, ho0⟩ := HCO.out k hno2
          obtain ⟨sk, hsk⟩ : ∃ sk, strL own k = sk := ⟨_, rfl⟩
          rw [hsk] at ho0
          have HSK : Hid (strL own k = sk) := hsk
          have a2 : (k : Int) < (no : Int) := by omega
          have a1 : IntKind.i64.wrap ((k : Int) + 1) = (k : Int) + 1 := by rw [IntKind.wrap_i64]; omega
          have a3 : IntKind.i64.wrap (k : Int) = (k : Int) := by rw [IntKind.wrap_i64]; omega
          have q3 : wr.cell? ⟨ob, oo + k, none⟩ = some (.string sk) := by rw [HB.out.cell (World.block_lt_of_cell? w _ ho0)]; exact ho0
          have HQ3 : Hid (wr.cell? ⟨ob, oo + k, none⟩ = some (.string sk)) := q3
          clear hsk ho0
          by_cases hok : sk.size = 32
          · have g1 : ((sk.size : Int) == 32) = true := by simp; omega
            have g1' : (sk.size : Int) = 32 := by omega
            have g1'' : ((sk.size : Int) != 32) = false := by simp; omega
            have HOK : Hid (sk.size = 32) := hok
            go_wp2_with fail
            clear c0 c1 c2 q1 q3 g1 g1' g1''
            have e1 : ∀ p : Beh wr, p.w'.cell? ⟨w.heap.size, 0, none⟩ = some (.int .i64 Ep) := fun p => p.cell (HG.out.cell 0)
            have e2 : ∀ p : Beh wr, p.w'.cell? ⟨ob, oo + k, none⟩ = some (.string sk) := fun p => p.cell HQ3.out
            have mw : MayWk sk ((k : Int) + 1) Ep := ⟨hok, ⟨by omega, by omega⟩, HMY.out.1⟩
            have CW : Hid (∀ p : Beh wr, Calls Tryz.prog 19 #[.string sk, .int .i64 ((k : Int) + 1), .int .i64 Ep, .string key] p.w' fun e w' => e = .returned (.tuple #[.string (wrapB sk ((k : Int) + 1) Ep key), .int .i64 0]) ∧ Below p.w'.heap.size p.w' w') := fun p => rwrap_yes sk key _ Ep p.w' mw HKEY.out
            obtain ⟨T, hTT⟩ : ∃ T, wrapB sk ((k : Int) + 1) Ep key = T := ⟨_, rfl⟩
            rw [hTT] at CW
            have HWN : Hid (wrK Ep own key l (k + 1) = wrK Ep own key l k ++ [((k : Int) + 1, T)]) := by show (if _ then _ else _) = _; rw [HZ.out, if_pos rfl, HSK.out, hTT]
            have HNK : Hid (∀ j, j < k + 1 → OneK no own key l j) := fun j hj => by
              by_cases e : j = k
              · rw [e]; intro _; exact ⟨hno2, by rw [HSK.out]; exact HOK.out, HKEY.out⟩
              · exact HK.out j (by omega)
            obtain ⟨m, hm⟩ : ∃ m, (wrK Ep own key l k).length = m := ⟨_, rfl⟩
            have hm6 : m ≤ 6 := by have := wrK_len Ep own key l k; omega
            have HM9 : Hid ((wrK Ep own key l k).length = m) := hm
            clear hTT hok HK HSK hm mw
            have hne_ : Nonempty (Beh wr) := ⟨⟨_, Below.refl _ _⟩⟩
            refine wp_region_quiet_beh (by kernel_rfl) (by kernel_rfl) ?_
            repeat (quiet_step (first | (go_at_call 19; refine Calls.beh_of (CW.out _))))
            refine wpQuiet_nil ?_
            intro wq hw_
            obtain ⟨⟨wz_, hbq⟩, hw_⟩ := hw_
            subst hw_
            try dsimp only
            clear hne_
            have HGq : Hid (Blk wq 24 w.heap.size #[.int .i64 Ep, .slice (some ⟨b, off, none⟩) 6 c, .int .i64 Op]) := HG.out.on hbq
            have HBq : Hid (Below w.heap.size w wq) := below_step HB.out (Nat.le_refl _) hbq
            have hown : wq.ownsRow (w.heap.size + 1) 33 2 u8 m (cellsWr (wrK Ep own key l k)) := by rw [← HM9.out]; exact owns_on HOW.out hbq
            have hlt9 := HGq.out.lt
            clear e1 e2 CW HG HB HOW hbq
            go_wp2_with (at_builtin; refine wpList_appR2 rfl (.tmp 56) (.tmp 61) 28 rfl (w.heap.size + 1) 33 i0 _ 2 24 Tryz.underlying28 hi hz0 hz1 hz2 rfl (by decide) wq u8 _ _ rfl hown #[.int .i64 ((k : Int) + 1), .string T] rfl (wrapV_one ((k : Int) + 1, T)) rfl (by omega) (by unfold maxLen; omega) hlt9 ?_)
            intro v5 w5 hown5 hg5
            have nv := below_new wq (.cells #[.int .i64 ((k : Int) + 1), .string T] 33)
            have hgr : ∀ j, u8.ownBlock = some j → w.heap.size < j := fun j hj => by have := (World.ownsRow.lt hown j hj).1; omega
            have HO5 : Hid (OwnWr w5 (w.heap.size + 1) v5 (wrK Ep own key l (k + 1))) := by
              show World.ownsRow _ _ _ _ _ _ _
              rw [HWN.out, List.length_append, HM9.out, cellsWr_snoc]
              exact hown5
            have HG5 : Hid (Blk w5 24 w.heap.size #[.int .i64 Ep, .slice (some ⟨b, off, none⟩) 6 c, .int .i64 Op]) := (HGq.out.on nv).grown hg5 (fun e => by have := hgr _ e.symm; omega)
            have HB5 : Hid (Below w.heap.size w w5) := below_grown20 (below_step HBq.out (Nat.le_refl _) nv) hg5 (fun j hj => by have := hgr j hj; omega)
            clear hown5 hg5 nv hgr hown hlt9 HGq HBq HWN HM9
            go_wp2_with fail
            refine ⟨?_, ?_⟩
            · first
              | exact ⟨k + 1, by omega, by go_num, HO5, HNK, HG5, HB5⟩
              | ((repeat apply Exists.intro); refine ⟨?_, rfl⟩; exact ⟨k + 1, by omega, by go_num, HO5, HNK, HG5, HB5⟩)
            · simp [intOf] <;> omega
          · obtain rfl : D = false := Bool.eq_false_iff.2 (fun e => by
              have q := (HD.out.1 e).2 k HK6.out HZ.out
              rw [HSK.out] at q
              exact hok q.2.1)
            have g1 : ((sk.size : Int) == 32) = false := by simp; omega
            have g1' : ¬ (sk.size : Int) = 32 := by omega
            have g1'' : ((sk.size : Int) != 32) = true := by simp; omega
            clear hok HD
            go_wp2_with fail
            go_ret2
            exact ⟨.inl ⟨rfl, rfl⟩, HB.out⟩
        · have t1 : (no : Int) ≤ (k : Int) := by omega
          obtain rfl : D = false := Bool.eq_false_iff.2 (fun e => by
            have q := (HD.out.1 e).2 k HK6.out HZ.out
            rw [HNO.out] at q
            exact hno2 q.1)
          clear HD hno2
          go_wp2_with fail
          go_ret2
          exact ⟨.inl ⟨rfl, rfl⟩, HB.out⟩
    · obtain rfl : k = 6 := by omega
      have b0 : ¬ ((6 : Int) < 6) := by omega
      obtain rfl : D = true := HD.out.2 ⟨HMY.out, fun j hj => by
        show OneK own.length own key l j
        rw [HNO.out]; exact HK.out j hj⟩
      go_wp2_with fail
      go_ret2
      refine ⟨.inr ⟨rfl, _, rfl, ?_⟩, HB.out⟩
      show OwnWr _ _ _ _
      rw [← HL6.out]
      exact owns_less HOW.out (by omega)
end Go.Proofs.YtabhkebkbidfhaaGreatDoor

namespace Go.Proofs.YtabhkebkbidfhaaGreatDoor
open Go.ChangeShapes Go.WideShapes Go.RowKit
theorem slice_cell {H : Type} {enc : TypeId × Value → H} {P : Program} {w : World} {base : Nat} {held : Bool} {t e : TypeId} {n : Nat} {c : Value} {y : DataW H × List MemPlace} (ht : P.underlying t = some (.slice e)) (h : DataW.trod enc P w base (fun _ => true) held n t [c] = some y) :
    ∃ a len cap, c = .slice a len cap ∧ DataW.Trod enc P w base (fun _ => true) held t (.slice a len cap) y.1 y.2 := by
  rcases Go.Deep.open_slice ht h with ⟨hcs, _⟩ | ⟨x, l, cp, m, k, D, Pl, hcs, _⟩
  · simp at hcs
    subst hcs
    exact ⟨none, 0, 0, rfl, n, by simpa [Value.cells] using h⟩
  · simp at hcs
    subst hcs
    exact ⟨_, _, _, rfl, n, by simpa [Value.cells] using h⟩
end Go.Proofs.YtabhkebkbidfhaaGreatDoor

namespace Go.Proofs.YtabhkebkbidfhaaGreatDoor
open Go.ChangeShapes Go.WideShapes Go.RowKit
theorem Tryz.cBool : Tryz.prog.cellsOf 4 = 1 := by kernel_rfl
theorem mem_cells {H : Type} {enc : TypeId × Value → H} {w : World} {base : Nat} {spare : Nat → Bool} {held : Bool} {fuel : Nat} {cs : List Value} {x : DataW H × List MemPlace} (h : DataW.trod enc Tryz.prog w base spare held fuel 54 cs = some x) :
    ∃ q : MemT, cs = [.int .i64 q.1, .int .i64 q.2.1, .bool q.2.2] ∧ (Lit.int .i64 q.1).wf = true := by
  have hl := struct_len Tryz.underlying54 h
  obtain ⟨n0, y0, h0⟩ := field_of Tryz.underlying54 h 0 3 0 1 rfl Tryz.cInt
  obtain ⟨n1, y1, h1⟩ := field_of Tryz.underlying54 h 1 3 1 1 rfl Tryz.cInt
  obtain ⟨n2, y2, h2⟩ := field_of Tryz.underlying54 h 2 4 2 1 rfl Tryz.cBool
  obtain ⟨k, hk, wk⟩ := cell_int Tryz.underlying3 h0
  obtain ⟨m, hm, _⟩ := cell_int Tryz.underlying3 h1
  obtain ⟨z, hz⟩ := cell_bool Tryz.underlying4 h2
  rw [show Tryz.prog.cellsOf 54 = 3 by kernel_rfl] at hl
  match cs, hl with
  | [v0, v1, v2], _ =>
    have e0 : v0 = .int .i64 k := by simpa using hk
    have e1 : v1 = .int .i64 m := by simpa using hm
    have e2 : v2 = .bool z := by simpa using hz
    exact ⟨(k, m, z), by rw [e0, e1, e2], wk⟩
theorem mems_of {H : Type} {enc : TypeId × Value → H} {w : World} {base : Nat} {held : Bool} {a : Option Addr} {len cap : Nat} {d : DataW H} {p : List MemPlace} (h : DataW.Trod enc Tryz.prog w base (fun _ => true) held 22 (.slice a len cap) d p) :
    ∃ l, MmsAt w a len l ∧ len ≤ maxLen ∧ (∀ i, (Lit.int .i64 (mmL l i).1).wf = true) := by
  obtain ⟨hm, h0 | ⟨b, off, rfl, hr⟩⟩ := rows_of (c := 3) Tryz.underlying22 (by kernel_rfl) (by decide) h
  · subst h0
    exact ⟨[], ⟨rfl, .inl rfl⟩, hm, fun i => (show (Lit.int .i64 (0 : Int)).wf = true by decide)⟩
  · obtain ⟨l, hl, hR⟩ := choose_list (n := len) (R := fun i (q : MemT) => (∀ j, j < 3 → w.cell? ⟨b, off + i * 3 + j, none⟩ = [Value.int .i64 q.1, Value.int .i64 q.2.1, Value.bool q.2.2][j]?) ∧ (Lit.int .i64 q.1).wf = true) (fun i hi => by
      obtain ⟨n, x, cs, hcl, hcell, hx⟩ := hr i hi
      obtain ⟨q, rfl, hq⟩ := mem_cells hx
      refine ⟨q, fun j hj => ?_, hq⟩
      rw [Nat.add_assoc, hcell j hj])
    refine ⟨l, ⟨hl, .inr ⟨b, off, rfl, fun i hi => ?_⟩⟩, hm, fun i => ?_⟩
    · rw [mmL_get l i (by omega)]
      have h1 := (hR i (by omega)).1
      exact ⟨h1 0 (by decide), h1 1 (by decide), h1 2 (by decide)⟩
    · by_cases hi : i < l.length
      · rw [mmL_get l i hi]
        exact (hR i hi).2
      · rw [show mmL l i = (0, 0, false) by unfold mmL; rw [List.getD_eq_getElem?_getD, List.getElem?_eq_none (by omega)]; rfl]
        decide
set_option maxRecDepth 100000 in
theorem group_of {H : Type} {enc : TypeId × Value → H} {w : World} {base : Nat} {held : Bool} {r : Reach} {b0 : Nat} {v : Value} {d : DataW H} {p : List MemPlace} (hv : Value.okWide Tryz.prog w r b0 24 v) (h : DataW.Trod enc Tryz.prog w base (fun _ => true) held 24 v d p) :
    ∃ (G : GrpT) (a : Option Addr) (c : Nat), v = .agg (grpA G a c) ∧ MmsAt w a G.2.1.length G.2.1 ∧ (∀ i, (Lit.int .i64 (mmL G.2.1 i).1).wf = true) := by
  obtain ⟨cs, rfl, n, x, hx⟩ := agg_of Tryz.underlying24 hv h
  have hl := struct_len Tryz.underlying24 hx
  obtain ⟨n0, y0, h0⟩ := field_of Tryz.underlying24 hx 0 3 0 1 rfl Tryz.cInt
  obtain ⟨n1, y1, h1⟩ := field_of Tryz.underlying24 hx 1 22 1 1 rfl (by kernel_rfl)
  obtain ⟨n2, y2, h2⟩ := field_of Tryz.underlying24 hx 2 3 2 1 rfl Tryz.cInt
  obtain ⟨E, hE, _⟩ := cell_int Tryz.underlying3 h0
  obtain ⟨O, hO, _⟩ := cell_int Tryz.underlying3 h2
  rw [show Tryz.prog.cellsOf 24 = 3 by kernel_rfl] at hl
  obtain ⟨cl, hcl⟩ : ∃ cl, cs.toList = cl := ⟨_, rfl⟩
  rw [hcl] at hl hE hO h1
  match cl, hl, hcl with
  | [v0, v1, v2], _, hcl =>
    have h1' : DataW.trod enc Tryz.prog w base (fun _ => true) held n1 22 [v1] = some y1 := by simpa using h1
    obtain ⟨a, len, c, rfl, k⟩ := slice_cell Tryz.underlying22 h1'
    obtain ⟨l, l1, l2, l3⟩ := mems_of k
    have ln : l.length = len := l1.1
    subst ln
    have e0 : v0 = .int .i64 E := by simpa using hE
    have e2 : v2 = .int .i64 O := by simpa using hO
    refine ⟨(E, l, O), a, c, ?_, l1, l3⟩
    congr 1
    apply Array.toList_inj.1
    rw [hcl, e0, e2]
    rfl
theorem who_range {G : GrpT} (h : ∀ i, (Lit.int .i64 (mmL G.2.1 i).1).wf = true) : ∀ i, i < 6 → -9223372036854775808 ≤ (mmL G.2.1 i).1 ∧ (mmL G.2.1 i).1 ≤ 9223372036854775807 := by
  intro i _
  have := h i
  simp [Lit.wf] at this
  have h1 : IntKind.i64.min = -9223372036854775808 := by decide
  have h2 : IntKind.i64.max = 9223372036854775807 := by decide
  omega
end Go.Proofs.YtabhkebkbidfhaaGreatDoor

namespace Go.Proofs.YtabhkebkbidfhaaGreatDoor
open Go.ChangeShapes Go.WideShapes Go.RowKit
section
variable {H : Type} {enc : TypeId × Value → H} {P : Program} {w : World} {base : Nat} {spare : Nat → Bool} {held : Bool}
theorem strs_of {t e : TypeId} {a : Option Addr} {len cap : Nat} {d : DataW H} {p : List MemPlace} (ht : P.underlying t = some (.slice e)) (he : P.underlying e = some .string) (hc : P.cellsOf e = 1)
    (h : DataW.Trod enc P w base (fun _ => true) held t (.slice a len cap) d p) : ∃ l, StrsAt w a len l ∧ len ≤ maxLen ∧ ∀ s ∈ l, s.size ≤ maxLen := by
  obtain ⟨fuel, hf⟩ := h
  rcases open_strings ht he hc hf with ⟨hcs, _⟩ | ⟨x, n, c, ss, hcs, _, hl, hm, hz, _, hcell, hsz⟩
  · simp [Value.cells] at hcs
    obtain ⟨rfl, rfl, rfl⟩ := hcs
    exact ⟨[], ⟨rfl, .inl rfl⟩, Nat.zero_le _, fun s hs => by cases hs⟩
  · simp [Value.cells] at hcs
    obtain ⟨rfl, rfl, rfl⟩ := hcs
    have hz' : ss.length = cap := by simpa using hz
    refine ⟨ss.take len, ⟨by simp; omega, ?_⟩, Nat.le_trans hl hm, fun s hs => hsz s (List.mem_of_mem_take hs)⟩
    by_cases h0 : len = 0
    · exact .inl h0
    · obtain ⟨b, off, spot⟩ := x
      have hsp : spot = none := by simpa [Addr.add] using World.cell?_spot (hcell 0 (by omega))
      subst hsp
      refine .inr ⟨b, off, rfl, fun i hi => ?_⟩
      have h2 := hcell i (by omega)
      have e1 : strL (ss.take len) i = ss.getD i ByteArray.empty := by
        unfold strL
        rw [List.getD_eq_getElem?_getD, List.getD_eq_getElem?_getD, List.getElem?_take, if_pos hi]
        rfl
      rw [e1, ← Go.WideShapes.add_plain]
      exact h2
end
end Go.Proofs.YtabhkebkbidfhaaGreatDoor

namespace Go.Proofs.YtabhkebkbidfhaaGreatDoor
open Go.RowKit
set_option maxRecDepth 100000
set_option linter.unusedSimpArgs false
set_option linter.unusedVariables false
theorem light20_any (G : GrpT) (a : Option Addr) (c : Nat) (w : World) : Calls Tryz.prog 4 #[.agg (grpA G a c)] w fun e w' => e = .returned (.bool (decide ((G.2.1.length : Int) ≤ 20))) ∧ Below w.heap.size w w' := by
  obtain ⟨Ep, l, Op⟩ := G
  simp only [grpA]
  obtain ⟨n, hn⟩ : ∃ n, l.length = n := ⟨_, rfl⟩
  rw [hn]
  have HB : Hid (Below w.heap.size w (w.alloc (.cells #[.int .i64 Ep, .slice a n c, .int .i64 Op] 24))) := below_new _ _
  clear hn
  go_enter Tryz.func4, Tryz.ntmps4
  go_wp2_with fail
  go_ret
  exact ⟨rfl, HB.out⟩
theorem wrEq (x : Int) (T : ByteArray) (w : World) : (Op.equalIn 10000 33 (.agg #[.int .i64 x, .string T]) (.agg #[.int .i64 x, .string T])).run Tryz.prog w = .ok true w := by
  have u3 := Tryz.underlying3
  have a3 := Tryz.isAgg3
  have z3 := Tryz.sizeOf3
  have u9 := Tryz.underlying9
  have a9 := Tryz.isAgg9
  have z9 := Tryz.sizeOf9
  rw [show (10000 : Nat) = 9999 + 1 from rfl, Op.equalIn]
  simp only [Sem.run_bind, run_underlying Tryz.underlying33, Result.andThen_ok]
  go_simp
structure VrW (w : World) (h : Nat) (a : Option Addr) (n c : Nat) (E O : Int) (W : World) : Prop where
  gg : Blk W 24 h #[.int .i64 E, .slice a n c, .int .i64 O]
  bel : Below w.heap.size w W
theorem VrW.on {w W W' : World} {h : Nat} {a : Option Addr} {n c : Nat} {E O : Int} (k : VrW w h a n c E O W) (hb : Below W.heap.size W W') : VrW w h a n c E O W' := ⟨k.gg.on hb, below_step k.bel (Nat.le_refl _) hb⟩
set_option maxHeartbeats 8000000 in
theorem groupWraps_law (G : GrpT) (a : Option Addr) (c : Nat) (own : List ByteArray) (ao : Option Addr) (no co : Nat) (key : ByteArray) (w : World) (hT : Tabs w) (hG : Glob8 w) (hI : MmsAt w a G.2.1.length G.2.1) (hw : ∀ i, i < 6 → -9223372036854775808 ≤ (mmL G.2.1 i).1 ∧ (mmL G.2.1 i).1 ≤ 9223372036854775807) (hO : StrsAt w ao no own) :
    Calls Tryz.prog 3 #[.agg (grpA G a c), .slice ao no co, .string key] w fun e w' => e = .returned (.bool true) ∧ Below w.heap.size w w' := by
  have HG : Hid (Glob8 w) := hG
  have CL : Hid (∀ W, _) := fun W => light20_any G a c W
  obtain ⟨D, hD⟩ : ∃ D : Bool, D = true ↔ OkW G own key := by
    by_cases h : OkW G own key
    · exact ⟨true, by simp [h]⟩
    · exact ⟨false, by simp [h]⟩
  have CA : G.2.1.length ≤ 1048576 → no ≤ 1048576 → ∀ W, Below w.heap.size w W → _ := fun hn h2 W hW => wraps20_any G a c own ao no co key W D hD (hT.below hW) hn h2 (hI.below hW) (hO.below hW)
  have CB : G.2.1.length ≤ 1048576 → no ≤ 1048576 → ∀ W, Below w.heap.size w W → _ := fun hn h2 W hW => rwraps20_any G a c own ao no co key W D hD hw hn h2 (hI.below hW) (hO.below hW)
  have hAt := wrK_at G.1 own key G.2.1 6
  obtain ⟨L, hL⟩ : ∃ L, wrK G.1 own key G.2.1 6 = L := ⟨_, rfl⟩
  rw [hL] at CA CB hAt
  have HL6 : Hid (L.length ≤ 6) := by show _ ≤ _; rw [← hL]; exact wrK_len _ _ _ _ _
  have hU : D = true → ∀ k, k < L.length → ∃ (j : Nat) (sk T : ByteArray), wrL L k = ((j : Int) + 1, T) ∧ j < no ∧ strL own j = sk ∧ j < 6 ∧ ∀ W, Below w.heap.size w W → Calls Tryz.prog 8 #[.string sk, .int .i64 ((j : Int) + 1), .int .i64 G.1, .string T] W fun e w' => e = .returned (.tuple #[.string key, .int .i64 0]) ∧ Below W.heap.size W w' := by
    intro hd k hk
    have ok := hD.1 hd
    obtain ⟨j, h1, h2, h3⟩ := hAt (wrL L k) (by unfold wrL; rw [List.getD_eq_getElem?_getD, List.getElem?_eq_getElem hk]; exact List.getElem_mem hk)
    have q := ok.2 j h1 h2
    refine ⟨j, _, _, h3, by rw [← hO.1]; exact q.1, rfl, h1, fun W hW => ?_⟩
    have ub := unwrap_back (strL own j) key ((j : Int) + 1) G.1
    have C := kunwrap_yes (strL own j) (wrapB (strL own j) ((j : Int) + 1) G.1 key) ((j : Int) + 1) G.1 W (hT.below hW) ⟨q.2.1, ⟨by omega, by omega⟩, ok.1.1⟩ (by rw [wrapB_cut]; omega) ub.1 (by rw [ub.2]; exact q.2.2)
    rw [ub.2] at C
    exact C
  obtain ⟨Ep, l, Op⟩ := G
  simp only [grpA] at CL CA CB hI hU ⊢
  obtain ⟨n, hnn⟩ : ∃ n, l.length = n := ⟨_, rfl⟩
  simp only [hnn] at CL CA CB hI ⊢
  have HCA : Hid (n ≤ 1048576 → no ≤ 1048576 → _) := CA
  have HCB : Hid (n ≤ 1048576 → no ≤ 1048576 → _) := CB
  have HU : Hid (D = true → _) := hU
  have HO : Hid (StrsAt w ao no own) := hO
  have HCO : Hid (∀ i, i < no → ∃ ob oo, ao = some ⟨ob, oo, none⟩ ∧ w.cell? ⟨ob, oo + i, none⟩ = some (.string (strL own i))) := fun i hi => by
    rcases HO.out.2 with h | ⟨ob, oo, e, h⟩
    · omega
    · exact ⟨ob, oo, e, h i hi⟩
  have HV0 : Hid (VrW w w.heap.size a n c Ep Op (w.alloc (.cells #[.int .i64 Ep, .slice a n c, .int .i64 Op] 24))) := ⟨Blk.new _ _ _, below_new _ _⟩
  clear CA CB hU hO HO hI hnn hL hAt hD hG hT hw
  go_enter Tryz.func3, Tryz.ntmps3
  go_wp2_with fail
  obtain ⟨w0, hw0⟩ : ∃ w0, w.alloc (.cells #[.int .i64 Ep, .slice a n c, .int .i64 Op] 24) = w0 := ⟨_, rfl⟩
  obtain ⟨h2, hh2⟩ : ∃ h2, w.heap.size = h2 := ⟨_, rfl⟩
  rw [hw0] at HV0
  try rw [hw0]
  rw [show VrW w w.heap.size a n c Ep Op w0 = VrW w h2 a n c Ep Op w0 by rw [hh2]] at HV0
  try rw [hh2]
  clear hw0 hh2
  refine (CL.out w0).mono ?_
  rintro e wr ⟨rfl, hb⟩
  have HV : Hid (VrW w h2 a n c Ep Op wr) := HV0.out.on hb
  clear hb HV0 CL
  by_cases hn : n ≤ 20
  case neg =>
    have b0 : decide ((n : Int) ≤ 20) = false := decide_eq_false (by omega)
    clear HCA HCB HU HCO
    have HBy : Hid (Below w.heap.size w wr) := HV.out.bel
    go_wp2_with fail
    refine (awake20_any wr (HG.out.below HBy.out)).mono ?_
    rintro e w99 ⟨rfl, hb⟩
    have HBX : Hid (Below w.heap.size w w99) := below_step HBy.out (Nat.le_refl _) hb
    clear hb
    go_wp2_with fail
    go_ret
    exact ⟨rfl, HBX.out⟩
  have b0 : decide ((n : Int) ≤ 20) = true := decide_eq_true (by omega)
  by_cases h8 : no ≤ 8
  case neg =>
    have b1 : (8 : Int) < (no : Int) := by omega
    clear HCA HCB HU HCO
    have HBy : Hid (Below w.heap.size w wr) := HV.out.bel
    go_wp2_with fail
    refine (awake20_any wr (HG.out.below HBy.out)).mono ?_
    rintro e w99 ⟨rfl, hb⟩
    have HBX : Hid (Below w.heap.size w w99) := below_step HBy.out (Nat.le_refl _) hb
    clear hb
    go_wp2_with fail
    go_ret
    exact ⟨rfl, HBX.out⟩
  have b1 : ¬ ((8 : Int) < (no : Int)) := by omega
  by_cases h100 : key.size ≤ 100
  case neg =>
    have b2 : (100 : Int) < (key.size : Int) := by omega
    clear HCA HCB HU HCO
    have HBy : Hid (Below w.heap.size w wr) := HV.out.bel
    go_wp2_with fail
    refine (awake20_any wr (HG.out.below HBy.out)).mono ?_
    rintro e w99 ⟨rfl, hb⟩
    have HBX : Hid (Below w.heap.size w w99) := below_step HBy.out (Nat.le_refl _) hb
    clear hb
    go_wp2_with fail
    go_ret
    exact ⟨rfl, HBX.out⟩
  have b2 : ¬ ((100 : Int) < (key.size : Int)) := by omega
  have CA := HCA.out (by omega) (by omega)
  have CB := HCB.out (by omega) (by omega)
  clear HCA HCB
  have HCA : Hid (∀ W, Below w.heap.size w W → _) := CA
  have HCB : Hid (∀ W, Below w.heap.size w W → _) := CB
  clear CA CB
  go_wp2_with fail
  clear b0 b1 b2
  go_loopw [7] (fun i wr => ∃ k : Nat, k ≤ no ∧ i = .int .i64 (k : Int) ∧ Hid (VrW w h2 a n c Ep Op wr)) (fun i _ => no - (intOf i).toNat)
  case atStart => exact ⟨0, Nat.zero_le _, rfl, HV⟩
  case round =>
    clear HV
    obtain ⟨k, hk, rfl, HV⟩ := hrel
    by_cases hlt : k < no
    · have b0 : (k : Int) < (no : Int) := by omega
      have b1 : (0 : Int) ≤ (k : Int) := by omega
      obtain ⟨ob, oo, rfl, ho⟩ := HCO.out k hlt
      have q0 : wr.cell? ⟨ob, oo + k, none⟩ = some (.string (strL own k)) := by rw [HV.out.bel.cell (World.block_lt_of_cell? w _ ho)]; exact ho
      obtain ⟨sk, hsk⟩ : ∃ sk, strL own k = sk := ⟨_, rfl⟩
      rw [hsk] at q0
      clear hsk ho
      by_cases hs : sk.size ≤ 100
      · have b3 : ¬ ((100 : Int) < (sk.size : Int)) := by omega
        go_wp2_with fail
        refine ⟨⟨k + 1, by omega, by go_num, HV⟩, ?_⟩
        simp [intOf] <;> omega
      · have b3 : (100 : Int) < (sk.size : Int) := by omega
        clear HCA HCB HU HCO
        have HBy : Hid (Below w.heap.size w wr) := HV.out.bel
        go_wp2_with fail
        refine (awake20_any wr (HG.out.below HBy.out)).mono ?_
        rintro e w99 ⟨rfl, hb⟩
        have HBX : Hid (Below w.heap.size w w99) := below_step HBy.out (Nat.le_refl _) hb
        clear hb
        go_wp2_with fail
        go_ret
        exact ⟨rfl, HBX.out⟩
    · obtain rfl : no = k := by omega
      have b0 : ¬ ((no : Int) < (no : Int)) := by omega
      have d0 : wr.cell? ⟨h2, 0, none⟩ = some (.int .i64 Ep) := HV.out.gg.cell 0
      have d1 : wr.cell? ⟨h2, 1, none⟩ = some (.slice a n c) := HV.out.gg.cell 1
      have d2 : wr.cell? ⟨h2, 2, none⟩ = some (.int .i64 Op) := HV.out.gg.cell 2
      go_wp2_with fail
      clear d0 d1 d2
      refine (HCA.out wr HV.out.bel).mono ?_
      rintro e w2 ⟨hwo, hb⟩
      have HV2 : Hid (VrW w h2 a n c Ep Op w2) := HV.out.on hb
      have d0 : w2.cell? ⟨h2, 0, none⟩ = some (.int .i64 Ep) := HV2.out.gg.cell 0
      have d1 : w2.cell? ⟨h2, 1, none⟩ = some (.slice a n c) := HV2.out.gg.cell 1
      have d2 : w2.cell? ⟨h2, 2, none⟩ = some (.int .i64 Op) := HV2.out.gg.cell 2
      clear hb HV HCA
      rcases hwo with ⟨rfl, rfl⟩ | ⟨rfl, v, rfl, how⟩
      · clear HU HCO
        go_wp2_with fail
        clear d0 d1 d2
        refine (HCB.out w2 HV2.out.bel).mono ?_
        rintro e wr ⟨hwo, hb⟩
        have HV : Hid (VrW w h2 a n c Ep Op wr) := HV2.out.on hb
        clear hb HV2 HCB
        rcases hwo with ⟨_, rfl⟩ | ⟨h, _⟩
        case inr => cases h
        go_wp2_with fail
        go_loopw [12] (fun i wr => i = .int .i64 0 ∧ Hid (VrW w h2 a n c Ep Op wr)) (fun i _ => 0)
        case atStart => exact ⟨rfl, HV⟩
        case round =>
          clear HV
          obtain ⟨rfl, HV⟩ := hrel
          have HBy : Hid (Below w.heap.size w wr) := HV.out.bel
          go_wp2_with fail
          refine (awake20_any wr (HG.out.below HBy.out)).mono ?_
          rintro e w99 ⟨rfl, hb⟩
          have HBX : Hid (Below w.heap.size w w99) := below_step HBy.out (Nat.le_refl _) hb
          clear hb
          go_wp2_with fail
          go_ret
          exact ⟨rfl, HBX.out⟩
      · obtain ⟨a1, c1, rfl, hr⟩ := how.rows
        have HR1 : Hid (WrAt w2 a1 L.length L) := hr
        clear how hr
        go_wp2_with fail
        clear d0 d1 d2
        refine (HCB.out w2 HV2.out.bel).mono ?_
        rintro e wr ⟨hwo, hb⟩
        have HV : Hid (VrW w h2 a n c Ep Op wr) := HV2.out.on hb
        rcases hwo with ⟨h, _⟩ | ⟨_, v, rfl, how⟩
        case inl => cases h
        obtain ⟨a2, c2, rfl, hr⟩ := how.rows
        have HR : Hid (WrAt wr a1 L.length L ∧ WrAt wr a2 L.length L) := ⟨HR1.out.below hb, hr⟩
        clear hb HV2 HCB how hr HR1
        have hu := HU.out
        first
        | replace hu := hu rfl
        | replace hu := hu trivial
        have HUU : Hid (∀ k, k < L.length → _) := hu
        clear hu
        clear HU
        obtain ⟨m, hm⟩ : ∃ m, L.length = m := ⟨_, rfl⟩
        rw [hm] at HR HUU
        try rw [hm]
        have hm6 : m ≤ 6 := by rw [← hm]; exact HL6.out
        clear hm
        go_wp2_with fail
        go_loopw [12] (fun i wr => ∃ k : Nat, k ≤ m ∧ i = .int .i64 (k : Int) ∧ Hid (VrW w h2 a n c Ep Op wr) ∧ Hid (WrAt wr a1 m L ∧ WrAt wr a2 m L)) (fun i _ => m - (intOf i).toNat)
        case atStart => exact ⟨0, Nat.zero_le _, rfl, HV, HR⟩
        case round =>
          clear HV HR
          obtain ⟨k, hk, rfl, HV, HR⟩ := hrel
          by_cases hlt : k < m
          · have b0 : (k : Int) < (m : Int) := by omega
            have b1 : (0 : Int) ≤ (k : Int) := by omega
            obtain ⟨j, sk, T, hx, hj, hsk, hj6, CU⟩ := HUU.out k hlt
            obtain ⟨b1', o1, rfl, x⟩ := HR.out.1.2.resolve_left (by omega)
            obtain ⟨b2', o2, rfl, y⟩ := HR.out.2.2.resolve_left (by omega)
            obtain ⟨x0, x1⟩ := x k hlt
            obtain ⟨y0, y1⟩ := y k hlt
            rw [hx] at x0 x1 y0 y1
            simp only at x0 x1 y0 y1
            have X0 : Hid (wr.cell? ⟨b1', o1 + k * 2, none⟩ = some (.int .i64 ((j : Int) + 1))) := x0
            have X1 : Hid (wr.cell? ⟨b1', o1 + k * 2 + 1, none⟩ = some (.string T)) := x1
            have CU' : Hid (∀ W, Below w.heap.size w W → Calls Tryz.prog 8 #[.string sk, .int .i64 ((j : Int) + 1), .int .i64 Ep, .string T] W fun e w' => e = .returned (.tuple #[.string key, .int .i64 0]) ∧ Below W.heap.size W w') := CU
            obtain ⟨ob, oo, rfl, ho⟩ := HCO.out j hj
            rw [hsk] at ho
            have Q0 : Hid (wr.cell? ⟨ob, oo + j, none⟩ = some (.string sk)) := by show _ = _; rw [HV.out.bel.cell (World.block_lt_of_cell? w _ ho)]; exact ho
            have hE := fun w => wrEq ((j : Int) + 1) T w
            clear hx hsk CU x y ho
            go_wp2_with fail
            go_quiet (fail)
            clear x0 x1 y0 y1 hE
            go_wp2_with fail
            obtain ⟨wa, hwa⟩ : ∃ wa, wr.drewN nq = wa := ⟨_, rfl⟩
            have hbd : Below wr.heap.size wr wa := by rw [← hwa]; exact below_drewN (Below.refl _ _) _
            try rw [hwa]
            have HVa : Hid (VrW w h2 a n c Ep Op wa) := HV.out.on hbd
            have HRa : Hid (WrAt wa (some ⟨b1', o1, none⟩) m L ∧ WrAt wa (some ⟨b2', o2, none⟩) m L) := ⟨HR.out.1.below hbd, HR.out.2.below hbd⟩
            have e0 : ∀ p : Beh wa, p.w'.cell? ⟨b1', o1 + k * 2, none⟩ = some (.int .i64 ((j : Int) + 1)) := fun p => p.cell (by rw [hbd.cell (World.block_lt_of_cell? wr _ X0.out)]; exact X0.out)
            have e1 : ∀ p : Beh wa, p.w'.cell? ⟨b1', o1 + k * 2 + 1, none⟩ = some (.string T) := fun p => p.cell (by rw [hbd.cell (World.block_lt_of_cell? wr _ X1.out)]; exact X1.out)
            have e2 : ∀ p : Beh wa, p.w'.cell? ⟨ob, oo + j, none⟩ = some (.string sk) := fun p => p.cell (by rw [hbd.cell (World.block_lt_of_cell? wr _ Q0.out)]; exact Q0.out)
            have e3 : ∀ p : Beh wa, p.w'.cell? ⟨h2, 0, none⟩ = some (.int .i64 Ep) := fun p => p.cell (HVa.out.gg.cell 0)
            have CW : Hid (∀ p : Beh wa, Calls Tryz.prog 8 #[.string sk, .int .i64 ((j : Int) + 1), .int .i64 Ep, .string T] p.w' fun e w' => e = .returned (.tuple #[.string key, .int .i64 0]) ∧ Below p.w'.heap.size p.w' w') := fun p => CU'.out _ (below_step HVa.out.bel (Nat.le_refl _) p.h)
            clear hwa hbd HV HR X0 X1 Q0 CU'
            have s1 : IntKind.i64.wrap ((j : Int) + 1 - 1) = (j : Int) := by rw [IntKind.wrap_i64]; omega
            have s2 : (j : Int) < (no : Int) := by omega
            have s3 : IntKind.i64.wrap (j : Int) = (j : Int) := by rw [IntKind.wrap_i64]; omega
            have s4 : (0 : Int) ≤ (j : Int) := by omega
            have hne_ : Nonempty (Beh wa) := ⟨⟨_, Below.refl _ _⟩⟩
            refine wp_region_quiet_beh (by kernel_rfl) (by kernel_rfl) ?_
            repeat (quiet_step (first | (go_at_call 8; refine Calls.beh_of (CW.out _))))
            refine wpQuiet_nil ?_
            intro wq hw_
            obtain ⟨⟨wz_, hbq⟩, hw_⟩ := hw_
            subst hw_
            try dsimp only
            clear hne_
            have HVq : Hid (VrW w h2 a n c Ep Op wq) := HVa.out.on hbq
            have HRq : Hid (WrAt wq (some ⟨b1', o1, none⟩) m L ∧ WrAt wq (some ⟨b2', o2, none⟩) m L) := ⟨HRa.out.1.below hbq, HRa.out.2.below hbq⟩
            clear e0 e1 e2 e3 CW HVa HRa hbq s1 s2 s3 s4
            go_wp2_with fail
            refine ⟨⟨k + 1, by omega, by go_num, HVq, HRq⟩, ?_⟩
            simp [intOf] <;> omega
          · obtain rfl : m = k := by omega
            have b0 : ¬ ((m : Int) < (m : Int)) := by omega
            clear HR HUU HCO
            have HBy : Hid (Below w.heap.size w wr) := HV.out.bel
            go_wp2_with fail
            refine (awake20_any wr (HG.out.below HBy.out)).mono ?_
            rintro e w99 ⟨rfl, hb⟩
            have HBX : Hid (Below w.heap.size w w99) := below_step HBy.out (Nat.le_refl _) hb
            clear hb
            go_wp2_with fail
            go_ret
            exact ⟨rfl, HBX.out⟩
theorem groupWraps_z (v : Value) (own : List ByteArray) (ao : Option Addr) (no co : Nat) (key : ByteArray) (w : World) (hG : Tabs w ∧ Glob8 w) (z : ∃ (G : GrpT) (a : Option Addr) (c : Nat), v = .agg (grpA G a c) ∧ MmsAt w a G.2.1.length G.2.1 ∧ (∀ i, (Lit.int .i64 (mmL G.2.1 i).1).wf = true)) (hO : StrsAt w ao no own) :
    Calls Tryz.prog 3 #[v, .slice ao no co, .string key] w fun e w' => e = .returned (.bool true) ∧ Below w.heap.size w w' := by
  obtain ⟨G, a, c, rfl, hI, hw⟩ := z
  exact groupWraps_law G a c own ao no co key w hG.1 hG.2 hI (who_range hw) hO
theorem groupWraps_y (v : Value) (ao : Option Addr) (no co : Nat) (key : ByteArray) (w : World) (hG : Tabs w ∧ Glob8 w) (z : ∃ (G : GrpT) (a : Option Addr) (c : Nat), v = .agg (grpA G a c) ∧ MmsAt w a G.2.1.length G.2.1 ∧ (∀ i, (Lit.int .i64 (mmL G.2.1 i).1).wf = true)) (y : ∃ l, StrsAt w ao no l ∧ no ≤ maxLen ∧ ∀ s ∈ l, s.size ≤ maxLen) :
    Calls Tryz.prog 3 #[v, .slice ao no co, .string key] w fun e w' => e = .returned (.bool true) ∧ Below w.heap.size w w' := by
  obtain ⟨l, h, _⟩ := y
  exact groupWraps_z v l ao no co key w hG z h
end Go.Proofs.YtabhkebkbidfhaaGreatDoor
