import Derived.Test.YtabhkebkbidfhaaGreatDoorRGpW
import Derived.Test.YtabhkebkbidfhaaGreatDoorOpenG
import Derived.Test.YtabhkebkbidfhaaGreatDoorOpenS
import Derived.Test.YtabhkebkbidfhaaGreatDoorTA
/- GroupWraps: the walk. -/
namespace Go.Proofs.YtabhkebkbidfhaaGreatDoor
open Go.RowKit
set_option maxRecDepth 100000
set_option linter.unusedSimpArgs false
set_option linter.unusedVariables false
set_option maxRecDepth 100000

theorem light20_any (G : GrpT) (a : Option Addr) (c : Nat) (w : World) : Calls Tryz.prog 4 #[.agg (grpA G a c)] w fun e w' => e = .returned (.bool (decide ((G.2.1.length : Int) ≤ 20))) ∧ Below w.heap.size w w' := by
  obtain ⟨Ep, l, Op⟩ := G
  simp only [grpA]
  obtain ⟨n, hn⟩ : ∃ n, l.length = n := ⟨_, rfl⟩
  rw [hn]
  have HB : Hid (Below w.heap.size w (w.alloc (.cells #[.int .i64 Ep, .slice a n c, .int .i64 Op] 24))) := below_new _ _
  clear hn
  go_enter Tryz.func4, Tryz.ntmps4
  go_wp2_with fail
  go_ret
  exact ⟨rfl, HB.out⟩

theorem wrEq (x : Int) (T : ByteArray) (w : World) : (Op.equalIn 10000 33 (.agg #[.int .i64 x, .string T]) (.agg #[.int .i64 x, .string T])).run Tryz.prog w = .ok true w := by
  have u3 := Tryz.underlying3
  have a3 := Tryz.isAgg3
  have z3 := Tryz.sizeOf3
  have u9 := Tryz.underlying9
  have a9 := Tryz.isAgg9
  have z9 := Tryz.sizeOf9
  rw [show (10000 : Nat) = 9999 + 1 from rfl, Op.equalIn]
  simp only [Sem.run_bind, run_underlying Tryz.underlying33, Result.andThen_ok]
  go_simp

/-- A group's variable. -/
structure VrW (w : World) (h : Nat) (a : Option Addr) (n c : Nat) (E O : Int) (W : World) : Prop where
  gg : Blk W 24 h #[.int .i64 E, .slice a n c, .int .i64 O]
  bel : Below w.heap.size w W
theorem VrW.on {w W W' : World} {h : Nat} {a : Option Addr} {n c : Nat} {E O : Int} (k : VrW w h a n c E O W) (hb : Below W.heap.size W W') : VrW w h a n c E O W' := ⟨k.gg.on hb, below_step k.bel (Nat.le_refl _) hb⟩

set_option maxHeartbeats 8000000 in
theorem groupWraps_law (G : GrpT) (a : Option Addr) (c : Nat) (own : List ByteArray) (ao : Option Addr) (no co : Nat) (key : ByteArray) (w : World) (hT : Tabs w) (hG : Glob8 w) (hI : MmsAt w a G.2.1.length G.2.1) (hw : ∀ i, i < 6 → -9223372036854775808 ≤ (mmL G.2.1 i).1 ∧ (mmL G.2.1 i).1 ≤ 9223372036854775807) (hO : StrsAt w ao no own) :
    Calls Tryz.prog 3 #[.agg (grpA G a c), .slice ao no co, .string key] w fun e w' => e = .returned (.bool true) ∧ Below w.heap.size w w' := by
  have HG : Hid (Glob8 w) := hG
  have CL : Hid (∀ W, _) := fun W => light20_any G a c W
  obtain ⟨D, hD⟩ : ∃ D : Bool, D = true ↔ OkW G own key := by
    by_cases h : OkW G own key
    · exact ⟨true, by simp [h]⟩
    · exact ⟨false, by simp [h]⟩
  have CA : G.2.1.length ≤ 1048576 → no ≤ 1048576 → ∀ W, Below w.heap.size w W → _ := fun hn h2 W hW => wraps20_any G a c own ao no co key W D hD (hT.below hW) hn h2 (hI.below hW) (hO.below hW)
  have CB : G.2.1.length ≤ 1048576 → no ≤ 1048576 → ∀ W, Below w.heap.size w W → _ := fun hn h2 W hW => rwraps20_any G a c own ao no co key W D hD hw hn h2 (hI.below hW) (hO.below hW)
  have hAt := wrK_at G.1 own key G.2.1 6
  obtain ⟨L, hL⟩ : ∃ L, wrK G.1 own key G.2.1 6 = L := ⟨_, rfl⟩
  rw [hL] at CA CB hAt
  have HL6 : Hid (L.length ≤ 6) := by show _ ≤ _; rw [← hL]; exact wrK_len _ _ _ _ _
  have hU : D = true → ∀ k, k < L.length → ∃ (j : Nat) (sk T : ByteArray), wrL L k = ((j : Int) + 1, T) ∧ j < no ∧ strL own j = sk ∧ j < 6 ∧ ∀ W, Below w.heap.size w W → Calls Tryz.prog 8 #[.string sk, .int .i64 ((j : Int) + 1), .int .i64 G.1, .string T] W fun e w' => e = .returned (.tuple #[.string key, .int .i64 0]) ∧ Below W.heap.size W w' := by
    intro hd k hk
    have ok := hD.1 hd
    obtain ⟨j, h1, h2, h3⟩ := hAt (wrL L k) (by unfold wrL; rw [List.getD_eq_getElem?_getD, List.getElem?_eq_getElem hk]; exact List.getElem_mem hk)
    have q := ok.2 j h1 h2
    refine ⟨j, _, _, h3, by rw [← hO.1]; exact q.1, rfl, h1, fun W hW => ?_⟩
    have ub := unwrap_back (strL own j) key ((j : Int) + 1) G.1
    have C := kunwrap_yes (strL own j) (wrapB (strL own j) ((j : Int) + 1) G.1 key) ((j : Int) + 1) G.1 W (hT.below hW) ⟨q.2.1, ⟨by omega, by omega⟩, ok.1.1⟩ (by rw [wrapB_cut]; omega) ub.1 (by rw [ub.2]; exact q.2.2)
    rw [ub.2] at C
    exact C
  obtain ⟨Ep, l, Op⟩ := G
  simp only [grpA] at CL CA CB hI hU ⊢
  obtain ⟨n, hnn⟩ : ∃ n, l.length = n := ⟨_, rfl⟩
  simp only [hnn] at CL CA CB hI ⊢
  have HCA : Hid (n ≤ 1048576 → no ≤ 1048576 → _) := CA
  have HCB : Hid (n ≤ 1048576 → no ≤ 1048576 → _) := CB
  have HU : Hid (D = true → _) := hU
  have HO : Hid (StrsAt w ao no own) := hO
  have HCO : Hid (∀ i, i < no → ∃ ob oo, ao = some ⟨ob, oo, none⟩ ∧ w.cell? ⟨ob, oo + i, none⟩ = some (.string (strL own i))) := fun i hi => by
    rcases HO.out.2 with h | ⟨ob, oo, e, h⟩
    · omega
    · exact ⟨ob, oo, e, h i hi⟩
  have HV0 : Hid (VrW w w.heap.size a n c Ep Op (w.alloc (.cells #[.int .i64 Ep, .slice a n c, .int .i64 Op] 24))) := ⟨Blk.new _ _ _, below_new _ _⟩
  clear CA CB hU hO HO hI hnn hL hAt hD hG hT hw
  go_enter Tryz.func3, Tryz.ntmps3
  go_wp2_with fail
  obtain ⟨w0, hw0⟩ : ∃ w0, w.alloc (.cells #[.int .i64 Ep, .slice a n c, .int .i64 Op] 24) = w0 := ⟨_, rfl⟩
  obtain ⟨h2, hh2⟩ : ∃ h2, w.heap.size = h2 := ⟨_, rfl⟩
  rw [hw0] at HV0
  try rw [hw0]
  rw [show VrW w w.heap.size a n c Ep Op w0 = VrW w h2 a n c Ep Op w0 by rw [hh2]] at HV0
  try rw [hh2]
  clear hw0 hh2
  refine (CL.out w0).mono ?_
  rintro e wr ⟨rfl, hb⟩
  have HV : Hid (VrW w h2 a n c Ep Op wr) := HV0.out.on hb
  clear hb HV0 CL
  by_cases hn : n ≤ 20
  case neg =>
    have b0 : decide ((n : Int) ≤ 20) = false := decide_eq_false (by omega)
    clear HCA HCB HU HCO
    have HBy : Hid (Below w.heap.size w wr) := HV.out.bel
    go_wp2_with fail
    refine (awake20_any wr (HG.out.below HBy.out)).mono ?_
    rintro e w99 ⟨rfl, hb⟩
    have HBX : Hid (Below w.heap.size w w99) := below_step HBy.out (Nat.le_refl _) hb
    clear hb
    go_wp2_with fail
    go_ret
    exact ⟨rfl, HBX.out⟩
  have b0 : decide ((n : Int) ≤ 20) = true := decide_eq_true (by omega)
  by_cases h8 : no ≤ 8
  case neg =>
    have b1 : (8 : Int) < (no : Int) := by omega
    clear HCA HCB HU HCO
    have HBy : Hid (Below w.heap.size w wr) := HV.out.bel
    go_wp2_with fail
    refine (awake20_any wr (HG.out.below HBy.out)).mono ?_
    rintro e w99 ⟨rfl, hb⟩
    have HBX : Hid (Below w.heap.size w w99) := below_step HBy.out (Nat.le_refl _) hb
    clear hb
    go_wp2_with fail
    go_ret
    exact ⟨rfl, HBX.out⟩
  have b1 : ¬ ((8 : Int) < (no : Int)) := by omega
  by_cases h100 : key.size ≤ 100
  case neg =>
    have b2 : (100 : Int) < (key.size : Int) := by omega
    clear HCA HCB HU HCO
    have HBy : Hid (Below w.heap.size w wr) := HV.out.bel
    go_wp2_with fail
    refine (awake20_any wr (HG.out.below HBy.out)).mono ?_
    rintro e w99 ⟨rfl, hb⟩
    have HBX : Hid (Below w.heap.size w w99) := below_step HBy.out (Nat.le_refl _) hb
    clear hb
    go_wp2_with fail
    go_ret
    exact ⟨rfl, HBX.out⟩
  have b2 : ¬ ((100 : Int) < (key.size : Int)) := by omega
  have CA := HCA.out (by omega) (by omega)
  have CB := HCB.out (by omega) (by omega)
  clear HCA HCB
  have HCA : Hid (∀ W, Below w.heap.size w W → _) := CA
  have HCB : Hid (∀ W, Below w.heap.size w W → _) := CB
  clear CA CB
  go_wp2_with fail
  clear b0 b1 b2
  go_loopw [7] (fun i wr => ∃ k : Nat, k ≤ no ∧ i = .int .i64 (k : Int) ∧ Hid (VrW w h2 a n c Ep Op wr)) (fun i _ => no - (intOf i).toNat)
  case atStart => exact ⟨0, Nat.zero_le _, rfl, HV⟩
  case round =>
    clear HV
    obtain ⟨k, hk, rfl, HV⟩ := hrel
    by_cases hlt : k < no
    · have b0 : (k : Int) < (no : Int) := by omega
      have b1 : (0 : Int) ≤ (k : Int) := by omega
      obtain ⟨ob, oo, rfl, ho⟩ := HCO.out k hlt
      have q0 : wr.cell? ⟨ob, oo + k, none⟩ = some (.string (strL own k)) := by rw [HV.out.bel.cell (World.block_lt_of_cell? w _ ho)]; exact ho
      obtain ⟨sk, hsk⟩ : ∃ sk, strL own k = sk := ⟨_, rfl⟩
      rw [hsk] at q0
      clear hsk ho
      by_cases hs : sk.size ≤ 100
      · have b3 : ¬ ((100 : Int) < (sk.size : Int)) := by omega
        go_wp2_with fail
        refine ⟨⟨k + 1, by omega, by go_num, HV⟩, ?_⟩
        simp [intOf] <;> omega
      · have b3 : (100 : Int) < (sk.size : Int) := by omega
        clear HCA HCB HU HCO
        have HBy : Hid (Below w.heap.size w wr) := HV.out.bel
        go_wp2_with fail
        refine (awake20_any wr (HG.out.below HBy.out)).mono ?_
        rintro e w99 ⟨rfl, hb⟩
        have HBX : Hid (Below w.heap.size w w99) := below_step HBy.out (Nat.le_refl _) hb
        clear hb
        go_wp2_with fail
        go_ret
        exact ⟨rfl, HBX.out⟩
    · obtain rfl : no = k := by omega
      have b0 : ¬ ((no : Int) < (no : Int)) := by omega
      have d0 : wr.cell? ⟨h2, 0, none⟩ = some (.int .i64 Ep) := HV.out.gg.cell 0
      have d1 : wr.cell? ⟨h2, 1, none⟩ = some (.slice a n c) := HV.out.gg.cell 1
      have d2 : wr.cell? ⟨h2, 2, none⟩ = some (.int .i64 Op) := HV.out.gg.cell 2
      go_wp2_with fail
      clear d0 d1 d2
      refine (HCA.out wr HV.out.bel).mono ?_
      rintro e w2 ⟨hwo, hb⟩
      have HV2 : Hid (VrW w h2 a n c Ep Op w2) := HV.out.on hb
      have d0 : w2.cell? ⟨h2, 0, none⟩ = some (.int .i64 Ep) := HV2.out.gg.cell 0
      have d1 : w2.cell? ⟨h2, 1, none⟩ = some (.slice a n c) := HV2.out.gg.cell 1
      have d2 : w2.cell? ⟨h2, 2, none⟩ = some (.int .i64 Op) := HV2.out.gg.cell 2
      clear hb HV HCA
      rcases hwo with ⟨rfl, rfl⟩ | ⟨rfl, v, rfl, how⟩
      · clear HU HCO
        go_wp2_with fail
        clear d0 d1 d2
        refine (HCB.out w2 HV2.out.bel).mono ?_
        rintro e wr ⟨hwo, hb⟩
        have HV : Hid (VrW w h2 a n c Ep Op wr) := HV2.out.on hb
        clear hb HV2 HCB
        rcases hwo with ⟨_, rfl⟩ | ⟨h, _⟩
        case inr => cases h
        go_wp2_with fail
        go_loopw [12] (fun i wr => i = .int .i64 0 ∧ Hid (VrW w h2 a n c Ep Op wr)) (fun i _ => 0)
        case atStart => exact ⟨rfl, HV⟩
        case round =>
          clear HV
          obtain ⟨rfl, HV⟩ := hrel
          have HBy : Hid (Below w.heap.size w wr) := HV.out.bel
          go_wp2_with fail
          refine (awake20_any wr (HG.out.below HBy.out)).mono ?_
          rintro e w99 ⟨rfl, hb⟩
          have HBX : Hid (Below w.heap.size w w99) := below_step HBy.out (Nat.le_refl _) hb
          clear hb
          go_wp2_with fail
          go_ret
          exact ⟨rfl, HBX.out⟩
      · obtain ⟨a1, c1, rfl, hr⟩ := how.rows
        have HR1 : Hid (WrAt w2 a1 L.length L) := hr
        clear how hr
        go_wp2_with fail
        clear d0 d1 d2
        refine (HCB.out w2 HV2.out.bel).mono ?_
        rintro e wr ⟨hwo, hb⟩
        have HV : Hid (VrW w h2 a n c Ep Op wr) := HV2.out.on hb
        rcases hwo with ⟨h, _⟩ | ⟨_, v, rfl, how⟩
        case inl => cases h
        obtain ⟨a2, c2, rfl, hr⟩ := how.rows
        have HR : Hid (WrAt wr a1 L.length L ∧ WrAt wr a2 L.length L) := ⟨HR1.out.below hb, hr⟩
        clear hb HV2 HCB how hr HR1
        have hu := HU.out
        first
        | replace hu := hu rfl
        | replace hu := hu trivial
        have HUU : Hid (∀ k, k < L.length → _) := hu
        clear hu
        clear HU
        obtain ⟨m, hm⟩ : ∃ m, L.length = m := ⟨_, rfl⟩
        rw [hm] at HR HUU
        try rw [hm]
        have hm6 : m ≤ 6 := by rw [← hm]; exact HL6.out
        clear hm
        go_wp2_with fail
        go_loopw [12] (fun i wr => ∃ k : Nat, k ≤ m ∧ i = .int .i64 (k : Int) ∧ Hid (VrW w h2 a n c Ep Op wr) ∧ Hid (WrAt wr a1 m L ∧ WrAt wr a2 m L)) (fun i _ => m - (intOf i).toNat)
        case atStart => exact ⟨0, Nat.zero_le _, rfl, HV, HR⟩
        case round =>
          clear HV HR
          obtain ⟨k, hk, rfl, HV, HR⟩ := hrel
          by_cases hlt : k < m
          · have b0 : (k : Int) < (m : Int) := by omega
            have b1 : (0 : Int) ≤ (k : Int) := by omega
            obtain ⟨j, sk, T, hx, hj, hsk, hj6, CU⟩ := HUU.out k hlt
            obtain ⟨b1', o1, rfl, x⟩ := HR.out.1.2.resolve_left (by omega)
            obtain ⟨b2', o2, rfl, y⟩ := HR.out.2.2.resolve_left (by omega)
            obtain ⟨x0, x1⟩ := x k hlt
            obtain ⟨y0, y1⟩ := y k hlt
            rw [hx] at x0 x1 y0 y1
            simp only at x0 x1 y0 y1
            have X0 : Hid (wr.cell? ⟨b1', o1 + k * 2, none⟩ = some (.int .i64 ((j : Int) + 1))) := x0
            have X1 : Hid (wr.cell? ⟨b1', o1 + k * 2 + 1, none⟩ = some (.string T)) := x1
            have CU' : Hid (∀ W, Below w.heap.size w W → Calls Tryz.prog 8 #[.string sk, .int .i64 ((j : Int) + 1), .int .i64 Ep, .string T] W fun e w' => e = .returned (.tuple #[.string key, .int .i64 0]) ∧ Below W.heap.size W w') := CU
            obtain ⟨ob, oo, rfl, ho⟩ := HCO.out j hj
            rw [hsk] at ho
            have Q0 : Hid (wr.cell? ⟨ob, oo + j, none⟩ = some (.string sk)) := by show _ = _; rw [HV.out.bel.cell (World.block_lt_of_cell? w _ ho)]; exact ho
            have hE := fun w => wrEq ((j : Int) + 1) T w
            clear hx hsk CU x y ho
            go_wp2_with fail
            go_quiet (fail)
            clear x0 x1 y0 y1 hE
            go_wp2_with fail
            obtain ⟨wa, hwa⟩ : ∃ wa, wr.drewN nq = wa := ⟨_, rfl⟩
            have hbd : Below wr.heap.size wr wa := by rw [← hwa]; exact below_drewN (Below.refl _ _) _
            try rw [hwa]
            have HVa : Hid (VrW w h2 a n c Ep Op wa) := HV.out.on hbd
            have HRa : Hid (WrAt wa (some ⟨b1', o1, none⟩) m L ∧ WrAt wa (some ⟨b2', o2, none⟩) m L) := ⟨HR.out.1.below hbd, HR.out.2.below hbd⟩
            have e0 : ∀ p : Beh wa, p.w'.cell? ⟨b1', o1 + k * 2, none⟩ = some (.int .i64 ((j : Int) + 1)) := fun p => p.cell (by rw [hbd.cell (World.block_lt_of_cell? wr _ X0.out)]; exact X0.out)
            have e1 : ∀ p : Beh wa, p.w'.cell? ⟨b1', o1 + k * 2 + 1, none⟩ = some (.string T) := fun p => p.cell (by rw [hbd.cell (World.block_lt_of_cell? wr _ X1.out)]; exact X1.out)
            have e2 : ∀ p : Beh wa, p.w'.cell? ⟨ob, oo + j, none⟩ = some (.string sk) := fun p => p.cell (by rw [hbd.cell (World.block_lt_of_cell? wr _ Q0.out)]; exact Q0.out)
            have e3 : ∀ p : Beh wa, p.w'.cell? ⟨h2, 0, none⟩ = some (.int .i64 Ep) := fun p => p.cell (HVa.out.gg.cell 0)
            have CW : Hid (∀ p : Beh wa, Calls Tryz.prog 8 #[.string sk, .int .i64 ((j : Int) + 1), .int .i64 Ep, .string T] p.w' fun e w' => e = .returned (.tuple #[.string key, .int .i64 0]) ∧ Below p.w'.heap.size p.w' w') := fun p => CU'.out _ (below_step HVa.out.bel (Nat.le_refl _) p.h)
            clear hwa hbd HV HR X0 X1 Q0 CU'
            have s1 : IntKind.i64.wrap ((j : Int) + 1 - 1) = (j : Int) := by rw [IntKind.wrap_i64]; omega
            have s2 : (j : Int) < (no : Int) := by omega
            have s3 : IntKind.i64.wrap (j : Int) = (j : Int) := by rw [IntKind.wrap_i64]; omega
            have s4 : (0 : Int) ≤ (j : Int) := by omega
            have hne_ : Nonempty (Beh wa) := ⟨⟨_, Below.refl _ _⟩⟩
            refine wp_region_quiet_beh (by kernel_rfl) (by kernel_rfl) ?_
            repeat (quiet_step (first | (go_at_call 8; refine Calls.beh_of (CW.out _))))
            refine wpQuiet_nil ?_
            intro wq hw_
            obtain ⟨⟨wz_, hbq⟩, hw_⟩ := hw_
            subst hw_
            try dsimp only
            clear hne_
            have HVq : Hid (VrW w h2 a n c Ep Op wq) := HVa.out.on hbq
            have HRq : Hid (WrAt wq (some ⟨b1', o1, none⟩) m L ∧ WrAt wq (some ⟨b2', o2, none⟩) m L) := ⟨HRa.out.1.below hbq, HRa.out.2.below hbq⟩
            clear e0 e1 e2 e3 CW HVa HRa hbq s1 s2 s3 s4
            go_wp2_with fail
            refine ⟨⟨k + 1, by omega, by go_num, HVq, HRq⟩, ?_⟩
            simp [intOf] <;> omega
          · obtain rfl : m = k := by omega
            have b0 : ¬ ((m : Int) < (m : Int)) := by omega
            clear HR HUU HCO
            have HBy : Hid (Below w.heap.size w wr) := HV.out.bel
            go_wp2_with fail
            refine (awake20_any wr (HG.out.below HBy.out)).mono ?_
            rintro e w99 ⟨rfl, hb⟩
            have HBX : Hid (Below w.heap.size w w99) := below_step HBy.out (Nat.le_refl _) hb
            clear hb
            go_wp2_with fail
            go_ret
            exact ⟨rfl, HBX.out⟩

theorem groupWraps_z (v : Value) (own : List ByteArray) (ao : Option Addr) (no co : Nat) (key : ByteArray) (w : World) (hG : Tabs w ∧ Glob8 w) (z : ∃ (G : GrpT) (a : Option Addr) (c : Nat), v = .agg (grpA G a c) ∧ MmsAt w a G.2.1.length G.2.1 ∧ (∀ i, (Lit.int .i64 (mmL G.2.1 i).1).wf = true)) (hO : StrsAt w ao no own) :
    Calls Tryz.prog 3 #[v, .slice ao no co, .string key] w fun e w' => e = .returned (.bool true) ∧ Below w.heap.size w w' := by
  obtain ⟨G, a, c, rfl, hI, hw⟩ := z
  exact groupWraps_law G a c own ao no co key w hG.1 hG.2 hI (who_range hw) hO

theorem groupWraps_y (v : Value) (ao : Option Addr) (no co : Nat) (key : ByteArray) (w : World) (hG : Tabs w ∧ Glob8 w) (z : ∃ (G : GrpT) (a : Option Addr) (c : Nat), v = .agg (grpA G a c) ∧ MmsAt w a G.2.1.length G.2.1 ∧ (∀ i, (Lit.int .i64 (mmL G.2.1 i).1).wf = true)) (y : ∃ l, StrsAt w ao no l ∧ no ≤ maxLen ∧ ∀ s ∈ l, s.size ≤ maxLen) :
    Calls Tryz.prog 3 #[v, .slice ao no co, .string key] w fun e w' => e = .returned (.bool true) ∧ Below w.heap.size w w' := by
  obtain ⟨l, h, _⟩ := y
  exact groupWraps_z v l ao no co key w hG z h

end Go.Proofs.YtabhkebkbidfhaaGreatDoor
