import Derived.Test.YtogbkfakihnbdaaGreatDoorL1
import Derived.Test.YtogbkfakihnbdaaGreatDoorRTrL
/- The document's Apply (layer 11): an operation that may be, behind the base. -/
namespace Go.Proofs.YtogbkfakihnbdaaGreatDoor
open Go.RowKit
set_option linter.unusedSimpArgs false

theorem dupO_drop (s : Int × Int) (ops : List OpT) (m : Nat) (h : m < ops.length) (e : (oL ops m).2.1 = s) : dupO s ops = true := by
  unfold dupO
  rw [List.any_eq_true]
  refine ⟨oL ops m, ?_, decide_eq_true e⟩
  unfold oL
  rw [List.getD_eq_getElem?_getD, List.getElem?_eq_getElem h]
  exact List.getElem_mem h

set_option maxRecDepth 100000 in
set_option maxHeartbeats 4000000 in
theorem rapply_on (fx : List NodeT) (ops : List OpT) (b1 b2 k0 k1 k2 k3 k4 k5 k6 R : Int) (s t : ByteArray) (a1 a2 : Option Addr) (c1 c2 : Nat) (w : World) (Tn : TreeT) (hlen : fx.length + ops.length ≤ 50000) (hs : s.size ≤ 1048576) (ht : t.size ≤ 9223372036854775807)
    (H1 : Hid (NodesAt w a1 fx.length fx)) (H2 : Hid (OpsAt w a2 ops.length ops)) (H3 : Hid (SliceOk a2 ops.length c2)) (hD : true = true ↔ MayO (k0, (k1, k2), (k3, k4), (k5, k6), s, t)) (hA : LessS (b1, b2) (k1, k2))
    (HE : Hid ((Tn, R) = if dupO (k1, k2) ops = true then ((fx, ops, (b1, b2)), 0) else if 512 ≤ ops.length ∨ (k0 = 1 ∧ 512 ≤ fx.length + creO ops) then ((fx, ops, (b1, b2)), 2) else ((fx, putO (k0, (k1, k2), (k3, k4), (k5, k6), s, t) ops, (b1, b2)), 0))) :
    Calls Tryz.prog 67 #[.agg #[.slice a1 fx.length c1, .slice a2 ops.length c2, .int .i64 b1, .int .i64 b2], .agg #[.int .i64 k0, .int .i64 k1, .int .i64 k2, .int .i64 k3, .int .i64 k4, .int .i64 k5, .int .i64 k6, .string s, .string t]] w fun e w' => ∃ v, e = .returned (.tuple #[v, .int .i64 R]) ∧ TreeW a1 fx.length a2 ops.length w.heap.size w' v Tn ∧ Below w.heap.size w w' := by
  obtain ⟨i0, hi, hz0, hz1, hz2⟩ := info_parts Tryz.infoOp
  obtain ⟨w0, g, hg, hw0, hb0, T0, O0, R0⟩ := apply_blocks (fx, ops, (b1, b2)) (k0, (k1, k2), (k3, k4), (k5, k6), s, t) a1 a2 c1 c2 w
  have CM : Hid (Calls Tryz.prog 83 #[.agg #[.int .i64 k0, .int .i64 k1, .int .i64 k2, .int .i64 k3, .int .i64 k4, .int .i64 k5, .int .i64 k6, .string s, .string t]] w0 fun e w' => e = .returned (.bool true) ∧ Below w0.heap.size w0 w') := rmayO_any (k0, (k1, k2), (k3, k4), (k5, k6), s, t) true hD w0 hs ht
  have Lg : Hid (w.heap.size ≤ g + 2) := by show _ ≤ _; omega
  have Lg0 : Hid (w.heap.size ≤ g) := by show _ ≤ _; omega
  have CL : Hid (∀ w', Calls Tryz.prog 51 #[.agg #[.int .i64 b1, .int .i64 b2], .agg #[.int .i64 k1, .int .i64 k2]] w' fun e w'' => e = .returned (.bool true) ∧ Below w'.heap.size w' w'') := fun w' => by
    have := rless_any (b1, b2) (k1, k2) w'
    rw [decide_eq_true hA] at this; exact this
  clear hD hA
  have hl1 : fx.length ≤ 50000 := by omega
  have hl2 : ops.length ≤ 50000 := by omega
  go_enter Tryz.func67, Tryz.ntmps67
  go_wp2_with fail
  rw [← hg, ← hw0]
  clear hg hw0
  refine Calls.mono CM.out ?_
  rintro e w1 ⟨rfl, hb1⟩
  have T1 : Hid (Blk w1 92 g #[.slice a1 fx.length c1, .slice a2 ops.length c2, .int .i64 b1, .int .i64 b2]) := T0.out.on hb1
  have O1 : Hid (Blk w1 37 (g + 1) #[.int .i64 k0, .int .i64 k1, .int .i64 k2, .int .i64 k3, .int .i64 k4, .int .i64 k5, .int .i64 k6, .string s, .string t]) := O0.out.on hb1
  have R1 : Hid (Blk w1 92 (g + 2) #[.slice none 0 0, .slice none 0 0, .int .i64 0, .int .i64 0]) := R0.out.on hb1
  have B1 : Hid (Below w.heap.size w w1) := below_step hb0.out (Nat.le_refl _) hb1
  clear hb1 CM hb0 T0 O0 R0
  have TT := T1
  have t0 : World.cell? _ ⟨g, 0, none⟩ = some (.slice a1 fx.length c1) := TT.out.cell 0
  have t1 : World.cell? _ ⟨g, 1, none⟩ = some (.slice a2 ops.length c2) := TT.out.cell 1
  have t2 : World.cell? _ ⟨g, 2, none⟩ = some (.int .i64 b1) := TT.out.cell 2
  have t3 : World.cell? _ ⟨g, 3, none⟩ = some (.int .i64 b2) := TT.out.cell 3
  have o1 : World.cell? _ ⟨g + 1, 1, none⟩ = some (.int .i64 k1) := O1.out.cell 1
  have o2 : World.cell? _ ⟨g + 1, 2, none⟩ = some (.int .i64 k2) := O1.out.cell 2
  go_wp2_with fail
  refine (CL.out _).mono ?_
  rintro e w2 ⟨rfl, hb2⟩
  clear t0 t1 t2 t3 TT
  have T2 : Hid (Blk w2 92 g #[.slice a1 fx.length c1, .slice a2 ops.length c2, .int .i64 b1, .int .i64 b2]) := T1.out.on hb2
  have O2 : Hid (Blk w2 37 (g + 1) #[.int .i64 k0, .int .i64 k1, .int .i64 k2, .int .i64 k3, .int .i64 k4, .int .i64 k5, .int .i64 k6, .string s, .string t]) := O1.out.on hb2
  have R2 : Hid (Blk w2 92 (g + 2) #[.slice none 0 0, .slice none 0 0, .int .i64 0, .int .i64 0]) := R1.out.on hb2
  have B2 : Hid (Below w.heap.size w w2) := below_step B1.out (Nat.le_refl _) hb2
  clear hb2 T1 R1 B1 O1 CL o1 o2
  have TT := T2
  have t0 : World.cell? _ ⟨g, 0, none⟩ = some (.slice a1 fx.length c1) := TT.out.cell 0
  have t1 : World.cell? _ ⟨g, 1, none⟩ = some (.slice a2 ops.length c2) := TT.out.cell 1
  have t2 : World.cell? _ ⟨g, 2, none⟩ = some (.int .i64 b1) := TT.out.cell 2
  have t3 : World.cell? _ ⟨g, 3, none⟩ = some (.int .i64 b2) := TT.out.cell 3
  go_wp2_with fail
  clear t0 t1 t2 t3 TT
  go_loopw [6, 7, 8] (fun cr kk i wr => ∃ m : Nat, m ≤ ops.length ∧ i = .int .i64 ((m : Int) - 1) ∧ cr = .int .i64 ((fx.length + creO (ops.drop m) : Nat) : Int) ∧ kk = .int .i64 ((m + posO (k1, k2) (ops.drop m) : Nat) : Int) ∧ Hid (dupO (k1, k2) (ops.drop m) = false) ∧ Hid (Below w2.heap.size w2 wr)) (fun _ _ i _ => (intOf i + 1).toNat)
  case atStart =>
    refine ⟨ops.length, Nat.le_refl _, ?_, ?_, ?_, ?_, Below.refl _ _⟩
    · first | rfl | go_num
    · rw [List.drop_length]; first | rfl | go_num
    · rw [List.drop_length]; first | rfl | go_num
    · rw [List.drop_length]; rfl
  case round =>
    obtain ⟨m, hm, rfl, rfl, rfl, HD, B⟩ := hrel
    have TT : Hid (Blk wr 92 g #[.slice a1 fx.length c1, .slice a2 ops.length c2, .int .i64 b1, .int .i64 b2]) := T2.out.on B.out
    have OO : Hid (Blk wr 37 (g + 1) #[.int .i64 k0, .int .i64 k1, .int .i64 k2, .int .i64 k3, .int .i64 k4, .int .i64 k5, .int .i64 k6, .string s, .string t]) := O2.out.on B.out
    have RR : Hid (Blk wr 92 (g + 2) #[.slice none 0 0, .slice none 0 0, .int .i64 0, .int .i64 0]) := R2.out.on B.out
    have BB : Hid (Below w.heap.size w wr) := below_step B2.out (Nat.le_refl _) B.out
    cases m with
    | succ m =>
      have hml : m < ops.length := by omega
      obtain ⟨b, off, rfl, _⟩ := H2.out.2.some (by omega)
      obtain ⟨q0, q1, q2, _⟩ := (H2.out.below BB.out).cells m hml
      have hdr := drop_oL ops m hml
      have hdup := dupO_drop (k1, k2) ops m hml
      obtain ⟨x, hx⟩ : ∃ x, x = oL ops m := ⟨_, rfl⟩
      rw [← hx] at q0 q1 q2 hdr hdup
      clear hx
      have HC : Hid (creO (ops.drop m) = creO (ops.drop (m + 1)) + if x.1 = 1 then 1 else 0) := by show _ = _; rw [hdr]; exact creO_cons _ _
      have HP : Hid (posO (k1, k2) (ops.drop m) = if LessS (k1, k2) x.2.1 then 0 else posO (k1, k2) (ops.drop (m + 1)) + 1) := by show _ = _; rw [hdr]; exact posO_cons _ _ _
      have HDD : Hid (dupO (k1, k2) (ops.drop m) = (decide (x.2.1 = (k1, k2)) || dupO (k1, k2) (ops.drop (m + 1)))) := by show _ = _; rw [hdr]; rfl
      have hC := creO_le (ops.drop (m + 1))
      have hP := posO_le (k1, k2) (ops.drop (m + 1))
      rw [List.length_drop] at hC hP
      obtain ⟨C, HCC⟩ : ∃ C, Hid (C = creO (ops.drop (m + 1))) := ⟨_, rfl⟩
      obtain ⟨P, HPP⟩ : ∃ P, Hid (P = posO (k1, k2) (ops.drop (m + 1))) := ⟨_, rfl⟩
      rw [← HCC.out] at HC hC ⊢
      rw [← HPP.out] at HP hP ⊢
      rw [show ((m + 1 : Nat) : Int) - 1 = (m : Int) by omega]
      clear hdr HCC HPP
      obtain ⟨x0, ⟨x1, x2⟩, xr⟩ := x
      have HS : Hid (∀ w', Below wr.heap.size wr w' → ((w'.cell? ⟨g, 1, none⟩ = some (.slice (some ⟨b, off, none⟩) ops.length c2) ∧ w'.cell? ⟨g + 1, 1, none⟩ = some (.int .i64 k1) ∧ w'.cell? ⟨g + 1, 2, none⟩ = some (.int .i64 k2)) ∧ w'.cell? ⟨b, off + m * 9 + 1, none⟩ = some (.int .i64 x1) ∧ w'.cell? ⟨b, off + m * 9 + 2, none⟩ = some (.int .i64 x2)) ∧ w'.cell? ⟨b, off + m * 9, none⟩ = some (.int .i64 x0)) := fun w' hb => ⟨⟨⟨(TT.out.on hb).cell 1, (OO.out.on hb).cell 1, (OO.out.on hb).cell 2⟩, by rw [hb.cell (World.block_lt_of_cell? wr _ q1)]; exact q1, by rw [hb.cell (World.block_lt_of_cell? wr _ q2)]; exact q2⟩, by rw [hb.cell (World.block_lt_of_cell? wr _ q0)]; exact q0⟩
      clear q0 q1 q2
      have d0 : (m : Int) < (ops.length : Int) := by omega
      have hS0 := (HS.out _ (Below.refl wr.heap.size wr).drew).1
      by_cases heq : (x1, x2) = (k1, k2)
      · have hEq := fun w => stampEq x1 x2 k1 k2 w
        rw [decide_eq_true heq] at hEq
        have he := HE.out
        rw [if_pos (hdup heq)] at he
        obtain ⟨rfl, rfl⟩ : Tn = (fx, ops, (b1, b2)) ∧ R = 0 := ⟨congrArg Prod.fst he, congrArg Prod.snd he⟩
        clear he hdup HC HP HDD heq HE
        go_wp2_with fail
        refine wp_region_noPanic ?_
        refine wp_region_held_drew (S := fun w' => (w'.cell? ⟨g, 1, none⟩ = some (.slice (some ⟨b, off, none⟩) ops.length c2) ∧ w'.cell? ⟨g + 1, 1, none⟩ = some (.int .i64 k1) ∧ w'.cell? ⟨g + 1, 2, none⟩ = some (.int .i64 k2)) ∧ w'.cell? ⟨b, off + m * 9 + 1, none⟩ = some (.int .i64 x1) ∧ w'.cell? ⟨b, off + m * 9 + 2, none⟩ = some (.int .i64 x2)) (by kernel_rfl) (by first | exact trivial | assumption | exact ⟨by assumption, by assumption⟩) (fun hHeld => ?_)
        refine tk 0 (v := ?_) rfl rfl ?_ ?_
        rotate_left
        · intro w hSw; (try dsimp only at hSw); go_simp; try with_reducible rfl
        try simp only [Act.put, za, zb, zc]
        refine tk 1 (v := ?_) rfl rfl ?_ ?_
        rotate_left
        · intro w hSw; (try dsimp only at hSw); go_simp; try with_reducible rfl
        try simp only [Act.put, za, zb, zc]
        refine tk 2 (v := ?_) rfl rfl ?_ ?_
        rotate_left
        · intro w hSw; (try dsimp only at hSw); go_simp; try with_reducible rfl
        try simp only [Act.put, za, zb, zc]
        refine tk 3 (v := ?_) rfl rfl ?_ ?_
        rotate_left
        · intro w hSw; (try dsimp only at hSw); go_simp; try with_reducible rfl
        try simp only [Act.put, za, zb, zc]
        refine tk 4 (v := ?_) rfl rfl ?_ ?_
        rotate_left
        · intro w hSw; (try dsimp only at hSw); go_simp; try with_reducible rfl
        try simp only [Act.put, za, zb, zc]
        refine tk 5 (v := ?_) rfl rfl ?_ ?_
        rotate_left
        · intro w hSw; (try dsimp only at hSw); go_simp; try with_reducible rfl
        try simp only [Act.put, za, zb, zc]
        refine tk 6 (v := ?_) rfl rfl ?_ ?_
        rotate_left
        · intro w hSw; (try dsimp only at hSw); go_simp; try with_reducible rfl
        try simp only [Act.put, za, zb, zc]
        refine tk 7 (v := ?_) rfl rfl ?_ ?_
        rotate_left
        · intro w hSw; (try dsimp only at hSw); go_simp; try with_reducible rfl
        try simp only [Act.put, za, zb, zc]
        refine tk 8 (v := ?_) rfl rfl ?_ ?_
        rotate_left
        · intro w hSw; (try dsimp only at hSw); go_simp; try with_reducible rfl
        try simp only [Act.put, za, zb, zc]
        refine wpAnyH_done (by kernel_rfl) (NoPanic.normal ?_) _
        have hdw : Hid (Below wr.heap.size wr wr.drew) := (Below.refl _ _).drew
        have T3 : Hid (Blk wr.drew 92 g #[.slice a1 fx.length c1, .slice (some ⟨b, off, none⟩) ops.length c2, .int .i64 b1, .int .i64 b2]) := TT.out.on hdw.out
        have R3 : Hid (Blk wr.drew 92 (g + 2) #[.slice none 0 0, .slice none 0 0, .int .i64 0, .int .i64 0]) := RR.out.on hdw.out
        have B3 : Hid (Below w.heap.size w wr.drew) := BB.out.drew
        clear TT RR BB hS0 HS hHeld
        have TT := T3
        have RR := R3
        have BB := B3
        clear T3 R3 B3
        have t0 : World.cell? _ ⟨g, 0, none⟩ = some (.slice a1 fx.length c1) := TT.out.cell 0
        have t1 : World.cell? _ ⟨g, 1, none⟩ = some (.slice (some ⟨b, off, none⟩) ops.length c2) := TT.out.cell 1
        have t2 : World.cell? _ ⟨g, 2, none⟩ = some (.int .i64 b1) := TT.out.cell 2
        have t3 : World.cell? _ ⟨g, 3, none⟩ = some (.int .i64 b2) := TT.out.cell 3
        have HTV : Hid (∀ w', Below w.heap.size w w' → TreeW a1 fx.length (some ⟨b, off, none⟩) ops.length w.heap.size w' (.agg #[.slice a1 fx.length c1, .slice (some ⟨b, off, none⟩) ops.length c2, .int .i64 b1, .int .i64 b2]) (fx, ops, (b1, b2))) := fun w' hb => ⟨⟨a1, c1, _, c2, rfl, H1.out.below hb, H2.out.below hb, H3.out⟩, rows_same⟩
        go_wp2_with (with_reducible refine wpList_storeBlkH rfl 92 _ _ rfl (g + 2) #[.slice none 0 0, .slice none 0 0, .int .i64 0, .int .i64 0] #[.slice a1 fx.length c1, .slice (some ⟨b, off, none⟩) ops.length c2, .int .i64 b1, .int .i64 b2] ?hx ?hy RR.out rfl ?hi ?h1 ?_)
        try (case hx => rfl)
        try (case hy => rfl)
        case hi => first | kernel_rfl | (refine Option.map_eq_some_iff.1 (?_ : (Tryz.prog.info? 92).map (·.size) = some 4); kernel_rfl)
        case h1 => simp [Value.oneCell']
        unfold Hid
        go_wp2
        exact bodyPost_rowTmp rfl (g + 2) #[.slice a1 fx.length c1, .slice (some ⟨b, off, none⟩) ops.length c2, .int .i64 b1, .int .i64 b2] _ rfl rfl rfl (RR.out.setRow _) _ Tryz.underlying92 rfl (by kernel_rfl) ⟨_, rfl, HTV.out _ (below_setRow BB.out Lg.out _), below_setRow BB.out Lg.out _⟩
      · have hEq := fun w => stampEq x1 x2 k1 k2 w
        rw [decide_eq_false heq] at hEq
        have HDn : Hid (dupO (k1, k2) (ops.drop m) = false) := by show _ = _; rw [HDD.out, HD.out, Bool.or_false]; exact decide_eq_false heq
        have CLs := rless_any (k1, k2) (x1, x2)
        clear hdup HDD heq HD
        go_wp2_with fail
        refine wp_region_noPanic ?_
        refine wp_region_held_drew (S := fun w' => (w'.cell? ⟨g, 1, none⟩ = some (.slice (some ⟨b, off, none⟩) ops.length c2) ∧ w'.cell? ⟨g + 1, 1, none⟩ = some (.int .i64 k1) ∧ w'.cell? ⟨g + 1, 2, none⟩ = some (.int .i64 k2)) ∧ w'.cell? ⟨b, off + m * 9 + 1, none⟩ = some (.int .i64 x1) ∧ w'.cell? ⟨b, off + m * 9 + 2, none⟩ = some (.int .i64 x2)) (by kernel_rfl) (by first | exact trivial | assumption | exact ⟨by assumption, by assumption⟩) (fun hHeld => ?_)
        refine tk 0 (v := ?_) rfl rfl ?_ ?_
        rotate_left
        · intro w hSw; (try dsimp only at hSw); go_simp; try with_reducible rfl
        try simp only [Act.put, za, zb, zc]
        refine tk 1 (v := ?_) rfl rfl ?_ ?_
        rotate_left
        · intro w hSw; (try dsimp only at hSw); go_simp; try with_reducible rfl
        try simp only [Act.put, za, zb, zc]
        refine tk 2 (v := ?_) rfl rfl ?_ ?_
        rotate_left
        · intro w hSw; (try dsimp only at hSw); go_simp; try with_reducible rfl
        try simp only [Act.put, za, zb, zc]
        refine tk 3 (v := ?_) rfl rfl ?_ ?_
        rotate_left
        · intro w hSw; (try dsimp only at hSw); go_simp; try with_reducible rfl
        try simp only [Act.put, za, zb, zc]
        refine tk 4 (v := ?_) rfl rfl ?_ ?_
        rotate_left
        · intro w hSw; (try dsimp only at hSw); go_simp; try with_reducible rfl
        try simp only [Act.put, za, zb, zc]
        refine tk 5 (v := ?_) rfl rfl ?_ ?_
        rotate_left
        · intro w hSw; (try dsimp only at hSw); go_simp; try with_reducible rfl
        try simp only [Act.put, za, zb, zc]
        refine tk 6 (v := ?_) rfl rfl ?_ ?_
        rotate_left
        · intro w hSw; (try dsimp only at hSw); go_simp; try with_reducible rfl
        try simp only [Act.put, za, zb, zc]
        refine tk 7 (v := ?_) rfl rfl ?_ ?_
        rotate_left
        · intro w hSw; (try dsimp only at hSw); go_simp; try with_reducible rfl
        try simp only [Act.put, za, zb, zc]
        refine tk 8 (v := ?_) rfl rfl ?_ ?_
        rotate_left
        · intro w hSw; (try dsimp only at hSw); go_simp; try with_reducible rfl
        try simp only [Act.put, za, zb, zc]
        refine wpAnyH_done (by kernel_rfl) (NoPanic.normal ?_) _
        clear hS0 hHeld
        have hdw : Hid (Below wr.heap.size wr wr.drew) := (Below.refl _ _).drew
        have hS0 := (HS.out _ (hdw.out.drew)).1
        have hlc : fx.length + C + 1 ≤ 60000 := by omega
        by_cases hLD : LessS (k1, k2) (x1, x2)
        · rw [if_pos hLD] at HP
          have CLx : Hid (∀ w, Calls Tryz.prog 51 #[.agg #[.int .i64 k1, .int .i64 k2], .agg #[.int .i64 x1, .int .i64 x2]] w fun e w' => e = .returned (.bool true) ∧ Below w.heap.size w w') := fun w => by have := CLs w; rw [decide_eq_true hLD] at this; exact this
          clear CLs hLD
          by_cases hx0 : x0 = 1
          · subst hx0
            rw [if_pos rfl] at HC
            go_wp2_with fail
            refine wp_region_noPanic ?_
            refine wp_region_held_drew (S := fun w' => (w'.cell? ⟨g, 1, none⟩ = some (.slice (some ⟨b, off, none⟩) ops.length c2) ∧ w'.cell? ⟨g + 1, 1, none⟩ = some (.int .i64 k1) ∧ w'.cell? ⟨g + 1, 2, none⟩ = some (.int .i64 k2)) ∧ w'.cell? ⟨b, off + m * 9 + 1, none⟩ = some (.int .i64 x1) ∧ w'.cell? ⟨b, off + m * 9 + 2, none⟩ = some (.int .i64 x2)) (by kernel_rfl) (by first | exact trivial | assumption | exact ⟨by assumption, by assumption⟩) (fun hHeld => ?_)
            refine tk 0 (v := ?_) rfl rfl ?_ ?_
            rotate_left
            · intro w hSw; (try dsimp only at hSw); go_simp; try with_reducible rfl
            try simp only [Act.put, za, zb, zc]
            refine tk 1 (v := ?_) rfl rfl ?_ ?_
            rotate_left
            · intro w hSw; (try dsimp only at hSw); go_simp; try with_reducible rfl
            try simp only [Act.put, za, zb, zc]
            refine tk 2 (v := ?_) rfl rfl ?_ ?_
            rotate_left
            · intro w hSw; (try dsimp only at hSw); go_simp; try with_reducible rfl
            try simp only [Act.put, za, zb, zc]
            refine tk 3 (v := ?_) rfl rfl ?_ ?_
            rotate_left
            · intro w hSw; (try dsimp only at hSw); go_simp; try with_reducible rfl
            try simp only [Act.put, za, zb, zc]
            refine tk 4 (v := ?_) rfl rfl ?_ ?_
            rotate_left
            · intro w hSw; (try dsimp only at hSw); go_simp; try with_reducible rfl
            try simp only [Act.put, za, zb, zc]
            refine tk 5 (v := ?_) rfl rfl ?_ ?_
            rotate_left
            · intro w hSw; (try dsimp only at hSw); go_simp; try with_reducible rfl
            try simp only [Act.put, za, zb, zc]
            refine tk 6 (v := ?_) rfl rfl ?_ ?_
            rotate_left
            · intro w hSw; (try dsimp only at hSw); go_simp; try with_reducible rfl
            try simp only [Act.put, za, zb, zc]
            refine tk 7 (v := ?_) rfl rfl ?_ ?_
            rotate_left
            · intro w hSw; (try dsimp only at hSw); go_simp; try with_reducible rfl
            try simp only [Act.put, za, zb, zc]
            refine wpAnyH_ready (rs := [8]) (by kernel_rfl) (by simp) ?_
            refine AllReadyH.cons rfl (fun K hK => ?_) AllReadyH.nil
            go_simp
            refine (CLx.out _).mono ?_
            rintro e w3 ⟨rfl, hb3⟩
            have hbw : Hid (Below wr.heap.size wr w3) := below_step hdw.out.drew (Nat.le_refl _) hb3
            clear hb3
            refine hK.out _ _ ((HS.out _ hbw.out).1) (fun hHeld => ?_)
            clear hK K
            refine wpAnyH_done (by kernel_rfl) (NoPanic.normal ?_) _
            obtain ⟨⟨⟨z1, _⟩, _⟩, z0⟩ := HS.out _ hbw.out
            have B4 : Hid (Below w2.heap.size w2 w3) := below_step B.out (Nat.le_refl _) hbw.out
            clear hS0 HS hHeld hdw hbw CLx
            go_wp2
            refine ⟨⟨m, by omega, by first | rfl | go_num, by rw [HC.out]; first | rfl | go_num, by rw [HP.out]; first | rfl | go_num, HDn, B4⟩, ?_⟩
            simp [intOf]; try omega
          · have gx0 : (x0 == 1) = false := by rw [beq_eq_false_iff_ne]; exact hx0
            rw [if_neg hx0] at HC
            go_wp2_with fail
            refine wp_region_noPanic ?_
            refine wp_region_held_drew (S := fun w' => (w'.cell? ⟨g, 1, none⟩ = some (.slice (some ⟨b, off, none⟩) ops.length c2) ∧ w'.cell? ⟨g + 1, 1, none⟩ = some (.int .i64 k1) ∧ w'.cell? ⟨g + 1, 2, none⟩ = some (.int .i64 k2)) ∧ w'.cell? ⟨b, off + m * 9 + 1, none⟩ = some (.int .i64 x1) ∧ w'.cell? ⟨b, off + m * 9 + 2, none⟩ = some (.int .i64 x2)) (by kernel_rfl) (by first | exact trivial | assumption | exact ⟨by assumption, by assumption⟩) (fun hHeld => ?_)
            refine tk 0 (v := ?_) rfl rfl ?_ ?_
            rotate_left
            · intro w hSw; (try dsimp only at hSw); go_simp; try with_reducible rfl
            try simp only [Act.put, za, zb, zc]
            refine tk 1 (v := ?_) rfl rfl ?_ ?_
            rotate_left
            · intro w hSw; (try dsimp only at hSw); go_simp; try with_reducible rfl
            try simp only [Act.put, za, zb, zc]
            refine tk 2 (v := ?_) rfl rfl ?_ ?_
            rotate_left
            · intro w hSw; (try dsimp only at hSw); go_simp; try with_reducible rfl
            try simp only [Act.put, za, zb, zc]
            refine tk 3 (v := ?_) rfl rfl ?_ ?_
            rotate_left
            · intro w hSw; (try dsimp only at hSw); go_simp; try with_reducible rfl
            try simp only [Act.put, za, zb, zc]
            refine tk 4 (v := ?_) rfl rfl ?_ ?_
            rotate_left
            · intro w hSw; (try dsimp only at hSw); go_simp; try with_reducible rfl
            try simp only [Act.put, za, zb, zc]
            refine tk 5 (v := ?_) rfl rfl ?_ ?_
            rotate_left
            · intro w hSw; (try dsimp only at hSw); go_simp; try with_reducible rfl
            try simp only [Act.put, za, zb, zc]
            refine tk 6 (v := ?_) rfl rfl ?_ ?_
            rotate_left
            · intro w hSw; (try dsimp only at hSw); go_simp; try with_reducible rfl
            try simp only [Act.put, za, zb, zc]
            refine tk 7 (v := ?_) rfl rfl ?_ ?_
            rotate_left
            · intro w hSw; (try dsimp only at hSw); go_simp; try with_reducible rfl
            try simp only [Act.put, za, zb, zc]
            refine wpAnyH_ready (rs := [8]) (by kernel_rfl) (by simp) ?_
            refine AllReadyH.cons rfl (fun K hK => ?_) AllReadyH.nil
            go_simp
            refine (CLx.out _).mono ?_
            rintro e w3 ⟨rfl, hb3⟩
            have hbw : Hid (Below wr.heap.size wr w3) := below_step hdw.out.drew (Nat.le_refl _) hb3
            clear hb3
            refine hK.out _ _ ((HS.out _ hbw.out).1) (fun hHeld => ?_)
            clear hK K
            refine wpAnyH_done (by kernel_rfl) (NoPanic.normal ?_) _
            obtain ⟨⟨⟨z1, _⟩, _⟩, z0⟩ := HS.out _ hbw.out
            have B4 : Hid (Below w2.heap.size w2 w3) := below_step B.out (Nat.le_refl _) hbw.out
            clear hS0 HS hHeld hdw hbw CLx
            go_wp2
            refine ⟨⟨m, by omega, by first | rfl | go_num, by rw [HC.out]; first | rfl | go_num, by rw [HP.out]; first | rfl | go_num, HDn, B4⟩, ?_⟩
            simp [intOf]; try omega
        · rw [if_neg hLD] at HP
          have CLx : Hid (∀ w, Calls Tryz.prog 51 #[.agg #[.int .i64 k1, .int .i64 k2], .agg #[.int .i64 x1, .int .i64 x2]] w fun e w' => e = .returned (.bool false) ∧ Below w.heap.size w w') := fun w => by have := CLs w; rw [decide_eq_false hLD] at this; exact this
          clear CLs hLD
          by_cases hx0 : x0 = 1
          · subst hx0
            rw [if_pos rfl] at HC
            go_wp2_with fail
            refine wp_region_noPanic ?_
            refine wp_region_held_drew (S := fun w' => (w'.cell? ⟨g, 1, none⟩ = some (.slice (some ⟨b, off, none⟩) ops.length c2) ∧ w'.cell? ⟨g + 1, 1, none⟩ = some (.int .i64 k1) ∧ w'.cell? ⟨g + 1, 2, none⟩ = some (.int .i64 k2)) ∧ w'.cell? ⟨b, off + m * 9 + 1, none⟩ = some (.int .i64 x1) ∧ w'.cell? ⟨b, off + m * 9 + 2, none⟩ = some (.int .i64 x2)) (by kernel_rfl) (by first | exact trivial | assumption | exact ⟨by assumption, by assumption⟩) (fun hHeld => ?_)
            refine tk 0 (v := ?_) rfl rfl ?_ ?_
            rotate_left
            · intro w hSw; (try dsimp only at hSw); go_simp; try with_reducible rfl
            try simp only [Act.put, za, zb, zc]
            refine tk 1 (v := ?_) rfl rfl ?_ ?_
            rotate_left
            · intro w hSw; (try dsimp only at hSw); go_simp; try with_reducible rfl
            try simp only [Act.put, za, zb, zc]
            refine tk 2 (v := ?_) rfl rfl ?_ ?_
            rotate_left
            · intro w hSw; (try dsimp only at hSw); go_simp; try with_reducible rfl
            try simp only [Act.put, za, zb, zc]
            refine tk 3 (v := ?_) rfl rfl ?_ ?_
            rotate_left
            · intro w hSw; (try dsimp only at hSw); go_simp; try with_reducible rfl
            try simp only [Act.put, za, zb, zc]
            refine tk 4 (v := ?_) rfl rfl ?_ ?_
            rotate_left
            · intro w hSw; (try dsimp only at hSw); go_simp; try with_reducible rfl
            try simp only [Act.put, za, zb, zc]
            refine tk 5 (v := ?_) rfl rfl ?_ ?_
            rotate_left
            · intro w hSw; (try dsimp only at hSw); go_simp; try with_reducible rfl
            try simp only [Act.put, za, zb, zc]
            refine tk 6 (v := ?_) rfl rfl ?_ ?_
            rotate_left
            · intro w hSw; (try dsimp only at hSw); go_simp; try with_reducible rfl
            try simp only [Act.put, za, zb, zc]
            refine tk 7 (v := ?_) rfl rfl ?_ ?_
            rotate_left
            · intro w hSw; (try dsimp only at hSw); go_simp; try with_reducible rfl
            try simp only [Act.put, za, zb, zc]
            refine wpAnyH_ready (rs := [8]) (by kernel_rfl) (by simp) ?_
            refine AllReadyH.cons rfl (fun K hK => ?_) AllReadyH.nil
            go_simp
            refine (CLx.out _).mono ?_
            rintro e w3 ⟨rfl, hb3⟩
            have hbw : Hid (Below wr.heap.size wr w3) := below_step hdw.out.drew (Nat.le_refl _) hb3
            clear hb3
            refine hK.out _ _ ((HS.out _ hbw.out).1) (fun hHeld => ?_)
            clear hK K
            refine wpAnyH_done (by kernel_rfl) (NoPanic.normal ?_) _
            obtain ⟨⟨⟨z1, _⟩, _⟩, z0⟩ := HS.out _ hbw.out
            have B4 : Hid (Below w2.heap.size w2 w3) := below_step B.out (Nat.le_refl _) hbw.out
            clear hS0 HS hHeld hdw hbw CLx
            go_wp2
            refine ⟨⟨m, by omega, by first | rfl | go_num, by rw [HC.out]; first | rfl | go_num, by rw [HP.out]; first | rfl | go_num, HDn, B4⟩, ?_⟩
            simp [intOf]; try omega
          · have gx0 : (x0 == 1) = false := by rw [beq_eq_false_iff_ne]; exact hx0
            rw [if_neg hx0] at HC
            go_wp2_with fail
            refine wp_region_noPanic ?_
            refine wp_region_held_drew (S := fun w' => (w'.cell? ⟨g, 1, none⟩ = some (.slice (some ⟨b, off, none⟩) ops.length c2) ∧ w'.cell? ⟨g + 1, 1, none⟩ = some (.int .i64 k1) ∧ w'.cell? ⟨g + 1, 2, none⟩ = some (.int .i64 k2)) ∧ w'.cell? ⟨b, off + m * 9 + 1, none⟩ = some (.int .i64 x1) ∧ w'.cell? ⟨b, off + m * 9 + 2, none⟩ = some (.int .i64 x2)) (by kernel_rfl) (by first | exact trivial | assumption | exact ⟨by assumption, by assumption⟩) (fun hHeld => ?_)
            refine tk 0 (v := ?_) rfl rfl ?_ ?_
            rotate_left
            · intro w hSw; (try dsimp only at hSw); go_simp; try with_reducible rfl
            try simp only [Act.put, za, zb, zc]
            refine tk 1 (v := ?_) rfl rfl ?_ ?_
            rotate_left
            · intro w hSw; (try dsimp only at hSw); go_simp; try with_reducible rfl
            try simp only [Act.put, za, zb, zc]
            refine tk 2 (v := ?_) rfl rfl ?_ ?_
            rotate_left
            · intro w hSw; (try dsimp only at hSw); go_simp; try with_reducible rfl
            try simp only [Act.put, za, zb, zc]
            refine tk 3 (v := ?_) rfl rfl ?_ ?_
            rotate_left
            · intro w hSw; (try dsimp only at hSw); go_simp; try with_reducible rfl
            try simp only [Act.put, za, zb, zc]
            refine tk 4 (v := ?_) rfl rfl ?_ ?_
            rotate_left
            · intro w hSw; (try dsimp only at hSw); go_simp; try with_reducible rfl
            try simp only [Act.put, za, zb, zc]
            refine tk 5 (v := ?_) rfl rfl ?_ ?_
            rotate_left
            · intro w hSw; (try dsimp only at hSw); go_simp; try with_reducible rfl
            try simp only [Act.put, za, zb, zc]
            refine tk 6 (v := ?_) rfl rfl ?_ ?_
            rotate_left
            · intro w hSw; (try dsimp only at hSw); go_simp; try with_reducible rfl
            try simp only [Act.put, za, zb, zc]
            refine tk 7 (v := ?_) rfl rfl ?_ ?_
            rotate_left
            · intro w hSw; (try dsimp only at hSw); go_simp; try with_reducible rfl
            try simp only [Act.put, za, zb, zc]
            refine wpAnyH_ready (rs := [8]) (by kernel_rfl) (by simp) ?_
            refine AllReadyH.cons rfl (fun K hK => ?_) AllReadyH.nil
            go_simp
            refine (CLx.out _).mono ?_
            rintro e w3 ⟨rfl, hb3⟩
            have hbw : Hid (Below wr.heap.size wr w3) := below_step hdw.out.drew (Nat.le_refl _) hb3
            clear hb3
            refine hK.out _ _ ((HS.out _ hbw.out).1) (fun hHeld => ?_)
            clear hK K
            refine wpAnyH_done (by kernel_rfl) (NoPanic.normal ?_) _
            obtain ⟨⟨⟨z1, _⟩, _⟩, z0⟩ := HS.out _ hbw.out
            have B4 : Hid (Below w2.heap.size w2 w3) := below_step B.out (Nat.le_refl _) hbw.out
            clear hS0 HS hHeld hdw hbw CLx
            go_wp2
            refine ⟨⟨m, by omega, by first | rfl | go_num, by rw [HC.out]; first | rfl | go_num, by rw [HP.out]; first | rfl | go_num, HDn, B4⟩, ?_⟩
            simp [intOf]; try omega
    | zero =>
      rw [List.drop_zero] at HD ⊢
      rw [Nat.zero_add]
      have he := HE.out
      rw [if_neg (by rw [HD.out]; decide)] at he
      have hC := creO_le ops
      have hP := posO_le (k1, k2) ops
      obtain ⟨C, HCC⟩ : ∃ C, Hid (C = creO ops) := ⟨_, rfl⟩
      obtain ⟨P, HPP⟩ : ∃ P, Hid (P = posO (k1, k2) ops) := ⟨_, rfl⟩
      rw [← HCC.out] at he hC ⊢
      rw [← HPP.out] at hP ⊢
      clear HD HE
      have o0 : wr.cell? ⟨g + 1, 0, none⟩ = some (.int .i64 k0) := OO.out.cell 0
      by_cases hfull : 512 ≤ ops.length ∨ (k0 = 1 ∧ 512 ≤ fx.length + C)
      · rw [if_pos hfull] at he
        obtain ⟨rfl, rfl⟩ : Tn = (fx, ops, (b1, b2)) ∧ R = 2 := ⟨congrArg Prod.fst he, congrArg Prod.snd he⟩
        clear he
        by_cases hf1 : 512 ≤ ops.length
        · have gf : decide ((512 : Int) ≤ (ops.length : Int)) = true := by simp; omega
          have t0 : World.cell? _ ⟨g, 0, none⟩ = some (.slice a1 fx.length c1) := TT.out.cell 0
          have t1 : World.cell? _ ⟨g, 1, none⟩ = some (.slice a2 ops.length c2) := TT.out.cell 1
          have t2 : World.cell? _ ⟨g, 2, none⟩ = some (.int .i64 b1) := TT.out.cell 2
          have t3 : World.cell? _ ⟨g, 3, none⟩ = some (.int .i64 b2) := TT.out.cell 3
          have HTV : Hid (∀ w', Below w.heap.size w w' → TreeW a1 fx.length a2 ops.length w.heap.size w' (.agg #[.slice a1 fx.length c1, .slice a2 ops.length c2, .int .i64 b1, .int .i64 b2]) (fx, ops, (b1, b2))) := fun w' hb => ⟨⟨a1, c1, a2, c2, rfl, H1.out.below hb, H2.out.below hb, H3.out⟩, rows_same⟩
          go_wp2_with (with_reducible refine wpList_storeBlkH rfl 92 _ _ rfl (g + 2) #[.slice none 0 0, .slice none 0 0, .int .i64 0, .int .i64 0] #[.slice a1 fx.length c1, .slice a2 ops.length c2, .int .i64 b1, .int .i64 b2] ?hx ?hy RR.out rfl ?hi ?h1 ?_)
          try (case hx => rfl)
          try (case hy => rfl)
          case hi => first | kernel_rfl | (refine Option.map_eq_some_iff.1 (?_ : (Tryz.prog.info? 92).map (·.size) = some 4); kernel_rfl)
          case h1 => simp [Value.oneCell']
          unfold Hid
          go_wp2
          exact bodyPost_rowTmp rfl (g + 2) #[.slice a1 fx.length c1, .slice a2 ops.length c2, .int .i64 b1, .int .i64 b2] _ rfl rfl rfl (RR.out.setRow _) _ Tryz.underlying92 rfl (by kernel_rfl) ⟨_, rfl, HTV.out _ (below_setRow BB.out Lg.out _), below_setRow BB.out Lg.out _⟩
        · have gf : decide ((512 : Int) ≤ (ops.length : Int)) = false := by simp; omega
          have hf2 : k0 = 1 ∧ 512 ≤ fx.length + C := hfull.elim (fun h => absurd h hf1) id
          obtain ⟨rfl, hf3⟩ := hf2
          have gf2 : decide ((512 : Int) ≤ ((fx.length + C : Nat) : Int)) = true := by simp; omega
          have gf3 : (512 : Int) ≤ (fx.length : Int) + (C : Int) := by omega
          have t0 : World.cell? _ ⟨g, 0, none⟩ = some (.slice a1 fx.length c1) := TT.out.cell 0
          have t1 : World.cell? _ ⟨g, 1, none⟩ = some (.slice a2 ops.length c2) := TT.out.cell 1
          have t2 : World.cell? _ ⟨g, 2, none⟩ = some (.int .i64 b1) := TT.out.cell 2
          have t3 : World.cell? _ ⟨g, 3, none⟩ = some (.int .i64 b2) := TT.out.cell 3
          have HTV : Hid (∀ w', Below w.heap.size w w' → TreeW a1 fx.length a2 ops.length w.heap.size w' (.agg #[.slice a1 fx.length c1, .slice a2 ops.length c2, .int .i64 b1, .int .i64 b2]) (fx, ops, (b1, b2))) := fun w' hb => ⟨⟨a1, c1, a2, c2, rfl, H1.out.below hb, H2.out.below hb, H3.out⟩, rows_same⟩
          go_wp2_with (with_reducible refine wpList_storeBlkH rfl 92 _ _ rfl (g + 2) #[.slice none 0 0, .slice none 0 0, .int .i64 0, .int .i64 0] #[.slice a1 fx.length c1, .slice a2 ops.length c2, .int .i64 b1, .int .i64 b2] ?hxV ?hyV RR.out rfl ?hiV ?h1V ?_)
          try (case hxV => rfl)
          try (case hyV => rfl)
          case hiV => first | kernel_rfl | (refine Option.map_eq_some_iff.1 (?_ : (Tryz.prog.info? 92).map (·.size) = some 4); kernel_rfl)
          case h1V => simp [Value.oneCell']
          unfold Hid
          go_wp2
          exact bodyPost_rowTmp rfl (g + 2) #[.slice a1 fx.length c1, .slice a2 ops.length c2, .int .i64 b1, .int .i64 b2] _ rfl rfl rfl (RR.out.setRow _) _ Tryz.underlying92 rfl (by kernel_rfl) ⟨_, rfl, HTV.out _ (below_setRow BB.out Lg.out _), below_setRow BB.out Lg.out _⟩
      · rw [if_neg hfull] at he
        have hn5 : ops.length < 512 := by omega
        have gf : decide ((512 : Int) ≤ (ops.length : Int)) = false := by simp; omega
        have hput : putO (k0, (k1, k2), (k3, k4), (k5, k6), s, t) ops = ops.take P ++ (k0, (k1, k2), (k3, k4), (k5, k6), s, t) :: ops.drop P := by rw [HPP.out]; rfl
        rw [hput] at he
        obtain ⟨rfl, rfl⟩ : Tn = (fx, ops.take P ++ (k0, (k1, k2), (k3, k4), (k5, k6), s, t) :: ops.drop P, (b1, b2)) ∧ R = 0 := ⟨congrArg Prod.fst he, congrArg Prod.snd he⟩
        clear he
        clear hput HPP HCC
        have o1 : wr.cell? ⟨g + 1, 1, none⟩ = some (.int .i64 k1) := OO.out.cell 1
        have o2 : wr.cell? ⟨g + 1, 2, none⟩ = some (.int .i64 k2) := OO.out.cell 2
        by_cases hk1 : k0 = 1
        · subst hk1
          have hcf : fx.length + C < 512 := by omega
          have gf2 : decide ((512 : Int) ≤ ((fx.length + C : Nat) : Int)) = false := by simp; omega
          have gf3 : ¬ ((512 : Int) ≤ (fx.length : Int) + (C : Int)) := by omega
          by_cases hn0 : ops.length = 0
          · have hops : ops = [] := List.length_eq_zero_iff.1 hn0
            subst hops
            have hP0 : P = 0 := by simpa using hP
            subst hP0
            clear hn0
            rcases H3.out with ⟨rfl, _, rfl⟩ | ⟨x, rfl, _⟩
            · have HSRC : Hid (SrcAt wr (.slice none 0 0) 0 []) := .inl ⟨rfl, rfl, rfl⟩
              have t0 : World.cell? _ ⟨g, 0, none⟩ = some (.slice a1 fx.length c1) := TT.out.cell 0
              have t1 : World.cell? _ ⟨g, 1, none⟩ = some (.slice none 0 0) := TT.out.cell 1
              have t2 : World.cell? _ ⟨g, 2, none⟩ = some (.int .i64 b1) := TT.out.cell 2
              have t3 : World.cell? _ ⟨g, 3, none⟩ = some (.int .i64 b2) := TT.out.cell 3
              go_wp2_with (at_builtin; refine wpList_appW (by rfl) (.tmp 79) (.tmp 83) 24 rfl wr.heap.size 37 i0 _ 9 88 Tryz.underlying24 hi hz0 hz1 hz2 rfl (by decide) (.slice none 0 0) 0 [] rfl (World.ownsRow_nil _ _ _ _) _ 0 [] rfl HSRC.out rfl (fun u hu => by cases hu) (by unfold maxLen; omega) (by omega) (Nat.le_refl _) ?_)
              intro v5 w5 hown5 hgr5
              have W5 : Hid (OwnO w5 wr.heap.size v5 (([] : List OpT))) := by
                show World.ownsRow _ _ _ _ _ _ _
                simpa [cellsO] using hown5
              have Lr : Hid (g + 2 < wr.heap.size) := RR.out.lt
              have T5 : Hid (Blk w5 92 g #[.slice a1 fx.length c1, .slice none 0 0, .int .i64 b1, .int .i64 b2]) := TT.out.grown hgr5 (by simp [Value.ownBlock])
              have P5 : Hid (Blk w5 37 (g + 1) #[.int .i64 1, .int .i64 k1, .int .i64 k2, .int .i64 k3, .int .i64 k4, .int .i64 k5, .int .i64 k6, .string s, .string t]) := OO.out.grown hgr5 (by simp [Value.ownBlock])
              have R5 : Hid (Blk w5 92 (g + 2) #[.slice none 0 0, .slice none 0 0, .int .i64 0, .int .i64 0]) := RR.out.grown hgr5 (by simp [Value.ownBlock])
              have B5 : Hid (Below w.heap.size w w5) := BB.out.grown hgr5 BB.out.size (fun k hk => by cases hk)
              have L5 : Hid (wr.heap.size ≤ w5.heap.size) := hgr5.size
              clear hown5 hgr5 t0 t1 t2 t3 o0 o1 o2 TT OO RR
              have p0 : w5.cell? ⟨g + 1, 0, none⟩ = some (.int .i64 1) := P5.out.cell 0
              have p1 : w5.cell? ⟨g + 1, 1, none⟩ = some (.int .i64 k1) := P5.out.cell 1
              have p2 : w5.cell? ⟨g + 1, 2, none⟩ = some (.int .i64 k2) := P5.out.cell 2
              have p3 : w5.cell? ⟨g + 1, 3, none⟩ = some (.int .i64 k3) := P5.out.cell 3
              have p4 : w5.cell? ⟨g + 1, 4, none⟩ = some (.int .i64 k4) := P5.out.cell 4
              have p5 : w5.cell? ⟨g + 1, 5, none⟩ = some (.int .i64 k5) := P5.out.cell 5
              have p6 : w5.cell? ⟨g + 1, 6, none⟩ = some (.int .i64 k6) := P5.out.cell 6
              have p7 : w5.cell? ⟨g + 1, 7, none⟩ = some (.string s) := P5.out.cell 7
              have p8 : w5.cell? ⟨g + 1, 8, none⟩ = some (.string t) := P5.out.cell 8
              go_wp2_with (at_builtin; refine wpList_appW (by rfl) (.tmp 85) (.tmp 87) 24 rfl wr.heap.size 37 i0 _ 9 88 Tryz.underlying24 hi hz0 hz1 hz2 rfl (by decide) v5 (([] : List OpT)).length (cellsO (([] : List OpT))) rfl (show World.ownsRow _ _ _ _ _ _ _ from owns_on W5.out (below_new _ _)) (.slice (some ⟨w5.heap.size, 0, none⟩) 1 1) 1 (opA (1, (k1, k2), (k3, k4), (k5, k6), s, t)).toList rfl (new_src (Blk.new w5 37 (opA (1, (k1, k2), (k3, k4), (k5, k6), s, t))) 1) rfl (opA_one _) (by unfold maxLen; omega) (by omega) (by have := L5.out; simp; omega) ?_)
              intro v6 w6 hown6 hgr6
              have W6 : Hid (OwnO w6 wr.heap.size v6 (([] : List OpT) ++ [(1, (k1, k2), (k3, k4), (k5, k6), s, t)])) := by
                show World.ownsRow _ _ _ _ _ _ _
                simpa [cellsO] using hown6
              have hl6 : (([] : List OpT) ++ [(1, (k1, k2), (k3, k4), (k5, k6), s, t)]).length = 1 := rfl
              have W6' : Hid (World.ownsRow w6 wr.heap.size 37 9 v6 1 (cellsO (([] : List OpT) ++ [(1, (k1, k2), (k3, k4), (k5, k6), s, t)]))) := by rw [← hl6]; exact W6
              have ne5 : Hid (∀ k, k ≤ g + 2 → some k ≠ v5.ownBlock) := fun k hk e => by have a := (World.ownsRow.lt W5.out k e.symm).1; have b := Lr.out; omega
              have T6 : Hid (Blk w6 92 g #[.slice a1 fx.length c1, .slice none 0 0, .int .i64 b1, .int .i64 b2]) := (T5.out.alloc _).grown hgr6 (ne5.out _ (by omega))
              have R6 : Hid (Blk w6 92 (g + 2) #[.slice none 0 0, .slice none 0 0, .int .i64 0, .int .i64 0]) := (R5.out.alloc _).grown hgr6 (ne5.out _ (by omega))
              have B5a : Hid (Below w.heap.size w (w5.alloc (.cells (opA (1, (k1, k2), (k3, k4), (k5, k6), s, t)) 37))) := below_step B5.out (Nat.le_refl _) (below_new _ _)
              have B6 : Hid (Below w.heap.size w w6) := B5a.out.grown hgr6 B5a.out.size (fun k hk => by have a := (World.ownsRow.lt W5.out k hk).1; have b := BB.out.size; omega)
              have L6 : Hid (wr.heap.size ≤ w6.heap.size) := Nat.le_trans (Nat.le_trans L5.out (below_new w5 _).size) hgr6.size
              clear hown6 hgr6 B5a T5 R5 P5 B5 W5 L5 ne5 p0 p1 p2 p3 p4 p5 p6 p7 p8
              have t1 : w6.cell? ⟨g, 1, none⟩ = some (.slice none 0 0) := T6.out.cell 1
              clear hl6
              go_wp2_with (at_builtin; refine wpList_appW (by rfl) (.tmp 89) (.tmp 93) 24 rfl wr.heap.size 37 i0 _ 9 88 Tryz.underlying24 hi hz0 hz1 hz2 rfl (by decide) v6 1 (cellsO (([] : List OpT) ++ [(1, (k1, k2), (k3, k4), (k5, k6), s, t)])) rfl W6'.out _ 0 [] rfl (.inl ⟨rfl, rfl, rfl⟩) rfl (fun u hu => by cases hu) (by unfold maxLen; omega) (by omega) L6.out ?_)
              intro v7 w7 hown7 hgr7
              obtain ⟨NN, HNN⟩ : ∃ NN, Hid (NN = ([] : List OpT) ++ (1, (k1, k2), (k3, k4), (k5, k6), s, t) :: ([] : List OpT)) := ⟨_, rfl⟩
              have W7 : Hid (OwnO w7 wr.heap.size v7 NN) := by
                show World.ownsRow _ _ _ _ _ _ _
                rw [HNN.out]
                simpa [cellsO] using hown7
              have ne6 : Hid (∀ k, k ≤ g + 2 → some k ≠ v6.ownBlock) := fun k hk e => by have a := (World.ownsRow.lt W6.out k e.symm).1; have b := Lr.out; omega
              have T7 : Hid (Blk w7 92 g #[.slice a1 fx.length c1, .slice none 0 0, .int .i64 b1, .int .i64 b2]) := T6.out.grown hgr7 (ne6.out _ (by omega))
              have R7 : Hid (Blk w7 92 (g + 2) #[.slice none 0 0, .slice none 0 0, .int .i64 0, .int .i64 0]) := R6.out.grown hgr7 (ne6.out _ (by omega))
              have B7 : Hid (Below w.heap.size w w7) := B6.out.grown hgr7 B6.out.size (fun k hk => by have a := (World.ownsRow.lt W6.out k hk).1; have b := BB.out.size; omega)
              clear hown7 hgr7 T6 R6 B6 W6 W6' L6 ne6 t1
              have hb7 : Hid (∀ j, v7.ownBlock = some j → wr.heap.size ≤ j) := fun j hj => (World.ownsRow.lt W7.out j hj).1
              obtain ⟨a7, c7, rfl, hop7, hok7⟩ := W7.out.ops
              have t0 : w7.cell? ⟨g, 0, none⟩ = some (.slice a1 fx.length c1) := T7.out.cell 0
              have t1 : w7.cell? ⟨g, 1, none⟩ = some (.slice none 0 0) := T7.out.cell 1
              have t2 : w7.cell? ⟨g, 2, none⟩ = some (.int .i64 b1) := T7.out.cell 2
              have t3 : w7.cell? ⟨g, 3, none⟩ = some (.int .i64 b2) := T7.out.cell 3
              have f1 := T7.out.free 1
              have R8 : Hid (Blk (w7.setCell ⟨g, 1, none⟩ (.slice a7 NN.length c7)) 92 (g + 2) #[.slice none 0 0, .slice none 0 0, .int .i64 0, .int .i64 0]) := R7.out.other ⟨g, 1, none⟩ (by show g + 2 ≠ g; omega) _
              have B8 : Hid (Below w.heap.size w (w7.setCell ⟨g, 1, none⟩ (.slice a7 NN.length c7))) := B7.out.setCell (p := ⟨g, 1, none⟩) Lg0.out _
              have O8 : Hid (OwnO (w7.setCell ⟨g, 1, none⟩ (.slice a7 NN.length c7)) wr.heap.size (.slice a7 NN.length c7) NN) := owns_set W7.out ⟨g, 1, none⟩ (by show g < _; have := Lr.out; omega) _
              have HTV : Hid (∀ a2' n2', TreeW a1 fx.length a2' n2' w.heap.size ((w7.setCell ⟨g, 1, none⟩ (.slice a7 NN.length c7)).setRow (g + 2) #[.slice a1 fx.length c1, .slice a7 NN.length c7, .int .i64 b1, .int .i64 b2]) (.agg #[.slice a1 fx.length c1, .slice a7 NN.length c7, .int .i64 b1, .int .i64 b2]) (fx, NN, (b1, b2))) := by
                have o9 : World.ownsRow ((w7.setCell ⟨g, 1, none⟩ (.slice a7 NN.length c7)).setRow (g + 2) #[.slice a1 fx.length c1, .slice a7 NN.length c7, .int .i64 b1, .int .i64 b2]) wr.heap.size 37 9 (.slice a7 NN.length c7) NN.length (cellsO NN) := owns_same O8.out (fun k hk => setRow_other _ _ k _ (by have a := (World.ownsRow.lt O8.out k hk).1; have b := Lr.out; omega))
                obtain ⟨a9, c9, e9, ho9, hk9⟩ := OwnO.ops o9
                injection e9 with e91 e92 e93
                subst e91
                subst e93
                exact fun _ _ => ⟨⟨a1, c1, _, _, rfl, H1.out.below (below_setRow B8.out Lg.out _), ho9, hk9⟩, ⟨_, _, _, _, rfl, adr_same, (adr_own o9).less BB.out.size⟩⟩
              clear hop7 hok7 hb7 W7 B7 R7 O8
              go_wp2_with (with_reducible refine wpList_storeBlkH rfl 92 _ _ rfl (g + 2) #[.slice none 0 0, .slice none 0 0, .int .i64 0, .int .i64 0] #[.slice a1 fx.length c1, .slice a7 NN.length c7, .int .i64 b1, .int .i64 b2] ?hxWA ?hyWA R8.out rfl ?hiWA ?h1WA ?_)
              try (case hxWA => rfl)
              try (case hyWA => rfl)
              case hiWA => first | kernel_rfl | (refine Option.map_eq_some_iff.1 (?_ : (Tryz.prog.info? 92).map (·.size) = some 4); kernel_rfl)
              case h1WA => simp [Value.oneCell']
              unfold Hid
              go_wp2
              exact bodyPost_rowTmp rfl (g + 2) #[.slice a1 fx.length c1, .slice a7 NN.length c7, .int .i64 b1, .int .i64 b2] _ rfl rfl rfl (R8.out.setRow _) _ Tryz.underlying92 rfl (by kernel_rfl) ⟨_, rfl, by show TreeW _ _ _ _ _ _ _ (fx, ([] : List OpT) ++ [(1, (k1, k2), (k3, k4), (k5, k6), s, t)], (b1, b2)); rw [← HNN.out]; exact HTV.out _ _, below_setRow B8.out Lg.out _⟩
            · have HSRC : Hid (SrcAt wr (.slice (some x) 0 c2) 0 []) := .inr ⟨x, c2, rfl, fun j u hj => by cases hj⟩
              have t0 : World.cell? _ ⟨g, 0, none⟩ = some (.slice a1 fx.length c1) := TT.out.cell 0
              have t1 : World.cell? _ ⟨g, 1, none⟩ = some (.slice (some x) 0 c2) := TT.out.cell 1
              have t2 : World.cell? _ ⟨g, 2, none⟩ = some (.int .i64 b1) := TT.out.cell 2
              have t3 : World.cell? _ ⟨g, 3, none⟩ = some (.int .i64 b2) := TT.out.cell 3
              go_wp2_with (at_builtin; refine wpList_appW (by rfl) (.tmp 79) (.tmp 83) 24 rfl wr.heap.size 37 i0 _ 9 88 Tryz.underlying24 hi hz0 hz1 hz2 rfl (by decide) (.slice none 0 0) 0 [] rfl (World.ownsRow_nil _ _ _ _) _ 0 [] rfl HSRC.out rfl (fun u hu => by cases hu) (by unfold maxLen; omega) (by omega) (Nat.le_refl _) ?_)
              intro v5 w5 hown5 hgr5
              have W5 : Hid (OwnO w5 wr.heap.size v5 (([] : List OpT))) := by
                show World.ownsRow _ _ _ _ _ _ _
                simpa [cellsO] using hown5
              have Lr : Hid (g + 2 < wr.heap.size) := RR.out.lt
              have T5 : Hid (Blk w5 92 g #[.slice a1 fx.length c1, .slice (some x) 0 c2, .int .i64 b1, .int .i64 b2]) := TT.out.grown hgr5 (by simp [Value.ownBlock])
              have P5 : Hid (Blk w5 37 (g + 1) #[.int .i64 1, .int .i64 k1, .int .i64 k2, .int .i64 k3, .int .i64 k4, .int .i64 k5, .int .i64 k6, .string s, .string t]) := OO.out.grown hgr5 (by simp [Value.ownBlock])
              have R5 : Hid (Blk w5 92 (g + 2) #[.slice none 0 0, .slice none 0 0, .int .i64 0, .int .i64 0]) := RR.out.grown hgr5 (by simp [Value.ownBlock])
              have B5 : Hid (Below w.heap.size w w5) := BB.out.grown hgr5 BB.out.size (fun k hk => by cases hk)
              have L5 : Hid (wr.heap.size ≤ w5.heap.size) := hgr5.size
              clear hown5 hgr5 t0 t1 t2 t3 o0 o1 o2 TT OO RR
              have p0 : w5.cell? ⟨g + 1, 0, none⟩ = some (.int .i64 1) := P5.out.cell 0
              have p1 : w5.cell? ⟨g + 1, 1, none⟩ = some (.int .i64 k1) := P5.out.cell 1
              have p2 : w5.cell? ⟨g + 1, 2, none⟩ = some (.int .i64 k2) := P5.out.cell 2
              have p3 : w5.cell? ⟨g + 1, 3, none⟩ = some (.int .i64 k3) := P5.out.cell 3
              have p4 : w5.cell? ⟨g + 1, 4, none⟩ = some (.int .i64 k4) := P5.out.cell 4
              have p5 : w5.cell? ⟨g + 1, 5, none⟩ = some (.int .i64 k5) := P5.out.cell 5
              have p6 : w5.cell? ⟨g + 1, 6, none⟩ = some (.int .i64 k6) := P5.out.cell 6
              have p7 : w5.cell? ⟨g + 1, 7, none⟩ = some (.string s) := P5.out.cell 7
              have p8 : w5.cell? ⟨g + 1, 8, none⟩ = some (.string t) := P5.out.cell 8
              go_wp2_with (at_builtin; refine wpList_appW (by rfl) (.tmp 85) (.tmp 87) 24 rfl wr.heap.size 37 i0 _ 9 88 Tryz.underlying24 hi hz0 hz1 hz2 rfl (by decide) v5 (([] : List OpT)).length (cellsO (([] : List OpT))) rfl (show World.ownsRow _ _ _ _ _ _ _ from owns_on W5.out (below_new _ _)) (.slice (some ⟨w5.heap.size, 0, none⟩) 1 1) 1 (opA (1, (k1, k2), (k3, k4), (k5, k6), s, t)).toList rfl (new_src (Blk.new w5 37 (opA (1, (k1, k2), (k3, k4), (k5, k6), s, t))) 1) rfl (opA_one _) (by unfold maxLen; omega) (by omega) (by have := L5.out; simp; omega) ?_)
              intro v6 w6 hown6 hgr6
              have W6 : Hid (OwnO w6 wr.heap.size v6 (([] : List OpT) ++ [(1, (k1, k2), (k3, k4), (k5, k6), s, t)])) := by
                show World.ownsRow _ _ _ _ _ _ _
                simpa [cellsO] using hown6
              have hl6 : (([] : List OpT) ++ [(1, (k1, k2), (k3, k4), (k5, k6), s, t)]).length = 1 := rfl
              have W6' : Hid (World.ownsRow w6 wr.heap.size 37 9 v6 1 (cellsO (([] : List OpT) ++ [(1, (k1, k2), (k3, k4), (k5, k6), s, t)]))) := by rw [← hl6]; exact W6
              have ne5 : Hid (∀ k, k ≤ g + 2 → some k ≠ v5.ownBlock) := fun k hk e => by have a := (World.ownsRow.lt W5.out k e.symm).1; have b := Lr.out; omega
              have T6 : Hid (Blk w6 92 g #[.slice a1 fx.length c1, .slice (some x) 0 c2, .int .i64 b1, .int .i64 b2]) := (T5.out.alloc _).grown hgr6 (ne5.out _ (by omega))
              have R6 : Hid (Blk w6 92 (g + 2) #[.slice none 0 0, .slice none 0 0, .int .i64 0, .int .i64 0]) := (R5.out.alloc _).grown hgr6 (ne5.out _ (by omega))
              have B5a : Hid (Below w.heap.size w (w5.alloc (.cells (opA (1, (k1, k2), (k3, k4), (k5, k6), s, t)) 37))) := below_step B5.out (Nat.le_refl _) (below_new _ _)
              have B6 : Hid (Below w.heap.size w w6) := B5a.out.grown hgr6 B5a.out.size (fun k hk => by have a := (World.ownsRow.lt W5.out k hk).1; have b := BB.out.size; omega)
              have L6 : Hid (wr.heap.size ≤ w6.heap.size) := Nat.le_trans (Nat.le_trans L5.out (below_new w5 _).size) hgr6.size
              clear hown6 hgr6 B5a T5 R5 P5 B5 W5 L5 ne5 p0 p1 p2 p3 p4 p5 p6 p7 p8
              have t1 : w6.cell? ⟨g, 1, none⟩ = some (.slice (some x) 0 c2) := T6.out.cell 1
              clear hl6
              go_wp2_with (at_builtin; refine wpList_appW (by rfl) (.tmp 89) (.tmp 93) 24 rfl wr.heap.size 37 i0 _ 9 88 Tryz.underlying24 hi hz0 hz1 hz2 rfl (by decide) v6 1 (cellsO (([] : List OpT) ++ [(1, (k1, k2), (k3, k4), (k5, k6), s, t)])) rfl W6'.out _ 0 [] rfl (.inr ⟨_, _, rfl, fun j u hj => by cases hj⟩) rfl (fun u hu => by cases hu) (by unfold maxLen; omega) (by omega) L6.out ?_)
              intro v7 w7 hown7 hgr7
              obtain ⟨NN, HNN⟩ : ∃ NN, Hid (NN = ([] : List OpT) ++ (1, (k1, k2), (k3, k4), (k5, k6), s, t) :: ([] : List OpT)) := ⟨_, rfl⟩
              have W7 : Hid (OwnO w7 wr.heap.size v7 NN) := by
                show World.ownsRow _ _ _ _ _ _ _
                rw [HNN.out]
                simpa [cellsO] using hown7
              have ne6 : Hid (∀ k, k ≤ g + 2 → some k ≠ v6.ownBlock) := fun k hk e => by have a := (World.ownsRow.lt W6.out k e.symm).1; have b := Lr.out; omega
              have T7 : Hid (Blk w7 92 g #[.slice a1 fx.length c1, .slice (some x) 0 c2, .int .i64 b1, .int .i64 b2]) := T6.out.grown hgr7 (ne6.out _ (by omega))
              have R7 : Hid (Blk w7 92 (g + 2) #[.slice none 0 0, .slice none 0 0, .int .i64 0, .int .i64 0]) := R6.out.grown hgr7 (ne6.out _ (by omega))
              have B7 : Hid (Below w.heap.size w w7) := B6.out.grown hgr7 B6.out.size (fun k hk => by have a := (World.ownsRow.lt W6.out k hk).1; have b := BB.out.size; omega)
              clear hown7 hgr7 T6 R6 B6 W6 W6' L6 ne6 t1
              have hb7 : Hid (∀ j, v7.ownBlock = some j → wr.heap.size ≤ j) := fun j hj => (World.ownsRow.lt W7.out j hj).1
              obtain ⟨a7, c7, rfl, hop7, hok7⟩ := W7.out.ops
              have t0 : w7.cell? ⟨g, 0, none⟩ = some (.slice a1 fx.length c1) := T7.out.cell 0
              have t1 : w7.cell? ⟨g, 1, none⟩ = some (.slice (some x) 0 c2) := T7.out.cell 1
              have t2 : w7.cell? ⟨g, 2, none⟩ = some (.int .i64 b1) := T7.out.cell 2
              have t3 : w7.cell? ⟨g, 3, none⟩ = some (.int .i64 b2) := T7.out.cell 3
              have f1 := T7.out.free 1
              have R8 : Hid (Blk (w7.setCell ⟨g, 1, none⟩ (.slice a7 NN.length c7)) 92 (g + 2) #[.slice none 0 0, .slice none 0 0, .int .i64 0, .int .i64 0]) := R7.out.other ⟨g, 1, none⟩ (by show g + 2 ≠ g; omega) _
              have B8 : Hid (Below w.heap.size w (w7.setCell ⟨g, 1, none⟩ (.slice a7 NN.length c7))) := B7.out.setCell (p := ⟨g, 1, none⟩) Lg0.out _
              have O8 : Hid (OwnO (w7.setCell ⟨g, 1, none⟩ (.slice a7 NN.length c7)) wr.heap.size (.slice a7 NN.length c7) NN) := owns_set W7.out ⟨g, 1, none⟩ (by show g < _; have := Lr.out; omega) _
              have HTV : Hid (∀ a2' n2', TreeW a1 fx.length a2' n2' w.heap.size ((w7.setCell ⟨g, 1, none⟩ (.slice a7 NN.length c7)).setRow (g + 2) #[.slice a1 fx.length c1, .slice a7 NN.length c7, .int .i64 b1, .int .i64 b2]) (.agg #[.slice a1 fx.length c1, .slice a7 NN.length c7, .int .i64 b1, .int .i64 b2]) (fx, NN, (b1, b2))) := by
                have o9 : World.ownsRow ((w7.setCell ⟨g, 1, none⟩ (.slice a7 NN.length c7)).setRow (g + 2) #[.slice a1 fx.length c1, .slice a7 NN.length c7, .int .i64 b1, .int .i64 b2]) wr.heap.size 37 9 (.slice a7 NN.length c7) NN.length (cellsO NN) := owns_same O8.out (fun k hk => setRow_other _ _ k _ (by have a := (World.ownsRow.lt O8.out k hk).1; have b := Lr.out; omega))
                obtain ⟨a9, c9, e9, ho9, hk9⟩ := OwnO.ops o9
                injection e9 with e91 e92 e93
                subst e91
                subst e93
                exact fun _ _ => ⟨⟨a1, c1, _, _, rfl, H1.out.below (below_setRow B8.out Lg.out _), ho9, hk9⟩, ⟨_, _, _, _, rfl, adr_same, (adr_own o9).less BB.out.size⟩⟩
              clear hop7 hok7 hb7 W7 B7 R7 O8
              go_wp2_with (with_reducible refine wpList_storeBlkH rfl 92 _ _ rfl (g + 2) #[.slice none 0 0, .slice none 0 0, .int .i64 0, .int .i64 0] #[.slice a1 fx.length c1, .slice a7 NN.length c7, .int .i64 b1, .int .i64 b2] ?hxWB ?hyWB R8.out rfl ?hiWB ?h1WB ?_)
              try (case hxWB => rfl)
              try (case hyWB => rfl)
              case hiWB => first | kernel_rfl | (refine Option.map_eq_some_iff.1 (?_ : (Tryz.prog.info? 92).map (·.size) = some 4); kernel_rfl)
              case h1WB => simp [Value.oneCell']
              unfold Hid
              go_wp2
              exact bodyPost_rowTmp rfl (g + 2) #[.slice a1 fx.length c1, .slice a7 NN.length c7, .int .i64 b1, .int .i64 b2] _ rfl rfl rfl (R8.out.setRow _) _ Tryz.underlying92 rfl (by kernel_rfl) ⟨_, rfl, by show TreeW _ _ _ _ _ _ _ (fx, ([] : List OpT) ++ [(1, (k1, k2), (k3, k4), (k5, k6), s, t)], (b1, b2)); rw [← HNN.out]; exact HTV.out _ _, below_setRow B8.out Lg.out _⟩
          · obtain ⟨b, off, rfl, _⟩ := H2.out.2.some (by omega)
            have hcap := H3.out.cap
            have e1 : (P : Int) ≤ (c2 : Int) := by omega
            have e2 : (P : Int) ≤ (ops.length : Int) := by omega
            have e3 : (ops.length : Int) ≤ (c2 : Int) := by omega
            by_cases hcp : c2 - P = 0
            · skip
              have t0 : World.cell? _ ⟨g, 0, none⟩ = some (.slice a1 fx.length c1) := TT.out.cell 0
              have t1 : World.cell? _ ⟨g, 1, none⟩ = some (.slice (some ⟨b, off, none⟩) ops.length c2) := TT.out.cell 1
              have t2 : World.cell? _ ⟨g, 2, none⟩ = some (.int .i64 b1) := TT.out.cell 2
              have t3 : World.cell? _ ⟨g, 3, none⟩ = some (.int .i64 b2) := TT.out.cell 3
              go_wp2_with (at_builtin; refine wpList_appW (by rfl) (.tmp 79) (.tmp 83) 24 rfl wr.heap.size 37 i0 _ 9 88 Tryz.underlying24 hi hz0 hz1 hz2 rfl (by decide) (.slice none 0 0) 0 [] rfl (World.ownsRow_nil _ _ _ _) (.slice (some ⟨b, off, none⟩) P c2) P (cellsO ((ops.drop 0).take P)) rfl (opsO_src (k := 0) (H2.out.below BB.out) (by omega)) (by rw [cellsO_len, List.length_take, List.drop_zero, Nat.min_eq_left hP]) (cellsO_one _) (by unfold maxLen; omega) (by omega) (Nat.le_refl _) ?_)
              intro v5 w5 hown5 hgr5
              have W5 : Hid (OwnO w5 wr.heap.size v5 (ops.take P)) := by
                show World.ownsRow _ _ _ _ _ _ _
                rw [List.length_take, Nat.min_eq_left hP]
                simpa using hown5
              have Lr : Hid (g + 2 < wr.heap.size) := RR.out.lt
              have T5 : Hid (Blk w5 92 g #[.slice a1 fx.length c1, .slice (some ⟨b, off, none⟩) ops.length c2, .int .i64 b1, .int .i64 b2]) := TT.out.grown hgr5 (by simp [Value.ownBlock])
              have P5 : Hid (Blk w5 37 (g + 1) #[.int .i64 1, .int .i64 k1, .int .i64 k2, .int .i64 k3, .int .i64 k4, .int .i64 k5, .int .i64 k6, .string s, .string t]) := OO.out.grown hgr5 (by simp [Value.ownBlock])
              have R5 : Hid (Blk w5 92 (g + 2) #[.slice none 0 0, .slice none 0 0, .int .i64 0, .int .i64 0]) := RR.out.grown hgr5 (by simp [Value.ownBlock])
              have B5 : Hid (Below w.heap.size w w5) := BB.out.grown hgr5 BB.out.size (fun k hk => by cases hk)
              have L5 : Hid (wr.heap.size ≤ w5.heap.size) := hgr5.size
              clear hown5 hgr5 t0 t1 t2 t3 o0 o1 o2 TT OO RR
              have p0 : w5.cell? ⟨g + 1, 0, none⟩ = some (.int .i64 1) := P5.out.cell 0
              have p1 : w5.cell? ⟨g + 1, 1, none⟩ = some (.int .i64 k1) := P5.out.cell 1
              have p2 : w5.cell? ⟨g + 1, 2, none⟩ = some (.int .i64 k2) := P5.out.cell 2
              have p3 : w5.cell? ⟨g + 1, 3, none⟩ = some (.int .i64 k3) := P5.out.cell 3
              have p4 : w5.cell? ⟨g + 1, 4, none⟩ = some (.int .i64 k4) := P5.out.cell 4
              have p5 : w5.cell? ⟨g + 1, 5, none⟩ = some (.int .i64 k5) := P5.out.cell 5
              have p6 : w5.cell? ⟨g + 1, 6, none⟩ = some (.int .i64 k6) := P5.out.cell 6
              have p7 : w5.cell? ⟨g + 1, 7, none⟩ = some (.string s) := P5.out.cell 7
              have p8 : w5.cell? ⟨g + 1, 8, none⟩ = some (.string t) := P5.out.cell 8
              go_wp2_with (at_builtin; refine wpList_appW (by rfl) (.tmp 85) (.tmp 87) 24 rfl wr.heap.size 37 i0 _ 9 88 Tryz.underlying24 hi hz0 hz1 hz2 rfl (by decide) v5 (ops.take P).length (cellsO (ops.take P)) rfl (show World.ownsRow _ _ _ _ _ _ _ from owns_on W5.out (below_new _ _)) (.slice (some ⟨w5.heap.size, 0, none⟩) 1 1) 1 (opA (1, (k1, k2), (k3, k4), (k5, k6), s, t)).toList rfl (new_src (Blk.new w5 37 (opA (1, (k1, k2), (k3, k4), (k5, k6), s, t))) 1) rfl (opA_one _) (by rw [List.length_take]; unfold maxLen; omega) (by rw [List.length_take]; omega) (by have := L5.out; simp; omega) ?_)
              intro v6 w6 hown6 hgr6
              have W6 : Hid (OwnO w6 wr.heap.size v6 (ops.take P ++ [(1, (k1, k2), (k3, k4), (k5, k6), s, t)])) := by
                show World.ownsRow _ _ _ _ _ _ _
                rw [cellsO_app, List.length_append, List.length_take, Nat.min_eq_left hP]
                simpa [cellsO] using hown6
              have hl6 : (ops.take P ++ [(1, (k1, k2), (k3, k4), (k5, k6), s, t)]).length = P + 1 := by rw [List.length_append, List.length_take, Nat.min_eq_left hP]; rfl
              have W6' : Hid (World.ownsRow w6 wr.heap.size 37 9 v6 (P + 1) (cellsO (ops.take P ++ [(1, (k1, k2), (k3, k4), (k5, k6), s, t)]))) := by rw [← hl6]; exact W6
              have ne5 : Hid (∀ k, k ≤ g + 2 → some k ≠ v5.ownBlock) := fun k hk e => by have a := (World.ownsRow.lt W5.out k e.symm).1; have b := Lr.out; omega
              have T6 : Hid (Blk w6 92 g #[.slice a1 fx.length c1, .slice (some ⟨b, off, none⟩) ops.length c2, .int .i64 b1, .int .i64 b2]) := (T5.out.alloc _).grown hgr6 (ne5.out _ (by omega))
              have R6 : Hid (Blk w6 92 (g + 2) #[.slice none 0 0, .slice none 0 0, .int .i64 0, .int .i64 0]) := (R5.out.alloc _).grown hgr6 (ne5.out _ (by omega))
              have B5a : Hid (Below w.heap.size w (w5.alloc (.cells (opA (1, (k1, k2), (k3, k4), (k5, k6), s, t)) 37))) := below_step B5.out (Nat.le_refl _) (below_new _ _)
              have B6 : Hid (Below w.heap.size w w6) := B5a.out.grown hgr6 B5a.out.size (fun k hk => by have a := (World.ownsRow.lt W5.out k hk).1; have b := BB.out.size; omega)
              have L6 : Hid (wr.heap.size ≤ w6.heap.size) := Nat.le_trans (Nat.le_trans L5.out (below_new w5 _).size) hgr6.size
              clear hown6 hgr6 B5a T5 R5 P5 B5 W5 L5 ne5 p0 p1 p2 p3 p4 p5 p6 p7 p8
              have t1 : w6.cell? ⟨g, 1, none⟩ = some (.slice (some ⟨b, off, none⟩) ops.length c2) := T6.out.cell 1
              clear hl6
              go_wp2_with (at_builtin; refine wpList_appW (by rfl) (.tmp 89) (.tmp 93) 24 rfl wr.heap.size 37 i0 _ 9 88 Tryz.underlying24 hi hz0 hz1 hz2 rfl (by decide) v6 (P + 1) (cellsO (ops.take P ++ [(1, (k1, k2), (k3, k4), (k5, k6), s, t)])) rfl W6'.out _ (ops.length - P) (cellsO ((ops.drop P).take (ops.length - P))) rfl (.inr ⟨_, _, rfl, fun j u hj => by rw [show ops.length - P = 0 by omega, List.take_zero] at hj; cases hj⟩) (by rw [cellsO_len, List.length_take, List.length_drop, Nat.min_self]) (cellsO_one _) (by unfold maxLen; omega) (by omega) L6.out ?_)
              intro v7 w7 hown7 hgr7
              obtain ⟨NN, HNN⟩ : ∃ NN, Hid (NN = ops.take P ++ (1, (k1, k2), (k3, k4), (k5, k6), s, t) :: ops.drop P) := ⟨_, rfl⟩
              have W7 : Hid (OwnO w7 wr.heap.size v7 NN) := by
                show World.ownsRow _ _ _ _ _ _ _
                rw [HNN.out]
                have e : ops.take P ++ (1, (k1, k2), (k3, k4), (k5, k6), s, t) :: ops.drop P = (ops.take P ++ [(1, (k1, k2), (k3, k4), (k5, k6), s, t)]) ++ (ops.drop P).take (ops.length - P) := by
                  have e0 : (ops.drop P).take (ops.length - P) = ops.drop P := List.take_of_length_le (by rw [List.length_drop]; exact Nat.le_refl _)
                  rw [e0, List.append_assoc]; rfl
                rw [e, cellsO_app]
                have e2 : (ops.take P ++ [(1, (k1, k2), (k3, k4), (k5, k6), s, t)] ++ (ops.drop P).take (ops.length - P)).length = P + 1 + (ops.length - P) := by
                  rw [List.length_append, List.length_append, List.length_take, Nat.min_eq_left hP, List.length_take, List.length_drop, Nat.min_self]; rfl
                rw [e2]; exact hown7
              have ne6 : Hid (∀ k, k ≤ g + 2 → some k ≠ v6.ownBlock) := fun k hk e => by have a := (World.ownsRow.lt W6.out k e.symm).1; have b := Lr.out; omega
              have T7 : Hid (Blk w7 92 g #[.slice a1 fx.length c1, .slice (some ⟨b, off, none⟩) ops.length c2, .int .i64 b1, .int .i64 b2]) := T6.out.grown hgr7 (ne6.out _ (by omega))
              have R7 : Hid (Blk w7 92 (g + 2) #[.slice none 0 0, .slice none 0 0, .int .i64 0, .int .i64 0]) := R6.out.grown hgr7 (ne6.out _ (by omega))
              have B7 : Hid (Below w.heap.size w w7) := B6.out.grown hgr7 B6.out.size (fun k hk => by have a := (World.ownsRow.lt W6.out k hk).1; have b := BB.out.size; omega)
              clear hown7 hgr7 T6 R6 B6 W6 W6' L6 ne6 t1
              have hb7 : Hid (∀ j, v7.ownBlock = some j → wr.heap.size ≤ j) := fun j hj => (World.ownsRow.lt W7.out j hj).1
              obtain ⟨a7, c7, rfl, hop7, hok7⟩ := W7.out.ops
              have t0 : w7.cell? ⟨g, 0, none⟩ = some (.slice a1 fx.length c1) := T7.out.cell 0
              have t1 : w7.cell? ⟨g, 1, none⟩ = some (.slice (some ⟨b, off, none⟩) ops.length c2) := T7.out.cell 1
              have t2 : w7.cell? ⟨g, 2, none⟩ = some (.int .i64 b1) := T7.out.cell 2
              have t3 : w7.cell? ⟨g, 3, none⟩ = some (.int .i64 b2) := T7.out.cell 3
              have f1 := T7.out.free 1
              have R8 : Hid (Blk (w7.setCell ⟨g, 1, none⟩ (.slice a7 NN.length c7)) 92 (g + 2) #[.slice none 0 0, .slice none 0 0, .int .i64 0, .int .i64 0]) := R7.out.other ⟨g, 1, none⟩ (by show g + 2 ≠ g; omega) _
              have B8 : Hid (Below w.heap.size w (w7.setCell ⟨g, 1, none⟩ (.slice a7 NN.length c7))) := B7.out.setCell (p := ⟨g, 1, none⟩) Lg0.out _
              have O8 : Hid (OwnO (w7.setCell ⟨g, 1, none⟩ (.slice a7 NN.length c7)) wr.heap.size (.slice a7 NN.length c7) NN) := owns_set W7.out ⟨g, 1, none⟩ (by show g < _; have := Lr.out; omega) _
              have HTV : Hid (∀ a2' n2', TreeW a1 fx.length a2' n2' w.heap.size ((w7.setCell ⟨g, 1, none⟩ (.slice a7 NN.length c7)).setRow (g + 2) #[.slice a1 fx.length c1, .slice a7 NN.length c7, .int .i64 b1, .int .i64 b2]) (.agg #[.slice a1 fx.length c1, .slice a7 NN.length c7, .int .i64 b1, .int .i64 b2]) (fx, NN, (b1, b2))) := by
                have o9 : World.ownsRow ((w7.setCell ⟨g, 1, none⟩ (.slice a7 NN.length c7)).setRow (g + 2) #[.slice a1 fx.length c1, .slice a7 NN.length c7, .int .i64 b1, .int .i64 b2]) wr.heap.size 37 9 (.slice a7 NN.length c7) NN.length (cellsO NN) := owns_same O8.out (fun k hk => setRow_other _ _ k _ (by have a := (World.ownsRow.lt O8.out k hk).1; have b := Lr.out; omega))
                obtain ⟨a9, c9, e9, ho9, hk9⟩ := OwnO.ops o9
                injection e9 with e91 e92 e93
                subst e91
                subst e93
                exact fun _ _ => ⟨⟨a1, c1, _, _, rfl, H1.out.below (below_setRow B8.out Lg.out _), ho9, hk9⟩, ⟨_, _, _, _, rfl, adr_same, (adr_own o9).less BB.out.size⟩⟩
              clear hop7 hok7 hb7 W7 B7 R7 O8
              go_wp2_with (with_reducible refine wpList_storeBlkH rfl 92 _ _ rfl (g + 2) #[.slice none 0 0, .slice none 0 0, .int .i64 0, .int .i64 0] #[.slice a1 fx.length c1, .slice a7 NN.length c7, .int .i64 b1, .int .i64 b2] ?hxWv ?hyWv R8.out rfl ?hiWv ?h1Wv ?_)
              try (case hxWv => rfl)
              try (case hyWv => rfl)
              case hiWv => first | kernel_rfl | (refine Option.map_eq_some_iff.1 (?_ : (Tryz.prog.info? 92).map (·.size) = some 4); kernel_rfl)
              case h1Wv => simp [Value.oneCell']
              unfold Hid
              go_wp2
              exact bodyPost_rowTmp rfl (g + 2) #[.slice a1 fx.length c1, .slice a7 NN.length c7, .int .i64 b1, .int .i64 b2] _ rfl rfl rfl (R8.out.setRow _) _ Tryz.underlying92 rfl (by kernel_rfl) ⟨_, rfl, by rw [← HNN.out]; exact HTV.out _ _, below_setRow B8.out Lg.out _⟩
            · skip
              have t0 : World.cell? _ ⟨g, 0, none⟩ = some (.slice a1 fx.length c1) := TT.out.cell 0
              have t1 : World.cell? _ ⟨g, 1, none⟩ = some (.slice (some ⟨b, off, none⟩) ops.length c2) := TT.out.cell 1
              have t2 : World.cell? _ ⟨g, 2, none⟩ = some (.int .i64 b1) := TT.out.cell 2
              have t3 : World.cell? _ ⟨g, 3, none⟩ = some (.int .i64 b2) := TT.out.cell 3
              go_wp2_with (at_builtin; refine wpList_appW (by rfl) (.tmp 79) (.tmp 83) 24 rfl wr.heap.size 37 i0 _ 9 88 Tryz.underlying24 hi hz0 hz1 hz2 rfl (by decide) (.slice none 0 0) 0 [] rfl (World.ownsRow_nil _ _ _ _) (.slice (some ⟨b, off, none⟩) P c2) P (cellsO ((ops.drop 0).take P)) rfl (opsO_src (k := 0) (H2.out.below BB.out) (by omega)) (by rw [cellsO_len, List.length_take, List.drop_zero, Nat.min_eq_left hP]) (cellsO_one _) (by unfold maxLen; omega) (by omega) (Nat.le_refl _) ?_)
              intro v5 w5 hown5 hgr5
              have W5 : Hid (OwnO w5 wr.heap.size v5 (ops.take P)) := by
                show World.ownsRow _ _ _ _ _ _ _
                rw [List.length_take, Nat.min_eq_left hP]
                simpa using hown5
              have Lr : Hid (g + 2 < wr.heap.size) := RR.out.lt
              have T5 : Hid (Blk w5 92 g #[.slice a1 fx.length c1, .slice (some ⟨b, off, none⟩) ops.length c2, .int .i64 b1, .int .i64 b2]) := TT.out.grown hgr5 (by simp [Value.ownBlock])
              have P5 : Hid (Blk w5 37 (g + 1) #[.int .i64 1, .int .i64 k1, .int .i64 k2, .int .i64 k3, .int .i64 k4, .int .i64 k5, .int .i64 k6, .string s, .string t]) := OO.out.grown hgr5 (by simp [Value.ownBlock])
              have R5 : Hid (Blk w5 92 (g + 2) #[.slice none 0 0, .slice none 0 0, .int .i64 0, .int .i64 0]) := RR.out.grown hgr5 (by simp [Value.ownBlock])
              have B5 : Hid (Below w.heap.size w w5) := BB.out.grown hgr5 BB.out.size (fun k hk => by cases hk)
              have L5 : Hid (wr.heap.size ≤ w5.heap.size) := hgr5.size
              clear hown5 hgr5 t0 t1 t2 t3 o0 o1 o2 TT OO RR
              have p0 : w5.cell? ⟨g + 1, 0, none⟩ = some (.int .i64 1) := P5.out.cell 0
              have p1 : w5.cell? ⟨g + 1, 1, none⟩ = some (.int .i64 k1) := P5.out.cell 1
              have p2 : w5.cell? ⟨g + 1, 2, none⟩ = some (.int .i64 k2) := P5.out.cell 2
              have p3 : w5.cell? ⟨g + 1, 3, none⟩ = some (.int .i64 k3) := P5.out.cell 3
              have p4 : w5.cell? ⟨g + 1, 4, none⟩ = some (.int .i64 k4) := P5.out.cell 4
              have p5 : w5.cell? ⟨g + 1, 5, none⟩ = some (.int .i64 k5) := P5.out.cell 5
              have p6 : w5.cell? ⟨g + 1, 6, none⟩ = some (.int .i64 k6) := P5.out.cell 6
              have p7 : w5.cell? ⟨g + 1, 7, none⟩ = some (.string s) := P5.out.cell 7
              have p8 : w5.cell? ⟨g + 1, 8, none⟩ = some (.string t) := P5.out.cell 8
              go_wp2_with (at_builtin; refine wpList_appW (by rfl) (.tmp 85) (.tmp 87) 24 rfl wr.heap.size 37 i0 _ 9 88 Tryz.underlying24 hi hz0 hz1 hz2 rfl (by decide) v5 (ops.take P).length (cellsO (ops.take P)) rfl (show World.ownsRow _ _ _ _ _ _ _ from owns_on W5.out (below_new _ _)) (.slice (some ⟨w5.heap.size, 0, none⟩) 1 1) 1 (opA (1, (k1, k2), (k3, k4), (k5, k6), s, t)).toList rfl (new_src (Blk.new w5 37 (opA (1, (k1, k2), (k3, k4), (k5, k6), s, t))) 1) rfl (opA_one _) (by rw [List.length_take]; unfold maxLen; omega) (by rw [List.length_take]; omega) (by have := L5.out; simp; omega) ?_)
              intro v6 w6 hown6 hgr6
              have W6 : Hid (OwnO w6 wr.heap.size v6 (ops.take P ++ [(1, (k1, k2), (k3, k4), (k5, k6), s, t)])) := by
                show World.ownsRow _ _ _ _ _ _ _
                rw [cellsO_app, List.length_append, List.length_take, Nat.min_eq_left hP]
                simpa [cellsO] using hown6
              have hl6 : (ops.take P ++ [(1, (k1, k2), (k3, k4), (k5, k6), s, t)]).length = P + 1 := by rw [List.length_append, List.length_take, Nat.min_eq_left hP]; rfl
              have W6' : Hid (World.ownsRow w6 wr.heap.size 37 9 v6 (P + 1) (cellsO (ops.take P ++ [(1, (k1, k2), (k3, k4), (k5, k6), s, t)]))) := by rw [← hl6]; exact W6
              have ne5 : Hid (∀ k, k ≤ g + 2 → some k ≠ v5.ownBlock) := fun k hk e => by have a := (World.ownsRow.lt W5.out k e.symm).1; have b := Lr.out; omega
              have T6 : Hid (Blk w6 92 g #[.slice a1 fx.length c1, .slice (some ⟨b, off, none⟩) ops.length c2, .int .i64 b1, .int .i64 b2]) := (T5.out.alloc _).grown hgr6 (ne5.out _ (by omega))
              have R6 : Hid (Blk w6 92 (g + 2) #[.slice none 0 0, .slice none 0 0, .int .i64 0, .int .i64 0]) := (R5.out.alloc _).grown hgr6 (ne5.out _ (by omega))
              have B5a : Hid (Below w.heap.size w (w5.alloc (.cells (opA (1, (k1, k2), (k3, k4), (k5, k6), s, t)) 37))) := below_step B5.out (Nat.le_refl _) (below_new _ _)
              have B6 : Hid (Below w.heap.size w w6) := B5a.out.grown hgr6 B5a.out.size (fun k hk => by have a := (World.ownsRow.lt W5.out k hk).1; have b := BB.out.size; omega)
              have L6 : Hid (wr.heap.size ≤ w6.heap.size) := Nat.le_trans (Nat.le_trans L5.out (below_new w5 _).size) hgr6.size
              clear hown6 hgr6 B5a T5 R5 P5 B5 W5 L5 ne5 p0 p1 p2 p3 p4 p5 p6 p7 p8
              have t1 : w6.cell? ⟨g, 1, none⟩ = some (.slice (some ⟨b, off, none⟩) ops.length c2) := T6.out.cell 1
              clear hl6
              go_wp2_with (at_builtin; refine wpList_appW (by rfl) (.tmp 89) (.tmp 93) 24 rfl wr.heap.size 37 i0 _ 9 88 Tryz.underlying24 hi hz0 hz1 hz2 rfl (by decide) v6 (P + 1) (cellsO (ops.take P ++ [(1, (k1, k2), (k3, k4), (k5, k6), s, t)])) rfl W6'.out (.slice (some ⟨b, off + P * 9, none⟩) (ops.length - P) (c2 - P)) (ops.length - P) (cellsO ((ops.drop P).take (ops.length - P))) rfl (opsO_src (H2.out.below B6.out) (by omega)) (by rw [cellsO_len, List.length_take, List.length_drop, Nat.min_self]) (cellsO_one _) (by unfold maxLen; omega) (by omega) L6.out ?_)
              intro v7 w7 hown7 hgr7
              obtain ⟨NN, HNN⟩ : ∃ NN, Hid (NN = ops.take P ++ (1, (k1, k2), (k3, k4), (k5, k6), s, t) :: ops.drop P) := ⟨_, rfl⟩
              have W7 : Hid (OwnO w7 wr.heap.size v7 NN) := by
                show World.ownsRow _ _ _ _ _ _ _
                rw [HNN.out]
                have e : ops.take P ++ (1, (k1, k2), (k3, k4), (k5, k6), s, t) :: ops.drop P = (ops.take P ++ [(1, (k1, k2), (k3, k4), (k5, k6), s, t)]) ++ (ops.drop P).take (ops.length - P) := by
                  have e0 : (ops.drop P).take (ops.length - P) = ops.drop P := List.take_of_length_le (by rw [List.length_drop]; exact Nat.le_refl _)
                  rw [e0, List.append_assoc]; rfl
                rw [e, cellsO_app]
                have e2 : (ops.take P ++ [(1, (k1, k2), (k3, k4), (k5, k6), s, t)] ++ (ops.drop P).take (ops.length - P)).length = P + 1 + (ops.length - P) := by
                  rw [List.length_append, List.length_append, List.length_take, Nat.min_eq_left hP, List.length_take, List.length_drop, Nat.min_self]; rfl
                rw [e2]; exact hown7
              have ne6 : Hid (∀ k, k ≤ g + 2 → some k ≠ v6.ownBlock) := fun k hk e => by have a := (World.ownsRow.lt W6.out k e.symm).1; have b := Lr.out; omega
              have T7 : Hid (Blk w7 92 g #[.slice a1 fx.length c1, .slice (some ⟨b, off, none⟩) ops.length c2, .int .i64 b1, .int .i64 b2]) := T6.out.grown hgr7 (ne6.out _ (by omega))
              have R7 : Hid (Blk w7 92 (g + 2) #[.slice none 0 0, .slice none 0 0, .int .i64 0, .int .i64 0]) := R6.out.grown hgr7 (ne6.out _ (by omega))
              have B7 : Hid (Below w.heap.size w w7) := B6.out.grown hgr7 B6.out.size (fun k hk => by have a := (World.ownsRow.lt W6.out k hk).1; have b := BB.out.size; omega)
              clear hown7 hgr7 T6 R6 B6 W6 W6' L6 ne6 t1
              have hb7 : Hid (∀ j, v7.ownBlock = some j → wr.heap.size ≤ j) := fun j hj => (World.ownsRow.lt W7.out j hj).1
              obtain ⟨a7, c7, rfl, hop7, hok7⟩ := W7.out.ops
              have t0 : w7.cell? ⟨g, 0, none⟩ = some (.slice a1 fx.length c1) := T7.out.cell 0
              have t1 : w7.cell? ⟨g, 1, none⟩ = some (.slice (some ⟨b, off, none⟩) ops.length c2) := T7.out.cell 1
              have t2 : w7.cell? ⟨g, 2, none⟩ = some (.int .i64 b1) := T7.out.cell 2
              have t3 : w7.cell? ⟨g, 3, none⟩ = some (.int .i64 b2) := T7.out.cell 3
              have f1 := T7.out.free 1
              have R8 : Hid (Blk (w7.setCell ⟨g, 1, none⟩ (.slice a7 NN.length c7)) 92 (g + 2) #[.slice none 0 0, .slice none 0 0, .int .i64 0, .int .i64 0]) := R7.out.other ⟨g, 1, none⟩ (by show g + 2 ≠ g; omega) _
              have B8 : Hid (Below w.heap.size w (w7.setCell ⟨g, 1, none⟩ (.slice a7 NN.length c7))) := B7.out.setCell (p := ⟨g, 1, none⟩) Lg0.out _
              have O8 : Hid (OwnO (w7.setCell ⟨g, 1, none⟩ (.slice a7 NN.length c7)) wr.heap.size (.slice a7 NN.length c7) NN) := owns_set W7.out ⟨g, 1, none⟩ (by show g < _; have := Lr.out; omega) _
              have HTV : Hid (∀ a2' n2', TreeW a1 fx.length a2' n2' w.heap.size ((w7.setCell ⟨g, 1, none⟩ (.slice a7 NN.length c7)).setRow (g + 2) #[.slice a1 fx.length c1, .slice a7 NN.length c7, .int .i64 b1, .int .i64 b2]) (.agg #[.slice a1 fx.length c1, .slice a7 NN.length c7, .int .i64 b1, .int .i64 b2]) (fx, NN, (b1, b2))) := by
                have o9 : World.ownsRow ((w7.setCell ⟨g, 1, none⟩ (.slice a7 NN.length c7)).setRow (g + 2) #[.slice a1 fx.length c1, .slice a7 NN.length c7, .int .i64 b1, .int .i64 b2]) wr.heap.size 37 9 (.slice a7 NN.length c7) NN.length (cellsO NN) := owns_same O8.out (fun k hk => setRow_other _ _ k _ (by have a := (World.ownsRow.lt O8.out k hk).1; have b := Lr.out; omega))
                obtain ⟨a9, c9, e9, ho9, hk9⟩ := OwnO.ops o9
                injection e9 with e91 e92 e93
                subst e91
                subst e93
                exact fun _ _ => ⟨⟨a1, c1, _, _, rfl, H1.out.below (below_setRow B8.out Lg.out _), ho9, hk9⟩, ⟨_, _, _, _, rfl, adr_same, (adr_own o9).less BB.out.size⟩⟩
              clear hop7 hok7 hb7 W7 B7 R7 O8
              go_wp2_with (with_reducible refine wpList_storeBlkH rfl 92 _ _ rfl (g + 2) #[.slice none 0 0, .slice none 0 0, .int .i64 0, .int .i64 0] #[.slice a1 fx.length c1, .slice a7 NN.length c7, .int .i64 b1, .int .i64 b2] ?hxW ?hyW R8.out rfl ?hiW ?h1W ?_)
              try (case hxW => rfl)
              try (case hyW => rfl)
              case hiW => first | kernel_rfl | (refine Option.map_eq_some_iff.1 (?_ : (Tryz.prog.info? 92).map (·.size) = some 4); kernel_rfl)
              case h1W => simp [Value.oneCell']
              unfold Hid
              go_wp2
              exact bodyPost_rowTmp rfl (g + 2) #[.slice a1 fx.length c1, .slice a7 NN.length c7, .int .i64 b1, .int .i64 b2] _ rfl rfl rfl (R8.out.setRow _) _ Tryz.underlying92 rfl (by kernel_rfl) ⟨_, rfl, by rw [← HNN.out]; exact HTV.out _ _, below_setRow B8.out Lg.out _⟩
        · have gk : (k0 == 1) = false := by rw [beq_eq_false_iff_ne]; exact hk1
          by_cases hn0 : ops.length = 0
          · have hops : ops = [] := List.length_eq_zero_iff.1 hn0
            subst hops
            have hP0 : P = 0 := by simpa using hP
            subst hP0
            clear hn0
            rcases H3.out with ⟨rfl, _, rfl⟩ | ⟨x, rfl, _⟩
            · have HSRC : Hid (SrcAt wr (.slice none 0 0) 0 []) := .inl ⟨rfl, rfl, rfl⟩
              have t0 : World.cell? _ ⟨g, 0, none⟩ = some (.slice a1 fx.length c1) := TT.out.cell 0
              have t1 : World.cell? _ ⟨g, 1, none⟩ = some (.slice none 0 0) := TT.out.cell 1
              have t2 : World.cell? _ ⟨g, 2, none⟩ = some (.int .i64 b1) := TT.out.cell 2
              have t3 : World.cell? _ ⟨g, 3, none⟩ = some (.int .i64 b2) := TT.out.cell 3
              go_wp2_with (at_builtin; refine wpList_appW (by rfl) (.tmp 79) (.tmp 83) 24 rfl wr.heap.size 37 i0 _ 9 88 Tryz.underlying24 hi hz0 hz1 hz2 rfl (by decide) (.slice none 0 0) 0 [] rfl (World.ownsRow_nil _ _ _ _) _ 0 [] rfl HSRC.out rfl (fun u hu => by cases hu) (by unfold maxLen; omega) (by omega) (Nat.le_refl _) ?_)
              intro v5 w5 hown5 hgr5
              have W5 : Hid (OwnO w5 wr.heap.size v5 (([] : List OpT))) := by
                show World.ownsRow _ _ _ _ _ _ _
                simpa [cellsO] using hown5
              have Lr : Hid (g + 2 < wr.heap.size) := RR.out.lt
              have T5 : Hid (Blk w5 92 g #[.slice a1 fx.length c1, .slice none 0 0, .int .i64 b1, .int .i64 b2]) := TT.out.grown hgr5 (by simp [Value.ownBlock])
              have P5 : Hid (Blk w5 37 (g + 1) #[.int .i64 k0, .int .i64 k1, .int .i64 k2, .int .i64 k3, .int .i64 k4, .int .i64 k5, .int .i64 k6, .string s, .string t]) := OO.out.grown hgr5 (by simp [Value.ownBlock])
              have R5 : Hid (Blk w5 92 (g + 2) #[.slice none 0 0, .slice none 0 0, .int .i64 0, .int .i64 0]) := RR.out.grown hgr5 (by simp [Value.ownBlock])
              have B5 : Hid (Below w.heap.size w w5) := BB.out.grown hgr5 BB.out.size (fun k hk => by cases hk)
              have L5 : Hid (wr.heap.size ≤ w5.heap.size) := hgr5.size
              clear hown5 hgr5 t0 t1 t2 t3 o0 o1 o2 TT OO RR
              have p0 : w5.cell? ⟨g + 1, 0, none⟩ = some (.int .i64 k0) := P5.out.cell 0
              have p1 : w5.cell? ⟨g + 1, 1, none⟩ = some (.int .i64 k1) := P5.out.cell 1
              have p2 : w5.cell? ⟨g + 1, 2, none⟩ = some (.int .i64 k2) := P5.out.cell 2
              have p3 : w5.cell? ⟨g + 1, 3, none⟩ = some (.int .i64 k3) := P5.out.cell 3
              have p4 : w5.cell? ⟨g + 1, 4, none⟩ = some (.int .i64 k4) := P5.out.cell 4
              have p5 : w5.cell? ⟨g + 1, 5, none⟩ = some (.int .i64 k5) := P5.out.cell 5
              have p6 : w5.cell? ⟨g + 1, 6, none⟩ = some (.int .i64 k6) := P5.out.cell 6
              have p7 : w5.cell? ⟨g + 1, 7, none⟩ = some (.string s) := P5.out.cell 7
              have p8 : w5.cell? ⟨g + 1, 8, none⟩ = some (.string t) := P5.out.cell 8
              go_wp2_with (at_builtin; refine wpList_appW (by rfl) (.tmp 85) (.tmp 87) 24 rfl wr.heap.size 37 i0 _ 9 88 Tryz.underlying24 hi hz0 hz1 hz2 rfl (by decide) v5 (([] : List OpT)).length (cellsO (([] : List OpT))) rfl (show World.ownsRow _ _ _ _ _ _ _ from owns_on W5.out (below_new _ _)) (.slice (some ⟨w5.heap.size, 0, none⟩) 1 1) 1 (opA (k0, (k1, k2), (k3, k4), (k5, k6), s, t)).toList rfl (new_src (Blk.new w5 37 (opA (k0, (k1, k2), (k3, k4), (k5, k6), s, t))) 1) rfl (opA_one _) (by unfold maxLen; omega) (by omega) (by have := L5.out; simp; omega) ?_)
              intro v6 w6 hown6 hgr6
              have W6 : Hid (OwnO w6 wr.heap.size v6 (([] : List OpT) ++ [(k0, (k1, k2), (k3, k4), (k5, k6), s, t)])) := by
                show World.ownsRow _ _ _ _ _ _ _
                simpa [cellsO] using hown6
              have hl6 : (([] : List OpT) ++ [(k0, (k1, k2), (k3, k4), (k5, k6), s, t)]).length = 1 := rfl
              have W6' : Hid (World.ownsRow w6 wr.heap.size 37 9 v6 1 (cellsO (([] : List OpT) ++ [(k0, (k1, k2), (k3, k4), (k5, k6), s, t)]))) := by rw [← hl6]; exact W6
              have ne5 : Hid (∀ k, k ≤ g + 2 → some k ≠ v5.ownBlock) := fun k hk e => by have a := (World.ownsRow.lt W5.out k e.symm).1; have b := Lr.out; omega
              have T6 : Hid (Blk w6 92 g #[.slice a1 fx.length c1, .slice none 0 0, .int .i64 b1, .int .i64 b2]) := (T5.out.alloc _).grown hgr6 (ne5.out _ (by omega))
              have R6 : Hid (Blk w6 92 (g + 2) #[.slice none 0 0, .slice none 0 0, .int .i64 0, .int .i64 0]) := (R5.out.alloc _).grown hgr6 (ne5.out _ (by omega))
              have B5a : Hid (Below w.heap.size w (w5.alloc (.cells (opA (k0, (k1, k2), (k3, k4), (k5, k6), s, t)) 37))) := below_step B5.out (Nat.le_refl _) (below_new _ _)
              have B6 : Hid (Below w.heap.size w w6) := B5a.out.grown hgr6 B5a.out.size (fun k hk => by have a := (World.ownsRow.lt W5.out k hk).1; have b := BB.out.size; omega)
              have L6 : Hid (wr.heap.size ≤ w6.heap.size) := Nat.le_trans (Nat.le_trans L5.out (below_new w5 _).size) hgr6.size
              clear hown6 hgr6 B5a T5 R5 P5 B5 W5 L5 ne5 p0 p1 p2 p3 p4 p5 p6 p7 p8
              have t1 : w6.cell? ⟨g, 1, none⟩ = some (.slice none 0 0) := T6.out.cell 1
              clear hl6
              go_wp2_with (at_builtin; refine wpList_appW (by rfl) (.tmp 89) (.tmp 93) 24 rfl wr.heap.size 37 i0 _ 9 88 Tryz.underlying24 hi hz0 hz1 hz2 rfl (by decide) v6 1 (cellsO (([] : List OpT) ++ [(k0, (k1, k2), (k3, k4), (k5, k6), s, t)])) rfl W6'.out _ 0 [] rfl (.inl ⟨rfl, rfl, rfl⟩) rfl (fun u hu => by cases hu) (by unfold maxLen; omega) (by omega) L6.out ?_)
              intro v7 w7 hown7 hgr7
              obtain ⟨NN, HNN⟩ : ∃ NN, Hid (NN = ([] : List OpT) ++ (k0, (k1, k2), (k3, k4), (k5, k6), s, t) :: ([] : List OpT)) := ⟨_, rfl⟩
              have W7 : Hid (OwnO w7 wr.heap.size v7 NN) := by
                show World.ownsRow _ _ _ _ _ _ _
                rw [HNN.out]
                simpa [cellsO] using hown7
              have ne6 : Hid (∀ k, k ≤ g + 2 → some k ≠ v6.ownBlock) := fun k hk e => by have a := (World.ownsRow.lt W6.out k e.symm).1; have b := Lr.out; omega
              have T7 : Hid (Blk w7 92 g #[.slice a1 fx.length c1, .slice none 0 0, .int .i64 b1, .int .i64 b2]) := T6.out.grown hgr7 (ne6.out _ (by omega))
              have R7 : Hid (Blk w7 92 (g + 2) #[.slice none 0 0, .slice none 0 0, .int .i64 0, .int .i64 0]) := R6.out.grown hgr7 (ne6.out _ (by omega))
              have B7 : Hid (Below w.heap.size w w7) := B6.out.grown hgr7 B6.out.size (fun k hk => by have a := (World.ownsRow.lt W6.out k hk).1; have b := BB.out.size; omega)
              clear hown7 hgr7 T6 R6 B6 W6 W6' L6 ne6 t1
              have hb7 : Hid (∀ j, v7.ownBlock = some j → wr.heap.size ≤ j) := fun j hj => (World.ownsRow.lt W7.out j hj).1
              obtain ⟨a7, c7, rfl, hop7, hok7⟩ := W7.out.ops
              have t0 : w7.cell? ⟨g, 0, none⟩ = some (.slice a1 fx.length c1) := T7.out.cell 0
              have t1 : w7.cell? ⟨g, 1, none⟩ = some (.slice none 0 0) := T7.out.cell 1
              have t2 : w7.cell? ⟨g, 2, none⟩ = some (.int .i64 b1) := T7.out.cell 2
              have t3 : w7.cell? ⟨g, 3, none⟩ = some (.int .i64 b2) := T7.out.cell 3
              have f1 := T7.out.free 1
              have R8 : Hid (Blk (w7.setCell ⟨g, 1, none⟩ (.slice a7 NN.length c7)) 92 (g + 2) #[.slice none 0 0, .slice none 0 0, .int .i64 0, .int .i64 0]) := R7.out.other ⟨g, 1, none⟩ (by show g + 2 ≠ g; omega) _
              have B8 : Hid (Below w.heap.size w (w7.setCell ⟨g, 1, none⟩ (.slice a7 NN.length c7))) := B7.out.setCell (p := ⟨g, 1, none⟩) Lg0.out _
              have O8 : Hid (OwnO (w7.setCell ⟨g, 1, none⟩ (.slice a7 NN.length c7)) wr.heap.size (.slice a7 NN.length c7) NN) := owns_set W7.out ⟨g, 1, none⟩ (by show g < _; have := Lr.out; omega) _
              have HTV : Hid (∀ a2' n2', TreeW a1 fx.length a2' n2' w.heap.size ((w7.setCell ⟨g, 1, none⟩ (.slice a7 NN.length c7)).setRow (g + 2) #[.slice a1 fx.length c1, .slice a7 NN.length c7, .int .i64 b1, .int .i64 b2]) (.agg #[.slice a1 fx.length c1, .slice a7 NN.length c7, .int .i64 b1, .int .i64 b2]) (fx, NN, (b1, b2))) := by
                have o9 : World.ownsRow ((w7.setCell ⟨g, 1, none⟩ (.slice a7 NN.length c7)).setRow (g + 2) #[.slice a1 fx.length c1, .slice a7 NN.length c7, .int .i64 b1, .int .i64 b2]) wr.heap.size 37 9 (.slice a7 NN.length c7) NN.length (cellsO NN) := owns_same O8.out (fun k hk => setRow_other _ _ k _ (by have a := (World.ownsRow.lt O8.out k hk).1; have b := Lr.out; omega))
                obtain ⟨a9, c9, e9, ho9, hk9⟩ := OwnO.ops o9
                injection e9 with e91 e92 e93
                subst e91
                subst e93
                exact fun _ _ => ⟨⟨a1, c1, _, _, rfl, H1.out.below (below_setRow B8.out Lg.out _), ho9, hk9⟩, ⟨_, _, _, _, rfl, adr_same, (adr_own o9).less BB.out.size⟩⟩
              clear hop7 hok7 hb7 W7 B7 R7 O8
              go_wp2_with (with_reducible refine wpList_storeBlkH rfl 92 _ _ rfl (g + 2) #[.slice none 0 0, .slice none 0 0, .int .i64 0, .int .i64 0] #[.slice a1 fx.length c1, .slice a7 NN.length c7, .int .i64 b1, .int .i64 b2] ?hxWA ?hyWA R8.out rfl ?hiWA ?h1WA ?_)
              try (case hxWA => rfl)
              try (case hyWA => rfl)
              case hiWA => first | kernel_rfl | (refine Option.map_eq_some_iff.1 (?_ : (Tryz.prog.info? 92).map (·.size) = some 4); kernel_rfl)
              case h1WA => simp [Value.oneCell']
              unfold Hid
              go_wp2
              exact bodyPost_rowTmp rfl (g + 2) #[.slice a1 fx.length c1, .slice a7 NN.length c7, .int .i64 b1, .int .i64 b2] _ rfl rfl rfl (R8.out.setRow _) _ Tryz.underlying92 rfl (by kernel_rfl) ⟨_, rfl, by show TreeW _ _ _ _ _ _ _ (fx, ([] : List OpT) ++ [(k0, (k1, k2), (k3, k4), (k5, k6), s, t)], (b1, b2)); rw [← HNN.out]; exact HTV.out _ _, below_setRow B8.out Lg.out _⟩
            · have HSRC : Hid (SrcAt wr (.slice (some x) 0 c2) 0 []) := .inr ⟨x, c2, rfl, fun j u hj => by cases hj⟩
              have t0 : World.cell? _ ⟨g, 0, none⟩ = some (.slice a1 fx.length c1) := TT.out.cell 0
              have t1 : World.cell? _ ⟨g, 1, none⟩ = some (.slice (some x) 0 c2) := TT.out.cell 1
              have t2 : World.cell? _ ⟨g, 2, none⟩ = some (.int .i64 b1) := TT.out.cell 2
              have t3 : World.cell? _ ⟨g, 3, none⟩ = some (.int .i64 b2) := TT.out.cell 3
              go_wp2_with (at_builtin; refine wpList_appW (by rfl) (.tmp 79) (.tmp 83) 24 rfl wr.heap.size 37 i0 _ 9 88 Tryz.underlying24 hi hz0 hz1 hz2 rfl (by decide) (.slice none 0 0) 0 [] rfl (World.ownsRow_nil _ _ _ _) _ 0 [] rfl HSRC.out rfl (fun u hu => by cases hu) (by unfold maxLen; omega) (by omega) (Nat.le_refl _) ?_)
              intro v5 w5 hown5 hgr5
              have W5 : Hid (OwnO w5 wr.heap.size v5 (([] : List OpT))) := by
                show World.ownsRow _ _ _ _ _ _ _
                simpa [cellsO] using hown5
              have Lr : Hid (g + 2 < wr.heap.size) := RR.out.lt
              have T5 : Hid (Blk w5 92 g #[.slice a1 fx.length c1, .slice (some x) 0 c2, .int .i64 b1, .int .i64 b2]) := TT.out.grown hgr5 (by simp [Value.ownBlock])
              have P5 : Hid (Blk w5 37 (g + 1) #[.int .i64 k0, .int .i64 k1, .int .i64 k2, .int .i64 k3, .int .i64 k4, .int .i64 k5, .int .i64 k6, .string s, .string t]) := OO.out.grown hgr5 (by simp [Value.ownBlock])
              have R5 : Hid (Blk w5 92 (g + 2) #[.slice none 0 0, .slice none 0 0, .int .i64 0, .int .i64 0]) := RR.out.grown hgr5 (by simp [Value.ownBlock])
              have B5 : Hid (Below w.heap.size w w5) := BB.out.grown hgr5 BB.out.size (fun k hk => by cases hk)
              have L5 : Hid (wr.heap.size ≤ w5.heap.size) := hgr5.size
              clear hown5 hgr5 t0 t1 t2 t3 o0 o1 o2 TT OO RR
              have p0 : w5.cell? ⟨g + 1, 0, none⟩ = some (.int .i64 k0) := P5.out.cell 0
              have p1 : w5.cell? ⟨g + 1, 1, none⟩ = some (.int .i64 k1) := P5.out.cell 1
              have p2 : w5.cell? ⟨g + 1, 2, none⟩ = some (.int .i64 k2) := P5.out.cell 2
              have p3 : w5.cell? ⟨g + 1, 3, none⟩ = some (.int .i64 k3) := P5.out.cell 3
              have p4 : w5.cell? ⟨g + 1, 4, none⟩ = some (.int .i64 k4) := P5.out.cell 4
              have p5 : w5.cell? ⟨g + 1, 5, none⟩ = some (.int .i64 k5) := P5.out.cell 5
              have p6 : w5.cell? ⟨g + 1, 6, none⟩ = some (.int .i64 k6) := P5.out.cell 6
              have p7 : w5.cell? ⟨g + 1, 7, none⟩ = some (.string s) := P5.out.cell 7
              have p8 : w5.cell? ⟨g + 1, 8, none⟩ = some (.string t) := P5.out.cell 8
              go_wp2_with (at_builtin; refine wpList_appW (by rfl) (.tmp 85) (.tmp 87) 24 rfl wr.heap.size 37 i0 _ 9 88 Tryz.underlying24 hi hz0 hz1 hz2 rfl (by decide) v5 (([] : List OpT)).length (cellsO (([] : List OpT))) rfl (show World.ownsRow _ _ _ _ _ _ _ from owns_on W5.out (below_new _ _)) (.slice (some ⟨w5.heap.size, 0, none⟩) 1 1) 1 (opA (k0, (k1, k2), (k3, k4), (k5, k6), s, t)).toList rfl (new_src (Blk.new w5 37 (opA (k0, (k1, k2), (k3, k4), (k5, k6), s, t))) 1) rfl (opA_one _) (by unfold maxLen; omega) (by omega) (by have := L5.out; simp; omega) ?_)
              intro v6 w6 hown6 hgr6
              have W6 : Hid (OwnO w6 wr.heap.size v6 (([] : List OpT) ++ [(k0, (k1, k2), (k3, k4), (k5, k6), s, t)])) := by
                show World.ownsRow _ _ _ _ _ _ _
                simpa [cellsO] using hown6
              have hl6 : (([] : List OpT) ++ [(k0, (k1, k2), (k3, k4), (k5, k6), s, t)]).length = 1 := rfl
              have W6' : Hid (World.ownsRow w6 wr.heap.size 37 9 v6 1 (cellsO (([] : List OpT) ++ [(k0, (k1, k2), (k3, k4), (k5, k6), s, t)]))) := by rw [← hl6]; exact W6
              have ne5 : Hid (∀ k, k ≤ g + 2 → some k ≠ v5.ownBlock) := fun k hk e => by have a := (World.ownsRow.lt W5.out k e.symm).1; have b := Lr.out; omega
              have T6 : Hid (Blk w6 92 g #[.slice a1 fx.length c1, .slice (some x) 0 c2, .int .i64 b1, .int .i64 b2]) := (T5.out.alloc _).grown hgr6 (ne5.out _ (by omega))
              have R6 : Hid (Blk w6 92 (g + 2) #[.slice none 0 0, .slice none 0 0, .int .i64 0, .int .i64 0]) := (R5.out.alloc _).grown hgr6 (ne5.out _ (by omega))
              have B5a : Hid (Below w.heap.size w (w5.alloc (.cells (opA (k0, (k1, k2), (k3, k4), (k5, k6), s, t)) 37))) := below_step B5.out (Nat.le_refl _) (below_new _ _)
              have B6 : Hid (Below w.heap.size w w6) := B5a.out.grown hgr6 B5a.out.size (fun k hk => by have a := (World.ownsRow.lt W5.out k hk).1; have b := BB.out.size; omega)
              have L6 : Hid (wr.heap.size ≤ w6.heap.size) := Nat.le_trans (Nat.le_trans L5.out (below_new w5 _).size) hgr6.size
              clear hown6 hgr6 B5a T5 R5 P5 B5 W5 L5 ne5 p0 p1 p2 p3 p4 p5 p6 p7 p8
              have t1 : w6.cell? ⟨g, 1, none⟩ = some (.slice (some x) 0 c2) := T6.out.cell 1
              clear hl6
              go_wp2_with (at_builtin; refine wpList_appW (by rfl) (.tmp 89) (.tmp 93) 24 rfl wr.heap.size 37 i0 _ 9 88 Tryz.underlying24 hi hz0 hz1 hz2 rfl (by decide) v6 1 (cellsO (([] : List OpT) ++ [(k0, (k1, k2), (k3, k4), (k5, k6), s, t)])) rfl W6'.out _ 0 [] rfl (.inr ⟨_, _, rfl, fun j u hj => by cases hj⟩) rfl (fun u hu => by cases hu) (by unfold maxLen; omega) (by omega) L6.out ?_)
              intro v7 w7 hown7 hgr7
              obtain ⟨NN, HNN⟩ : ∃ NN, Hid (NN = ([] : List OpT) ++ (k0, (k1, k2), (k3, k4), (k5, k6), s, t) :: ([] : List OpT)) := ⟨_, rfl⟩
              have W7 : Hid (OwnO w7 wr.heap.size v7 NN) := by
                show World.ownsRow _ _ _ _ _ _ _
                rw [HNN.out]
                simpa [cellsO] using hown7
              have ne6 : Hid (∀ k, k ≤ g + 2 → some k ≠ v6.ownBlock) := fun k hk e => by have a := (World.ownsRow.lt W6.out k e.symm).1; have b := Lr.out; omega
              have T7 : Hid (Blk w7 92 g #[.slice a1 fx.length c1, .slice (some x) 0 c2, .int .i64 b1, .int .i64 b2]) := T6.out.grown hgr7 (ne6.out _ (by omega))
              have R7 : Hid (Blk w7 92 (g + 2) #[.slice none 0 0, .slice none 0 0, .int .i64 0, .int .i64 0]) := R6.out.grown hgr7 (ne6.out _ (by omega))
              have B7 : Hid (Below w.heap.size w w7) := B6.out.grown hgr7 B6.out.size (fun k hk => by have a := (World.ownsRow.lt W6.out k hk).1; have b := BB.out.size; omega)
              clear hown7 hgr7 T6 R6 B6 W6 W6' L6 ne6 t1
              have hb7 : Hid (∀ j, v7.ownBlock = some j → wr.heap.size ≤ j) := fun j hj => (World.ownsRow.lt W7.out j hj).1
              obtain ⟨a7, c7, rfl, hop7, hok7⟩ := W7.out.ops
              have t0 : w7.cell? ⟨g, 0, none⟩ = some (.slice a1 fx.length c1) := T7.out.cell 0
              have t1 : w7.cell? ⟨g, 1, none⟩ = some (.slice (some x) 0 c2) := T7.out.cell 1
              have t2 : w7.cell? ⟨g, 2, none⟩ = some (.int .i64 b1) := T7.out.cell 2
              have t3 : w7.cell? ⟨g, 3, none⟩ = some (.int .i64 b2) := T7.out.cell 3
              have f1 := T7.out.free 1
              have R8 : Hid (Blk (w7.setCell ⟨g, 1, none⟩ (.slice a7 NN.length c7)) 92 (g + 2) #[.slice none 0 0, .slice none 0 0, .int .i64 0, .int .i64 0]) := R7.out.other ⟨g, 1, none⟩ (by show g + 2 ≠ g; omega) _
              have B8 : Hid (Below w.heap.size w (w7.setCell ⟨g, 1, none⟩ (.slice a7 NN.length c7))) := B7.out.setCell (p := ⟨g, 1, none⟩) Lg0.out _
              have O8 : Hid (OwnO (w7.setCell ⟨g, 1, none⟩ (.slice a7 NN.length c7)) wr.heap.size (.slice a7 NN.length c7) NN) := owns_set W7.out ⟨g, 1, none⟩ (by show g < _; have := Lr.out; omega) _
              have HTV : Hid (∀ a2' n2', TreeW a1 fx.length a2' n2' w.heap.size ((w7.setCell ⟨g, 1, none⟩ (.slice a7 NN.length c7)).setRow (g + 2) #[.slice a1 fx.length c1, .slice a7 NN.length c7, .int .i64 b1, .int .i64 b2]) (.agg #[.slice a1 fx.length c1, .slice a7 NN.length c7, .int .i64 b1, .int .i64 b2]) (fx, NN, (b1, b2))) := by
                have o9 : World.ownsRow ((w7.setCell ⟨g, 1, none⟩ (.slice a7 NN.length c7)).setRow (g + 2) #[.slice a1 fx.length c1, .slice a7 NN.length c7, .int .i64 b1, .int .i64 b2]) wr.heap.size 37 9 (.slice a7 NN.length c7) NN.length (cellsO NN) := owns_same O8.out (fun k hk => setRow_other _ _ k _ (by have a := (World.ownsRow.lt O8.out k hk).1; have b := Lr.out; omega))
                obtain ⟨a9, c9, e9, ho9, hk9⟩ := OwnO.ops o9
                injection e9 with e91 e92 e93
                subst e91
                subst e93
                exact fun _ _ => ⟨⟨a1, c1, _, _, rfl, H1.out.below (below_setRow B8.out Lg.out _), ho9, hk9⟩, ⟨_, _, _, _, rfl, adr_same, (adr_own o9).less BB.out.size⟩⟩
              clear hop7 hok7 hb7 W7 B7 R7 O8
              go_wp2_with (with_reducible refine wpList_storeBlkH rfl 92 _ _ rfl (g + 2) #[.slice none 0 0, .slice none 0 0, .int .i64 0, .int .i64 0] #[.slice a1 fx.length c1, .slice a7 NN.length c7, .int .i64 b1, .int .i64 b2] ?hxWB ?hyWB R8.out rfl ?hiWB ?h1WB ?_)
              try (case hxWB => rfl)
              try (case hyWB => rfl)
              case hiWB => first | kernel_rfl | (refine Option.map_eq_some_iff.1 (?_ : (Tryz.prog.info? 92).map (·.size) = some 4); kernel_rfl)
              case h1WB => simp [Value.oneCell']
              unfold Hid
              go_wp2
              exact bodyPost_rowTmp rfl (g + 2) #[.slice a1 fx.length c1, .slice a7 NN.length c7, .int .i64 b1, .int .i64 b2] _ rfl rfl rfl (R8.out.setRow _) _ Tryz.underlying92 rfl (by kernel_rfl) ⟨_, rfl, by show TreeW _ _ _ _ _ _ _ (fx, ([] : List OpT) ++ [(k0, (k1, k2), (k3, k4), (k5, k6), s, t)], (b1, b2)); rw [← HNN.out]; exact HTV.out _ _, below_setRow B8.out Lg.out _⟩
          · obtain ⟨b, off, rfl, _⟩ := H2.out.2.some (by omega)
            have hcap := H3.out.cap
            have e1 : (P : Int) ≤ (c2 : Int) := by omega
            have e2 : (P : Int) ≤ (ops.length : Int) := by omega
            have e3 : (ops.length : Int) ≤ (c2 : Int) := by omega
            by_cases hcp : c2 - P = 0
            · skip
              have t0 : World.cell? _ ⟨g, 0, none⟩ = some (.slice a1 fx.length c1) := TT.out.cell 0
              have t1 : World.cell? _ ⟨g, 1, none⟩ = some (.slice (some ⟨b, off, none⟩) ops.length c2) := TT.out.cell 1
              have t2 : World.cell? _ ⟨g, 2, none⟩ = some (.int .i64 b1) := TT.out.cell 2
              have t3 : World.cell? _ ⟨g, 3, none⟩ = some (.int .i64 b2) := TT.out.cell 3
              go_wp2_with (at_builtin; refine wpList_appW (by rfl) (.tmp 79) (.tmp 83) 24 rfl wr.heap.size 37 i0 _ 9 88 Tryz.underlying24 hi hz0 hz1 hz2 rfl (by decide) (.slice none 0 0) 0 [] rfl (World.ownsRow_nil _ _ _ _) (.slice (some ⟨b, off, none⟩) P c2) P (cellsO ((ops.drop 0).take P)) rfl (opsO_src (k := 0) (H2.out.below BB.out) (by omega)) (by rw [cellsO_len, List.length_take, List.drop_zero, Nat.min_eq_left hP]) (cellsO_one _) (by unfold maxLen; omega) (by omega) (Nat.le_refl _) ?_)
              intro v5 w5 hown5 hgr5
              have W5 : Hid (OwnO w5 wr.heap.size v5 (ops.take P)) := by
                show World.ownsRow _ _ _ _ _ _ _
                rw [List.length_take, Nat.min_eq_left hP]
                simpa using hown5
              have Lr : Hid (g + 2 < wr.heap.size) := RR.out.lt
              have T5 : Hid (Blk w5 92 g #[.slice a1 fx.length c1, .slice (some ⟨b, off, none⟩) ops.length c2, .int .i64 b1, .int .i64 b2]) := TT.out.grown hgr5 (by simp [Value.ownBlock])
              have P5 : Hid (Blk w5 37 (g + 1) #[.int .i64 k0, .int .i64 k1, .int .i64 k2, .int .i64 k3, .int .i64 k4, .int .i64 k5, .int .i64 k6, .string s, .string t]) := OO.out.grown hgr5 (by simp [Value.ownBlock])
              have R5 : Hid (Blk w5 92 (g + 2) #[.slice none 0 0, .slice none 0 0, .int .i64 0, .int .i64 0]) := RR.out.grown hgr5 (by simp [Value.ownBlock])
              have B5 : Hid (Below w.heap.size w w5) := BB.out.grown hgr5 BB.out.size (fun k hk => by cases hk)
              have L5 : Hid (wr.heap.size ≤ w5.heap.size) := hgr5.size
              clear hown5 hgr5 t0 t1 t2 t3 o0 o1 o2 TT OO RR
              have p0 : w5.cell? ⟨g + 1, 0, none⟩ = some (.int .i64 k0) := P5.out.cell 0
              have p1 : w5.cell? ⟨g + 1, 1, none⟩ = some (.int .i64 k1) := P5.out.cell 1
              have p2 : w5.cell? ⟨g + 1, 2, none⟩ = some (.int .i64 k2) := P5.out.cell 2
              have p3 : w5.cell? ⟨g + 1, 3, none⟩ = some (.int .i64 k3) := P5.out.cell 3
              have p4 : w5.cell? ⟨g + 1, 4, none⟩ = some (.int .i64 k4) := P5.out.cell 4
              have p5 : w5.cell? ⟨g + 1, 5, none⟩ = some (.int .i64 k5) := P5.out.cell 5
              have p6 : w5.cell? ⟨g + 1, 6, none⟩ = some (.int .i64 k6) := P5.out.cell 6
              have p7 : w5.cell? ⟨g + 1, 7, none⟩ = some (.string s) := P5.out.cell 7
              have p8 : w5.cell? ⟨g + 1, 8, none⟩ = some (.string t) := P5.out.cell 8
              go_wp2_with (at_builtin; refine wpList_appW (by rfl) (.tmp 85) (.tmp 87) 24 rfl wr.heap.size 37 i0 _ 9 88 Tryz.underlying24 hi hz0 hz1 hz2 rfl (by decide) v5 (ops.take P).length (cellsO (ops.take P)) rfl (show World.ownsRow _ _ _ _ _ _ _ from owns_on W5.out (below_new _ _)) (.slice (some ⟨w5.heap.size, 0, none⟩) 1 1) 1 (opA (k0, (k1, k2), (k3, k4), (k5, k6), s, t)).toList rfl (new_src (Blk.new w5 37 (opA (k0, (k1, k2), (k3, k4), (k5, k6), s, t))) 1) rfl (opA_one _) (by rw [List.length_take]; unfold maxLen; omega) (by rw [List.length_take]; omega) (by have := L5.out; simp; omega) ?_)
              intro v6 w6 hown6 hgr6
              have W6 : Hid (OwnO w6 wr.heap.size v6 (ops.take P ++ [(k0, (k1, k2), (k3, k4), (k5, k6), s, t)])) := by
                show World.ownsRow _ _ _ _ _ _ _
                rw [cellsO_app, List.length_append, List.length_take, Nat.min_eq_left hP]
                simpa [cellsO] using hown6
              have hl6 : (ops.take P ++ [(k0, (k1, k2), (k3, k4), (k5, k6), s, t)]).length = P + 1 := by rw [List.length_append, List.length_take, Nat.min_eq_left hP]; rfl
              have W6' : Hid (World.ownsRow w6 wr.heap.size 37 9 v6 (P + 1) (cellsO (ops.take P ++ [(k0, (k1, k2), (k3, k4), (k5, k6), s, t)]))) := by rw [← hl6]; exact W6
              have ne5 : Hid (∀ k, k ≤ g + 2 → some k ≠ v5.ownBlock) := fun k hk e => by have a := (World.ownsRow.lt W5.out k e.symm).1; have b := Lr.out; omega
              have T6 : Hid (Blk w6 92 g #[.slice a1 fx.length c1, .slice (some ⟨b, off, none⟩) ops.length c2, .int .i64 b1, .int .i64 b2]) := (T5.out.alloc _).grown hgr6 (ne5.out _ (by omega))
              have R6 : Hid (Blk w6 92 (g + 2) #[.slice none 0 0, .slice none 0 0, .int .i64 0, .int .i64 0]) := (R5.out.alloc _).grown hgr6 (ne5.out _ (by omega))
              have B5a : Hid (Below w.heap.size w (w5.alloc (.cells (opA (k0, (k1, k2), (k3, k4), (k5, k6), s, t)) 37))) := below_step B5.out (Nat.le_refl _) (below_new _ _)
              have B6 : Hid (Below w.heap.size w w6) := B5a.out.grown hgr6 B5a.out.size (fun k hk => by have a := (World.ownsRow.lt W5.out k hk).1; have b := BB.out.size; omega)
              have L6 : Hid (wr.heap.size ≤ w6.heap.size) := Nat.le_trans (Nat.le_trans L5.out (below_new w5 _).size) hgr6.size
              clear hown6 hgr6 B5a T5 R5 P5 B5 W5 L5 ne5 p0 p1 p2 p3 p4 p5 p6 p7 p8
              have t1 : w6.cell? ⟨g, 1, none⟩ = some (.slice (some ⟨b, off, none⟩) ops.length c2) := T6.out.cell 1
              clear hl6
              go_wp2_with (at_builtin; refine wpList_appW (by rfl) (.tmp 89) (.tmp 93) 24 rfl wr.heap.size 37 i0 _ 9 88 Tryz.underlying24 hi hz0 hz1 hz2 rfl (by decide) v6 (P + 1) (cellsO (ops.take P ++ [(k0, (k1, k2), (k3, k4), (k5, k6), s, t)])) rfl W6'.out _ (ops.length - P) (cellsO ((ops.drop P).take (ops.length - P))) rfl (.inr ⟨_, _, rfl, fun j u hj => by rw [show ops.length - P = 0 by omega, List.take_zero] at hj; cases hj⟩) (by rw [cellsO_len, List.length_take, List.length_drop, Nat.min_self]) (cellsO_one _) (by unfold maxLen; omega) (by omega) L6.out ?_)
              intro v7 w7 hown7 hgr7
              obtain ⟨NN, HNN⟩ : ∃ NN, Hid (NN = ops.take P ++ (k0, (k1, k2), (k3, k4), (k5, k6), s, t) :: ops.drop P) := ⟨_, rfl⟩
              have W7 : Hid (OwnO w7 wr.heap.size v7 NN) := by
                show World.ownsRow _ _ _ _ _ _ _
                rw [HNN.out]
                have e : ops.take P ++ (k0, (k1, k2), (k3, k4), (k5, k6), s, t) :: ops.drop P = (ops.take P ++ [(k0, (k1, k2), (k3, k4), (k5, k6), s, t)]) ++ (ops.drop P).take (ops.length - P) := by
                  have e0 : (ops.drop P).take (ops.length - P) = ops.drop P := List.take_of_length_le (by rw [List.length_drop]; exact Nat.le_refl _)
                  rw [e0, List.append_assoc]; rfl
                rw [e, cellsO_app]
                have e2 : (ops.take P ++ [(k0, (k1, k2), (k3, k4), (k5, k6), s, t)] ++ (ops.drop P).take (ops.length - P)).length = P + 1 + (ops.length - P) := by
                  rw [List.length_append, List.length_append, List.length_take, Nat.min_eq_left hP, List.length_take, List.length_drop, Nat.min_self]; rfl
                rw [e2]; exact hown7
              have ne6 : Hid (∀ k, k ≤ g + 2 → some k ≠ v6.ownBlock) := fun k hk e => by have a := (World.ownsRow.lt W6.out k e.symm).1; have b := Lr.out; omega
              have T7 : Hid (Blk w7 92 g #[.slice a1 fx.length c1, .slice (some ⟨b, off, none⟩) ops.length c2, .int .i64 b1, .int .i64 b2]) := T6.out.grown hgr7 (ne6.out _ (by omega))
              have R7 : Hid (Blk w7 92 (g + 2) #[.slice none 0 0, .slice none 0 0, .int .i64 0, .int .i64 0]) := R6.out.grown hgr7 (ne6.out _ (by omega))
              have B7 : Hid (Below w.heap.size w w7) := B6.out.grown hgr7 B6.out.size (fun k hk => by have a := (World.ownsRow.lt W6.out k hk).1; have b := BB.out.size; omega)
              clear hown7 hgr7 T6 R6 B6 W6 W6' L6 ne6 t1
              have hb7 : Hid (∀ j, v7.ownBlock = some j → wr.heap.size ≤ j) := fun j hj => (World.ownsRow.lt W7.out j hj).1
              obtain ⟨a7, c7, rfl, hop7, hok7⟩ := W7.out.ops
              have t0 : w7.cell? ⟨g, 0, none⟩ = some (.slice a1 fx.length c1) := T7.out.cell 0
              have t1 : w7.cell? ⟨g, 1, none⟩ = some (.slice (some ⟨b, off, none⟩) ops.length c2) := T7.out.cell 1
              have t2 : w7.cell? ⟨g, 2, none⟩ = some (.int .i64 b1) := T7.out.cell 2
              have t3 : w7.cell? ⟨g, 3, none⟩ = some (.int .i64 b2) := T7.out.cell 3
              have f1 := T7.out.free 1
              have R8 : Hid (Blk (w7.setCell ⟨g, 1, none⟩ (.slice a7 NN.length c7)) 92 (g + 2) #[.slice none 0 0, .slice none 0 0, .int .i64 0, .int .i64 0]) := R7.out.other ⟨g, 1, none⟩ (by show g + 2 ≠ g; omega) _
              have B8 : Hid (Below w.heap.size w (w7.setCell ⟨g, 1, none⟩ (.slice a7 NN.length c7))) := B7.out.setCell (p := ⟨g, 1, none⟩) Lg0.out _
              have O8 : Hid (OwnO (w7.setCell ⟨g, 1, none⟩ (.slice a7 NN.length c7)) wr.heap.size (.slice a7 NN.length c7) NN) := owns_set W7.out ⟨g, 1, none⟩ (by show g < _; have := Lr.out; omega) _
              have HTV : Hid (∀ a2' n2', TreeW a1 fx.length a2' n2' w.heap.size ((w7.setCell ⟨g, 1, none⟩ (.slice a7 NN.length c7)).setRow (g + 2) #[.slice a1 fx.length c1, .slice a7 NN.length c7, .int .i64 b1, .int .i64 b2]) (.agg #[.slice a1 fx.length c1, .slice a7 NN.length c7, .int .i64 b1, .int .i64 b2]) (fx, NN, (b1, b2))) := by
                have o9 : World.ownsRow ((w7.setCell ⟨g, 1, none⟩ (.slice a7 NN.length c7)).setRow (g + 2) #[.slice a1 fx.length c1, .slice a7 NN.length c7, .int .i64 b1, .int .i64 b2]) wr.heap.size 37 9 (.slice a7 NN.length c7) NN.length (cellsO NN) := owns_same O8.out (fun k hk => setRow_other _ _ k _ (by have a := (World.ownsRow.lt O8.out k hk).1; have b := Lr.out; omega))
                obtain ⟨a9, c9, e9, ho9, hk9⟩ := OwnO.ops o9
                injection e9 with e91 e92 e93
                subst e91
                subst e93
                exact fun _ _ => ⟨⟨a1, c1, _, _, rfl, H1.out.below (below_setRow B8.out Lg.out _), ho9, hk9⟩, ⟨_, _, _, _, rfl, adr_same, (adr_own o9).less BB.out.size⟩⟩
              clear hop7 hok7 hb7 W7 B7 R7 O8
              go_wp2_with (with_reducible refine wpList_storeBlkH rfl 92 _ _ rfl (g + 2) #[.slice none 0 0, .slice none 0 0, .int .i64 0, .int .i64 0] #[.slice a1 fx.length c1, .slice a7 NN.length c7, .int .i64 b1, .int .i64 b2] ?hxWv ?hyWv R8.out rfl ?hiWv ?h1Wv ?_)
              try (case hxWv => rfl)
              try (case hyWv => rfl)
              case hiWv => first | kernel_rfl | (refine Option.map_eq_some_iff.1 (?_ : (Tryz.prog.info? 92).map (·.size) = some 4); kernel_rfl)
              case h1Wv => simp [Value.oneCell']
              unfold Hid
              go_wp2
              exact bodyPost_rowTmp rfl (g + 2) #[.slice a1 fx.length c1, .slice a7 NN.length c7, .int .i64 b1, .int .i64 b2] _ rfl rfl rfl (R8.out.setRow _) _ Tryz.underlying92 rfl (by kernel_rfl) ⟨_, rfl, by rw [← HNN.out]; exact HTV.out _ _, below_setRow B8.out Lg.out _⟩
            · skip
              have t0 : World.cell? _ ⟨g, 0, none⟩ = some (.slice a1 fx.length c1) := TT.out.cell 0
              have t1 : World.cell? _ ⟨g, 1, none⟩ = some (.slice (some ⟨b, off, none⟩) ops.length c2) := TT.out.cell 1
              have t2 : World.cell? _ ⟨g, 2, none⟩ = some (.int .i64 b1) := TT.out.cell 2
              have t3 : World.cell? _ ⟨g, 3, none⟩ = some (.int .i64 b2) := TT.out.cell 3
              go_wp2_with (at_builtin; refine wpList_appW (by rfl) (.tmp 79) (.tmp 83) 24 rfl wr.heap.size 37 i0 _ 9 88 Tryz.underlying24 hi hz0 hz1 hz2 rfl (by decide) (.slice none 0 0) 0 [] rfl (World.ownsRow_nil _ _ _ _) (.slice (some ⟨b, off, none⟩) P c2) P (cellsO ((ops.drop 0).take P)) rfl (opsO_src (k := 0) (H2.out.below BB.out) (by omega)) (by rw [cellsO_len, List.length_take, List.drop_zero, Nat.min_eq_left hP]) (cellsO_one _) (by unfold maxLen; omega) (by omega) (Nat.le_refl _) ?_)
              intro v5 w5 hown5 hgr5
              have W5 : Hid (OwnO w5 wr.heap.size v5 (ops.take P)) := by
                show World.ownsRow _ _ _ _ _ _ _
                rw [List.length_take, Nat.min_eq_left hP]
                simpa using hown5
              have Lr : Hid (g + 2 < wr.heap.size) := RR.out.lt
              have T5 : Hid (Blk w5 92 g #[.slice a1 fx.length c1, .slice (some ⟨b, off, none⟩) ops.length c2, .int .i64 b1, .int .i64 b2]) := TT.out.grown hgr5 (by simp [Value.ownBlock])
              have P5 : Hid (Blk w5 37 (g + 1) #[.int .i64 k0, .int .i64 k1, .int .i64 k2, .int .i64 k3, .int .i64 k4, .int .i64 k5, .int .i64 k6, .string s, .string t]) := OO.out.grown hgr5 (by simp [Value.ownBlock])
              have R5 : Hid (Blk w5 92 (g + 2) #[.slice none 0 0, .slice none 0 0, .int .i64 0, .int .i64 0]) := RR.out.grown hgr5 (by simp [Value.ownBlock])
              have B5 : Hid (Below w.heap.size w w5) := BB.out.grown hgr5 BB.out.size (fun k hk => by cases hk)
              have L5 : Hid (wr.heap.size ≤ w5.heap.size) := hgr5.size
              clear hown5 hgr5 t0 t1 t2 t3 o0 o1 o2 TT OO RR
              have p0 : w5.cell? ⟨g + 1, 0, none⟩ = some (.int .i64 k0) := P5.out.cell 0
              have p1 : w5.cell? ⟨g + 1, 1, none⟩ = some (.int .i64 k1) := P5.out.cell 1
              have p2 : w5.cell? ⟨g + 1, 2, none⟩ = some (.int .i64 k2) := P5.out.cell 2
              have p3 : w5.cell? ⟨g + 1, 3, none⟩ = some (.int .i64 k3) := P5.out.cell 3
              have p4 : w5.cell? ⟨g + 1, 4, none⟩ = some (.int .i64 k4) := P5.out.cell 4
              have p5 : w5.cell? ⟨g + 1, 5, none⟩ = some (.int .i64 k5) := P5.out.cell 5
              have p6 : w5.cell? ⟨g + 1, 6, none⟩ = some (.int .i64 k6) := P5.out.cell 6
              have p7 : w5.cell? ⟨g + 1, 7, none⟩ = some (.string s) := P5.out.cell 7
              have p8 : w5.cell? ⟨g + 1, 8, none⟩ = some (.string t) := P5.out.cell 8
              go_wp2_with (at_builtin; refine wpList_appW (by rfl) (.tmp 85) (.tmp 87) 24 rfl wr.heap.size 37 i0 _ 9 88 Tryz.underlying24 hi hz0 hz1 hz2 rfl (by decide) v5 (ops.take P).length (cellsO (ops.take P)) rfl (show World.ownsRow _ _ _ _ _ _ _ from owns_on W5.out (below_new _ _)) (.slice (some ⟨w5.heap.size, 0, none⟩) 1 1) 1 (opA (k0, (k1, k2), (k3, k4), (k5, k6), s, t)).toList rfl (new_src (Blk.new w5 37 (opA (k0, (k1, k2), (k3, k4), (k5, k6), s, t))) 1) rfl (opA_one _) (by rw [List.length_take]; unfold maxLen; omega) (by rw [List.length_take]; omega) (by have := L5.out; simp; omega) ?_)
              intro v6 w6 hown6 hgr6
              have W6 : Hid (OwnO w6 wr.heap.size v6 (ops.take P ++ [(k0, (k1, k2), (k3, k4), (k5, k6), s, t)])) := by
                show World.ownsRow _ _ _ _ _ _ _
                rw [cellsO_app, List.length_append, List.length_take, Nat.min_eq_left hP]
                simpa [cellsO] using hown6
              have hl6 : (ops.take P ++ [(k0, (k1, k2), (k3, k4), (k5, k6), s, t)]).length = P + 1 := by rw [List.length_append, List.length_take, Nat.min_eq_left hP]; rfl
              have W6' : Hid (World.ownsRow w6 wr.heap.size 37 9 v6 (P + 1) (cellsO (ops.take P ++ [(k0, (k1, k2), (k3, k4), (k5, k6), s, t)]))) := by rw [← hl6]; exact W6
              have ne5 : Hid (∀ k, k ≤ g + 2 → some k ≠ v5.ownBlock) := fun k hk e => by have a := (World.ownsRow.lt W5.out k e.symm).1; have b := Lr.out; omega
              have T6 : Hid (Blk w6 92 g #[.slice a1 fx.length c1, .slice (some ⟨b, off, none⟩) ops.length c2, .int .i64 b1, .int .i64 b2]) := (T5.out.alloc _).grown hgr6 (ne5.out _ (by omega))
              have R6 : Hid (Blk w6 92 (g + 2) #[.slice none 0 0, .slice none 0 0, .int .i64 0, .int .i64 0]) := (R5.out.alloc _).grown hgr6 (ne5.out _ (by omega))
              have B5a : Hid (Below w.heap.size w (w5.alloc (.cells (opA (k0, (k1, k2), (k3, k4), (k5, k6), s, t)) 37))) := below_step B5.out (Nat.le_refl _) (below_new _ _)
              have B6 : Hid (Below w.heap.size w w6) := B5a.out.grown hgr6 B5a.out.size (fun k hk => by have a := (World.ownsRow.lt W5.out k hk).1; have b := BB.out.size; omega)
              have L6 : Hid (wr.heap.size ≤ w6.heap.size) := Nat.le_trans (Nat.le_trans L5.out (below_new w5 _).size) hgr6.size
              clear hown6 hgr6 B5a T5 R5 P5 B5 W5 L5 ne5 p0 p1 p2 p3 p4 p5 p6 p7 p8
              have t1 : w6.cell? ⟨g, 1, none⟩ = some (.slice (some ⟨b, off, none⟩) ops.length c2) := T6.out.cell 1
              clear hl6
              go_wp2_with (at_builtin; refine wpList_appW (by rfl) (.tmp 89) (.tmp 93) 24 rfl wr.heap.size 37 i0 _ 9 88 Tryz.underlying24 hi hz0 hz1 hz2 rfl (by decide) v6 (P + 1) (cellsO (ops.take P ++ [(k0, (k1, k2), (k3, k4), (k5, k6), s, t)])) rfl W6'.out (.slice (some ⟨b, off + P * 9, none⟩) (ops.length - P) (c2 - P)) (ops.length - P) (cellsO ((ops.drop P).take (ops.length - P))) rfl (opsO_src (H2.out.below B6.out) (by omega)) (by rw [cellsO_len, List.length_take, List.length_drop, Nat.min_self]) (cellsO_one _) (by unfold maxLen; omega) (by omega) L6.out ?_)
              intro v7 w7 hown7 hgr7
              obtain ⟨NN, HNN⟩ : ∃ NN, Hid (NN = ops.take P ++ (k0, (k1, k2), (k3, k4), (k5, k6), s, t) :: ops.drop P) := ⟨_, rfl⟩
              have W7 : Hid (OwnO w7 wr.heap.size v7 NN) := by
                show World.ownsRow _ _ _ _ _ _ _
                rw [HNN.out]
                have e : ops.take P ++ (k0, (k1, k2), (k3, k4), (k5, k6), s, t) :: ops.drop P = (ops.take P ++ [(k0, (k1, k2), (k3, k4), (k5, k6), s, t)]) ++ (ops.drop P).take (ops.length - P) := by
                  have e0 : (ops.drop P).take (ops.length - P) = ops.drop P := List.take_of_length_le (by rw [List.length_drop]; exact Nat.le_refl _)
                  rw [e0, List.append_assoc]; rfl
                rw [e, cellsO_app]
                have e2 : (ops.take P ++ [(k0, (k1, k2), (k3, k4), (k5, k6), s, t)] ++ (ops.drop P).take (ops.length - P)).length = P + 1 + (ops.length - P) := by
                  rw [List.length_append, List.length_append, List.length_take, Nat.min_eq_left hP, List.length_take, List.length_drop, Nat.min_self]; rfl
                rw [e2]; exact hown7
              have ne6 : Hid (∀ k, k ≤ g + 2 → some k ≠ v6.ownBlock) := fun k hk e => by have a := (World.ownsRow.lt W6.out k e.symm).1; have b := Lr.out; omega
              have T7 : Hid (Blk w7 92 g #[.slice a1 fx.length c1, .slice (some ⟨b, off, none⟩) ops.length c2, .int .i64 b1, .int .i64 b2]) := T6.out.grown hgr7 (ne6.out _ (by omega))
              have R7 : Hid (Blk w7 92 (g + 2) #[.slice none 0 0, .slice none 0 0, .int .i64 0, .int .i64 0]) := R6.out.grown hgr7 (ne6.out _ (by omega))
              have B7 : Hid (Below w.heap.size w w7) := B6.out.grown hgr7 B6.out.size (fun k hk => by have a := (World.ownsRow.lt W6.out k hk).1; have b := BB.out.size; omega)
              clear hown7 hgr7 T6 R6 B6 W6 W6' L6 ne6 t1
              have hb7 : Hid (∀ j, v7.ownBlock = some j → wr.heap.size ≤ j) := fun j hj => (World.ownsRow.lt W7.out j hj).1
              obtain ⟨a7, c7, rfl, hop7, hok7⟩ := W7.out.ops
              have t0 : w7.cell? ⟨g, 0, none⟩ = some (.slice a1 fx.length c1) := T7.out.cell 0
              have t1 : w7.cell? ⟨g, 1, none⟩ = some (.slice (some ⟨b, off, none⟩) ops.length c2) := T7.out.cell 1
              have t2 : w7.cell? ⟨g, 2, none⟩ = some (.int .i64 b1) := T7.out.cell 2
              have t3 : w7.cell? ⟨g, 3, none⟩ = some (.int .i64 b2) := T7.out.cell 3
              have f1 := T7.out.free 1
              have R8 : Hid (Blk (w7.setCell ⟨g, 1, none⟩ (.slice a7 NN.length c7)) 92 (g + 2) #[.slice none 0 0, .slice none 0 0, .int .i64 0, .int .i64 0]) := R7.out.other ⟨g, 1, none⟩ (by show g + 2 ≠ g; omega) _
              have B8 : Hid (Below w.heap.size w (w7.setCell ⟨g, 1, none⟩ (.slice a7 NN.length c7))) := B7.out.setCell (p := ⟨g, 1, none⟩) Lg0.out _
              have O8 : Hid (OwnO (w7.setCell ⟨g, 1, none⟩ (.slice a7 NN.length c7)) wr.heap.size (.slice a7 NN.length c7) NN) := owns_set W7.out ⟨g, 1, none⟩ (by show g < _; have := Lr.out; omega) _
              have HTV : Hid (∀ a2' n2', TreeW a1 fx.length a2' n2' w.heap.size ((w7.setCell ⟨g, 1, none⟩ (.slice a7 NN.length c7)).setRow (g + 2) #[.slice a1 fx.length c1, .slice a7 NN.length c7, .int .i64 b1, .int .i64 b2]) (.agg #[.slice a1 fx.length c1, .slice a7 NN.length c7, .int .i64 b1, .int .i64 b2]) (fx, NN, (b1, b2))) := by
                have o9 : World.ownsRow ((w7.setCell ⟨g, 1, none⟩ (.slice a7 NN.length c7)).setRow (g + 2) #[.slice a1 fx.length c1, .slice a7 NN.length c7, .int .i64 b1, .int .i64 b2]) wr.heap.size 37 9 (.slice a7 NN.length c7) NN.length (cellsO NN) := owns_same O8.out (fun k hk => setRow_other _ _ k _ (by have a := (World.ownsRow.lt O8.out k hk).1; have b := Lr.out; omega))
                obtain ⟨a9, c9, e9, ho9, hk9⟩ := OwnO.ops o9
                injection e9 with e91 e92 e93
                subst e91
                subst e93
                exact fun _ _ => ⟨⟨a1, c1, _, _, rfl, H1.out.below (below_setRow B8.out Lg.out _), ho9, hk9⟩, ⟨_, _, _, _, rfl, adr_same, (adr_own o9).less BB.out.size⟩⟩
              clear hop7 hok7 hb7 W7 B7 R7 O8
              go_wp2_with (with_reducible refine wpList_storeBlkH rfl 92 _ _ rfl (g + 2) #[.slice none 0 0, .slice none 0 0, .int .i64 0, .int .i64 0] #[.slice a1 fx.length c1, .slice a7 NN.length c7, .int .i64 b1, .int .i64 b2] ?hxW ?hyW R8.out rfl ?hiW ?h1W ?_)
              try (case hxW => rfl)
              try (case hyW => rfl)
              case hiW => first | kernel_rfl | (refine Option.map_eq_some_iff.1 (?_ : (Tryz.prog.info? 92).map (·.size) = some 4); kernel_rfl)
              case h1W => simp [Value.oneCell']
              unfold Hid
              go_wp2
              exact bodyPost_rowTmp rfl (g + 2) #[.slice a1 fx.length c1, .slice a7 NN.length c7, .int .i64 b1, .int .i64 b2] _ rfl rfl rfl (R8.out.setRow _) _ Tryz.underlying92 rfl (by kernel_rfl) ⟨_, rfl, by rw [← HNN.out]; exact HTV.out _ _, below_setRow B8.out Lg.out _⟩

end Go.Proofs.YtogbkfakihnbdaaGreatDoor
