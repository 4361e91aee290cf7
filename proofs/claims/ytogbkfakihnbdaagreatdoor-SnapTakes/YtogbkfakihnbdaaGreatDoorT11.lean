import Derived.Test.YtogbkfakihnbdaaGreatDoorTV
import Derived.Test.YtogbkfakihnbdaaGreatDoorN11
import Derived.Test.YtogbkfakihnbdaaGreatDoorG
import Derived.Test.YtogbkfakihnbdaaGreatDoorTX
/- The code's place, creates, full (layer 11). -/
namespace Go.Proofs.YtogbkfakihnbdaaGreatDoor
open Go.RowKit
set_option linter.unusedSimpArgs false

set_option maxRecDepth 100000 in
set_option maxHeartbeats 2000000 in
theorem place_any (g f m : Nat) (r : Option Nat) (T : TreeT) (s : Int × Int) (w : World) (h : TreeIn w g f m r T) (hn : T.2.1.length ≤ 60000) :
    Calls Tryz.prog 74 #[.pointer (some ⟨g, 0, none⟩), stampV s] w fun e w' => e = .returned (.tuple #[.int .i64 (lowO s T.2.1 : Int), .bool (dupO s T.2.1)]) ∧ Below w.heap.size w w' := by
  obtain ⟨fx, ops, b⟩ := T
  obtain ⟨sl, st, h1, h2, h3, h4, _⟩ := h.obj
  obtain ⟨a, cap, rfl, hop, _⟩ := OwnO.ops h3
  have CS : Hid (∀ W, Below w.heap.size w W → _) := fun W hW => search_any ops s a ops.length cap W (by simp only at hn; omega) h.ok.sort (hop.below hW)
  obtain ⟨L, hL⟩ : ∃ L, lowO s ops = L := ⟨_, rfl⟩
  obtain ⟨D, hD⟩ : ∃ D, dupO s ops = D := ⟨_, rfl⟩
  obtain ⟨n, hnn⟩ : ∃ n, ops.length = n := ⟨_, rfl⟩
  simp only at hL hD ⊢ CS
  rw [hL, hD] at CS ⊢
  rw [hnn] at CS h2
  obtain ⟨x, y⟩ := s
  simp only [stampV] at CS ⊢
  have e4 : w.cell? ⟨g, 4, none⟩ = some (.slice a n cap) := h2.cell 4
  have hgl := h2.lt
  clear h h2 h3 h4 h1 hop hL hD hnn hn
  have hmix : Tryz.prog.follows .mixedOrders = true := by kernel_rfl
  go_enter Tryz.func74, Tryz.ntmps74
  go_wp2_with fail
  generalize hq : World.alloc w _ = w0 at *
  have hb0 : Below w.heap.size w w0 := by rw [← hq]; exact below_new w _
  have c0 : ∀ p : Beh w0, p.w'.cell? ⟨w.heap.size, 0, none⟩ = some (.int .i64 x) := fun p => p.cell (by rw [← hq]; simp)
  have c1 : ∀ p : Beh w0, p.w'.cell? ⟨w.heap.size, 1, none⟩ = some (.int .i64 y) := fun p => p.cell (by rw [← hq]; simp)
  have c4 : ∀ p : Beh w0, p.w'.cell? ⟨g, 4, none⟩ = some (.slice a n cap) := fun p => p.cell (by rw [hb0.cell (p := ⟨g, 4, none⟩) hgl]; exact e4)
  have CS' : Hid (∀ p : Beh w0, _) := fun p => CS.out p.w' (below_step hb0 (Nat.le_refl _) p.h)
  clear hq CS e4
  have hne_ : Nonempty (Beh w0) := ⟨⟨_, Below.refl _ _⟩⟩
  refine wp_region_quiet_beh (by kernel_rfl) (by kernel_rfl) ?_
  repeat (quiet_step (first | (go_at_call 87; refine Calls.beh_of (CS'.out _))))
  refine wpQuiet_nil ?_
  intro wq hw_
  obtain ⟨⟨wz_, hbq⟩, hw_⟩ := hw_
  subst hw_
  try dsimp only
  clear hne_
  go_wp2_with fail
  go_ret2
  exact ⟨rfl, below_step hb0 (Nat.le_refl _) hbq⟩

set_option maxRecDepth 100000 in
set_option maxHeartbeats 2000000 in
theorem creates_any (g f m : Nat) (r : Option Nat) (T : TreeT) (w : World) (h : TreeIn w g f m r T) (hn : T.2.1.length ≤ 60000) :
    Calls Tryz.prog 100 #[.pointer (some ⟨g, 0, none⟩)] w fun e w' => e = .returned (.int .i64 (creO T.2.1 : Int)) ∧ Below w.heap.size w w' := by
  obtain ⟨fx, ops, b⟩ := T
  obtain ⟨sl, st, h1, h2, h3, h4, _⟩ := h.obj
  obtain ⟨a, cap, rfl, hop, _⟩ := OwnO.ops h3
  obtain ⟨n, hnn⟩ : ∃ n, ops.length = n := ⟨_, rfl⟩
  simp only at hn ⊢
  rw [hnn] at h2 hop hn
  have c4 : w.cell? ⟨g, 4, none⟩ = some (.slice a n cap) := h2.cell 4
  have HO : Hid (OpsAt w a n ops) := hop
  have HN : Hid (ops.length = n) := hnn
  clear h h2 h3 h4 h1 hop hnn
  go_enter Tryz.func100, Tryz.ntmps100
  go_wp2_with fail
  go_loopw [3, 11] (fun i j wr => ∃ k c : Nat, k ≤ n ∧ c ≤ k ∧ i = .int .i64 c ∧ j = .int .i64 k ∧ Hid (creO (ops.take k) = c) ∧ Hid (Below w.heap.size w wr)) (fun _ j _ => n - (intOf j).toNat)
  case atStart => exact ⟨0, 0, Nat.zero_le _, Nat.le_refl _, rfl, rfl, rfl, Below.refl _ _⟩
  case round =>
    obtain ⟨k, c, hk, hc, rfl, rfl, HC, HB⟩ := hrel
    by_cases hlt : k < n
    · have b0 : (k : Int) < (n : Int) := by omega
      have hat := HO.out.below HB.out
      obtain ⟨b, off, rfl, _⟩ := hat.2.some (by omega)
      obtain ⟨x0, x1, x2, x3, x4, x5, x6, x7, x8⟩ := hat.cells k hlt
      have hst : creO (ops.take (k + 1)) = c + (if (oL ops k).1 = 1 then 1 else 0) := by
        rw [oL_get ops k (by rw [HN.out]; exact hlt), List.take_succ_eq_append_getElem (by rw [HN.out]; exact hlt)]
        unfold creO at HC ⊢
        rw [List.countP_append, HC.out]
        simp [List.countP_cons]
      obtain ⟨⟨k0, ⟨k1, k2⟩, ⟨k3, k4⟩, ⟨k5, k6⟩, s7, s8⟩, hkk⟩ : ∃ s, s = oL ops k := ⟨_, rfl⟩
      rw [← hkk] at x0 x1 x2 x3 x4 x5 x6 x7 x8 hst
      simp only at hst
      clear hkk hat
      have HB1 : Hid (∀ o, Below w.heap.size w (wr.alloc o)) := fun o => below_step HB.out (Nat.le_refl _) (below_new _ _)
      by_cases e1 : k0 = 1
      · rw [if_pos e1] at hst
        have HS : Hid (_ = _) := hst
        subst e1
        clear hst
        go_wp2_with fail
        refine ⟨⟨k + 1, c + 1, by omega, by omega, by go_num, by go_num, HS, HB1.out _⟩, ?_⟩
        simp [intOf]; omega
      · rw [if_neg e1, Nat.add_zero] at hst
        have HS : Hid (_ = _) := hst
        clear hst
        go_wp2_with fail
        refine ⟨⟨k + 1, c, by omega, by omega, rfl, by go_num, HS, HB1.out _⟩, ?_⟩
        simp [intOf]; omega
    · obtain rfl : k = n := by omega
      have b0 : ¬ ((k : Int) < (k : Int)) := by omega
      go_wp2_with fail
      go_ret
      refine ⟨?_, HB.out⟩
      rw [← HC.out, List.take_of_length_le (by rw [HN.out]; omega)]
      rfl

set_option maxRecDepth 100000 in
set_option maxHeartbeats 2000000 in
theorem full_any (g f m : Nat) (r : Option Nat) (T : TreeT) (kind : Int) (w : World) (h : TreeIn w g f m r T) (hn : T.1.length + T.2.1.length ≤ 60000) :
    Calls Tryz.prog 91 #[.pointer (some ⟨g, 0, none⟩), .int .i64 kind] w fun e w' => e = .returned (.bool (decide (512 ≤ T.2.1.length ∨ (kind = 1 ∧ 512 ≤ T.1.length + creO T.2.1)))) ∧ Below w.heap.size w w' := by
  obtain ⟨fx, ops, b⟩ := T
  have CC : Hid (Calls _ _ _ _ _) := creates_any g f m r _ w h (by omega)
  obtain ⟨sl, st, h1, h2, h3, h4, _⟩ := h.obj
  obtain ⟨a, cap, rfl, hop, _⟩ := OwnO.ops h3
  have hcl := creO_le ops
  have hlm := mapN_len h4
  obtain ⟨n, hnn⟩ : ∃ n, ops.length = n := ⟨_, rfl⟩
  obtain ⟨q, hq⟩ : ∃ q, fx.length = q := ⟨_, rfl⟩
  obtain ⟨c, hc⟩ : ∃ c, creO ops = c := ⟨_, rfl⟩
  simp only at hn CC ⊢
  rw [hnn, hq] at hn
  rw [hnn, hc] at hcl
  rw [hc] at CC
  rw [hnn, hq, hc]
  rw [hnn] at h2
  rw [hq] at hlm
  have c4 : w.cell? ⟨g, 4, none⟩ = some (.slice a n cap) := h2.cell 4
  have c3 : w.cell? ⟨g, 3, none⟩ = some (.map (some f)) := h2.cell 3
  clear h h2 h3 h4 h1 hop hnn hq hc
  by_cases hb : 512 ≤ n
  · rw [decide_eq_true (Or.inl hb)]
    have b0 : (512 : Int) ≤ (n : Int) := by omega
    go_enter Tryz.func91, Tryz.ntmps91
    go_wp2_with fail
    go_ret
    exact ⟨rfl, Below.refl _ _⟩
  · have b0 : ¬ (512 : Int) ≤ (n : Int) := by omega
    by_cases hk : kind = 1
    · subst hk
      by_cases hf : 512 ≤ q + c
      · rw [decide_eq_true (Or.inr ⟨rfl, hf⟩)]
        have b1 : (512 : Int) ≤ (q : Int) + (c : Int) := by omega
        go_enter Tryz.func91, Tryz.ntmps91
        go_wp2_with fail
        refine CC.out.mono ?_
        rintro e w1 ⟨rfl, hb1⟩
        clear CC
        go_wp2_with fail
        go_ret
        exact ⟨rfl, hb1⟩
      · rw [decide_eq_false (by omega)]
        have b1 : ¬ (512 : Int) ≤ (q : Int) + (c : Int) := by omega
        go_enter Tryz.func91, Tryz.ntmps91
        go_wp2_with fail
        refine CC.out.mono ?_
        rintro e w1 ⟨rfl, hb1⟩
        clear CC
        go_wp2_with fail
        go_ret
        exact ⟨by show Ending.returned (.bool (decide _)) = _; rw [decide_eq_false (by omega)], hb1⟩
    · rw [decide_eq_false (by omega)]
      go_enter Tryz.func91, Tryz.ntmps91
      go_wp2_with fail
      go_ret
      exact ⟨rfl, Below.refl _ _⟩
end Go.Proofs.YtogbkfakihnbdaaGreatDoor

/- The code's isName, hasItsOwn, Check (layer 11). -/
namespace Go.Proofs.YtogbkfakihnbdaaGreatDoor
open Go.RowKit
set_option linter.unusedSimpArgs false

set_option maxHeartbeats 1000000 in
theorem isName_any (s : ByteArray) (D : Bool) (hD : D = true ↔ NameP s) (w : World) (hs : s.size ≤ 1048576) (hG : Glob8 w) :
    Calls Tryz.prog 70 #[.string s] w fun e w' => e = .returned (.bool D) ∧ Below w.heap.size w w' := by
  have C : Hid (Calls _ _ _ _ _) := ncheck_any s w hs hG
  by_cases h : NameP s
  · obtain rfl : D = true := hD.2 h
    have hx : Hid (NameE s 0) := .inl ⟨rfl, h⟩
    clear hG
    go_enter Tryz.func70, Tryz.ntmps70
    go_wp2_with fail
    refine C.out.mono ?_
    rintro e w1 ⟨y, rfl, hy, hb1⟩
    rw [NameE.uniq hy hx.out]
    clear C hy
    go_wp2_with fail
    go_ret
    exact ⟨rfl, hb1⟩
  · obtain rfl : D = false := by
      cases D with
      | false => rfl
      | true => exact absurd (hD.1 rfl) h
    have hx : Hid (NameE s 80) := .inr ⟨rfl, h⟩
    clear hG
    go_enter Tryz.func70, Tryz.ntmps70
    go_wp2_with fail
    refine C.out.mono ?_
    rintro e w1 ⟨y, rfl, hy, hb1⟩
    rw [NameE.uniq hy hx.out]
    clear C hy
    go_wp2_with fail
    go_ret
    exact ⟨rfl, hb1⟩

theorem size_zero (s : ByteArray) : s.size = 0 ↔ s = ⟨#[]⟩ := by
  constructor
  · intro h
    have : s.data = #[] := by
      have : s.data.size = 0 := h
      exact Array.eq_empty_of_size_eq_zero this
    cases s; simp at this; rw [this]
  · rintro rfl; rfl

/-- The fields that an operation's kind asks for, and no others. -/
def OwnF (o : OpT) : Prop :=
  ((o.1 = 1 ∧ o.2.2.1 = o.2.1 ∧ ParS o.2.2.2.1 ∧ NameP o.2.2.2.2.1 ∧ o.2.2.2.2.2.size = 0) ∨
   (o.1 = 2 ∧ ParS o.2.2.2.1 ∧ o.2.2.2.2.1.size = 0 ∧ o.2.2.2.2.2.size = 0) ∨
   (o.1 = 3 ∧ o.2.2.2.1 = (0, 0) ∧ NameP o.2.2.2.2.1 ∧ o.2.2.2.2.2.size = 0) ∨
   (o.1 = 4 ∧ o.2.2.2.1 = (0, 0) ∧ o.2.2.2.2.1.size = 0 ∧ o.2.2.2.2.2.size ≤ 64) ∨
   (o.1 = 5 ∧ o.2.2.2.1 = (0, 0) ∧ o.2.2.2.2.1.size = 0 ∧ o.2.2.2.2.2.size = 0))

theorem own1 (a b c : Int × Int) (s t : ByteArray) : OwnF (1, a, b, c, s, t) ↔ (b = a ∧ ParS c ∧ NameP s ∧ t = ⟨#[]⟩) := by
  unfold OwnF
  simp only [← size_zero]
  constructor
  · rintro (h | h | h | h | h)
    · exact h.2
    · exact absurd h.1 (by decide)
    · exact absurd h.1 (by decide)
    · exact absurd h.1 (by decide)
    · exact absurd h.1 (by decide)
  · exact fun h => .inl ⟨trivial, h⟩

theorem own2 (a b c : Int × Int) (s t : ByteArray) : OwnF (2, a, b, c, s, t) ↔ (ParS c ∧ s = ⟨#[]⟩ ∧ t = ⟨#[]⟩) := by
  unfold OwnF
  simp only [← size_zero]
  constructor
  · rintro (h | h | h | h | h)
    · exact absurd h.1 (by decide)
    · exact h.2
    · exact absurd h.1 (by decide)
    · exact absurd h.1 (by decide)
    · exact absurd h.1 (by decide)
  · exact fun h => .inr (.inl ⟨trivial, h⟩)

theorem own3 (a b c : Int × Int) (s t : ByteArray) : OwnF (3, a, b, c, s, t) ↔ (c = (0, 0) ∧ NameP s ∧ t = ⟨#[]⟩) := by
  unfold OwnF
  simp only [← size_zero]
  constructor
  · rintro (h | h | h | h | h)
    · exact absurd h.1 (by decide)
    · exact absurd h.1 (by decide)
    · exact h.2
    · exact absurd h.1 (by decide)
    · exact absurd h.1 (by decide)
  · exact fun h => .inr (.inr (.inl ⟨trivial, h⟩))

theorem own4 (a b c : Int × Int) (s t : ByteArray) : OwnF (4, a, b, c, s, t) ↔ (c = (0, 0) ∧ s = ⟨#[]⟩ ∧ t.size ≤ 64) := by
  unfold OwnF
  simp only [← size_zero]
  constructor
  · rintro (h | h | h | h | h)
    · exact absurd h.1 (by decide)
    · exact absurd h.1 (by decide)
    · exact absurd h.1 (by decide)
    · exact h.2
    · exact absurd h.1 (by decide)
  · exact fun h => .inr (.inr (.inr (.inl ⟨trivial, h⟩)))

theorem own5 (a b c : Int × Int) (s t : ByteArray) : OwnF (5, a, b, c, s, t) ↔ (c = (0, 0) ∧ s = ⟨#[]⟩ ∧ t = ⟨#[]⟩) := by
  unfold OwnF
  simp only [← size_zero]
  constructor
  · rintro (h | h | h | h | h)
    · exact absurd h.1 (by decide)
    · exact absurd h.1 (by decide)
    · exact absurd h.1 (by decide)
    · exact absurd h.1 (by decide)
    · exact h.2
  · exact fun h => .inr (.inr (.inr (.inr (⟨trivial, h⟩))))

set_option maxRecDepth 100000 in
set_option maxHeartbeats 4000000 in
theorem hasItsOwn_any (o : OpT) (w : World) (hG : Glob8 w) (h7 : o.2.2.2.2.1.size ≤ 1048576) (h8 : o.2.2.2.2.2.size ≤ 9223372036854775807) :
    Calls Tryz.prog 63 #[.agg (opA o)] w fun e w' => ∃ b, e = .returned (.bool b) ∧ (b = true ↔ OwnF o) ∧ Below w.heap.size w w' := by
  obtain ⟨k0, ⟨k1, k2⟩, ⟨k3, k4⟩, ⟨k5, k6⟩, s7, s8⟩ := o
  simp only at h7 h8
  show Calls Tryz.prog _ #[.agg #[.int .i64 k0, .int .i64 k1, .int .i64 k2, .int .i64 k3, .int .i64 k4, .int .i64 k5, .int .i64 k6, .string s7, .string s8]] w _
  have CH : Hid (∀ W, _) := mayHold_any (k5, k6)
  obtain ⟨NB, hNB⟩ : ∃ D : Bool, D = true ↔ NameP s7 := ⟨@decide (NameP s7) (Classical.propDecidable _), by simp⟩
  have CN : Hid (∀ W, Below w.heap.size w W → Calls Tryz.prog 70 #[.string s7] W fun e w' => e = .returned (.bool NB) ∧ Below W.heap.size W w') := fun W hW => isName_any s7 NB hNB W h7 (hG.below hW)
  have CV : Hid (∀ W, _) := fun W => isValue_any s8 W h8
  obtain ⟨PB, hPB⟩ : ∃ D : Bool, decide (ParS (k5, k6)) = D := ⟨_, rfl⟩
  obtain ⟨VB, hVB⟩ : ∃ D : Bool, decide (s8.size ≤ 64) = D := ⟨_, rfl⟩
  rw [hPB] at CH
  rw [hVB] at CV
  simp only [stampV] at CH
  have HNB : Hid (NB = true ↔ NameP s7) := hNB
  have HPB : Hid (PB = true ↔ ParS (k5, k6)) := by show _ ↔ _; rw [← hPB]; simp
  have HVB : Hid (VB = true ↔ s8.size ≤ 64) := by show _ ↔ _; rw [← hVB]; simp
  clear hNB hPB hVB h7 h8 hG
  have HZ : Hid (Blk ((w.alloc (.cells #[.int .i64 k0, .int .i64 k1, .int .i64 k2, .int .i64 k3, .int .i64 k4, .int .i64 k5, .int .i64 k6, .string s7, .string s8] 37)).alloc (.cells #[.int .i64 0, .int .i64 0, .int .i64 0, .int .i64 0, .int .i64 0, .int .i64 0, .int .i64 0, .string ⟨#[]⟩, .string ⟨#[]⟩] 37)) 37 (w.heap.size + 1) #[.int .i64 0, .int .i64 0, .int .i64 0, .int .i64 0, .int .i64 0, .int .i64 0, .int .i64 0, .string ⟨#[]⟩, .string ⟨#[]⟩]) := Blk.new' _ _ _ _ (by simp)
  go_enter Tryz.func63, Tryz.ntmps63
  go_wp2_with (with_reducible refine wpList_storeBlkH rfl 37 _ _ rfl (w.heap.size + 1) #[.int .i64 0, .int .i64 0, .int .i64 0, .int .i64 0, .int .i64 0, .int .i64 0, .int .i64 0, .string ⟨#[]⟩, .string ⟨#[]⟩] #[.int .i64 0, .int .i64 0, .int .i64 0, .int .i64 0, .int .i64 0, .int .i64 k5, .int .i64 k6, .string s7, .string s8] ?hx ?hy HZ.out rfl ?hi ?h1 ?_)
  try (case hx => rfl)
  try (case hy => rfl)
  try (case hi => first | kernel_rfl | (refine Option.map_eq_some_iff.1 (?_ : (Tryz.prog.info? 37).map (·.size) = some 9); kernel_rfl))
  try (case h1 => simp [Value.oneCell'])
  unfold Hid
  obtain ⟨W, hW⟩ : ∃ W, ((w.alloc (.cells #[.int .i64 k0, .int .i64 k1, .int .i64 k2, .int .i64 k3, .int .i64 k4, .int .i64 k5, .int .i64 k6, .string s7, .string s8] 37)).alloc (.cells #[.int .i64 0, .int .i64 0, .int .i64 0, .int .i64 0, .int .i64 0, .int .i64 0, .int .i64 0, .string ⟨#[]⟩, .string ⟨#[]⟩] 37)).setRow (w.heap.size + 1) #[.int .i64 0, .int .i64 0, .int .i64 0, .int .i64 0, .int .i64 0, .int .i64 k5, .int .i64 k6, .string s7, .string s8] = W := ⟨_, rfl⟩
  have KR : Blk W 37 (w.heap.size + 1) #[.int .i64 0, .int .i64 0, .int .i64 0, .int .i64 0, .int .i64 0, .int .i64 k5, .int .i64 k6, .string s7, .string s8] := by rw [← hW]; exact HZ.out.setRow _
  have KO : Blk W 37 w.heap.size #[.int .i64 k0, .int .i64 k1, .int .i64 k2, .int .i64 k3, .int .i64 k4, .int .i64 k5, .int .i64 k6, .string s7, .string s8] := by rw [← hW]; exact ((Blk.new _ _ _).alloc _).setRowOther _ (by omega) _
  have hB : Below w.heap.size w W := by rw [← hW]; exact below_setRow ((below_new w _).alloc (by simp) _) (by omega) _
  rw [hW]
  clear hW HZ
  have d0 : W.cell? ⟨w.heap.size, 0, none⟩ = some (.int .i64 k0) := KO.cell 0
  have d1 : W.cell? ⟨w.heap.size, 1, none⟩ = some (.int .i64 k1) := KO.cell 1
  have d2 : W.cell? ⟨w.heap.size, 2, none⟩ = some (.int .i64 k2) := KO.cell 2
  have d3 : W.cell? ⟨w.heap.size, 3, none⟩ = some (.int .i64 k3) := KO.cell 3
  have d4 : W.cell? ⟨w.heap.size, 4, none⟩ = some (.int .i64 k4) := KO.cell 4
  have d5 : W.cell? ⟨w.heap.size, 5, none⟩ = some (.int .i64 k5) := KO.cell 5
  have d6 : W.cell? ⟨w.heap.size, 6, none⟩ = some (.int .i64 k6) := KO.cell 6
  have d7 : W.cell? ⟨w.heap.size, 7, none⟩ = some (.string s7) := KO.cell 7
  have d8 : W.cell? ⟨w.heap.size, 8, none⟩ = some (.string s8) := KO.cell 8
  have KX := KR
  by_cases e1 : k0 = 1
  · subst e1
    have eA := fun w => stampEq k3 k4 k1 k2 w
    by_cases hA : (k3, k4) = (k1, k2)
    · rw [decide_eq_true hA] at eA
      clear KX
      go_wp2_with fail
      refine (CH.out _).mono ?_
      rintro e W1 ⟨rfl, hb1⟩
      have hB1 := below_step hB (Nat.le_refl _) hb1
      have KX := KR.on hb1
      have f7 : W1.cell? ⟨w.heap.size, 7, none⟩ = some (.string s7) := (KO.on hb1).cell 7
      have hl := KX.lt
      cases PB with
      | false =>
        have hp : Hid (¬ ParS (k5, k6)) := fun h => by have := HPB.out.2 h; cases this
        clear HPB
        have KS0 : Blk W1 37 (w.heap.size + 1) #[.int .i64 0, .int .i64 0, .int .i64 0, .int .i64 0, .int .i64 0, .int .i64 k5, .int .i64 k6, .string s7, .string s8] := KX
        have y0 : W1.cell? ⟨w.heap.size + 1, 5, none⟩ = some (.int .i64 k5) := KS0.cell 5
        have z0 : W1.frozen? ⟨w.heap.size + 1, 5, none⟩ = false := KS0.free 5
        have KS1 := KS0.setAt 5 (.int .i64 0)
        have y1 : (W1.setCell ⟨w.heap.size + 1, 5, none⟩ (.int .i64 0)).cell? ⟨w.heap.size + 1, 6, none⟩ = some (.int .i64 k6) := KS1.cell 6
        have z1 : (W1.setCell ⟨w.heap.size + 1, 5, none⟩ (.int .i64 0)).frozen? ⟨w.heap.size + 1, 6, none⟩ = false := KS1.free 6
        have KS2 := KS1.setAt 6 (.int .i64 0)
        have y2 : ((W1.setCell ⟨w.heap.size + 1, 5, none⟩ (.int .i64 0)).setCell ⟨w.heap.size + 1, 6, none⟩ (.int .i64 0)).cell? ⟨w.heap.size + 1, 7, none⟩ = some (.string s7) := KS2.cell 7
        have z2 : ((W1.setCell ⟨w.heap.size + 1, 5, none⟩ (.int .i64 0)).setCell ⟨w.heap.size + 1, 6, none⟩ (.int .i64 0)).frozen? ⟨w.heap.size + 1, 7, none⟩ = false := KS2.free 7
        have KS3 := KS2.setAt 7 (.string ⟨#[]⟩)
        clear KO KR KX CN CV KS0 KS1 KS2 KS3
        go_wp2_with fail
        go_ret
        refine ⟨false, rfl, ?_, (Below.setCell (Below.setCell (Below.setCell hB1 (p := ⟨w.heap.size + 1, 5, none⟩) (by show _ ≤ w.heap.size + 1; omega) _) (p := ⟨w.heap.size + 1, 6, none⟩) (by show _ ≤ w.heap.size + 1; omega) _) (p := ⟨w.heap.size + 1, 7, none⟩) (by show _ ≤ w.heap.size + 1; omega) _)⟩
        rw [own1]
        exact ⟨fun h => (by cases h), fun h => absurd h.2.1 hp.out⟩
      | true =>
        have hp : Hid (ParS (k5, k6)) := HPB.out.1 rfl
        clear HPB
        go_wp2_with fail
        refine (CN.out _ hB1).mono ?_
        rintro e W2 ⟨rfl, hb2⟩
        have hB2 := below_step hB1 (Nat.le_refl _) hb2
        replace KX := KX.on hb2
        have KS0 : Blk W2 37 (w.heap.size + 1) #[.int .i64 0, .int .i64 0, .int .i64 0, .int .i64 0, .int .i64 0, .int .i64 k5, .int .i64 k6, .string s7, .string s8] := KX
        have y0 : W2.cell? ⟨w.heap.size + 1, 5, none⟩ = some (.int .i64 k5) := KS0.cell 5
        have z0 : W2.frozen? ⟨w.heap.size + 1, 5, none⟩ = false := KS0.free 5
        have KS1 := KS0.setAt 5 (.int .i64 0)
        have y1 : (W2.setCell ⟨w.heap.size + 1, 5, none⟩ (.int .i64 0)).cell? ⟨w.heap.size + 1, 6, none⟩ = some (.int .i64 k6) := KS1.cell 6
        have z1 : (W2.setCell ⟨w.heap.size + 1, 5, none⟩ (.int .i64 0)).frozen? ⟨w.heap.size + 1, 6, none⟩ = false := KS1.free 6
        have KS2 := KS1.setAt 6 (.int .i64 0)
        have y2 : ((W2.setCell ⟨w.heap.size + 1, 5, none⟩ (.int .i64 0)).setCell ⟨w.heap.size + 1, 6, none⟩ (.int .i64 0)).cell? ⟨w.heap.size + 1, 7, none⟩ = some (.string s7) := KS2.cell 7
        have z2 : ((W2.setCell ⟨w.heap.size + 1, 5, none⟩ (.int .i64 0)).setCell ⟨w.heap.size + 1, 6, none⟩ (.int .i64 0)).frozen? ⟨w.heap.size + 1, 7, none⟩ = false := KS2.free 7
        have KS3 := KS2.setAt 7 (.string ⟨#[]⟩)
        cases NB with
        | false =>
          have hq : Hid (¬ NameP s7) := fun h => by have := HNB.out.2 h; cases this
          clear HNB
          clear KO KR KX CV KS0 KS1 KS2 KS3
          go_wp2_with fail
          go_ret
          refine ⟨false, rfl, ?_, (Below.setCell (Below.setCell (Below.setCell hB2 (p := ⟨w.heap.size + 1, 5, none⟩) (by show _ ≤ w.heap.size + 1; omega) _) (p := ⟨w.heap.size + 1, 6, none⟩) (by show _ ≤ w.heap.size + 1; omega) _) (p := ⟨w.heap.size + 1, 7, none⟩) (by show _ ≤ w.heap.size + 1; omega) _)⟩
          rw [own1]
          exact ⟨fun h => (by cases h), fun h => absurd h.2.2.1 hq.out⟩
        | true =>
          have hq : Hid (NameP s7) := HNB.out.1 rfl
          clear HNB
          have HA : Hid ((k3, k4) = (k1, k2)) := hA
          clear hA
          have r0 : (((W2.setCell ⟨w.heap.size + 1, 5, none⟩ (.int .i64 0)).setCell ⟨w.heap.size + 1, 6, none⟩ (.int .i64 0)).setCell ⟨w.heap.size + 1, 7, none⟩ (.string ⟨#[]⟩)).cell? ⟨w.heap.size + 1, 0, none⟩ = some (.int .i64 0) := KS3.cell 0
          have r1 : (((W2.setCell ⟨w.heap.size + 1, 5, none⟩ (.int .i64 0)).setCell ⟨w.heap.size + 1, 6, none⟩ (.int .i64 0)).setCell ⟨w.heap.size + 1, 7, none⟩ (.string ⟨#[]⟩)).cell? ⟨w.heap.size + 1, 1, none⟩ = some (.int .i64 0) := KS3.cell 1
          have r2 : (((W2.setCell ⟨w.heap.size + 1, 5, none⟩ (.int .i64 0)).setCell ⟨w.heap.size + 1, 6, none⟩ (.int .i64 0)).setCell ⟨w.heap.size + 1, 7, none⟩ (.string ⟨#[]⟩)).cell? ⟨w.heap.size + 1, 2, none⟩ = some (.int .i64 0) := KS3.cell 2
          have r3 : (((W2.setCell ⟨w.heap.size + 1, 5, none⟩ (.int .i64 0)).setCell ⟨w.heap.size + 1, 6, none⟩ (.int .i64 0)).setCell ⟨w.heap.size + 1, 7, none⟩ (.string ⟨#[]⟩)).cell? ⟨w.heap.size + 1, 3, none⟩ = some (.int .i64 0) := KS3.cell 3
          have r4 : (((W2.setCell ⟨w.heap.size + 1, 5, none⟩ (.int .i64 0)).setCell ⟨w.heap.size + 1, 6, none⟩ (.int .i64 0)).setCell ⟨w.heap.size + 1, 7, none⟩ (.string ⟨#[]⟩)).cell? ⟨w.heap.size + 1, 4, none⟩ = some (.int .i64 0) := KS3.cell 4
          have r5 : (((W2.setCell ⟨w.heap.size + 1, 5, none⟩ (.int .i64 0)).setCell ⟨w.heap.size + 1, 6, none⟩ (.int .i64 0)).setCell ⟨w.heap.size + 1, 7, none⟩ (.string ⟨#[]⟩)).cell? ⟨w.heap.size + 1, 5, none⟩ = some (.int .i64 0) := KS3.cell 5
          have r6 : (((W2.setCell ⟨w.heap.size + 1, 5, none⟩ (.int .i64 0)).setCell ⟨w.heap.size + 1, 6, none⟩ (.int .i64 0)).setCell ⟨w.heap.size + 1, 7, none⟩ (.string ⟨#[]⟩)).cell? ⟨w.heap.size + 1, 6, none⟩ = some (.int .i64 0) := KS3.cell 6
          have r7 : (((W2.setCell ⟨w.heap.size + 1, 5, none⟩ (.int .i64 0)).setCell ⟨w.heap.size + 1, 6, none⟩ (.int .i64 0)).setCell ⟨w.heap.size + 1, 7, none⟩ (.string ⟨#[]⟩)).cell? ⟨w.heap.size + 1, 7, none⟩ = some (.string ⟨#[]⟩) := KS3.cell 7
          have r8 : (((W2.setCell ⟨w.heap.size + 1, 5, none⟩ (.int .i64 0)).setCell ⟨w.heap.size + 1, 6, none⟩ (.int .i64 0)).setCell ⟨w.heap.size + 1, 7, none⟩ (.string ⟨#[]⟩)).cell? ⟨w.heap.size + 1, 8, none⟩ = some (.string s8) := KS3.cell 8
          have q := fun w => opEq (0, (0, 0), (0, 0), (0, 0), ⟨#[]⟩, s8) (0, (0, 0), (0, 0), (0, 0), ⟨#[]⟩, ⟨#[]⟩) w
          simp only [opA] at q
          obtain ⟨D, hD⟩ : ∃ D : Bool, decide (((0 : Int), ((0 : Int), (0 : Int)), ((0 : Int), (0 : Int)), ((0 : Int), (0 : Int)), (⟨#[]⟩ : ByteArray), s8) = (0, (0, 0), (0, 0), (0, 0), ⟨#[]⟩, ⟨#[]⟩)) = D := ⟨_, rfl⟩
          rw [hD] at q
          clear KO KR KX KS0 KS1 KS2 KS3
          go_wp2_with fail
          go_ret
          refine ⟨D, rfl, ?_, (Below.setCell (Below.setCell (Below.setCell hB2 (p := ⟨w.heap.size + 1, 5, none⟩) (by show _ ≤ w.heap.size + 1; omega) _) (p := ⟨w.heap.size + 1, 6, none⟩) (by show _ ≤ w.heap.size + 1; omega) _) (p := ⟨w.heap.size + 1, 7, none⟩) (by show _ ≤ w.heap.size + 1; omega) _)⟩
          rw [← hD]
          rw [own1, decide_eq_true_iff]
          simp only [Prod.mk.injEq, and_true, true_and]
          exact ⟨fun h => ⟨(by have := HA.out; simp only [Prod.mk.injEq] at this; exact this), hp.out, hq.out, h⟩, fun h => h.2.2.2⟩
    · rw [decide_eq_false hA] at eA
      have HA : Hid (¬ (k3, k4) = (k1, k2)) := hA
      clear hA
      have KS0 : Blk W 37 (w.heap.size + 1) #[.int .i64 0, .int .i64 0, .int .i64 0, .int .i64 0, .int .i64 0, .int .i64 k5, .int .i64 k6, .string s7, .string s8] := KX
      have y0 : W.cell? ⟨w.heap.size + 1, 5, none⟩ = some (.int .i64 k5) := KS0.cell 5
      have z0 : W.frozen? ⟨w.heap.size + 1, 5, none⟩ = false := KS0.free 5
      have KS1 := KS0.setAt 5 (.int .i64 0)
      have y1 : (W.setCell ⟨w.heap.size + 1, 5, none⟩ (.int .i64 0)).cell? ⟨w.heap.size + 1, 6, none⟩ = some (.int .i64 k6) := KS1.cell 6
      have z1 : (W.setCell ⟨w.heap.size + 1, 5, none⟩ (.int .i64 0)).frozen? ⟨w.heap.size + 1, 6, none⟩ = false := KS1.free 6
      have KS2 := KS1.setAt 6 (.int .i64 0)
      have y2 : ((W.setCell ⟨w.heap.size + 1, 5, none⟩ (.int .i64 0)).setCell ⟨w.heap.size + 1, 6, none⟩ (.int .i64 0)).cell? ⟨w.heap.size + 1, 7, none⟩ = some (.string s7) := KS2.cell 7
      have z2 : ((W.setCell ⟨w.heap.size + 1, 5, none⟩ (.int .i64 0)).setCell ⟨w.heap.size + 1, 6, none⟩ (.int .i64 0)).frozen? ⟨w.heap.size + 1, 7, none⟩ = false := KS2.free 7
      have KS3 := KS2.setAt 7 (.string ⟨#[]⟩)
      clear KO KR KX CN CV CH KS0 KS1 KS2 KS3
      go_wp2_with fail
      go_ret
      refine ⟨false, rfl, ?_, (Below.setCell (Below.setCell (Below.setCell hB (p := ⟨w.heap.size + 1, 5, none⟩) (by show _ ≤ w.heap.size + 1; omega) _) (p := ⟨w.heap.size + 1, 6, none⟩) (by show _ ≤ w.heap.size + 1; omega) _) (p := ⟨w.heap.size + 1, 7, none⟩) (by show _ ≤ w.heap.size + 1; omega) _)⟩
      rw [own1]
      exact ⟨fun h => (by cases h), fun h => absurd h.1 HA.out⟩
  by_cases e2 : k0 = 2
  · subst e2
    clear KX
    go_wp2_with fail
    refine (CH.out _).mono ?_
    rintro e W1 ⟨rfl, hb1⟩
    have hB1 := below_step hB (Nat.le_refl _) hb1
    have KX := KR.on hb1
    have hl := KX.lt
    have KS0 : Blk W1 37 (w.heap.size + 1) #[.int .i64 0, .int .i64 0, .int .i64 0, .int .i64 0, .int .i64 0, .int .i64 k5, .int .i64 k6, .string s7, .string s8] := KX
    have y0 : W1.cell? ⟨w.heap.size + 1, 5, none⟩ = some (.int .i64 k5) := KS0.cell 5
    have z0 : W1.frozen? ⟨w.heap.size + 1, 5, none⟩ = false := KS0.free 5
    have KS1 := KS0.setAt 5 (.int .i64 0)
    have y1 : (W1.setCell ⟨w.heap.size + 1, 5, none⟩ (.int .i64 0)).cell? ⟨w.heap.size + 1, 6, none⟩ = some (.int .i64 k6) := KS1.cell 6
    have z1 : (W1.setCell ⟨w.heap.size + 1, 5, none⟩ (.int .i64 0)).frozen? ⟨w.heap.size + 1, 6, none⟩ = false := KS1.free 6
    have KS2 := KS1.setAt 6 (.int .i64 0)
    cases PB with
    | false =>
      have hp : Hid (¬ ParS (k5, k6)) := fun h => by have := HPB.out.2 h; cases this
      clear HPB
      clear KO KR KX CN CV KS0 KS1 KS2
      go_wp2_with fail
      go_ret
      refine ⟨false, rfl, ?_, (Below.setCell (Below.setCell hB1 (p := ⟨w.heap.size + 1, 5, none⟩) (by show _ ≤ w.heap.size + 1; omega) _) (p := ⟨w.heap.size + 1, 6, none⟩) (by show _ ≤ w.heap.size + 1; omega) _)⟩
      rw [own2]
      exact ⟨fun h => (by cases h), fun h => absurd h.1 hp.out⟩
    | true =>
      have hp : Hid (ParS (k5, k6)) := HPB.out.1 rfl
      clear HPB
      have r0 : ((W1.setCell ⟨w.heap.size + 1, 5, none⟩ (.int .i64 0)).setCell ⟨w.heap.size + 1, 6, none⟩ (.int .i64 0)).cell? ⟨w.heap.size + 1, 0, none⟩ = some (.int .i64 0) := KS2.cell 0
      have r1 : ((W1.setCell ⟨w.heap.size + 1, 5, none⟩ (.int .i64 0)).setCell ⟨w.heap.size + 1, 6, none⟩ (.int .i64 0)).cell? ⟨w.heap.size + 1, 1, none⟩ = some (.int .i64 0) := KS2.cell 1
      have r2 : ((W1.setCell ⟨w.heap.size + 1, 5, none⟩ (.int .i64 0)).setCell ⟨w.heap.size + 1, 6, none⟩ (.int .i64 0)).cell? ⟨w.heap.size + 1, 2, none⟩ = some (.int .i64 0) := KS2.cell 2
      have r3 : ((W1.setCell ⟨w.heap.size + 1, 5, none⟩ (.int .i64 0)).setCell ⟨w.heap.size + 1, 6, none⟩ (.int .i64 0)).cell? ⟨w.heap.size + 1, 3, none⟩ = some (.int .i64 0) := KS2.cell 3
      have r4 : ((W1.setCell ⟨w.heap.size + 1, 5, none⟩ (.int .i64 0)).setCell ⟨w.heap.size + 1, 6, none⟩ (.int .i64 0)).cell? ⟨w.heap.size + 1, 4, none⟩ = some (.int .i64 0) := KS2.cell 4
      have r5 : ((W1.setCell ⟨w.heap.size + 1, 5, none⟩ (.int .i64 0)).setCell ⟨w.heap.size + 1, 6, none⟩ (.int .i64 0)).cell? ⟨w.heap.size + 1, 5, none⟩ = some (.int .i64 0) := KS2.cell 5
      have r6 : ((W1.setCell ⟨w.heap.size + 1, 5, none⟩ (.int .i64 0)).setCell ⟨w.heap.size + 1, 6, none⟩ (.int .i64 0)).cell? ⟨w.heap.size + 1, 6, none⟩ = some (.int .i64 0) := KS2.cell 6
      have r7 : ((W1.setCell ⟨w.heap.size + 1, 5, none⟩ (.int .i64 0)).setCell ⟨w.heap.size + 1, 6, none⟩ (.int .i64 0)).cell? ⟨w.heap.size + 1, 7, none⟩ = some (.string s7) := KS2.cell 7
      have r8 : ((W1.setCell ⟨w.heap.size + 1, 5, none⟩ (.int .i64 0)).setCell ⟨w.heap.size + 1, 6, none⟩ (.int .i64 0)).cell? ⟨w.heap.size + 1, 8, none⟩ = some (.string s8) := KS2.cell 8
      have q := fun w => opEq (0, (0, 0), (0, 0), (0, 0), s7, s8) (0, (0, 0), (0, 0), (0, 0), ⟨#[]⟩, ⟨#[]⟩) w
      simp only [opA] at q
      obtain ⟨D, hD⟩ : ∃ D : Bool, decide (((0 : Int), ((0 : Int), (0 : Int)), ((0 : Int), (0 : Int)), ((0 : Int), (0 : Int)), s7, s8) = (0, (0, 0), (0, 0), (0, 0), ⟨#[]⟩, ⟨#[]⟩)) = D := ⟨_, rfl⟩
      rw [hD] at q
      clear KO KR KX KS0 KS1 KS2
      go_wp2_with fail
      go_ret
      refine ⟨D, rfl, ?_, (Below.setCell (Below.setCell hB1 (p := ⟨w.heap.size + 1, 5, none⟩) (by show _ ≤ w.heap.size + 1; omega) _) (p := ⟨w.heap.size + 1, 6, none⟩) (by show _ ≤ w.heap.size + 1; omega) _)⟩
      rw [← hD]
      rw [own2, decide_eq_true_iff]
      simp only [Prod.mk.injEq, and_true, true_and]
      exact ⟨fun h => ⟨hp.out, h⟩, fun h => h.2⟩
  by_cases e3 : k0 = 3
  · subst e3
    clear KX
    go_wp2_with fail
    refine (CN.out _ hB).mono ?_
    rintro e W1 ⟨rfl, hb1⟩
    have hB1 := below_step hB (Nat.le_refl _) hb1
    have KX := KR.on hb1
    have hl := KX.lt
    have KS0 : Blk W1 37 (w.heap.size + 1) #[.int .i64 0, .int .i64 0, .int .i64 0, .int .i64 0, .int .i64 0, .int .i64 k5, .int .i64 k6, .string s7, .string s8] := KX
    have y0 : W1.cell? ⟨w.heap.size + 1, 7, none⟩ = some (.string s7) := KS0.cell 7
    have z0 : W1.frozen? ⟨w.heap.size + 1, 7, none⟩ = false := KS0.free 7
    have KS1 := KS0.setAt 7 (.string ⟨#[]⟩)
    cases NB with
    | false =>
      have hq : Hid (¬ NameP s7) := fun h => by have := HNB.out.2 h; cases this
      clear HNB
      clear KO KR KX CH CV KS0 KS1
      go_wp2_with fail
      go_ret
      refine ⟨false, rfl, ?_, (Below.setCell hB1 (p := ⟨w.heap.size + 1, 7, none⟩) (by show _ ≤ w.heap.size + 1; omega) _)⟩
      rw [own3]
      exact ⟨fun h => (by cases h), fun h => absurd h.2.1 hq.out⟩
    | true =>
      have hq : Hid (NameP s7) := HNB.out.1 rfl
      clear HNB
      have r0 : (W1.setCell ⟨w.heap.size + 1, 7, none⟩ (.string ⟨#[]⟩)).cell? ⟨w.heap.size + 1, 0, none⟩ = some (.int .i64 0) := KS1.cell 0
      have r1 : (W1.setCell ⟨w.heap.size + 1, 7, none⟩ (.string ⟨#[]⟩)).cell? ⟨w.heap.size + 1, 1, none⟩ = some (.int .i64 0) := KS1.cell 1
      have r2 : (W1.setCell ⟨w.heap.size + 1, 7, none⟩ (.string ⟨#[]⟩)).cell? ⟨w.heap.size + 1, 2, none⟩ = some (.int .i64 0) := KS1.cell 2
      have r3 : (W1.setCell ⟨w.heap.size + 1, 7, none⟩ (.string ⟨#[]⟩)).cell? ⟨w.heap.size + 1, 3, none⟩ = some (.int .i64 0) := KS1.cell 3
      have r4 : (W1.setCell ⟨w.heap.size + 1, 7, none⟩ (.string ⟨#[]⟩)).cell? ⟨w.heap.size + 1, 4, none⟩ = some (.int .i64 0) := KS1.cell 4
      have r5 : (W1.setCell ⟨w.heap.size + 1, 7, none⟩ (.string ⟨#[]⟩)).cell? ⟨w.heap.size + 1, 5, none⟩ = some (.int .i64 k5) := KS1.cell 5
      have r6 : (W1.setCell ⟨w.heap.size + 1, 7, none⟩ (.string ⟨#[]⟩)).cell? ⟨w.heap.size + 1, 6, none⟩ = some (.int .i64 k6) := KS1.cell 6
      have r7 : (W1.setCell ⟨w.heap.size + 1, 7, none⟩ (.string ⟨#[]⟩)).cell? ⟨w.heap.size + 1, 7, none⟩ = some (.string ⟨#[]⟩) := KS1.cell 7
      have r8 : (W1.setCell ⟨w.heap.size + 1, 7, none⟩ (.string ⟨#[]⟩)).cell? ⟨w.heap.size + 1, 8, none⟩ = some (.string s8) := KS1.cell 8
      have q := fun w => opEq (0, (0, 0), (0, 0), (k5, k6), ⟨#[]⟩, s8) (0, (0, 0), (0, 0), (0, 0), ⟨#[]⟩, ⟨#[]⟩) w
      simp only [opA] at q
      obtain ⟨D, hD⟩ : ∃ D : Bool, decide (((0 : Int), ((0 : Int), (0 : Int)), ((0 : Int), (0 : Int)), (k5, k6), (⟨#[]⟩ : ByteArray), s8) = (0, (0, 0), (0, 0), (0, 0), ⟨#[]⟩, ⟨#[]⟩)) = D := ⟨_, rfl⟩
      rw [hD] at q
      clear KO KR KX KS0 KS1
      go_wp2_with fail
      go_ret
      refine ⟨D, rfl, ?_, (Below.setCell hB1 (p := ⟨w.heap.size + 1, 7, none⟩) (by show _ ≤ w.heap.size + 1; omega) _)⟩
      rw [← hD]
      rw [own3, decide_eq_true_iff]
      simp only [Prod.mk.injEq, and_true, true_and]
      exact ⟨fun h => ⟨h.1, hq.out, h.2⟩, fun h => ⟨h.1, h.2.2⟩⟩
  by_cases e4 : k0 = 4
  · subst e4
    clear KX
    go_wp2_with fail
    refine (CV.out _).mono ?_
    rintro e W1 ⟨rfl, rfl⟩
    have KX := KR
    have hl := KX.lt
    have KS0 : Blk W1 37 (w.heap.size + 1) #[.int .i64 0, .int .i64 0, .int .i64 0, .int .i64 0, .int .i64 0, .int .i64 k5, .int .i64 k6, .string s7, .string s8] := KX
    have y0 : W1.cell? ⟨w.heap.size + 1, 8, none⟩ = some (.string s8) := KS0.cell 8
    have z0 : W1.frozen? ⟨w.heap.size + 1, 8, none⟩ = false := KS0.free 8
    have KS1 := KS0.setAt 8 (.string ⟨#[]⟩)
    cases VB with
    | false =>
      have hv : Hid (¬ s8.size ≤ 64) := fun h => by have := HVB.out.2 h; cases this
      clear HVB
      clear KO KR KX CH CN KS0 KS1
      go_wp2_with fail
      go_ret
      refine ⟨false, rfl, ?_, (Below.setCell hB (p := ⟨w.heap.size + 1, 8, none⟩) (by show _ ≤ w.heap.size + 1; omega) _)⟩
      rw [own4]
      exact ⟨fun h => (by cases h), fun h => absurd h.2.2 hv.out⟩
    | true =>
      have hv : Hid (s8.size ≤ 64) := HVB.out.1 rfl
      clear HVB
      have r0 : (W1.setCell ⟨w.heap.size + 1, 8, none⟩ (.string ⟨#[]⟩)).cell? ⟨w.heap.size + 1, 0, none⟩ = some (.int .i64 0) := KS1.cell 0
      have r1 : (W1.setCell ⟨w.heap.size + 1, 8, none⟩ (.string ⟨#[]⟩)).cell? ⟨w.heap.size + 1, 1, none⟩ = some (.int .i64 0) := KS1.cell 1
      have r2 : (W1.setCell ⟨w.heap.size + 1, 8, none⟩ (.string ⟨#[]⟩)).cell? ⟨w.heap.size + 1, 2, none⟩ = some (.int .i64 0) := KS1.cell 2
      have r3 : (W1.setCell ⟨w.heap.size + 1, 8, none⟩ (.string ⟨#[]⟩)).cell? ⟨w.heap.size + 1, 3, none⟩ = some (.int .i64 0) := KS1.cell 3
      have r4 : (W1.setCell ⟨w.heap.size + 1, 8, none⟩ (.string ⟨#[]⟩)).cell? ⟨w.heap.size + 1, 4, none⟩ = some (.int .i64 0) := KS1.cell 4
      have r5 : (W1.setCell ⟨w.heap.size + 1, 8, none⟩ (.string ⟨#[]⟩)).cell? ⟨w.heap.size + 1, 5, none⟩ = some (.int .i64 k5) := KS1.cell 5
      have r6 : (W1.setCell ⟨w.heap.size + 1, 8, none⟩ (.string ⟨#[]⟩)).cell? ⟨w.heap.size + 1, 6, none⟩ = some (.int .i64 k6) := KS1.cell 6
      have r7 : (W1.setCell ⟨w.heap.size + 1, 8, none⟩ (.string ⟨#[]⟩)).cell? ⟨w.heap.size + 1, 7, none⟩ = some (.string s7) := KS1.cell 7
      have r8 : (W1.setCell ⟨w.heap.size + 1, 8, none⟩ (.string ⟨#[]⟩)).cell? ⟨w.heap.size + 1, 8, none⟩ = some (.string ⟨#[]⟩) := KS1.cell 8
      have q := fun w => opEq (0, (0, 0), (0, 0), (k5, k6), s7, ⟨#[]⟩) (0, (0, 0), (0, 0), (0, 0), ⟨#[]⟩, ⟨#[]⟩) w
      simp only [opA] at q
      obtain ⟨D, hD⟩ : ∃ D : Bool, decide (((0 : Int), ((0 : Int), (0 : Int)), ((0 : Int), (0 : Int)), (k5, k6), s7, (⟨#[]⟩ : ByteArray)) = (0, (0, 0), (0, 0), (0, 0), ⟨#[]⟩, ⟨#[]⟩)) = D := ⟨_, rfl⟩
      rw [hD] at q
      clear KO KR KX KS0 KS1
      go_wp2_with fail
      go_ret
      refine ⟨D, rfl, ?_, (Below.setCell hB (p := ⟨w.heap.size + 1, 8, none⟩) (by show _ ≤ w.heap.size + 1; omega) _)⟩
      rw [← hD]
      rw [own4, decide_eq_true_iff]
      simp only [Prod.mk.injEq, and_true, true_and]
      exact ⟨fun h => ⟨h.1, h.2, hv.out⟩, fun h => ⟨h.1, h.2.1⟩⟩
  by_cases e5 : k0 = 5
  · subst e5
    have r0 : W.cell? ⟨w.heap.size + 1, 0, none⟩ = some (.int .i64 0) := KR.cell 0
    have r1 : W.cell? ⟨w.heap.size + 1, 1, none⟩ = some (.int .i64 0) := KR.cell 1
    have r2 : W.cell? ⟨w.heap.size + 1, 2, none⟩ = some (.int .i64 0) := KR.cell 2
    have r3 : W.cell? ⟨w.heap.size + 1, 3, none⟩ = some (.int .i64 0) := KR.cell 3
    have r4 : W.cell? ⟨w.heap.size + 1, 4, none⟩ = some (.int .i64 0) := KR.cell 4
    have r5 : W.cell? ⟨w.heap.size + 1, 5, none⟩ = some (.int .i64 k5) := KR.cell 5
    have r6 : W.cell? ⟨w.heap.size + 1, 6, none⟩ = some (.int .i64 k6) := KR.cell 6
    have r7 : W.cell? ⟨w.heap.size + 1, 7, none⟩ = some (.string s7) := KR.cell 7
    have r8 : W.cell? ⟨w.heap.size + 1, 8, none⟩ = some (.string s8) := KR.cell 8
    have q := fun w => opEq (0, (0, 0), (0, 0), (k5, k6), s7, s8) (0, (0, 0), (0, 0), (0, 0), ⟨#[]⟩, ⟨#[]⟩) w
    simp only [opA] at q
    obtain ⟨D, hD⟩ : ∃ D : Bool, decide (((0 : Int), ((0 : Int), (0 : Int)), ((0 : Int), (0 : Int)), (k5, k6), s7, s8) = (0, (0, 0), (0, 0), (0, 0), ⟨#[]⟩, ⟨#[]⟩)) = D := ⟨_, rfl⟩
    rw [hD] at q
    clear KO KR KX 
    go_wp2_with fail
    go_ret
    refine ⟨D, rfl, ?_, hB⟩
    rw [← hD]
    rw [own5, decide_eq_true_iff]
    simp only [Prod.mk.injEq, and_true, true_and]
  · have E : Hid (¬ k0 = 1 ∧ ¬ k0 = 2 ∧ ¬ k0 = 3 ∧ ¬ k0 = 4 ∧ ¬ k0 = 5) := ⟨e1, e2, e3, e4, e5⟩
    clear KO KR KX CN CV CH
    go_wp2_with fail
    go_ret
    refine ⟨false, rfl, ⟨fun h => (by cases h), fun h => ?_⟩, hB⟩
    rcases h with h | h | h | h | h
    · exact absurd h.1 E.out.1
    · exact absurd h.1 E.out.2.1
    · exact absurd h.1 E.out.2.2.1
    · exact absurd h.1 E.out.2.2.2.1
    · exact absurd h.1 E.out.2.2.2.2
end Go.Proofs.YtogbkfakihnbdaaGreatDoor

/- The code's Check, Apply (layer 11). -/
namespace Go.Proofs.YtogbkfakihnbdaaGreatDoor
open Go.RowKit
set_option linter.unusedSimpArgs false

set_option maxRecDepth 100000 in
set_option maxHeartbeats 2000000 in
theorem check_any (M : OpT → Bool) (hM : ∀ o, M o = true ↔ MayO o) (o : OpT) (w : World) (hG : Glob8 w) (h7 : o.2.2.2.2.1.size ≤ 1048576) (h8 : o.2.2.2.2.2.size ≤ 9223372036854775807) :
    Calls Tryz.prog 39 #[.agg (opA o)] w fun e w' => e = .returned (.int .i64 (if M o = true then 0 else 1)) ∧ Below w.heap.size w w' := by
  have HM : Hid (M o = true ↔ (MayS o.2.1 ∧ MayS o.2.2.1 ∧ OwnF o)) := hM o
  have CO : Hid (∀ W, Below w.heap.size w W → Calls _ _ _ _ _) := fun W hW => hasItsOwn_any o W (hG.below hW) h7 h8
  obtain ⟨X, hX⟩ : ∃ X : Int, (if M o = true then 0 else 1) = X := ⟨_, rfl⟩
  rw [hX]
  have HX : Hid ((if M o = true then (0 : Int) else 1) = X) := hX
  clear hX hG h7 h8 hM
  obtain ⟨k0, ⟨k1, k2⟩, ⟨k3, k4⟩, ⟨k5, k6⟩, s7, s8⟩ := o
  have CA : Hid (∀ W, _) := isStamp_any (k1, k2)
  have CB : Hid (∀ W, _) := isStamp_any (k3, k4)
  obtain ⟨A, hA⟩ : ∃ A : Bool, decide (MayS (k1, k2)) = A := ⟨_, rfl⟩
  obtain ⟨B, hB⟩ : ∃ B : Bool, decide (MayS (k3, k4)) = B := ⟨_, rfl⟩
  rw [hA] at CA
  rw [hB] at CB
  have HA : Hid (A = true ↔ MayS (k1, k2)) := by show _ ↔ _; rw [← hA]; simp
  have HB : Hid (B = true ↔ MayS (k3, k4)) := by show _ ↔ _; rw [← hB]; simp
  simp only [stampV] at CA CB
  simp only [opA] at CO
  show Calls Tryz.prog _ #[.agg #[.int .i64 k0, .int .i64 k1, .int .i64 k2, .int .i64 k3, .int .i64 k4, .int .i64 k5, .int .i64 k6, .string s7, .string s8]] w _
  clear hA hB
  go_enter Tryz.func39, Tryz.ntmps39
  go_wp2_with fail
  refine (CA.out _).mono ?_
  rintro e W ⟨rfl, hb1⟩
  have KO := (Blk.new w 37 #[.int .i64 k0, .int .i64 k1, .int .i64 k2, .int .i64 k3, .int .i64 k4, .int .i64 k5, .int .i64 k6, .string s7, .string s8]).on hb1
  have hBw := below_step (below_new w _) (Nat.le_refl _) hb1
  clear CA hb1
  have d0 : W.cell? ⟨w.heap.size, 0, none⟩ = some (.int .i64 k0) := KO.cell 0
  have d1 : W.cell? ⟨w.heap.size, 1, none⟩ = some (.int .i64 k1) := KO.cell 1
  have d2 : W.cell? ⟨w.heap.size, 2, none⟩ = some (.int .i64 k2) := KO.cell 2
  have d3 : W.cell? ⟨w.heap.size, 3, none⟩ = some (.int .i64 k3) := KO.cell 3
  have d4 : W.cell? ⟨w.heap.size, 4, none⟩ = some (.int .i64 k4) := KO.cell 4
  have d5 : W.cell? ⟨w.heap.size, 5, none⟩ = some (.int .i64 k5) := KO.cell 5
  have d6 : W.cell? ⟨w.heap.size, 6, none⟩ = some (.int .i64 k6) := KO.cell 6
  have d7 : W.cell? ⟨w.heap.size, 7, none⟩ = some (.string s7) := KO.cell 7
  have d8 : W.cell? ⟨w.heap.size, 8, none⟩ = some (.string s8) := KO.cell 8
  cases A with
  | false =>
    have hx : X = 1 := by
      have h := HX.out
      rw [if_neg (fun h => by have := HA.out.2 (HM.out.1 h).1; cases this)] at h; exact h.symm
    subst hx
    clear KO CB CO HM HX HA HB
    go_wp2_with fail
    go_ret
    exact ⟨rfl, hBw⟩
  | true =>
    clear d1 d2
    go_wp2_with fail
    refine (CB.out _).mono ?_
    rintro e W2 ⟨rfl, hb2⟩
    replace KO := KO.on hb2
    replace hBw := below_step hBw (Nat.le_refl _) hb2
    clear CB hb2 d0 d3 d4 d5 d6 d7 d8
    obtain ⟨W, rfl⟩ : ∃ W, W = W2 := ⟨_, rfl⟩
    have d0 : W.cell? ⟨w.heap.size, 0, none⟩ = some (.int .i64 k0) := KO.cell 0
    have d1 : W.cell? ⟨w.heap.size, 1, none⟩ = some (.int .i64 k1) := KO.cell 1
    have d2 : W.cell? ⟨w.heap.size, 2, none⟩ = some (.int .i64 k2) := KO.cell 2
    have d3 : W.cell? ⟨w.heap.size, 3, none⟩ = some (.int .i64 k3) := KO.cell 3
    have d4 : W.cell? ⟨w.heap.size, 4, none⟩ = some (.int .i64 k4) := KO.cell 4
    have d5 : W.cell? ⟨w.heap.size, 5, none⟩ = some (.int .i64 k5) := KO.cell 5
    have d6 : W.cell? ⟨w.heap.size, 6, none⟩ = some (.int .i64 k6) := KO.cell 6
    have d7 : W.cell? ⟨w.heap.size, 7, none⟩ = some (.string s7) := KO.cell 7
    have d8 : W.cell? ⟨w.heap.size, 8, none⟩ = some (.string s8) := KO.cell 8
    cases B with
    | false =>
      have hx : X = 1 := by
        have h := HX.out
        rw [if_neg (fun h => by have := HB.out.2 (HM.out.1 h).2.1; cases this)] at h; exact h.symm
      subst hx
      clear KO CO HM HX HA HB
      go_wp2_with fail
      go_ret
      exact ⟨rfl, hBw⟩
    | true =>
      clear KO
      go_wp2_with fail
      refine (CO.out _ hBw).mono ?_
      rintro e W3 ⟨b, rfl, hb, hb3⟩
      replace hBw := below_step hBw (Nat.le_refl _) hb3
      have hx : X = if b = true then 0 else 1 := by
        rw [← HX.out]
        have : M (k0, (k1, k2), (k3, k4), (k5, k6), s7, s8) = true ↔ b = true := by rw [HM.out, hb]; exact ⟨fun h => h.2.2, fun h => ⟨HA.out.1 (by first | trivial | rfl), HB.out.1 (by first | trivial | rfl), h⟩⟩
        by_cases h : b = true
        · rw [if_pos h, if_pos (this.2 h)]
        · rw [if_neg h, if_neg (fun k => h (this.1 k))]
      subst hx
      clear CO hb3 hb HM HX HA HB d0 d1 d2 d3 d4 d5 d6 d7 d8
      cases b with
      | false =>
        go_wp2_with fail
        go_ret
        exact ⟨rfl, hBw⟩
      | true =>
        go_wp2_with fail
        go_ret
        exact ⟨rfl, hBw⟩
end Go.Proofs.YtogbkfakihnbdaaGreatDoor

/- The code's Apply (layer 11). -/
namespace Go.Proofs.YtogbkfakihnbdaaGreatDoor
open Go.RowKit
set_option linter.unusedSimpArgs false

set_option maxRecDepth 100000 in
set_option maxHeartbeats 4000000 in
theorem apply_any (M : OpT → Bool) (hM : ∀ o, M o = true ↔ MayO o) (g f m : Nat) (r : Option Nat) (T : TreeT) (o : OpT) (w : World) (h : TreeIn w g f m r T) (hG : Glob8 w) (hn : T.1.length + T.2.1.length ≤ 50000) (h7 : o.2.2.2.2.1.size ≤ 1048576) (h8 : o.2.2.2.2.2.size ≤ 9223372036854775807) :
    Calls Tryz.prog 75 #[.pointer (some ⟨g, 0, none⟩), .agg (opA o)] w fun e w' => e = .returned (.int .i64 (applyP M T o).2) ∧ ∃ r', TreeIn w' g f m r' (applyP M T o).1 ∧ KeptF (tfoot g f m r) w w' ∧ Nx w r r' := by
  have HT : Hid (TreeIn w g f m r T) := h
  obtain ⟨AT, hAT⟩ : ∃ AT, applyP M T o = AT := ⟨_, rfl⟩
  have HAT : Hid (applyP M T o = AT) := hAT
  rw [hAT]
  obtain ⟨sl, st, h1, h2, h3, h4, ms, h5, h6⟩ := h.obj
  have CC : Hid (∀ W, Below w.heap.size w W → Calls _ _ _ _ _) := fun W hW => check_any M hM o W (hG.below hW) h7 h8
  have CG : Hid (∀ W, Below w.heap.size w W → _) := fun W hW => given_any g W sl T.2.2 f m st (h2.on hW)
  have CP : Hid (∀ W, Below w.heap.size w W → _) := fun W hW => place_any g f m r T o.2.1 W (h.on hW) (by omega)
  have CF : Hid (∀ W, Below w.heap.size w W → _) := fun W hW => full_any g f m r T o.1 W (h.on hW) (by omega)
  have CL : Hid (∀ W, _) := less_any T.2.2 o.2.1
  have HOK := hM o
  obtain ⟨fx, ops, b1, b2⟩ := T
  obtain ⟨k0, ⟨k1, k2⟩, ⟨k3, k4⟩, ⟨k5, k6⟩, s7, s8⟩ := o
  obtain ⟨W0, hW0⟩ : ∃ W0, w.alloc (.cells #[.int .i64 k0, .int .i64 k1, .int .i64 k2, .int .i64 k3, .int .i64 k4, .int .i64 k5, .int .i64 k6, .string s7, .string s8] 37) = W0 := ⟨_, rfl⟩
  have HW0 : Hid (w.alloc (.cells #[.int .i64 k0, .int .i64 k1, .int .i64 k2, .int .i64 k3, .int .i64 k4, .int .i64 k5, .int .i64 k6, .string s7, .string s8] 37) = W0) := hW0
  have hB0 : Below w.heap.size w W0 := by rw [← hW0]; exact below_new _ _
  have K0 : Blk W0 37 w.heap.size #[.int .i64 k0, .int .i64 k1, .int .i64 k2, .int .i64 k3, .int .i64 k4, .int .i64 k5, .int .i64 k6, .string s7, .string s8] := by rw [← hW0]; exact Blk.new _ _ _
  have HB2 : Hid (Blk w 101 g (treeC g f m sl (b1, b2) st)) := h2
  have HK0 : Hid (∀ W, Below W0.heap.size W0 W → Blk W 37 w.heap.size #[.int .i64 k0, .int .i64 k1, .int .i64 k2, .int .i64 k3, .int .i64 k4, .int .i64 k5, .int .i64 k6, .string s7, .string s8]) := fun W hW => K0.on hW
  have HSS : Hid (∀ W, Below W0.heap.size W0 W → (W.cell? ⟨g, 1, none⟩ = some (.int .i64 b1) ∧ W.cell? ⟨g, 2, none⟩ = some (.int .i64 b2)) ∧ (W.cell? ⟨w.heap.size, 0, none⟩ = some (.int .i64 k0) ∧ W.cell? ⟨w.heap.size, 1, none⟩ = some (.int .i64 k1) ∧ W.cell? ⟨w.heap.size, 2, none⟩ = some (.int .i64 k2) ∧ W.cell? ⟨w.heap.size, 3, none⟩ = some (.int .i64 k3) ∧ W.cell? ⟨w.heap.size, 4, none⟩ = some (.int .i64 k4) ∧ W.cell? ⟨w.heap.size, 5, none⟩ = some (.int .i64 k5) ∧ W.cell? ⟨w.heap.size, 6, none⟩ = some (.int .i64 k6) ∧ W.cell? ⟨w.heap.size, 7, none⟩ = some (.string s7) ∧ W.cell? ⟨w.heap.size, 8, none⟩ = some (.string s8))) := fun W hW => by
    have a := K0.on hW
    have b := (h2.on hB0).on hW
    exact ⟨⟨b.cell 1, b.cell 2⟩, a.cell 0, a.cell 1, a.cell 2, a.cell 3, a.cell 4, a.cell 5, a.cell 6, a.cell 7, a.cell 8⟩
  simp only [stampV, opA] at CC CP CF CL
  show Calls Tryz.prog _ #[_, .agg #[.int .i64 k0, .int .i64 k1, .int .i64 k2, .int .i64 k3, .int .i64 k4, .int .i64 k5, .int .i64 k6, .string s7, .string s8]] w _
  obtain ⟨L, hL⟩ : ∃ L : Bool, decide (LessS (b1, b2) (k1, k2)) = L := ⟨_, rfl⟩
  rw [hL] at CL
  have HL : Hid (L = true ↔ LessS (b1, b2) (k1, k2)) := by show _ ↔ _; rw [← hL]; simp
  obtain ⟨D, hD⟩ : ∃ D : Bool, dupO (k1, k2) ops = D := ⟨_, rfl⟩
  obtain ⟨P, hP⟩ : ∃ P, lowO (k1, k2) ops = P := ⟨_, rfl⟩
  rw [hD, hP] at CP
  have HD : Hid (dupO (k1, k2) ops = D) := hD
  have HP : Hid (lowO (k1, k2) ops = P) := hP
  obtain ⟨F, hF⟩ : ∃ F : Bool, decide (512 ≤ ops.length ∨ (k0 = 1 ∧ 512 ≤ fx.length + creO ops)) = F := ⟨_, rfl⟩
  rw [hF] at CF
  have HF : Hid (F = true ↔ (512 ≤ ops.length ∨ (k0 = 1 ∧ 512 ≤ fx.length + creO ops))) := by show _ ↔ _; rw [← hF]; simp
  clear hL hD hP hF
  have hBd := hB0.drew
  have hS0 := HSS.out W0 (Below.refl _ _)
  have HN : Hid (fx.length + ops.length ≤ 50000) := hn
  have K0' : Hid (w.heap.size < W0.heap.size) := K0.lt
  have HO : Hid (OwnO w 0 sl ops) := h3
  have HF' : Hid (MapN w f fx) := h4
  have HM' : Hid (MapN w m ms) := h5
  have HR : Hid (sl.ownBlock = r) := h1
  clear h h1 h2 h3 h4 h5 h6 hW0 hAT hn h7 h8 hG hM K0
  go_enter Tryz.func75, Tryz.ntmps75
  go_wp2_with fail
  rw [HW0.out]
  refine wp_region_noPanic ?_
  refine wp_region_held_drew (S := fun W => (W.cell? ⟨g, 1, none⟩ = some (.int .i64 b1) ∧ W.cell? ⟨g, 2, none⟩ = some (.int .i64 b2)) ∧ (W.cell? ⟨w.heap.size, 0, none⟩ = some (.int .i64 k0) ∧ W.cell? ⟨w.heap.size, 1, none⟩ = some (.int .i64 k1) ∧ W.cell? ⟨w.heap.size, 2, none⟩ = some (.int .i64 k2) ∧ W.cell? ⟨w.heap.size, 3, none⟩ = some (.int .i64 k3) ∧ W.cell? ⟨w.heap.size, 4, none⟩ = some (.int .i64 k4) ∧ W.cell? ⟨w.heap.size, 5, none⟩ = some (.int .i64 k5) ∧ W.cell? ⟨w.heap.size, 6, none⟩ = some (.int .i64 k6) ∧ W.cell? ⟨w.heap.size, 7, none⟩ = some (.string s7) ∧ W.cell? ⟨w.heap.size, 8, none⟩ = some (.string s8))) (by kernel_rfl) (by first | exact trivial | assumption | exact ⟨by assumption, by assumption⟩) (fun hHeld => ?_)
  refine tk 0 (v := ?_) rfl rfl ?_ ?_
  rotate_left
  · intro w hSw; (try dsimp only at hSw); go_simp; try with_reducible rfl
  try simp only [Act.put, za, zb, zc]
  refine wpAnyH_ready (rs := [1]) (by kernel_rfl) (by simp) ?_
  refine AllReadyH.cons rfl (fun K hK => ?_) AllReadyH.nil
  go_simp
  refine (CG.out _ hBd).mono ?_
  rintro e w1 ⟨rfl, rfl⟩
  refine hK.out _ _ (HSS.out _ (Below.refl _ _).drew) (fun hHeld => ?_)
  clear hK K
  refine tk 2 (v := ?_) rfl rfl ?_ ?_
  rotate_left
  · intro w hSw; (try dsimp only at hSw); go_simp; try with_reducible rfl
  try simp only [Act.put, za, zb, zc]
  refine tk 3 (v := ?_) rfl rfl ?_ ?_
  rotate_left
  · intro w hSw; (try dsimp only at hSw); go_simp; try with_reducible rfl
  try simp only [Act.put, za, zb, zc]
  refine tk 4 (v := ?_) rfl rfl ?_ ?_
  rotate_left
  · intro w hSw; (try dsimp only at hSw); go_simp; try with_reducible rfl
  try simp only [Act.put, za, zb, zc]
  refine wpAnyH_ready (rs := [5]) (by kernel_rfl) (by simp) ?_
  refine AllReadyH.cons rfl (fun K hK => ?_) AllReadyH.nil
  go_simp
  refine (CC.out _ hBd).mono ?_
  rintro e w2 ⟨rfl, hb2⟩
  have hBn : Below W0.heap.size W0 w2 := below_step (Below.refl _ _).drew (Nat.le_refl _) hb2
  clear CC CG hb2 hBd
  refine hK.out _ _ (HSS.out _ hBn) (fun hHeld => ?_)
  clear hK K
  cases hm : M (k0, (k1, k2), (k3, k4), (k5, k6), s7, s8) with
  | false =>
    have hat : AT = ((fx, ops, b1, b2), 1) := by rw [← HAT.out]; unfold applyP; rw [if_pos (.inl hm)]
    subst hat
    clear CP CF CL HOK HN
    rw [if_neg (by simp)]
    refine tk 6 (v := ?_) rfl rfl ?_ ?_
    rotate_left
    · intro w hSw; (try dsimp only at hSw); go_simp; try with_reducible rfl
    try simp only [Act.put, za, zb, zc]
    refine tk 7 (v := ?_) rfl rfl ?_ ?_
    rotate_left
    · intro w hSw; (try dsimp only at hSw); go_simp; try with_reducible rfl
    try simp only [Act.put, za, zb, zc]
    refine tk 8 (v := ?_) rfl rfl ?_ ?_
    rotate_left
    · intro w hSw; (try dsimp only at hSw); go_simp; try with_reducible rfl
    try simp only [Act.put, za, zb, zc]
    refine tn 9 rfl rfl ?_
    try simp only [Act.put, za, zb, zc]
    refine tn 10 rfl rfl ?_
    try simp only [Act.put, za, zb, zc]
    refine tn 11 rfl rfl ?_
    try simp only [Act.put, za, zb, zc]
    refine tn 12 rfl rfl ?_
    try simp only [Act.put, za, zb, zc]
    refine tn 13 rfl rfl ?_
    try simp only [Act.put, za, zb, zc]
    refine tn 14 rfl rfl ?_
    try simp only [Act.put, za, zb, zc]
    refine tn 15 rfl rfl ?_
    try simp only [Act.put, za, zb, zc]
    refine tn 16 rfl rfl ?_
    try simp only [Act.put, za, zb, zc]
    refine tk 17 (v := ?_) rfl rfl ?_ ?_
    rotate_left
    · intro w hSw; (try dsimp only at hSw); go_simp; try with_reducible rfl
    try simp only [Act.put, za, zb, zc]
    refine wpAnyH_done (by kernel_rfl) (NoPanic.normal ?_) _
    go_wp2_with fail
    go_ret
    exact ⟨rfl, r, HT.out.on (below_step hB0 (Nat.le_refl _) hBn), KeptF.ofBelow _ (below_step hB0 (Nat.le_refl _) hBn), fun k hk => .inl hk⟩
  | true =>
    rw [if_pos rfl]
    refine tk 6 (v := ?_) rfl rfl ?_ ?_
    rotate_left
    · intro w hSw; (try dsimp only at hSw); go_simp; try with_reducible rfl
    try simp only [Act.put, za, zb, zc]
    refine tk 7 (v := ?_) rfl rfl ?_ ?_
    rotate_left
    · intro w hSw; (try dsimp only at hSw); go_simp; try with_reducible rfl
    try simp only [Act.put, za, zb, zc]
    refine tk 8 (v := ?_) rfl rfl ?_ ?_
    rotate_left
    · intro w hSw; (try dsimp only at hSw); go_simp; try with_reducible rfl
    try simp only [Act.put, za, zb, zc]
    refine tk 9 (v := ?_) rfl rfl ?_ ?_
    rotate_left
    · intro w hSw; (try dsimp only at hSw); go_simp; try with_reducible rfl
    try simp only [Act.put, za, zb, zc]
    refine tk 10 (v := ?_) rfl rfl ?_ ?_
    rotate_left
    · intro w hSw; (try dsimp only at hSw); go_simp; try with_reducible rfl
    try simp only [Act.put, za, zb, zc]
    refine tk 11 (v := ?_) rfl rfl ?_ ?_
    rotate_left
    · intro w hSw; (try dsimp only at hSw); go_simp; try with_reducible rfl
    try simp only [Act.put, za, zb, zc]
    refine tk 12 (v := ?_) rfl rfl ?_ ?_
    rotate_left
    · intro w hSw; (try dsimp only at hSw); go_simp; try with_reducible rfl
    try simp only [Act.put, za, zb, zc]
    refine tk 13 (v := ?_) rfl rfl ?_ ?_
    rotate_left
    · intro w hSw; (try dsimp only at hSw); go_simp; try with_reducible rfl
    try simp only [Act.put, za, zb, zc]
    refine tk 14 (v := ?_) rfl rfl ?_ ?_
    rotate_left
    · intro w hSw; (try dsimp only at hSw); go_simp; try with_reducible rfl
    try simp only [Act.put, za, zb, zc]
    refine wpAnyH_ready (rs := [15]) (by kernel_rfl) (by simp) ?_
    refine AllReadyH.cons rfl (fun K hK => ?_) AllReadyH.nil
    go_simp
    refine (CL.out _).mono ?_
    rintro e w3 ⟨rfl, hb3⟩
    replace hBn := below_step hBn (Nat.le_refl _) hb3
    clear CL hb3
    refine hK.out _ _ (HSS.out _ hBn) (fun hHeld => ?_)
    clear hK K
    cases L with
    | false =>
      have hat : AT = ((fx, ops, b1, b2), 1) := by rw [← HAT.out]; unfold applyP; rw [if_pos (.inr (fun h => by have := HL.out.2 h; cases this))]
      subst hat
      clear CP CF HOK HN HL
      refine tk 16 (v := ?_) rfl rfl ?_ ?_
      rotate_left
      · intro w hSw; (try dsimp only at hSw); go_simp; try with_reducible rfl
      try simp only [Act.put, za, zb, zc]
      refine tk 17 (v := ?_) rfl rfl ?_ ?_
      rotate_left
      · intro w hSw; (try dsimp only at hSw); go_simp; try with_reducible rfl
      try simp only [Act.put, za, zb, zc]
      refine wpAnyH_done (by kernel_rfl) (NoPanic.normal ?_) _
      go_wp2_with fail
      go_ret
      exact ⟨rfl, r, HT.out.on (below_step hB0 (Nat.le_refl _) hBn), KeptF.ofBelow _ (below_step hB0 (Nat.le_refl _) hBn), fun k hk => .inl hk⟩
    | true =>
      have hls : LessS (b1, b2) (k1, k2) := HL.out.1 rfl
      have HLS : Hid (LessS (b1, b2) (k1, k2)) := hls
      clear hls HL
      refine tk 16 (v := ?_) rfl rfl ?_ ?_
      rotate_left
      · intro w hSw; (try dsimp only at hSw); go_simp; try with_reducible rfl
      try simp only [Act.put, za, zb, zc]
      refine tk 17 (v := ?_) rfl rfl ?_ ?_
      rotate_left
      · intro w hSw; (try dsimp only at hSw); go_simp; try with_reducible rfl
      try simp only [Act.put, za, zb, zc]
      refine wpAnyH_done (by kernel_rfl) (NoPanic.normal ?_) _
      obtain ⟨_, d0, d1, d2, d3, d4, d5, d6, d7, d8⟩ := HSS.out _ hBn
      go_wp2_with fail
      refine (CP.out _ (below_step hB0 (Nat.le_refl _) hBn)).mono ?_
      rintro e w4 ⟨rfl, hb4⟩
      replace hBn := below_step hBn (Nat.le_refl _) hb4
      clear CP hb4 d0 d1 d2 d3 d4 d5 d6 d7 d8
      have hmn : ¬ (M (k0, (k1, k2), (k3, k4), (k5, k6), s7, s8) = false ∨ ¬ LessS (b1, b2) (k1, k2)) := fun h => by
        rcases h with h | h
        · rw [hm] at h; cases h
        · exact h HLS.out
      have HMN : Hid (¬ (M (k0, (k1, k2), (k3, k4), (k5, k6), s7, s8) = false ∨ ¬ LessS (b1, b2) (k1, k2))) := hmn
      clear hmn
      cases D with
      | true =>
        have hat : AT = ((fx, ops, b1, b2), 0) := by rw [← HAT.out]; unfold applyP; rw [if_neg HMN.out, if_pos HD.out]
        subst hat
        clear CF HOK HN HMN HD
        go_wp2_with fail
        go_ret
        exact ⟨rfl, r, HT.out.on (below_step hB0 (Nat.le_refl _) hBn), KeptF.ofBelow _ (below_step hB0 (Nat.le_refl _) hBn), fun k hk => .inl hk⟩
      | false =>
        obtain ⟨_, d0, d1, d2, d3, d4, d5, d6, d7, d8⟩ := HSS.out _ hBn
        go_wp2_with fail
        refine (CF.out _ (below_step hB0 (Nat.le_refl _) hBn)).mono ?_
        rintro e w5 ⟨rfl, hb5⟩
        replace hBn := below_step hBn (Nat.le_refl _) hb5
        clear CF hb5 d0 d1 d2 d3 d4 d5 d6 d7 d8
        have HDN : Hid (¬ dupO (k1, k2) ops = true) := fun h => by rw [HD.out] at h; cases h
        cases F with
        | true =>
          have hat : AT = ((fx, ops, b1, b2), 2) := by rw [← HAT.out]; unfold applyP; rw [if_neg HMN.out, if_neg HDN.out, if_pos (HF.out.1 (by first | trivial | rfl))]
          subst hat
          clear HOK HN HMN HD HF
          go_wp2_with fail
          go_ret
          exact ⟨rfl, r, HT.out.on (below_step hB0 (Nat.le_refl _) hBn), KeptF.ofBelow _ (below_step hB0 (Nat.le_refl _) hBn), fun k hk => .inl hk⟩
        | false =>
          have hat : AT = ((fx, putO (k0, (k1, k2), (k3, k4), (k5, k6), s7, s8) ops, b1, b2), 0) := by
            rw [← HAT.out]; unfold applyP; rw [if_neg HMN.out, if_neg HDN.out, if_neg (fun h => by have := HF.out.2 h; cases this)]
          subst hat
          clear HMN HF
          have HTT : Hid (∀ W, Blk W 37 w.heap.size #[.int .i64 k0, .int .i64 k1, .int .i64 k2, .int .i64 k3, .int .i64 k4, .int .i64 k5, .int .i64 k6, .string s7, .string s8] → (W.cell? ⟨w.heap.size, 0, none⟩ = some (.int .i64 k0) ∧ W.cell? ⟨w.heap.size, 1, none⟩ = some (.int .i64 k1) ∧ W.cell? ⟨w.heap.size, 2, none⟩ = some (.int .i64 k2) ∧ W.cell? ⟨w.heap.size, 3, none⟩ = some (.int .i64 k3) ∧ W.cell? ⟨w.heap.size, 4, none⟩ = some (.int .i64 k4) ∧ W.cell? ⟨w.heap.size, 5, none⟩ = some (.int .i64 k5) ∧ W.cell? ⟨w.heap.size, 6, none⟩ = some (.int .i64 k6) ∧ W.cell? ⟨w.heap.size, 7, none⟩ = some (.string s7) ∧ W.cell? ⟨w.heap.size, 8, none⟩ = some (.string s8))) := fun W a => ⟨a.cell 0, a.cell 1, a.cell 2, a.cell 3, a.cell 4, a.cell 5, a.cell 6, a.cell 7, a.cell 8⟩
          clear HSS hS0
          go_wp2_with fail
          have hS : w5.drew.cell? ⟨g, 4, none⟩ = some sl := ((HB2.out.on hB0).on hBn.drew).cell 4
          have hT : (w5.drew.cell? ⟨w.heap.size, 0, none⟩ = some (.int .i64 k0) ∧ w5.drew.cell? ⟨w.heap.size, 1, none⟩ = some (.int .i64 k1) ∧ w5.drew.cell? ⟨w.heap.size, 2, none⟩ = some (.int .i64 k2) ∧ w5.drew.cell? ⟨w.heap.size, 3, none⟩ = some (.int .i64 k3) ∧ w5.drew.cell? ⟨w.heap.size, 4, none⟩ = some (.int .i64 k4) ∧ w5.drew.cell? ⟨w.heap.size, 5, none⟩ = some (.int .i64 k5) ∧ w5.drew.cell? ⟨w.heap.size, 6, none⟩ = some (.int .i64 k6) ∧ w5.drew.cell? ⟨w.heap.size, 7, none⟩ = some (.string s7) ∧ w5.drew.cell? ⟨w.heap.size, 8, none⟩ = some (.string s8)) := HTT.out _ (HK0.out _ hBn.drew)
          refine wp_region_noPanic ?_
          refine till_begin 8 (fun W => W.cell? ⟨g, 4, none⟩ = some sl) (fun W => (W.cell? ⟨w.heap.size, 0, none⟩ = some (.int .i64 k0) ∧ W.cell? ⟨w.heap.size, 1, none⟩ = some (.int .i64 k1) ∧ W.cell? ⟨w.heap.size, 2, none⟩ = some (.int .i64 k2) ∧ W.cell? ⟨w.heap.size, 3, none⟩ = some (.int .i64 k3) ∧ W.cell? ⟨w.heap.size, 4, none⟩ = some (.int .i64 k4) ∧ W.cell? ⟨w.heap.size, 5, none⟩ = some (.int .i64 k5) ∧ W.cell? ⟨w.heap.size, 6, none⟩ = some (.int .i64 k6) ∧ W.cell? ⟨w.heap.size, 7, none⟩ = some (.string s7) ∧ W.cell? ⟨w.heap.size, 8, none⟩ = some (.string s8))) (by kernel_rfl) ?_
          refine till_take (i := 0) (v := ?_) rfl rfl (by kernel_rfl) (by kernel_rfl) (by kernel_rfl) rfl (fun _ _ _ h => h) (Or.inl ⟨by rfl, ?_⟩) (by assumption) (fun _ => by assumption) ?_
          rotate_left
          · intro w hSw; (try dsimp only at hSw); go_simp; try with_reducible rfl
          try simp only [Act.put, za, zb, zc]
          refine till_take (i := 1) (v := ?_) rfl rfl (by kernel_rfl) (by kernel_rfl) (by kernel_rfl) rfl (fun _ _ _ h => h) (Or.inl ⟨by rfl, ?_⟩) (by assumption) (fun _ => by assumption) ?_
          rotate_left
          · intro w hSw; (try dsimp only at hSw); go_simp; try with_reducible rfl
          try simp only [Act.put, za, zb, zc]
          refine till_take (i := 2) (v := ?_) rfl rfl (by kernel_rfl) (by kernel_rfl) (by kernel_rfl) rfl (fun _ _ _ h => h) (Or.inl ⟨by rfl, ?_⟩) (by assumption) (fun _ => by assumption) ?_
          rotate_left
          · intro w hSw; (try dsimp only at hSw); go_simp; try with_reducible rfl
          try simp only [Act.put, za, zb, zc]
          refine till_take (i := 3) (v := ?_) rfl rfl (by kernel_rfl) (by kernel_rfl) (by kernel_rfl) rfl (fun _ _ _ h => h) (Or.inl ⟨by rfl, ?_⟩) (by assumption) (fun _ => by assumption) ?_
          rotate_left
          · intro w hSw; (try dsimp only at hSw); go_simp; try with_reducible rfl
          try simp only [Act.put, za, zb, zc]
          refine till_take (i := 5) (v := ?_) rfl rfl (by kernel_rfl) (by kernel_rfl) (by kernel_rfl) rfl (fun _ _ _ h => h) (Or.inl ⟨by rfl, ?_⟩) (by assumption) (fun _ => by assumption) ?_
          rotate_left
          · intro w hSw; (try dsimp only at hSw); go_simp; try with_reducible rfl
          try simp only [Act.put, za, zb, zc]
          refine till_take (i := 6) (v := ?_) rfl rfl (by kernel_rfl) (by kernel_rfl) (by kernel_rfl) rfl (fun _ _ _ h => h) (Or.inl ⟨by rfl, ?_⟩) (by assumption) (fun _ => by assumption) ?_
          rotate_left
          · intro w hSw; (try dsimp only at hSw); go_simp; try with_reducible rfl
          try simp only [Act.put, za, zb, zc]
          refine till_take' (i := 4) (v := ?_) rfl rfl (by kernel_rfl) (by kernel_rfl) (by kernel_rfl) rfl (by kernel_rfl) (by kernel_rfl) (fun _ _ _ h => h) (Or.inl ⟨by rfl, ?_⟩) (by assumption) (by assumption) ?_
          rotate_left
          · intro w hSw; (try dsimp only at hSw); go_simp; try with_reducible rfl
          try simp only [Act.put, za, zb, zc]
          refine till_step (i := 7) (by kernel_rfl) rfl (fun K hK => ?_)
          go_simp
          have hB6 : Below W0.heap.size W0 (w5.alloc (.cells #[.int .i64 k0, .int .i64 k1, .int .i64 k2, .int .i64 k3, .int .i64 k4, .int .i64 k5, .int .i64 k6, .string s7, .string s8] 37)).drew := (below_step hBn (Nat.le_refl _) (below_new _ _)).drew
          have KV : Blk (w5.alloc (.cells #[.int .i64 k0, .int .i64 k1, .int .i64 k2, .int .i64 k3, .int .i64 k4, .int .i64 k5, .int .i64 k6, .string s7, .string s8] 37)).drew 37 w5.heap.size #[.int .i64 k0, .int .i64 k1, .int .i64 k2, .int .i64 k3, .int .i64 k4, .int .i64 k5, .int .i64 k6, .string s7, .string s8] := (Blk.new w5 _ _).on (Below.refl _ _).drew
          have hvb : w.heap.size < w5.heap.size := by have := hBn.size; have := K0'.out; omega
          obtain ⟨w6, hw6⟩ : ∃ w6, (w5.alloc (.cells #[.int .i64 k0, .int .i64 k1, .int .i64 k2, .int .i64 k3, .int .i64 k4, .int .i64 k5, .int .i64 k6, .string s7, .string s8] 37)).drew = w6 := ⟨_, rfl⟩
          rw [hw6] at hB6 KV ⊢
          obtain ⟨vb, hv⟩ : ∃ vb, w5.heap.size = vb := ⟨_, rfl⟩
          rw [hv] at KV hvb ⊢
          clear hw6 hv hS hT
          refine hK.out _ _ (HTT.out _ (HK0.out _ hB6)) (fun _ => ((HB2.out.on hB0).on hB6).cell 4) ?_
          clear hK K
          have hB6w : Below w.heap.size w w6 := below_step hB0 (Nat.le_refl _) hB6
          have hO6 : OwnO w6 0 sl ops := own_on2 HO.out hB6w
          have hsb : ∀ k, sl.ownBlock = some k → k < w.heap.size := fun k hk => (World.ownsRow.lt HO.out k hk).2
          have CI : Hid (Calls _ _ _ _ _) := insert_any ops (k0, (k1, k2), (k3, k4), (k5, k6), s7, s8) P (by rw [← HP.out]; exact List.findIdx_le_length) sl vb w6 hO6 (by have := HN.out; omega) KV (fun e => by have := hsb _ e; omega)
          have hrf : ∀ k, sl.ownBlock = some k → k ≠ f := fun k hk => own_map HO.out HF'.out hk
          have hrm : ∀ k, sl.ownBlock = some k → k ≠ m := fun k hk => own_map HO.out HM'.out hk
          have hrg : ∀ k, sl.ownBlock = some k → k ≠ g := fun k hk => own_blk HO.out HB2.out hk
          refine till_step (i := 8) (by kernel_rfl) rfl (fun K hK => ?_)
          go_simp
          refine CI.out.mono ?_
          rintro e w7 ⟨sl', rfl, hO7, hg7, hx7⟩
          obtain ⟨a', n', c', rfl⟩ : ∃ a' n' c', sl' = Value.slice a' n' c' := by
            obtain ⟨a, c, e, _⟩ := OwnO.ops hO7
            exact ⟨_, _, _, e⟩
          have hB7 : Blk w7 101 g (treeC g f m sl (b1, b2) st) := (HB2.out.on hB6w).grown hg7 (fun e => hrg _ e.symm rfl)
          have hK7 : Blk w7 37 w.heap.size #[.int .i64 k0, .int .i64 k1, .int .i64 k2, .int .i64 k3, .int .i64 k4, .int .i64 k5, .int .i64 k6, .string s7, .string s8] := (HK0.out _ hB6).grown hg7 (fun e => by have := hsb _ e.symm; omega)
          have hF7 : MapN w7 f fx := (HF'.out.on hB6w).grown hg7 (fun e => hrf _ e.symm rfl)
          have hM7 : MapN w7 m ms := (HM'.out.on hB6w).grown hg7 (fun e => hrm _ e.symm rfl)
          have hKF : KeptF (tfoot g f m r) w w7 := (KeptF.ofBelow _ hB6w).grown hg7 (fun j e _ => .inr (.inr (.inr (by rw [← HR.out]; exact e.symm))))
          clear CI hg7 KV hO6
          refine hK.out _ _ (HTT.out _ hK7) (fun h => till_no (by kernel_rfl) h) ?_
          clear hK K
          have hT := HTT.out _ hK7
          refine till_take (i := 9) (v := ?_) rfl rfl (by kernel_rfl) (by kernel_rfl) (by kernel_rfl) rfl (fun _ _ _ h => h) (Or.inl ⟨by rfl, ?_⟩) (by assumption) (fun h => till_no (by kernel_rfl) h) ?_
          rotate_left
          · intro w hSw; (try dsimp only at hSw); go_simp; try with_reducible rfl
          try simp only [Act.put, za, zb, zc]
          refine till_take (i := 10) (v := ?_) rfl rfl (by kernel_rfl) (by kernel_rfl) (by kernel_rfl) rfl (fun _ _ _ h => h) (Or.inl ⟨by rfl, ?_⟩) (by assumption) (fun h => till_no (by kernel_rfl) h) ?_
          rotate_left
          · intro w hSw; (try dsimp only at hSw); go_simp; try with_reducible rfl
          try simp only [Act.put, za, zb, zc]
          have c4 : w7.cell? ⟨g, 4, none⟩ = some sl := hB7.cell 4
          have z4 : w7.frozen? ⟨g, 4, none⟩ = false := hB7.free 4
          refine till_step (i := 11) (by kernel_rfl) rfl (fun K hK => ?_)
          go_simp
          have hT8 := HTT.out _ (show Blk (w7.setCell ⟨g, 4, none⟩ (Value.slice a' n' c')) 37 w.heap.size #[.int .i64 k0, .int .i64 k1, .int .i64 k2, .int .i64 k3, .int .i64 k4, .int .i64 k5, .int .i64 k6, .string s7, .string s8] from hK7.grown (grown_set w7 g 4 (Value.slice a' n' c')) (fun e => by have := HB2.out.lt; cases e; omega))
          have B8 : Blk (w7.setCell ⟨g, 4, none⟩ (Value.slice a' n' c')) 101 g (treeC g f m (Value.slice a' n' c') (b1, b2) st) := hB7.setAt 4 (Value.slice a' n' c')
          refine hK.out _ _ hT8 (fun h => till_no (by kernel_rfl) h) ?_
          clear hK K
          refine till_done (by kernel_rfl) (NoPanic.normal ?_) _
          have hsg : ∀ k, (Value.slice a' n' c').ownBlock = some k → k ≠ g := fun k hk => by
            rcases hx7 k hk with h' | h'
            · exact hrg k h'
            · have := hB6w.size; have := HB2.out.lt; omega
          have hO8 : OwnO (w7.setCell ⟨g, 4, none⟩ (Value.slice a' n' c')) 0 (Value.slice a' n' c') (ops.take P ++ (k0, (k1, k2), (k3, k4), (k5, k6), s7, s8) :: ops.drop P) := own_grown hO7 (grown_set _ _ _ _) (fun k hk e => hsg k hk (by cases e; rfl))
          have hgf := blk_map HB2.out HF'.out
          have hgm := blk_map HB2.out HM'.out
          have hF8 : MapN (w7.setCell ⟨g, 4, none⟩ (Value.slice a' n' c')) f fx := hF7.grown (grown_set _ _ _ _) (fun e => hgf (by cases e; rfl))
          have hM8 : MapN (w7.setCell ⟨g, 4, none⟩ (Value.slice a' n' c')) m ms := hM7.grown (grown_set _ _ _ _) (fun e => hgm (by cases e; rfl))
          have hK8 : KeptF (tfoot g f m r) w (w7.setCell ⟨g, 4, none⟩ (Value.slice a' n' c')) := hKF.setCell g 4 _ (fun _ => .inl rfl)
          have HX7 : Hid (Nx w r (Value.slice a' n' c').ownBlock) := fun k hk => by
            rcases hx7 k hk with h' | h'
            · rw [HR.out] at h'; exact .inl h'
            · have := hB6w.size; exact .inr (by omega)
          obtain ⟨w8, hw8⟩ : ∃ w8, w7.setCell ⟨g, 4, none⟩ (Value.slice a' n' c') = w8 := ⟨_, rfl⟩
          rw [hw8] at B8 hO8 hF8 hM8 hK8 ⊢
          have c6 : w8.cell? ⟨g, 6, none⟩ = some (.bool st) := B8.cell 6
          have z6 : w8.frozen? ⟨g, 6, none⟩ = false := B8.free 6
          have HB8 : Hid (Blk w8 101 g (treeC g f m (Value.slice a' n' c') (b1, b2) st)) := B8
          have HO8 : Hid (OwnO w8 0 (Value.slice a' n' c') (putO (k0, (k1, k2), (k3, k4), (k5, k6), s7, s8) ops)) := by
            show OwnO _ _ _ _
            unfold putO
            rw [pos_low HT.out.ok.sort, if_neg HDN.out, Nat.add_zero]
            show OwnO _ _ _ (List.take (lowO (k1, k2) ops) ops ++ _ :: List.drop (lowO (k1, k2) ops) ops)
            rw [HP.out]; exact hO8
          have HF8 : Hid (MapN w8 f fx) := hF8
          have HM8 : Hid (MapN w8 m ms) := hM8
          have HK8 : Hid (KeptF (tfoot g f m r) w w8) := hK8
          have HSG : Hid (∀ k, (Value.slice a' n' c').ownBlock = some k → k ≠ g) := hsg
          have HMAY : Hid (MayO (k0, (k1, k2), (k3, k4), (k5, k6), s7, s8)) := HOK.1 hm
          have HG2 : Hid (g ≠ f ∧ g ≠ m) := ⟨hgf, hgm⟩
          clear hw8 B8 hO8 hF8 hM8 hK8 hO7 hF7 hM7 hKF hB7 hK7 hT hT8 c4 z4 hx7 hsg hrf hrm hrg hsb HOK hgf hgm
          go_wp2_with fail
          go_ret
          refine ⟨rfl, (Value.slice a' n' c').ownBlock, ⟨⟨HT.out.ok.rooted, putO_sort _ _ HT.out.ok.sort HD.out, fun o ho => ?_⟩, HT.out.ne, (Value.slice a' n' c'), true, rfl, HB8.out.setAt 6 (.bool true), own_grown HO8.out (grown_set _ _ _ _) (fun k hk e => HSG.out k hk (by cases e; rfl)), HF8.out.grown (grown_set _ _ _ _) (fun e => HG2.out.1 (by cases e; rfl)), ms, HM8.out.grown (grown_set _ _ _ _) (fun e => HG2.out.2 (by cases e; rfl)), fun e => by cases e⟩, HK8.out.setCell g 6 _ (fun _ => .inl rfl), HX7.out⟩
          rcases (putO_mem _ _ _).1 ho with rfl | h'
          · exact HMAY.out
          · exact HT.out.ok.may _ h'
end Go.Proofs.YtogbkfakihnbdaaGreatDoor

/- Layer 11 on plain data: what is for good. -/
namespace Go.Proofs.YtogbkfakihnbdaaGreatDoor
open Go.RowKit
set_option linter.unusedSimpArgs false

end Go.Proofs.YtogbkfakihnbdaaGreatDoor

/- The code's Compact (layer 11). -/
namespace Go.Proofs.YtogbkfakihnbdaaGreatDoor
open Go.RowKit
set_option linter.unusedSimpArgs false

end Go.Proofs.YtogbkfakihnbdaaGreatDoor

/- Layer 11 on plain data: the example that every law of the layer holds to. -/
namespace Go.Proofs.YtogbkfakihnbdaaGreatDoor
open Go.RowKit
set_option linter.unusedSimpArgs false

end Go.Proofs.YtogbkfakihnbdaaGreatDoor

/- The laws' at; awake (layer 11). -/
namespace Go.Proofs.YtogbkfakihnbdaaGreatDoor
open Go.RowKit
set_option linter.unusedSimpArgs false

end Go.Proofs.YtogbkfakihnbdaaGreatDoor
