import Derived.Test.YtjmbnoacbmmcdaaGreatDoorTV
import Derived.Test.YtjmbnoacbmmcdaaGreatDoorN11
import Derived.Test.YtjmbnoacbmmcdaaGreatDoorG
import Derived.Test.YtjmbnoacbmmcdaaGreatDoorTX
/- The code's place, creates, full (layer 11). -/
namespace Go.Proofs.YtjmbnoacbmmcdaaGreatDoor
open Go.RowKit
set_option linter.unusedSimpArgs false

set_option maxRecDepth 100000 in
set_option maxHeartbeats 2000000 in
theorem place_any (g f m : Nat) (r : Option Nat) (T : TreeT) (s : Int × Int) (w : World) (h : TreeIn w g f m r T) (hn : T.2.1.length ≤ 60000) :
    Calls Tryz.prog 33 #[.pointer (some ⟨g, 0, none⟩), stampV s] w fun e w' => e = .returned (.tuple #[.int .i64 (lowO s T.2.1 : Int), .bool (dupO s T.2.1)]) ∧ Below w.heap.size w w' := by
  obtain ⟨fx, ops, b⟩ := T
  obtain ⟨sl, st, h1, h2, h3, h4, _⟩ := h.obj
  obtain ⟨a, cap, rfl, hop, _⟩ := OwnO.ops h3
  have CS : Hid (∀ W, Below w.heap.size w W → _) := fun W hW => search_any ops s a ops.length cap W (by simp only at hn; omega) h.ok.sort (hop.below hW)
  obtain ⟨L, hL⟩ : ∃ L, lowO s ops = L := ⟨_, rfl⟩
  obtain ⟨D, hD⟩ : ∃ D, dupO s ops = D := ⟨_, rfl⟩
  obtain ⟨n, hnn⟩ : ∃ n, ops.length = n := ⟨_, rfl⟩
  simp only at hL hD ⊢ CS
  rw [hL, hD] at CS ⊢
  rw [hnn] at CS h2
  obtain ⟨x, y⟩ := s
  simp only [stampV] at CS ⊢
  have e4 : w.cell? ⟨g, 4, none⟩ = some (.slice a n cap) := h2.cell 4
  have hgl := h2.lt
  clear h h2 h3 h4 h1 hop hL hD hnn hn
  have hmix : Tryz.prog.follows .mixedOrders = true := by kernel_rfl
  go_enter Tryz.func33, Tryz.ntmps33
  go_wp2_with fail
  generalize hq : World.alloc w _ = w0 at *
  have hb0 : Below w.heap.size w w0 := by rw [← hq]; exact below_new w _
  have c0 : ∀ p : Beh w0, p.w'.cell? ⟨w.heap.size, 0, none⟩ = some (.int .i64 x) := fun p => p.cell (by rw [← hq]; simp)
  have c1 : ∀ p : Beh w0, p.w'.cell? ⟨w.heap.size, 1, none⟩ = some (.int .i64 y) := fun p => p.cell (by rw [← hq]; simp)
  have c4 : ∀ p : Beh w0, p.w'.cell? ⟨g, 4, none⟩ = some (.slice a n cap) := fun p => p.cell (by rw [hb0.cell (p := ⟨g, 4, none⟩) hgl]; exact e4)
  have CS' : Hid (∀ p : Beh w0, _) := fun p => CS.out p.w' (below_step hb0 (Nat.le_refl _) p.h)
  clear hq CS e4
  have hne_ : Nonempty (Beh w0) := ⟨⟨_, Below.refl _ _⟩⟩
  refine wp_region_quiet_beh (by kernel_rfl) (by kernel_rfl) ?_
  repeat (quiet_step (first | (go_at_call 55; refine Calls.beh_of (CS'.out _))))
  refine wpQuiet_nil ?_
  intro wq hw_
  obtain ⟨⟨wz_, hbq⟩, hw_⟩ := hw_
  subst hw_
  try dsimp only
  clear hne_
  go_wp2_with fail
  go_ret2
  exact ⟨rfl, below_step hb0 (Nat.le_refl _) hbq⟩

set_option maxRecDepth 100000 in
set_option maxHeartbeats 2000000 in
theorem creates_any (g f m : Nat) (r : Option Nat) (T : TreeT) (w : World) (h : TreeIn w g f m r T) (hn : T.2.1.length ≤ 60000) :
    Calls Tryz.prog 58 #[.pointer (some ⟨g, 0, none⟩)] w fun e w' => e = .returned (.int .i64 (creO T.2.1 : Int)) ∧ Below w.heap.size w w' := by
  obtain ⟨fx, ops, b⟩ := T
  obtain ⟨sl, st, h1, h2, h3, h4, _⟩ := h.obj
  obtain ⟨a, cap, rfl, hop, _⟩ := OwnO.ops h3
  obtain ⟨n, hnn⟩ : ∃ n, ops.length = n := ⟨_, rfl⟩
  simp only at hn ⊢
  rw [hnn] at h2 hop hn
  have c4 : w.cell? ⟨g, 4, none⟩ = some (.slice a n cap) := h2.cell 4
  have HO : Hid (OpsAt w a n ops) := hop
  have HN : Hid (ops.length = n) := hnn
  clear h h2 h3 h4 h1 hop hnn
  go_enter Tryz.func58, Tryz.ntmps58
  go_wp2_with fail
  go_loopw [3, 11] (fun i j wr => ∃ k c : Nat, k ≤ n ∧ c ≤ k ∧ i = .int .i64 c ∧ j = .int .i64 k ∧ Hid (creO (ops.take k) = c) ∧ Hid (Below w.heap.size w wr)) (fun _ j _ => n - (intOf j).toNat)
  case atStart => exact ⟨0, 0, Nat.zero_le _, Nat.le_refl _, rfl, rfl, rfl, Below.refl _ _⟩
  case round =>
    obtain ⟨k, c, hk, hc, rfl, rfl, HC, HB⟩ := hrel
    by_cases hlt : k < n
    · have b0 : (k : Int) < (n : Int) := by omega
      have hat := HO.out.below HB.out
      obtain ⟨b, off, rfl, _⟩ := hat.2.some (by omega)
      obtain ⟨x0, x1, x2, x3, x4, x5, x6, x7, x8⟩ := hat.cells k hlt
      have hst : creO (ops.take (k + 1)) = c + (if (oL ops k).1 = 1 then 1 else 0) := by
        rw [oL_get ops k (by rw [HN.out]; exact hlt), List.take_succ_eq_append_getElem (by rw [HN.out]; exact hlt)]
        unfold creO at HC ⊢
        rw [List.countP_append, HC.out]
        simp [List.countP_cons]
      obtain ⟨⟨k0, ⟨k1, k2⟩, ⟨k3, k4⟩, ⟨k5, k6⟩, s7, s8⟩, hkk⟩ : ∃ s, s = oL ops k := ⟨_, rfl⟩
      rw [← hkk] at x0 x1 x2 x3 x4 x5 x6 x7 x8 hst
      simp only at hst
      clear hkk hat
      have HB1 : Hid (∀ o, Below w.heap.size w (wr.alloc o)) := fun o => below_step HB.out (Nat.le_refl _) (below_new _ _)
      by_cases e1 : k0 = 1
      · rw [if_pos e1] at hst
        have HS : Hid (_ = _) := hst
        subst e1
        clear hst
        go_wp2_with fail
        refine ⟨⟨k + 1, c + 1, by omega, by omega, by go_num, by go_num, HS, HB1.out _⟩, ?_⟩
        simp [intOf]; omega
      · rw [if_neg e1, Nat.add_zero] at hst
        have HS : Hid (_ = _) := hst
        clear hst
        go_wp2_with fail
        refine ⟨⟨k + 1, c, by omega, by omega, rfl, by go_num, HS, HB1.out _⟩, ?_⟩
        simp [intOf]; omega
    · obtain rfl : k = n := by omega
      have b0 : ¬ ((k : Int) < (k : Int)) := by omega
      go_wp2_with fail
      go_ret
      refine ⟨?_, HB.out⟩
      rw [← HC.out, List.take_of_length_le (by rw [HN.out]; omega)]
      rfl

set_option maxRecDepth 100000 in
set_option maxHeartbeats 2000000 in
theorem full_any (g f m : Nat) (r : Option Nat) (T : TreeT) (kind : Int) (w : World) (h : TreeIn w g f m r T) (hn : T.1.length + T.2.1.length ≤ 60000) :
    Calls Tryz.prog 34 #[.pointer (some ⟨g, 0, none⟩), .int .i64 kind] w fun e w' => e = .returned (.bool (decide (512 ≤ T.2.1.length ∨ (kind = 1 ∧ 512 ≤ T.1.length + creO T.2.1)))) ∧ Below w.heap.size w w' := by
  obtain ⟨fx, ops, b⟩ := T
  have CC : Hid (Calls _ _ _ _ _) := creates_any g f m r _ w h (by omega)
  obtain ⟨sl, st, h1, h2, h3, h4, _⟩ := h.obj
  obtain ⟨a, cap, rfl, hop, _⟩ := OwnO.ops h3
  have hcl := creO_le ops
  have hlm := mapN_len h4
  obtain ⟨n, hnn⟩ : ∃ n, ops.length = n := ⟨_, rfl⟩
  obtain ⟨q, hq⟩ : ∃ q, fx.length = q := ⟨_, rfl⟩
  obtain ⟨c, hc⟩ : ∃ c, creO ops = c := ⟨_, rfl⟩
  simp only at hn CC ⊢
  rw [hnn, hq] at hn
  rw [hnn, hc] at hcl
  rw [hc] at CC
  rw [hnn, hq, hc]
  rw [hnn] at h2
  rw [hq] at hlm
  have c4 : w.cell? ⟨g, 4, none⟩ = some (.slice a n cap) := h2.cell 4
  have c3 : w.cell? ⟨g, 3, none⟩ = some (.map (some f)) := h2.cell 3
  clear h h2 h3 h4 h1 hop hnn hq hc
  by_cases hb : 512 ≤ n
  · rw [decide_eq_true (Or.inl hb)]
    have b0 : (512 : Int) ≤ (n : Int) := by omega
    go_enter Tryz.func34, Tryz.ntmps34
    go_wp2_with fail
    go_ret
    exact ⟨rfl, Below.refl _ _⟩
  · have b0 : ¬ (512 : Int) ≤ (n : Int) := by omega
    by_cases hk : kind = 1
    · subst hk
      by_cases hf : 512 ≤ q + c
      · rw [decide_eq_true (Or.inr ⟨rfl, hf⟩)]
        have b1 : (512 : Int) ≤ (q : Int) + (c : Int) := by omega
        go_enter Tryz.func34, Tryz.ntmps34
        go_wp2_with fail
        refine CC.out.mono ?_
        rintro e w1 ⟨rfl, hb1⟩
        clear CC
        go_wp2_with fail
        go_ret
        exact ⟨rfl, hb1⟩
      · rw [decide_eq_false (by omega)]
        have b1 : ¬ (512 : Int) ≤ (q : Int) + (c : Int) := by omega
        go_enter Tryz.func34, Tryz.ntmps34
        go_wp2_with fail
        refine CC.out.mono ?_
        rintro e w1 ⟨rfl, hb1⟩
        clear CC
        go_wp2_with fail
        go_ret
        exact ⟨by show Ending.returned (.bool (decide _)) = _; rw [decide_eq_false (by omega)], hb1⟩
    · rw [decide_eq_false (by omega)]
      go_enter Tryz.func34, Tryz.ntmps34
      go_wp2_with fail
      go_ret
      exact ⟨rfl, Below.refl _ _⟩
end Go.Proofs.YtjmbnoacbmmcdaaGreatDoor

/- The code's isName, hasItsOwn, Check (layer 11). -/
namespace Go.Proofs.YtjmbnoacbmmcdaaGreatDoor
open Go.RowKit
set_option linter.unusedSimpArgs false

set_option maxHeartbeats 1000000 in
theorem isName_any (s : ByteArray) (D : Bool) (hD : D = true ↔ NameP s) (w : World) (hs : s.size ≤ 1048576) (hG : Glob8 w) :
    Calls Tryz.prog 53 #[.string s] w fun e w' => e = .returned (.bool D) ∧ Below w.heap.size w w' := by
  have C : Hid (Calls _ _ _ _ _) := ncheck_any s w hs hG
  by_cases h : NameP s
  · obtain rfl : D = true := hD.2 h
    have hx : Hid (NameE s 0) := .inl ⟨rfl, h⟩
    clear hG
    go_enter Tryz.func53, Tryz.ntmps53
    go_wp2_with fail
    refine C.out.mono ?_
    rintro e w1 ⟨y, rfl, hy, hb1⟩
    rw [NameE.uniq hy hx.out]
    clear C hy
    go_wp2_with fail
    go_ret
    exact ⟨rfl, hb1⟩
  · obtain rfl : D = false := by
      cases D with
      | false => rfl
      | true => exact absurd (hD.1 rfl) h
    have hx : Hid (NameE s 80) := .inr ⟨rfl, h⟩
    clear hG
    go_enter Tryz.func53, Tryz.ntmps53
    go_wp2_with fail
    refine C.out.mono ?_
    rintro e w1 ⟨y, rfl, hy, hb1⟩
    rw [NameE.uniq hy hx.out]
    clear C hy
    go_wp2_with fail
    go_ret
    exact ⟨rfl, hb1⟩

theorem size_zero (s : ByteArray) : s.size = 0 ↔ s = ⟨#[]⟩ := by
  constructor
  · intro h
    have : s.data = #[] := by
      have : s.data.size = 0 := h
      exact Array.eq_empty_of_size_eq_zero this
    cases s; simp at this; rw [this]
  · rintro rfl; rfl

/-- The fields that an operation's kind asks for, and no others. -/
def OwnF (o : OpT) : Prop :=
  ((o.1 = 1 ∧ o.2.2.1 = o.2.1 ∧ ParS o.2.2.2.1 ∧ NameP o.2.2.2.2.1 ∧ o.2.2.2.2.2.size = 0) ∨
   (o.1 = 2 ∧ ParS o.2.2.2.1 ∧ o.2.2.2.2.1.size = 0 ∧ o.2.2.2.2.2.size = 0) ∨
   (o.1 = 3 ∧ o.2.2.2.1 = (0, 0) ∧ NameP o.2.2.2.2.1 ∧ o.2.2.2.2.2.size = 0) ∨
   (o.1 = 4 ∧ o.2.2.2.1 = (0, 0) ∧ o.2.2.2.2.1.size = 0 ∧ o.2.2.2.2.2.size ≤ 64) ∨
   (o.1 = 5 ∧ o.2.2.2.1 = (0, 0) ∧ o.2.2.2.2.1.size = 0 ∧ o.2.2.2.2.2.size = 0))

theorem own1 (a b c : Int × Int) (s t : ByteArray) : OwnF (1, a, b, c, s, t) ↔ (b = a ∧ ParS c ∧ NameP s ∧ t = ⟨#[]⟩) := by
  unfold OwnF
  simp only [← size_zero]
  constructor
  · rintro (h | h | h | h | h)
    · exact h.2
    · exact absurd h.1 (by decide)
    · exact absurd h.1 (by decide)
    · exact absurd h.1 (by decide)
    · exact absurd h.1 (by decide)
  · exact fun h => .inl ⟨trivial, h⟩

theorem own2 (a b c : Int × Int) (s t : ByteArray) : OwnF (2, a, b, c, s, t) ↔ (ParS c ∧ s = ⟨#[]⟩ ∧ t = ⟨#[]⟩) := by
  unfold OwnF
  simp only [← size_zero]
  constructor
  · rintro (h | h | h | h | h)
    · exact absurd h.1 (by decide)
    · exact h.2
    · exact absurd h.1 (by decide)
    · exact absurd h.1 (by decide)
    · exact absurd h.1 (by decide)
  · exact fun h => .inr (.inl ⟨trivial, h⟩)

theorem own3 (a b c : Int × Int) (s t : ByteArray) : OwnF (3, a, b, c, s, t) ↔ (c = (0, 0) ∧ NameP s ∧ t = ⟨#[]⟩) := by
  unfold OwnF
  simp only [← size_zero]
  constructor
  · rintro (h | h | h | h | h)
    · exact absurd h.1 (by decide)
    · exact absurd h.1 (by decide)
    · exact h.2
    · exact absurd h.1 (by decide)
    · exact absurd h.1 (by decide)
  · exact fun h => .inr (.inr (.inl ⟨trivial, h⟩))

theorem own4 (a b c : Int × Int) (s t : ByteArray) : OwnF (4, a, b, c, s, t) ↔ (c = (0, 0) ∧ s = ⟨#[]⟩ ∧ t.size ≤ 64) := by
  unfold OwnF
  simp only [← size_zero]
  constructor
  · rintro (h | h | h | h | h)
    · exact absurd h.1 (by decide)
    · exact absurd h.1 (by decide)
    · exact absurd h.1 (by decide)
    · exact h.2
    · exact absurd h.1 (by decide)
  · exact fun h => .inr (.inr (.inr (.inl ⟨trivial, h⟩)))

theorem own5 (a b c : Int × Int) (s t : ByteArray) : OwnF (5, a, b, c, s, t) ↔ (c = (0, 0) ∧ s = ⟨#[]⟩ ∧ t = ⟨#[]⟩) := by
  unfold OwnF
  simp only [← size_zero]
  constructor
  · rintro (h | h | h | h | h)
    · exact absurd h.1 (by decide)
    · exact absurd h.1 (by decide)
    · exact absurd h.1 (by decide)
    · exact absurd h.1 (by decide)
    · exact h.2
  · exact fun h => .inr (.inr (.inr (.inr (⟨trivial, h⟩))))

set_option maxRecDepth 100000 in
set_option maxHeartbeats 4000000 in
theorem hasItsOwn_any (o : OpT) (w : World) (hG : Glob8 w) (h7 : o.2.2.2.2.1.size ≤ 1048576) (h8 : o.2.2.2.2.2.size ≤ 9223372036854775807) :
    Calls Tryz.prog 30 #[.agg (opA o)] w fun e w' => ∃ b, e = .returned (.bool b) ∧ (b = true ↔ OwnF o) ∧ Below w.heap.size w w' := by
  obtain ⟨k0, ⟨k1, k2⟩, ⟨k3, k4⟩, ⟨k5, k6⟩, s7, s8⟩ := o
  simp only at h7 h8
  show Calls Tryz.prog _ #[.agg #[.int .i64 k0, .int .i64 k1, .int .i64 k2, .int .i64 k3, .int .i64 k4, .int .i64 k5, .int .i64 k6, .string s7, .string s8]] w _
  have CH : Hid (∀ W, _) := mayHold_any (k5, k6)
  obtain ⟨NB, hNB⟩ : ∃ D : Bool, D = true ↔ NameP s7 := ⟨@decide (NameP s7) (Classical.propDecidable _), by simp⟩
  have CN : Hid (∀ W, Below w.heap.size w W → Calls Tryz.prog 53 #[.string s7] W fun e w' => e = .returned (.bool NB) ∧ Below W.heap.size W w') := fun W hW => isName_any s7 NB hNB W h7 (hG.below hW)
  have CV : Hid (∀ W, _) := fun W => isValue_any s8 W h8
  obtain ⟨PB, hPB⟩ : ∃ D : Bool, decide (ParS (k5, k6)) = D := ⟨_, rfl⟩
  obtain ⟨VB, hVB⟩ : ∃ D : Bool, decide (s8.size ≤ 64) = D := ⟨_, rfl⟩
  rw [hPB] at CH
  rw [hVB] at CV
  simp only [stampV] at CH
  have HNB : Hid (NB = true ↔ NameP s7) := hNB
  have HPB : Hid (PB = true ↔ ParS (k5, k6)) := by show _ ↔ _; rw [← hPB]; simp
  have HVB : Hid (VB = true ↔ s8.size ≤ 64) := by show _ ↔ _; rw [← hVB]; simp
  clear hNB hPB hVB h7 h8 hG
  have HZ : Hid (Blk ((w.alloc (.cells #[.int .i64 k0, .int .i64 k1, .int .i64 k2, .int .i64 k3, .int .i64 k4, .int .i64 k5, .int .i64 k6, .string s7, .string s8] 37)).alloc (.cells #[.int .i64 0, .int .i64 0, .int .i64 0, .int .i64 0, .int .i64 0, .int .i64 0, .int .i64 0, .string ⟨#[]⟩, .string ⟨#[]⟩] 37)) 37 (w.heap.size + 1) #[.int .i64 0, .int .i64 0, .int .i64 0, .int .i64 0, .int .i64 0, .int .i64 0, .int .i64 0, .string ⟨#[]⟩, .string ⟨#[]⟩]) := Blk.new' _ _ _ _ (by simp)
  go_enter Tryz.func30, Tryz.ntmps30
  go_wp2_with (with_reducible refine wpList_storeBlkH rfl 37 _ _ rfl (w.heap.size + 1) #[.int .i64 0, .int .i64 0, .int .i64 0, .int .i64 0, .int .i64 0, .int .i64 0, .int .i64 0, .string ⟨#[]⟩, .string ⟨#[]⟩] #[.int .i64 0, .int .i64 0, .int .i64 0, .int .i64 0, .int .i64 0, .int .i64 k5, .int .i64 k6, .string s7, .string s8] ?hx ?hy HZ.out rfl ?hi ?h1 ?_)
  try (case hx => rfl)
  try (case hy => rfl)
  try (case hi => first | kernel_rfl | (refine Option.map_eq_some_iff.1 (?_ : (Tryz.prog.info? 37).map (·.size) = some 9); kernel_rfl))
  try (case h1 => simp [Value.oneCell'])
  unfold Hid
  obtain ⟨W, hW⟩ : ∃ W, ((w.alloc (.cells #[.int .i64 k0, .int .i64 k1, .int .i64 k2, .int .i64 k3, .int .i64 k4, .int .i64 k5, .int .i64 k6, .string s7, .string s8] 37)).alloc (.cells #[.int .i64 0, .int .i64 0, .int .i64 0, .int .i64 0, .int .i64 0, .int .i64 0, .int .i64 0, .string ⟨#[]⟩, .string ⟨#[]⟩] 37)).setRow (w.heap.size + 1) #[.int .i64 0, .int .i64 0, .int .i64 0, .int .i64 0, .int .i64 0, .int .i64 k5, .int .i64 k6, .string s7, .string s8] = W := ⟨_, rfl⟩
  have KR : Blk W 37 (w.heap.size + 1) #[.int .i64 0, .int .i64 0, .int .i64 0, .int .i64 0, .int .i64 0, .int .i64 k5, .int .i64 k6, .string s7, .string s8] := by rw [← hW]; exact HZ.out.setRow _
  have KO : Blk W 37 w.heap.size #[.int .i64 k0, .int .i64 k1, .int .i64 k2, .int .i64 k3, .int .i64 k4, .int .i64 k5, .int .i64 k6, .string s7, .string s8] := by rw [← hW]; exact ((Blk.new _ _ _).alloc _).setRowOther _ (by omega) _
  have hB : Below w.heap.size w W := by rw [← hW]; exact below_setRow ((below_new w _).alloc (by simp) _) (by omega) _
  rw [hW]
  clear hW HZ
  have d0 : W.cell? ⟨w.heap.size, 0, none⟩ = some (.int .i64 k0) := KO.cell 0
  have d1 : W.cell? ⟨w.heap.size, 1, none⟩ = some (.int .i64 k1) := KO.cell 1
  have d2 : W.cell? ⟨w.heap.size, 2, none⟩ = some (.int .i64 k2) := KO.cell 2
  have d3 : W.cell? ⟨w.heap.size, 3, none⟩ = some (.int .i64 k3) := KO.cell 3
  have d4 : W.cell? ⟨w.heap.size, 4, none⟩ = some (.int .i64 k4) := KO.cell 4
  have d5 : W.cell? ⟨w.heap.size, 5, none⟩ = some (.int .i64 k5) := KO.cell 5
  have d6 : W.cell? ⟨w.heap.size, 6, none⟩ = some (.int .i64 k6) := KO.cell 6
  have d7 : W.cell? ⟨w.heap.size, 7, none⟩ = some (.string s7) := KO.cell 7
  have d8 : W.cell? ⟨w.heap.size, 8, none⟩ = some (.string s8) := KO.cell 8
  have KX := KR
  by_cases e1 : k0 = 1
  · subst e1
    have eA := fun w => stampEq k3 k4 k1 k2 w
    by_cases hA : (k3, k4) = (k1, k2)
    · rw [decide_eq_true hA] at eA
      clear KX
      go_wp2_with fail
      refine (CH.out _).mono ?_
      rintro e W1 ⟨rfl, hb1⟩
      have hB1 := below_step hB (Nat.le_refl _) hb1
      have KX := KR.on hb1
      have f7 : W1.cell? ⟨w.heap.size, 7, none⟩ = some (.string s7) := (KO.on hb1).cell 7
      have hl := KX.lt
      cases PB with
      | false =>
        have hp : Hid (¬ ParS (k5, k6)) := fun h => by have := HPB.out.2 h; cases this
        clear HPB
        have KS0 : Blk W1 37 (w.heap.size + 1) #[.int .i64 0, .int .i64 0, .int .i64 0, .int .i64 0, .int .i64 0, .int .i64 k5, .int .i64 k6, .string s7, .string s8] := KX
        have y0 : W1.cell? ⟨w.heap.size + 1, 5, none⟩ = some (.int .i64 k5) := KS0.cell 5
        have z0 : W1.frozen? ⟨w.heap.size + 1, 5, none⟩ = false := KS0.free 5
        have KS1 := KS0.setAt 5 (.int .i64 0)
        have y1 : (W1.setCell ⟨w.heap.size + 1, 5, none⟩ (.int .i64 0)).cell? ⟨w.heap.size + 1, 6, none⟩ = some (.int .i64 k6) := KS1.cell 6
        have z1 : (W1.setCell ⟨w.heap.size + 1, 5, none⟩ (.int .i64 0)).frozen? ⟨w.heap.size + 1, 6, none⟩ = false := KS1.free 6
        have KS2 := KS1.setAt 6 (.int .i64 0)
        have y2 : ((W1.setCell ⟨w.heap.size + 1, 5, none⟩ (.int .i64 0)).setCell ⟨w.heap.size + 1, 6, none⟩ (.int .i64 0)).cell? ⟨w.heap.size + 1, 7, none⟩ = some (.string s7) := KS2.cell 7
        have z2 : ((W1.setCell ⟨w.heap.size + 1, 5, none⟩ (.int .i64 0)).setCell ⟨w.heap.size + 1, 6, none⟩ (.int .i64 0)).frozen? ⟨w.heap.size + 1, 7, none⟩ = false := KS2.free 7
        have KS3 := KS2.setAt 7 (.string ⟨#[]⟩)
        clear KO KR KX CN CV KS0 KS1 KS2 KS3
        go_wp2_with fail
        go_ret
        refine ⟨false, rfl, ?_, (Below.setCell (Below.setCell (Below.setCell hB1 (p := ⟨w.heap.size + 1, 5, none⟩) (by show _ ≤ w.heap.size + 1; omega) _) (p := ⟨w.heap.size + 1, 6, none⟩) (by show _ ≤ w.heap.size + 1; omega) _) (p := ⟨w.heap.size + 1, 7, none⟩) (by show _ ≤ w.heap.size + 1; omega) _)⟩
        rw [own1]
        exact ⟨fun h => (by cases h), fun h => absurd h.2.1 hp.out⟩
      | true =>
        have hp : Hid (ParS (k5, k6)) := HPB.out.1 rfl
        clear HPB
        go_wp2_with fail
        refine (CN.out _ hB1).mono ?_
        rintro e W2 ⟨rfl, hb2⟩
        have hB2 := below_step hB1 (Nat.le_refl _) hb2
        replace KX := KX.on hb2
        have KS0 : Blk W2 37 (w.heap.size + 1) #[.int .i64 0, .int .i64 0, .int .i64 0, .int .i64 0, .int .i64 0, .int .i64 k5, .int .i64 k6, .string s7, .string s8] := KX
        have y0 : W2.cell? ⟨w.heap.size + 1, 5, none⟩ = some (.int .i64 k5) := KS0.cell 5
        have z0 : W2.frozen? ⟨w.heap.size + 1, 5, none⟩ = false := KS0.free 5
        have KS1 := KS0.setAt 5 (.int .i64 0)
        have y1 : (W2.setCell ⟨w.heap.size + 1, 5, none⟩ (.int .i64 0)).cell? ⟨w.heap.size + 1, 6, none⟩ = some (.int .i64 k6) := KS1.cell 6
        have z1 : (W2.setCell ⟨w.heap.size + 1, 5, none⟩ (.int .i64 0)).frozen? ⟨w.heap.size + 1, 6, none⟩ = false := KS1.free 6
        have KS2 := KS1.setAt 6 (.int .i64 0)
        have y2 : ((W2.setCell ⟨w.heap.size + 1, 5, none⟩ (.int .i64 0)).setCell ⟨w.heap.size + 1, 6, none⟩ (.int .i64 0)).cell? ⟨w.heap.size + 1, 7, none⟩ = some (.string s7) := KS2.cell 7
        have z2 : ((W2.setCell ⟨w.heap.size + 1, 5, none⟩ (.int .i64 0)).setCell ⟨w.heap.size + 1, 6, none⟩ (.int .i64 0)).frozen? ⟨w.heap.size + 1, 7, none⟩ = false := KS2.free 7
        have KS3 := KS2.setAt 7 (.string ⟨#[]⟩)
        cases NB with
        | false =>
          have hq : Hid (¬ NameP s7) := fun h => by have := HNB.out.2 h; cases this
          clear HNB
          clear KO KR KX CV KS0 KS1 KS2 KS3
          go_wp2_with fail
          go_ret
          refine ⟨false, rfl, ?_, (Below.setCell (Below.setCell (Below.setCell hB2 (p := ⟨w.heap.size + 1, 5, none⟩) (by show _ ≤ w.heap.size + 1; omega) _) (p := ⟨w.heap.size + 1, 6, none⟩) (by show _ ≤ w.heap.size + 1; omega) _) (p := ⟨w.heap.size + 1, 7, none⟩) (by show _ ≤ w.heap.size + 1; omega) _)⟩
          rw [own1]
          exact ⟨fun h => (by cases h), fun h => absurd h.2.2.1 hq.out⟩
        | true =>
          have hq : Hid (NameP s7) := HNB.out.1 rfl
          clear HNB
          have HA : Hid ((k3, k4) = (k1, k2)) := hA
          clear hA
          have r0 : (((W2.setCell ⟨w.heap.size + 1, 5, none⟩ (.int .i64 0)).setCell ⟨w.heap.size + 1, 6, none⟩ (.int .i64 0)).setCell ⟨w.heap.size + 1, 7, none⟩ (.string ⟨#[]⟩)).cell? ⟨w.heap.size + 1, 0, none⟩ = some (.int .i64 0) := KS3.cell 0
          have r1 : (((W2.setCell ⟨w.heap.size + 1, 5, none⟩ (.int .i64 0)).setCell ⟨w.heap.size + 1, 6, none⟩ (.int .i64 0)).setCell ⟨w.heap.size + 1, 7, none⟩ (.string ⟨#[]⟩)).cell? ⟨w.heap.size + 1, 1, none⟩ = some (.int .i64 0) := KS3.cell 1
          have r2 : (((W2.setCell ⟨w.heap.size + 1, 5, none⟩ (.int .i64 0)).setCell ⟨w.heap.size + 1, 6, none⟩ (.int .i64 0)).setCell ⟨w.heap.size + 1, 7, none⟩ (.string ⟨#[]⟩)).cell? ⟨w.heap.size + 1, 2, none⟩ = some (.int .i64 0) := KS3.cell 2
          have r3 : (((W2.setCell ⟨w.heap.size + 1, 5, none⟩ (.int .i64 0)).setCell ⟨w.heap.size + 1, 6, none⟩ (.int .i64 0)).setCell ⟨w.heap.size + 1, 7, none⟩ (.string ⟨#[]⟩)).cell? ⟨w.heap.size + 1, 3, none⟩ = some (.int .i64 0) := KS3.cell 3
          have r4 : (((W2.setCell ⟨w.heap.size + 1, 5, none⟩ (.int .i64 0)).setCell ⟨w.heap.size + 1, 6, none⟩ (.int .i64 0)).setCell ⟨w.heap.size + 1, 7, none⟩ (.string ⟨#[]⟩)).cell? ⟨w.heap.size + 1, 4, none⟩ = some (.int .i64 0) := KS3.cell 4
          have r5 : (((W2.setCell ⟨w.heap.size + 1, 5, none⟩ (.int .i64 0)).setCell ⟨w.heap.size + 1, 6, none⟩ (.int .i64 0)).setCell ⟨w.heap.size + 1, 7, none⟩ (.string ⟨#[]⟩)).cell? ⟨w.heap.size + 1, 5, none⟩ = some (.int .i64 0) := KS3.cell 5
          have r6 : (((W2.setCell ⟨w.heap.size + 1, 5, none⟩ (.int .i64 0)).setCell ⟨w.heap.size + 1, 6, none⟩ (.int .i64 0)).setCell ⟨w.heap.size + 1, 7, none⟩ (.string ⟨#[]⟩)).cell? ⟨w.heap.size + 1, 6, none⟩ = some (.int .i64 0) := KS3.cell 6
          have r7 : (((W2.setCell ⟨w.heap.size + 1, 5, none⟩ (.int .i64 0)).setCell ⟨w.heap.size + 1, 6, none⟩ (.int .i64 0)).setCell ⟨w.heap.size + 1, 7, none⟩ (.string ⟨#[]⟩)).cell? ⟨w.heap.size + 1, 7, none⟩ = some (.string ⟨#[]⟩) := KS3.cell 7
          have r8 : (((W2.setCell ⟨w.heap.size + 1, 5, none⟩ (.int .i64 0)).setCell ⟨w.heap.size + 1, 6, none⟩ (.int .i64 0)).setCell ⟨w.heap.size + 1, 7, none⟩ (.string ⟨#[]⟩)).cell? ⟨w.heap.size + 1, 8, none⟩ = some (.string s8) := KS3.cell 8
          have q := fun w => opEq (0, (0, 0), (0, 0), (0, 0), ⟨#[]⟩, s8) (0, (0, 0), (0, 0), (0, 0), ⟨#[]⟩, ⟨#[]⟩) w
          simp only [opA] at q
          obtain ⟨D, hD⟩ : ∃ D : Bool, decide (((0 : Int), ((0 : Int), (0 : Int)), ((0 : Int), (0 : Int)), ((0 : Int), (0 : Int)), (⟨#[]⟩ : ByteArray), s8) = (0, (0, 0), (0, 0), (0, 0), ⟨#[]⟩, ⟨#[]⟩)) = D := ⟨_, rfl⟩
          rw [hD] at q
          clear KO KR KX KS0 KS1 KS2 KS3
          go_wp2_with fail
          go_ret
          refine ⟨D, rfl, ?_, (Below.setCell (Below.setCell (Below.setCell hB2 (p := ⟨w.heap.size + 1, 5, none⟩) (by show _ ≤ w.heap.size + 1; omega) _) (p := ⟨w.heap.size + 1, 6, none⟩) (by show _ ≤ w.heap.size + 1; omega) _) (p := ⟨w.heap.size + 1, 7, none⟩) (by show _ ≤ w.heap.size + 1; omega) _)⟩
          rw [← hD]
          rw [own1, decide_eq_true_iff]
          simp only [Prod.mk.injEq, and_true, true_and]
          exact ⟨fun h => ⟨(by have := HA.out; simp only [Prod.mk.injEq] at this; exact this), hp.out, hq.out, h⟩, fun h => h.2.2.2⟩
    · rw [decide_eq_false hA] at eA
      have HA : Hid (¬ (k3, k4) = (k1, k2)) := hA
      clear hA
      have KS0 : Blk W 37 (w.heap.size + 1) #[.int .i64 0, .int .i64 0, .int .i64 0, .int .i64 0, .int .i64 0, .int .i64 k5, .int .i64 k6, .string s7, .string s8] := KX
      have y0 : W.cell? ⟨w.heap.size + 1, 5, none⟩ = some (.int .i64 k5) := KS0.cell 5
      have z0 : W.frozen? ⟨w.heap.size + 1, 5, none⟩ = false := KS0.free 5
      have KS1 := KS0.setAt 5 (.int .i64 0)
      have y1 : (W.setCell ⟨w.heap.size + 1, 5, none⟩ (.int .i64 0)).cell? ⟨w.heap.size + 1, 6, none⟩ = some (.int .i64 k6) := KS1.cell 6
      have z1 : (W.setCell ⟨w.heap.size + 1, 5, none⟩ (.int .i64 0)).frozen? ⟨w.heap.size + 1, 6, none⟩ = false := KS1.free 6
      have KS2 := KS1.setAt 6 (.int .i64 0)
      have y2 : ((W.setCell ⟨w.heap.size + 1, 5, none⟩ (.int .i64 0)).setCell ⟨w.heap.size + 1, 6, none⟩ (.int .i64 0)).cell? ⟨w.heap.size + 1, 7, none⟩ = some (.string s7) := KS2.cell 7
      have z2 : ((W.setCell ⟨w.heap.size + 1, 5, none⟩ (.int .i64 0)).setCell ⟨w.heap.size + 1, 6, none⟩ (.int .i64 0)).frozen? ⟨w.heap.size + 1, 7, none⟩ = false := KS2.free 7
      have KS3 := KS2.setAt 7 (.string ⟨#[]⟩)
      clear KO KR KX CN CV CH KS0 KS1 KS2 KS3
      go_wp2_with fail
      go_ret
      refine ⟨false, rfl, ?_, (Below.setCell (Below.setCell (Below.setCell hB (p := ⟨w.heap.size + 1, 5, none⟩) (by show _ ≤ w.heap.size + 1; omega) _) (p := ⟨w.heap.size + 1, 6, none⟩) (by show _ ≤ w.heap.size + 1; omega) _) (p := ⟨w.heap.size + 1, 7, none⟩) (by show _ ≤ w.heap.size + 1; omega) _)⟩
      rw [own1]
      exact ⟨fun h => (by cases h), fun h => absurd h.1 HA.out⟩
  by_cases e2 : k0 = 2
  · subst e2
    clear KX
    go_wp2_with fail
    refine (CH.out _).mono ?_
    rintro e W1 ⟨rfl, hb1⟩
    have hB1 := below_step hB (Nat.le_refl _) hb1
    have KX := KR.on hb1
    have hl := KX.lt
    have KS0 : Blk W1 37 (w.heap.size + 1) #[.int .i64 0, .int .i64 0, .int .i64 0, .int .i64 0, .int .i64 0, .int .i64 k5, .int .i64 k6, .string s7, .string s8] := KX
    have y0 : W1.cell? ⟨w.heap.size + 1, 5, none⟩ = some (.int .i64 k5) := KS0.cell 5
    have z0 : W1.frozen? ⟨w.heap.size + 1, 5, none⟩ = false := KS0.free 5
    have KS1 := KS0.setAt 5 (.int .i64 0)
    have y1 : (W1.setCell ⟨w.heap.size + 1, 5, none⟩ (.int .i64 0)).cell? ⟨w.heap.size + 1, 6, none⟩ = some (.int .i64 k6) := KS1.cell 6
    have z1 : (W1.setCell ⟨w.heap.size + 1, 5, none⟩ (.int .i64 0)).frozen? ⟨w.heap.size + 1, 6, none⟩ = false := KS1.free 6
    have KS2 := KS1.setAt 6 (.int .i64 0)
    cases PB with
    | false =>
      have hp : Hid (¬ ParS (k5, k6)) := fun h => by have := HPB.out.2 h; cases this
      clear HPB
      clear KO KR KX CN CV KS0 KS1 KS2
      go_wp2_with fail
      go_ret
      refine ⟨false, rfl, ?_, (Below.setCell (Below.setCell hB1 (p := ⟨w.heap.size + 1, 5, none⟩) (by show _ ≤ w.heap.size + 1; omega) _) (p := ⟨w.heap.size + 1, 6, none⟩) (by show _ ≤ w.heap.size + 1; omega) _)⟩
      rw [own2]
      exact ⟨fun h => (by cases h), fun h => absurd h.1 hp.out⟩
    | true =>
      have hp : Hid (ParS (k5, k6)) := HPB.out.1 rfl
      clear HPB
      have r0 : ((W1.setCell ⟨w.heap.size + 1, 5, none⟩ (.int .i64 0)).setCell ⟨w.heap.size + 1, 6, none⟩ (.int .i64 0)).cell? ⟨w.heap.size + 1, 0, none⟩ = some (.int .i64 0) := KS2.cell 0
      have r1 : ((W1.setCell ⟨w.heap.size + 1, 5, none⟩ (.int .i64 0)).setCell ⟨w.heap.size + 1, 6, none⟩ (.int .i64 0)).cell? ⟨w.heap.size + 1, 1, none⟩ = some (.int .i64 0) := KS2.cell 1
      have r2 : ((W1.setCell ⟨w.heap.size + 1, 5, none⟩ (.int .i64 0)).setCell ⟨w.heap.size + 1, 6, none⟩ (.int .i64 0)).cell? ⟨w.heap.size + 1, 2, none⟩ = some (.int .i64 0) := KS2.cell 2
      have r3 : ((W1.setCell ⟨w.heap.size + 1, 5, none⟩ (.int .i64 0)).setCell ⟨w.heap.size + 1, 6, none⟩ (.int .i64 0)).cell? ⟨w.heap.size + 1, 3, none⟩ = some (.int .i64 0) := KS2.cell 3
      have r4 : ((W1.setCell ⟨w.heap.size + 1, 5, none⟩ (.int .i64 0)).setCell ⟨w.heap.size + 1, 6, none⟩ (.int .i64 0)).cell? ⟨w.heap.size + 1, 4, none⟩ = some (.int .i64 0) := KS2.cell 4
      have r5 : ((W1.setCell ⟨w.heap.size + 1, 5, none⟩ (.int .i64 0)).setCell ⟨w.heap.size + 1, 6, none⟩ (.int .i64 0)).cell? ⟨w.heap.size + 1, 5, none⟩ = some (.int .i64 0) := KS2.cell 5
      have r6 : ((W1.setCell ⟨w.heap.size + 1, 5, none⟩ (.int .i64 0)).setCell ⟨w.heap.size + 1, 6, none⟩ (.int .i64 0)).cell? ⟨w.heap.size + 1, 6, none⟩ = some (.int .i64 0) := KS2.cell 6
      have r7 : ((W1.setCell ⟨w.heap.size + 1, 5, none⟩ (.int .i64 0)).setCell ⟨w.heap.size + 1, 6, none⟩ (.int .i64 0)).cell? ⟨w.heap.size + 1, 7, none⟩ = some (.string s7) := KS2.cell 7
      have r8 : ((W1.setCell ⟨w.heap.size + 1, 5, none⟩ (.int .i64 0)).setCell ⟨w.heap.size + 1, 6, none⟩ (.int .i64 0)).cell? ⟨w.heap.size + 1, 8, none⟩ = some (.string s8) := KS2.cell 8
      have q := fun w => opEq (0, (0, 0), (0, 0), (0, 0), s7, s8) (0, (0, 0), (0, 0), (0, 0), ⟨#[]⟩, ⟨#[]⟩) w
      simp only [opA] at q
      obtain ⟨D, hD⟩ : ∃ D : Bool, decide (((0 : Int), ((0 : Int), (0 : Int)), ((0 : Int), (0 : Int)), ((0 : Int), (0 : Int)), s7, s8) = (0, (0, 0), (0, 0), (0, 0), ⟨#[]⟩, ⟨#[]⟩)) = D := ⟨_, rfl⟩
      rw [hD] at q
      clear KO KR KX KS0 KS1 KS2
      go_wp2_with fail
      go_ret
      refine ⟨D, rfl, ?_, (Below.setCell (Below.setCell hB1 (p := ⟨w.heap.size + 1, 5, none⟩) (by show _ ≤ w.heap.size + 1; omega) _) (p := ⟨w.heap.size + 1, 6, none⟩) (by show _ ≤ w.heap.size + 1; omega) _)⟩
      rw [← hD]
      rw [own2, decide_eq_true_iff]
      simp only [Prod.mk.injEq, and_true, true_and]
      exact ⟨fun h => ⟨hp.out, h⟩, fun h => h.2⟩
  by_cases e3 : k0 = 3
  · subst e3
    clear KX
    go_wp2_with fail
    refine (CN.out _ hB).mono ?_
    rintro e W1 ⟨rfl, hb1⟩
    have hB1 := below_step hB (Nat.le_refl _) hb1
    have KX := KR.on hb1
    have hl := KX.lt
    have KS0 : Blk W1 37 (w.heap.size + 1) #[.int .i64 0, .int .i64 0, .int .i64 0, .int .i64 0, .int .i64 0, .int .i64 k5, .int .i64 k6, .string s7, .string s8] := KX
    have y0 : W1.cell? ⟨w.heap.size + 1, 7, none⟩ = some (.string s7) := KS0.cell 7
    have z0 : W1.frozen? ⟨w.heap.size + 1, 7, none⟩ = false := KS0.free 7
    have KS1 := KS0.setAt 7 (.string ⟨#[]⟩)
    cases NB with
    | false =>
      have hq : Hid (¬ NameP s7) := fun h => by have := HNB.out.2 h; cases this
      clear HNB
      clear KO KR KX CH CV KS0 KS1
      go_wp2_with fail
      go_ret
      refine ⟨false, rfl, ?_, (Below.setCell hB1 (p := ⟨w.heap.size + 1, 7, none⟩) (by show _ ≤ w.heap.size + 1; omega) _)⟩
      rw [own3]
      exact ⟨fun h => (by cases h), fun h => absurd h.2.1 hq.out⟩
    | true =>
      have hq : Hid (NameP s7) := HNB.out.1 rfl
      clear HNB
      have r0 : (W1.setCell ⟨w.heap.size + 1, 7, none⟩ (.string ⟨#[]⟩)).cell? ⟨w.heap.size + 1, 0, none⟩ = some (.int .i64 0) := KS1.cell 0
      have r1 : (W1.setCell ⟨w.heap.size + 1, 7, none⟩ (.string ⟨#[]⟩)).cell? ⟨w.heap.size + 1, 1, none⟩ = some (.int .i64 0) := KS1.cell 1
      have r2 : (W1.setCell ⟨w.heap.size + 1, 7, none⟩ (.string ⟨#[]⟩)).cell? ⟨w.heap.size + 1, 2, none⟩ = some (.int .i64 0) := KS1.cell 2
      have r3 : (W1.setCell ⟨w.heap.size + 1, 7, none⟩ (.string ⟨#[]⟩)).cell? ⟨w.heap.size + 1, 3, none⟩ = some (.int .i64 0) := KS1.cell 3
      have r4 : (W1.setCell ⟨w.heap.size + 1, 7, none⟩ (.string ⟨#[]⟩)).cell? ⟨w.heap.size + 1, 4, none⟩ = some (.int .i64 0) := KS1.cell 4
      have r5 : (W1.setCell ⟨w.heap.size + 1, 7, none⟩ (.string ⟨#[]⟩)).cell? ⟨w.heap.size + 1, 5, none⟩ = some (.int .i64 k5) := KS1.cell 5
      have r6 : (W1.setCell ⟨w.heap.size + 1, 7, none⟩ (.string ⟨#[]⟩)).cell? ⟨w.heap.size + 1, 6, none⟩ = some (.int .i64 k6) := KS1.cell 6
      have r7 : (W1.setCell ⟨w.heap.size + 1, 7, none⟩ (.string ⟨#[]⟩)).cell? ⟨w.heap.size + 1, 7, none⟩ = some (.string ⟨#[]⟩) := KS1.cell 7
      have r8 : (W1.setCell ⟨w.heap.size + 1, 7, none⟩ (.string ⟨#[]⟩)).cell? ⟨w.heap.size + 1, 8, none⟩ = some (.string s8) := KS1.cell 8
      have q := fun w => opEq (0, (0, 0), (0, 0), (k5, k6), ⟨#[]⟩, s8) (0, (0, 0), (0, 0), (0, 0), ⟨#[]⟩, ⟨#[]⟩) w
      simp only [opA] at q
      obtain ⟨D, hD⟩ : ∃ D : Bool, decide (((0 : Int), ((0 : Int), (0 : Int)), ((0 : Int), (0 : Int)), (k5, k6), (⟨#[]⟩ : ByteArray), s8) = (0, (0, 0), (0, 0), (0, 0), ⟨#[]⟩, ⟨#[]⟩)) = D := ⟨_, rfl⟩
      rw [hD] at q
      clear KO KR KX KS0 KS1
      go_wp2_with fail
      go_ret
      refine ⟨D, rfl, ?_, (Below.setCell hB1 (p := ⟨w.heap.size + 1, 7, none⟩) (by show _ ≤ w.heap.size + 1; omega) _)⟩
      rw [← hD]
      rw [own3, decide_eq_true_iff]
      simp only [Prod.mk.injEq, and_true, true_and]
      exact ⟨fun h => ⟨h.1, hq.out, h.2⟩, fun h => ⟨h.1, h.2.2⟩⟩
  by_cases e4 : k0 = 4
  · subst e4
    clear KX
    go_wp2_with fail
    refine (CV.out _).mono ?_
    rintro e W1 ⟨rfl, rfl⟩
    have KX := KR
    have hl := KX.lt
    have KS0 : Blk W1 37 (w.heap.size + 1) #[.int .i64 0, .int .i64 0, .int .i64 0, .int .i64 0, .int .i64 0, .int .i64 k5, .int .i64 k6, .string s7, .string s8] := KX
    have y0 : W1.cell? ⟨w.heap.size + 1, 8, none⟩ = some (.string s8) := KS0.cell 8
    have z0 : W1.frozen? ⟨w.heap.size + 1, 8, none⟩ = false := KS0.free 8
    have KS1 := KS0.setAt 8 (.string ⟨#[]⟩)
    cases VB with
    | false =>
      have hv : Hid (¬ s8.size ≤ 64) := fun h => by have := HVB.out.2 h; cases this
      clear HVB
      clear KO KR KX CH CN KS0 KS1
      go_wp2_with fail
      go_ret
      refine ⟨false, rfl, ?_, (Below.setCell hB (p := ⟨w.heap.size + 1, 8, none⟩) (by show _ ≤ w.heap.size + 1; omega) _)⟩
      rw [own4]
      exact ⟨fun h => (by cases h), fun h => absurd h.2.2 hv.out⟩
    | true =>
      have hv : Hid (s8.size ≤ 64) := HVB.out.1 rfl
      clear HVB
      have r0 : (W1.setCell ⟨w.heap.size + 1, 8, none⟩ (.string ⟨#[]⟩)).cell? ⟨w.heap.size + 1, 0, none⟩ = some (.int .i64 0) := KS1.cell 0
      have r1 : (W1.setCell ⟨w.heap.size + 1, 8, none⟩ (.string ⟨#[]⟩)).cell? ⟨w.heap.size + 1, 1, none⟩ = some (.int .i64 0) := KS1.cell 1
      have r2 : (W1.setCell ⟨w.heap.size + 1, 8, none⟩ (.string ⟨#[]⟩)).cell? ⟨w.heap.size + 1, 2, none⟩ = some (.int .i64 0) := KS1.cell 2
      have r3 : (W1.setCell ⟨w.heap.size + 1, 8, none⟩ (.string ⟨#[]⟩)).cell? ⟨w.heap.size + 1, 3, none⟩ = some (.int .i64 0) := KS1.cell 3
      have r4 : (W1.setCell ⟨w.heap.size + 1, 8, none⟩ (.string ⟨#[]⟩)).cell? ⟨w.heap.size + 1, 4, none⟩ = some (.int .i64 0) := KS1.cell 4
      have r5 : (W1.setCell ⟨w.heap.size + 1, 8, none⟩ (.string ⟨#[]⟩)).cell? ⟨w.heap.size + 1, 5, none⟩ = some (.int .i64 k5) := KS1.cell 5
      have r6 : (W1.setCell ⟨w.heap.size + 1, 8, none⟩ (.string ⟨#[]⟩)).cell? ⟨w.heap.size + 1, 6, none⟩ = some (.int .i64 k6) := KS1.cell 6
      have r7 : (W1.setCell ⟨w.heap.size + 1, 8, none⟩ (.string ⟨#[]⟩)).cell? ⟨w.heap.size + 1, 7, none⟩ = some (.string s7) := KS1.cell 7
      have r8 : (W1.setCell ⟨w.heap.size + 1, 8, none⟩ (.string ⟨#[]⟩)).cell? ⟨w.heap.size + 1, 8, none⟩ = some (.string ⟨#[]⟩) := KS1.cell 8
      have q := fun w => opEq (0, (0, 0), (0, 0), (k5, k6), s7, ⟨#[]⟩) (0, (0, 0), (0, 0), (0, 0), ⟨#[]⟩, ⟨#[]⟩) w
      simp only [opA] at q
      obtain ⟨D, hD⟩ : ∃ D : Bool, decide (((0 : Int), ((0 : Int), (0 : Int)), ((0 : Int), (0 : Int)), (k5, k6), s7, (⟨#[]⟩ : ByteArray)) = (0, (0, 0), (0, 0), (0, 0), ⟨#[]⟩, ⟨#[]⟩)) = D := ⟨_, rfl⟩
      rw [hD] at q
      clear KO KR KX KS0 KS1
      go_wp2_with fail
      go_ret
      refine ⟨D, rfl, ?_, (Below.setCell hB (p := ⟨w.heap.size + 1, 8, none⟩) (by show _ ≤ w.heap.size + 1; omega) _)⟩
      rw [← hD]
      rw [own4, decide_eq_true_iff]
      simp only [Prod.mk.injEq, and_true, true_and]
      exact ⟨fun h => ⟨h.1, h.2, hv.out⟩, fun h => ⟨h.1, h.2.1⟩⟩
  by_cases e5 : k0 = 5
  · subst e5
    have r0 : W.cell? ⟨w.heap.size + 1, 0, none⟩ = some (.int .i64 0) := KR.cell 0
    have r1 : W.cell? ⟨w.heap.size + 1, 1, none⟩ = some (.int .i64 0) := KR.cell 1
    have r2 : W.cell? ⟨w.heap.size + 1, 2, none⟩ = some (.int .i64 0) := KR.cell 2
    have r3 : W.cell? ⟨w.heap.size + 1, 3, none⟩ = some (.int .i64 0) := KR.cell 3
    have r4 : W.cell? ⟨w.heap.size + 1, 4, none⟩ = some (.int .i64 0) := KR.cell 4
    have r5 : W.cell? ⟨w.heap.size + 1, 5, none⟩ = some (.int .i64 k5) := KR.cell 5
    have r6 : W.cell? ⟨w.heap.size + 1, 6, none⟩ = some (.int .i64 k6) := KR.cell 6
    have r7 : W.cell? ⟨w.heap.size + 1, 7, none⟩ = some (.string s7) := KR.cell 7
    have r8 : W.cell? ⟨w.heap.size + 1, 8, none⟩ = some (.string s8) := KR.cell 8
    have q := fun w => opEq (0, (0, 0), (0, 0), (k5, k6), s7, s8) (0, (0, 0), (0, 0), (0, 0), ⟨#[]⟩, ⟨#[]⟩) w
    simp only [opA] at q
    obtain ⟨D, hD⟩ : ∃ D : Bool, decide (((0 : Int), ((0 : Int), (0 : Int)), ((0 : Int), (0 : Int)), (k5, k6), s7, s8) = (0, (0, 0), (0, 0), (0, 0), ⟨#[]⟩, ⟨#[]⟩)) = D := ⟨_, rfl⟩
    rw [hD] at q
    clear KO KR KX 
    go_wp2_with fail
    go_ret
    refine ⟨D, rfl, ?_, hB⟩
    rw [← hD]
    rw [own5, decide_eq_true_iff]
    simp only [Prod.mk.injEq, and_true, true_and]
  · have E : Hid (¬ k0 = 1 ∧ ¬ k0 = 2 ∧ ¬ k0 = 3 ∧ ¬ k0 = 4 ∧ ¬ k0 = 5) := ⟨e1, e2, e3, e4, e5⟩
    clear KO KR KX CN CV CH
    go_wp2_with fail
    go_ret
    refine ⟨false, rfl, ⟨fun h => (by cases h), fun h => ?_⟩, hB⟩
    rcases h with h | h | h | h | h
    · exact absurd h.1 E.out.1
    · exact absurd h.1 E.out.2.1
    · exact absurd h.1 E.out.2.2.1
    · exact absurd h.1 E.out.2.2.2.1
    · exact absurd h.1 E.out.2.2.2.2
end Go.Proofs.YtjmbnoacbmmcdaaGreatDoor

/- The code's Check, Apply (layer 11). -/
namespace Go.Proofs.YtjmbnoacbmmcdaaGreatDoor
open Go.RowKit
set_option linter.unusedSimpArgs false

set_option maxRecDepth 100000 in
set_option maxHeartbeats 2000000 in
theorem check_any (M : OpT → Bool) (hM : ∀ o, M o = true ↔ MayO o) (o : OpT) (w : World) (hG : Glob8 w) (h7 : o.2.2.2.2.1.size ≤ 1048576) (h8 : o.2.2.2.2.2.size ≤ 9223372036854775807) :
    Calls Tryz.prog 9 #[.agg (opA o)] w fun e w' => e = .returned (.int .i64 (if M o = true then 0 else 1)) ∧ Below w.heap.size w w' := by
  have HM : Hid (M o = true ↔ (MayS o.2.1 ∧ MayS o.2.2.1 ∧ OwnF o)) := hM o
  have CO : Hid (∀ W, Below w.heap.size w W → Calls _ _ _ _ _) := fun W hW => hasItsOwn_any o W (hG.below hW) h7 h8
  obtain ⟨X, hX⟩ : ∃ X : Int, (if M o = true then 0 else 1) = X := ⟨_, rfl⟩
  rw [hX]
  have HX : Hid ((if M o = true then (0 : Int) else 1) = X) := hX
  clear hX hG h7 h8 hM
  obtain ⟨k0, ⟨k1, k2⟩, ⟨k3, k4⟩, ⟨k5, k6⟩, s7, s8⟩ := o
  have CA : Hid (∀ W, _) := isStamp_any (k1, k2)
  have CB : Hid (∀ W, _) := isStamp_any (k3, k4)
  obtain ⟨A, hA⟩ : ∃ A : Bool, decide (MayS (k1, k2)) = A := ⟨_, rfl⟩
  obtain ⟨B, hB⟩ : ∃ B : Bool, decide (MayS (k3, k4)) = B := ⟨_, rfl⟩
  rw [hA] at CA
  rw [hB] at CB
  have HA : Hid (A = true ↔ MayS (k1, k2)) := by show _ ↔ _; rw [← hA]; simp
  have HB : Hid (B = true ↔ MayS (k3, k4)) := by show _ ↔ _; rw [← hB]; simp
  simp only [stampV] at CA CB
  simp only [opA] at CO
  show Calls Tryz.prog _ #[.agg #[.int .i64 k0, .int .i64 k1, .int .i64 k2, .int .i64 k3, .int .i64 k4, .int .i64 k5, .int .i64 k6, .string s7, .string s8]] w _
  clear hA hB
  go_enter Tryz.func9, Tryz.ntmps9
  go_wp2_with fail
  refine (CA.out _).mono ?_
  rintro e W ⟨rfl, hb1⟩
  have KO := (Blk.new w 37 #[.int .i64 k0, .int .i64 k1, .int .i64 k2, .int .i64 k3, .int .i64 k4, .int .i64 k5, .int .i64 k6, .string s7, .string s8]).on hb1
  have hBw := below_step (below_new w _) (Nat.le_refl _) hb1
  clear CA hb1
  have d0 : W.cell? ⟨w.heap.size, 0, none⟩ = some (.int .i64 k0) := KO.cell 0
  have d1 : W.cell? ⟨w.heap.size, 1, none⟩ = some (.int .i64 k1) := KO.cell 1
  have d2 : W.cell? ⟨w.heap.size, 2, none⟩ = some (.int .i64 k2) := KO.cell 2
  have d3 : W.cell? ⟨w.heap.size, 3, none⟩ = some (.int .i64 k3) := KO.cell 3
  have d4 : W.cell? ⟨w.heap.size, 4, none⟩ = some (.int .i64 k4) := KO.cell 4
  have d5 : W.cell? ⟨w.heap.size, 5, none⟩ = some (.int .i64 k5) := KO.cell 5
  have d6 : W.cell? ⟨w.heap.size, 6, none⟩ = some (.int .i64 k6) := KO.cell 6
  have d7 : W.cell? ⟨w.heap.size, 7, none⟩ = some (.string s7) := KO.cell 7
  have d8 : W.cell? ⟨w.heap.size, 8, none⟩ = some (.string s8) := KO.cell 8
  cases A with
  | false =>
    have hx : X = 1 := by
      have h := HX.out
      rw [if_neg (fun h => by have := HA.out.2 (HM.out.1 h).1; cases this)] at h; exact h.symm
    subst hx
    clear KO CB CO HM HX HA HB
    go_wp2_with fail
    go_ret
    exact ⟨rfl, hBw⟩
  | true =>
    clear d1 d2
    go_wp2_with fail
    refine (CB.out _).mono ?_
    rintro e W2 ⟨rfl, hb2⟩
    replace KO := KO.on hb2
    replace hBw := below_step hBw (Nat.le_refl _) hb2
    clear CB hb2 d0 d3 d4 d5 d6 d7 d8
    obtain ⟨W, rfl⟩ : ∃ W, W = W2 := ⟨_, rfl⟩
    have d0 : W.cell? ⟨w.heap.size, 0, none⟩ = some (.int .i64 k0) := KO.cell 0
    have d1 : W.cell? ⟨w.heap.size, 1, none⟩ = some (.int .i64 k1) := KO.cell 1
    have d2 : W.cell? ⟨w.heap.size, 2, none⟩ = some (.int .i64 k2) := KO.cell 2
    have d3 : W.cell? ⟨w.heap.size, 3, none⟩ = some (.int .i64 k3) := KO.cell 3
    have d4 : W.cell? ⟨w.heap.size, 4, none⟩ = some (.int .i64 k4) := KO.cell 4
    have d5 : W.cell? ⟨w.heap.size, 5, none⟩ = some (.int .i64 k5) := KO.cell 5
    have d6 : W.cell? ⟨w.heap.size, 6, none⟩ = some (.int .i64 k6) := KO.cell 6
    have d7 : W.cell? ⟨w.heap.size, 7, none⟩ = some (.string s7) := KO.cell 7
    have d8 : W.cell? ⟨w.heap.size, 8, none⟩ = some (.string s8) := KO.cell 8
    cases B with
    | false =>
      have hx : X = 1 := by
        have h := HX.out
        rw [if_neg (fun h => by have := HB.out.2 (HM.out.1 h).2.1; cases this)] at h; exact h.symm
      subst hx
      clear KO CO HM HX HA HB
      go_wp2_with fail
      go_ret
      exact ⟨rfl, hBw⟩
    | true =>
      clear KO
      go_wp2_with fail
      refine (CO.out _ hBw).mono ?_
      rintro e W3 ⟨b, rfl, hb, hb3⟩
      replace hBw := below_step hBw (Nat.le_refl _) hb3
      have hx : X = if b = true then 0 else 1 := by
        rw [← HX.out]
        have : M (k0, (k1, k2), (k3, k4), (k5, k6), s7, s8) = true ↔ b = true := by rw [HM.out, hb]; exact ⟨fun h => h.2.2, fun h => ⟨HA.out.1 (by first | trivial | rfl), HB.out.1 (by first | trivial | rfl), h⟩⟩
        by_cases h : b = true
        · rw [if_pos h, if_pos (this.2 h)]
        · rw [if_neg h, if_neg (fun k => h (this.1 k))]
      subst hx
      clear CO hb3 hb HM HX HA HB d0 d1 d2 d3 d4 d5 d6 d7 d8
      cases b with
      | false =>
        go_wp2_with fail
        go_ret
        exact ⟨rfl, hBw⟩
      | true =>
        go_wp2_with fail
        go_ret
        exact ⟨rfl, hBw⟩
end Go.Proofs.YtjmbnoacbmmcdaaGreatDoor

/- The code's Apply (layer 11). -/
namespace Go.Proofs.YtjmbnoacbmmcdaaGreatDoor
open Go.RowKit
set_option linter.unusedSimpArgs false

set_option maxRecDepth 100000 in
set_option maxHeartbeats 4000000 in
theorem apply_any (M : OpT → Bool) (hM : ∀ o, M o = true ↔ MayO o) (g f m : Nat) (r : Option Nat) (T : TreeT) (o : OpT) (w : World) (h : TreeIn w g f m r T) (hG : Glob8 w) (hn : T.1.length + T.2.1.length ≤ 50000) (h7 : o.2.2.2.2.1.size ≤ 1048576) (h8 : o.2.2.2.2.2.size ≤ 9223372036854775807) :
    Calls Tryz.prog 11 #[.pointer (some ⟨g, 0, none⟩), .agg (opA o)] w fun e w' => e = .returned (.int .i64 (applyP M T o).2) ∧ ∃ r', TreeIn w' g f m r' (applyP M T o).1 ∧ KeptF (tfoot g f m r) w w' ∧ Nx w r r' := by
  have HT : Hid (TreeIn w g f m r T) := h
  obtain ⟨AT, hAT⟩ : ∃ AT, applyP M T o = AT := ⟨_, rfl⟩
  have HAT : Hid (applyP M T o = AT) := hAT
  rw [hAT]
  obtain ⟨sl, st, h1, h2, h3, h4, ms, h5, h6⟩ := h.obj
  have CC : Hid (∀ W, Below w.heap.size w W → Calls _ _ _ _ _) := fun W hW => check_any M hM o W (hG.below hW) h7 h8
  have CG : Hid (∀ W, Below w.heap.size w W → _) := fun W hW => given_any g W sl T.2.2 f m st (h2.on hW)
  have CP : Hid (∀ W, Below w.heap.size w W → _) := fun W hW => place_any g f m r T o.2.1 W (h.on hW) (by omega)
  have CF : Hid (∀ W, Below w.heap.size w W → _) := fun W hW => full_any g f m r T o.1 W (h.on hW) (by omega)
  have CL : Hid (∀ W, _) := less_any T.2.2 o.2.1
  have HOK := hM o
  obtain ⟨fx, ops, b1, b2⟩ := T
  obtain ⟨k0, ⟨k1, k2⟩, ⟨k3, k4⟩, ⟨k5, k6⟩, s7, s8⟩ := o
  obtain ⟨W0, hW0⟩ : ∃ W0, w.alloc (.cells #[.int .i64 k0, .int .i64 k1, .int .i64 k2, .int .i64 k3, .int .i64 k4, .int .i64 k5, .int .i64 k6, .string s7, .string s8] 37) = W0 := ⟨_, rfl⟩
  have HW0 : Hid (w.alloc (.cells #[.int .i64 k0, .int .i64 k1, .int .i64 k2, .int .i64 k3, .int .i64 k4, .int .i64 k5, .int .i64 k6, .string s7, .string s8] 37) = W0) := hW0
  have hB0 : Below w.heap.size w W0 := by rw [← hW0]; exact below_new _ _
  have K0 : Blk W0 37 w.heap.size #[.int .i64 k0, .int .i64 k1, .int .i64 k2, .int .i64 k3, .int .i64 k4, .int .i64 k5, .int .i64 k6, .string s7, .string s8] := by rw [← hW0]; exact Blk.new _ _ _
  have HB2 : Hid (Blk w 62 g (treeC g f m sl (b1, b2) st)) := h2
  have HK0 : Hid (∀ W, Below W0.heap.size W0 W → Blk W 37 w.heap.size #[.int .i64 k0, .int .i64 k1, .int .i64 k2, .int .i64 k3, .int .i64 k4, .int .i64 k5, .int .i64 k6, .string s7, .string s8]) := fun W hW => K0.on hW
  have HSS : Hid (∀ W, Below W0.heap.size W0 W → (W.cell? ⟨g, 1, none⟩ = some (.int .i64 b1) ∧ W.cell? ⟨g, 2, none⟩ = some (.int .i64 b2)) ∧ (W.cell? ⟨w.heap.size, 0, none⟩ = some (.int .i64 k0) ∧ W.cell? ⟨w.heap.size, 1, none⟩ = some (.int .i64 k1) ∧ W.cell? ⟨w.heap.size, 2, none⟩ = some (.int .i64 k2) ∧ W.cell? ⟨w.heap.size, 3, none⟩ = some (.int .i64 k3) ∧ W.cell? ⟨w.heap.size, 4, none⟩ = some (.int .i64 k4) ∧ W.cell? ⟨w.heap.size, 5, none⟩ = some (.int .i64 k5) ∧ W.cell? ⟨w.heap.size, 6, none⟩ = some (.int .i64 k6) ∧ W.cell? ⟨w.heap.size, 7, none⟩ = some (.string s7) ∧ W.cell? ⟨w.heap.size, 8, none⟩ = some (.string s8))) := fun W hW => by
    have a := K0.on hW
    have b := (h2.on hB0).on hW
    exact ⟨⟨b.cell 1, b.cell 2⟩, a.cell 0, a.cell 1, a.cell 2, a.cell 3, a.cell 4, a.cell 5, a.cell 6, a.cell 7, a.cell 8⟩
  simp only [stampV, opA] at CC CP CF CL
  show Calls Tryz.prog _ #[_, .agg #[.int .i64 k0, .int .i64 k1, .int .i64 k2, .int .i64 k3, .int .i64 k4, .int .i64 k5, .int .i64 k6, .string s7, .string s8]] w _
  obtain ⟨L, hL⟩ : ∃ L : Bool, decide (LessS (b1, b2) (k1, k2)) = L := ⟨_, rfl⟩
  rw [hL] at CL
  have HL : Hid (L = true ↔ LessS (b1, b2) (k1, k2)) := by show _ ↔ _; rw [← hL]; simp
  obtain ⟨D, hD⟩ : ∃ D : Bool, dupO (k1, k2) ops = D := ⟨_, rfl⟩
  obtain ⟨P, hP⟩ : ∃ P, lowO (k1, k2) ops = P := ⟨_, rfl⟩
  rw [hD, hP] at CP
  have HD : Hid (dupO (k1, k2) ops = D) := hD
  have HP : Hid (lowO (k1, k2) ops = P) := hP
  obtain ⟨F, hF⟩ : ∃ F : Bool, decide (512 ≤ ops.length ∨ (k0 = 1 ∧ 512 ≤ fx.length + creO ops)) = F := ⟨_, rfl⟩
  rw [hF] at CF
  have HF : Hid (F = true ↔ (512 ≤ ops.length ∨ (k0 = 1 ∧ 512 ≤ fx.length + creO ops))) := by show _ ↔ _; rw [← hF]; simp
  clear hL hD hP hF
  have hBd := hB0.drew
  have hS0 := HSS.out W0 (Below.refl _ _)
  have HN : Hid (fx.length + ops.length ≤ 50000) := hn
  have K0' : Hid (w.heap.size < W0.heap.size) := K0.lt
  have HO : Hid (OwnO w 0 sl ops) := h3
  have HF' : Hid (MapN w f fx) := h4
  have HM' : Hid (MapN w m ms) := h5
  have HR : Hid (sl.ownBlock = r) := h1
  clear h h1 h2 h3 h4 h5 h6 hW0 hAT hn h7 h8 hG hM K0
  go_enter Tryz.func11, Tryz.ntmps11
  go_wp2_with fail
  rw [HW0.out]
  refine wp_region_noPanic ?_
  refine wp_region_held_drew (S := fun W => (W.cell? ⟨g, 1, none⟩ = some (.int .i64 b1) ∧ W.cell? ⟨g, 2, none⟩ = some (.int .i64 b2)) ∧ (W.cell? ⟨w.heap.size, 0, none⟩ = some (.int .i64 k0) ∧ W.cell? ⟨w.heap.size, 1, none⟩ = some (.int .i64 k1) ∧ W.cell? ⟨w.heap.size, 2, none⟩ = some (.int .i64 k2) ∧ W.cell? ⟨w.heap.size, 3, none⟩ = some (.int .i64 k3) ∧ W.cell? ⟨w.heap.size, 4, none⟩ = some (.int .i64 k4) ∧ W.cell? ⟨w.heap.size, 5, none⟩ = some (.int .i64 k5) ∧ W.cell? ⟨w.heap.size, 6, none⟩ = some (.int .i64 k6) ∧ W.cell? ⟨w.heap.size, 7, none⟩ = some (.string s7) ∧ W.cell? ⟨w.heap.size, 8, none⟩ = some (.string s8))) (by kernel_rfl) (by first | exact trivial | assumption | exact ⟨by assumption, by assumption⟩) (fun hHeld => ?_)
  refine tk 0 (v := ?_) rfl rfl ?_ ?_
  rotate_left
  · intro w hSw; (try dsimp only at hSw); go_simp; try with_reducible rfl
  try simp only [Act.put, za, zb, zc]
  refine wpAnyH_ready (rs := [1]) (by kernel_rfl) (by simp) ?_
  refine AllReadyH.cons rfl (fun K hK => ?_) AllReadyH.nil
  go_simp
  refine (CG.out _ hBd).mono ?_
  rintro e w1 ⟨rfl, rfl⟩
  refine hK.out _ _ (HSS.out _ (Below.refl _ _).drew) (fun hHeld => ?_)
  clear hK K
  refine tk 2 (v := ?_) rfl rfl ?_ ?_
  rotate_left
  · intro w hSw; (try dsimp only at hSw); go_simp; try with_reducible rfl
  try simp only [Act.put, za, zb, zc]
  refine tk 3 (v := ?_) rfl rfl ?_ ?_
  rotate_left
  · intro w hSw; (try dsimp only at hSw); go_simp; try with_reducible rfl
  try simp only [Act.put, za, zb, zc]
  refine tk 4 (v := ?_) rfl rfl ?_ ?_
  rotate_left
  · intro w hSw; (try dsimp only at hSw); go_simp; try with_reducible rfl
  try simp only [Act.put, za, zb, zc]
  refine wpAnyH_ready (rs := [5]) (by kernel_rfl) (by simp) ?_
  refine AllReadyH.cons rfl (fun K hK => ?_) AllReadyH.nil
  go_simp
  refine (CC.out _ hBd).mono ?_
  rintro e w2 ⟨rfl, hb2⟩
  have hBn : Below W0.heap.size W0 w2 := below_step (Below.refl _ _).drew (Nat.le_refl _) hb2
  clear CC CG hb2 hBd
  refine hK.out _ _ (HSS.out _ hBn) (fun hHeld => ?_)
  clear hK K
  cases hm : M (k0, (k1, k2), (k3, k4), (k5, k6), s7, s8) with
  | false =>
    have hat : AT = ((fx, ops, b1, b2), 1) := by rw [← HAT.out]; unfold applyP; rw [if_pos (.inl hm)]
    subst hat
    clear CP CF CL HOK HN
    rw [if_neg (by simp)]
    refine tk 6 (v := ?_) rfl rfl ?_ ?_
    rotate_left
    · intro w hSw; (try dsimp only at hSw); go_simp; try with_reducible rfl
    try simp only [Act.put, za, zb, zc]
    refine tk 7 (v := ?_) rfl rfl ?_ ?_
    rotate_left
    · intro w hSw; (try dsimp only at hSw); go_simp; try with_reducible rfl
    try simp only [Act.put, za, zb, zc]
    refine tk 8 (v := ?_) rfl rfl ?_ ?_
    rotate_left
    · intro w hSw; (try dsimp only at hSw); go_simp; try with_reducible rfl
    try simp only [Act.put, za, zb, zc]
    refine tn 9 rfl rfl ?_
    try simp only [Act.put, za, zb, zc]
    refine tn 10 rfl rfl ?_
    try simp only [Act.put, za, zb, zc]
    refine tn 11 rfl rfl ?_
    try simp only [Act.put, za, zb, zc]
    refine tn 12 rfl rfl ?_
    try simp only [Act.put, za, zb, zc]
    refine tn 13 rfl rfl ?_
    try simp only [Act.put, za, zb, zc]
    refine tn 14 rfl rfl ?_
    try simp only [Act.put, za, zb, zc]
    refine tn 15 rfl rfl ?_
    try simp only [Act.put, za, zb, zc]
    refine tn 16 rfl rfl ?_
    try simp only [Act.put, za, zb, zc]
    refine tk 17 (v := ?_) rfl rfl ?_ ?_
    rotate_left
    · intro w hSw; (try dsimp only at hSw); go_simp; try with_reducible rfl
    try simp only [Act.put, za, zb, zc]
    refine wpAnyH_done (by kernel_rfl) (NoPanic.normal ?_) _
    go_wp2_with fail
    go_ret
    exact ⟨rfl, r, HT.out.on (below_step hB0 (Nat.le_refl _) hBn), KeptF.ofBelow _ (below_step hB0 (Nat.le_refl _) hBn), fun k hk => .inl hk⟩
  | true =>
    rw [if_pos rfl]
    refine tk 6 (v := ?_) rfl rfl ?_ ?_
    rotate_left
    · intro w hSw; (try dsimp only at hSw); go_simp; try with_reducible rfl
    try simp only [Act.put, za, zb, zc]
    refine tk 7 (v := ?_) rfl rfl ?_ ?_
    rotate_left
    · intro w hSw; (try dsimp only at hSw); go_simp; try with_reducible rfl
    try simp only [Act.put, za, zb, zc]
    refine tk 8 (v := ?_) rfl rfl ?_ ?_
    rotate_left
    · intro w hSw; (try dsimp only at hSw); go_simp; try with_reducible rfl
    try simp only [Act.put, za, zb, zc]
    refine tk 9 (v := ?_) rfl rfl ?_ ?_
    rotate_left
    · intro w hSw; (try dsimp only at hSw); go_simp; try with_reducible rfl
    try simp only [Act.put, za, zb, zc]
    refine tk 10 (v := ?_) rfl rfl ?_ ?_
    rotate_left
    · intro w hSw; (try dsimp only at hSw); go_simp; try with_reducible rfl
    try simp only [Act.put, za, zb, zc]
    refine tk 11 (v := ?_) rfl rfl ?_ ?_
    rotate_left
    · intro w hSw; (try dsimp only at hSw); go_simp; try with_reducible rfl
    try simp only [Act.put, za, zb, zc]
    refine tk 12 (v := ?_) rfl rfl ?_ ?_
    rotate_left
    · intro w hSw; (try dsimp only at hSw); go_simp; try with_reducible rfl
    try simp only [Act.put, za, zb, zc]
    refine tk 13 (v := ?_) rfl rfl ?_ ?_
    rotate_left
    · intro w hSw; (try dsimp only at hSw); go_simp; try with_reducible rfl
    try simp only [Act.put, za, zb, zc]
    refine tk 14 (v := ?_) rfl rfl ?_ ?_
    rotate_left
    · intro w hSw; (try dsimp only at hSw); go_simp; try with_reducible rfl
    try simp only [Act.put, za, zb, zc]
    refine wpAnyH_ready (rs := [15]) (by kernel_rfl) (by simp) ?_
    refine AllReadyH.cons rfl (fun K hK => ?_) AllReadyH.nil
    go_simp
    refine (CL.out _).mono ?_
    rintro e w3 ⟨rfl, hb3⟩
    replace hBn := below_step hBn (Nat.le_refl _) hb3
    clear CL hb3
    refine hK.out _ _ (HSS.out _ hBn) (fun hHeld => ?_)
    clear hK K
    cases L with
    | false =>
      have hat : AT = ((fx, ops, b1, b2), 1) := by rw [← HAT.out]; unfold applyP; rw [if_pos (.inr (fun h => by have := HL.out.2 h; cases this))]
      subst hat
      clear CP CF HOK HN HL
      refine tk 16 (v := ?_) rfl rfl ?_ ?_
      rotate_left
      · intro w hSw; (try dsimp only at hSw); go_simp; try with_reducible rfl
      try simp only [Act.put, za, zb, zc]
      refine tk 17 (v := ?_) rfl rfl ?_ ?_
      rotate_left
      · intro w hSw; (try dsimp only at hSw); go_simp; try with_reducible rfl
      try simp only [Act.put, za, zb, zc]
      refine wpAnyH_done (by kernel_rfl) (NoPanic.normal ?_) _
      go_wp2_with fail
      go_ret
      exact ⟨rfl, r, HT.out.on (below_step hB0 (Nat.le_refl _) hBn), KeptF.ofBelow _ (below_step hB0 (Nat.le_refl _) hBn), fun k hk => .inl hk⟩
    | true =>
      have hls : LessS (b1, b2) (k1, k2) := HL.out.1 rfl
      have HLS : Hid (LessS (b1, b2) (k1, k2)) := hls
      clear hls HL
      refine tk 16 (v := ?_) rfl rfl ?_ ?_
      rotate_left
      · intro w hSw; (try dsimp only at hSw); go_simp; try with_reducible rfl
      try simp only [Act.put, za, zb, zc]
      refine tk 17 (v := ?_) rfl rfl ?_ ?_
      rotate_left
      · intro w hSw; (try dsimp only at hSw); go_simp; try with_reducible rfl
      try simp only [Act.put, za, zb, zc]
      refine wpAnyH_done (by kernel_rfl) (NoPanic.normal ?_) _
      obtain ⟨_, d0, d1, d2, d3, d4, d5, d6, d7, d8⟩ := HSS.out _ hBn
      go_wp2_with fail
      refine (CP.out _ (below_step hB0 (Nat.le_refl _) hBn)).mono ?_
      rintro e w4 ⟨rfl, hb4⟩
      replace hBn := below_step hBn (Nat.le_refl _) hb4
      clear CP hb4 d0 d1 d2 d3 d4 d5 d6 d7 d8
      have hmn : ¬ (M (k0, (k1, k2), (k3, k4), (k5, k6), s7, s8) = false ∨ ¬ LessS (b1, b2) (k1, k2)) := fun h => by
        rcases h with h | h
        · rw [hm] at h; cases h
        · exact h HLS.out
      have HMN : Hid (¬ (M (k0, (k1, k2), (k3, k4), (k5, k6), s7, s8) = false ∨ ¬ LessS (b1, b2) (k1, k2))) := hmn
      clear hmn
      cases D with
      | true =>
        have hat : AT = ((fx, ops, b1, b2), 0) := by rw [← HAT.out]; unfold applyP; rw [if_neg HMN.out, if_pos HD.out]
        subst hat
        clear CF HOK HN HMN HD
        go_wp2_with fail
        go_ret
        exact ⟨rfl, r, HT.out.on (below_step hB0 (Nat.le_refl _) hBn), KeptF.ofBelow _ (below_step hB0 (Nat.le_refl _) hBn), fun k hk => .inl hk⟩
      | false =>
        obtain ⟨_, d0, d1, d2, d3, d4, d5, d6, d7, d8⟩ := HSS.out _ hBn
        go_wp2_with fail
        refine (CF.out _ (below_step hB0 (Nat.le_refl _) hBn)).mono ?_
        rintro e w5 ⟨rfl, hb5⟩
        replace hBn := below_step hBn (Nat.le_refl _) hb5
        clear CF hb5 d0 d1 d2 d3 d4 d5 d6 d7 d8
        have HDN : Hid (¬ dupO (k1, k2) ops = true) := fun h => by rw [HD.out] at h; cases h
        cases F with
        | true =>
          have hat : AT = ((fx, ops, b1, b2), 2) := by rw [← HAT.out]; unfold applyP; rw [if_neg HMN.out, if_neg HDN.out, if_pos (HF.out.1 (by first | trivial | rfl))]
          subst hat
          clear HOK HN HMN HD HF
          go_wp2_with fail
          go_ret
          exact ⟨rfl, r, HT.out.on (below_step hB0 (Nat.le_refl _) hBn), KeptF.ofBelow _ (below_step hB0 (Nat.le_refl _) hBn), fun k hk => .inl hk⟩
        | false =>
          have hat : AT = ((fx, putO (k0, (k1, k2), (k3, k4), (k5, k6), s7, s8) ops, b1, b2), 0) := by
            rw [← HAT.out]; unfold applyP; rw [if_neg HMN.out, if_neg HDN.out, if_neg (fun h => by have := HF.out.2 h; cases this)]
          subst hat
          clear HMN HF
          have HTT : Hid (∀ W, Blk W 37 w.heap.size #[.int .i64 k0, .int .i64 k1, .int .i64 k2, .int .i64 k3, .int .i64 k4, .int .i64 k5, .int .i64 k6, .string s7, .string s8] → (W.cell? ⟨w.heap.size, 0, none⟩ = some (.int .i64 k0) ∧ W.cell? ⟨w.heap.size, 1, none⟩ = some (.int .i64 k1) ∧ W.cell? ⟨w.heap.size, 2, none⟩ = some (.int .i64 k2) ∧ W.cell? ⟨w.heap.size, 3, none⟩ = some (.int .i64 k3) ∧ W.cell? ⟨w.heap.size, 4, none⟩ = some (.int .i64 k4) ∧ W.cell? ⟨w.heap.size, 5, none⟩ = some (.int .i64 k5) ∧ W.cell? ⟨w.heap.size, 6, none⟩ = some (.int .i64 k6) ∧ W.cell? ⟨w.heap.size, 7, none⟩ = some (.string s7) ∧ W.cell? ⟨w.heap.size, 8, none⟩ = some (.string s8))) := fun W a => ⟨a.cell 0, a.cell 1, a.cell 2, a.cell 3, a.cell 4, a.cell 5, a.cell 6, a.cell 7, a.cell 8⟩
          clear HSS hS0
          go_wp2_with fail
          have hS : w5.drew.cell? ⟨g, 4, none⟩ = some sl := ((HB2.out.on hB0).on hBn.drew).cell 4
          have hT : (w5.drew.cell? ⟨w.heap.size, 0, none⟩ = some (.int .i64 k0) ∧ w5.drew.cell? ⟨w.heap.size, 1, none⟩ = some (.int .i64 k1) ∧ w5.drew.cell? ⟨w.heap.size, 2, none⟩ = some (.int .i64 k2) ∧ w5.drew.cell? ⟨w.heap.size, 3, none⟩ = some (.int .i64 k3) ∧ w5.drew.cell? ⟨w.heap.size, 4, none⟩ = some (.int .i64 k4) ∧ w5.drew.cell? ⟨w.heap.size, 5, none⟩ = some (.int .i64 k5) ∧ w5.drew.cell? ⟨w.heap.size, 6, none⟩ = some (.int .i64 k6) ∧ w5.drew.cell? ⟨w.heap.size, 7, none⟩ = some (.string s7) ∧ w5.drew.cell? ⟨w.heap.size, 8, none⟩ = some (.string s8)) := HTT.out _ (HK0.out _ hBn.drew)
          refine wp_region_noPanic ?_
          refine till_begin 8 (fun W => W.cell? ⟨g, 4, none⟩ = some sl) (fun W => (W.cell? ⟨w.heap.size, 0, none⟩ = some (.int .i64 k0) ∧ W.cell? ⟨w.heap.size, 1, none⟩ = some (.int .i64 k1) ∧ W.cell? ⟨w.heap.size, 2, none⟩ = some (.int .i64 k2) ∧ W.cell? ⟨w.heap.size, 3, none⟩ = some (.int .i64 k3) ∧ W.cell? ⟨w.heap.size, 4, none⟩ = some (.int .i64 k4) ∧ W.cell? ⟨w.heap.size, 5, none⟩ = some (.int .i64 k5) ∧ W.cell? ⟨w.heap.size, 6, none⟩ = some (.int .i64 k6) ∧ W.cell? ⟨w.heap.size, 7, none⟩ = some (.string s7) ∧ W.cell? ⟨w.heap.size, 8, none⟩ = some (.string s8))) (by kernel_rfl) ?_
          refine till_take (i := 0) (v := ?_) rfl rfl (by kernel_rfl) (by kernel_rfl) (by kernel_rfl) rfl (fun _ _ _ h => h) (Or.inl ⟨by rfl, ?_⟩) (by assumption) (fun _ => by assumption) ?_
          rotate_left
          · intro w hSw; (try dsimp only at hSw); go_simp; try with_reducible rfl
          try simp only [Act.put, za, zb, zc]
          refine till_take (i := 1) (v := ?_) rfl rfl (by kernel_rfl) (by kernel_rfl) (by kernel_rfl) rfl (fun _ _ _ h => h) (Or.inl ⟨by rfl, ?_⟩) (by assumption) (fun _ => by assumption) ?_
          rotate_left
          · intro w hSw; (try dsimp only at hSw); go_simp; try with_reducible rfl
          try simp only [Act.put, za, zb, zc]
          refine till_take (i := 2) (v := ?_) rfl rfl (by kernel_rfl) (by kernel_rfl) (by kernel_rfl) rfl (fun _ _ _ h => h) (Or.inl ⟨by rfl, ?_⟩) (by assumption) (fun _ => by assumption) ?_
          rotate_left
          · intro w hSw; (try dsimp only at hSw); go_simp; try with_reducible rfl
          try simp only [Act.put, za, zb, zc]
          refine till_take (i := 3) (v := ?_) rfl rfl (by kernel_rfl) (by kernel_rfl) (by kernel_rfl) rfl (fun _ _ _ h => h) (Or.inl ⟨by rfl, ?_⟩) (by assumption) (fun _ => by assumption) ?_
          rotate_left
          · intro w hSw; (try dsimp only at hSw); go_simp; try with_reducible rfl
          try simp only [Act.put, za, zb, zc]
          refine till_take (i := 5) (v := ?_) rfl rfl (by kernel_rfl) (by kernel_rfl) (by kernel_rfl) rfl (fun _ _ _ h => h) (Or.inl ⟨by rfl, ?_⟩) (by assumption) (fun _ => by assumption) ?_
          rotate_left
          · intro w hSw; (try dsimp only at hSw); go_simp; try with_reducible rfl
          try simp only [Act.put, za, zb, zc]
          refine till_take (i := 6) (v := ?_) rfl rfl (by kernel_rfl) (by kernel_rfl) (by kernel_rfl) rfl (fun _ _ _ h => h) (Or.inl ⟨by rfl, ?_⟩) (by assumption) (fun _ => by assumption) ?_
          rotate_left
          · intro w hSw; (try dsimp only at hSw); go_simp; try with_reducible rfl
          try simp only [Act.put, za, zb, zc]
          refine till_take' (i := 4) (v := ?_) rfl rfl (by kernel_rfl) (by kernel_rfl) (by kernel_rfl) rfl (by kernel_rfl) (by kernel_rfl) (fun _ _ _ h => h) (Or.inl ⟨by rfl, ?_⟩) (by assumption) (by assumption) ?_
          rotate_left
          · intro w hSw; (try dsimp only at hSw); go_simp; try with_reducible rfl
          try simp only [Act.put, za, zb, zc]
          refine till_step (i := 7) (by kernel_rfl) rfl (fun K hK => ?_)
          go_simp
          have hB6 : Below W0.heap.size W0 (w5.alloc (.cells #[.int .i64 k0, .int .i64 k1, .int .i64 k2, .int .i64 k3, .int .i64 k4, .int .i64 k5, .int .i64 k6, .string s7, .string s8] 37)).drew := (below_step hBn (Nat.le_refl _) (below_new _ _)).drew
          have KV : Blk (w5.alloc (.cells #[.int .i64 k0, .int .i64 k1, .int .i64 k2, .int .i64 k3, .int .i64 k4, .int .i64 k5, .int .i64 k6, .string s7, .string s8] 37)).drew 37 w5.heap.size #[.int .i64 k0, .int .i64 k1, .int .i64 k2, .int .i64 k3, .int .i64 k4, .int .i64 k5, .int .i64 k6, .string s7, .string s8] := (Blk.new w5 _ _).on (Below.refl _ _).drew
          have hvb : w.heap.size < w5.heap.size := by have := hBn.size; have := K0'.out; omega
          obtain ⟨w6, hw6⟩ : ∃ w6, (w5.alloc (.cells #[.int .i64 k0, .int .i64 k1, .int .i64 k2, .int .i64 k3, .int .i64 k4, .int .i64 k5, .int .i64 k6, .string s7, .string s8] 37)).drew = w6 := ⟨_, rfl⟩
          rw [hw6] at hB6 KV ⊢
          obtain ⟨vb, hv⟩ : ∃ vb, w5.heap.size = vb := ⟨_, rfl⟩
          rw [hv] at KV hvb ⊢
          clear hw6 hv hS hT
          refine hK.out _ _ (HTT.out _ (HK0.out _ hB6)) (fun _ => ((HB2.out.on hB0).on hB6).cell 4) ?_
          clear hK K
          have hB6w : Below w.heap.size w w6 := below_step hB0 (Nat.le_refl _) hB6
          have hO6 : OwnO w6 0 sl ops := own_on2 HO.out hB6w
          have hsb : ∀ k, sl.ownBlock = some k → k < w.heap.size := fun k hk => (World.ownsRow.lt HO.out k hk).2
          have CI : Hid (Calls _ _ _ _ _) := insert_any ops (k0, (k1, k2), (k3, k4), (k5, k6), s7, s8) P (by rw [← HP.out]; exact List.findIdx_le_length) sl vb w6 hO6 (by have := HN.out; omega) KV (fun e => by have := hsb _ e; omega)
          have hrf : ∀ k, sl.ownBlock = some k → k ≠ f := fun k hk => own_map HO.out HF'.out hk
          have hrm : ∀ k, sl.ownBlock = some k → k ≠ m := fun k hk => own_map HO.out HM'.out hk
          have hrg : ∀ k, sl.ownBlock = some k → k ≠ g := fun k hk => own_blk HO.out HB2.out hk
          refine till_step (i := 8) (by kernel_rfl) rfl (fun K hK => ?_)
          go_simp
          refine CI.out.mono ?_
          rintro e w7 ⟨sl', rfl, hO7, hg7, hx7⟩
          obtain ⟨a', n', c', rfl⟩ : ∃ a' n' c', sl' = Value.slice a' n' c' := by
            obtain ⟨a, c, e, _⟩ := OwnO.ops hO7
            exact ⟨_, _, _, e⟩
          have hB7 : Blk w7 62 g (treeC g f m sl (b1, b2) st) := (HB2.out.on hB6w).grown hg7 (fun e => hrg _ e.symm rfl)
          have hK7 : Blk w7 37 w.heap.size #[.int .i64 k0, .int .i64 k1, .int .i64 k2, .int .i64 k3, .int .i64 k4, .int .i64 k5, .int .i64 k6, .string s7, .string s8] := (HK0.out _ hB6).grown hg7 (fun e => by have := hsb _ e.symm; omega)
          have hF7 : MapN w7 f fx := (HF'.out.on hB6w).grown hg7 (fun e => hrf _ e.symm rfl)
          have hM7 : MapN w7 m ms := (HM'.out.on hB6w).grown hg7 (fun e => hrm _ e.symm rfl)
          have hKF : KeptF (tfoot g f m r) w w7 := (KeptF.ofBelow _ hB6w).grown hg7 (fun j e _ => .inr (.inr (.inr (by rw [← HR.out]; exact e.symm))))
          clear CI hg7 KV hO6
          refine hK.out _ _ (HTT.out _ hK7) (fun h => till_no (by kernel_rfl) h) ?_
          clear hK K
          have hT := HTT.out _ hK7
          refine till_take (i := 9) (v := ?_) rfl rfl (by kernel_rfl) (by kernel_rfl) (by kernel_rfl) rfl (fun _ _ _ h => h) (Or.inl ⟨by rfl, ?_⟩) (by assumption) (fun h => till_no (by kernel_rfl) h) ?_
          rotate_left
          · intro w hSw; (try dsimp only at hSw); go_simp; try with_reducible rfl
          try simp only [Act.put, za, zb, zc]
          refine till_take (i := 10) (v := ?_) rfl rfl (by kernel_rfl) (by kernel_rfl) (by kernel_rfl) rfl (fun _ _ _ h => h) (Or.inl ⟨by rfl, ?_⟩) (by assumption) (fun h => till_no (by kernel_rfl) h) ?_
          rotate_left
          · intro w hSw; (try dsimp only at hSw); go_simp; try with_reducible rfl
          try simp only [Act.put, za, zb, zc]
          have c4 : w7.cell? ⟨g, 4, none⟩ = some sl := hB7.cell 4
          have z4 : w7.frozen? ⟨g, 4, none⟩ = false := hB7.free 4
          refine till_step (i := 11) (by kernel_rfl) rfl (fun K hK => ?_)
          go_simp
          have hT8 := HTT.out _ (show Blk (w7.setCell ⟨g, 4, none⟩ (Value.slice a' n' c')) 37 w.heap.size #[.int .i64 k0, .int .i64 k1, .int .i64 k2, .int .i64 k3, .int .i64 k4, .int .i64 k5, .int .i64 k6, .string s7, .string s8] from hK7.grown (grown_set w7 g 4 (Value.slice a' n' c')) (fun e => by have := HB2.out.lt; cases e; omega))
          have B8 : Blk (w7.setCell ⟨g, 4, none⟩ (Value.slice a' n' c')) 62 g (treeC g f m (Value.slice a' n' c') (b1, b2) st) := hB7.setAt 4 (Value.slice a' n' c')
          refine hK.out _ _ hT8 (fun h => till_no (by kernel_rfl) h) ?_
          clear hK K
          refine till_done (by kernel_rfl) (NoPanic.normal ?_) _
          have hsg : ∀ k, (Value.slice a' n' c').ownBlock = some k → k ≠ g := fun k hk => by
            rcases hx7 k hk with h' | h'
            · exact hrg k h'
            · have := hB6w.size; have := HB2.out.lt; omega
          have hO8 : OwnO (w7.setCell ⟨g, 4, none⟩ (Value.slice a' n' c')) 0 (Value.slice a' n' c') (ops.take P ++ (k0, (k1, k2), (k3, k4), (k5, k6), s7, s8) :: ops.drop P) := own_grown hO7 (grown_set _ _ _ _) (fun k hk e => hsg k hk (by cases e; rfl))
          have hgf := blk_map HB2.out HF'.out
          have hgm := blk_map HB2.out HM'.out
          have hF8 : MapN (w7.setCell ⟨g, 4, none⟩ (Value.slice a' n' c')) f fx := hF7.grown (grown_set _ _ _ _) (fun e => hgf (by cases e; rfl))
          have hM8 : MapN (w7.setCell ⟨g, 4, none⟩ (Value.slice a' n' c')) m ms := hM7.grown (grown_set _ _ _ _) (fun e => hgm (by cases e; rfl))
          have hK8 : KeptF (tfoot g f m r) w (w7.setCell ⟨g, 4, none⟩ (Value.slice a' n' c')) := hKF.setCell g 4 _ (fun _ => .inl rfl)
          have HX7 : Hid (Nx w r (Value.slice a' n' c').ownBlock) := fun k hk => by
            rcases hx7 k hk with h' | h'
            · rw [HR.out] at h'; exact .inl h'
            · have := hB6w.size; exact .inr (by omega)
          obtain ⟨w8, hw8⟩ : ∃ w8, w7.setCell ⟨g, 4, none⟩ (Value.slice a' n' c') = w8 := ⟨_, rfl⟩
          rw [hw8] at B8 hO8 hF8 hM8 hK8 ⊢
          have c6 : w8.cell? ⟨g, 6, none⟩ = some (.bool st) := B8.cell 6
          have z6 : w8.frozen? ⟨g, 6, none⟩ = false := B8.free 6
          have HB8 : Hid (Blk w8 62 g (treeC g f m (Value.slice a' n' c') (b1, b2) st)) := B8
          have HO8 : Hid (OwnO w8 0 (Value.slice a' n' c') (putO (k0, (k1, k2), (k3, k4), (k5, k6), s7, s8) ops)) := by
            show OwnO _ _ _ _
            unfold putO
            rw [pos_low HT.out.ok.sort, if_neg HDN.out, Nat.add_zero]
            show OwnO _ _ _ (List.take (lowO (k1, k2) ops) ops ++ _ :: List.drop (lowO (k1, k2) ops) ops)
            rw [HP.out]; exact hO8
          have HF8 : Hid (MapN w8 f fx) := hF8
          have HM8 : Hid (MapN w8 m ms) := hM8
          have HK8 : Hid (KeptF (tfoot g f m r) w w8) := hK8
          have HSG : Hid (∀ k, (Value.slice a' n' c').ownBlock = some k → k ≠ g) := hsg
          have HMAY : Hid (MayO (k0, (k1, k2), (k3, k4), (k5, k6), s7, s8)) := HOK.1 hm
          have HG2 : Hid (g ≠ f ∧ g ≠ m) := ⟨hgf, hgm⟩
          clear hw8 B8 hO8 hF8 hM8 hK8 hO7 hF7 hM7 hKF hB7 hK7 hT hT8 c4 z4 hx7 hsg hrf hrm hrg hsb HOK hgf hgm
          go_wp2_with fail
          go_ret
          refine ⟨rfl, (Value.slice a' n' c').ownBlock, ⟨⟨HT.out.ok.rooted, putO_sort _ _ HT.out.ok.sort HD.out, fun o ho => ?_⟩, HT.out.ne, (Value.slice a' n' c'), true, rfl, HB8.out.setAt 6 (.bool true), own_grown HO8.out (grown_set _ _ _ _) (fun k hk e => HSG.out k hk (by cases e; rfl)), HF8.out.grown (grown_set _ _ _ _) (fun e => HG2.out.1 (by cases e; rfl)), ms, HM8.out.grown (grown_set _ _ _ _) (fun e => HG2.out.2 (by cases e; rfl)), fun e => by cases e⟩, HK8.out.setCell g 6 _ (fun _ => .inl rfl), HX7.out⟩
          rcases (putO_mem _ _ _).1 ho with rfl | h'
          · exact HMAY.out
          · exact HT.out.ok.may _ h'
end Go.Proofs.YtjmbnoacbmmcdaaGreatDoor

/- Layer 11 on plain data: what is for good. -/
namespace Go.Proofs.YtjmbnoacbmmcdaaGreatDoor
open Go.RowKit
set_option linter.unusedSimpArgs false

/-- A tree with the operations that do not stand behind a stamp done for good; how many these were. -/
def compactP (t : TreeT) (s : Int × Int) : TreeT × Nat :=
  if MayS s then ((nodesP t.1 (t.2.1.take (posO s t.2.1)), t.2.1.drop (posO s t.2.1), if LessS t.2.2 s then s else t.2.2), posO s t.2.1) else (t, 0)
end Go.Proofs.YtjmbnoacbmmcdaaGreatDoor

/- The code's Compact (layer 11). -/
namespace Go.Proofs.YtjmbnoacbmmcdaaGreatDoor
open Go.RowKit
set_option linter.unusedSimpArgs false

set_option maxRecDepth 100000 in
set_option maxHeartbeats 4000000 in
theorem compact_any (g f m : Nat) (r : Option Nat) (T : TreeT) (s : Int × Int) (w : World) (h : TreeIn w g f m r T) (hn : T.1.length + T.2.1.length ≤ 50000) :
    Calls Tryz.prog 13 #[.pointer (some ⟨g, 0, none⟩), stampV s] w fun e w' => e = .returned (.int .i64 ((compactP T s).2 : Int)) ∧ ∃ r', TreeIn w' g f m r' (compactP T s).1 ∧ KeptF (tfoot g f m r) w w' ∧ Nx w r r' := by
  have HT : Hid (TreeIn w g f m r T) := h
  obtain ⟨AT, hAT⟩ : ∃ AT, compactP T s = AT := ⟨_, rfl⟩
  have HAT : Hid (compactP T s = AT) := hAT
  rw [hAT]
  obtain ⟨sl, st, h1, h2, h3, h4, ms, h5, h6⟩ := h.obj
  have CG : Hid (∀ W, Below w.heap.size w W → _) := fun W hW => given_any g W sl T.2.2 f m st (h2.on hW)
  have CM : Hid (∀ W, _) := isStamp_any s
  have CP : Hid (∀ W, Below w.heap.size w W → _) := fun W hW => place_any g f m r T s W (h.on hW) (by omega)
  have CL : Hid (∀ W, _) := less_any T.2.2 s
  have hpl := pos_low (s := s) h.ok.sort
  obtain ⟨fx, ops, b1, b2⟩ := T
  obtain ⟨x, y⟩ := s
  obtain ⟨W0, hW0⟩ : ∃ W0, w.alloc (.cells #[.int .i64 x, .int .i64 y] 25) = W0 := ⟨_, rfl⟩
  have HW0 : Hid (w.alloc (.cells #[.int .i64 x, .int .i64 y] 25) = W0) := hW0
  have hB0 : Below w.heap.size w W0 := by rw [← hW0]; exact below_new _ _
  have K0 : Blk W0 25 w.heap.size #[.int .i64 x, .int .i64 y] := by rw [← hW0]; exact Blk.new _ _ _
  have HN : Hid (fx.length + ops.length ≤ 50000) := hn
  have HB2 : Hid (Blk w 62 g (treeC g f m sl (b1, b2) st)) := h2
  have HO : Hid (OwnO w 0 sl ops) := h3
  have HF' : Hid (MapN w f fx) := h4
  have HM' : Hid (MapN w m ms) := h5
  have HR : Hid (sl.ownBlock = r) := h1
  have HST : Hid (st = false → ms = nodesP fx ops) := h6
  simp only [stampV] at CM CP CL ⊢
  obtain ⟨A, hA⟩ : ∃ A : Bool, decide (MayS (x, y)) = A := ⟨_, rfl⟩
  rw [hA] at CM
  have HA : Hid (A = true ↔ MayS (x, y)) := by show _ ↔ _; rw [← hA]; simp
  obtain ⟨L, hL⟩ : ∃ L : Bool, decide (LessS (b1, b2) (x, y)) = L := ⟨_, rfl⟩
  rw [hL] at CL
  have HL : Hid (L = true ↔ LessS (b1, b2) (x, y)) := by show _ ↔ _; rw [← hL]; simp
  obtain ⟨D, hD⟩ : ∃ D : Bool, dupO (x, y) ops = D := ⟨_, rfl⟩
  obtain ⟨P, hP⟩ : ∃ P, lowO (x, y) ops = P := ⟨_, rfl⟩
  obtain ⟨n, hnn⟩ : ∃ n, posO (x, y) ops = n := ⟨_, rfl⟩
  have hle := posO_le (x, y) ops
  simp only at hpl
  rw [hnn] at hle
  rw [hnn, hP, hD] at hpl
  rw [hD, hP] at CP
  have HNN : Hid (posO (x, y) ops = n) := hnn
  have HLE : Hid (n ≤ ops.length) := hle
  have HPL : Hid (n = P + (if D = true then 1 else 0)) := hpl
  have d0 : W0.cell? ⟨w.heap.size, 0, none⟩ = some (.int .i64 x) := K0.cell 0
  have d1 : W0.cell? ⟨w.heap.size, 1, none⟩ = some (.int .i64 y) := K0.cell 1
  have HK0 : Hid (Blk W0 25 w.heap.size #[.int .i64 x, .int .i64 y]) := K0
  clear h h1 h2 h3 h4 h5 h6 hW0 hAT hn hA hL hD hP hnn hle hpl K0
  go_enter Tryz.func13, Tryz.ntmps13
  go_wp2_with fail
  rw [HW0.out]
  refine (CG.out _ hB0).mono ?_
  rintro e w1 ⟨rfl, rfl⟩
  clear CG
  go_wp2_with fail
  refine (CM.out _).mono ?_
  rintro e w2 ⟨rfl, hb2⟩
  clear CM d0 d1
  have hBn := below_step hB0 (Nat.le_refl _) hb2
  have hK2 := HK0.out.on hb2
  have d0 : w2.cell? ⟨w.heap.size, 0, none⟩ = some (.int .i64 x) := hK2.cell 0
  have d1 : w2.cell? ⟨w.heap.size, 1, none⟩ = some (.int .i64 y) := hK2.cell 1
  have HK2 : Hid (Blk w2 25 w.heap.size #[.int .i64 x, .int .i64 y]) := hK2
  clear hK2 HK0 hb2 HW0
  cases A with
  | false =>
    have hat : AT = ((fx, ops, b1, b2), 0) := by rw [← HAT.out]; unfold compactP; rw [if_neg (fun h => by have := HA.out.2 h; cases this)]
    subst hat
    clear CP CL HN HA HL
    go_wp2_with fail
    go_ret
    exact ⟨rfl, r, HT.out.on hBn, KeptF.ofBelow _ hBn, fun k hk => .inl hk⟩
  | true =>
    have hat : AT = ((nodesP fx (ops.take n), ops.drop n, if LessS (b1, b2) (x, y) then (x, y) else (b1, b2)), n) := by
      rw [← HAT.out]; unfold compactP; rw [if_pos (HA.out.1 rfl)]
      simp only [HNN.out]
    subst hat
    clear HA HAT
    go_wp2_with fail
    refine (CP.out _ hBn).mono ?_
    rintro e w3 ⟨rfl, hb3⟩
    replace hBn := below_step hBn (Nat.le_refl _) hb3
    have HK3 : Hid (Blk w3 25 w.heap.size #[.int .i64 x, .int .i64 y]) := HK2.out.on hb3
    clear CP hb3 HK2 d0 d1
    have e4 : w3.cell? ⟨g, 4, none⟩ = some sl := (HB2.out.on hBn).cell 4
    rcases HO.out.blk with ⟨rfl, he⟩ | ⟨gb, cap, cur, rfl, _, hb, hc1, hc2, hc3, hc4⟩
    · have hn0 : n = 0 := by have := HLE.out; rw [he] at this; simpa using this
      have HG2 : Hid (g ≠ f ∧ g ≠ m ∧ f ≠ m) := ⟨blk_map HB2.out HF'.out, blk_map HB2.out HM'.out, HT.out.ne⟩
      have HLT : Hid (g < w.heap.size ∧ f < w.heap.size ∧ m < w.heap.size) := ⟨HB2.out.lt, HF'.out.lt, HM'.out.lt⟩
      have HX4 : Hid (∀ j, (Value.slice none 0 0).ownBlock = some j → j ≠ f ∧ j ≠ m ∧ j ≠ g ∧ j < w.heap.size) := fun j hj => by cases hj
      have hP0 : P = 0 := by have := HPL.out; rw [hn0] at this; omega
      have hD0 : D = false := by
        cases D with
        | false => rfl
        | true => have := HPL.out; simp at this; omega
      subst hn0 hP0 hD0
      have HB : Hid (Blk w3 62 g (treeC g f m (.slice none 0 0) (b1, b2) st)) := HB2.out.on hBn
      have HO' : Hid (OwnO w3 0 (.slice none 0 0) ops) := own_on2 HO.out hBn
      have HF : Hid (MapN w3 f (nodesP fx (ops.take 0))) := HF'.out.on hBn
      have HM : Hid (MapN w3 m ms) := HM'.out.on hBn
      have HK : Hid (KeptF (tfoot g f m r) w w3) := KeptF.ofBelow _ hBn
      have HE : Hid (ops = []) := he
      clear he hBn HB2 HF' HM'
      go_wp2_with fail
      go_loopw [33] (fun i wr => i = .int .i64 0 ∧ Hid (wr = w3)) (fun _ _ => 0)
      case atStart => exact ⟨rfl, rfl⟩
      case round =>
        obtain ⟨rfl, HWR⟩ := hrel
        obtain rfl := HWR.out
        have CX : Hid (Calls _ _ _ _ _) := delete_any ops 0 (Nat.zero_le _) _ wr HO'.out (by have := HN.out; omega)
        have HS := HK3
        have c4 : wr.cell? ⟨g, 4, none⟩ = some (.slice none 0 0) := HB.out.cell 4
        go_wp2_with fail
        refine CX.out.mono ?_
        rintro e w4 ⟨sl', rfl, hO4, hg4, hsb⟩
        obtain ⟨a', n', c', rfl⟩ : ∃ a' n' c', sl' = Value.slice a' n' c' := by
          obtain ⟨a, c, e, _⟩ := OwnO.ops hO4
          exact ⟨_, _, _, e⟩
        have hB4 := HB.out.grown hg4 (fun e => (HX4.out _ e.symm).2.2.1 rfl)
        have hF4 := HF.out.grown hg4 (fun e => (HX4.out _ e.symm).1 rfl)
        have hM4 := HM.out.grown hg4 (fun e => (HX4.out _ e.symm).2.1 rfl)
        have hS4 := HS.out.grown hg4 (fun e => by have := (HX4.out _ e.symm).2.2.2; omega)
        have hK4 := HK.out.grown hg4 (fun j e _ => .inr (.inr (.inr (by rw [← HR.out]; exact e.symm))))
        have c4 : w4.cell? ⟨g, 4, none⟩ = some _ := hB4.cell 4
        have z4 : w4.frozen? ⟨g, 4, none⟩ = false := hB4.free 4
        have hgg := grown_set w4 g 4 (.slice a' n' c')
        have HB5 : Hid (Blk (w4.setCell ⟨g, 4, none⟩ (.slice a' n' c')) 62 g (treeC g f m (.slice a' n' c') (b1, b2) st)) := hB4.setAt 4 _
        have HO5 : Hid (OwnO (w4.setCell ⟨g, 4, none⟩ (.slice a' n' c')) 0 (.slice a' n' c') (ops.drop 0)) := own_grown hO4 hgg (fun j hj e => (HX4.out j (by rw [← hsb]; exact hj)).2.2.1 (by cases e; rfl))
        have HF5 : Hid (MapN (w4.setCell ⟨g, 4, none⟩ (.slice a' n' c')) f (nodesP fx (ops.take 0))) := hF4.grown hgg (fun e => HG2.out.1 (by cases e; rfl))
        have HM5 : Hid (MapN (w4.setCell ⟨g, 4, none⟩ (.slice a' n' c')) m ms) := hM4.grown hgg (fun e => HG2.out.2.1 (by cases e; rfl))
        have HS5 : Hid (Blk (w4.setCell ⟨g, 4, none⟩ (.slice a' n' c')) 25 w.heap.size #[.int .i64 x, .int .i64 y]) := hS4.grown hgg (fun e => by have := HLT.out.1; cases e; omega)
        have HK5 : Hid (KeptF (tfoot g f m r) w (w4.setCell ⟨g, 4, none⟩ (.slice a' n' c'))) := hK4.setCell g 4 _ (fun _ => .inl rfl)
        have HR5 : Hid ((Value.slice a' n' c').ownBlock = r) := hsb.trans HR.out
        clear hB4 hF4 hM4 hS4 hK4 hO4 hg4 hsb HB HO HF HM HS HK CX
        go_wp2_with fail
        obtain ⟨w5, hw5⟩ : ∃ w5, w4.setCell ⟨g, 4, none⟩ (.slice a' n' c') = w5 := ⟨_, rfl⟩
        rw [hw5] at HB5 HO5 HF5 HM5 HS5 HK5 ⊢
        clear hw5 hgg c4 z4
        have c1 : ∀ p : Beh w5, p.w'.cell? ⟨g, 1, none⟩ = some (.int .i64 b1) := fun p => p.cell (HB5.out.cell 1)
        have c2 : ∀ p : Beh w5, p.w'.cell? ⟨g, 2, none⟩ = some (.int .i64 b2) := fun p => p.cell (HB5.out.cell 2)
        have e1 : ∀ p : Beh w5, p.w'.cell? ⟨w.heap.size, 0, none⟩ = some (.int .i64 x) := fun p => p.cell (HS5.out.cell 0)
        have e2 : ∀ p : Beh w5, p.w'.cell? ⟨w.heap.size, 1, none⟩ = some (.int .i64 y) := fun p => p.cell (HS5.out.cell 1)
        have hne_ : Nonempty (Beh w5) := ⟨⟨_, Below.refl _ _⟩⟩
        refine wp_region_quiet_beh (by kernel_rfl) (by kernel_rfl) ?_
        repeat (quiet_step (first | (go_at_call 32; refine Calls.beh_of (CL.out _))))
        refine wpQuiet_nil ?_
        intro wq hw_
        obtain ⟨⟨wz_, hbq⟩, hw_⟩ := hw_
        subst hw_
        try dsimp only
        clear hne_
        have hB6 := HB5.out.on hbq
        have hS6 := HS5.out.on hbq
        have HO6 : Hid (OwnO wq 0 (.slice a' n' c') (ops.drop 0)) := own_on2 HO5.out hbq
        have HF6 : Hid (MapN wq f (nodesP fx (ops.take 0))) := HF5.out.on hbq
        have HM6 : Hid (MapN wq m ms) := HM5.out.on hbq
        have HK6 : Hid (KeptF (tfoot g f m r) w wq) := HK5.out.on hbq
        have HOK : Hid (∀ b : Int × Int, TreeOk (nodesP fx (ops.take 0), ops.drop 0, b)) := fun _ => ⟨rooted_nodes HT.out.ok.rooted _ (fun o ho => HT.out.ok.may o (List.mem_of_mem_take ho)), List.Pairwise.sublist (List.drop_sublist _ _) HT.out.ok.sort, fun o ho => HT.out.ok.may o (List.mem_of_mem_drop ho)⟩
        have HMS : Hid (st = false → ms = nodesP (nodesP fx (ops.take 0)) (ops.drop 0)) := fun e => by rw [← nodesP_app, List.take_append_drop]; exact HST.out e
        clear c1 c2 e1 e2 HB5 HO5 HF5 HM5 HS5 HK5 hbq CL
        cases L with
        | false =>
          have HLS : Hid (¬ LessS (b1, b2) (x, y)) := fun h => by have := HL.out.2 h; cases this
          have HB6 : Hid (Blk wq 62 g (treeC g f m (.slice a' n' c') (b1, b2) st)) := hB6
          clear hB6 hS6 HL
          go_wp2_with fail
          go_ret
          refine ⟨rfl, r, ⟨HOK.out _, HG2.out.2.2, _, st, HR5.out, ?_, HO6.out, HF6.out, ms, HM6.out, HMS.out⟩, HK6.out, fun k hk => .inl hk⟩
          first | exact HB6.out | (rw [if_neg HLS.out]; exact HB6.out)
        | true =>
          have HLS : Hid (LessS (b1, b2) (x, y)) := HL.out.1 (by first | trivial | rfl)
          have d0 : wq.cell? ⟨w.heap.size, 0, none⟩ = some (.int .i64 x) := hS6.cell 0
          have d1 : wq.cell? ⟨w.heap.size, 1, none⟩ = some (.int .i64 y) := hS6.cell 1
          have y0 : wq.cell? ⟨g, 1, none⟩ = some (.int .i64 b1) := hB6.cell 1
          have z0 : wq.frozen? ⟨g, 1, none⟩ = false := hB6.free 1
          have hB7 := hB6.setAt 1 (.int .i64 x)
          have y1 : (wq.setCell ⟨g, 1, none⟩ (.int .i64 x)).cell? ⟨g, 2, none⟩ = some (.int .i64 b2) := hB7.cell 2
          have z1 : (wq.setCell ⟨g, 1, none⟩ (.int .i64 x)).frozen? ⟨g, 2, none⟩ = false := hB7.free 2
          have HB8 : Hid (Blk ((wq.setCell ⟨g, 1, none⟩ (.int .i64 x)).setCell ⟨g, 2, none⟩ (.int .i64 y)) 62 g (treeC g f m (.slice a' n' c') (x, y) st)) := hB7.setAt 2 (.int .i64 y)
          clear hB6 hS6 hB7 HL
          go_wp2_with fail
          go_ret
          have G1 := grown_set wq g 1 (.int .i64 x)
          have G2 := grown_set (wq.setCell ⟨g, 1, none⟩ (.int .i64 x)) g 2 (.int .i64 y)
          have hjg : ∀ j, (Value.slice a' n' c').ownBlock = some j → j ≠ g := fun j hj => (HX4.out j (by rw [HR.out, ← HR5.out]; exact hj)).2.2.1
          refine ⟨rfl, r, ⟨HOK.out _, HG2.out.2.2, _, st, HR5.out, ?_, own_grown (own_grown HO6.out G1 (fun j hj e => hjg j hj (by cases e; rfl))) G2 (fun j hj e => hjg j hj (by cases e; rfl)), (HF6.out.grown G1 (fun e => HG2.out.1 (by cases e; rfl))).grown G2 (fun e => HG2.out.1 (by cases e; rfl)), ms, (HM6.out.grown G1 (fun e => HG2.out.2.1 (by cases e; rfl))).grown G2 (fun e => HG2.out.2.1 (by cases e; rfl)), HMS.out⟩, (HK6.out.setCell g 1 _ (fun _ => .inl rfl)).setCell g 2 _ (fun _ => .inl rfl), fun k hk => .inl hk⟩
          first | exact HB8.out | (rw [if_pos HLS.out]; exact HB8.out)
    · have HC : Hid (Blk w 37 gb cur) := hb
      have h50 := HN.out
      have hle := HLE.out
      obtain ⟨N, hNl⟩ : ∃ N, ops.length = N := ⟨_, rfl⟩
      rw [hNl] at h50 hle hc1 e4 HO HB2 HR
      have HNl : Hid (ops.length = N) := hNl
      cases D with
      | true =>
        have hq : n = P + 1 := by have := HPL.out; simpa using this
        have hq1 : (P : Int) + 1 = (n : Int) := by omega
        have hq2 : (n : Int) ≤ (cap : Int) := by omega
        have hq3 : (n : Int) ≤ (N : Int) := by omega
        clear hc3 hc4 hb hq hNl
        go_wp2_with fail
        clear hq1
        have HG2 : Hid (g ≠ f ∧ g ≠ m ∧ f ≠ m) := ⟨blk_map HB2.out HF'.out, blk_map HB2.out HM'.out, HT.out.ne⟩
        have HG3 : Hid (gb ≠ f ∧ gb ≠ m ∧ gb ≠ g) := ⟨own_map HO.out HF'.out rfl, own_map HO.out HM'.out rfl, own_blk HO.out HB2.out rfl⟩
        have HLT : Hid (g < w.heap.size ∧ f < w.heap.size ∧ m < w.heap.size ∧ gb < w.heap.size) := ⟨HB2.out.lt, HF'.out.lt, HM'.out.lt, (World.ownsRow.lt HO.out gb rfl).2⟩
        have HB3 : Hid (Blk w3 62 g (treeC g f m (.slice (some ⟨gb, 0, none⟩) N cap) (b1, b2) st)) := HB2.out.on hBn
        have HO3 : Hid (OwnO w3 0 (.slice (some ⟨gb, 0, none⟩) N cap) ops) := own_on2 HO.out hBn
        have HF3 : Hid (MapN w3 f (nodesP fx (ops.take 0))) := HF'.out.on hBn
        have HM3 : Hid (MapN w3 m ms) := HM'.out.on hBn
        have HKF : Hid (KeptF (tfoot g f m r) w w3) := KeptF.ofBelow _ hBn
        clear hBn HB2 HO HF' HM' HC e4
        go_loopw [33] (fun i wr => ∃ k : Nat, k ≤ n ∧ i = .int .i64 k ∧ Hid (Blk wr 62 g (treeC g f m (.slice (some ⟨gb, 0, none⟩) N cap) (b1, b2) st)) ∧ Hid (OwnO wr 0 (.slice (some ⟨gb, 0, none⟩) N cap) ops) ∧ Hid (MapN wr f (nodesP fx (ops.take k))) ∧ Hid (MapN wr m ms) ∧ Hid (Blk wr 25 w.heap.size #[.int .i64 x, .int .i64 y]) ∧ Hid (KeptF (tfoot g f m r) w wr)) (fun i _ => n - (intOf i).toNat)
        case atStart => exact ⟨0, Nat.zero_le _, rfl, HB3, HO3, HF3, HM3, HK3, HKF⟩
        case round =>
          clear HB3 HO3 HF3 HM3 HK3 HKF
          obtain ⟨k, hk, rfl, HB, HO, HF, HM, HS, HK⟩ := hrel
          by_cases hlt : k < n
          · have b0 : (k : Int) < (n : Int) := by omega
            have hat : OpsAt wr (some ⟨gb, 0, none⟩) N ops := by
              obtain ⟨a', cap', e', hat, _⟩ := OwnO.ops HO.out
              rw [HNl.out] at e' hat
              cases e'
              exact hat
            have hkN : k < N := by omega
            obtain ⟨x0, x1, x2, x3, x4, x5, x6, x7, x8⟩ := hat.cells k hkN
            have hmay : MayO (oL ops k) := HT.out.ok.may _ (by show _ ∈ ops; rw [oL_get ops k (by rw [HNl.out]; exact hkN)]; exact List.getElem_mem _)
            have hroot : Rooted (nodesP fx (ops.take k)) := rooted_nodes HT.out.ok.rooted _ (fun o ho => HT.out.ok.may o (List.mem_of_mem_take ho))
            have hstep : nodesP fx (ops.take (k + 1)) = doC (nodesP fx (ops.take k)) (oL ops k) := by rw [nodesP_step fx ops k (by rw [HNl.out]; exact hkN), doP_C hroot hmay]
            have hlen : (nodesP fx (ops.take k)).length ≤ 1048576 := by
              have := nodesP_len fx (ops.take k)
              have h9 := HN.out
              rw [List.length_take] at this
              omega
            have HSP : Hid (nodesP fx (ops.take (k + 1)) = doC (nodesP fx (ops.take k)) (oL ops k)) := hstep
            have CD : Hid (∀ W, MapN W f (nodesP fx (ops.take k)) → _) := fun W hW => do_any (nodesP fx (ops.take k)) f (oL ops k) W hW hlen
            obtain ⟨⟨k0, ⟨k1, k2⟩, ⟨k3, k4⟩, ⟨k5, k6⟩, s7, s8⟩, hkk⟩ : ∃ s, s = oL ops k := ⟨_, rfl⟩
            rw [← hkk] at x0 x1 x2 x3 x4 x5 x6 x7 x8 CD HSP
            simp only [opA] at CD
            simp only [Nat.zero_add] at x0 x1 x2 x3 x4 x5 x6 x7 x8
            clear hkk hstep hmay hroot hlen hat
            go_wp2_with fail
            obtain ⟨W0', hW0⟩ : ∃ W0', wr.alloc (.cells #[.int .i64 k0, .int .i64 k1, .int .i64 k2, .int .i64 k3, .int .i64 k4, .int .i64 k5, .int .i64 k6, .string s7, .string s8] 37) = W0' := ⟨_, rfl⟩
            rw [hW0]
            have hB0 : Below wr.heap.size wr W0' := by rw [← hW0]; exact below_new _ _
            have K0 : Blk W0' 37 wr.heap.size #[.int .i64 k0, .int .i64 k1, .int .i64 k2, .int .i64 k3, .int .i64 k4, .int .i64 k5, .int .i64 k6, .string s7, .string s8] := by rw [← hW0]; exact Blk.new _ _ _
            have hBt := HB.out.on hB0
            have hMt := HF.out.on hB0
            have hml := HF.out.lt
            have HSS : Hid (∀ W, Blk W 37 wr.heap.size #[.int .i64 k0, .int .i64 k1, .int .i64 k2, .int .i64 k3, .int .i64 k4, .int .i64 k5, .int .i64 k6, .string s7, .string s8] → Blk W 62 g (treeC g f m (.slice (some ⟨gb, 0, none⟩) N cap) (b1, b2) st) → W.cell? ⟨g, 3, none⟩ = some (.map (some f)) ∧ (W.cell? ⟨wr.heap.size, 0, none⟩ = some (.int .i64 k0) ∧ W.cell? ⟨wr.heap.size, 1, none⟩ = some (.int .i64 k1) ∧ W.cell? ⟨wr.heap.size, 2, none⟩ = some (.int .i64 k2) ∧ W.cell? ⟨wr.heap.size, 3, none⟩ = some (.int .i64 k3) ∧ W.cell? ⟨wr.heap.size, 4, none⟩ = some (.int .i64 k4) ∧ W.cell? ⟨wr.heap.size, 5, none⟩ = some (.int .i64 k5) ∧ W.cell? ⟨wr.heap.size, 6, none⟩ = some (.int .i64 k6) ∧ W.cell? ⟨wr.heap.size, 7, none⟩ = some (.string s7) ∧ W.cell? ⟨wr.heap.size, 8, none⟩ = some (.string s8))) := fun W a b => ⟨b.cell 3, a.cell 0, a.cell 1, a.cell 2, a.cell 3, a.cell 4, a.cell 5, a.cell 6, a.cell 7, a.cell 8⟩
            have hS0 := HSS.out W0' K0 hBt
            clear hW0 x0 x1 x2 x3 x4 x5 x6 x7 x8
            refine wp_region_noPanic ?_
            refine wp_region_held_drew (S := fun W => W.cell? ⟨g, 3, none⟩ = some (.map (some f)) ∧ (W.cell? ⟨wr.heap.size, 0, none⟩ = some (.int .i64 k0) ∧ W.cell? ⟨wr.heap.size, 1, none⟩ = some (.int .i64 k1) ∧ W.cell? ⟨wr.heap.size, 2, none⟩ = some (.int .i64 k2) ∧ W.cell? ⟨wr.heap.size, 3, none⟩ = some (.int .i64 k3) ∧ W.cell? ⟨wr.heap.size, 4, none⟩ = some (.int .i64 k4) ∧ W.cell? ⟨wr.heap.size, 5, none⟩ = some (.int .i64 k5) ∧ W.cell? ⟨wr.heap.size, 6, none⟩ = some (.int .i64 k6) ∧ W.cell? ⟨wr.heap.size, 7, none⟩ = some (.string s7) ∧ W.cell? ⟨wr.heap.size, 8, none⟩ = some (.string s8))) (by kernel_rfl) (by first | exact trivial | assumption | exact ⟨by assumption, by assumption⟩) (fun hHeld => ?_)
            refine tk 0 (v := ?_) rfl rfl ?_ ?_
            rotate_left
            · intro w hSw; (try dsimp only at hSw); go_simp; try with_reducible rfl
            try simp only [Act.put, za, zb, zc]
            refine tk 1 (v := ?_) rfl rfl ?_ ?_
            rotate_left
            · intro w hSw; (try dsimp only at hSw); go_simp; try with_reducible rfl
            try simp only [Act.put, za, zb, zc]
            refine tk 2 (v := ?_) rfl rfl ?_ ?_
            rotate_left
            · intro w hSw; (try dsimp only at hSw); go_simp; try with_reducible rfl
            try simp only [Act.put, za, zb, zc]
            refine tk 3 (v := ?_) rfl rfl ?_ ?_
            rotate_left
            · intro w hSw; (try dsimp only at hSw); go_simp; try with_reducible rfl
            try simp only [Act.put, za, zb, zc]
            refine tk 4 (v := ?_) rfl rfl ?_ ?_
            rotate_left
            · intro w hSw; (try dsimp only at hSw); go_simp; try with_reducible rfl
            try simp only [Act.put, za, zb, zc]
            refine wpAnyH_ready (rs := [5]) (by kernel_rfl) (by simp) ?_
            refine AllReadyH.cons rfl (fun K hK => ?_) AllReadyH.nil
            go_simp
            refine (CD.out W0'.drew (hMt.on (Below.refl _ _).drew)).mono ?_
            rintro e w4 ⟨rfl, hM4, hg4⟩
            obtain ⟨hgf, hgm, hfm⟩ := HG2.out
            obtain ⟨hbf, hbm, hbg⟩ := HG3.out
            have hB4 := (hBt.on (Below.refl _ _).drew).grown hg4 (fun e => hgf (by cases e; rfl))
            have K4 := (K0.on (Below.refl _ _).drew).grown hg4 (fun e => by cases e; omega)
            refine hK.out _ _ (HSS.out _ K4 hB4) (fun hHeld => ?_)
            clear hK K
            refine wpAnyH_done (by kernel_rfl) (NoPanic.normal ?_) _
            have HB4 : Hid (Blk w4 62 g (treeC g f m (.slice (some ⟨gb, 0, none⟩) N cap) (b1, b2) st)) := hB4
            have HF4 : Hid (MapN w4 f (nodesP fx (ops.take (k + 1)))) := by show MapN _ _ _; rw [HSP.out]; exact hM4
            have HM4 : Hid (MapN w4 m ms) := ((HM.out.on hB0).on (Below.refl _ _).drew).grown hg4 (fun e => hfm (by cases e; rfl))
            have HO4 : Hid (OwnO w4 0 (.slice (some ⟨gb, 0, none⟩) N cap) ops) := own_grown (own_on2 (own_on2 HO.out hB0) (Below.refl _ _).drew) hg4 (fun j hj e => by cases hj; cases e; exact hbf rfl)
            have HS4 : Hid (Blk w4 25 w.heap.size #[.int .i64 x, .int .i64 y]) := ((HS.out.on hB0).on (Below.refl _ _).drew).grown hg4 (fun e => by have := HLT.out.2.1; cases e; omega)
            have HK4 : Hid (KeptF (tfoot g f m r) w w4) := ((HK.out.on hB0).on (Below.refl _ _).drew).grown hg4 (fun j e _ => by cases e; exact .inr (.inl rfl))
            clear HB HO HF HM HK HS hB0 K0 hBt hMt hS0 hB4 K4 hM4 hg4 HSS HSP CD
            go_wp2_with fail
            refine ⟨⟨k + 1, by omega, by go_num, HB4, HO4, HF4, HM4, HS4, HK4⟩, ?_⟩
            simp [intOf]; omega
          · obtain rfl : k = n := by omega
            have b0 : ¬ ((k : Int) < (k : Int)) := by omega
            have c4 : wr.cell? ⟨g, 4, none⟩ = some (.slice (some ⟨gb, 0, none⟩) N cap) := HB.out.cell 4
            have CX : Hid (Calls _ _ _ _ _) := delete_any ops k HLE.out _ wr HO.out (by have := HN.out; omega)
            go_wp2_with fail
            refine CX.out.mono ?_
            have HX4 : Hid (∀ j, (Value.slice (some ⟨gb, 0, none⟩) N cap).ownBlock = some j → j ≠ f ∧ j ≠ m ∧ j ≠ g ∧ j < w.heap.size) := fun j hj => by
              cases hj
              exact ⟨HG3.out.1, HG3.out.2.1, HG3.out.2.2, HLT.out.2.2.2⟩
            rintro e w4 ⟨sl', rfl, hO4, hg4, hsb⟩
            obtain ⟨a', n', c', rfl⟩ : ∃ a' n' c', sl' = Value.slice a' n' c' := by
              obtain ⟨a, c, e, _⟩ := OwnO.ops hO4
              exact ⟨_, _, _, e⟩
            have hB4 := HB.out.grown hg4 (fun e => (HX4.out _ e.symm).2.2.1 rfl)
            have hF4 := HF.out.grown hg4 (fun e => (HX4.out _ e.symm).1 rfl)
            have hM4 := HM.out.grown hg4 (fun e => (HX4.out _ e.symm).2.1 rfl)
            have hS4 := HS.out.grown hg4 (fun e => by have := (HX4.out _ e.symm).2.2.2; omega)
            have hK4 := HK.out.grown hg4 (fun j e _ => .inr (.inr (.inr (by rw [← HR.out]; exact e.symm))))
            have c4 : w4.cell? ⟨g, 4, none⟩ = some _ := hB4.cell 4
            have z4 : w4.frozen? ⟨g, 4, none⟩ = false := hB4.free 4
            have hgg := grown_set w4 g 4 (.slice a' n' c')
            have HB5 : Hid (Blk (w4.setCell ⟨g, 4, none⟩ (.slice a' n' c')) 62 g (treeC g f m (.slice a' n' c') (b1, b2) st)) := hB4.setAt 4 _
            have HO5 : Hid (OwnO (w4.setCell ⟨g, 4, none⟩ (.slice a' n' c')) 0 (.slice a' n' c') (ops.drop k)) := own_grown hO4 hgg (fun j hj e => (HX4.out j (by rw [← hsb]; exact hj)).2.2.1 (by cases e; rfl))
            have HF5 : Hid (MapN (w4.setCell ⟨g, 4, none⟩ (.slice a' n' c')) f (nodesP fx (ops.take k))) := hF4.grown hgg (fun e => HG2.out.1 (by cases e; rfl))
            have HM5 : Hid (MapN (w4.setCell ⟨g, 4, none⟩ (.slice a' n' c')) m ms) := hM4.grown hgg (fun e => HG2.out.2.1 (by cases e; rfl))
            have HS5 : Hid (Blk (w4.setCell ⟨g, 4, none⟩ (.slice a' n' c')) 25 w.heap.size #[.int .i64 x, .int .i64 y]) := hS4.grown hgg (fun e => by have := HLT.out.1; cases e; omega)
            have HK5 : Hid (KeptF (tfoot g f m r) w (w4.setCell ⟨g, 4, none⟩ (.slice a' n' c'))) := hK4.setCell g 4 _ (fun _ => .inl rfl)
            have HR5 : Hid ((Value.slice a' n' c').ownBlock = r) := hsb.trans HR.out
            clear hB4 hF4 hM4 hS4 hK4 hO4 hg4 hsb HB HO HF HM HS HK CX
            go_wp2_with fail
            obtain ⟨w5, hw5⟩ : ∃ w5, w4.setCell ⟨g, 4, none⟩ (.slice a' n' c') = w5 := ⟨_, rfl⟩
            rw [hw5] at HB5 HO5 HF5 HM5 HS5 HK5 ⊢
            clear hw5 hgg c4 z4
            have c1 : ∀ p : Beh w5, p.w'.cell? ⟨g, 1, none⟩ = some (.int .i64 b1) := fun p => p.cell (HB5.out.cell 1)
            have c2 : ∀ p : Beh w5, p.w'.cell? ⟨g, 2, none⟩ = some (.int .i64 b2) := fun p => p.cell (HB5.out.cell 2)
            have e1 : ∀ p : Beh w5, p.w'.cell? ⟨w.heap.size, 0, none⟩ = some (.int .i64 x) := fun p => p.cell (HS5.out.cell 0)
            have e2 : ∀ p : Beh w5, p.w'.cell? ⟨w.heap.size, 1, none⟩ = some (.int .i64 y) := fun p => p.cell (HS5.out.cell 1)
            have hne_ : Nonempty (Beh w5) := ⟨⟨_, Below.refl _ _⟩⟩
            refine wp_region_quiet_beh (by kernel_rfl) (by kernel_rfl) ?_
            repeat (quiet_step (first | (go_at_call 32; refine Calls.beh_of (CL.out _))))
            refine wpQuiet_nil ?_
            intro wq hw_
            obtain ⟨⟨wz_, hbq⟩, hw_⟩ := hw_
            subst hw_
            try dsimp only
            clear hne_
            have hB6 := HB5.out.on hbq
            have hS6 := HS5.out.on hbq
            have HO6 : Hid (OwnO wq 0 (.slice a' n' c') (ops.drop k)) := own_on2 HO5.out hbq
            have HF6 : Hid (MapN wq f (nodesP fx (ops.take k))) := HF5.out.on hbq
            have HM6 : Hid (MapN wq m ms) := HM5.out.on hbq
            have HK6 : Hid (KeptF (tfoot g f m r) w wq) := HK5.out.on hbq
            have HOK : Hid (∀ b : Int × Int, TreeOk (nodesP fx (ops.take k), ops.drop k, b)) := fun _ => ⟨rooted_nodes HT.out.ok.rooted _ (fun o ho => HT.out.ok.may o (List.mem_of_mem_take ho)), List.Pairwise.sublist (List.drop_sublist _ _) HT.out.ok.sort, fun o ho => HT.out.ok.may o (List.mem_of_mem_drop ho)⟩
            have HMS : Hid (st = false → ms = nodesP (nodesP fx (ops.take k)) (ops.drop k)) := fun e => by rw [← nodesP_app, List.take_append_drop]; exact HST.out e
            clear c1 c2 e1 e2 HB5 HO5 HF5 HM5 HS5 HK5 hbq CL
            cases L with
            | false =>
              have HLS : Hid (¬ LessS (b1, b2) (x, y)) := fun h => by have := HL.out.2 h; cases this
              have HB6 : Hid (Blk wq 62 g (treeC g f m (.slice a' n' c') (b1, b2) st)) := hB6
              clear hB6 hS6 HL
              go_wp2_with fail
              go_ret
              refine ⟨rfl, r, ⟨HOK.out _, HG2.out.2.2, _, st, HR5.out, ?_, HO6.out, HF6.out, ms, HM6.out, HMS.out⟩, HK6.out, fun k hk => .inl hk⟩
              first | exact HB6.out | (rw [if_neg HLS.out]; exact HB6.out)
            | true =>
              have HLS : Hid (LessS (b1, b2) (x, y)) := HL.out.1 (by first | trivial | rfl)
              have d0 : wq.cell? ⟨w.heap.size, 0, none⟩ = some (.int .i64 x) := hS6.cell 0
              have d1 : wq.cell? ⟨w.heap.size, 1, none⟩ = some (.int .i64 y) := hS6.cell 1
              have y0 : wq.cell? ⟨g, 1, none⟩ = some (.int .i64 b1) := hB6.cell 1
              have z0 : wq.frozen? ⟨g, 1, none⟩ = false := hB6.free 1
              have hB7 := hB6.setAt 1 (.int .i64 x)
              have y1 : (wq.setCell ⟨g, 1, none⟩ (.int .i64 x)).cell? ⟨g, 2, none⟩ = some (.int .i64 b2) := hB7.cell 2
              have z1 : (wq.setCell ⟨g, 1, none⟩ (.int .i64 x)).frozen? ⟨g, 2, none⟩ = false := hB7.free 2
              have HB8 : Hid (Blk ((wq.setCell ⟨g, 1, none⟩ (.int .i64 x)).setCell ⟨g, 2, none⟩ (.int .i64 y)) 62 g (treeC g f m (.slice a' n' c') (x, y) st)) := hB7.setAt 2 (.int .i64 y)
              clear hB6 hS6 hB7 HL
              go_wp2_with fail
              go_ret
              have G1 := grown_set wq g 1 (.int .i64 x)
              have G2 := grown_set (wq.setCell ⟨g, 1, none⟩ (.int .i64 x)) g 2 (.int .i64 y)
              have hjg : ∀ j, (Value.slice a' n' c').ownBlock = some j → j ≠ g := fun j hj => (HX4.out j (by rw [HR.out, ← HR5.out]; exact hj)).2.2.1
              refine ⟨rfl, r, ⟨HOK.out _, HG2.out.2.2, _, st, HR5.out, ?_, own_grown (own_grown HO6.out G1 (fun j hj e => hjg j hj (by cases e; rfl))) G2 (fun j hj e => hjg j hj (by cases e; rfl)), (HF6.out.grown G1 (fun e => HG2.out.1 (by cases e; rfl))).grown G2 (fun e => HG2.out.1 (by cases e; rfl)), ms, (HM6.out.grown G1 (fun e => HG2.out.2.1 (by cases e; rfl))).grown G2 (fun e => HG2.out.2.1 (by cases e; rfl)), HMS.out⟩, (HK6.out.setCell g 1 _ (fun _ => .inl rfl)).setCell g 2 _ (fun _ => .inl rfl), fun k hk => .inl hk⟩
              first | exact HB8.out | (rw [if_pos HLS.out]; exact HB8.out)
      | false =>
        have hq : n = P := by have := HPL.out; simpa using this
        subst hq
        have hq2 : (n : Int) ≤ (cap : Int) := by omega
        have hq3 : (n : Int) ≤ (N : Int) := by omega
        clear hc3 hc4 hb hNl
        go_wp2_with fail
        have HG2 : Hid (g ≠ f ∧ g ≠ m ∧ f ≠ m) := ⟨blk_map HB2.out HF'.out, blk_map HB2.out HM'.out, HT.out.ne⟩
        have HG3 : Hid (gb ≠ f ∧ gb ≠ m ∧ gb ≠ g) := ⟨own_map HO.out HF'.out rfl, own_map HO.out HM'.out rfl, own_blk HO.out HB2.out rfl⟩
        have HLT : Hid (g < w.heap.size ∧ f < w.heap.size ∧ m < w.heap.size ∧ gb < w.heap.size) := ⟨HB2.out.lt, HF'.out.lt, HM'.out.lt, (World.ownsRow.lt HO.out gb rfl).2⟩
        have HB3 : Hid (Blk w3 62 g (treeC g f m (.slice (some ⟨gb, 0, none⟩) N cap) (b1, b2) st)) := HB2.out.on hBn
        have HO3 : Hid (OwnO w3 0 (.slice (some ⟨gb, 0, none⟩) N cap) ops) := own_on2 HO.out hBn
        have HF3 : Hid (MapN w3 f (nodesP fx (ops.take 0))) := HF'.out.on hBn
        have HM3 : Hid (MapN w3 m ms) := HM'.out.on hBn
        have HKF : Hid (KeptF (tfoot g f m r) w w3) := KeptF.ofBelow _ hBn
        clear hBn HB2 HO HF' HM' HC e4
        go_loopw [33] (fun i wr => ∃ k : Nat, k ≤ n ∧ i = .int .i64 k ∧ Hid (Blk wr 62 g (treeC g f m (.slice (some ⟨gb, 0, none⟩) N cap) (b1, b2) st)) ∧ Hid (OwnO wr 0 (.slice (some ⟨gb, 0, none⟩) N cap) ops) ∧ Hid (MapN wr f (nodesP fx (ops.take k))) ∧ Hid (MapN wr m ms) ∧ Hid (Blk wr 25 w.heap.size #[.int .i64 x, .int .i64 y]) ∧ Hid (KeptF (tfoot g f m r) w wr)) (fun i _ => n - (intOf i).toNat)
        case atStart => exact ⟨0, Nat.zero_le _, rfl, HB3, HO3, HF3, HM3, HK3, HKF⟩
        case round =>
          clear HB3 HO3 HF3 HM3 HK3 HKF
          obtain ⟨k, hk, rfl, HB, HO, HF, HM, HS, HK⟩ := hrel
          by_cases hlt : k < n
          · have b0 : (k : Int) < (n : Int) := by omega
            have hat : OpsAt wr (some ⟨gb, 0, none⟩) N ops := by
              obtain ⟨a', cap', e', hat, _⟩ := OwnO.ops HO.out
              rw [HNl.out] at e' hat
              cases e'
              exact hat
            have hkN : k < N := by omega
            obtain ⟨x0, x1, x2, x3, x4, x5, x6, x7, x8⟩ := hat.cells k hkN
            have hmay : MayO (oL ops k) := HT.out.ok.may _ (by show _ ∈ ops; rw [oL_get ops k (by rw [HNl.out]; exact hkN)]; exact List.getElem_mem _)
            have hroot : Rooted (nodesP fx (ops.take k)) := rooted_nodes HT.out.ok.rooted _ (fun o ho => HT.out.ok.may o (List.mem_of_mem_take ho))
            have hstep : nodesP fx (ops.take (k + 1)) = doC (nodesP fx (ops.take k)) (oL ops k) := by rw [nodesP_step fx ops k (by rw [HNl.out]; exact hkN), doP_C hroot hmay]
            have hlen : (nodesP fx (ops.take k)).length ≤ 1048576 := by
              have := nodesP_len fx (ops.take k)
              have h9 := HN.out
              rw [List.length_take] at this
              omega
            have HSP : Hid (nodesP fx (ops.take (k + 1)) = doC (nodesP fx (ops.take k)) (oL ops k)) := hstep
            have CD : Hid (∀ W, MapN W f (nodesP fx (ops.take k)) → _) := fun W hW => do_any (nodesP fx (ops.take k)) f (oL ops k) W hW hlen
            obtain ⟨⟨k0, ⟨k1, k2⟩, ⟨k3, k4⟩, ⟨k5, k6⟩, s7, s8⟩, hkk⟩ : ∃ s, s = oL ops k := ⟨_, rfl⟩
            rw [← hkk] at x0 x1 x2 x3 x4 x5 x6 x7 x8 CD HSP
            simp only [opA] at CD
            simp only [Nat.zero_add] at x0 x1 x2 x3 x4 x5 x6 x7 x8
            clear hkk hstep hmay hroot hlen hat
            go_wp2_with fail
            obtain ⟨W0', hW0⟩ : ∃ W0', wr.alloc (.cells #[.int .i64 k0, .int .i64 k1, .int .i64 k2, .int .i64 k3, .int .i64 k4, .int .i64 k5, .int .i64 k6, .string s7, .string s8] 37) = W0' := ⟨_, rfl⟩
            rw [hW0]
            have hB0 : Below wr.heap.size wr W0' := by rw [← hW0]; exact below_new _ _
            have K0 : Blk W0' 37 wr.heap.size #[.int .i64 k0, .int .i64 k1, .int .i64 k2, .int .i64 k3, .int .i64 k4, .int .i64 k5, .int .i64 k6, .string s7, .string s8] := by rw [← hW0]; exact Blk.new _ _ _
            have hBt := HB.out.on hB0
            have hMt := HF.out.on hB0
            have hml := HF.out.lt
            have HSS : Hid (∀ W, Blk W 37 wr.heap.size #[.int .i64 k0, .int .i64 k1, .int .i64 k2, .int .i64 k3, .int .i64 k4, .int .i64 k5, .int .i64 k6, .string s7, .string s8] → Blk W 62 g (treeC g f m (.slice (some ⟨gb, 0, none⟩) N cap) (b1, b2) st) → W.cell? ⟨g, 3, none⟩ = some (.map (some f)) ∧ (W.cell? ⟨wr.heap.size, 0, none⟩ = some (.int .i64 k0) ∧ W.cell? ⟨wr.heap.size, 1, none⟩ = some (.int .i64 k1) ∧ W.cell? ⟨wr.heap.size, 2, none⟩ = some (.int .i64 k2) ∧ W.cell? ⟨wr.heap.size, 3, none⟩ = some (.int .i64 k3) ∧ W.cell? ⟨wr.heap.size, 4, none⟩ = some (.int .i64 k4) ∧ W.cell? ⟨wr.heap.size, 5, none⟩ = some (.int .i64 k5) ∧ W.cell? ⟨wr.heap.size, 6, none⟩ = some (.int .i64 k6) ∧ W.cell? ⟨wr.heap.size, 7, none⟩ = some (.string s7) ∧ W.cell? ⟨wr.heap.size, 8, none⟩ = some (.string s8))) := fun W a b => ⟨b.cell 3, a.cell 0, a.cell 1, a.cell 2, a.cell 3, a.cell 4, a.cell 5, a.cell 6, a.cell 7, a.cell 8⟩
            have hS0 := HSS.out W0' K0 hBt
            clear hW0 x0 x1 x2 x3 x4 x5 x6 x7 x8
            refine wp_region_noPanic ?_
            refine wp_region_held_drew (S := fun W => W.cell? ⟨g, 3, none⟩ = some (.map (some f)) ∧ (W.cell? ⟨wr.heap.size, 0, none⟩ = some (.int .i64 k0) ∧ W.cell? ⟨wr.heap.size, 1, none⟩ = some (.int .i64 k1) ∧ W.cell? ⟨wr.heap.size, 2, none⟩ = some (.int .i64 k2) ∧ W.cell? ⟨wr.heap.size, 3, none⟩ = some (.int .i64 k3) ∧ W.cell? ⟨wr.heap.size, 4, none⟩ = some (.int .i64 k4) ∧ W.cell? ⟨wr.heap.size, 5, none⟩ = some (.int .i64 k5) ∧ W.cell? ⟨wr.heap.size, 6, none⟩ = some (.int .i64 k6) ∧ W.cell? ⟨wr.heap.size, 7, none⟩ = some (.string s7) ∧ W.cell? ⟨wr.heap.size, 8, none⟩ = some (.string s8))) (by kernel_rfl) (by first | exact trivial | assumption | exact ⟨by assumption, by assumption⟩) (fun hHeld => ?_)
            refine tk 0 (v := ?_) rfl rfl ?_ ?_
            rotate_left
            · intro w hSw; (try dsimp only at hSw); go_simp; try with_reducible rfl
            try simp only [Act.put, za, zb, zc]
            refine tk 1 (v := ?_) rfl rfl ?_ ?_
            rotate_left
            · intro w hSw; (try dsimp only at hSw); go_simp; try with_reducible rfl
            try simp only [Act.put, za, zb, zc]
            refine tk 2 (v := ?_) rfl rfl ?_ ?_
            rotate_left
            · intro w hSw; (try dsimp only at hSw); go_simp; try with_reducible rfl
            try simp only [Act.put, za, zb, zc]
            refine tk 3 (v := ?_) rfl rfl ?_ ?_
            rotate_left
            · intro w hSw; (try dsimp only at hSw); go_simp; try with_reducible rfl
            try simp only [Act.put, za, zb, zc]
            refine tk 4 (v := ?_) rfl rfl ?_ ?_
            rotate_left
            · intro w hSw; (try dsimp only at hSw); go_simp; try with_reducible rfl
            try simp only [Act.put, za, zb, zc]
            refine wpAnyH_ready (rs := [5]) (by kernel_rfl) (by simp) ?_
            refine AllReadyH.cons rfl (fun K hK => ?_) AllReadyH.nil
            go_simp
            refine (CD.out W0'.drew (hMt.on (Below.refl _ _).drew)).mono ?_
            rintro e w4 ⟨rfl, hM4, hg4⟩
            obtain ⟨hgf, hgm, hfm⟩ := HG2.out
            obtain ⟨hbf, hbm, hbg⟩ := HG3.out
            have hB4 := (hBt.on (Below.refl _ _).drew).grown hg4 (fun e => hgf (by cases e; rfl))
            have K4 := (K0.on (Below.refl _ _).drew).grown hg4 (fun e => by cases e; omega)
            refine hK.out _ _ (HSS.out _ K4 hB4) (fun hHeld => ?_)
            clear hK K
            refine wpAnyH_done (by kernel_rfl) (NoPanic.normal ?_) _
            have HB4 : Hid (Blk w4 62 g (treeC g f m (.slice (some ⟨gb, 0, none⟩) N cap) (b1, b2) st)) := hB4
            have HF4 : Hid (MapN w4 f (nodesP fx (ops.take (k + 1)))) := by show MapN _ _ _; rw [HSP.out]; exact hM4
            have HM4 : Hid (MapN w4 m ms) := ((HM.out.on hB0).on (Below.refl _ _).drew).grown hg4 (fun e => hfm (by cases e; rfl))
            have HO4 : Hid (OwnO w4 0 (.slice (some ⟨gb, 0, none⟩) N cap) ops) := own_grown (own_on2 (own_on2 HO.out hB0) (Below.refl _ _).drew) hg4 (fun j hj e => by cases hj; cases e; exact hbf rfl)
            have HS4 : Hid (Blk w4 25 w.heap.size #[.int .i64 x, .int .i64 y]) := ((HS.out.on hB0).on (Below.refl _ _).drew).grown hg4 (fun e => by have := HLT.out.2.1; cases e; omega)
            have HK4 : Hid (KeptF (tfoot g f m r) w w4) := ((HK.out.on hB0).on (Below.refl _ _).drew).grown hg4 (fun j e _ => by cases e; exact .inr (.inl rfl))
            clear HB HO HF HM HK HS hB0 K0 hBt hMt hS0 hB4 K4 hM4 hg4 HSS HSP CD
            go_wp2_with fail
            refine ⟨⟨k + 1, by omega, by go_num, HB4, HO4, HF4, HM4, HS4, HK4⟩, ?_⟩
            simp [intOf]; omega
          · obtain rfl : k = n := by omega
            have b0 : ¬ ((k : Int) < (k : Int)) := by omega
            have c4 : wr.cell? ⟨g, 4, none⟩ = some (.slice (some ⟨gb, 0, none⟩) N cap) := HB.out.cell 4
            have CX : Hid (Calls _ _ _ _ _) := delete_any ops k HLE.out _ wr HO.out (by have := HN.out; omega)
            go_wp2_with fail
            refine CX.out.mono ?_
            have HX4 : Hid (∀ j, (Value.slice (some ⟨gb, 0, none⟩) N cap).ownBlock = some j → j ≠ f ∧ j ≠ m ∧ j ≠ g ∧ j < w.heap.size) := fun j hj => by
              cases hj
              exact ⟨HG3.out.1, HG3.out.2.1, HG3.out.2.2, HLT.out.2.2.2⟩
            rintro e w4 ⟨sl', rfl, hO4, hg4, hsb⟩
            obtain ⟨a', n', c', rfl⟩ : ∃ a' n' c', sl' = Value.slice a' n' c' := by
              obtain ⟨a, c, e, _⟩ := OwnO.ops hO4
              exact ⟨_, _, _, e⟩
            have hB4 := HB.out.grown hg4 (fun e => (HX4.out _ e.symm).2.2.1 rfl)
            have hF4 := HF.out.grown hg4 (fun e => (HX4.out _ e.symm).1 rfl)
            have hM4 := HM.out.grown hg4 (fun e => (HX4.out _ e.symm).2.1 rfl)
            have hS4 := HS.out.grown hg4 (fun e => by have := (HX4.out _ e.symm).2.2.2; omega)
            have hK4 := HK.out.grown hg4 (fun j e _ => .inr (.inr (.inr (by rw [← HR.out]; exact e.symm))))
            have c4 : w4.cell? ⟨g, 4, none⟩ = some _ := hB4.cell 4
            have z4 : w4.frozen? ⟨g, 4, none⟩ = false := hB4.free 4
            have hgg := grown_set w4 g 4 (.slice a' n' c')
            have HB5 : Hid (Blk (w4.setCell ⟨g, 4, none⟩ (.slice a' n' c')) 62 g (treeC g f m (.slice a' n' c') (b1, b2) st)) := hB4.setAt 4 _
            have HO5 : Hid (OwnO (w4.setCell ⟨g, 4, none⟩ (.slice a' n' c')) 0 (.slice a' n' c') (ops.drop k)) := own_grown hO4 hgg (fun j hj e => (HX4.out j (by rw [← hsb]; exact hj)).2.2.1 (by cases e; rfl))
            have HF5 : Hid (MapN (w4.setCell ⟨g, 4, none⟩ (.slice a' n' c')) f (nodesP fx (ops.take k))) := hF4.grown hgg (fun e => HG2.out.1 (by cases e; rfl))
            have HM5 : Hid (MapN (w4.setCell ⟨g, 4, none⟩ (.slice a' n' c')) m ms) := hM4.grown hgg (fun e => HG2.out.2.1 (by cases e; rfl))
            have HS5 : Hid (Blk (w4.setCell ⟨g, 4, none⟩ (.slice a' n' c')) 25 w.heap.size #[.int .i64 x, .int .i64 y]) := hS4.grown hgg (fun e => by have := HLT.out.1; cases e; omega)
            have HK5 : Hid (KeptF (tfoot g f m r) w (w4.setCell ⟨g, 4, none⟩ (.slice a' n' c'))) := hK4.setCell g 4 _ (fun _ => .inl rfl)
            have HR5 : Hid ((Value.slice a' n' c').ownBlock = r) := hsb.trans HR.out
            clear hB4 hF4 hM4 hS4 hK4 hO4 hg4 hsb HB HO HF HM HS HK CX
            go_wp2_with fail
            obtain ⟨w5, hw5⟩ : ∃ w5, w4.setCell ⟨g, 4, none⟩ (.slice a' n' c') = w5 := ⟨_, rfl⟩
            rw [hw5] at HB5 HO5 HF5 HM5 HS5 HK5 ⊢
            clear hw5 hgg c4 z4
            have c1 : ∀ p : Beh w5, p.w'.cell? ⟨g, 1, none⟩ = some (.int .i64 b1) := fun p => p.cell (HB5.out.cell 1)
            have c2 : ∀ p : Beh w5, p.w'.cell? ⟨g, 2, none⟩ = some (.int .i64 b2) := fun p => p.cell (HB5.out.cell 2)
            have e1 : ∀ p : Beh w5, p.w'.cell? ⟨w.heap.size, 0, none⟩ = some (.int .i64 x) := fun p => p.cell (HS5.out.cell 0)
            have e2 : ∀ p : Beh w5, p.w'.cell? ⟨w.heap.size, 1, none⟩ = some (.int .i64 y) := fun p => p.cell (HS5.out.cell 1)
            have hne_ : Nonempty (Beh w5) := ⟨⟨_, Below.refl _ _⟩⟩
            refine wp_region_quiet_beh (by kernel_rfl) (by kernel_rfl) ?_
            repeat (quiet_step (first | (go_at_call 32; refine Calls.beh_of (CL.out _))))
            refine wpQuiet_nil ?_
            intro wq hw_
            obtain ⟨⟨wz_, hbq⟩, hw_⟩ := hw_
            subst hw_
            try dsimp only
            clear hne_
            have hB6 := HB5.out.on hbq
            have hS6 := HS5.out.on hbq
            have HO6 : Hid (OwnO wq 0 (.slice a' n' c') (ops.drop k)) := own_on2 HO5.out hbq
            have HF6 : Hid (MapN wq f (nodesP fx (ops.take k))) := HF5.out.on hbq
            have HM6 : Hid (MapN wq m ms) := HM5.out.on hbq
            have HK6 : Hid (KeptF (tfoot g f m r) w wq) := HK5.out.on hbq
            have HOK : Hid (∀ b : Int × Int, TreeOk (nodesP fx (ops.take k), ops.drop k, b)) := fun _ => ⟨rooted_nodes HT.out.ok.rooted _ (fun o ho => HT.out.ok.may o (List.mem_of_mem_take ho)), List.Pairwise.sublist (List.drop_sublist _ _) HT.out.ok.sort, fun o ho => HT.out.ok.may o (List.mem_of_mem_drop ho)⟩
            have HMS : Hid (st = false → ms = nodesP (nodesP fx (ops.take k)) (ops.drop k)) := fun e => by rw [← nodesP_app, List.take_append_drop]; exact HST.out e
            clear c1 c2 e1 e2 HB5 HO5 HF5 HM5 HS5 HK5 hbq CL
            cases L with
            | false =>
              have HLS : Hid (¬ LessS (b1, b2) (x, y)) := fun h => by have := HL.out.2 h; cases this
              have HB6 : Hid (Blk wq 62 g (treeC g f m (.slice a' n' c') (b1, b2) st)) := hB6
              clear hB6 hS6 HL
              go_wp2_with fail
              go_ret
              refine ⟨rfl, r, ⟨HOK.out _, HG2.out.2.2, _, st, HR5.out, ?_, HO6.out, HF6.out, ms, HM6.out, HMS.out⟩, HK6.out, fun k hk => .inl hk⟩
              first | exact HB6.out | (rw [if_neg HLS.out]; exact HB6.out)
            | true =>
              have HLS : Hid (LessS (b1, b2) (x, y)) := HL.out.1 (by first | trivial | rfl)
              have d0 : wq.cell? ⟨w.heap.size, 0, none⟩ = some (.int .i64 x) := hS6.cell 0
              have d1 : wq.cell? ⟨w.heap.size, 1, none⟩ = some (.int .i64 y) := hS6.cell 1
              have y0 : wq.cell? ⟨g, 1, none⟩ = some (.int .i64 b1) := hB6.cell 1
              have z0 : wq.frozen? ⟨g, 1, none⟩ = false := hB6.free 1
              have hB7 := hB6.setAt 1 (.int .i64 x)
              have y1 : (wq.setCell ⟨g, 1, none⟩ (.int .i64 x)).cell? ⟨g, 2, none⟩ = some (.int .i64 b2) := hB7.cell 2
              have z1 : (wq.setCell ⟨g, 1, none⟩ (.int .i64 x)).frozen? ⟨g, 2, none⟩ = false := hB7.free 2
              have HB8 : Hid (Blk ((wq.setCell ⟨g, 1, none⟩ (.int .i64 x)).setCell ⟨g, 2, none⟩ (.int .i64 y)) 62 g (treeC g f m (.slice a' n' c') (x, y) st)) := hB7.setAt 2 (.int .i64 y)
              clear hB6 hS6 hB7 HL
              go_wp2_with fail
              go_ret
              have G1 := grown_set wq g 1 (.int .i64 x)
              have G2 := grown_set (wq.setCell ⟨g, 1, none⟩ (.int .i64 x)) g 2 (.int .i64 y)
              have hjg : ∀ j, (Value.slice a' n' c').ownBlock = some j → j ≠ g := fun j hj => (HX4.out j (by rw [HR.out, ← HR5.out]; exact hj)).2.2.1
              refine ⟨rfl, r, ⟨HOK.out _, HG2.out.2.2, _, st, HR5.out, ?_, own_grown (own_grown HO6.out G1 (fun j hj e => hjg j hj (by cases e; rfl))) G2 (fun j hj e => hjg j hj (by cases e; rfl)), (HF6.out.grown G1 (fun e => HG2.out.1 (by cases e; rfl))).grown G2 (fun e => HG2.out.1 (by cases e; rfl)), ms, (HM6.out.grown G1 (fun e => HG2.out.2.1 (by cases e; rfl))).grown G2 (fun e => HG2.out.2.1 (by cases e; rfl)), HMS.out⟩, (HK6.out.setCell g 1 _ (fun _ => .inl rfl)).setCell g 2 _ (fun _ => .inl rfl), fun k hk => .inl hk⟩
              first | exact HB8.out | (rw [if_pos HLS.out]; exact HB8.out)
end Go.Proofs.YtjmbnoacbmmcdaaGreatDoor

/- Layer 11 on plain data: the example that every law of the layer holds to. -/
namespace Go.Proofs.YtjmbnoacbmmcdaaGreatDoor
open Go.RowKit
set_option linter.unusedSimpArgs false

theorem ap_ok (M : OpT → Bool) (T : TreeT) (o : OpT) (h : M o = true) (hl : LessS T.2.2 o.2.1) (hd : dupO o.2.1 T.2.1 = false) (hf : ¬ (512 ≤ T.2.1.length ∨ (o.1 = 1 ∧ 512 ≤ T.1.length + creO T.2.1))) :
    applyP M T o = ((T.1, putO o T.2.1, T.2.2), 0) := by
  unfold applyP
  rw [if_neg (fun hh => by
    rcases hh with hh | hh
    · rw [h] at hh; cases hh
    · exact hh hl), if_neg (by rw [hd]; decide), if_neg hf]

theorem a_count : countR ⟨#[97]⟩ = 1 := by decide +kernel

theorem b_count : countR ⟨#[98]⟩ = 1 := by decide +kernel

theorem a_name : NameP ⟨#[97]⟩ := by
  refine ⟨⟨?_, ?_, by decide, by decide +kernel, by decide +kernel⟩, fun k hk => ?_, by rw [a_count]; decide⟩
  · rw [toList_data]; decide
  · rw [toList_data]; decide
  · rw [a_count] at hk
    unfold goodX
    match k, hk with
    | 0, _ => decide +kernel

theorem b_name : NameP ⟨#[98]⟩ := by
  refine ⟨⟨?_, ?_, by decide, by decide +kernel, by decide +kernel⟩, fun k hk => ?_, by rw [b_count]; decide⟩
  · rw [toList_data]; decide
  · rw [toList_data]; decide
  · rw [b_count] at hk
    unfold goodX
    match k, hk with
    | 0, _ => decide +kernel

/-- The example's operations, as they come; what a tree is behind so many. -/
def awL : List OpT := [(2, (6, 1), (2, 1), (1, 1), ⟨#[]⟩, ⟨#[]⟩), (1, (2, 1), (2, 1), (0, 0), ⟨#[98]⟩, ⟨#[]⟩), (1, (1, 1), (1, 1), (0, 0), ⟨#[97]⟩, ⟨#[]⟩), (2, (5, 1), (1, 1), (2, 1), ⟨#[]⟩, ⟨#[]⟩)]

def awS : List OpT := [(1, (1, 1), (1, 1), (0, 0), ⟨#[97]⟩, ⟨#[]⟩), (1, (2, 1), (2, 1), (0, 0), ⟨#[98]⟩, ⟨#[]⟩), (2, (5, 1), (1, 1), (2, 1), ⟨#[]⟩, ⟨#[]⟩), (2, (6, 1), (2, 1), (1, 1), ⟨#[]⟩, ⟨#[]⟩)]

def awT : Nat → TreeT
  | 0 => ([], [], (0, 0))
  | 1 => ([], [(2, (6, 1), (2, 1), (1, 1), ⟨#[]⟩, ⟨#[]⟩)], (0, 0))
  | 2 => ([], [(1, (2, 1), (2, 1), (0, 0), ⟨#[98]⟩, ⟨#[]⟩), (2, (6, 1), (2, 1), (1, 1), ⟨#[]⟩, ⟨#[]⟩)], (0, 0))
  | 3 => ([], [(1, (1, 1), (1, 1), (0, 0), ⟨#[97]⟩, ⟨#[]⟩), (1, (2, 1), (2, 1), (0, 0), ⟨#[98]⟩, ⟨#[]⟩), (2, (6, 1), (2, 1), (1, 1), ⟨#[]⟩, ⟨#[]⟩)], (0, 0))
  | _ => ([], awS, (0, 0))

theorem awL_may (k : Nat) (h : k < 4) : MayO (oL awL k) := by
  match k, h with
  | 0, _ => exact ⟨by decide, by decide, .inr (.inl ⟨rfl, by decide, rfl, rfl⟩)⟩
  | 1, _ => exact ⟨by decide, by decide, .inl ⟨rfl, rfl, by decide, b_name, rfl⟩⟩
  | 2, _ => exact ⟨by decide, by decide, .inl ⟨rfl, rfl, by decide, a_name, rfl⟩⟩
  | 3, _ => exact ⟨by decide, by decide, .inr (.inl ⟨rfl, by decide, rfl, rfl⟩)⟩

theorem awT_step (M : OpT → Bool) (hM : ∀ o, M o = true ↔ MayO o) (k : Nat) (h : k < 4) : applyP M (awT k) (oL awL k) = (awT (k + 1), 0) := by
  have hm := (hM _).2 (awL_may k h)
  match k, h with
  | 0, _ =>
    have e : putO (oL awL 0) (awT 0).2.1 = (awT 1).2.1 := by kernel_rfl
    rw [ap_ok M _ _ hm (by decide +kernel) (by decide +kernel) (by decide +kernel), e]; rfl
  | 1, _ =>
    have e : putO (oL awL 1) (awT 1).2.1 = (awT 2).2.1 := by kernel_rfl
    rw [ap_ok M _ _ hm (by decide +kernel) (by decide +kernel) (by decide +kernel), e]; rfl
  | 2, _ =>
    have e : putO (oL awL 2) (awT 2).2.1 = (awT 3).2.1 := by kernel_rfl
    rw [ap_ok M _ _ hm (by decide +kernel) (by decide +kernel) (by decide +kernel), e]; rfl
  | 3, _ =>
    have e : putO (oL awL 3) (awT 3).2.1 = (awT 4).2.1 := by kernel_rfl
    rw [ap_ok M _ _ hm (by decide +kernel) (by decide +kernel) (by decide +kernel), e]; rfl

theorem awS_a : look (nodesP [] awS) (1, 1) = some ((1, 1), (2, 1), ⟨#[97]⟩, ⟨#[]⟩) := by decide +kernel

theorem awS_b : look (nodesP [] awS) (2, 1) = some ((2, 1), (0, 0), ⟨#[98]⟩, ⟨#[]⟩) := by decide +kernel

theorem awS_c : compactP (awT 4) (3, 1) = ((nodesP [] (awS.take 2), awS.drop 2, (3, 1)), 2) := by
  have e : posO (3, 1) awS = 2 := by decide +kernel
  unfold compactP
  rw [if_pos (by decide)]
  show ((nodesP [] (awS.take (posO (3, 1) awS)), awS.drop (posO (3, 1) awS), if LessS (0, 0) (3, 1) then _ else _), posO (3, 1) awS) = _
  rw [e, if_pos (by decide)]

theorem awS_f : (nodesP [] (awS.take 2)).length = 2 := by decide +kernel
end Go.Proofs.YtjmbnoacbmmcdaaGreatDoor

/- The laws' at; awake (layer 11). -/
namespace Go.Proofs.YtjmbnoacbmmcdaaGreatDoor
open Go.RowKit
set_option linter.unusedSimpArgs false

set_option maxHeartbeats 1000000 in
theorem at_any (t u : Int) (w : World) : Calls Tryz.prog 26 #[.int .i64 t, .int .i64 u] w fun e w' => e = .returned (.agg #[.int .i64 t, .int .i64 u]) ∧ Below w.heap.size w w' := by
  have HB : Hid (Blk (w.alloc (.cells #[.int .i64 0, .int .i64 0] 25)) 25 w.heap.size #[.int .i64 0, .int .i64 0]) := Blk.new _ _ _
  go_enter Tryz.func26, Tryz.ntmps26
  go_wp2_with (with_reducible refine wpList_storeBlk rfl 25 _ _ rfl w.heap.size #[.int .i64 0, .int .i64 0] #[.int .i64 t, .int .i64 u] ?hx ?hy HB.out rfl ?hi ?h1 ?_)
  try (case hx => rfl)
  try (case hy => rfl)
  try (case hi => kernel_rfl)
  try (case h1 => simp [Value.oneCell'])
  exact bodyPost_row rfl w.heap.size #[.int .i64 t, .int .i64 u] rfl rfl (HB.out.setRow _) _ Tryz.underlying25 rfl (by kernel_rfl) ⟨rfl, below_setRow (below_new w _) (Nat.le_refl _) _⟩

/-- The example's row. -/
def aw36 : Array Value := #[.int .i64 2, .int .i64 6, .int .i64 1, .int .i64 2, .int .i64 1, .int .i64 1, .int .i64 1, .string ⟨#[]⟩, .string ⟨#[]⟩, .int .i64 1, .int .i64 2, .int .i64 1, .int .i64 2, .int .i64 1, .int .i64 0, .int .i64 0, .string ⟨#[98]⟩, .string ⟨#[]⟩, .int .i64 1, .int .i64 1, .int .i64 1, .int .i64 1, .int .i64 1, .int .i64 0, .int .i64 0, .string ⟨#[97]⟩, .string ⟨#[]⟩, .int .i64 2, .int .i64 5, .int .i64 1, .int .i64 1, .int .i64 1, .int .i64 2, .int .i64 1, .string ⟨#[]⟩, .string ⟨#[]⟩]

theorem aw36_ops {W : World} {b : Nat} (h : Blk W 37 b aw36) : OpsAt W (some ⟨b, 0, none⟩) 4 awL := by
  have ho : OwnO W 0 (.slice (some ⟨b, 0, none⟩) 4 4) awL := OwnO.of rfl (Nat.zero_le _) h (by decide) (by decide) (by kernel_rfl) (by kernel_rfl)
  obtain ⟨a, cap, e, h1, _⟩ := OwnO.ops ho
  cases e
  exact h1

theorem awT_few (k : Nat) (h : k ≤ 4) : (awT k).1.length + (awT k).2.1.length ≤ 50000 := by
  match k, h with
  | 0, _ => decide
  | 1, _ => decide
  | 2, _ => decide
  | 3, _ => decide
  | 4, _ => decide

theorem awL_few (k : Nat) (h : k < 4) : (oL awL k).2.2.2.2.1.size ≤ 1048576 ∧ (oL awL k).2.2.2.2.2.size ≤ 9223372036854775807 := by
  match k, h with
  | 0, _ => decide
  | 1, _ => decide
  | 2, _ => decide
  | 3, _ => decide

set_option maxRecDepth 100000 in
set_option maxHeartbeats 4000000 in
theorem awake11 (w : World) (hG : Glob8 w) : Calls Tryz.prog 7 #[] w fun e w' => e = .returned (.bool true) ∧ Below w.heap.size w w' := by
  obtain ⟨M, hM⟩ := mayM_ex
  have CA : Hid (∀ t u w, _) := at_any
  have CN : Hid (Calls _ _ _ _ _) := new_any w
  have HG : Hid (Glob8 w) := hG
  clear hG
  go_enter Tryz.func7, Tryz.ntmps7
  go_wp2_with fail
  refine CN.out.mono ?_
  rintro e w1 ⟨g, f, m, rfl, hT, hF, hB⟩
  have HT : Hid (TreeIn w1 g f m none (awT 0)) := hT
  have HF : Hid (∀ k, tfoot g f m none k → w.heap.size ≤ k) := hF
  have HB1 : Hid (Below w.heap.size w w1) := hB
  clear CN hT hF hB
  have hB : Below w1.heap.size w1 w1 := Below.refl _ _
  go_wp2_with fail
  refine (CA.out _ _ _).mono ?_
  rintro e w2 ⟨rfl, hb2⟩
  replace hB := below_step hB (Nat.le_refl _) hb2
  clear hb2
  go_wp2_with fail
  refine (CA.out _ _ _).mono ?_
  rintro e w2 ⟨rfl, hb2⟩
  replace hB := below_step hB (Nat.le_refl _) hb2
  clear hb2
  go_wp2_with fail
  refine (CA.out _ _ _).mono ?_
  rintro e w2 ⟨rfl, hb2⟩
  replace hB := below_step hB (Nat.le_refl _) hb2
  clear hb2
  go_wp2_with fail
  refine (CA.out _ _ _).mono ?_
  rintro e w2 ⟨rfl, hb2⟩
  replace hB := below_step hB (Nat.le_refl _) hb2
  clear hb2
  go_wp2_with fail
  refine (CA.out _ _ _).mono ?_
  rintro e w2 ⟨rfl, hb2⟩
  replace hB := below_step hB (Nat.le_refl _) hb2
  clear hb2
  go_wp2_with fail
  refine (CA.out _ _ _).mono ?_
  rintro e w2 ⟨rfl, hb2⟩
  replace hB := below_step hB (Nat.le_refl _) hb2
  clear hb2
  go_wp2_with fail
  refine (CA.out _ _ _).mono ?_
  rintro e w2 ⟨rfl, hb2⟩
  replace hB := below_step hB (Nat.le_refl _) hb2
  clear hb2
  go_wp2_with fail
  refine (CA.out _ _ _).mono ?_
  rintro e w2 ⟨rfl, hb2⟩
  replace hB := below_step hB (Nat.le_refl _) hb2
  clear hb2
  go_wp2_with fail
  refine (CA.out _ _ _).mono ?_
  rintro e w2 ⟨rfl, hb2⟩
  replace hB := below_step hB (Nat.le_refl _) hb2
  clear hb2
  go_wp2_with fail
  refine (CA.out _ _ _).mono ?_
  rintro e w2 ⟨rfl, hb2⟩
  replace hB := below_step hB (Nat.le_refl _) hb2
  clear hb2
  go_wp2_with fail
  have hlb : w1.heap.size ≤ w2.heap.size := hB.size
  generalize hq : World.alloc w2 _ = W at *
  obtain ⟨hl, hhl⟩ : ∃ hl, w2.heap.size = hl := ⟨_, rfl⟩
  have KL : Blk W 37 hl aw36 := by rw [← hq, ← hhl]; exact Blk.new _ _ _
  have hBW : Below w1.heap.size w1 W := by rw [← hq]; exact below_step hB (Nat.le_refl _) (below_new _ _)
  rw [hhl] at hlb
  rw [hhl]
  clear hq hhl hB
  have HKL : Hid (Blk W 37 hl aw36) := KL
  have HTW : Hid (TreeIn W g f m none (awT 0)) := HT.out.on hBW
  have HBW : Hid (Below w.heap.size w W) := below_step HB1.out (Nat.le_refl _) hBW
  have HFW : Hid (∀ k, tfoot g f m none k → w.heap.size ≤ k ∧ k ≠ hl) := fun k hk => ⟨HF.out k hk, fun e => by have := HT.out.lt hk; omega⟩
  have CAP : Hid (∀ (k : Nat) (r : Option Nat) (W : World), k < 4 → TreeIn W g f m r (awT k) → Glob8 W → Calls Tryz.prog 11 #[.pointer (some ⟨g, 0, none⟩), .agg (opA (oL awL k))] W fun e w' => e = .returned (.int .i64 0) ∧ ∃ r', TreeIn w' g f m r' (awT (k + 1)) ∧ KeptF (tfoot g f m r) W w' ∧ Nx W r r') := fun k r W hk hT hG => by
    have h := apply_any M hM g f m r (awT k) (oL awL k) W hT hG (awT_few k (by omega)) (awL_few k hk).1 (awL_few k hk).2
    rw [awT_step M hM k hk] at h
    exact h
  clear KL hBW HT HF HB1 hlb hM
  go_loopw [3] (fun i wr => ∃ (k : Nat) (r : Option Nat), k ≤ 4 ∧ i = .int .i64 k ∧ Hid (TreeIn wr g f m r (awT k)) ∧ Hid (Blk wr 37 hl aw36) ∧ Hid (Below w.heap.size w wr) ∧ Hid (∀ k, tfoot g f m r k → w.heap.size ≤ k ∧ k ≠ hl)) (fun i _ => 4 - (intOf i).toNat)
  case atStart => exact ⟨0, none, by omega, rfl, HTW, HKL, HBW, HFW⟩
  case round =>
    clear HTW HKL HBW HFW
    obtain ⟨k, r, hk, rfl, HT, HK, HB, HF⟩ := hrel
    by_cases hlt : k < 4
    · have b0 : (k : Int) < 4 := by omega
      obtain ⟨x0, x1, x2, x3, x4, x5, x6, x7, x8⟩ := (aw36_ops HK.out).cells k hlt
      have CA1 : Hid (Calls _ _ _ _ _) := CAP.out k r wr hlt HT.out (HG.out.below HB.out)
      obtain ⟨⟨k0, ⟨k1, k2⟩, ⟨k3, k4⟩, ⟨k5, k6⟩, s7, s8⟩, hkk⟩ : ∃ s, s = oL awL k := ⟨_, rfl⟩
      rw [← hkk] at x0 x1 x2 x3 x4 x5 x6 x7 x8 CA1
      simp only [opA] at CA1
      simp only [Nat.zero_add] at x0 x1 x2 x3 x4 x5 x6 x7 x8
      clear hkk
      go_wp2_with fail
      refine CA1.out.mono ?_
      rintro e w3 ⟨rfl, r', hT3, hK3, hN3⟩
      have HT3 : Hid (TreeIn w3 g f m r' (awT (k + 1))) := hT3
      have HK3 : Hid (Blk w3 37 hl aw36) := by show Blk _ _ _ _; unfold Blk; rw [hK3.block _ HK.out.lt (fun h => (HF.out _ h).2 rfl)]; exact HK.out
      have HB3 : Hid (Below w.heap.size w w3) := HB.out.trans (hK3.below w.heap.size HB.out.size (fun k h => (HF.out k h).1))
      have HF3 : Hid (∀ k, tfoot g f m r' k → w.heap.size ≤ k ∧ k ≠ hl) := fun j hj => by
        rcases hj with h | h | h | h
        · exact HF.out j (.inl h)
        · exact HF.out j (.inr (.inl h))
        · exact HF.out j (.inr (.inr (.inl h)))
        · rcases hN3 j h.symm with h' | h'
          · exact HF.out j (.inr (.inr (.inr h'.symm)))
          · have := HB.out.size; have := HK.out.lt; exact ⟨by omega, by omega⟩
      clear hT3 hK3 hN3 CA1 HT HK HB HF x0 x1 x2 x3 x4 x5 x6 x7 x8
      go_wp2_with fail
      refine ⟨⟨k + 1, r', by omega, by go_num, HT3, HK3, HB3, HF3⟩, ?_⟩
      simp [intOf]; omega
    · obtain rfl : k = 4 := by omega
      have b0 : ¬ (((4 : Nat) : Int) < 4) := by omega
      clear CAP HK hlt hk
      have CGa : Hid (∀ W, TreeIn W g f m r (awT 4) → Calls Tryz.prog 15 #[.pointer (some ⟨g, 0, none⟩), .agg #[.int .i64 1, .int .i64 1]] W fun e w' => e = .returned (.tuple #[.agg #[.int .i64 1, .int .i64 1, .int .i64 2, .int .i64 1, .string ⟨#[97]⟩, .string ⟨#[]⟩], .bool true]) ∧ TreeIn w' g f m r (awT 4) ∧ KeptF (tfoot g f m r) W w') := fun W hT => by
        have h := get_any g f m r (awT 4) (1, 1) W hT (by decide)
        rw [show look (nodesP (awT 4).1 (awT 4).2.1) (1, 1) = _ from awS_a] at h
        exact h
      have CGb : Hid (∀ W, TreeIn W g f m r (awT 4) → Calls Tryz.prog 15 #[.pointer (some ⟨g, 0, none⟩), .agg #[.int .i64 2, .int .i64 1]] W fun e w' => e = .returned (.tuple #[.agg #[.int .i64 2, .int .i64 1, .int .i64 0, .int .i64 0, .string ⟨#[98]⟩, .string ⟨#[]⟩], .bool true]) ∧ TreeIn w' g f m r (awT 4) ∧ KeptF (tfoot g f m r) W w') := fun W hT => by
        have h := get_any g f m r (awT 4) (2, 1) W hT (by decide)
        rw [show look (nodesP (awT 4).1 (awT 4).2.1) (2, 1) = _ from awS_b] at h
        exact h
      have CO : Hid (∀ W, TreeIn W g f m r (awT 4) → Calls Tryz.prog 20 #[.pointer (some ⟨g, 0, none⟩)] W fun e w' => ∃ a c, e = .returned (.slice a 4 c) ∧ (∃ b, a = some ⟨b, 0, none⟩ ∧ w'.cell? ⟨b, 7, none⟩ = some (.string ⟨#[97]⟩)) ∧ Below W.heap.size W w') := fun W hT => by
        refine (ops_any g f m r (awT 4) W hT (by decide)).mono ?_
        rintro e w' ⟨v, rfl, ho, hb⟩
        obtain ⟨a, c, rfl, hat, _⟩ := OwnO.ops ho
        rcases OwnO.blk ho with ⟨h0, h1⟩ | ⟨b, cap, cur, h0, _⟩
        · cases h1
        · cases h0
          exact ⟨_, _, rfl, ⟨b, rfl, (hat.cells 0 (by decide)).2.2.2.2.2.2.2.1⟩, hb⟩
      have CC : Hid (∀ W, TreeIn W g f m r (awT 4) → Calls Tryz.prog 13 #[.pointer (some ⟨g, 0, none⟩), .agg #[.int .i64 3, .int .i64 1]] W fun e w' => e = .returned (.int .i64 2) ∧ ∃ r', TreeIn w' g f m r' (nodesP [] (awS.take 2), awS.drop 2, (3, 1)) ∧ KeptF (tfoot g f m r) W w' ∧ Nx W r r') := fun W hT => by
        have h := compact_any g f m r (awT 4) (3, 1) W hT (by decide)
        rw [awS_c] at h
        exact h
      have CF : Hid (∀ (r' : Option Nat) (W : World), TreeIn W g f m r' (nodesP [] (awS.take 2), awS.drop 2, (3, 1)) → Calls Tryz.prog 19 #[.pointer (some ⟨g, 0, none⟩)] W fun e w' => ∃ a c, e = .returned (.slice a 2 c) ∧ Below W.heap.size W w') := fun r' W hT => by
        refine (fixed_any g f m r' _ W hT (by decide +kernel)).mono ?_
        rintro e w' ⟨v, rfl, ho, hb⟩
        have h2 := awS_f
        unfold OwnN at ho
        rcases ho.2 with ⟨rfl, h0⟩ | ⟨b, cap, cur, rfl, _⟩
        · simp only at h0; omega
        · simp only [h2]
          exact ⟨_, _, rfl, hb⟩
      have CB : Hid (∀ (r' : Option Nat) (W : World), TreeIn W g f m r' (nodesP [] (awS.take 2), awS.drop 2, (3, 1)) → Calls Tryz.prog 21 #[.pointer (some ⟨g, 0, none⟩)] W fun e w' => e = .returned (.agg #[.int .i64 3, .int .i64 1]) ∧ Below W.heap.size W w') := fun r' W hT => base_any g f m r' _ W hT
      go_wp2_with fail
      refine (CA.out _ _ _).mono ?_
      rintro e w3 ⟨rfl, hb3⟩
      have hT3 := HT.out.on hb3
      have hB3 := below_step HB.out (Nat.le_refl _) hb3
      clear hb3
      go_wp2_with fail
      refine (CGa.out _ hT3).mono ?_
      rintro e w4 ⟨rfl, hT4, hK4⟩
      have hB4 : Below w.heap.size w w4 := hB3.trans (hK4.below w.heap.size hB3.size (fun k h => (HF.out k h).1))
      have hlt4 : ∀ k, tfoot g f m r k → k < w4.heap.size := fun k h => hT4.lt h
      clear hK4 hT3 hB3
      go_wp2_with (with_reducible refine wpList_storeBlkH rfl 44 _ _ rfl w4.heap.size #[.int .i64 0, .int .i64 0, .int .i64 0, .int .i64 0, .string ⟨#[]⟩, .string ⟨#[]⟩] #[.int .i64 1, .int .i64 1, .int .i64 2, .int .i64 1, .string ⟨#[97]⟩, .string ⟨#[]⟩] ?hxA ?hyA (Blk.new w4 44 #[.int .i64 0, .int .i64 0, .int .i64 0, .int .i64 0, .string ⟨#[]⟩, .string ⟨#[]⟩]) rfl ?hiA ?h1A ?_)
      try (case hxA => rfl)
      try (case hyA => rfl)
      try (case hiA => first | kernel_rfl | (refine Option.map_eq_some_iff.1 (?_ : (Tryz.prog.info? 44).map (·.size) = some 6); kernel_rfl))
      try (case h1A => simp [Value.oneCell'])
      unfold Hid
      obtain ⟨WA, hWA⟩ : ∃ WA, (w4.alloc (.cells #[.int .i64 0, .int .i64 0, .int .i64 0, .int .i64 0, .string ⟨#[]⟩, .string ⟨#[]⟩] 44)).setRow w4.heap.size #[.int .i64 1, .int .i64 1, .int .i64 2, .int .i64 1, .string ⟨#[97]⟩, .string ⟨#[]⟩] = WA := ⟨_, rfl⟩
      have hb5 : Below w4.heap.size w4 WA := by rw [← hWA]; exact below_setRow (below_new w4 _) (Nat.le_refl _) _
      have KNA : Blk WA 44 w4.heap.size #[.int .i64 1, .int .i64 1, .int .i64 2, .int .i64 1, .string ⟨#[97]⟩, .string ⟨#[]⟩] := by rw [← hWA]; exact (Blk.new w4 44 #[.int .i64 0, .int .i64 0, .int .i64 0, .int .i64 0, .string ⟨#[]⟩, .string ⟨#[]⟩]).setRow _
      obtain ⟨n1, hn1⟩ : ∃ n1, w4.heap.size = n1 := ⟨_, rfl⟩
      have hT5 : TreeIn WA g f m r (awT 4) := hT4.on hb5
      have hB5 := below_step hB4 (Nat.le_refl _) hb5
      have hNn1 : ∀ k, tfoot g f m r k → k ≠ n1 := fun k h => by have := hlt4 k h; omega
      rw [hWA]
      rw [hn1] at KNA ⊢
      replace HT : Hid (TreeIn WA g f m r (awT 4)) := hT5
      replace HB : Hid (Below w.heap.size w WA) := hB5
      have HNn1 : Hid (∀ k, tfoot g f m r k → k ≠ n1) := hNn1
      clear hT4 hB4 hlt4 hb5 hn1 hWA hT5 hB5 hNn1
      have HK1 : Hid (Blk WA 44 n1 #[.int .i64 1, .int .i64 1, .int .i64 2, .int .i64 1, .string ⟨#[97]⟩, .string ⟨#[]⟩]) := KNA
      clear KNA
      go_wp2_with fail
      refine (CA.out _ _ _).mono ?_
      rintro e w3 ⟨rfl, hb3⟩
      have hT3 := HT.out.on hb3
      have hB3 := below_step HB.out (Nat.le_refl _) hb3
      have k3 := HK1.out.on hb3
      clear hb3
      go_wp2_with fail
      refine (CGb.out _ hT3).mono ?_
      rintro e w4 ⟨rfl, hT4, hK4⟩
      have hB4 : Below w.heap.size w w4 := hB3.trans (hK4.below w.heap.size hB3.size (fun k h => (HF.out k h).1))
      have hlt4 : ∀ k, tfoot g f m r k → k < w4.heap.size := fun k h => hT4.lt h
      have k4 : Blk w4 44 n1 #[.int .i64 1, .int .i64 1, .int .i64 2, .int .i64 1, .string ⟨#[97]⟩, .string ⟨#[]⟩] := by unfold Blk; rw [hK4.block _ k3.lt (fun h => HNn1.out _ h rfl)]; exact k3
      clear k3
      clear hK4 hT3 hB3
      go_wp2_with (with_reducible refine wpList_storeBlkH rfl 44 _ _ rfl w4.heap.size #[.int .i64 0, .int .i64 0, .int .i64 0, .int .i64 0, .string ⟨#[]⟩, .string ⟨#[]⟩] #[.int .i64 2, .int .i64 1, .int .i64 0, .int .i64 0, .string ⟨#[98]⟩, .string ⟨#[]⟩] ?hxB ?hyB (Blk.new w4 44 #[.int .i64 0, .int .i64 0, .int .i64 0, .int .i64 0, .string ⟨#[]⟩, .string ⟨#[]⟩]) rfl ?hiB ?h1B ?_)
      try (case hxB => rfl)
      try (case hyB => rfl)
      try (case hiB => first | kernel_rfl | (refine Option.map_eq_some_iff.1 (?_ : (Tryz.prog.info? 44).map (·.size) = some 6); kernel_rfl))
      try (case h1B => simp [Value.oneCell'])
      unfold Hid
      obtain ⟨WB, hWB⟩ : ∃ WB, (w4.alloc (.cells #[.int .i64 0, .int .i64 0, .int .i64 0, .int .i64 0, .string ⟨#[]⟩, .string ⟨#[]⟩] 44)).setRow w4.heap.size #[.int .i64 2, .int .i64 1, .int .i64 0, .int .i64 0, .string ⟨#[98]⟩, .string ⟨#[]⟩] = WB := ⟨_, rfl⟩
      have hb5 : Below w4.heap.size w4 WB := by rw [← hWB]; exact below_setRow (below_new w4 _) (Nat.le_refl _) _
      have KNB : Blk WB 44 w4.heap.size #[.int .i64 2, .int .i64 1, .int .i64 0, .int .i64 0, .string ⟨#[98]⟩, .string ⟨#[]⟩] := by rw [← hWB]; exact (Blk.new w4 44 #[.int .i64 0, .int .i64 0, .int .i64 0, .int .i64 0, .string ⟨#[]⟩, .string ⟨#[]⟩]).setRow _
      have k5 := k4.on hb5
      have hne12 : n1 ≠ w4.heap.size := fun e => by have := k4.lt; omega
      obtain ⟨n2, hn2⟩ : ∃ n2, w4.heap.size = n2 := ⟨_, rfl⟩
      have hT5 : TreeIn WB g f m r (awT 4) := hT4.on hb5
      have hB5 := below_step hB4 (Nat.le_refl _) hb5
      have hNn2 : ∀ k, tfoot g f m r k → k ≠ n2 := fun k h => by have := hlt4 k h; omega
      rw [hWB]
      rw [hn2] at KNB ⊢
      replace HT : Hid (TreeIn WB g f m r (awT 4)) := hT5
      replace HB : Hid (Below w.heap.size w WB) := hB5
      have HNn2 : Hid (∀ k, tfoot g f m r k → k ≠ n2) := hNn2
      clear hT4 hB4 hlt4 hb5 hn2 hWB hT5 hB5 hNn2
      have HKA : Hid (Blk WB 44 n1 #[.int .i64 1, .int .i64 1, .int .i64 2, .int .i64 1, .string ⟨#[97]⟩, .string ⟨#[]⟩]) := k5
      have HKB : Hid (Blk WB 44 n2 #[.int .i64 2, .int .i64 1, .int .i64 0, .int .i64 0, .string ⟨#[98]⟩, .string ⟨#[]⟩]) := KNB
      clear KNB k4 k5 HK1 hne12
      go_wp2_with fail
      have HSS : Hid (∀ W, Blk W 44 n1 #[.int .i64 1, .int .i64 1, .int .i64 2, .int .i64 1, .string ⟨#[97]⟩, .string ⟨#[]⟩] → Blk W 44 n2 #[.int .i64 2, .int .i64 1, .int .i64 0, .int .i64 0, .string ⟨#[98]⟩, .string ⟨#[]⟩] → (W.cell? ⟨n1, 0, none⟩ = some (.int .i64 1) ∧ W.cell? ⟨n1, 1, none⟩ = some (.int .i64 1) ∧ W.cell? ⟨n1, 2, none⟩ = some (.int .i64 2) ∧ W.cell? ⟨n1, 3, none⟩ = some (.int .i64 1) ∧ W.cell? ⟨n1, 4, none⟩ = some (.string ⟨#[97]⟩) ∧ W.cell? ⟨n1, 5, none⟩ = some (.string ⟨#[]⟩)) ∧ (W.cell? ⟨n2, 2, none⟩ = some (.int .i64 0) ∧ W.cell? ⟨n2, 3, none⟩ = some (.int .i64 0))) := fun W a b => ⟨⟨a.cell 0, a.cell 1, a.cell 2, a.cell 3, a.cell 4, a.cell 5⟩, b.cell 2, b.cell 3⟩
      have HSB : Hid (∀ V, Below WB.heap.size WB V → (V.cell? ⟨n1, 0, none⟩ = some (.int .i64 1) ∧ V.cell? ⟨n1, 1, none⟩ = some (.int .i64 1) ∧ V.cell? ⟨n1, 2, none⟩ = some (.int .i64 2) ∧ V.cell? ⟨n1, 3, none⟩ = some (.int .i64 1) ∧ V.cell? ⟨n1, 4, none⟩ = some (.string ⟨#[97]⟩) ∧ V.cell? ⟨n1, 5, none⟩ = some (.string ⟨#[]⟩)) ∧ (V.cell? ⟨n2, 2, none⟩ = some (.int .i64 0) ∧ V.cell? ⟨n2, 3, none⟩ = some (.int .i64 0))) := fun V hV => HSS.out V (HKA.out.on hV) (HKB.out.on hV)
      have hS0 := HSB.out _ (Below.refl _ _)
      have q1 := fun w => nodeEq ((1, 1), (2, 1), ⟨#[97]⟩, ⟨#[]⟩) ((1, 1), (2, 1), ⟨#[97]⟩, ⟨#[]⟩) w
      rw [decide_eq_true rfl] at q1
      simp only [nodeA] at q1
      have q2 := fun w => stampEq 0 0 0 0 w
      rw [decide_eq_true rfl] at q2
      have q3 := fun w => stampEq 3 1 3 1 w
      rw [decide_eq_true rfl] at q3
      refine wp_region_noPanic ?_
      refine wp_region_held_drew (S := fun W => (W.cell? ⟨n1, 0, none⟩ = some (.int .i64 1) ∧ W.cell? ⟨n1, 1, none⟩ = some (.int .i64 1) ∧ W.cell? ⟨n1, 2, none⟩ = some (.int .i64 2) ∧ W.cell? ⟨n1, 3, none⟩ = some (.int .i64 1) ∧ W.cell? ⟨n1, 4, none⟩ = some (.string ⟨#[97]⟩) ∧ W.cell? ⟨n1, 5, none⟩ = some (.string ⟨#[]⟩)) ∧ (W.cell? ⟨n2, 2, none⟩ = some (.int .i64 0) ∧ W.cell? ⟨n2, 3, none⟩ = some (.int .i64 0))) (by kernel_rfl) (by first | exact trivial | assumption | exact ⟨by assumption, by assumption⟩) (fun hHeld => ?_)
      refine tk 0 (v := ?_) rfl rfl ?_ ?_
      rotate_left
      · intro w hSw; (try dsimp only at hSw); go_simp; try with_reducible rfl
      try simp only [Act.put, za, zb, zc]
      refine tk 1 (v := ?_) rfl rfl ?_ ?_
      rotate_left
      · intro w hSw; (try dsimp only at hSw); go_simp; try with_reducible rfl
      try simp only [Act.put, za, zb, zc]
      refine tk 2 (v := ?_) rfl rfl ?_ ?_
      rotate_left
      · intro w hSw; (try dsimp only at hSw); go_simp; try with_reducible rfl
      try simp only [Act.put, za, zb, zc]
      refine tk 3 (v := ?_) rfl rfl ?_ ?_
      rotate_left
      · intro w hSw; (try dsimp only at hSw); go_simp; try with_reducible rfl
      try simp only [Act.put, za, zb, zc]
      refine tk 4 (v := ?_) rfl rfl ?_ ?_
      rotate_left
      · intro w hSw; (try dsimp only at hSw); go_simp; try with_reducible rfl
      try simp only [Act.put, za, zb, zc]
      refine tk 5 (v := ?_) rfl rfl ?_ ?_
      rotate_left
      · intro w hSw; (try dsimp only at hSw); go_simp; try with_reducible rfl
      try simp only [Act.put, za, zb, zc]
      refine wpAnyH_ready (rs := [6]) (by kernel_rfl) (by simp) ?_
      refine AllReadyH.cons rfl (fun K hK => ?_) AllReadyH.nil
      go_simp
      refine (CA.out _ _ _).mono ?_
      rintro e v1 ⟨rfl, hb1⟩
      have hV := below_step (Below.refl WB.heap.size WB).drew (Nat.le_refl _) hb1
      clear hb1
      refine hK.out _ _ (HSB.out _ hV) (fun hHeld => ?_)
      clear hK K
      refine wpAnyH_ready (rs := [7]) (by kernel_rfl) (by simp) ?_
      refine AllReadyH.cons rfl (fun K hK => ?_) AllReadyH.nil
      go_simp
      refine (CA.out _ _ _).mono ?_
      rintro e v2 ⟨rfl, hb2⟩
      replace hV := below_step hV (Nat.le_refl _) hb2
      clear hb2
      refine hK.out _ _ (HSB.out _ hV) (fun hHeld => ?_)
      clear hK K
      refine tk 8 (v := ?_) rfl rfl ?_ ?_
      rotate_left
      · intro w hSw; (try dsimp only at hSw); go_simp; try with_reducible rfl
      try simp only [Act.put, za, zb, zc]
      refine tk 9 (v := ?_) rfl rfl ?_ ?_
      rotate_left
      · intro w hSw; (try dsimp only at hSw); go_simp; try with_reducible rfl
      try simp only [Act.put, za, zb, zc]
      refine tk 10 (v := ?_) rfl rfl ?_ ?_
      rotate_left
      · intro w hSw; (try dsimp only at hSw); go_simp; try with_reducible rfl
      try simp only [Act.put, za, zb, zc]
      refine tk 11 (v := ?_) rfl rfl ?_ ?_
      rotate_left
      · intro w hSw; (try dsimp only at hSw); go_simp; try with_reducible rfl
      try simp only [Act.put, za, zb, zc]
      refine tk 12 (v := ?_) rfl rfl ?_ ?_
      rotate_left
      · intro w hSw; (try dsimp only at hSw); go_simp; try with_reducible rfl
      try simp only [Act.put, za, zb, zc]
      refine tk 13 (v := ?_) rfl rfl ?_ ?_
      rotate_left
      · intro w hSw; (try dsimp only at hSw); go_simp; try with_reducible rfl
      try simp only [Act.put, za, zb, zc]
      refine tk 14 (v := ?_) rfl rfl ?_ ?_
      rotate_left
      · intro w hSw; (try dsimp only at hSw); go_simp; try with_reducible rfl
      try simp only [Act.put, za, zb, zc]
      refine tk 15 (v := ?_) rfl rfl ?_ ?_
      rotate_left
      · intro w hSw; (try dsimp only at hSw); go_simp; try with_reducible rfl
      try simp only [Act.put, za, zb, zc]
      refine tk 16 (v := ?_) rfl rfl ?_ ?_
      rotate_left
      · intro w hSw; (try dsimp only at hSw); go_simp; try with_reducible rfl
      try simp only [Act.put, za, zb, zc]
      refine tk 17 (v := ?_) rfl rfl ?_ ?_
      rotate_left
      · intro w hSw; (try dsimp only at hSw); go_simp; try with_reducible rfl
      try simp only [Act.put, za, zb, zc]
      refine tk 18 (v := ?_) rfl rfl ?_ ?_
      rotate_left
      · intro w hSw; (try dsimp only at hSw); go_simp; try with_reducible rfl
      try simp only [Act.put, za, zb, zc]
      refine wpAnyH_ready (rs := [19]) (by kernel_rfl) (by simp) ?_
      refine AllReadyH.cons rfl (fun K hK => ?_) AllReadyH.nil
      go_simp
      refine (CO.out _ (HT.out.on hV)).mono ?_
      rintro e v3 ⟨a3, c3, rfl, hA3, hb3⟩
      replace hV := below_step hV (Nat.le_refl _) hb3
      clear hb3 hA3
      refine hK.out _ _ (HSB.out _ hV) (fun hHeld => ?_)
      clear hK K
      refine tk 20 (v := ?_) rfl rfl ?_ ?_
      rotate_left
      · intro w hSw; (try dsimp only at hSw); go_simp; try with_reducible rfl
      try simp only [Act.put, za, zb, zc]
      refine tk 21 (v := ?_) rfl rfl ?_ ?_
      rotate_left
      · intro w hSw; (try dsimp only at hSw); go_simp; try with_reducible rfl
      try simp only [Act.put, za, zb, zc]
      refine tk 22 (v := ?_) rfl rfl ?_ ?_
      rotate_left
      · intro w hSw; (try dsimp only at hSw); go_simp; try with_reducible rfl
      try simp only [Act.put, za, zb, zc]
      refine tk 23 (v := ?_) rfl rfl ?_ ?_
      rotate_left
      · intro w hSw; (try dsimp only at hSw); go_simp; try with_reducible rfl
      try simp only [Act.put, za, zb, zc]
      refine tk 24 (v := ?_) rfl rfl ?_ ?_
      rotate_left
      · intro w hSw; (try dsimp only at hSw); go_simp; try with_reducible rfl
      try simp only [Act.put, za, zb, zc]
      refine wpAnyH_ready (rs := [25]) (by kernel_rfl) (by simp) ?_
      refine AllReadyH.cons rfl (fun K hK => ?_) AllReadyH.nil
      go_simp
      refine (CO.out _ (HT.out.on hV)).mono ?_
      rintro e v4 ⟨a4, c4, rfl, hA4, hb4⟩
      replace hV := below_step hV (Nat.le_refl _) hb4
      clear hb4
      refine hK.out _ _ (HSB.out _ hV) (fun hHeld => ?_)
      clear hK K
      obtain ⟨b4, rfl, hb7⟩ := hA4
      refine tk 26 (v := ?_) rfl rfl ?_ ?_
      rotate_left
      · intro w hSw; (try dsimp only at hSw); go_simp; try with_reducible rfl
      try simp only [Act.put, za, zb, zc]
      refine tk 27 (v := ?_) rfl rfl ?_ ?_
      rotate_left
      · intro w hSw; (try dsimp only at hSw); go_simp; try with_reducible rfl
      try simp only [Act.put, za, zb, zc]
      refine wpAnyH_ready (rs := [28]) (by kernel_rfl) (by simp) ?_
      refine AllReadyH.cons rfl (fun K hK => ?_) AllReadyH.nil
      go_simp
      refine hK.out _ _ (HSB.out _ hV) (fun hHeld => ?_)
      clear hK K
      refine tk 29 (v := ?_) rfl rfl ?_ ?_
      rotate_left
      · intro w hSw; (try dsimp only at hSw); go_simp; try with_reducible rfl
      try simp only [Act.put, za, zb, zc]
      refine tk 30 (v := ?_) rfl rfl ?_ ?_
      rotate_left
      · intro w hSw; (try dsimp only at hSw); go_simp; try with_reducible rfl
      try simp only [Act.put, za, zb, zc]
      refine tk 31 (v := ?_) rfl rfl ?_ ?_
      rotate_left
      · intro w hSw; (try dsimp only at hSw); go_simp; try with_reducible rfl
      try simp only [Act.put, za, zb, zc]
      refine tk 32 (v := ?_) rfl rfl ?_ ?_
      rotate_left
      · intro w hSw; (try dsimp only at hSw); go_simp; try with_reducible rfl
      try simp only [Act.put, za, zb, zc]
      refine wpAnyH_ready (rs := [33]) (by kernel_rfl) (by simp) ?_
      refine AllReadyH.cons rfl (fun K hK => ?_) AllReadyH.nil
      go_simp
      refine (CA.out _ _ _).mono ?_
      rintro e v5 ⟨rfl, hb5⟩
      replace hV := below_step hV (Nat.le_refl _) hb5
      clear hb5 hb7
      refine hK.out _ _ (HSB.out _ hV) (fun hHeld => ?_)
      clear hK K
      refine wpAnyH_ready (rs := [34]) (by kernel_rfl) (by simp) ?_
      refine AllReadyH.cons rfl (fun K hK => ?_) AllReadyH.nil
      go_simp
      refine (CC.out _ (HT.out.on hV)).mono ?_
      rintro e v6 ⟨rfl, r', hT6, hK6, _⟩
      have hw5 : Below w.heap.size w v5 := below_step HB.out (Nat.le_refl _) hV
      have hw6 : Below w.heap.size w v6 := hw5.trans (hK6.below w.heap.size hw5.size (fun k h => (HF.out k h).1))
      have ka5 := HKA.out.on hV
      have kb5 := HKB.out.on hV
      have ka : Blk v6 44 n1 #[.int .i64 1, .int .i64 1, .int .i64 2, .int .i64 1, .string ⟨#[97]⟩, .string ⟨#[]⟩] := by unfold Blk; rw [hK6.block _ ka5.lt (fun h => HNn1.out _ h rfl)]; exact ka5
      have kb : Blk v6 44 n2 #[.int .i64 2, .int .i64 1, .int .i64 0, .int .i64 0, .string ⟨#[98]⟩, .string ⟨#[]⟩] := by unfold Blk; rw [hK6.block _ kb5.lt (fun h => HNn2.out _ h rfl)]; exact kb5
      have HW6 : Hid (Below w.heap.size w v6) := hw6
      have HT6 : Hid (TreeIn v6 g f m r' (nodesP [] (awS.take 2), awS.drop 2, (3, 1))) := hT6
      have HSC : Hid (∀ V, Below v6.heap.size v6 V → _) := fun V hV => HSS.out V (ka.on hV) (kb.on hV)
      clear hw5 hw6 hK6 hT6 ka5 kb5 hV HSB HT HB HKA HKB CC CO ka kb
      refine hK.out _ _ (HSC.out _ (Below.refl _ _)) (fun hHeld => ?_)
      clear hK K
      refine tk 35 (v := ?_) rfl rfl ?_ ?_
      rotate_left
      · intro w hSw; (try dsimp only at hSw); go_simp; try with_reducible rfl
      try simp only [Act.put, za, zb, zc]
      refine tk 36 (v := ?_) rfl rfl ?_ ?_
      rotate_left
      · intro w hSw; (try dsimp only at hSw); go_simp; try with_reducible rfl
      try simp only [Act.put, za, zb, zc]
      refine tk 37 (v := ?_) rfl rfl ?_ ?_
      rotate_left
      · intro w hSw; (try dsimp only at hSw); go_simp; try with_reducible rfl
      try simp only [Act.put, za, zb, zc]
      refine tk 38 (v := ?_) rfl rfl ?_ ?_
      rotate_left
      · intro w hSw; (try dsimp only at hSw); go_simp; try with_reducible rfl
      try simp only [Act.put, za, zb, zc]
      refine wpAnyH_ready (rs := [39]) (by kernel_rfl) (by simp) ?_
      refine AllReadyH.cons rfl (fun K hK => ?_) AllReadyH.nil
      go_simp
      refine (CF.out _ _ HT6.out).mono ?_
      rintro e v7 ⟨a7, c7, rfl, hb7⟩
      have hV := hb7
      clear hb7
      refine hK.out _ _ (HSC.out _ hV) (fun hHeld => ?_)
      clear hK K
      refine tk 40 (v := ?_) rfl rfl ?_ ?_
      rotate_left
      · intro w hSw; (try dsimp only at hSw); go_simp; try with_reducible rfl
      try simp only [Act.put, za, zb, zc]
      refine tk 41 (v := ?_) rfl rfl ?_ ?_
      rotate_left
      · intro w hSw; (try dsimp only at hSw); go_simp; try with_reducible rfl
      try simp only [Act.put, za, zb, zc]
      refine tk 42 (v := ?_) rfl rfl ?_ ?_
      rotate_left
      · intro w hSw; (try dsimp only at hSw); go_simp; try with_reducible rfl
      try simp only [Act.put, za, zb, zc]
      refine tk 43 (v := ?_) rfl rfl ?_ ?_
      rotate_left
      · intro w hSw; (try dsimp only at hSw); go_simp; try with_reducible rfl
      try simp only [Act.put, za, zb, zc]
      refine tk 44 (v := ?_) rfl rfl ?_ ?_
      rotate_left
      · intro w hSw; (try dsimp only at hSw); go_simp; try with_reducible rfl
      try simp only [Act.put, za, zb, zc]
      refine wpAnyH_ready (rs := [45]) (by kernel_rfl) (by simp) ?_
      refine AllReadyH.cons rfl (fun K hK => ?_) AllReadyH.nil
      go_simp
      refine (CB.out _ _ (HT6.out.on hV)).mono ?_
      rintro e v8 ⟨rfl, hb8⟩
      replace hV := below_step hV (Nat.le_refl _) hb8
      clear hb8
      refine hK.out _ _ (HSC.out _ hV) (fun hHeld => ?_)
      clear hK K
      refine wpAnyH_ready (rs := [46]) (by kernel_rfl) (by simp) ?_
      refine AllReadyH.cons rfl (fun K hK => ?_) AllReadyH.nil
      go_simp
      refine (CA.out _ _ _).mono ?_
      rintro e v9 ⟨rfl, hb9⟩
      replace hV := below_step hV (Nat.le_refl _) hb9
      clear hb9
      refine hK.out _ _ (HSC.out _ hV) (fun hHeld => ?_)
      clear hK K
      refine tk 47 (v := ?_) rfl rfl ?_ ?_
      rotate_left
      · intro w hSw; (try dsimp only at hSw); go_simp; try with_reducible rfl
      try simp only [Act.put, za, zb, zc]
      refine tk 48 (v := ?_) rfl rfl ?_ ?_
      rotate_left
      · intro w hSw; (try dsimp only at hSw); go_simp; try with_reducible rfl
      try simp only [Act.put, za, zb, zc]
      refine tk 49 (v := ?_) rfl rfl ?_ ?_
      rotate_left
      · intro w hSw; (try dsimp only at hSw); go_simp; try with_reducible rfl
      try simp only [Act.put, za, zb, zc]
      refine wpAnyH_done (by kernel_rfl) (NoPanic.normal ?_) _
      have hE := below_step HW6.out (Nat.le_refl _) hV
      go_wp2_with fail
      go_ret
      exact ⟨rfl, hE⟩
end Go.Proofs.YtjmbnoacbmmcdaaGreatDoor
