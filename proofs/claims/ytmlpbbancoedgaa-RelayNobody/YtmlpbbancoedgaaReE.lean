/- Layer 21, the code: above; slices.IndexFunc with its two closures; first. -/
import Derived.Test.YtmlpbbancoedgaaReA
import Derived.Test.YtmlpbbancoedgaaReQ
import Derived.Lib.MinMax
namespace Go.Proofs.Ytmlpbbancoedgaa
open Go.RowKit
set_option maxRecDepth 100000
set_option linter.unusedSimpArgs false
set_option linter.unusedVariables false

theorem txtBeqL (a b : ByteArray) : (a.toList == b.toList) = decide (a = b) := by
  rw [Bool.eq_iff_iff, decide_eq_true_iff, beq_iff_eq]
  constructor
  · intro h
    have e : ∀ x : ByteArray, x.toList = x.data.toList := fun x => Lib.toList_data x
    rw [e, e] at h
    exact ByteArray.ext (Array.ext' h)
  · rintro rfl; rfl

theorem ItsAt.drop {w : World} {b off n : Nat} {l : List ItT} (h : ItsAt w (some ⟨b, off, none⟩) n l) (k : Nat) (hk : k ≤ n) : ItsAt w (some ⟨b, off + k * 3, none⟩) (n - k) (l.drop k) := by
  refine ⟨by rw [List.length_drop, h.1], ?_⟩
  by_cases e : n - k = 0
  · exact .inl e
  · obtain ⟨b', off', e', hc⟩ := h.2.resolve_left (by omega)
    cases e'
    refine .inr ⟨b, off + k * 3, rfl, fun i hi => ?_⟩
    rw [itL_drop]
    have := hc (k + i) (by omega)
    rw [show off + (k + i) * 3 = off + k * 3 + i * 3 by omega] at this
    exact this

theorem ItsAt.take {w : World} {a : Option Addr} {n : Nat} {l : List ItT} (h : ItsAt w a n l) (k : Nat) (hk : k ≤ n) : ItsAt w a k (l.take k) := by
  refine ⟨by rw [List.length_take, h.1]; omega, ?_⟩
  by_cases e : k = 0
  · exact .inl e
  · obtain ⟨b, off, e', hc⟩ := h.2.resolve_left (by omega)
    refine .inr ⟨b, off, e', fun i hi => ?_⟩
    rw [itL_take _ _ _ hi]
    exact hc i (by omega)

/-- What is written elsewhere leaves the records. -/
theorem ItsAt.setRow {w : World} {a : Option Addr} {n : Nat} {l : List ItT} (h : ItsAt w a n l) (g : Nat) (cs : Array Value) (hg : ∀ ad, a = some ad → ad.block ≠ g) : ItsAt (w.setRow g cs) a n l := by
  refine ⟨h.1, ?_⟩
  by_cases e : n = 0
  · exact .inl e
  · obtain ⟨b, off, rfl, hc⟩ := h.2.resolve_left e
    refine .inr ⟨b, off, rfl, fun i hi => ?_⟩
    obtain ⟨h0, h1, h2⟩ := hc i hi
    have hb : b ≠ g := hg _ rfl
    have hh : (w.setRow g cs).heap[b]? = w.heap[b]? := setRow_other w g b cs hb
    exact ⟨by rw [World.cell?_of_block (w := w) hh]; exact h0, by rw [World.cell?_of_block (w := w) hh]; exact h1, by rw [World.cell?_of_block (w := w) hh]; exact h2⟩

theorem ItsAt.nilD {w : World} {a : Option Addr} {n : Nat} {l : List ItT} (hl : l.length = n) (k : Nat) (hk : k = n) : ItsAt w a (n - k) (l.drop k) := ⟨by rw [List.length_drop, hl], .inl (by omega)⟩


set_option maxHeartbeats 2000000 in
theorem above_any (g : Nat) (v : Value) (X : RlT) (N : Nat) (hX : RlOk N X) (hN : N ≤ 4611686018427387904) (k : Nat) (hk : k ≤ X.2.2.2.length) (q : Int) (hq : q = X.2.2.1.1 + (k : Int)) (w : World) (h : RlAt w g v X) :
    Calls Try.prog 82 #[.pointer (some ⟨g, 0, none⟩), .int .i64 q] w fun e w' => ∃ a c, e = .returned (.slice a (X.2.2.2.length - k) c) ∧ (X.2.2.2.length - k ≤ c ∧ c ≤ 9223372036854775807) ∧ ItsAt w' a (X.2.2.2.length - k) (X.2.2.2.drop k) ∧ (∀ ad, a = some ad → v.ownBlock = some ad.block) ∧ Below w.heap.size w w' := by
  have CB : Hid (∀ p : Beh w, _) := fun p => rbase_any g v X p.w' (h.on p.h)
  have e0 : ∀ p : Beh w, p.w'.cell? ⟨g, 6, none⟩ = some v := fun p => p.cell (h.blk.cell 6)
  have hb0 := hX.b0
  have hb1 := hX.last
  unfold lastL at hb1
  obtain ⟨B, hB⟩ : ∃ B, X.2.2.1.1 = B := ⟨_, rfl⟩
  rw [hB] at CB hb0 hb1 hq
  have hw : IntKind.i64.wrap (q - B) = (k : Int) := by rw [IntKind.wrap_i64]; omega
  obtain ⟨n, hn⟩ : ∃ n, X.2.2.2.length = n := ⟨_, rfl⟩
  have HI : Hid (∃ a c, v = .slice a X.2.2.2.length c ∧ X.2.2.2.length ≤ c ∧ c ≤ 9223372036854775807 ∧ ItsAt w a X.2.2.2.length X.2.2.2) := h.own.rows
  rcases h.own.blk with ⟨rfl, hl⟩ | ⟨g', cap, cur, rfl, _, _, h1, h2, _⟩
  · rw [hl] at hn
    obtain rfl : n = 0 := by rw [← hn]; rfl
    have hk0 : k = 0 := by rw [hl] at hk; simpa using hk
    subst hk0
    rw [hl]
    clear h hX hB hb0 hb1 hq HI
    go_enter Try.func82, Try.ntmps82
    go_wp2_with fail
    have hne_ : Nonempty (Beh w) := ⟨⟨_, Below.refl _ _⟩⟩
    refine wp_region_quiet_beh (by kernel_rfl) (by kernel_rfl) ?_
    repeat (quiet_step (first | (go_at_call 16; refine Calls.beh_of (CB.out _))))
    refine wpQuiet_nil ?_
    intro wq hw_
    obtain ⟨⟨wz_, hbq⟩, hw_⟩ := hw_
    subst hw_
    try dsimp only
    clear hne_
    go_wp2_with fail
    go_ret
    exact ⟨none, 0, rfl, ⟨Nat.zero_le _, by decide⟩, ⟨rfl, .inl rfl⟩, (fun ad e => by cases e), hbq⟩
  · obtain ⟨a', c', hv, hc1, hc2, hI⟩ := HI.out
    injection hv with e1 e2 e3
    subst e1 e3
    have hm63 : cap ≤ 9223372036854775807 := h2
    have HII : Hid (ItsAt w (some ⟨g', 0, none⟩) X.2.2.2.length X.2.2.2) := hI
    rw [hn] at hk h1 hc1
    have hn2 := hn
    rw [hn] at e0
    rw [hn]
    have HL : Hid (X.2.2.2.length = n) := hn2
    have g1 : (k : Int) ≤ (n : Int) := by omega
    have gk : k ≤ cap := by omega
    have gm : (n : Int) - (k : Int) = ((n - k : Nat) : Int) := by omega
    have gc : (cap : Int) - (k : Int) = ((cap - k : Nat) : Int) := by omega
    have gb : n - k ≤ cap - k := by omega
    have gz : cap - k ≤ 9223372036854775807 := by omega
    by_cases hck : cap - k = 0
    · have hkk : k = n := by omega
      have hck2 : cap = k := by omega
      subst hck2
      have hnk : n - cap = 0 := by omega
      rw [hnk]
      clear h hX hB hb0 hb1 hq HI hI hn hn2
      go_enter Try.func82, Try.ntmps82
      go_wp2_with fail
      have hne_ : Nonempty (Beh w) := ⟨⟨_, Below.refl _ _⟩⟩
      refine wp_region_quiet_beh (by kernel_rfl) (by kernel_rfl) ?_
      repeat (quiet_step (first | (go_at_call 16; refine Calls.beh_of (CB.out _))))
      refine wpQuiet_nil ?_
      intro wq hw_
      obtain ⟨⟨wz_, hbq⟩, hw_⟩ := hw_
      subst hw_
      try dsimp only
      clear hne_
      go_wp2_with fail
      go_ret
      exact ⟨_, 0, rfl, ⟨Nat.le_refl _, by decide⟩, ⟨by rw [List.length_drop, HL.out]; omega, .inl rfl⟩, (fun ad e => by cases e; rfl), hbq⟩
    · have hckN : ¬ (cap = k) := by omega
      clear h hX hB hb0 hb1 hq HI hI hn hn2
      go_enter Try.func82, Try.ntmps82
      go_wp2_with fail
      have hne_ : Nonempty (Beh w) := ⟨⟨_, Below.refl _ _⟩⟩
      refine wp_region_quiet_beh (by kernel_rfl) (by kernel_rfl) ?_
      repeat (quiet_step (first | (go_at_call 16; refine Calls.beh_of (CB.out _))))
      refine wpQuiet_nil ?_
      intro wq hw_
      obtain ⟨⟨wz_, hbq⟩, hw_⟩ := hw_
      subst hw_
      try dsimp only
      clear hne_
      go_wp2_with fail
      go_ret
      refine ⟨_, _, rfl, ⟨gb, gz⟩, ?_, (fun ad e => by cases e; rfl), hbq⟩
      have h3 := HII.out.below hbq
      rw [HL.out] at h3
      have h4 := h3.drop k (by omega)
      rw [Nat.zero_add] at h4
      exact h4

set_option maxHeartbeats 2000000 in
theorem indexA_any (l : List ItT) (a : Option Addr) (n c : Nat) (cap : Value) (p : Nat → Bool) (Inv : Nat → World → Prop) (w : World) (hn : n ≤ 1048576)
    (hI : ∀ k W, Inv k W → ItsAt W a n l) (hC : ∀ k W, k < n → Inv k W → Calls Try.prog 79 #[.agg (itemA (itL l k)), cap] W fun e w' => e = .returned (.bool (p k)) ∧ Inv (k + 1) w') (h0 : Inv 0 w) :
    Calls Try.prog 78 #[.slice a n c, .func (.func 79) #[] #[cap]] w fun e w' => e = .returned (.int .i64 (idxI (fstN p n 0))) ∧ ∃ k, Inv k w' := by
  obtain ⟨R, hR⟩ : ∃ R, idxI (fstN p n 0) = R := ⟨_, rfl⟩
  have HR : Hid (idxI (fstN p n 0) = R) := hR
  rw [hR]
  have HI : Hid (∀ k W, Inv k W → ItsAt W a n l) := hI
  have HC : Hid (∀ k W, k < n → Inv k W → Calls Try.prog 79 #[.agg (itemA (itL l k)), cap] W fun e w' => e = .returned (.bool (p k)) ∧ Inv (k + 1) w') := hC
  have H0 : Hid (Inv 0 w) := h0
  clear hI hC h0 hR
  go_enter Try.func78, Try.ntmps78
  go_wp2_with fail
  go_loopw [5, 8] (fun x i wr => ∃ k : Nat, k ≤ n ∧ i = .int .i64 k ∧ Hid (Inv k wr) ∧ Hid (∀ m, m < k → p m = false)) (fun _ i _ => n - (intOf i).toNat)
  case atStart => exact ⟨0, Nat.zero_le _, rfl, H0, fun m hm => absurd hm (Nat.not_lt_zero _)⟩
  case round =>
    obtain ⟨k, hk, rfl, HV, HP⟩ := hrel
    by_cases hlt : k < n
    · have b0 : (k : Int) < (n : Int) := by omega
      obtain ⟨lb, off, rfl, hcl⟩ := (HI.out k wr HV.out).2.resolve_left (by omega)
      obtain ⟨k0, k1, k2⟩ := hcl k hlt
      have CC' := HC.out k wr hlt HV.out
      obtain ⟨⟨x0, x1, x2⟩, hx⟩ : ∃ x, itL l k = x := ⟨_, rfl⟩
      rw [hx] at k0 k1 k2 CC'
      simp only [itemA] at k0 k1 k2 CC'
      have CC : Hid (Calls _ _ _ _ _) := CC'
      clear hx hcl CC' H0
      go_wp2_with fail
      refine CC.out.mono ?_
      rintro e w1 ⟨rfl, h1⟩
      have HV1 : Hid (Inv (k + 1) w1) := h1
      clear h1 CC k0 k1 k2 HV
      cases hp : p k with
      | true =>
        have hf := fstN_at p n k hlt hp HP.out
        obtain rfl : (k : Int) = R := by rw [← HR.out, hf]; rfl
        clear hf HR
        go_wp2_with fail
        go_ret
        exact ⟨rfl, _, HV1.out⟩
      | false =>
        have HP1 : Hid (∀ m, m < k + 1 → p m = false) := fun m hm => by
          by_cases e : m = k
          · rw [e]; exact hp
          · exact HP.out m (by omega)
        go_wp2_with fail
        refine ⟨?_, ?_⟩
        · first
          | exact ⟨k + 1, by omega, by go_num, HV1, HP1⟩
          | ((repeat apply Exists.intro); refine ⟨?_, rfl⟩; exact ⟨k + 1, by omega, by go_num, HV1, HP1⟩)
        · simp [intOf] <;> omega
    · obtain rfl : k = n := by omega
      have b0 : ¬ ((k : Int) < (k : Int)) := by omega
      obtain rfl : (-1 : Int) = R := by rw [← HR.out, fstN_no p k HP.out]; rfl
      clear HI HC H0 HR
      go_wp2_with fail
      go_ret
      exact ⟨rfl, _, HV.out⟩

set_option maxHeartbeats 2000000 in
theorem indexF_any (l : List ItT) (a : Option Addr) (n c : Nat) (cap : Value) (p : Nat → Bool) (Inv : Nat → World → Prop) (w : World) (hn : n ≤ 1048576)
    (hI : ∀ k W, Inv k W → ItsAt W a n l) (hC : ∀ k W, k < n → Inv k W → Calls Try.prog 88 #[.agg (itemA (itL l k)), cap] W fun e w' => e = .returned (.bool (p k)) ∧ Inv (k + 1) w') (h0 : Inv 0 w) :
    Calls Try.prog 78 #[.slice a n c, .func (.func 88) #[] #[cap]] w fun e w' => e = .returned (.int .i64 (idxI (fstN p n 0))) ∧ ∃ k, Inv k w' := by
  obtain ⟨R, hR⟩ : ∃ R, idxI (fstN p n 0) = R := ⟨_, rfl⟩
  have HR : Hid (idxI (fstN p n 0) = R) := hR
  rw [hR]
  have HI : Hid (∀ k W, Inv k W → ItsAt W a n l) := hI
  have HC : Hid (∀ k W, k < n → Inv k W → Calls Try.prog 88 #[.agg (itemA (itL l k)), cap] W fun e w' => e = .returned (.bool (p k)) ∧ Inv (k + 1) w') := hC
  have H0 : Hid (Inv 0 w) := h0
  clear hI hC h0 hR
  go_enter Try.func78, Try.ntmps78
  go_wp2_with fail
  go_loopw [5, 8] (fun x i wr => ∃ k : Nat, k ≤ n ∧ i = .int .i64 k ∧ Hid (Inv k wr) ∧ Hid (∀ m, m < k → p m = false)) (fun _ i _ => n - (intOf i).toNat)
  case atStart => exact ⟨0, Nat.zero_le _, rfl, H0, fun m hm => absurd hm (Nat.not_lt_zero _)⟩
  case round =>
    obtain ⟨k, hk, rfl, HV, HP⟩ := hrel
    by_cases hlt : k < n
    · have b0 : (k : Int) < (n : Int) := by omega
      obtain ⟨lb, off, rfl, hcl⟩ := (HI.out k wr HV.out).2.resolve_left (by omega)
      obtain ⟨k0, k1, k2⟩ := hcl k hlt
      have CC' := HC.out k wr hlt HV.out
      obtain ⟨⟨x0, x1, x2⟩, hx⟩ : ∃ x, itL l k = x := ⟨_, rfl⟩
      rw [hx] at k0 k1 k2 CC'
      simp only [itemA] at k0 k1 k2 CC'
      have CC : Hid (Calls _ _ _ _ _) := CC'
      clear hx hcl CC' H0
      go_wp2_with fail
      refine CC.out.mono ?_
      rintro e w1 ⟨rfl, h1⟩
      have HV1 : Hid (Inv (k + 1) w1) := h1
      clear h1 CC k0 k1 k2 HV
      cases hp : p k with
      | true =>
        have hf := fstN_at p n k hlt hp HP.out
        obtain rfl : (k : Int) = R := by rw [← HR.out, hf]; rfl
        clear hf HR
        go_wp2_with fail
        go_ret
        exact ⟨rfl, _, HV1.out⟩
      | false =>
        have HP1 : Hid (∀ m, m < k + 1 → p m = false) := fun m hm => by
          by_cases e : m = k
          · rw [e]; exact hp
          · exact HP.out m (by omega)
        go_wp2_with fail
        refine ⟨?_, ?_⟩
        · first
          | exact ⟨k + 1, by omega, by go_num, HV1, HP1⟩
          | ((repeat apply Exists.intro); refine ⟨?_, rfl⟩; exact ⟨k + 1, by omega, by go_num, HV1, HP1⟩)
        · simp [intOf] <;> omega
    · obtain rfl : k = n := by omega
      have b0 : ¬ ((k : Int) < (k : Int)) := by omega
      obtain rfl : (-1 : Int) = R := by rw [← HR.out, fstN_no p k HP.out]; rfl
      clear HI HC H0 HR
      go_wp2_with fail
      go_ret
      exact ⟨rfl, _, HV.out⟩

set_option maxHeartbeats 2000000 in
theorem addC_any (x : ItT) (gf : Nat) (F : FrmT) (a : Option Addr) (c : Nat) (w : World) (hb : Blk w 39 gf (frmA F a c)) :
    Calls Try.prog 79 #[.agg (itemA x), .pointer (some ⟨gf, 0, none⟩)] w fun e w' => e = .returned (.bool (decide (x.2.1 = F.2.2.2.1) && decide (x.2.2 = F.2.2.2.2.2.1))) ∧ Below w.heap.size w w' := by
  obtain ⟨x0, x1, x2⟩ := x
  have c3 : (w.alloc (.cells (itemA (x0, x1, x2)) 31)).cell? ⟨gf, 3, none⟩ = some (.int .i64 F.2.2.2.1) := (hb.alloc _).cell 3
  have c5 : (w.alloc (.cells (itemA (x0, x1, x2)) 31)).cell? ⟨gf, 5, none⟩ = some (.string F.2.2.2.2.2.1) := (hb.alloc _).cell 5
  have d1 : (w.alloc (.cells (itemA (x0, x1, x2)) 31)).cell? ⟨w.heap.size, 1, none⟩ = some (.int .i64 x1) := (Blk.new w 31 (itemA (x0, x1, x2))).cell 1
  have d2 : (w.alloc (.cells (itemA (x0, x1, x2)) 31)).cell? ⟨w.heap.size, 2, none⟩ = some (.string x2) := (Blk.new w 31 (itemA (x0, x1, x2))).cell 2
  have HB : Hid (Below w.heap.size w (w.alloc (.cells (itemA (x0, x1, x2)) 31))) := below_new _ _
  obtain ⟨E, hE⟩ : ∃ E, F.2.2.2.1 = E := ⟨_, rfl⟩
  obtain ⟨S, hS⟩ : ∃ S, F.2.2.2.2.2.1 = S := ⟨_, rfl⟩
  rw [hE] at c3 ⊢
  rw [hS] at c5 ⊢
  simp only [itemA] at c3 c5 d1 d2 HB ⊢
  clear hb hE hS
  by_cases h1 : x1 = E
  · subst h1
    by_cases h2 : x2 = S
    · subst h2
      rw [decide_eq_true rfl, decide_eq_true rfl]
      go_enter Try.func79, Try.ntmps79
      go_wp2_with fail
      go_ret
      exact ⟨rfl, HB.out⟩
    · have hq : (x2.toList == S.toList) = false := by rw [txtBeqL]; exact decide_eq_false h2
      rw [decide_eq_true rfl, decide_eq_false h2]
      go_enter Try.func79, Try.ntmps79
      go_wp2_with fail
      go_ret
      exact ⟨rfl, HB.out⟩
  · rw [decide_eq_false h1]
    go_enter Try.func79, Try.ntmps79
    go_wp2_with fail
    go_ret
    exact ⟨rfl, HB.out⟩

end Go.Proofs.Ytmlpbbancoedgaa
