import Derived.Test.YtkmdajenbidaaaaReA
import Derived.Test.YtkmdajenbidaaaaReQ
import Derived.Lib.MinMax
import Derived.Test.YtkmdajenbidaaaaReS
/- Layer 21, the code: above; slices.IndexFunc with its two closures; first. -/
namespace Go.Proofs.Ytkmdajenbidaaaa
open Go.RowKit
set_option maxRecDepth 100000
set_option linter.unusedSimpArgs false
set_option linter.unusedVariables false

theorem txtBeqL (a b : ByteArray) : (a.toList == b.toList) = decide (a = b) := by
  rw [Bool.eq_iff_iff, decide_eq_true_iff, beq_iff_eq]
  constructor
  · intro h
    have e : ∀ x : ByteArray, x.toList = x.data.toList := fun x => Lib.toList_data x
    rw [e, e] at h
    exact ByteArray.ext (Array.ext' h)
  · rintro rfl; rfl

theorem ItsAt.drop {w : World} {b off n : Nat} {l : List ItT} (h : ItsAt w (some ⟨b, off, none⟩) n l) (k : Nat) (hk : k ≤ n) : ItsAt w (some ⟨b, off + k * 3, none⟩) (n - k) (l.drop k) := by
  refine ⟨by rw [List.length_drop, h.1], ?_⟩
  by_cases e : n - k = 0
  · exact .inl e
  · obtain ⟨b', off', e', hc⟩ := h.2.resolve_left (by omega)
    cases e'
    refine .inr ⟨b, off + k * 3, rfl, fun i hi => ?_⟩
    rw [itL_drop]
    have := hc (k + i) (by omega)
    rw [show off + (k + i) * 3 = off + k * 3 + i * 3 by omega] at this
    exact this

theorem ItsAt.take {w : World} {a : Option Addr} {n : Nat} {l : List ItT} (h : ItsAt w a n l) (k : Nat) (hk : k ≤ n) : ItsAt w a k (l.take k) := by
  refine ⟨by rw [List.length_take, h.1]; omega, ?_⟩
  by_cases e : k = 0
  · exact .inl e
  · obtain ⟨b, off, e', hc⟩ := h.2.resolve_left (by omega)
    refine .inr ⟨b, off, e', fun i hi => ?_⟩
    rw [itL_take _ _ _ hi]
    exact hc i (by omega)

/-- What is written elsewhere leaves the records. -/
theorem ItsAt.setRow {w : World} {a : Option Addr} {n : Nat} {l : List ItT} (h : ItsAt w a n l) (g : Nat) (cs : Array Value) (hg : ∀ ad, a = some ad → ad.block ≠ g) : ItsAt (w.setRow g cs) a n l := by
  refine ⟨h.1, ?_⟩
  by_cases e : n = 0
  · exact .inl e
  · obtain ⟨b, off, rfl, hc⟩ := h.2.resolve_left e
    refine .inr ⟨b, off, rfl, fun i hi => ?_⟩
    obtain ⟨h0, h1, h2⟩ := hc i hi
    have hb : b ≠ g := hg _ rfl
    have hh : (w.setRow g cs).heap[b]? = w.heap[b]? := setRow_other w g b cs hb
    exact ⟨by rw [World.cell?_of_block (w := w) hh]; exact h0, by rw [World.cell?_of_block (w := w) hh]; exact h1, by rw [World.cell?_of_block (w := w) hh]; exact h2⟩

theorem ItsAt.nilD {w : World} {a : Option Addr} {n : Nat} {l : List ItT} (hl : l.length = n) (k : Nat) (hk : k = n) : ItsAt w a (n - k) (l.drop k) := ⟨by rw [List.length_drop, hl], .inl (by omega)⟩


set_option maxHeartbeats 2000000 in
theorem above_any (g : Nat) (v : Value) (X : RlT) (N : Nat) (hX : RlOk N X) (hN : N ≤ 4611686018427387904) (k : Nat) (hk : k ≤ X.2.2.2.length) (q : Int) (hq : q = X.2.2.1.1 + (k : Int)) (w : World) (h : RlAt w g v X) :
    Calls Try.prog 77 #[.pointer (some ⟨g, 0, none⟩), .int .i64 q] w fun e w' => ∃ a c, e = .returned (.slice a (X.2.2.2.length - k) c) ∧ (X.2.2.2.length - k ≤ c ∧ c ≤ 9223372036854775807) ∧ ItsAt w' a (X.2.2.2.length - k) (X.2.2.2.drop k) ∧ (∀ ad, a = some ad → v.ownBlock = some ad.block) ∧ Below w.heap.size w w' := by
  have CB : Hid (∀ p : Beh w, _) := fun p => rbase_any g v X p.w' (h.on p.h)
  have e0 : ∀ p : Beh w, p.w'.cell? ⟨g, 6, none⟩ = some v := fun p => p.cell (h.blk.cell 6)
  have hb0 := hX.b0
  have hb1 := hX.last
  unfold lastL at hb1
  obtain ⟨B, hB⟩ : ∃ B, X.2.2.1.1 = B := ⟨_, rfl⟩
  rw [hB] at CB hb0 hb1 hq
  have hw : IntKind.i64.wrap (q - B) = (k : Int) := by rw [IntKind.wrap_i64]; omega
  obtain ⟨n, hn⟩ : ∃ n, X.2.2.2.length = n := ⟨_, rfl⟩
  have HI : Hid (∃ a c, v = .slice a X.2.2.2.length c ∧ X.2.2.2.length ≤ c ∧ c ≤ 9223372036854775807 ∧ ItsAt w a X.2.2.2.length X.2.2.2) := h.own.rows
  rcases h.own.blk with ⟨rfl, hl⟩ | ⟨g', cap, cur, rfl, _, _, h1, h2, _⟩
  · rw [hl] at hn
    obtain rfl : n = 0 := by rw [← hn]; rfl
    have hk0 : k = 0 := by rw [hl] at hk; simpa using hk
    subst hk0
    rw [hl]
    clear h hX hB hb0 hb1 hq HI
    go_enter Try.func77, Try.ntmps77
    go_wp2_with fail
    have hne_ : Nonempty (Beh w) := ⟨⟨_, Below.refl _ _⟩⟩
    refine wp_region_quiet_beh (by kernel_rfl) (by kernel_rfl) ?_
    repeat (quiet_step (first | (go_at_call 12; refine Calls.beh_of (CB.out _))))
    refine wpQuiet_nil ?_
    intro wq hw_
    obtain ⟨⟨wz_, hbq⟩, hw_⟩ := hw_
    subst hw_
    try dsimp only
    clear hne_
    go_wp2_with fail
    go_ret
    exact ⟨none, 0, rfl, ⟨Nat.zero_le _, by decide⟩, ⟨rfl, .inl rfl⟩, (fun ad e => by cases e), hbq⟩
  · obtain ⟨a', c', hv, hc1, hc2, hI⟩ := HI.out
    injection hv with e1 e2 e3
    subst e1 e3
    have hm63 : cap ≤ 9223372036854775807 := h2
    have HII : Hid (ItsAt w (some ⟨g', 0, none⟩) X.2.2.2.length X.2.2.2) := hI
    rw [hn] at hk h1 hc1
    have hn2 := hn
    rw [hn] at e0
    rw [hn]
    have HL : Hid (X.2.2.2.length = n) := hn2
    have g1 : (k : Int) ≤ (n : Int) := by omega
    have gk : k ≤ cap := by omega
    have gm : (n : Int) - (k : Int) = ((n - k : Nat) : Int) := by omega
    have gc : (cap : Int) - (k : Int) = ((cap - k : Nat) : Int) := by omega
    have gb : n - k ≤ cap - k := by omega
    have gz : cap - k ≤ 9223372036854775807 := by omega
    by_cases hck : cap - k = 0
    · have hkk : k = n := by omega
      have hck2 : cap = k := by omega
      subst hck2
      have hnk : n - cap = 0 := by omega
      rw [hnk]
      clear h hX hB hb0 hb1 hq HI hI hn hn2
      go_enter Try.func77, Try.ntmps77
      go_wp2_with fail
      have hne_ : Nonempty (Beh w) := ⟨⟨_, Below.refl _ _⟩⟩
      refine wp_region_quiet_beh (by kernel_rfl) (by kernel_rfl) ?_
      repeat (quiet_step (first | (go_at_call 12; refine Calls.beh_of (CB.out _))))
      refine wpQuiet_nil ?_
      intro wq hw_
      obtain ⟨⟨wz_, hbq⟩, hw_⟩ := hw_
      subst hw_
      try dsimp only
      clear hne_
      go_wp2_with fail
      go_ret
      exact ⟨_, 0, rfl, ⟨Nat.le_refl _, by decide⟩, ⟨by rw [List.length_drop, HL.out]; omega, .inl rfl⟩, (fun ad e => by cases e; rfl), hbq⟩
    · have hckN : ¬ (cap = k) := by omega
      clear h hX hB hb0 hb1 hq HI hI hn hn2
      go_enter Try.func77, Try.ntmps77
      go_wp2_with fail
      have hne_ : Nonempty (Beh w) := ⟨⟨_, Below.refl _ _⟩⟩
      refine wp_region_quiet_beh (by kernel_rfl) (by kernel_rfl) ?_
      repeat (quiet_step (first | (go_at_call 12; refine Calls.beh_of (CB.out _))))
      refine wpQuiet_nil ?_
      intro wq hw_
      obtain ⟨⟨wz_, hbq⟩, hw_⟩ := hw_
      subst hw_
      try dsimp only
      clear hne_
      go_wp2_with fail
      go_ret
      refine ⟨_, _, rfl, ⟨gb, gz⟩, ?_, (fun ad e => by cases e; rfl), hbq⟩
      have h3 := HII.out.below hbq
      rw [HL.out] at h3
      have h4 := h3.drop k (by omega)
      rw [Nat.zero_add] at h4
      exact h4

set_option maxHeartbeats 2000000 in
theorem indexA_any (l : List ItT) (a : Option Addr) (n c : Nat) (cap : Value) (p : Nat → Bool) (Inv : Nat → World → Prop) (w : World) (hn : n ≤ 1048576)
    (hI : ∀ k W, Inv k W → ItsAt W a n l) (hC : ∀ k W, k < n → Inv k W → Calls Try.prog 74 #[.agg (itemA (itL l k)), cap] W fun e w' => e = .returned (.bool (p k)) ∧ Inv (k + 1) w') (h0 : Inv 0 w) :
    Calls Try.prog 73 #[.slice a n c, .func (.func 74) #[] #[cap]] w fun e w' => e = .returned (.int .i64 (idxI (fstN p n 0))) ∧ ∃ k, Inv k w' := by
  obtain ⟨R, hR⟩ : ∃ R, idxI (fstN p n 0) = R := ⟨_, rfl⟩
  have HR : Hid (idxI (fstN p n 0) = R) := hR
  rw [hR]
  have HI : Hid (∀ k W, Inv k W → ItsAt W a n l) := hI
  have HC : Hid (∀ k W, k < n → Inv k W → Calls Try.prog 74 #[.agg (itemA (itL l k)), cap] W fun e w' => e = .returned (.bool (p k)) ∧ Inv (k + 1) w') := hC
  have H0 : Hid (Inv 0 w) := h0
  clear hI hC h0 hR
  go_enter Try.func73, Try.ntmps73
  go_wp2_with fail
  go_loopw [5, 8] (fun x i wr => ∃ k : Nat, k ≤ n ∧ i = .int .i64 k ∧ Hid (Inv k wr) ∧ Hid (∀ m, m < k → p m = false)) (fun _ i _ => n - (intOf i).toNat)
  case atStart => exact ⟨0, Nat.zero_le _, rfl, H0, fun m hm => absurd hm (Nat.not_lt_zero _)⟩
  case round =>
    obtain ⟨k, hk, rfl, HV, HP⟩ := hrel
    by_cases hlt : k < n
    · have b0 : (k : Int) < (n : Int) := by omega
      obtain ⟨lb, off, rfl, hcl⟩ := (HI.out k wr HV.out).2.resolve_left (by omega)
      obtain ⟨k0, k1, k2⟩ := hcl k hlt
      have CC' := HC.out k wr hlt HV.out
      obtain ⟨⟨x0, x1, x2⟩, hx⟩ : ∃ x, itL l k = x := ⟨_, rfl⟩
      rw [hx] at k0 k1 k2 CC'
      simp only [itemA] at k0 k1 k2 CC'
      have CC : Hid (Calls _ _ _ _ _) := CC'
      clear hx hcl CC' H0
      go_wp2_with fail
      refine CC.out.mono ?_
      rintro e w1 ⟨rfl, h1⟩
      have HV1 : Hid (Inv (k + 1) w1) := h1
      clear h1 CC k0 k1 k2 HV
      cases hp : p k with
      | true =>
        have hf := fstN_at p n k hlt hp HP.out
        obtain rfl : (k : Int) = R := by rw [← HR.out, hf]; rfl
        clear hf HR
        go_wp2_with fail
        go_ret
        exact ⟨rfl, _, HV1.out⟩
      | false =>
        have HP1 : Hid (∀ m, m < k + 1 → p m = false) := fun m hm => by
          by_cases e : m = k
          · rw [e]; exact hp
          · exact HP.out m (by omega)
        go_wp2_with fail
        refine ⟨?_, ?_⟩
        · first
          | exact ⟨k + 1, by omega, by go_num, HV1, HP1⟩
          | ((repeat apply Exists.intro); refine ⟨?_, rfl⟩; exact ⟨k + 1, by omega, by go_num, HV1, HP1⟩)
        · simp [intOf] <;> omega
    · obtain rfl : k = n := by omega
      have b0 : ¬ ((k : Int) < (k : Int)) := by omega
      obtain rfl : (-1 : Int) = R := by rw [← HR.out, fstN_no p k HP.out]; rfl
      clear HI HC H0 HR
      go_wp2_with fail
      go_ret
      exact ⟨rfl, _, HV.out⟩

set_option maxHeartbeats 2000000 in
theorem indexF_any (l : List ItT) (a : Option Addr) (n c : Nat) (cap : Value) (p : Nat → Bool) (Inv : Nat → World → Prop) (w : World) (hn : n ≤ 1048576)
    (hI : ∀ k W, Inv k W → ItsAt W a n l) (hC : ∀ k W, k < n → Inv k W → Calls Try.prog 83 #[.agg (itemA (itL l k)), cap] W fun e w' => e = .returned (.bool (p k)) ∧ Inv (k + 1) w') (h0 : Inv 0 w) :
    Calls Try.prog 73 #[.slice a n c, .func (.func 83) #[] #[cap]] w fun e w' => e = .returned (.int .i64 (idxI (fstN p n 0))) ∧ ∃ k, Inv k w' := by
  obtain ⟨R, hR⟩ : ∃ R, idxI (fstN p n 0) = R := ⟨_, rfl⟩
  have HR : Hid (idxI (fstN p n 0) = R) := hR
  rw [hR]
  have HI : Hid (∀ k W, Inv k W → ItsAt W a n l) := hI
  have HC : Hid (∀ k W, k < n → Inv k W → Calls Try.prog 83 #[.agg (itemA (itL l k)), cap] W fun e w' => e = .returned (.bool (p k)) ∧ Inv (k + 1) w') := hC
  have H0 : Hid (Inv 0 w) := h0
  clear hI hC h0 hR
  go_enter Try.func73, Try.ntmps73
  go_wp2_with fail
  go_loopw [5, 8] (fun x i wr => ∃ k : Nat, k ≤ n ∧ i = .int .i64 k ∧ Hid (Inv k wr) ∧ Hid (∀ m, m < k → p m = false)) (fun _ i _ => n - (intOf i).toNat)
  case atStart => exact ⟨0, Nat.zero_le _, rfl, H0, fun m hm => absurd hm (Nat.not_lt_zero _)⟩
  case round =>
    obtain ⟨k, hk, rfl, HV, HP⟩ := hrel
    by_cases hlt : k < n
    · have b0 : (k : Int) < (n : Int) := by omega
      obtain ⟨lb, off, rfl, hcl⟩ := (HI.out k wr HV.out).2.resolve_left (by omega)
      obtain ⟨k0, k1, k2⟩ := hcl k hlt
      have CC' := HC.out k wr hlt HV.out
      obtain ⟨⟨x0, x1, x2⟩, hx⟩ : ∃ x, itL l k = x := ⟨_, rfl⟩
      rw [hx] at k0 k1 k2 CC'
      simp only [itemA] at k0 k1 k2 CC'
      have CC : Hid (Calls _ _ _ _ _) := CC'
      clear hx hcl CC' H0
      go_wp2_with fail
      refine CC.out.mono ?_
      rintro e w1 ⟨rfl, h1⟩
      have HV1 : Hid (Inv (k + 1) w1) := h1
      clear h1 CC k0 k1 k2 HV
      cases hp : p k with
      | true =>
        have hf := fstN_at p n k hlt hp HP.out
        obtain rfl : (k : Int) = R := by rw [← HR.out, hf]; rfl
        clear hf HR
        go_wp2_with fail
        go_ret
        exact ⟨rfl, _, HV1.out⟩
      | false =>
        have HP1 : Hid (∀ m, m < k + 1 → p m = false) := fun m hm => by
          by_cases e : m = k
          · rw [e]; exact hp
          · exact HP.out m (by omega)
        go_wp2_with fail
        refine ⟨?_, ?_⟩
        · first
          | exact ⟨k + 1, by omega, by go_num, HV1, HP1⟩
          | ((repeat apply Exists.intro); refine ⟨?_, rfl⟩; exact ⟨k + 1, by omega, by go_num, HV1, HP1⟩)
        · simp [intOf] <;> omega
    · obtain rfl : k = n := by omega
      have b0 : ¬ ((k : Int) < (k : Int)) := by omega
      obtain rfl : (-1 : Int) = R := by rw [← HR.out, fstN_no p k HP.out]; rfl
      clear HI HC H0 HR
      go_wp2_with fail
      go_ret
      exact ⟨rfl, _, HV.out⟩

set_option maxHeartbeats 2000000 in
theorem addC_any (x : ItT) (gf : Nat) (F : FrmT) (a : Option Addr) (c : Nat) (w : World) (hb : Blk w 39 gf (frmA F a c)) :
    Calls Try.prog 74 #[.agg (itemA x), .pointer (some ⟨gf, 0, none⟩)] w fun e w' => e = .returned (.bool (decide (x.2.1 = F.2.2.2.1) && decide (x.2.2 = F.2.2.2.2.2.1))) ∧ Below w.heap.size w w' := by
  obtain ⟨x0, x1, x2⟩ := x
  have c3 : (w.alloc (.cells (itemA (x0, x1, x2)) 31)).cell? ⟨gf, 3, none⟩ = some (.int .i64 F.2.2.2.1) := (hb.alloc _).cell 3
  have c5 : (w.alloc (.cells (itemA (x0, x1, x2)) 31)).cell? ⟨gf, 5, none⟩ = some (.string F.2.2.2.2.2.1) := (hb.alloc _).cell 5
  have d1 : (w.alloc (.cells (itemA (x0, x1, x2)) 31)).cell? ⟨w.heap.size, 1, none⟩ = some (.int .i64 x1) := (Blk.new w 31 (itemA (x0, x1, x2))).cell 1
  have d2 : (w.alloc (.cells (itemA (x0, x1, x2)) 31)).cell? ⟨w.heap.size, 2, none⟩ = some (.string x2) := (Blk.new w 31 (itemA (x0, x1, x2))).cell 2
  have HB : Hid (Below w.heap.size w (w.alloc (.cells (itemA (x0, x1, x2)) 31))) := below_new _ _
  obtain ⟨E, hE⟩ : ∃ E, F.2.2.2.1 = E := ⟨_, rfl⟩
  obtain ⟨S, hS⟩ : ∃ S, F.2.2.2.2.2.1 = S := ⟨_, rfl⟩
  rw [hE] at c3 ⊢
  rw [hS] at c5 ⊢
  simp only [itemA] at c3 c5 d1 d2 HB ⊢
  clear hb hE hS
  by_cases h1 : x1 = E
  · subst h1
    by_cases h2 : x2 = S
    · subst h2
      rw [decide_eq_true rfl, decide_eq_true rfl]
      go_enter Try.func74, Try.ntmps74
      go_wp2_with fail
      go_ret
      exact ⟨rfl, HB.out⟩
    · have hq : (x2.toList == S.toList) = false := by rw [txtBeqL]; exact decide_eq_false h2
      rw [decide_eq_true rfl, decide_eq_false h2]
      go_enter Try.func74, Try.ntmps74
      go_wp2_with fail
      go_ret
      exact ⟨rfl, HB.out⟩
  · rw [decide_eq_false h1]
    go_enter Try.func74, Try.ntmps74
    go_wp2_with fail
    go_ret
    exact ⟨rfl, HB.out⟩

end Go.Proofs.Ytkmdajenbidaaaa

/- Layer 21, the code: first; itemOf. -/
namespace Go.Proofs.Ytkmdajenbidaaaa
open Go.RowKit
set_option maxRecDepth 100000
set_option linter.unusedSimpArgs false
set_option linter.unusedVariables false

set_option maxHeartbeats 2000000 in
theorem firstC_any (x : ItT) (b m : Nat) (hm : m + x.2.2.size ≤ 4611686018427387904) (w : World) (hb : Blk w 3 b #[.int .i64 (m : Int)]) :
    Calls Try.prog 83 #[.agg (itemA x), .pointer (some ⟨b, 0, none⟩)] w fun e w' => e = .returned (.bool (decide (40000 < m + x.2.2.size))) ∧ Blk w' 3 b #[.int .i64 ((m + x.2.2.size : Nat) : Int)] ∧ Kept2 b none w w' := by
  obtain ⟨x0, x1, x2⟩ := x
  simp only at hm
  have hlt := hb.lt
  have B1 := hb.alloc (.cells (itemA (x0, x1, x2)) 31)
  have c0 : (w.alloc (.cells (itemA (x0, x1, x2)) 31)).cell? ⟨b, 0, none⟩ = some (.int .i64 (m : Int)) := B1.cell 0
  have f0 : (w.alloc (.cells (itemA (x0, x1, x2)) 31)).frozen? ⟨b, 0, none⟩ = false := B1.free 0
  have d2 : (w.alloc (.cells (itemA (x0, x1, x2)) 31)).cell? ⟨w.heap.size, 2, none⟩ = some (.string x2) := (Blk.new w 31 (itemA (x0, x1, x2))).cell 2
  obtain ⟨M, hM⟩ : ∃ M : Int, (m : Int) + (x2.size : Int) = M := ⟨_, rfl⟩
  have hw : IntKind.i64.wrap ((m : Int) + (x2.size : Int)) = M := by rw [IntKind.wrap_i64]; omega
  rw [show ((m + x2.size : Nat) : Int) = M by omega]
  have hd : (40000 < m + x2.size) = (40000 < M) := by rw [← hM]; apply propext; omega
  simp only [hd]
  have HK : Hid (Blk ((w.alloc (.cells (itemA (x0, x1, x2)) 31)).setCell ⟨b, 0, none⟩ (.int .i64 M)) 3 b #[.int .i64 M]) := B1.setAt 0 _
  have HQ : Hid (Kept2 b none w ((w.alloc (.cells (itemA (x0, x1, x2)) 31)).setCell ⟨b, 0, none⟩ (.int .i64 M))) := (Kept2.ofBelow b none (below_new w _)).setCell ⟨b, 0, none⟩ rfl _
  have e0 : ((w.alloc (.cells (itemA (x0, x1, x2)) 31)).setCell ⟨b, 0, none⟩ (.int .i64 M)).cell? ⟨b, 0, none⟩ = some (.int .i64 M) := HK.out.cell 0
  simp only [itemA] at c0 f0 d2 HK HQ e0 ⊢
  clear hb B1 hlt
  clear hM hd hm
  by_cases h1 : 40000 < M
  · rw [decide_eq_true h1]
    go_enter Try.func83, Try.ntmps83
    go_wp2_with fail
    go_ret
    exact ⟨rfl, HK.out, HQ.out⟩
  · rw [decide_eq_false h1]
    go_enter Try.func83, Try.ntmps83
    go_wp2_with fail
    go_ret
    exact ⟨rfl, HK.out, HQ.out⟩
end Go.Proofs.Ytkmdajenbidaaaa

/- Layer 21, the code: first; itemOf. -/
namespace Go.Proofs.Ytkmdajenbidaaaa
open Go.RowKit
set_option maxRecDepth 100000
set_option linter.unusedSimpArgs false
set_option linter.unusedVariables false

/-- What IndexFunc holds while it counts bytes. -/
def FstI (w : World) (L : List ItT) (k : Nat) (W : World) : Prop := Below w.heap.size w W ∧ Blk W 3 w.heap.size #[.int .i64 (sizeL (L.take k) : Int)]

theorem fst_step (w : World) (L : List ItT) (k : Nat) (W : World) (hk : k < L.length) (hz : sizeL L ≤ 4611686018427387904) (h : FstI w L k W) :
    Calls Try.prog 83 #[.agg (itemA (itL L k)), .pointer (some ⟨w.heap.size, 0, none⟩)] W fun e w' => e = .returned (.bool (decide (40000 < sizeL (L.take (k + 1))))) ∧ FstI w L (k + 1) w' := by
  have hs := sizeL_take L k hk
  have hs2 := sizeL_split L (k + 1)
  refine (firstC_any (itL L k) w.heap.size (sizeL (L.take k)) (by omega) W h.2).mono ?_
  rintro e w' ⟨rfl, h1, h2⟩
  rw [← hs] at h1 ⊢
  exact ⟨rfl, h.1.trans (h2.below _ h.1.size (Nat.le_refl _) (fun k hk => by cases hk)), h1⟩

theorem run_sliceTo (a : Option Addr) (n c m : Nat) (hm : m ≤ c) (w : World) : (Instr.slice 29 (.slice a n c) none (some (.int .i64 (m : Int))) none).run Try.prog w = .ok (.slice a m c) w := by
  obtain ⟨i0, hi, hz0, hz1, hz2⟩ := info_parts Try.infoI19
  have h1 : (0 : Int) ≤ (m : Int) ∧ (m : Int) ≤ (c : Int) := by omega
  have ha : a.map (fun x => x.add (0 * 3)) = a := by
    cases a with
    | none => rfl
    | some x => simp [Addr.add]
  unfold Instr.slice
  simp [run_underlying Try.underlying29, Instr.sliceBounds, Instr.sliceBound, asIntOf, sizeOf, typeInfo, hi, hz1, h1]
  cases a with
  | none => rw [if_pos hm]; simp
  | some x => rw [if_pos hm]; simp [Addr.add]


set_option maxHeartbeats 4000000 in
theorem first_any (l : List ItT) (a : Option Addr) (n c most : Nat) (w : World) (hI : ItsAt w a n l) (hn : n ≤ 1048576) (hc : n ≤ c) (hc2 : c ≤ 9223372036854775807) (hmo : most ≤ 1099511627775) (hz : sizeL l ≤ 4611686018427387904) :
    Calls Try.prog 76 #[.slice a n c, .int .i64 (most : Int)] w fun e w' => ∃ c', e = .returned (.slice a (firstL l most).length c') ∧ ((firstL l most).length ≤ c' ∧ c' ≤ 9223372036854775807) ∧ ItsAt w' a (firstL l most).length (firstL l most) ∧ Below w.heap.size w w' := by
  obtain ⟨m, hm⟩ : ∃ m, min most n = m := ⟨_, rfl⟩
  have hmn : m ≤ n := by omega
  have hmin : min (most : Int) (n : Int) = (m : Int) := by omega
  have hlt : l.take most = l.take m := by
    by_cases e : most ≤ n
    · rw [show m = most by omega]
    · rw [List.take_of_length_le (by rw [hI.1]; omega), List.take_of_length_le (by rw [hI.1]; omega)]
  have hLm : (l.take m).length = m := by rw [List.length_take, hI.1]; omega
  have hI1 : ItsAt w a m (l.take m) := hI.take m hmn
  have hz1 : sizeL (l.take m) ≤ 4611686018427387904 := by have := sizeL_split l m; omega
  obtain ⟨L, hL⟩ : ∃ L, l.take m = L := ⟨_, rfl⟩
  rw [hL] at hlt hLm hI1 hz1
  have hfl : firstL l most = fitL L := by unfold firstL; rw [hlt]
  rw [hfl]
  unfold fitL
  rw [hLm]
  obtain ⟨W1, hW1⟩ : ∃ W1, (w.alloc (.cells #[.int .i64 0] 3)).setCell ⟨w.heap.size, 0, none⟩ (.int .i64 0) = W1 := ⟨_, rfl⟩
  have f0 : (w.alloc (.cells #[.int .i64 0] 3)).frozen? ⟨w.heap.size, 0, none⟩ = false := (Blk.new w 3 #[.int .i64 0]).free 0
  have CI' := indexF_any L a m c (.pointer (some ⟨w.heap.size, 0, none⟩)) (fun i => decide (40000 < sizeL (L.take (i + 1)))) (FstI w L) W1 (by omega)
    (fun k W hW => hI1.below hW.1) (fun k W hk hW => fst_step w L k W (by rw [hLm]; exact hk) hz1 hW) (by
      rw [← hW1]
      refine ⟨(below_new w _).setCell (p := ⟨w.heap.size, 0, none⟩) (Nat.le_refl _) _, ?_⟩
      have := (Blk.new w 3 #[.int .i64 0]).setAt 0 (.int .i64 0)
      exact this)
  have HII : Hid (ItsAt w a m L) := hI1
  have HLm : Hid (L.length = m) := hLm
  have gmc : m ≤ c := by omega
  have hs1 := fun wx => run_sliceTo a n c m gmc wx
  have HG : Hid (m ≤ c ∧ c ≤ 9223372036854775807) := ⟨gmc, hc2⟩
  have HM : Hid (m ≤ n) := hmn
  cases hf : fstN (fun i => decide (40000 < sizeL (L.take (i + 1)))) m 0 with
  | some i =>
    obtain ⟨_, hi, _, _⟩ := fstN_some _ m 0 i hf
    rw [hf] at CI'
    have CI : Hid (Calls Try.prog 73 _ _ fun e w' => e = .returned (.int .i64 (i : Int)) ∧ _) := CI'
    simp only
    have him : i ≤ m := by omega
    have hs2 := fun wx => run_sliceTo a m c i (by omega) wx
    have HGI : Hid (i ≤ c) := by show _ ≤ _; omega
    have hli : (L.take i).length = i := by rw [List.length_take, HLm.out]; omega
    rw [hli]
    have HR : Hid (ItsAt w a i (L.take i)) := HII.out.take i him
    clear hf CI' hli him hi hlt hI1 hz1 hfl hI hL hLm hz hm hmn hmo hn hc gmc hc2
    go_enter Try.func76, Try.ntmps76
    go_wp2_with fail
    try rw [hW1]
    refine CI.out.mono ?_
    rintro e w2 ⟨rfl, kk, h2⟩
    have HB : Hid (Below w.heap.size w w2) := h2.1
    clear h2 CI
    go_wp2_with fail
    go_ret
    exact ⟨_, rfl, ⟨HGI.out, HG.out.2⟩, HR.out.below HB.out, HB.out⟩
  | none =>
    rw [hf] at CI'
    have CI : Hid (Calls Try.prog 73 _ _ fun e w' => e = .returned (.int .i64 (-1)) ∧ _) := CI'
    simp only
    rw [HLm.out]
    clear hf CI' hlt hI1 hz1 hfl hI hL hLm hz hm hmn hmo hn hc gmc hc2
    go_enter Try.func76, Try.ntmps76
    go_wp2_with fail
    try rw [hW1]
    refine CI.out.mono ?_
    rintro e w2 ⟨rfl, kk, h2⟩
    have HB : Hid (Below w.heap.size w w2) := h2.1
    clear h2 CI
    go_wp2_with fail
    go_ret
    exact ⟨_, rfl, HG.out, HII.out.below HB.out, HB.out⟩

end Go.Proofs.Ytkmdajenbidaaaa
