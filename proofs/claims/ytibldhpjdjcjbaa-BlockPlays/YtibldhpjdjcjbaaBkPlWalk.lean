/- BlockPlays, walked. -/
import Derived.Test.YtibldhpjdjcjbaaBkE
import Derived.Test.YtibldhpjdjcjbaaOpenD
import Derived.BigQuiet
namespace Go.Proofs.Ytibldhpjdjcjbaa
open Go.RowKit
set_option maxRecDepth 100000
set_option linter.unusedSimpArgs false
set_option maxRecDepth 100000

/-- Both devices: the code's at g, b is D, the document's at q is E. -/
def PlB (w wr : World) (g b q : Nat) (D E : DevT) : Prop :=
  DevB w wr g b D ∧ (∃ r c, Blk wr 29 q #[.slice (some ⟨r, 0, none⟩) E.1.length c, .int .i64 E.2.1, .bool E.2.2.1, .int .i64 E.2.2.2] ∧ RowD wr r c E.1) ∧ w.heap.size ≤ q ∧ q ≠ g ∧ q ≠ b

theorem PlB.on {w wr w' : World} {g b q : Nat} {D E : DevT} (h : PlB w wr g b q D E) (hb : Below wr.heap.size wr w') : PlB w w' g b q D E := by
  obtain ⟨h1, ⟨r, c, h2, h3⟩, h4⟩ := h
  exact ⟨h1.on hb, ⟨r, c, h2.on hb, h3.on hb⟩, h4⟩
theorem PlB.inn {w wr : World} {g b q : Nat} {D E : DevT} (h : PlB w wr g b q D E) : ∃ r c, (wr.cell? ⟨q, 0, none⟩ = some (.slice (some ⟨r, 0, none⟩) E.1.length c) ∧ wr.cell? ⟨q, 1, none⟩ = some (.int .i64 E.2.1) ∧ wr.cell? ⟨q, 2, none⟩ = some (.bool E.2.2.1) ∧ wr.cell? ⟨q, 3, none⟩ = some (.int .i64 E.2.2.2)) ∧ DevIn wr (.agg #[.slice (some ⟨r, 0, none⟩) E.1.length c, .int .i64 E.2.1, .bool E.2.2.1, .int .i64 E.2.2.2]) E ∧ Hid (Blk wr 29 q #[.slice (some ⟨r, 0, none⟩) E.1.length c, .int .i64 E.2.1, .bool E.2.2.1, .int .i64 E.2.2.2]) := by
  obtain ⟨h1, ⟨r, c, h2, h3⟩, h4⟩ := h
  exact ⟨r, c, ⟨h2.cell 0, h2.cell 1, h2.cell 2, h2.cell 3⟩, ⟨r, c, rfl, h3⟩, h2⟩
theorem RowD.setRow {w : World} {r c q : Nat} {L : List ByteArray} (h : RowD w r c L) (hq : r ≠ q) (cs : Array Value) : RowD (w.setRow q cs) r c L :=
  ⟨h.1, fun i hi => Eq.trans (cell_setRow_other _ _ _ ⟨r, i, none⟩ hq) (h.2 i hi)⟩
theorem PlB.store {w wr : World} {g b q r c : Nat} {D E E' : DevT} (h : PlB w wr g b q D E) (hr : RowD wr r c E'.1) (hl : 0 < E'.1.length) : PlB w (wr.setRow q #[.slice (some ⟨r, 0, none⟩) E'.1.length c, .int .i64 E'.2.1, .bool E'.2.2.1, .int .i64 E'.2.2.2]) g b q D E' := by
  obtain ⟨⟨⟨F, a1, ⟨cs, b1, b2⟩, a3⟩, d1, d2, d3⟩, ⟨r0, c0, h2, h3⟩, h4, h5, h6⟩ := h
  have hrq := hr.apartQ hl h2 rfl
  exact ⟨⟨⟨F, a1.setRowOther _ (fun e => h5 e.symm) _, ⟨cs, b1.setRowOther _ (fun e => h6 e.symm) _, b2⟩, a3⟩, d1, d2, below_setRow d3 h4 _⟩, ⟨r, c, h2.setRow _, hr.setRow hrq _⟩, h4, h5, h6⟩
theorem PlB.code {w wr w' : World} {g b q : Nat} {D D' E : DevT} (h : PlB w wr g b q D E) (hd : DevTo wr g b D' w') (hD : 0 < D.1.length) (hE : 0 < E.1.length) : PlB w w' g b q D' E := by
  obtain ⟨h1, ⟨r, c, h2, h3⟩, h4, h5, h6⟩ := h
  obtain ⟨x1, x2⟩ := h3.apart hE h1.1 hD
  exact ⟨h1.to hd, ⟨r, c, h2.kept hd.2 h5 (fun e => h6 (by cases e; rfl)), h3.dev hd x1 x2⟩, h4, h5, h6⟩

def MeP (m k : Nat) (D : DevT) : Prop := D.1.length = m ∧ (0 ≤ D.2.2.2 ∧ D.2.2.2 ≤ (k : Int)) ∧ (-1 ≤ D.2.1 ∧ D.2.1 ≤ 9223372036854775807)
theorem MeP.ok {m k : Nat} {D : DevT} (h : MeP m k D) (hm : m ≤ 64) (hk : k ≤ 100) : OkD D := ⟨by have := h.1; omega, ⟨h.2.1.1, by have := h.2.1.2; omega⟩, h.2.2⟩
theorem MeP.wr {m k : Nat} {D : DevT} (h : MeP m k D) (i : Int) (s : ByteArray) : MeP m (k + 1) (wrP D i s).1 := ⟨by rw [wrP_len]; exact h.1, by have := wrP_N D i s k h.2.1; exact ⟨this.1, by have := this.2; omega⟩, wrP_F D i s h.2.2⟩
theorem MeP.up {m k : Nat} {D : DevT} (h : MeP m k D) : MeP m (k + 1) D := ⟨h.1, ⟨h.2.1.1, by have := h.2.1.2; omega⟩, h.2.2⟩
theorem MeP.fu {m k : Nat} {D : DevT} (h : MeP m k D) (i : Int) (hi : i ≤ 9223372036854775807) : MeP m (k + 1) (fuseB D i) := ⟨h.1, h.up.2.1, by show -1 ≤ max i (-1) ∧ max i (-1) ≤ _; omega⟩
theorem MeP.on {m k : Nat} {D : DevT} (h : MeP m k D) : MeP m (k + 1) (onB D) := ⟨h.1, h.up.2.1, by show (-1 : Int) ≤ -1 ∧ (-1 : Int) ≤ _; omega⟩

theorem empty17_yes (s : ByteArray) (h : s.size = 0) : s.toList.isEmpty = true := by
  rw [toList_data]
  have : s.data.size = 0 := h
  rw [Array.eq_empty_of_size_eq_zero this]; rfl

theorem empty17_no (s : ByteArray) (h : ¬ s.size = 0) : s.toList.isEmpty = false := by
  rw [toList_data]
  cases hq : s.data.toList with
  | nil =>
    have h2 : s.data.toList.length = 0 := by rw [hq]; rfl
    rw [Array.length_toList] at h2
    exact absurd h2 h
  | cons a l => rfl



set_option maxHeartbeats 8000000 in
theorem blockPlays_walk (n : Int) (a : Option Addr) (len cap : Nat) (l : List (Int × Int × Int × ByteArray)) (w : World) (hl : ActsAt17 w a len l) (hlen : len ≤ maxLen) (hq : ∀ i, i < len → ActOk17 (atL l i)) :
    Calls Try.prog 3 #[.int .i64 n, .slice a len cap] w fun e w' => e = .returned (.bool true) ∧ Below w.heap.size w w' := by
  have HL : Hid (ActsAt17 w a len l) := hl
  have HLen : Hid (len ≤ maxLen) := hlen
  have HQ : Hid (∀ i, i < len → ActOk17 (atL l i)) := hq
  clear hl hlen hq
  by_cases hn : 1 ≤ n ∧ n ≤ 4096
  · obtain ⟨m, rfl⟩ : ∃ m : Nat, n = (m : Int) := ⟨n.toNat, by omega⟩
    have CN := dnew_any m w ⟨by omega, by omega⟩
    have CR := fun w => rnew17_any m w ⟨by omega, by omega⟩
    go_enter Try.func3, Try.ntmps3
    go_wp2_with fail
    refine CN.mono ?_
    rintro e w1 ⟨g, b, rfl, hd, hg, hb, hB⟩
    have A1 : Hid (DevB w w1 g b (newB m)) := ⟨hd, hg, hb, hB⟩
    clear CN hd hg hb hB
    go_wp2_with fail
    refine (CR _).mono ?_
    rintro e w2 ⟨v, rfl, ⟨r, c, rfl, hr⟩, hb2⟩
    have A2 : Hid (DevB w w2 g b (newB m)) := A1.out.on hb2
    have R2 : Hid (RowD w2 r c (newB m).1) := hr
    clear A1 hb2 hr CR
    unfold devA
    by_cases h64 : m ≤ 64
    · have m1 : ¬ ((64 : Int) < (m : Int)) := by omega
      obtain ⟨q, hq⟩ : ∃ q, q = w2.heap.size := ⟨_, rfl⟩
      obtain ⟨hlg, hlb⟩ := A2.out.1.lt
      have HP3 : Hid (PlB w (w2.alloc (.cells #[.slice (some ⟨r, 0, none⟩) (newB m).1.length c, .int .i64 (newB m).2.1, .bool (newB m).2.2.1, .int .i64 (newB m).2.2.2] 29)) g b q (newB m) (newB m)) := by
        refine ⟨A2.out.on (below_new w2 _), ⟨r, c, Blk.new' _ _ _ _ hq.symm, R2.out.on (below_new w2 _)⟩, ?_, ?_, ?_⟩
        · rw [hq]; exact A2.out.2.2.2.size
        · omega
        · omega
      have HM3 : Hid (MeP m 0 (newB m)) := ⟨by unfold newB; simp, ⟨Int.le_refl _, Int.le_refl _⟩, by show (-1 : Int) ≤ -1 ∧ (-1 : Int) ≤ _; omega⟩
      clear A2 R2 hlg hlb
      go_wp2_with fail
      rw [← hq]
      generalize newB m = D0 at *
      generalize w2.alloc _ = w3 at *
      clear hq
      go_loopw [9] (fun i wr => ∃ (k : Nat) (D : DevT), k ≤ len ∧ k ≤ 100 ∧ i = .int .i64 k ∧ Hid (PlB w wr g b q D D) ∧ Hid (MeP m k D)) (fun i _ => len - (intOf i).toNat)
      case atStart => exact ⟨0, D0, Nat.zero_le _, Nat.zero_le _, rfl, HP3, HM3⟩
      case round =>
        obtain ⟨k, D, hk, hk4, rfl, HP, HM⟩ := hrel
        clear HP3 HM3
        by_cases hlt : k < len ∧ k < 100
        · obtain ⟨hlt, hlt4⟩ := hlt
          have d0 : (k : Int) < (len : Int) := by omega
          have d1 : (k : Int) < 100 := by omega
          obtain ⟨lb, off, rfl, hcl⟩ : ∃ lb off, a = some ⟨lb, off, none⟩ ∧ ∀ i, i < len → w.cell? ⟨lb, off + i * 4, none⟩ = some (.int .i64 (atL l i).1) ∧ w.cell? ⟨lb, off + i * 4 + 1, none⟩ = some (.int .i64 (atL l i).2.1) ∧ w.cell? ⟨lb, off + i * 4 + 2, none⟩ = some (.int .u8 (atL l i).2.2.1) ∧ w.cell? ⟨lb, off + i * 4 + 3, none⟩ = some (.string (atL l i).2.2.2) := by
            rcases HL.out.2 with h | h
            · omega
            · exact h
          have hq0 := hcl k hlt
          have hok := HQ.out k hlt
          generalize atL l k = act at hq0 hok
          obtain ⟨kd, at_, cb, S⟩ := act
          obtain ⟨z0, z1, z2, z3⟩ := hq0
          obtain ⟨_, y1, y2, y3⟩ := hok
          have hB := HP.out.1.2.2.2
          have c0 : wr.cell? ⟨lb, off + k * 4, none⟩ = some (.int .i64 kd) := by rw [hB.cell (World.block_lt_of_cell? w _ z0)]; exact z0
          have c1 : wr.cell? ⟨lb, off + k * 4 + 1, none⟩ = some (.int .i64 at_) := by rw [hB.cell (World.block_lt_of_cell? w _ z1)]; exact z1
          have c2 : wr.cell? ⟨lb, off + k * 4 + 2, none⟩ = some (.int .u8 cb) := by rw [hB.cell (World.block_lt_of_cell? w _ z2)]; exact z2
          have c3 : wr.cell? ⟨lb, off + k * 4 + 3, none⟩ = some (.string S) := by rw [hB.cell (World.block_lt_of_cell? w _ z3)]; exact z3
          obtain ⟨cn, rfl, hcn⟩ : ∃ v : Nat, cb = (v : Int) ∧ v < 256 := by
            simp [Lit.wf, IntKind.min, IntKind.max, IntKind.signed, IntKind.bits] at y2
            exact ⟨cb.toNat, by omega, by omega⟩
          have Hat : Hid (at_ ≤ 9223372036854775807) := by
            simp [Lit.wf, IntKind.min, IntKind.max, IntKind.signed, IntKind.bits] at y1
            show at_ ≤ _; omega
          have hS3 : S.size ≤ maxLen := y3
          clear hB z0 z1 z2 z3 y1 y2 y3 hcl
          have HP1 : Hid (PlB w (wr.alloc (.cells #[.int .i64 kd, .int .i64 at_, .int .u8 (cn : Int), .string S] 34)) g b q D D) := HP.out.on (below_new wr _)
          have HA1 : Hid (Blk (wr.alloc (.cells #[.int .i64 kd, .int .i64 at_, .int .u8 (cn : Int), .string S] 34)) 34 wr.heap.size #[.int .i64 kd, .int .i64 at_, .int .u8 (cn : Int), .string S]) := Blk.new _ _ _
          have HAc : Hid (wr.heap.size ≠ g ∧ wr.heap.size ≠ b ∧ wr.heap.size ≠ q) := by
            obtain ⟨x1, x2⟩ := HP.out.1.1.lt
            obtain ⟨r, c, h2, _⟩ := HP.out.2.1
            have := h2.lt
            exact ⟨by omega, by omega, by omega⟩
          have HB1 : Hid (Below w.heap.size w (wr.alloc (.cells #[.int .i64 kd, .int .i64 at_, .int .u8 (cn : Int), .string S] 34))) := below_step HP.out.1.2.2.2 (Nat.le_refl _) (below_new wr _)
          clear HP
          by_cases h100 : 100 < S.size
          · have s0 : (100 : Int) < (S.size : Int) := by omega
            go_wp2_with fail
            refine (awake17_on HB1.out).mono ?_
            rintro e w4 ⟨rfl, hb4⟩
            go_wp2
            go_ret
            exact ⟨rfl, hb4⟩
          · have s0 : ¬ ((100 : Int) < (S.size : Int)) := by omega
            by_cases k1 : kd = 1
            · subst k1
              by_cases hS : S.size = 0
              · have he := empty17_yes S hS
                have a2 : World.cell? (wr.alloc (.cells #[.int .i64 1, .int .i64 at_, .int .u8 (cn : Int), .string S] 34)) ⟨wr.heap.size, 2, none⟩ = some (.int .u8 (cn : Int)) := HA1.out.cell 2
                go_wp2_with fail
                refine (filled_any cn _ hcn).mono ?_
                rintro e v0 ⟨rfl, hb0⟩
                have HPv : Hid (PlB w v0 g b q D D) := HP1.out.on hb0
                have HAv : Hid (Blk v0 34 wr.heap.size #[.int .i64 1, .int .i64 at_, .int .u8 (cn : Int), .string S]) := HA1.out.on hb0
                clear HP1 HA1 HB1 a2 he hb0
                generalize filledB cn = T
                obtain ⟨r1, c1, ⟨q0, q1, q2, q3⟩, hin, HQB⟩ := HPv.out.inn
                have a1 : World.cell? _ ⟨wr.heap.size, 1, none⟩ = some (.int .i64 at_) := HAv.out.cell 1
                obtain ⟨R, HR⟩ : ∃ R, Hid (wrP D at_ T = R) := ⟨_, rfl⟩
                have CW := rwrite_all D _ at_ T _ hin (HM.out.ok h64 hk4)
                rw [HR.out] at CW
                go_wp2_with fail
                refine CW.mono ?_
                rintro e v1 ⟨v', rfl, ⟨r2, c2, rfl, hr2⟩, hb1⟩
                unfold devA
                have HP2 : Hid (PlB w v1 g b q D D) := HPv.out.on hb1
                have HA2 : Hid (Blk v1 34 wr.heap.size #[.int .i64 1, .int .i64 at_, .int .u8 (cn : Int), .string S]) := HAv.out.on hb1
                clear HPv HAv q0 q1 q2 q3 a1 HQB hin hb1 CW
                obtain ⟨V2, hV2⟩ : ∃ V2, V2 = v1.alloc (.cells #[.slice (some ⟨r2, 0, none⟩) R.1.1.length c2, .int .i64 R.1.2.1, .bool R.1.2.2.1, .int .i64 R.1.2.2.2] 29) := ⟨_, rfl⟩
                have HP3 : Hid (PlB w V2 g b q D D) := by rw [hV2]; exact HP2.out.on (below_new v1 _)
                have HA3 : Hid (Blk V2 34 wr.heap.size #[.int .i64 1, .int .i64 at_, .int .u8 (cn : Int), .string S]) := by rw [hV2]; exact HA2.out.on (below_new v1 _)
                have HN3 : Hid (Blk V2 29 v1.heap.size #[.slice (some ⟨r2, 0, none⟩) R.1.1.length c2, .int .i64 R.1.2.1, .bool R.1.2.2.1, .int .i64 R.1.2.2.2]) := by rw [hV2]; exact Blk.new _ _ _
                have HR3 : Hid (RowD V2 r2 c2 R.1.1) := by rw [hV2]; exact hr2.on (below_new v1 _)
                have HX3 : Hid (v1.heap.size ≠ g ∧ v1.heap.size ≠ b) := by
                  obtain ⟨x1, x2⟩ := HP2.out.1.1.lt
                  exact ⟨by omega, by omega⟩
                have a1 : (v1.alloc (.cells #[.slice (some ⟨r2, 0, none⟩) R.1.1.length c2, .int .i64 R.1.2.1, .bool R.1.2.2.1, .int .i64 R.1.2.2.2] 29)).cell? ⟨wr.heap.size, 1, none⟩ = some (.int .i64 at_) := by rw [← hV2]; exact HA3.out.cell 1
                clear HP2 HA2 hr2
                go_wp2_with fail
                rw [← hV2]
                clear a1 hV2
                have CD := dwrite_all g b D at_ T V2 HP3.out.1.1 (HM.out.ok h64 hk4)
                have HM4 : Hid (MeP m (k + 1) R.1) := by rw [← HR.out]; exact HM.out.wr at_ T
                rw [HR.out] at CD
                refine CD.mono ?_
                clear CD
                rintro e v3 ⟨rfl, hd⟩
                have hL : Hid (0 < D.1.length ∧ 0 < R.1.1.length) := ⟨by have := HM.out.1; omega, by have := HM4.out.1; omega⟩
                have HP4 : Hid (PlB w v3 g b q R.1 D) := HP3.out.code hd hL.out.1 hL.out.1
                have HN4 : Blk v3 29 v1.heap.size #[.slice (some ⟨r2, 0, none⟩) R.1.1.length c2, .int .i64 R.1.2.1, .bool R.1.2.2.1, .int .i64 R.1.2.2.2] := HN3.out.kept hd.2 HX3.out.1 (fun e => HX3.out.2 (by cases e; rfl))
                have HR4 : Hid (RowD v3 r2 c2 R.1.1) := by
                  obtain ⟨x1, x2⟩ := HR3.out.apart hL.out.2 HP3.out.1.1 hL.out.1
                  exact HR3.out.dev hd x1 x2
                have n0 : v3.cell? ⟨v1.heap.size, 0, none⟩ = some (.slice (some ⟨r2, 0, none⟩) R.1.1.length c2) := HN4.cell 0
                have n1 : v3.cell? ⟨v1.heap.size, 1, none⟩ = some (.int .i64 R.1.2.1) := HN4.cell 1
                have n2 : v3.cell? ⟨v1.heap.size, 2, none⟩ = some (.bool R.1.2.2.1) := HN4.cell 2
                have n3 : v3.cell? ⟨v1.heap.size, 3, none⟩ = some (.int .i64 R.1.2.2.2) := HN4.cell 3
                obtain ⟨r5, c5, _, _, HQB⟩ := HP4.out.inn
                have HP5 : Hid (PlB w (v3.setRow q #[.slice (some ⟨r2, 0, none⟩) R.1.1.length c2, .int .i64 R.1.2.1, .bool R.1.2.2.1, .int .i64 R.1.2.2.2]) g b q R.1 R.1) := HP4.out.store HR4.out hL.out.2
                clear HP3 HA3 HN3 HR3 HX3 hd HP4 HR4 HN4
                have e0 : (R.2 != R.2) = false := by rw [bne_eq_false_iff_eq]
                obtain ⟨V6, hV6⟩ : ∃ V6, V6 = v3.setRow q #[.slice (some ⟨r2, 0, none⟩) R.1.1.length c2, .int .i64 R.1.2.1, .bool R.1.2.2.1, .int .i64 R.1.2.2.2] := ⟨_, rfl⟩
                rw [← hV6] at HP5
                go_wp2_with (with_reducible refine wpList_storeBlk rfl 29 _ _ rfl q _ #[.slice (some ⟨r2, 0, none⟩) R.1.1.length c2, .int .i64 R.1.2.1, .bool R.1.2.2.1, .int .i64 R.1.2.2.2] (by with_unfolding_all rfl) (by with_unfolding_all rfl) HQB.out rfl (by kernel_rfl) (by simp [Value.oneCell']) ?_; rw [← hV6]; dsimp only [Act.put])
                have HP := HP5
                have HM := HM4
                clear HP5 HM4 HQB hV6 n0 n1 n2 n3 HR
                generalize R.1 = E at *
                have CO : Hid (∀ x, Calls Try.prog 20 #[.pointer (some ⟨g, 0, none⟩)] (World.drewN _ x) fun e w' => e = .returned (.bool E.2.2.1) ∧ w' = World.drewN _ x) := fun x => doff_any g b E _ (HP.out.1.1.on (below_drewN (Below.refl _ _) x))
                have CV : Hid (∀ x, Calls Try.prog 21 #[.pointer (some ⟨g, 0, none⟩)] (World.drewN _ x) fun e w' => e = .returned (.int .i64 E.2.2.2) ∧ w' = World.drewN _ x) := fun x => dwrites_any g b E _ (HP.out.1.1.on (below_drewN (Below.refl _ _) x))
                have CS : Hid (∀ x, Calls Try.prog 22 #[.pointer (some ⟨g, 0, none⟩)] (World.drewN _ x) fun e w' => e = .returned (.int .i64 (E.1.length : Int)) ∧ w' = World.drewN _ x) := fun x => dsize_any g b E _ (HP.out.1.1.on (below_drewN (Below.refl _ _) x))
                obtain ⟨r7, c7, ⟨q0, q1, q2, q3⟩, _, _⟩ := HP.out.inn
                clear q1
                have e1 : (E.2.2.1 != E.2.2.1) = false := by rw [bne_eq_false_iff_eq]
                have e2 : (E.2.2.2 != E.2.2.2) = false := by rw [bne_eq_false_iff_eq]
                have e3 : ((E.1.length : Int) != (E.1.length : Int)) = false := by rw [bne_eq_false_iff_eq]
                go_wp2_with fail
                go_quiet (first
                  | (go_at_call 20; exact Calls.quiet_of_same (CO.out _))
                  | (go_at_call 21; exact Calls.quiet_of_same (CV.out _))
                  | (go_at_call 22; exact Calls.quiet_of_same (CS.out _)))
                clear CO CV CS q0 q2 q3 e1 e2 e3
                go_wp2_with fail
                refine ⟨⟨k + 1, E, by omega, by omega, by go_num, HP.out.on (below_drewN (Below.refl _ _) _), HM⟩, ?_⟩
                simp [intOf]; omega
              · have he := empty17_no S hS
                have HPv := HP1
                have HAv := HA1
                clear HP1 HA1 HB1
                obtain ⟨r1, c1, ⟨q0, q1, q2, q3⟩, hin, HQB⟩ := HPv.out.inn
                have a1 : World.cell? _ ⟨wr.heap.size, 1, none⟩ = some (.int .i64 at_) := HAv.out.cell 1
                obtain ⟨R, HR⟩ : ∃ R, Hid (wrP D at_ S = R) := ⟨_, rfl⟩
                have CW := rwrite_all D _ at_ S _ hin (HM.out.ok h64 hk4)
                rw [HR.out] at CW
                go_wp2_with fail
                refine CW.mono ?_
                rintro e v1 ⟨v', rfl, ⟨r2, c2, rfl, hr2⟩, hb1⟩
                unfold devA
                have HP2 : Hid (PlB w v1 g b q D D) := HPv.out.on hb1
                have HA2 : Hid (Blk v1 34 wr.heap.size #[.int .i64 1, .int .i64 at_, .int .u8 (cn : Int), .string S]) := HAv.out.on hb1
                clear HPv HAv q0 q1 q2 q3 a1 HQB hin hb1 CW
                obtain ⟨V2, hV2⟩ : ∃ V2, V2 = v1.alloc (.cells #[.slice (some ⟨r2, 0, none⟩) R.1.1.length c2, .int .i64 R.1.2.1, .bool R.1.2.2.1, .int .i64 R.1.2.2.2] 29) := ⟨_, rfl⟩
                have HP3 : Hid (PlB w V2 g b q D D) := by rw [hV2]; exact HP2.out.on (below_new v1 _)
                have HA3 : Hid (Blk V2 34 wr.heap.size #[.int .i64 1, .int .i64 at_, .int .u8 (cn : Int), .string S]) := by rw [hV2]; exact HA2.out.on (below_new v1 _)
                have HN3 : Hid (Blk V2 29 v1.heap.size #[.slice (some ⟨r2, 0, none⟩) R.1.1.length c2, .int .i64 R.1.2.1, .bool R.1.2.2.1, .int .i64 R.1.2.2.2]) := by rw [hV2]; exact Blk.new _ _ _
                have HR3 : Hid (RowD V2 r2 c2 R.1.1) := by rw [hV2]; exact hr2.on (below_new v1 _)
                have HX3 : Hid (v1.heap.size ≠ g ∧ v1.heap.size ≠ b) := by
                  obtain ⟨x1, x2⟩ := HP2.out.1.1.lt
                  exact ⟨by omega, by omega⟩
                have a1 : (v1.alloc (.cells #[.slice (some ⟨r2, 0, none⟩) R.1.1.length c2, .int .i64 R.1.2.1, .bool R.1.2.2.1, .int .i64 R.1.2.2.2] 29)).cell? ⟨wr.heap.size, 1, none⟩ = some (.int .i64 at_) := by rw [← hV2]; exact HA3.out.cell 1
                clear HP2 HA2 hr2
                go_wp2_with fail
                rw [← hV2]
                clear a1 hV2
                have CD := dwrite_all g b D at_ S V2 HP3.out.1.1 (HM.out.ok h64 hk4)
                have HM4 : Hid (MeP m (k + 1) R.1) := by rw [← HR.out]; exact HM.out.wr at_ S
                rw [HR.out] at CD
                refine CD.mono ?_
                clear CD
                rintro e v3 ⟨rfl, hd⟩
                have hL : Hid (0 < D.1.length ∧ 0 < R.1.1.length) := ⟨by have := HM.out.1; omega, by have := HM4.out.1; omega⟩
                have HP4 : Hid (PlB w v3 g b q R.1 D) := HP3.out.code hd hL.out.1 hL.out.1
                have HN4 : Blk v3 29 v1.heap.size #[.slice (some ⟨r2, 0, none⟩) R.1.1.length c2, .int .i64 R.1.2.1, .bool R.1.2.2.1, .int .i64 R.1.2.2.2] := HN3.out.kept hd.2 HX3.out.1 (fun e => HX3.out.2 (by cases e; rfl))
                have HR4 : Hid (RowD v3 r2 c2 R.1.1) := by
                  obtain ⟨x1, x2⟩ := HR3.out.apart hL.out.2 HP3.out.1.1 hL.out.1
                  exact HR3.out.dev hd x1 x2
                have n0 : v3.cell? ⟨v1.heap.size, 0, none⟩ = some (.slice (some ⟨r2, 0, none⟩) R.1.1.length c2) := HN4.cell 0
                have n1 : v3.cell? ⟨v1.heap.size, 1, none⟩ = some (.int .i64 R.1.2.1) := HN4.cell 1
                have n2 : v3.cell? ⟨v1.heap.size, 2, none⟩ = some (.bool R.1.2.2.1) := HN4.cell 2
                have n3 : v3.cell? ⟨v1.heap.size, 3, none⟩ = some (.int .i64 R.1.2.2.2) := HN4.cell 3
                obtain ⟨r5, c5, _, _, HQB⟩ := HP4.out.inn
                have HP5 : Hid (PlB w (v3.setRow q #[.slice (some ⟨r2, 0, none⟩) R.1.1.length c2, .int .i64 R.1.2.1, .bool R.1.2.2.1, .int .i64 R.1.2.2.2]) g b q R.1 R.1) := HP4.out.store HR4.out hL.out.2
                clear HP3 HA3 HN3 HR3 HX3 hd HP4 HR4 HN4
                have e0 : (R.2 != R.2) = false := by rw [bne_eq_false_iff_eq]
                obtain ⟨V6, hV6⟩ : ∃ V6, V6 = v3.setRow q #[.slice (some ⟨r2, 0, none⟩) R.1.1.length c2, .int .i64 R.1.2.1, .bool R.1.2.2.1, .int .i64 R.1.2.2.2] := ⟨_, rfl⟩
                rw [← hV6] at HP5
                go_wp2_with (with_reducible refine wpList_storeBlk rfl 29 _ _ rfl q _ #[.slice (some ⟨r2, 0, none⟩) R.1.1.length c2, .int .i64 R.1.2.1, .bool R.1.2.2.1, .int .i64 R.1.2.2.2] (by with_unfolding_all rfl) (by with_unfolding_all rfl) HQB.out rfl (by kernel_rfl) (by simp [Value.oneCell']) ?_; rw [← hV6]; dsimp only [Act.put])
                have HP := HP5
                have HM := HM4
                clear HP5 HM4 HQB hV6 n0 n1 n2 n3 HR
                generalize R.1 = E at *
                have CO : Hid (∀ x, Calls Try.prog 20 #[.pointer (some ⟨g, 0, none⟩)] (World.drewN _ x) fun e w' => e = .returned (.bool E.2.2.1) ∧ w' = World.drewN _ x) := fun x => doff_any g b E _ (HP.out.1.1.on (below_drewN (Below.refl _ _) x))
                have CV : Hid (∀ x, Calls Try.prog 21 #[.pointer (some ⟨g, 0, none⟩)] (World.drewN _ x) fun e w' => e = .returned (.int .i64 E.2.2.2) ∧ w' = World.drewN _ x) := fun x => dwrites_any g b E _ (HP.out.1.1.on (below_drewN (Below.refl _ _) x))
                have CS : Hid (∀ x, Calls Try.prog 22 #[.pointer (some ⟨g, 0, none⟩)] (World.drewN _ x) fun e w' => e = .returned (.int .i64 (E.1.length : Int)) ∧ w' = World.drewN _ x) := fun x => dsize_any g b E _ (HP.out.1.1.on (below_drewN (Below.refl _ _) x))
                obtain ⟨r7, c7, ⟨q0, q1, q2, q3⟩, _, _⟩ := HP.out.inn
                clear q1
                have e1 : (E.2.2.1 != E.2.2.1) = false := by rw [bne_eq_false_iff_eq]
                have e2 : (E.2.2.2 != E.2.2.2) = false := by rw [bne_eq_false_iff_eq]
                have e3 : ((E.1.length : Int) != (E.1.length : Int)) = false := by rw [bne_eq_false_iff_eq]
                go_wp2_with fail
                go_quiet (first
                  | (go_at_call 20; exact Calls.quiet_of_same (CO.out _))
                  | (go_at_call 21; exact Calls.quiet_of_same (CV.out _))
                  | (go_at_call 22; exact Calls.quiet_of_same (CS.out _)))
                clear CO CV CS q0 q2 q3 e1 e2 e3
                go_wp2_with fail
                refine ⟨⟨k + 1, E, by omega, by omega, by go_num, HP.out.on (below_drewN (Below.refl _ _) _), HM⟩, ?_⟩
                simp [intOf]; omega
            · have n1 : (kd == 1) = false := by rw [beq_eq_false_iff_ne]; exact k1
              by_cases k2 : kd = 2
              · subst k2
                obtain ⟨r1, c1, ⟨q0, q1, q2, q3⟩, hin, HQB⟩ := HP1.out.inn
                have a1 : World.cell? _ ⟨wr.heap.size, 1, none⟩ = some (.int .i64 at_) := HA1.out.cell 1
                obtain ⟨R, HR⟩ : ∃ R, Hid (rdP D at_ = R) := ⟨_, rfl⟩
                have CD := dread_all g b D at_ _ HP1.out.1.1
                have CW := rread_all D _ at_ _ hin (HM.out.ok h64 hk4)
                rw [HR.out] at CD CW
                go_wp2_with fail
                refine CD.mono ?_
                clear CD
                rintro e v0 ⟨rfl, hw⟩
                subst hw
                go_wp2_with fail
                refine CW.mono ?_
                clear CW
                rintro e v1 ⟨rfl, hb1⟩
                have HP2 : Hid (PlB w v1 g b q D D) := HP1.out.on hb1
                clear HP1 HA1 HB1 q0 q1 q2 q3 a1 HQB hin hb1 HR
                have e5 : (R.1.toList == R.1.toList) = true := beq_self_eq_true _
                have e6 : (R.2 != R.2) = false := by rw [bne_eq_false_iff_eq]
                have HM4 : Hid (MeP m (k + 1) D) := HM.out.up
                have HP := HP2
                have HM := HM4
                clear HP2 HM4
                obtain ⟨E, hE⟩ : ∃ E, D = E := ⟨_, rfl⟩
                rw [hE] at HP HM
                have CO : Hid (∀ x, Calls Try.prog 20 #[.pointer (some ⟨g, 0, none⟩)] (World.drewN _ x) fun e w' => e = .returned (.bool E.2.2.1) ∧ w' = World.drewN _ x) := fun x => doff_any g b E _ (HP.out.1.1.on (below_drewN (Below.refl _ _) x))
                have CV : Hid (∀ x, Calls Try.prog 21 #[.pointer (some ⟨g, 0, none⟩)] (World.drewN _ x) fun e w' => e = .returned (.int .i64 E.2.2.2) ∧ w' = World.drewN _ x) := fun x => dwrites_any g b E _ (HP.out.1.1.on (below_drewN (Below.refl _ _) x))
                have CS : Hid (∀ x, Calls Try.prog 22 #[.pointer (some ⟨g, 0, none⟩)] (World.drewN _ x) fun e w' => e = .returned (.int .i64 (E.1.length : Int)) ∧ w' = World.drewN _ x) := fun x => dsize_any g b E _ (HP.out.1.1.on (below_drewN (Below.refl _ _) x))
                obtain ⟨r7, c7, ⟨q0, q1, q2, q3⟩, _, _⟩ := HP.out.inn
                clear q1
                have e1 : (E.2.2.1 != E.2.2.1) = false := by rw [bne_eq_false_iff_eq]
                have e2 : (E.2.2.2 != E.2.2.2) = false := by rw [bne_eq_false_iff_eq]
                have e3 : ((E.1.length : Int) != (E.1.length : Int)) = false := by rw [bne_eq_false_iff_eq]
                go_wp2_with fail
                go_quiet (first
                  | (go_at_call 20; exact Calls.quiet_of_same (CO.out _))
                  | (go_at_call 21; exact Calls.quiet_of_same (CV.out _))
                  | (go_at_call 22; exact Calls.quiet_of_same (CS.out _)))
                clear CO CV CS q0 q2 q3 e1 e2 e3
                go_wp2_with fail
                refine ⟨⟨k + 1, E, by omega, by omega, by go_num, HP.out.on (below_drewN (Below.refl _ _) _), HM⟩, ?_⟩
                simp [intOf]; omega
              · have n2 : (kd == 2) = false := by rw [beq_eq_false_iff_ne]; exact k2
                by_cases k3 : kd = 3
                · subst k3
                  obtain ⟨r1, c1, ⟨q0, q1, q2, q3⟩, hin, HQB⟩ := HP1.out.inn
                  have a1 : World.cell? _ ⟨wr.heap.size, 1, none⟩ = some (.int .i64 at_) := HA1.out.cell 1
                  have CW := rfuse17_any D _ at_ _ hin
                  go_wp2_with fail
                  refine CW.mono ?_
                  rintro e v1 ⟨v', rfl, ⟨r2, c2, rfl, hr2⟩, hb1⟩
                  unfold devA
                  have HP2 : Hid (PlB w v1 g b q D D) := HP1.out.on hb1
                  have HA2 : Hid (Blk v1 34 wr.heap.size #[.int .i64 3, .int .i64 at_, .int .u8 (cn : Int), .string S]) := HA1.out.on hb1
                  have HM4 : Hid (MeP m (k + 1) (fuseB D at_)) := HM.out.fu at_ Hat.out
                  obtain ⟨E, HE⟩ : ∃ E, Hid (fuseB D at_ = E) := ⟨_, rfl⟩
                  rw [HE.out] at hr2 HM4 ⊢
                  clear HP1 HA1 HB1 q0 q1 q2 q3 a1 HQB hin hb1 CW
                  have hL : Hid (0 < D.1.length ∧ 0 < E.1.length) := ⟨by have := HM.out.1; omega, by have := HM4.out.1; omega⟩
                  obtain ⟨r5, c5, _, _, HQB⟩ := HP2.out.inn
                  obtain ⟨V6, hV6⟩ : ∃ V6, V6 = v1.setRow q #[.slice (some ⟨r2, 0, none⟩) E.1.length c2, .int .i64 E.2.1, .bool E.2.2.1, .int .i64 E.2.2.2] := ⟨_, rfl⟩
                  have HP5 : Hid (PlB w V6 g b q D E) := by rw [hV6]; exact HP2.out.store hr2 hL.out.2
                  have a1 : (v1.setRow q #[.slice (some ⟨r2, 0, none⟩) E.1.length c2, .int .i64 E.2.1, .bool E.2.2.1, .int .i64 E.2.2.2]).cell? ⟨wr.heap.size, 1, none⟩ = some (.int .i64 at_) := (HA2.out.setRowOther q HAc.out.2.2 _).cell 1
                  clear HP2 HA2 hr2
                  go_wp2_with (with_reducible refine wpList_storeBlk rfl 29 _ _ rfl q _ #[.slice (some ⟨r2, 0, none⟩) E.1.length c2, .int .i64 E.2.1, .bool E.2.2.1, .int .i64 E.2.2.2] (by with_unfolding_all rfl) (by with_unfolding_all rfl) HQB.out rfl (by kernel_rfl) (by simp [Value.oneCell']) ?_)
                  rw [← hV6]
                  have CD := dfuse_any g b D at_ V6 HP5.out.1.1 Hat.out
                  rw [HE.out] at CD
                  refine CD.mono ?_
                  clear CD
                  rintro e v3 ⟨rfl, hd⟩
                  have HP6 : Hid (PlB w v3 g b q E E) := HP5.out.code hd hL.out.1 hL.out.2
                  have HP := HP6
                  have HM := HM4
                  clear HP5 HP6 HM4 HQB hV6 HE hd a1
                  have CO : Hid (∀ x, Calls Try.prog 20 #[.pointer (some ⟨g, 0, none⟩)] (World.drewN _ x) fun e w' => e = .returned (.bool E.2.2.1) ∧ w' = World.drewN _ x) := fun x => doff_any g b E _ (HP.out.1.1.on (below_drewN (Below.refl _ _) x))
                  have CV : Hid (∀ x, Calls Try.prog 21 #[.pointer (some ⟨g, 0, none⟩)] (World.drewN _ x) fun e w' => e = .returned (.int .i64 E.2.2.2) ∧ w' = World.drewN _ x) := fun x => dwrites_any g b E _ (HP.out.1.1.on (below_drewN (Below.refl _ _) x))
                  have CS : Hid (∀ x, Calls Try.prog 22 #[.pointer (some ⟨g, 0, none⟩)] (World.drewN _ x) fun e w' => e = .returned (.int .i64 (E.1.length : Int)) ∧ w' = World.drewN _ x) := fun x => dsize_any g b E _ (HP.out.1.1.on (below_drewN (Below.refl _ _) x))
                  obtain ⟨r7, c7, ⟨q0, q1, q2, q3⟩, _, _⟩ := HP.out.inn
                  clear q1
                  have e1 : (E.2.2.1 != E.2.2.1) = false := by rw [bne_eq_false_iff_eq]
                  have e2 : (E.2.2.2 != E.2.2.2) = false := by rw [bne_eq_false_iff_eq]
                  have e3 : ((E.1.length : Int) != (E.1.length : Int)) = false := by rw [bne_eq_false_iff_eq]
                  go_wp2_with fail
                  go_quiet (first
                    | (go_at_call 20; exact Calls.quiet_of_same (CO.out _))
                    | (go_at_call 21; exact Calls.quiet_of_same (CV.out _))
                    | (go_at_call 22; exact Calls.quiet_of_same (CS.out _)))
                  clear CO CV CS q0 q2 q3 e1 e2 e3
                  go_wp2_with fail
                  refine ⟨⟨k + 1, E, by omega, by omega, by go_num, HP.out.on (below_drewN (Below.refl _ _) _), HM⟩, ?_⟩
                  simp [intOf]; omega
                · have n3 : (kd == 3) = false := by rw [beq_eq_false_iff_ne]; exact k3
                  obtain ⟨r1, c1, ⟨q0, q1, q2, q3⟩, hin, HQB⟩ := HP1.out.inn
                  have a1 : World.cell? _ ⟨wr.heap.size, 1, none⟩ = some (.int .i64 at_) := HA1.out.cell 1
                  have CW := ron17_any D _ _ hin
                  go_wp2_with fail
                  refine CW.mono ?_
                  rintro e v1 ⟨v', rfl, ⟨r2, c2, rfl, hr2⟩, hb1⟩
                  unfold devA
                  have HP2 : Hid (PlB w v1 g b q D D) := HP1.out.on hb1
                  have HA2 : Hid (Blk v1 34 wr.heap.size #[.int .i64 kd, .int .i64 at_, .int .u8 (cn : Int), .string S]) := HA1.out.on hb1
                  have HM4 : Hid (MeP m (k + 1) (onB D)) := HM.out.on
                  obtain ⟨E, HE⟩ : ∃ E, Hid (onB D = E) := ⟨_, rfl⟩
                  rw [HE.out] at hr2 HM4 ⊢
                  clear HP1 HA1 HB1 q0 q1 q2 q3 a1 HQB hin hb1 CW
                  have hL : Hid (0 < D.1.length ∧ 0 < E.1.length) := ⟨by have := HM.out.1; omega, by have := HM4.out.1; omega⟩
                  obtain ⟨r5, c5, _, _, HQB⟩ := HP2.out.inn
                  obtain ⟨V6, hV6⟩ : ∃ V6, V6 = v1.setRow q #[.slice (some ⟨r2, 0, none⟩) E.1.length c2, .int .i64 E.2.1, .bool E.2.2.1, .int .i64 E.2.2.2] := ⟨_, rfl⟩
                  have HP5 : Hid (PlB w V6 g b q D E) := by rw [hV6]; exact HP2.out.store hr2 hL.out.2
                  have a1 : (v1.setRow q #[.slice (some ⟨r2, 0, none⟩) E.1.length c2, .int .i64 E.2.1, .bool E.2.2.1, .int .i64 E.2.2.2]).cell? ⟨wr.heap.size, 1, none⟩ = some (.int .i64 at_) := (HA2.out.setRowOther q HAc.out.2.2 _).cell 1
                  clear HP2 HA2 hr2
                  go_wp2_with (with_reducible refine wpList_storeBlk rfl 29 _ _ rfl q _ #[.slice (some ⟨r2, 0, none⟩) E.1.length c2, .int .i64 E.2.1, .bool E.2.2.1, .int .i64 E.2.2.2] (by with_unfolding_all rfl) (by with_unfolding_all rfl) HQB.out rfl (by kernel_rfl) (by simp [Value.oneCell']) ?_)
                  rw [← hV6]
                  have CD := don_any g b D V6 HP5.out.1.1
                  rw [HE.out] at CD
                  refine CD.mono ?_
                  clear CD
                  rintro e v3 ⟨rfl, hd⟩
                  have HP6 : Hid (PlB w v3 g b q E E) := HP5.out.code hd hL.out.1 hL.out.2
                  have HP := HP6
                  have HM := HM4
                  clear HP5 HP6 HM4 HQB hV6 HE hd a1
                  have CO : Hid (∀ x, Calls Try.prog 20 #[.pointer (some ⟨g, 0, none⟩)] (World.drewN _ x) fun e w' => e = .returned (.bool E.2.2.1) ∧ w' = World.drewN _ x) := fun x => doff_any g b E _ (HP.out.1.1.on (below_drewN (Below.refl _ _) x))
                  have CV : Hid (∀ x, Calls Try.prog 21 #[.pointer (some ⟨g, 0, none⟩)] (World.drewN _ x) fun e w' => e = .returned (.int .i64 E.2.2.2) ∧ w' = World.drewN _ x) := fun x => dwrites_any g b E _ (HP.out.1.1.on (below_drewN (Below.refl _ _) x))
                  have CS : Hid (∀ x, Calls Try.prog 22 #[.pointer (some ⟨g, 0, none⟩)] (World.drewN _ x) fun e w' => e = .returned (.int .i64 (E.1.length : Int)) ∧ w' = World.drewN _ x) := fun x => dsize_any g b E _ (HP.out.1.1.on (below_drewN (Below.refl _ _) x))
                  obtain ⟨r7, c7, ⟨q0, q1, q2, q3⟩, _, _⟩ := HP.out.inn
                  clear q1
                  have e1 : (E.2.2.1 != E.2.2.1) = false := by rw [bne_eq_false_iff_eq]
                  have e2 : (E.2.2.2 != E.2.2.2) = false := by rw [bne_eq_false_iff_eq]
                  have e3 : ((E.1.length : Int) != (E.1.length : Int)) = false := by rw [bne_eq_false_iff_eq]
                  go_wp2_with fail
                  go_quiet (first
                    | (go_at_call 20; exact Calls.quiet_of_same (CO.out _))
                    | (go_at_call 21; exact Calls.quiet_of_same (CV.out _))
                    | (go_at_call 22; exact Calls.quiet_of_same (CS.out _)))
                  clear CO CV CS q0 q2 q3 e1 e2 e3
                  go_wp2_with fail
                  refine ⟨⟨k + 1, E, by omega, by omega, by go_num, HP.out.on (below_drewN (Below.refl _ _) _), HM⟩, ?_⟩
                  simp [intOf]; omega
        · rcases Nat.lt_or_ge k len with h1 | h1
          · have d0 : (k : Int) < (len : Int) := by omega
            have d1 : ¬ ((k : Int) < 100) := by omega
            go_wp2_with fail
            refine (awake17_on HP.out.1.2.2.2).mono ?_
            rintro e w4 ⟨rfl, hb4⟩
            go_wp2
            go_ret
            exact ⟨rfl, hb4⟩
          · have d0 : ¬ ((k : Int) < (len : Int)) := by omega
            go_wp2_with fail
            refine (awake17_on HP.out.1.2.2.2).mono ?_
            rintro e w4 ⟨rfl, hb4⟩
            go_wp2
            go_ret
            exact ⟨rfl, hb4⟩
    · have m1 : (64 : Int) < (m : Int) := by omega
      go_wp2_with fail
      refine (awake17_on (A2.out.2.2.2.alloc A2.out.2.2.2.size _)).mono ?_
      rintro e w3 ⟨rfl, hb3⟩
      go_wp2
      go_ret
      exact ⟨rfl, hb3⟩
  · have CN := dnew_no n w hn
    have CR := fun w => rnew17_not n w hn
    unfold zeroD at CR
    go_enter Try.func3, Try.ntmps3
    go_wp2_with fail
    refine CN.mono ?_
    rintro e w1 ⟨rfl, hw⟩
    subst hw
    go_wp2_with fail
    refine (CR _).mono ?_
    rintro e w2 ⟨rfl, hb2⟩
    clear CR CN
    go_wp2_with fail
    refine (awake17_on (hb2.alloc hb2.size _)).mono ?_
    rintro e w3 ⟨rfl, hb3⟩
    go_wp2
    go_ret
    exact ⟨rfl, hb3⟩

theorem blockPlays_law (n : Int) (a : Option Addr) (len cap : Nat) (w : World) (z : ∃ l, ActsAt17 w a len l ∧ len ≤ maxLen ∧ ∀ q ∈ l, ActOk17 q) :
    Calls Try.prog 3 #[.int .i64 n, .slice a len cap] w fun e w' => e = .returned (.bool true) ∧ Below w.heap.size w w' := by
  obtain ⟨l, h1, h2, h3⟩ := z
  refine blockPlays_walk n a len cap l w h1 h2 (fun i hi => ?_)
  unfold atL
  have hi2 : i < l.length := by rw [h1.1]; exact hi
  rw [List.getD_eq_getElem?_getD, List.getElem?_eq_getElem hi2]
  exact h3 _ (List.getElem_mem hi2)

end Go.Proofs.Ytibldhpjdjcjbaa
