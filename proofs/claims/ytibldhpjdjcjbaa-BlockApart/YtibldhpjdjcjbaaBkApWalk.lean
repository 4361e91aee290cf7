/- BlockApart, walked. -/
import Derived.Test.YtibldhpjdjcjbaaBkD
import Derived.Test.YtibldhpjdjcjbaaOpenP
namespace Go.Proofs.Ytibldhpjdjcjbaa
open Go.RowKit
set_option maxRecDepth 100000
set_option linter.unusedSimpArgs false
set_option maxRecDepth 100000

theorem mask16 (z : Int) : ∃ q : Nat, bits .and .i64 z 15 = (q : Int) ∧ q < 16 := ⟨(z % 16).toNat, by rw [i64_mask z 4 (by decide) 15 (by decide)]; omega, by omega⟩
theorem mask256 (z : Int) : ∃ q : Nat, bits .and .i64 z 255 = (q : Int) ∧ q < 256 := ⟨(z % 256).toNat, by rw [i64_mask z 8 (by decide) 255 (by decide)]; omega, by omega⟩

def wasF (L : List ByteArray) (k i : Nat) : ByteArray := if i < k then strL L i else ⟨#[]⟩
theorem wasF_set (L : List ByteArray) (k : Nat) : (fun i => if i = k then strL L k else wasF L k i) = wasF L (k + 1) := by
  funext i
  unfold wasF
  by_cases h : i = k
  · rw [if_pos h, if_pos (by omega), h]
  · rw [if_neg h]
    by_cases h2 : i < k
    · rw [if_pos h2, if_pos (by omega)]
    · rw [if_neg h2, if_neg (by omega)]
theorem row_empty16 (w : World) (t : TypeId) : RowT (w.alloc (.cells #[.string ⟨#[]⟩, .string ⟨#[]⟩, .string ⟨#[]⟩, .string ⟨#[]⟩, .string ⟨#[]⟩, .string ⟨#[]⟩, .string ⟨#[]⟩, .string ⟨#[]⟩, .string ⟨#[]⟩, .string ⟨#[]⟩, .string ⟨#[]⟩, .string ⟨#[]⟩, .string ⟨#[]⟩, .string ⟨#[]⟩, .string ⟨#[]⟩, .string ⟨#[]⟩] t)) w.heap.size 16 (wasF [] 0) :=
  ⟨_, _, _, heap_alloc_last w _, Or.inr rfl, fun j hj => by
    have e : wasF [] 0 j = ⟨#[]⟩ := if_neg (by omega)
    rw [e]
    show (List.replicate 16 (Value.string ⟨#[]⟩)).toArray[j]? = _
    rw [List.getElem?_toArray, List.getElem?_replicate, if_pos hj]⟩
theorem RowT.on {w w' : World} {g n : Nat} {F : Nat → ByteArray} (h : RowT w g n F) (hb : Below w.heap.size w w') : RowT w' g n F := h.block (hb.block _ h.lt)
theorem RowT.dev {w w' : World} {g b c n : Nat} {F : Nat → ByteArray} {D : DevT} (h : RowT w c n F) (hd : DevTo w g b D w') (h1 : c ≠ g) (h2 : c ≠ b) : RowT w' c n F := h.block (hd.2.block c h.lt h1 (fun e => h2 (by cases e; rfl)))
theorem DevB.set {w wr : World} {g b c : Nat} {D : DevT} (h : DevB w wr g b D) (j : Nat) (x : Value) (hc : w.heap.size ≤ c) (h1 : g ≠ c) (h2 : b ≠ c) : DevB w (wr.setCell ⟨c, j, none⟩ x) g b D := by
  obtain ⟨⟨F, a1, a2, a3⟩, h4, h5, h6⟩ := h
  exact ⟨⟨F, a1.other _ h1 _, a2.other _ h2 _, a3⟩, h4, h5, h6.setCell (p := ⟨c, j, none⟩) hc _⟩


set_option maxHeartbeats 8000000 in
theorem blockApart_walk (a : Option Addr) (len cap : Nat) (l : List Int) (y : Nat) (hy : y < 256) (w : World) (hl : IntsAt w .i64 a len l) (hlen : len ≤ maxLen) :
    Calls Try.prog 5 #[.slice a len cap, .int .u8 (y : Int)] w fun e w' => e = .returned (.bool true) ∧ Below w.heap.size w w' := by
  have HL : Hid (IntsAt w .i64 a len l) := hl
  have HLen : Hid (len ≤ maxLen) := hlen
  clear hl hlen
  have CN := dnew_any 16 w ⟨by decide, by decide⟩
  go_enter Try.func5, Try.ntmps5
  go_wp2_with fail
  refine CN.mono ?_
  rintro e w1 ⟨g, b, rfl, hd, hg, hb, hB⟩
  have A1 : Hid (DevB w w1 g b (newB 16)) := ⟨hd, hg, hb, hB⟩
  clear CN hd hg hb hB
  go_wp2_with fail
  go_loopw [7] (fun c wr => ∃ (k : Nat) (n : Int) (L : List ByteArray), k ≤ len ∧ k ≤ 30 ∧ c = .int .i64 k ∧ Hid (DevB w wr g b (L, -1, false, n)) ∧ Hid (L.length = 16 ∧ 0 ≤ n ∧ n ≤ k)) (fun c _ => len - (intOf c).toNat)
  case atStart => exact ⟨0, 0, _, Nat.zero_le _, Nat.zero_le _, rfl, A1, rfl, by decide, by decide⟩
  case round =>
    obtain ⟨k, n, L, hk, hk4, rfl, HD, HX⟩ := hrel
    clear A1
    by_cases hlt : k < len ∧ k < 30
    · obtain ⟨hlt, hlt4⟩ := hlt
      have d0 : (k : Int) < (len : Int) := by omega
      have d1 : (k : Int) < 30 := by omega
      obtain ⟨lb, off, rfl, hcl⟩ : ∃ lb off, a = some ⟨lb, off, none⟩ ∧ ∀ i, i < len → w.cell? ⟨lb, off + i, none⟩ = some (.int .i64 (l.getD i 0)) := by
        rcases HL.out.2 with h | h
        · omega
        · exact h
      have q0 := hcl k hlt
      obtain ⟨x, hx⟩ : ∃ x, l.getD k 0 = x := ⟨_, rfl⟩
      rw [hx] at q0
      have HC : Hid (∀ w', Below w.heap.size w w' → w'.cell? ⟨lb, off + k, none⟩ = some (.int .i64 x)) := fun w' hb => by rw [hb.cell (World.block_lt_of_cell? w _ q0)]; exact q0
      obtain ⟨m, hat, hat1⟩ := mask16 x
      clear hcl q0 hx
      obtain ⟨v, hv, hv1⟩ := mask256 ((y : Int) + (k : Int))
      have hw8 : IntKind.u8.wrap (v : Int) = (v : Int) := by rw [IntKind.wrap_u8']; omega
      have RT := row_empty16 wr 49
      obtain ⟨c, hc⟩ : ∃ c, c = wr.heap.size := ⟨_, rfl⟩
      obtain ⟨hlg, hlb⟩ := HD.out.1.lt
      have HCC : Hid (g ≠ c ∧ b ≠ c ∧ c ≠ g ∧ c ≠ b ∧ w.heap.size ≤ c) := ⟨by omega, by omega, by omega, by omega, by have := HD.out.2.2.2.size; omega⟩
      have A2 := HD.out.on (below_new wr (.cells #[.string ⟨#[]⟩, .string ⟨#[]⟩, .string ⟨#[]⟩, .string ⟨#[]⟩, .string ⟨#[]⟩, .string ⟨#[]⟩, .string ⟨#[]⟩, .string ⟨#[]⟩, .string ⟨#[]⟩, .string ⟨#[]⟩, .string ⟨#[]⟩, .string ⟨#[]⟩, .string ⟨#[]⟩, .string ⟨#[]⟩, .string ⟨#[]⟩, .string ⟨#[]⟩] 49))
      have HA2 : Hid (DevB w _ g b (L, -1, false, n)) := A2
      have e0 : wasF [] 0 = wasF L 0 := by funext i; unfold wasF; rw [if_neg (by omega), if_neg (by omega)]
      rw [← hc, e0] at RT
      have HRT : Hid (RowT _ c 16 (wasF L 0)) := RT
      clear RT A2 HD e0 hlg hlb
      go_wp2_with fail
      rw [← hc]
      generalize wr.alloc _ = w2 at *
      clear hc
      go_loopw [9] (fun q wr => ∃ i : Nat, i ≤ 16 ∧ q = .int .i64 i ∧ Hid (DevB w wr g b (L, -1, false, n)) ∧ Hid (RowT wr c 16 (wasF L i))) (fun q _ => 16 - (intOf q).toNat)
      case atStart => exact ⟨0, Nat.zero_le _, rfl, HA2, HRT⟩
      case round =>
        obtain ⟨i, hi, rfl, HD, HR⟩ := hrel
        clear HA2 HRT
        by_cases hi16 : i < 16
        · have e0 : (i : Int) < 16 := by omega
          have e1 : (0 : Int) ≤ (i : Int) := by omega
          have CR := dread_any g b (L, -1, false, n) i wr HD.out.1 (by show i < L.length; have := HX.out.1; omega)
          rw [show readB (L, -1, false, n) i = (strL L i, 0) from rfl] at CR
          have c0 := HR.out.cell i hi16
          have f0 := HR.out.free i hi16
          have R1 := HR.out.set i (strL L i)
          rw [wasF_set] at R1
          have HR1 : Hid (RowT (wr.setCell ⟨c, i, none⟩ (.string (strL L i))) c 16 (wasF L (i + 1))) := R1
          have HD1 : Hid (DevB w (wr.setCell ⟨c, i, none⟩ (.string (strL L i))) g b (L, -1, false, n)) := HD.out.set i _ HCC.out.2.2.2.2 HCC.out.1 HCC.out.2.1
          clear R1 HR HD
          go_wp2_with fail
          refine CR.mono ?_
          rintro e w3 ⟨rfl, hw⟩
          subst hw
          go_wp2_with fail
          refine ⟨⟨i + 1, by omega, by go_num, HD1, HR1⟩, ?_⟩
          simp [intOf]; omega
        · obtain rfl : i = 16 := by omega
          have c0 := HC.out _ HD.out.2.2.2
          have CF := fun w => filled_any v w hv1
          obtain ⟨X, hX⟩ : ∃ X, filledB v = X := ⟨_, rfl⟩
          have hXs : Hid (X.size = 64) := by rw [← hX]; exact filledB_size _
          rw [hX] at CF
          have wy : IntKind.i64.wrap ((y : Int) + (k : Int)) = (y : Int) + (k : Int) := by rw [IntKind.wrap_i64]; omega
          have wy2 : IntKind.i64.wrap (y : Int) = (y : Int) := by rw [IntKind.wrap_i64]; omega
          clear hX
          go_wp2_with fail
          refine (CF _).mono ?_
          rintro e w4 ⟨rfl, hb4⟩
          have A4 : Hid (DevB w w4 g b (L, -1, false, n)) := HD.out.on hb4
          have R4 : Hid (RowT w4 c 16 (wasF L 16)) := HR.out.on hb4
          clear HD HR hb4 CF c0
          have CW := dwrite_yes g b (L, -1, false, n) m X w4 A4.out.1 (by show m < L.length; have := HX.out.1; omega) hXs.out rfl (show (-1 : Int) ≠ 0 by decide) ⟨HX.out.2.1, by show n < _; have := HX.out.2.2; omega⟩
          rw [show (writeB (L, -1, false, n) m X).1 = (L.set m X, -1, false, n + 1) from rfl] at CW
          go_wp2_with fail
          refine CW.mono ?_
          rintro e w5 ⟨rfl, hd⟩
          have A5 : Hid (DevB w w5 g b (L.set m X, -1, false, n + 1)) := A4.out.to hd
          have R5 : Hid (RowT w5 c 16 (wasF L 16)) := R4.out.dev hd HCC.out.2.2.1 HCC.out.2.2.2.1
          clear A4 R4 hd CW
          go_wp2_with fail
          go_loopw [12] (fun q wr => ∃ i : Nat, i ≤ 16 ∧ q = .int .i64 i ∧ Hid (DevB w wr g b (L.set m X, -1, false, n + 1)) ∧ Hid (RowT wr c 16 (wasF L 16))) (fun q _ => 16 - (intOf q).toNat)
          case atStart => exact ⟨0, Nat.zero_le _, rfl, A5, R5⟩
          case round =>
            obtain ⟨i, hi, rfl, HD, HR⟩ := hrel
            clear A5 R5
            by_cases hi16 : i < 16
            · have e0 : (i : Int) < 16 := by omega
              have e1 : (0 : Int) ≤ (i : Int) := by omega
              have CR := dread_any g b (L.set m X, -1, false, n + 1) i wr HD.out.1 (by show i < (L.set m X).length; rw [List.length_set]; have := HX.out.1; omega)
              rw [show readB (L.set m X, -1, false, n + 1) i = (strL (L.set m X) i, 0) from rfl, strL_set L m i X (by have := HX.out.1; omega)] at CR
              have c0 := HR.out.cell i hi16
              rw [show wasF L 16 i = strL L i from if_pos hi16] at c0
              obtain ⟨Y, hY⟩ : ∃ Y, strL L i = Y := ⟨_, rfl⟩
              rw [hY] at CR c0
              clear hY
              have HCR := CR
              clear CR
              go_wp2_with fail
              refine HCR.mono ?_
              clear HCR
              rintro e w6 ⟨rfl, hw⟩
              subst hw
              by_cases him : i = m
              · rw [if_pos him]
                have q1 : ((i : Int) == (m : Int)) = true := by rw [him]; exact beq_self_eq_true _
                have q2 : ((i : Int) != (m : Int)) = false := by rw [bne_eq_false_iff_eq, him]
                clear him
                have qX : (X.toList == X.toList) = true := beq_self_eq_true _
                have qY : (Y.toList == Y.toList) = true := beq_self_eq_true _
                go_wp2_with fail
                refine ⟨⟨i + 1, by omega, by go_num, HD, HR⟩, ?_⟩
                simp [intOf]; omega
              · rw [if_neg him]
                have q1 : ((i : Int) == (m : Int)) = false := by rw [beq_eq_false_iff_ne]; omega
                have q2 : ((i : Int) != (m : Int)) = true := by rw [bne_iff_ne]; omega
                clear him
                have qX : (X.toList == X.toList) = true := beq_self_eq_true _
                have qY : (Y.toList == Y.toList) = true := beq_self_eq_true _
                go_wp2_with fail
                refine ⟨⟨i + 1, by omega, by go_num, HD, HR⟩, ?_⟩
                simp [intOf]; omega
            · obtain rfl : i = 16 := by omega
              go_wp2_with fail
              refine ⟨⟨k + 1, n + 1, L.set m X, by omega, by omega, by go_num, HD, ?_⟩, ?_⟩
              · have h9 := HX.out
                exact ⟨by rw [List.length_set]; exact h9.1, by omega, by omega⟩
              · simp [intOf]; omega
    · rcases Nat.lt_or_ge k len with h1 | h1
      · have d0 : (k : Int) < (len : Int) := by omega
        have d1 : ¬ ((k : Int) < 30) := by omega
        go_wp2_with fail
        refine (awake17_on HD.out.2.2.2).mono ?_
        rintro e w2 ⟨rfl, hb2⟩
        go_wp2
        go_ret
        exact ⟨rfl, hb2⟩
      · have d0 : ¬ ((k : Int) < (len : Int)) := by omega
        go_wp2_with fail
        refine (awake17_on HD.out.2.2.2).mono ?_
        rintro e w2 ⟨rfl, hb2⟩
        go_wp2
        go_ret
        exact ⟨rfl, hb2⟩

theorem blockApart_law (a : Option Addr) (len cap : Nat) (y : Int) (w : World) (z : ∃ l, IntsAt w .i64 a len l ∧ len ≤ maxLen ∧ ∀ q ∈ l, (Lit.int .i64 q).wf = true) (hy : (Lit.int .u8 y).wf = true) :
    Calls Try.prog 5 #[.slice a len cap, .int .u8 y] w fun e w' => e = .returned (.bool true) ∧ Below w.heap.size w w' := by
  obtain ⟨l, h1, h2, _⟩ := z
  obtain ⟨v, rfl, hv⟩ : ∃ v : Nat, y = (v : Int) ∧ v < 256 := by
    simp [Lit.wf, IntKind.min, IntKind.max, IntKind.signed, IntKind.bits] at hy
    exact ⟨y.toNat, by omega, by omega⟩
  exact blockApart_walk a len cap l v hv w h1 h2

end Go.Proofs.Ytibldhpjdjcjbaa
