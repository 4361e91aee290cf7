/- An Out that nobody made; the walk of CodeNobody. -/
import Derived.Test.YtmpjhflbmngajaaCdL
namespace Go.Proofs.Ytmpjhflbmngajaa
open Go.RowKit
set_option linter.unusedSimpArgs false

/-- An Out that nobody made: nil, or an empty one. -/
def NoOut (w : World) (p : Value) : Prop := p = .pointer none ∨ ∃ g, p = .pointer (some ⟨g, 0, none⟩) ∧ OutBad w g
theorem NoOut.on {w w' : World} {p : Value} (h : NoOut w p) (hb : Below w.heap.size w w') : NoOut w' p := h.imp id (fun ⟨g, e, h⟩ => ⟨g, e, h.on hb⟩)
theorem onumber_none (p : Value) (n most size : Int) (w : World) (h : NoOut w p) :
    Calls Try.prog 40 #[p, .int .i64 n, .int .i64 most, .int .i64 size] w fun e w' => e = .returned (.bool false) ∧ w' = w := by
  rcases h with rfl | ⟨g, rfl, h⟩
  · exact number_nil n most size w
  · exact number_off g n most size w h
theorem owell_none (p : Value) (w : World) (h : NoOut w p) : Calls Try.prog 30 #[p] w fun e w' => e = .returned (.bool false) ∧ w' = w := by
  rcases h with rfl | ⟨g, rfl, h⟩
  · exact owell_nil w
  · exact owell_bad g w h
set_option maxHeartbeats 1000000 in
theorem obyte_none (p : Value) (n : Int) (w : World) (h : NoOut w p) : Calls Try.prog 22 #[p, .int .i64 n] w fun e w' => e = .returned (.tuple #[]) ∧ w' = w := by
  have HN : Hid (NoOut w p) := h
  clear h
  go_enter Try.func22, Try.ntmps22
  go_wp2_with fail
  refine (onumber_none p _ _ _ _ HN.out).mono ?_
  rintro e w1 ⟨rfl, rfl⟩
  go_wp2
  go_end0
  exact ⟨rfl, rfl⟩
set_option maxHeartbeats 1000000 in
theorem onum_none (p : Value) (n : Int) (w : World) (h : NoOut w p) : Calls Try.prog 23 #[p, .int .i64 n] w fun e w' => e = .returned (.tuple #[]) ∧ w' = w := by
  have HN : Hid (NoOut w p) := h
  clear h
  go_enter Try.func23, Try.ntmps23
  go_wp2_with fail
  refine (onumber_none p _ _ _ _ HN.out).mono ?_
  rintro e w1 ⟨rfl, rfl⟩
  go_wp2
  go_end0
  exact ⟨rfl, rfl⟩
set_option maxHeartbeats 1000000 in
theorem otext_none (p : Value) (s : ByteArray) (w : World) (h : NoOut w p) : Calls Try.prog 25 #[p, .string s] w fun e w' => e = .returned (.tuple #[]) ∧ w' = w := by
  have HN : Hid (NoOut w p) := h
  clear h
  go_enter Try.func25, Try.ntmps25
  go_wp2_with fail
  refine (onumber_none p _ _ _ _ HN.out).mono ?_
  rintro e w1 ⟨rfl, rfl⟩
  go_wp2
  go_end0
  exact ⟨rfl, rfl⟩
set_option maxHeartbeats 1000000 in
theorem ostamp_none (p : Value) (t u : Int) (w : World) (h : NoOut w p) : Calls Try.prog 24 #[p, .agg #[.int .i64 t, .int .i64 u]] w fun e w' => e = .returned (.tuple #[]) ∧ Below w.heap.size w w' := by
  have HN : Hid (NoOut (w.alloc (.cells #[.int .i64 t, .int .i64 u] 40)) p) := h.on (below_new w _)
  clear h
  go_enter Try.func24, Try.ntmps24
  go_wp2_with fail
  refine (onum_none p _ _ HN.out).mono ?_
  rintro e w1 ⟨rfl, hw1⟩
  subst hw1
  go_wp2_with fail
  refine (obyte_none p _ _ HN.out).mono ?_
  rintro e w2 ⟨rfl, hw2⟩
  subst hw2
  go_wp2
  go_end0
  exact ⟨rfl, below_new w _⟩
set_option maxHeartbeats 1000000 in
theorem odone_none (p : Value) (w : World) (h : NoOut w p) : Calls Try.prog 12 #[p] w fun e w' => e = .returned (.tuple #[.string ⟨#[]⟩, .int .i64 1]) ∧ w' = w := by
  have HN : Hid (NoOut w p) := h
  clear h
  go_enter Try.func12, Try.ntmps12
  go_wp2_with fail
  refine (owell_none p _ HN.out).mono ?_
  rintro e w1 ⟨rfl, rfl⟩
  go_wp2
  go_ret2
  exact ⟨rfl, rfl⟩

set_option maxHeartbeats 4000000 in
set_option maxRecDepth 100000 in
theorem codeNobody_walk (n : Int) (s : ByteArray) (W : World) :
    Calls Try.prog 6 #[.int .i64 n, .string s] W fun e w' => e = .returned (.bool true) ∧ Below W.heap.size W w' := by
  have HB2 : Hid (Below W.heap.size W ((W.alloc (.cells #[.pointer none, .slice none 0 0] 51)).alloc (.cells #[.pointer none, .pointer (some ⟨W.heap.size, 0, none⟩)] 23))) := (below_new W _).alloc (by simp) _
  have HO2 : Hid (OutBad ((W.alloc (.cells #[.pointer none, .slice none 0 0] 51)).alloc (.cells #[.pointer none, .pointer (some ⟨W.heap.size, 0, none⟩)] 23)) W.heap.size) := (Blk.new W _ _).alloc _
  have HS2 : Hid (Blk ((W.alloc (.cells #[.pointer none, .slice none 0 0] 51)).alloc (.cells #[.pointer none, .pointer (some ⟨W.heap.size, 0, none⟩)] 23)) 23 (W.heap.size + 1) #[.pointer none, .pointer (some ⟨W.heap.size, 0, none⟩)]) := Blk.new' _ _ _ _ (by simp)
  go_enter Try.func6, Try.ntmps6
  go_wp2_with fail
  generalize (W.alloc (.cells #[.pointer none, .slice none 0 0] 51)).alloc (.cells #[.pointer none, .pointer (some ⟨W.heap.size, 0, none⟩)] 23) = W2 at *
  go_loopw [6] (fun i wr => ∃ k : Nat, k ≤ 2 ∧ i = .int .i64 k ∧ Hid (Below W2.heap.size W2 wr)) (fun i _ => 2 - (intOf i).toNat)
  case atStart => exact ⟨0, by omega, rfl, Below.refl _ _⟩
  case round =>
    obtain ⟨k, hk, rfl, HB⟩ := hrel
    by_cases hlt : k < 2
    · obtain ⟨p, hp⟩ : ∃ p, Hid (∀ w', Below W2.heap.size W2 w' → NoOut w' p ∧ w'.cell? ⟨W.heap.size + 1, k, none⟩ = some p) := by
        by_cases k0 : k = 0
        · subst k0
          exact ⟨.pointer none, fun w' hb => ⟨Or.inl rfl, (HS2.out.on hb).cell 0⟩⟩
        · have : k = 1 := by omega
          subst this
          exact ⟨.pointer (some ⟨W.heap.size, 0, none⟩), fun w' hb => ⟨Or.inr ⟨_, rfl, HO2.out.on hb⟩, (HS2.out.on hb).cell 1⟩⟩
      obtain ⟨n0, c0⟩ := hp.out wr HB.out
      have N0 : Hid (NoOut wr p) := n0
      clear n0
      go_wp2_with fail
      refine (obyte_none p _ _ N0.out).mono ?_
      rintro e w1 ⟨rfl, rfl⟩
      go_wp2_with fail
      refine (onum_none p _ _ N0.out).mono ?_
      rintro e w2 ⟨rfl, rfl⟩
      go_wp2_with fail
      refine (ostamp_none p _ _ _ N0.out).mono ?_
      rintro e w3 ⟨rfl, hb3⟩
      have HB3 : Hid (Below W2.heap.size W2 w3) := below_step HB.out (Nat.le_refl _) hb3
      obtain ⟨n3, c3⟩ := hp.out w3 HB3.out
      have N3 : Hid (NoOut w3 p) := n3
      clear n3 hb3 N0 c0 HB
      go_wp2_with fail
      refine (otext_none p _ _ N3.out).mono ?_
      rintro e w4 ⟨rfl, rfl⟩
      go_wp2_with fail
      refine (odone_none p _ N3.out).mono ?_
      rintro e w5 ⟨rfl, rfl⟩
      go_wp2
      refine ⟨⟨k + 1, by omega, by go_num, HB3⟩, ?_⟩
      simp [intOf]; omega
    · have hk' : k = 2 := by omega
      subst hk'
      have HB3 : Hid (Below W.heap.size W wr) := below_step HB2.out (Nat.le_refl _) HB.out
      clear HB HB2 HO2 HS2
      have l3 := HB3.out.size
      obtain ⟨g, hg⟩ : ∃ g, wr.heap.size = g := ⟨_, rfl⟩
      have HB4 : Hid (Below W.heap.size W ((wr.alloc (.cells #[.pointer none, .string ⟨#[]⟩, .int .i64 0] 57)).alloc (.cells #[.pointer none, .pointer (some ⟨g, 0, none⟩)] 36))) := (HB3.out.alloc (by omega) _).alloc (by simp; omega) _
      have HO4 : Hid (InBad ((wr.alloc (.cells #[.pointer none, .string ⟨#[]⟩, .int .i64 0] 57)).alloc (.cells #[.pointer none, .pointer (some ⟨g, 0, none⟩)] 36)) g) := (Blk.new' wr _ _ g hg).alloc _
      have HS4 : Hid (Blk ((wr.alloc (.cells #[.pointer none, .string ⟨#[]⟩, .int .i64 0] 57)).alloc (.cells #[.pointer none, .pointer (some ⟨g, 0, none⟩)] 36)) 36 (g + 1) #[.pointer none, .pointer (some ⟨g, 0, none⟩)]) := Blk.new' _ _ _ _ (by simp; omega)
      go_wp2_with fail
      have HG : Hid (wr.heap.size = g) := hg
      clear hg l3
      generalize (wr.alloc (.cells #[.pointer none, .string ⟨#[]⟩, .int .i64 0] 57)).alloc (.cells #[.pointer none, .pointer (some ⟨g, 0, none⟩)] 36) = W4 at *
      go_loopw [10] (fun i wr => ∃ k : Nat, k ≤ 2 ∧ i = .int .i64 k ∧ Hid (Below W4.heap.size W4 wr)) (fun i _ => 2 - (intOf i).toNat)
      case atStart => exact ⟨0, by omega, rfl, Below.refl _ _⟩
      case round =>
        obtain ⟨k, hk, rfl, HB⟩ := hrel
        by_cases hlt : k < 2
        · obtain ⟨p, hp⟩ : ∃ p, Hid (∀ w', Below W4.heap.size W4 w' → NoIn w' p ∧ w'.cell? ⟨g + 1, k, none⟩ = some p) := by
            by_cases k0 : k = 0
            · subst k0
              exact ⟨.pointer none, fun w' hb => ⟨Or.inl rfl, (HS4.out.on hb).cell 0⟩⟩
            · have : k = 1 := by omega
              subst this
              exact ⟨.pointer (some ⟨g, 0, none⟩), fun w' hb => ⟨Or.inr ⟨_, rfl, HO4.out.on hb⟩, (HS4.out.on hb).cell 1⟩⟩
          obtain ⟨n0, c0⟩ := hp.out wr HB.out
          have N0 : Hid (NoIn wr p) := n0
          clear n0
          go_wp2_with fail
          refine (ibyte_no p _ N0.out).mono ?_
          rintro e w1 ⟨rfl, rfl⟩
          go_wp2_with fail
          refine (inum_no p _ N0.out).mono ?_
          rintro e w2 ⟨rfl, rfl⟩
          go_wp2_with fail
          refine (istamp_no p _ N0.out).mono ?_
          rintro e w3 ⟨rfl, hb3⟩
          have HB5 : Hid (Below W4.heap.size W4 w3) := below_step HB.out (Nat.le_refl _) hb3
          obtain ⟨n3, c3⟩ := hp.out w3 HB5.out
          have N3 : Hid (NoIn w3 p) := n3
          clear n3 hb3 N0 c0 HB
          go_wp2_with fail
          refine (itext_no p _ _ N3.out).mono ?_
          rintro e w4 ⟨rfl, rfl⟩
          go_wp2_with fail
          refine (irest_no p _ N3.out).mono ?_
          rintro e w5 ⟨rfl, rfl⟩
          go_wp2_with fail
          refine (idone_no p _ N3.out).mono ?_
          rintro e w6 ⟨rfl, rfl⟩
          go_wp2
          go_roundw
          case rel =>
            (repeat apply Exists.intro)
            refine ⟨?_, rfl⟩
            exact ⟨k + 1, by omega, by go_num, HB5⟩
          case measure => simp [intOf]; omega
        · have hk' : k = 2 := by omega
          subst hk'
          have HB5 : Hid (Below W.heap.size W wr) := below_step HB4.out (Nat.le_refl _) HB.out
          clear HB HB4 HO4 HS4
          go_wp2_with fail
          refine (awake9 _).mono ?_
          rintro e wz ⟨rfl, bz⟩
          have BZ : Hid (Below W.heap.size W wz) := below_step HB5.out (Nat.le_refl _) bz
          clear bz
          go_wp2
          go_ret
          exact ⟨rfl, BZ.out⟩
end Go.Proofs.Ytmpjhflbmngajaa
