import Derived.Test.YtaakmcihpdbilaaGreatDoorR17
import Derived.Test.YtaakmcihpdbilaaGreatDoorR9
import Derived.Test.YtaakmcihpdbilaaGreatDoorL2c
import Derived.Test.YtaakmcihpdbilaaGreatDoorBA
import Derived.Test.YtaakmcihpdbilaaGreatDoorG
import Derived.BigQuiet
import Derived.Deep.QuietTactic
import Derived.Sort.Grow
import Derived.Lib.AppendStr
import Derived.Deep.DeepCutAuto
import Derived.Deep.CutBlock
/- Layer 18, the document's: text, filled, head, room. -/
namespace Go.Proofs.YtaakmcihpdbilaaGreatDoor
open Go.RowKit
set_option maxRecDepth 100000
set_option linter.unusedSimpArgs false
set_option maxRecDepth 100000

/-- A text as bytes; bytes with noughts up to whole blocks; the head of a half. -/
def txB (s : ByteArray) : ByteArray := bigB (s.size : Int) 2 ++ s
def padN (n : Nat) : Nat := (64 - n % 64) % 64
def filB (s : ByteArray) : ByteArray := s ++ zeroB (padN s.size)
def hdB (turn : Int) (s : ByteArray) : ByteArray := filB (bigB turn 6 ++ bigB (s.size : Int) 6 ++ (ofN (sumN s)).extract 0 8)
theorem txB_size (s : ByteArray) : (txB s).size = s.size + 2 := by unfold txB; rw [ByteArray.size_append, bigB_size]; omega
theorem filB_size (s : ByteArray) : (filB s).size = 64 * ((s.size + 63) / 64) := by
  unfold filB padN
  rw [ByteArray.size_append, zeroB_size]; omega

theorem textP_new (s : ByteArray) (h : s.size ≤ 32768) : textP (ByteArray.empty, false) s = (txB s, false) := by
  unfold textP
  rw [if_neg (by omega)]
  unfold layP
  have h1 : (ByteArray.empty ++ (bigB (s.size : Int) 2 ++ s)).size ≤ 65536 := by
    rw [ByteArray.size_append, ByteArray.size_append, bigB_size]; show 0 + (2 + s.size) ≤ 65536; omega
  simp_all [txB]

set_option maxHeartbeats 2000000 in
theorem rtext18_any (s : ByteArray) (w : World) (hs : s.size ≤ 32768) :
    Calls Tryz.prog 41 #[.string s] w fun e w' => e = .returned (.string (txB s)) ∧ Below w.heap.size w w' := by
  have C1' := fun w => rtext_any (ByteArray.empty, false) s w (by decide) (by omega)
  rw [textP_new s hs] at C1'
  obtain ⟨T, HT⟩ : ∃ T, Hid (T = txB s) := ⟨_, rfl⟩
  rw [← HT.out] at C1' ⊢
  have C1 : Hid (∀ w, Calls Tryz.prog 62 #[.agg #[.string ⟨#[]⟩, .bool false], .string s] w fun e w' => e = .returned (.agg #[.string T, .bool false]) ∧ Below w.heap.size w w') := C1'
  have C2 : Hid (∀ w, Calls Tryz.prog 61 #[.agg #[.string T, .bool false]] w fun e w' => e = .returned (.tuple #[.string T, .int .i64 0]) ∧ Below w.heap.size w w') := fun w => rdone_any (T, false) w
  clear C1'
  go_enter Tryz.func41, Tryz.ntmps41
  go_wp2_with fail
  refine (C1.out _).mono ?_
  rintro e w1 ⟨rfl, hb1⟩
  go_wp2_with fail
  refine (C2.out _).mono ?_
  rintro e w2 ⟨rfl, hb2⟩
  have hB := below_step hb1 (Nat.le_refl _) hb2
  clear hb1 hb2
  go_wp2_with fail
  go_ret
  exact ⟨rfl, hB⟩

set_option maxHeartbeats 2000000 in
theorem rfilled18_any (s : ByteArray) (w : World) (hs : s.size ≤ 1048576) :
    Calls Tryz.prog 60 #[.string s] w fun e w' => e = .returned (.string (filB s)) ∧ Below w.heap.size w w' := by
  obtain ⟨p, Hp⟩ : ∃ p, Hid (p = padN s.size) := ⟨_, rfl⟩
  have hp : p < 64 := by rw [Hp.out]; unfold padN; omega
  have r1 : Int.tmod (s.size : Int) 64 = ((s.size % 64 : Nat) : Int) := by rw [show (64 : Int) = ((64 : Nat) : Int) from rfl, ← Int.ofNat_tmod]
  obtain ⟨m, hm⟩ : ∃ m, s.size % 64 = m := ⟨_, rfl⟩
  have hm64 : m < 64 := by rw [← hm]; exact Nat.mod_lt _ (by decide)
  rw [hm] at r1
  have r2 : Int.tmod (64 - (m : Int)) 64 = (p : Int) := by
    rw [show (64 : Int) - (m : Int) = ((64 - m : Nat) : Int) by omega, show (64 : Int) = ((64 : Nat) : Int) from rfl, ← Int.ofNat_tmod, Hp.out]
    unfold padN
    rw [hm]
  have m1 := make_zeros p (p : Int) rfl (by omega) w
  have v1 : (convert 43 9 (.slice (some ⟨w.heap.size, 0, none⟩) p p)).run Tryz.prog (w.alloc (.cells (zcells p) 5)) = .ok (.string (zeroB p)) (w.alloc (.cells (zcells p) 5)) := conv_zeros (row_zeros p w)
  have hz : (zeroB p).size = p := zeroB_size p
  have e1 : s ++ zeroB p = filB s := by unfold filB; rw [Hp.out]
  obtain ⟨Z, hZ⟩ : ∃ Z, zeroB p = Z := ⟨_, rfl⟩
  rw [hZ] at v1 hz e1
  have hsum : ¬ (9223372036854775807 < s.size + Z.size) := by omega
  obtain ⟨R, hR⟩ : ∃ R, R = filB s := ⟨_, rfl⟩
  rw [← hR] at e1 ⊢
  clear hm hZ hR Hp
  go_enter Tryz.func60, Tryz.ntmps60
  go_wp2_with fail
  go_ret
  exact ⟨rfl, below_new w _⟩

end Go.Proofs.YtaakmcihpdbilaaGreatDoor

/- A region that draws its order, whose operations only read and whose callees leave what was there as it was: walked once. Plain facts. -/
namespace Go.Proofs.YtaakmcihpdbilaaGreatDoor
open Go.RowKit
set_option maxRecDepth 100000
set_option linter.unusedSimpArgs false

/-- A world behind another, with all that was there as it was. -/
structure Beh (w : World) where
  w' : World
  h : Below w.heap.size w w'

theorem wp_region_quiet_beh {P : Program} {id : Nat} {Q : Exit → Act → World → Prop} {a : Act} {w : World} {l : List Oper} (hm : P.follows .mixedOrders = true) (hB : Region.lexB .any l.toArray = true)
    (h : wpQuiet P l.toArray (fun w' => ∃ p : Beh w, w' = p.w') (fun a' => ∀ w', (∃ p : Beh w, w' = p.w') → Q .normal a' w') l a) : (Code.region id l.toArray true).wp P Q a w :=
  wp_region_quiet (C := fun w' => ∃ p : Beh w, w' = p.w') hm hB ⟨⟨w.drew, (Below.refl _ _).drew⟩, rfl⟩ (by simpa using h)

/-- A callee's contract, met in a world behind w. -/
theorem Calls.beh_of {P : Program} {f : FuncId} {args : Array Value} {w : World} {p : Beh w} {v : Value} (h : Calls P f args p.w' fun e w' => e = .returned v ∧ Below p.w'.heap.size p.w' w') :
    Calls P f args p.w' fun e w'' => e = .returned v ∧ ∃ q : Beh w, w'' = q.w' :=
  h.mono fun _ w' ⟨he, hb⟩ => ⟨he, ⟨⟨w', below_step p.h (Nat.le_refl _) hb⟩, rfl⟩⟩

theorem Beh.cell {w : World} (p : Beh w) {a : Addr} {v : Value} (h : w.cell? a = some v) : p.w'.cell? a = some v := by
  rw [p.h.cell (World.block_lt_of_cell? w _ h)]; exact h
end Go.Proofs.YtaakmcihpdbilaaGreatDoor

/- Layer 18, the document's: head, room. -/
namespace Go.Proofs.YtaakmcihpdbilaaGreatDoor
open Go.RowKit
set_option maxRecDepth 100000
set_option linter.unusedSimpArgs false
set_option maxRecDepth 100000

theorem numP_ok (A : ByteArray) (n : Int) (hA : A.size + 6 ≤ 65536) (h0 : 0 ≤ n) (h1 : n ≤ 1099511627775) : numP (A, false) n 6 1099511627775 = (A ++ bigB n 6, false) := by
  unfold numP oneOk layP
  rw [if_pos]
  refine ⟨by simp [h0, h1], rfl, ?_⟩
  show A.size + (bigB n 6).size ≤ 65536
  rw [bigB_size]; exact hA

theorem empty_app (A : ByteArray) : ByteArray.empty ++ A = A := by
  apply ByteArray.ext
  simp

theorem sum32 (s : ByteArray) : (ofN (sumN s)).size = 32 := ofN_size _ (foldN_length _ _ rfl _)

theorem hdB_size (turn : Int) (s : ByteArray) : (hdB turn s).size = 64 := by
  unfold hdB
  rw [filB_size, ByteArray.size_append, ByteArray.size_append, bigB_size, bigB_size, ByteArray.size_extract, sum32]
  decide

set_option maxHeartbeats 2000000 in
theorem rhead18_any (turn : Int) (s : ByteArray) (w : World) (hs : s.size ≤ 65536) (h0 : 0 ≤ turn) (h1 : turn ≤ 1099511627775) :
    Calls Tryz.prog 57 #[.int .i64 turn, .string s] w fun e w' => e = .returned (.string (hdB turn s)) ∧ Below w.heap.size w w' := by
  have C1' := fun w => rnum_any (ByteArray.empty, false) turn w (by decide)
  rw [numP_ok _ _ (by decide) h0 h1, empty_app] at C1'
  obtain ⟨T, HT⟩ : ∃ T, Hid (T = bigB turn 6) := ⟨_, rfl⟩
  have hT : T.size = 6 := by rw [HT.out, bigB_size]
  rw [← HT.out] at C1'
  have C1 : Hid (∀ w, Calls Tryz.prog 78 #[.agg #[.string ⟨#[]⟩, .bool false], .int .i64 turn] w fun e w' => e = .returned (.agg #[.string T, .bool false]) ∧ Below w.heap.size w w') := C1'
  have C2' := fun w => rnum_any (T, false) (s.size : Int) w (by simp only; omega)
  rw [numP_ok _ _ (by omega) (by omega) (by omega)] at C2'
  obtain ⟨U, HU⟩ : ∃ U, Hid (U = T ++ bigB (s.size : Int) 6) := ⟨_, rfl⟩
  have hU : U.size = 12 := by rw [HU.out, ByteArray.size_append, bigB_size, hT]
  rw [← HU.out] at C2'
  have C2 : Hid (∀ w, Calls Tryz.prog 78 #[.agg #[.string T, .bool false], .int .i64 (s.size : Int)] w fun e w' => e = .returned (.agg #[.string U, .bool false]) ∧ Below w.heap.size w w') := C2'
  have C3 : Hid (∀ w, Calls Tryz.prog 61 #[.agg #[.string U, .bool false]] w fun e w' => e = .returned (.tuple #[.string U, .int .i64 0]) ∧ Below w.heap.size w w') := fun w => rdone_any (U, false) w
  obtain ⟨Q, HQ⟩ : ∃ Q, Hid (Q = ofN (sumN s)) := ⟨_, rfl⟩
  have hQ : Q.size = 32 := by rw [HQ.out, sum32]
  have C4 : Hid (∀ w, Calls Tryz.prog 79 #[.string s] w fun e w' => e = .returned (.string Q) ∧ Below w.heap.size w w') := by rw [HQ.out]; exact fun w => rsum_any s w hs
  obtain ⟨P, HP⟩ : ∃ P, Hid (P = Q.extract 0 8) := ⟨_, rfl⟩
  have hP : P.size = 8 := by rw [HP.out, ByteArray.size_extract, hQ]; decide
  have C5' := fun w => rfilled18_any (U ++ P) w (by rw [ByteArray.size_append]; omega)
  obtain ⟨R, HR⟩ : ∃ R, Hid (R = hdB turn s) := ⟨_, rfl⟩
  have eR : filB (U ++ P) = R := by rw [HR.out, HU.out, HT.out, HP.out, HQ.out]; rfl
  rw [eR] at C5'
  have C5 : Hid (∀ w, Calls Tryz.prog 60 #[.string (U ++ P)] w fun e w' => e = .returned (.string R) ∧ Below w.heap.size w w') := C5'
  have xP : Q.extract 0 8 = P := HP.out.symm
  have hsum : ¬ (9223372036854775807 < U.size + P.size) := by omega
  rw [← HR.out]
  clear C1' C2' C5' eR HT HU HQ HP HR
  go_enter Tryz.func57, Tryz.ntmps57
  go_wp2_with fail
  refine (C1.out _).mono ?_
  rintro e w1 ⟨rfl, hb1⟩
  go_wp2_with fail
  refine (C2.out _).mono ?_
  rintro e w2 ⟨rfl, hb2⟩
  have hB2 := below_step hb1 (Nat.le_refl _) hb2
  clear hb1 hb2
  go_wp2_with fail
  refine (C3.out _).mono ?_
  rintro e w3 ⟨rfl, hb3⟩
  have hB3 := below_step hB2 (Nat.le_refl _) hb3
  clear hB2 hb3
  go_wp2_with fail
  refine (C4.out _).mono ?_
  rintro e w4 ⟨rfl, hb4⟩
  have hB4 := below_step hB3 (Nat.le_refl _) hb4
  clear hB3 hb4
  go_wp2_with fail
  refine (C5.out _).mono ?_
  rintro e w5 ⟨rfl, hb5⟩
  have hB5 := below_step hB4 (Nat.le_refl _) hb5
  clear hB4 hb5
  go_wp2_with fail
  go_ret
  exact ⟨rfl, hB5⟩

set_option maxHeartbeats 2000000 in
theorem rroom18_any (D : DevT) (v : Value) (s : ByteArray) (w : World) (h : DevIn w v D) (hl : D.1.length ≤ 1048576) (hs : s.size ≤ 1048576) :
    Calls Tryz.prog 40 #[v, .string s] w fun e w' => e = .returned (.bool (decide ((s.size + 63) / 64 + 1 ≤ D.1.length / 2))) ∧ Below w.heap.size w w' := by
  obtain ⟨b, c, rfl, hr⟩ := h
  obtain ⟨L, F, O, N⟩ := D
  unfold devA
  simp only at hl hr ⊢
  obtain ⟨R, HR⟩ : ∃ R, Hid (R = filB s) := ⟨_, rfl⟩
  have hR : R.size = 64 * ((s.size + 63) / 64) := by rw [HR.out, filB_size]
  have C1 : Hid (∀ w, Calls Tryz.prog 60 #[.string s] w fun e w' => e = .returned (.string R) ∧ Below w.heap.size w w') := by rw [HR.out]; exact fun w => rfilled18_any s w hs
  obtain ⟨q, hq⟩ : ∃ q, (s.size + 63) / 64 = q := ⟨_, rfl⟩
  obtain ⟨l, hll⟩ : ∃ l, L.length / 2 = l := ⟨_, rfl⟩
  have hq9 : q ≤ 16400 := by omega
  have hl9 : l ≤ 1048576 := by omega
  have r0 : (R.size : Int) / 64 = (q : Int) := by omega
  have r1 : Int.tdiv (R.size : Int) 64 = (q : Int) := by rw [Int.tdiv_eq_ediv_of_nonneg (by omega)]; exact r0
  have r2 : (L.length : Int) / 2 = (l : Int) := by omega
  have r3 : Int.tdiv (L.length : Int) 2 = (l : Int) := by rw [Int.tdiv_eq_ediv_of_nonneg (by omega)]; exact r2
  have r4 : IntKind.i64.wrap (q : Int) = (q : Int) := by rw [IntKind.wrap_i64]; omega
  have r5 : IntKind.i64.wrap (l : Int) = (l : Int) := by rw [IntKind.wrap_i64]; omega
  have r6 : IntKind.i64.wrap ((l : Int) - 1) = (l : Int) - 1 := by rw [IntKind.wrap_i64]; omega
  rw [hq, hll]
  clear hq hll hR HR hs
  go_enter Tryz.func40, Tryz.ntmps40
  go_wp2_with fail
  generalize hq : World.alloc w _ = w0 at *
  have hb0 : Below w.heap.size w w0 := by rw [← hq]; exact below_new w _
  have c0 : ∀ p : Beh w0, p.w'.cell? ⟨w.heap.size, 0, none⟩ = some (.slice (some ⟨b, 0, none⟩) L.length c) := fun p => p.cell (by rw [← hq]; simp)
  clear hq hr
  have hne_ : Nonempty (Beh w0) := ⟨⟨_, Below.refl _ _⟩⟩
  refine wp_region_quiet_beh (by kernel_rfl) (by kernel_rfl) ?_
  repeat (quiet_step (first | (go_at_call 60; refine Calls.beh_of (C1.out _))))
  refine wpQuiet_nil ?_
  intro wq hw_
  obtain ⟨⟨wz_, hbq⟩, hw_⟩ := hw_
  subst hw_
  try dsimp only
  clear hne_
  go_wp2_with fail
  go_ret
  refine ⟨?_, below_step hb0 (Nat.le_refl _) hbq⟩
  show Ending.returned (.bool (decide ((q : Int) ≤ (l : Int) - 1))) = _
  rw [show decide ((q : Int) ≤ (l : Int) - 1) = decide (q + 1 ≤ l) from decide_eq_decide.2 (by omega)]

end Go.Proofs.YtaakmcihpdbilaaGreatDoor

/- Layer 18, the document's: texts. -/
namespace Go.Proofs.YtaakmcihpdbilaaGreatDoor
open Go.RowKit
set_option maxRecDepth 100000
set_option linter.unusedSimpArgs false
set_option maxRecDepth 100000
set_option linter.unusedVariables false

theorem Tryz.infoStr18 : (Tryz.prog.info? 9).map (fun i => (i.zero, i.size, i.bytes)) = some (some (.string ⟨#[]⟩), 1, 16) := by kernel_rfl
def lnV : Value → Nat
  | .slice _ n _ => n
  | _ => 0

theorem inTextP_less (S : ByteArray) (m : Int) (h : (inTextP (S, 0) m).1.2 = 0) : (inTextP (S, 0) m).1.1.size + 2 ≤ S.size := by
  unfold inTextP at h ⊢
  have h90 : ∀ e : Int, e ≠ 0 → ∀ i : ByteArray × Int, (wrongP i e).2 ≠ 0 := by
    intro e he i
    unfold wrongP
    simp only
    split
    · exact he
    · assumption
  split at h
  · rename_i hn; exact absurd h hn
  · rename_i hn
    split at h
    · exact absurd h (h90 91 (by decide) _)
    · split at h
      · exact absurd h (h90 90 (by decide) _)
      · have hn : (numberP (S, 0) 2).1.2 = 0 := Classical.not_not.1 hn
        have hs : (numberP (S, 0) 2).1.1.size + 2 ≤ S.size := by
          unfold numberP at hn ⊢
          by_cases hc : (S, (0 : Int)).2 ≠ 0 ∨ (S, (0 : Int)).1.size < 2
          · rw [if_pos hc] at hn; exact absurd hn (h90 90 (by decide) _)
          · rw [if_neg hc]
            have h2 : ¬ S.size < 2 := fun h => hc (.inr h)
            show (S.extract 2 S.size).size + 2 ≤ _
            rw [ByteArray.size_extract]; omega
        rename_i q1 q2
        rw [if_neg (by simpa using hn), if_neg q1, if_neg q2]
        simp only [ByteArray.size_extract]; omega

/-- The texts of bytes. -/
def txsF : Nat → ByteArray → Option (List ByteArray)
  | 0, S => if S.size = 0 then some [] else none
  | n + 1, S => if S.size = 0 then some [] else if (inTextP (S, 0) 32768).1.2 = 0 then (txsF n (inTextP (S, 0) 32768).1.1).map ((inTextP (S, 0) 32768).2 :: ·) else none
def txsP (S : ByteArray) : Option (List ByteArray) := txsF S.size S
theorem txsF_none (n : Nat) (S : ByteArray) (h : S.size = 0) : txsF n S = some [] := by
  cases n with
  | zero => exact if_pos h
  | succ n => exact if_pos h
theorem txsF_more : ∀ n m (S : ByteArray), S.size ≤ n → S.size ≤ m → txsF n S = txsF m S
  | 0, m, S, h, _ => by rw [txsF_none 0 S (by omega), txsF_none m S (by omega)]
  | n + 1, 0, S, _, h => by rw [txsF_none _ S (by omega), txsF_none _ S (by omega)]
  | n + 1, m + 1, S, h1, h2 => by
    unfold txsF
    by_cases h0 : S.size = 0
    · rw [if_pos h0, if_pos h0]
    · rw [if_neg h0, if_neg h0]
      by_cases he : (inTextP (S, 0) 32768).1.2 = 0
      · have hl := inTextP_less S 32768 he
        rw [if_pos he, if_pos he, txsF_more n m _ (by omega) (by omega)]
      · rw [if_neg he, if_neg he]
theorem txsP_none (S : ByteArray) (h : S.size = 0) : txsP S = some [] := txsF_none _ S h
theorem txsP_bad (S : ByteArray) (h : S.size ≠ 0) (h1 : (inTextP (S, 0) 32768).1.2 ≠ 0) : txsP S = none := by
  unfold txsP
  obtain ⟨n, hn⟩ : ∃ n, S.size = n + 1 := ⟨S.size - 1, by omega⟩
  rw [hn]
  unfold txsF
  rw [if_neg h, if_neg h1]
theorem txsP_next (S S1 T : ByteArray) (h : S.size ≠ 0) (h1 : inTextP (S, 0) 32768 = ((S1, 0), T)) : txsP S = (txsP S1).map (T :: ·) := by
  have hl := inTextP_less S 32768 (by rw [h1])
  rw [h1] at hl
  have hl' : S1.size + 2 ≤ S.size := hl
  unfold txsP
  obtain ⟨n, hn⟩ : ∃ n, S.size = n + 1 := ⟨S.size - 1, by omega⟩
  rw [hn, show txsF (n + 1) S = if S.size = 0 then some [] else if (inTextP (S, 0) 32768).1.2 = 0 then (txsF n (inTextP (S, 0) 32768).1.1).map ((inTextP (S, 0) 32768).2 :: ·) else none from rfl, if_neg h, h1]
  show (if (0 : Int) = 0 then _ else _) = _
  rw [if_pos rfl, txsF_more n S1.size S1 (by omega) (Nat.le_refl _)]

set_option maxHeartbeats 4000000 in
theorem rtexts18_any (s : ByteArray) (w : World) (hs : s.size ≤ 1048576) :
    Calls Tryz.prog 56 #[.string s] w fun e w' => ∃ v q, e = .returned (.tuple #[v, .bool q]) ∧ Below w.heap.size w w' ∧
      ((txsP s = none ∧ v = .slice none 0 0 ∧ q = false) ∨ ∃ l, txsP s = some l ∧ OwnTx w' (w.heap.size + 1) v l.length l ∧ q = decide (0 < l.length)) := by
  obtain ⟨i0, hi, hz0, hz1, hz2⟩ := info_parts Tryz.infoStr18
  have XI : Blk (w.alloc (.cells #[.string ⟨#[]⟩, .int .i64 0] 96)) 96 w.heap.size #[.string ⟨#[]⟩, .int .i64 0] := Blk.new _ _ _
  go_enter Tryz.func56, Tryz.ntmps56
  go_wp2_with (with_reducible refine wpList_storeBlk rfl 96 _ _ rfl w.heap.size #[.string ⟨#[]⟩, .int .i64 0] #[.string s, .int .i64 0] (by with_unfolding_all rfl) (by with_unfolding_all rfl) XI rfl (by kernel_rfl) (by kernel_rfl) ?_)
  have HI0 : Hid (Blk ((w.alloc (.cells #[.string ⟨#[]⟩, .int .i64 0] 96)).setRow w.heap.size #[.string s, .int .i64 0]) 96 w.heap.size #[.string s, .int .i64 0]) := XI.setRow _
  have HB0 : Hid (Below w.heap.size w ((w.alloc (.cells #[.string ⟨#[]⟩, .int .i64 0] 96)).setRow w.heap.size #[.string s, .int .i64 0])) := below_setRow (below_new w _) (Nat.le_refl _) _
  dsimp only [Act.put]
  go_loopw [4] (fun v wr => ∃ (lk : List ByteArray) (S : ByteArray), Hid (txsP s = (txsP S).map (lk ++ ·)) ∧ S.size + lk.length ≤ s.size ∧ Hid (OwnTx wr (w.heap.size + 1) v lk.length lk) ∧ Hid (Blk wr 96 w.heap.size #[.string S, .int .i64 0]) ∧ Hid (Below w.heap.size w wr)) (fun v _ => s.size - lnV v)
  case atStart => exact ⟨[], s, by show _ = _; simp, by simp, OwnTx.nil _ _, HI0, HB0⟩
  case round =>
    clear HI0 HB0 XI
    obtain ⟨lk, S, HT, hz, HO, HI, HB⟩ := hrel
    obtain ⟨a4, c4, rfl, _⟩ := HO.out.strs
    have c0 := HI.out.cell 0
    have c1 := HI.out.cell 1
    by_cases h0 : S.size = 0
    · have g0 := empty_yes S h0
      have HR : Hid (txsP s = some lk) := by show _ = _; rw [HT.out, txsP_none S h0]; simp
      clear HT
      go_wp2_with fail
      go_ret2
      exact ⟨_, _, rfl, HB.out, .inr ⟨lk, HR.out, HO.out, by simp⟩⟩
    · have g0 := empty_no S h0
      obtain ⟨⟨⟨S1, e1⟩, T⟩, r1⟩ : ∃ p, inTextP (S, 0) 32768 = p := ⟨_, rfl⟩
      have C1' : ∀ W, _ := fun W => rinText_any (S, 0) 32768 W (by show S.size ≤ _; omega)
      rw [r1] at C1'
      simp only [inV] at C1'
      have C1 : Hid (∀ W, _) := C1'
      have HR1 : Hid (inTextP (S, 0) 32768 = ((S1, e1), T)) := r1
      have hB9 := HB.out.size
      clear C1' r1
      go_wp2_with fail
      refine (C1.out _).mono ?_
      rintro e W1 ⟨rfl, hb⟩
      have HI1 : Hid (Blk W1 96 w.heap.size #[.string S, .int .i64 0]) := HI.out.on hb
      have HO1 : Hid (OwnTx W1 (w.heap.size + 1) (.slice a4 lk.length c4) lk.length lk) := owns_on HO.out hb
      have HB1 : Hid (Below w.heap.size w W1) := below_step HB.out (Nat.le_refl _) hb
      have hs1 := HB1.out.size
      have hI1 := HI1.out.lt
      clear hb HI HO HB C1 c0 c1 hB9
      have XN : Blk (W1.alloc (.cells #[.string ⟨#[]⟩, .int .i64 0] 96)) 96 W1.heap.size #[.string ⟨#[]⟩, .int .i64 0] := Blk.new _ _ _
      have HN2 : Hid (Blk ((W1.alloc (.cells #[.string ⟨#[]⟩, .int .i64 0] 96)).setRow W1.heap.size #[.string S1, .int .i64 e1]) 96 W1.heap.size #[.string S1, .int .i64 e1]) := XN.setRow _
      have hb2 : Below W1.heap.size W1 ((W1.alloc (.cells #[.string ⟨#[]⟩, .int .i64 0] 96)).setRow W1.heap.size #[.string S1, .int .i64 e1]) := below_setRow (below_new W1 _) (Nat.le_refl _) _
      obtain ⟨W2, hW2⟩ : ∃ W2, (W1.alloc (.cells #[.string ⟨#[]⟩, .int .i64 0] 96)).setRow W1.heap.size #[.string S1, .int .i64 e1] = W2 := ⟨_, rfl⟩
      rw [hW2] at HN2 hb2
      have HI2 : Hid (Blk W2 96 w.heap.size #[.string S, .int .i64 0]) := HI1.out.on hb2
      have HO2 : Hid (OwnTx W2 (w.heap.size + 1) (.slice a4 lk.length c4) lk.length lk) := owns_on HO1.out hb2
      have HB2 : Hid (Below w.heap.size w W2) := below_step HB1.out (Nat.le_refl _) hb2
      have hs2 := HN2.out.lt
      have HF : Hid (∀ j, (Value.slice a4 lk.length c4).ownBlock = some j → j < W1.heap.size) := fun j hj => (World.ownsRow.lt HO1.out j hj).2
      obtain ⟨g6, hg6⟩ : ∃ g, W1.heap.size = g := ⟨_, rfl⟩
      have d0 : W2.cell? ⟨W1.heap.size, 0, none⟩ = some (.string S1) := HN2.out.cell 0
      have d1 : W2.cell? ⟨W1.heap.size, 1, none⟩ = some (.int .i64 e1) := HN2.out.cell 1
      clear HI1 HO1 HB1 hb2 hg6 g6
      have hll : lk.length ≤ 1048576 := by omega
      by_cases he : e1 = 0
      · subst he
        have HS1 : Hid (S1.size + 2 ≤ S.size) := by have h := inTextP_less S 32768 (by rw [HR1.out]); rw [HR1.out] at h; exact h
        have HT1 : Hid (txsP s = (txsP S1).map (lk ++ [T] ++ ·)) := by
          show _ = _
          rw [HT.out, txsP_next S S1 T h0 HR1.out]
          cases txsP S1 with
          | none => rfl
          | some l => simp
        clear HT HR1
        go_wp2_with (first
          | (with_reducible refine wpList_storeBlk rfl 96 _ _ rfl W1.heap.size #[.string ⟨#[]⟩, .int .i64 0] #[.string S1, .int .i64 0] (by with_unfolding_all rfl) (by with_unfolding_all rfl) XN rfl (by kernel_rfl) (by kernel_rfl) ?_; rw [hW2]; dsimp only [Act.put])
          | (at_builtin; refine wpList_appR2 rfl (.tmp 21) (.tmp 23) 26 rfl (w.heap.size + 1) 9 i0 _ 1 16 Tryz.underlying26 hi hz0 hz1 hz2 rfl (by decide) W2 (.slice a4 lk.length c4) lk.length (lk.map Value.string) rfl HO2.out #[.string T] rfl (by simp [Value.oneCell']) rfl (by omega) (by unfold maxLen; omega) (by omega) ?_))
        intro v4 w4 hown4 hg4
        have HO4 : Hid (OwnTx w4 (w.heap.size + 1) v4 (lk.length + 1) (lk ++ [T])) := by
          show World.ownsRow _ _ _ _ _ _ _
          rw [List.map_append]; exact hown4
        have bx := below_new W2 (.cells #[.string T] 9)
        have HI4 : Blk w4 96 w.heap.size #[.string S, .int .i64 0] := (HI2.out.on bx).grown hg4 (fun e => by have := (World.ownsRow.lt HO2.out _ e.symm).1; omega)
        have HN4 : Blk w4 96 W1.heap.size #[.string S1, .int .i64 0] := (HN2.out.on bx).grown hg4 (fun e => by have := HF.out _ e.symm; omega)
        have HB4 : Hid (Below w.heap.size w w4) := (below_step HB2.out (Nat.le_refl _) bx).grown hg4 (by have := bx.size; omega) (fun j hj => by have := (World.ownsRow.lt HO2.out _ hj).1; omega)
        have k0 := HN4.cell 0
        have k1 := HN4.cell 1
        have HB5 : Hid (Below w.heap.size w (w4.setRow w.heap.size #[.string S1, .int .i64 0])) := below_setRow HB4.out (Nat.le_refl _) _
        have HI5 : Hid (Blk (w4.setRow w.heap.size #[.string S1, .int .i64 0]) 96 w.heap.size #[.string S1, .int .i64 0]) := HI4.setRow _
        have HO5 : Hid (OwnTx (w4.setRow w.heap.size #[.string S1, .int .i64 0]) (w.heap.size + 1) v4 (lk.length + 1) (lk ++ [T])) := owns_same HO4.out (fun j hj => setRow_other w4 w.heap.size j _ (by have := (World.ownsRow.lt HO4.out _ hj).1; omega))
        obtain ⟨a5, c5, rfl, _⟩ := HO4.out.strs
        clear hown4 hg4 bx HO2 HI2 HB2 HN2 d0 d1 XN hW2
        go_wp2_with (with_reducible refine wpList_storeBlk rfl 96 _ _ rfl w.heap.size #[.string S, .int .i64 0] #[.string S1, .int .i64 0] (by with_unfolding_all rfl) (by with_unfolding_all rfl) HI4 rfl (by kernel_rfl) (by kernel_rfl) ?_; dsimp only [Act.put])
        have hq := HS1.out
        have hl1 : (lk ++ [T]).length = lk.length + 1 := by simp
        refine ⟨⟨lk ++ [T], S1, HT1, by rw [hl1]; omega, by rw [hl1]; exact HO5, HI5, HB5⟩, ?_⟩
        show s.size - (lk.length + 1) < s.size - lk.length
        omega
      · have HT1 : Hid (txsP s = none) := by
          show _ = _
          rw [HT.out, txsP_bad S h0 (by rw [HR1.out]; exact he)]; rfl
        clear HT HR1
        go_wp2_with (with_reducible refine wpList_storeBlk rfl 96 _ _ rfl W1.heap.size #[.string ⟨#[]⟩, .int .i64 0] #[.string S1, .int .i64 e1] (by with_unfolding_all rfl) (by with_unfolding_all rfl) XN rfl (by kernel_rfl) (by kernel_rfl) ?_; rw [hW2]; dsimp only [Act.put])
        go_ret2
        exact ⟨_, _, rfl, HB2.out, .inl ⟨HT1.out, rfl, rfl⟩⟩

end Go.Proofs.YtaakmcihpdbilaaGreatDoor

/- Layer 18, the document's: half. -/
namespace Go.Proofs.YtaakmcihpdbilaaGreatDoor
open Go.RowKit
set_option maxRecDepth 100000
set_option linter.unusedSimpArgs false
set_option linter.unusedVariables false
set_option maxRecDepth 100000

/-- What a store has: its base, what lies behind it, its turn, its bytes. -/
abbrev StoT := ByteArray × List ByteArray × Int × ByteArray
def zeroS : Array Value := #[.string ⟨#[]⟩, .slice none 0 0, .int .i64 0, .string ⟨#[]⟩]
def StoIn (w : World) (B : Nat) (v : Value) (X : StoT) : Prop := ∃ a c, v = .agg #[.string X.1, .slice a X.2.1.length c, .int .i64 X.2.2.1, .string X.2.2.2] ∧ StrsAt w a X.2.1.length X.2.1 ∧ ∀ x, a = some x → B ≤ x.block
theorem StoIn.zero (w : World) (B : Nat) : StoIn w B (.agg zeroS) (⟨#[]⟩, [], 0, ⟨#[]⟩) := ⟨none, 0, rfl, ⟨rfl, .inl rfl⟩, fun _ h => by cases h⟩
theorem StoIn.on {w w' : World} {B : Nat} {v : Value} {X : StoT} (h : StoIn w B v X) (hb : Below w.heap.size w w') : StoIn w' B v X := by
  obtain ⟨a, c, e, h, hx⟩ := h
  exact ⟨a, c, e, h.below hb, hx⟩

/-- The blocks of a half behind its head, the first k of them. -/
def allB (L : List ByteArray) (p : Nat) : Nat → ByteArray
  | 0 => ⟨#[]⟩
  | k + 1 => allB L p k ++ strL L (p + (k + 1))
theorem allB_size (L : List ByteArray) (p : Nat) : ∀ k, (∀ i, i < L.length → (strL L i).size = 64) → p + k < L.length → (allB L p k).size = 64 * k
  | 0, _, _ => rfl
  | k + 1, h, hk => by
    show (allB L p k ++ strL L (p + (k + 1))).size = _
    rw [ByteArray.size_append, allB_size L p k h (by omega), h _ hk]; omega

def hf1 (L : List ByteArray) (p : Nat) : (ByteArray × Int) × Nat := inNumP (strL L p, 0)
def hf2 (L : List ByteArray) (p : Nat) : (ByteArray × Int) × Nat := inNumP (hf1 L p).1
def hfB (L : List ByteArray) (p : Nat) : ByteArray := (allB L p (L.length / 2 - 1)).extract 0 (hf2 L p).2
/-- What a half has, if it is whole. -/
def halfP (L : List ByteArray) (which : Nat) : Option StoT :=
  let p := which * (L.length / 2)
  if (hf2 L p).1.2 ≠ 0 ∨ (hf1 L p).2 < 1 ∨ (hf1 L p).2 % 2 ≠ which ∨ 64 * (L.length / 2 - 1) < (hf2 L p).2 then none
  else match txsP (hfB L p) with
    | some (x :: l) => if hdB ((hf1 L p).2 : Int) (hfB L p) = strL L p then some (x, l, ((hf1 L p).2 : Int), hfB L p) else none
    | _ => none

theorem Tryz.infoByte18 : (Tryz.prog.info? 5).map (fun i => (i.zero, i.size, i.bytes)) = some (some (.int .u8 0), 1, 1) := by kernel_rfl

structure HfS (w W : World) (dc sc : Array Value) : Prop where
  d : Blk W 28 w.heap.size dc
  s : Blk W 30 (w.heap.size + 1) sc
  b : Below w.heap.size w W
theorem HfS.on {w W W' : World} {dc sc : Array Value} (h : HfS w W dc sc) (hb : Below W.heap.size W W') : HfS w W' dc sc := ⟨h.d.on hb, h.s.on hb, below_step h.b (Nat.le_refl _) hb⟩
theorem HfS.new (w : World) (dc sc : Array Value) : HfS w ((w.alloc (.cells dc 28)).alloc (.cells sc 30)) dc sc :=
  ⟨(Blk.new w _ _).alloc _, Blk.new' _ _ _ _ (by simp), (below_new w _).alloc (by simp) _⟩
theorem HfS.set {w W : World} {dc sc : Array Value} (h : HfS w W dc sc) (sc' : Array Value) : HfS w (W.setRow (w.heap.size + 1) sc') dc sc' :=
  ⟨h.d.setRowOther _ (by omega) _, h.s.setRow _, below_setRow h.b (by omega) _⟩
theorem HfS.row {w W : World} {dc sc : Array Value} (h : HfS w W dc sc) (g : Nat) (hg : w.heap.size + 1 < g) (cs : Array Value) : HfS w (W.setRow g cs) dc sc :=
  ⟨h.d.setRowOther _ (by omega) _, h.s.setRowOther _ (by omega) _, below_setRow h.b (by omega) _⟩

/-- The first n bytes of a row of bytes of the call's own, as a text. -/
theorem conv_first {P : Program} {w : World} {B k n : Nat} {e : TypeId} {v : Value} {s : ByteArray} (h : w.ownsRow B e 1 v k (Lib.strCells s)) (hn : n ≤ s.size) (src dst : TypeId) (hs : P.underlying src = some (.slice e)) (he : P.underlying e = some (.int .u8)) (hd : P.underlying dst = some .string) :
    ∃ a cap, v = .slice a k cap ∧ n ≤ cap ∧ n ≤ k ∧ (convert src dst (.slice a n cap)).run P w = .ok (.string (s.extract 0 n)) w := by
  have hk : s.size = k := by have := h.1; rw [Lib.strCells_length] at this; omega
  have h' := h
  rcases h.2 with ⟨rfl, rfl⟩ | ⟨g, cap, cur, rfl, r⟩
  · obtain rfl : n = 0 := by omega
    refine ⟨none, 0, rfl, Nat.le_refl _, Nat.le_refl _, ?_⟩
    have : s.extract 0 0 = ⟨#[]⟩ := by apply bt_ext; (rw [ByteArray.size_extract]; rfl); intro i hi; rw [ByteArray.size_extract] at hi; omega
    rw [this]
    exact run_convert_bytes_nil w src e hs he 0 0 dst hd
  · have hc : k ≤ cap := by have := r; omega
    refine ⟨_, cap, rfl, by omega, by omega, ?_⟩
    have := (row_of_owns h').conv (P := P) (bt_lt _) n cap (by omega) src dst hs he hd
    rw [this, bytesOf_extract s n hn]

theorem own_cells {w : World} {B n b o c : Nat} {l : List ByteArray} (h : OwnTx w B (.slice (some ⟨b, o, none⟩) n c) n l) : ∀ i, i < n → w.cell? ⟨b, o + i, none⟩ = some (.string (strL l i)) := by
  obtain ⟨a, c', e, hs⟩ := h.strs
  cases e
  intro i hi
  rcases hs.2 with h0 | ⟨b', off, ha, hc⟩
  · omega
  · cases ha; exact hc i hi

theorem owns_cap {w : World} {B e c n m cap : Nat} {a : Option Addr} {xs : List Value} (h : w.ownsRow B e c (.slice a m cap) n xs) : n ≤ cap := by
  rcases h.2 with ⟨h1, h2⟩ | ⟨g, cp, cur, h1, r⟩
  · rw [h2]; exact Nat.zero_le _
  · cases h1
    have := r; omega

theorem inNumP_small (i : ByteArray × Int) : (inNumP i).2 ≤ 1099511627775 := by
  unfold inNumP
  split
  · exact Nat.zero_le _
  · omega

set_option maxHeartbeats 4000000 in
theorem rhalf18_any (D : DevT) (v : Value) (which : Nat) (w : World) (h : DevIn w v D) (h2 : 2 ≤ D.1.length) (hl : D.1.length ≤ 2048) (h64 : ∀ i, i < D.1.length → (strL D.1 i).size = 64) (hwh : which < 2) :
    Calls Tryz.prog 38 #[v, .int .i64 (which : Int)] w fun e w' => Below w.heap.size w w' ∧
      ((halfP D.1 which = none ∧ e = .returned (.tuple #[.agg zeroS, .bool false])) ∨ ∃ X u, halfP D.1 which = some X ∧ e = .returned (.tuple #[u, .bool true]) ∧ StoIn w' w.heap.size u X) := by
  obtain ⟨b, c, rfl, hr⟩ := h
  obtain ⟨L, F, O, N⟩ := D
  unfold devA
  simp only at h2 hl h64 hr ⊢
  obtain ⟨i0, hi, hz0, hz1, hz2⟩ := info_parts Tryz.infoByte18
  obtain ⟨m, hm⟩ : ∃ m, L.length / 2 = m := ⟨_, rfl⟩
  have hm1 : 1 ≤ m ∧ m ≤ 1024 ∧ 2 * m ≤ L.length := by omega
  have r1 : Int.tdiv (L.length : Int) 2 = (m : Int) := by rw [Int.tdiv_eq_ediv_of_nonneg (by omega)]; omega
  have r2 : (L.length : Int) / 2 = (m : Int) := by omega
  obtain ⟨p, hp⟩ : ∃ p, which * m = p := ⟨_, rfl⟩
  have hpm : p = 0 ∨ p = m := by
    rcases (show which = 0 ∨ which = 1 by omega) with rfl | rfl
    · left; omega
    · right; omega
  have r3 : (which : Int) * (m : Int) = (p : Int) := by rw [← hp, Int.natCast_mul]
  have hpl : p + m ≤ L.length := by omega
  obtain ⟨dc, hdc⟩ : ∃ dc : Array Value, #[.slice (some ⟨b, 0, none⟩) L.length c, .int .i64 F, .bool O, .int .i64 N] = dc := ⟨_, rfl⟩
  have HS0 : Hid (HfS w ((w.alloc (.cells #[.slice (some ⟨b, 0, none⟩) L.length c, .int .i64 F, .bool O, .int .i64 N] 28)).alloc (.cells zeroS 30)) #[.slice (some ⟨b, 0, none⟩) L.length c, .int .i64 F, .bool O, .int .i64 N] zeroS) := HfS.new w _ _
  unfold zeroS at HS0
  obtain ⟨W0, hW0⟩ : ∃ W, ((w.alloc (.cells #[.slice (some ⟨b, 0, none⟩) L.length c, .int .i64 F, .bool O, .int .i64 N] 28)).alloc (.cells #[.string ⟨#[]⟩, .slice none 0 0, .int .i64 0, .string ⟨#[]⟩] 30)) = W := ⟨_, rfl⟩
  rw [hW0] at HS0
  obtain ⟨⟨⟨S1, e1⟩, t⟩, f1⟩ : ∃ q, inNumP (strL L p, 0) = q := ⟨_, rfl⟩
  obtain ⟨⟨⟨S2, e2⟩, n⟩, f2⟩ : ∃ q, inNumP (S1, e1) = q := ⟨_, rfl⟩
  have hp0 : p < L.length := by omega
  have C1' : ∀ W, _ := fun W => rinNum_any (strL L p, 0) W (by show (strL L p).size ≤ _; rw [h64 p hp0]; decide)
  rw [f1] at C1'
  have C2' : ∀ W, _ := fun W => rinNum_any (S1, e1) W (by have h := inNumP_size (strL L p, 0); rw [f1] at h; have := h64 p hp0; exact Nat.le_trans h (by show (strL L p).size ≤ _; omega))
  rw [f2] at C2'
  simp only [inV] at C1' C2'
  have C1 : Hid (∀ W, _) := C1'
  have C2 : Hid (∀ W, _) := C2'
  have ht : t ≤ 1099511627775 := by have h := inNumP_small (strL L p, 0); rw [f1] at h; exact h
  have hn : n ≤ 1099511627775 := by have h := inNumP_small (S1, e1); rw [f2] at h; exact h
  have HF1 : Hid (inNumP (strL L p, 0) = ((S1, e1), t)) := f1
  have HF2 : Hid (inNumP (S1, e1) = ((S2, e2), n)) := f2
  have HR : Hid (RowD w b c L) := hr
  have H64 : Hid (∀ i, i < L.length → (strL L i).size = 64) := h64
  have HM : Hid (L.length / 2 = m) := hm
  have HP : Hid (which * m = p) := hp
  have d0 : W0.cell? ⟨w.heap.size, 0, none⟩ = some (.slice (some ⟨b, 0, none⟩) L.length c) := HS0.out.d.cell 0
  have d1 : W0.cell? ⟨b, p, none⟩ = some (.string (strL L p)) := by
    have x := HR.out.2 p hp0
    rw [HS0.out.b.cell (p := ⟨b, p, none⟩) (World.block_lt_of_cell? w _ x)]; exact x
  have hp1 : (p : Int) < (L.length : Int) := by omega
  clear C1' C2' f1 f2 hr h64 hm hp hdc dc
  obtain ⟨hd, hhd⟩ : ∃ hd, strL L p = hd := ⟨_, rfl⟩
  rw [hhd] at C1 d1 HF1
  go_enter Tryz.func38, Tryz.ntmps38
  go_wp2_with fail
  refine (C1.out _).mono ?_
  rintro e W1 ⟨rfl, hb⟩
  have HS1 := HS0.out.on hb
  have hg1 : w.heap.size + 1 < W1.heap.size := HS1.s.lt
  clear hb HS0 C1 d0 d1 hW0 W0
  have XN : Blk (W1.alloc (.cells #[.string ⟨#[]⟩, .int .i64 0] 96)) 96 W1.heap.size #[.string ⟨#[]⟩, .int .i64 0] := Blk.new _ _ _
  have HN2 : Blk ((W1.alloc (.cells #[.string ⟨#[]⟩, .int .i64 0] 96)).setRow W1.heap.size #[.string S1, .int .i64 e1]) 96 W1.heap.size #[.string S1, .int .i64 e1] := XN.setRow _
  have hb2 : Below W1.heap.size W1 ((W1.alloc (.cells #[.string ⟨#[]⟩, .int .i64 0] 96)).setRow W1.heap.size #[.string S1, .int .i64 e1]) := below_setRow (below_new W1 _) (Nat.le_refl _) _
  obtain ⟨W2, hW2⟩ : ∃ W2, (W1.alloc (.cells #[.string ⟨#[]⟩, .int .i64 0] 96)).setRow W1.heap.size #[.string S1, .int .i64 e1] = W2 := ⟨_, rfl⟩
  rw [hW2] at HN2 hb2
  have HS2 : Hid (HfS w W2 _ _) := HS1.on hb2
  have d0 : W2.cell? ⟨W1.heap.size, 0, none⟩ = some (.string S1) := HN2.cell 0
  have d1 : W2.cell? ⟨W1.heap.size, 1, none⟩ = some (.int .i64 e1) := HN2.cell 1
  clear HS1 hb2
  go_wp2_with (with_reducible refine wpList_storeBlk rfl 96 _ _ rfl W1.heap.size #[.string ⟨#[]⟩, .int .i64 0] #[.string S1, .int .i64 e1] (by with_unfolding_all rfl) (by with_unfolding_all rfl) XN rfl (by kernel_rfl) (by kernel_rfl) ?_; rw [hW2]; dsimp only [Act.put])
  refine (C2.out _).mono ?_
  rintro e W3 ⟨rfl, hb⟩
  have HN3 := HN2.on hb
  have HS3 := HS2.out.on hb
  clear hb HS2 C2 d0 d1 hW2 XN HN2
  obtain ⟨g, hg⟩ : ∃ g, W1.heap.size = g := ⟨_, rfl⟩
  rw [hg] at HN3 hg1
  rw [hg]
  clear hg
  have HN4 := HN3.setRow #[.string S2, .int .i64 e2]
  have HS4 : Hid (HfS w (W3.setRow g #[.string S2, .int .i64 e2]) _ _) := HS3.row g hg1 _
  have d0 : (W3.setRow g #[.string S2, .int .i64 e2]).cell? ⟨g, 1, none⟩ = some (.int .i64 e2) := HN4.cell 1
  obtain ⟨W4, hW4⟩ : ∃ W4, W3.setRow g #[.string S2, .int .i64 e2] = W4 := ⟨_, rfl⟩
  rw [hW4] at HS4 d0
  have r4 : Int.tmod (t : Int) 2 = ((t % 2 : Nat) : Int) := by rw [show (2 : Int) = ((2 : Nat) : Int) from rfl, ← Int.ofNat_tmod]
  obtain ⟨t2, ht2⟩ : ∃ t2, t % 2 = t2 := ⟨_, rfl⟩
  rw [ht2] at r4
  have hmm : 64 * ((m : Int) - 1) = ((64 * (m - 1) : Nat) : Int) := by omega
  clear HN4 HS3
  have hH : Hid (halfP L which = if e2 ≠ 0 ∨ t < 1 ∨ t2 ≠ which ∨ 64 * (m - 1) < n then none else match txsP ((allB L p (m - 1)).extract 0 n) with
    | some (x :: l) => if hdB (t : Int) ((allB L p (m - 1)).extract 0 n) = hd then some (x, l, (t : Int), (allB L p (m - 1)).extract 0 n) else none
    | _ => none) := by
    show _ = _
    unfold halfP
    simp only
    unfold hfB hf2 hf1
    rw [HM.out, HP.out, hhd, HF1.out]
    simp only
    rw [HF2.out]
    simp only
    rw [ht2]
  by_cases hbad : e2 ≠ 0 ∨ t < 1 ∨ t2 ≠ which ∨ 64 * (m - 1) < n
  · have HX : Hid (halfP L which = none) := by show _ = _; rw [hH.out, if_pos hbad]
    clear hH
    have HS5 : Hid (HfS w (W4.setRow (w.heap.size + 1) zeroS) _ zeroS) := HS4.out.set zeroS
    by_cases x1 : e2 = 0
    · have q1 : (e2 != 0) = false := by rw [bne_eq_false_iff_eq]; exact x1
      by_cases x2 : t < 1
      · have q2 : decide ((t : Int) < 1) = true := decide_eq_true (by omega)
        clear hbad x1
        go_wp2_with (first
          | (with_reducible refine wpList_storeBlk rfl 96 _ _ rfl g #[.string S1, .int .i64 e1] #[.string S2, .int .i64 e2] (by with_unfolding_all rfl) (by with_unfolding_all rfl) HN3 rfl (by kernel_rfl) (by kernel_rfl) ?_; rw [hW4]; dsimp only [Act.put])
          | (with_reducible refine wpList_storeBlk rfl 30 _ _ rfl (w.heap.size + 1) #[.string ⟨#[]⟩, .slice none 0 0, .int .i64 0, .string ⟨#[]⟩] #[.string ⟨#[]⟩, .slice none 0 0, .int .i64 0, .string ⟨#[]⟩] (by with_unfolding_all rfl) (by with_unfolding_all rfl) HS4.out.s rfl (by kernel_rfl) (by kernel_rfl) ?_; dsimp only [Act.put]))
        exact bodyPost_rowTmp rfl (w.heap.size + 1) zeroS _ rfl rfl rfl HS5.out.s _ Tryz.underlying30 rfl (by kernel_rfl) ⟨HS5.out.b, .inl ⟨HX.out, rfl⟩⟩
      · have q2 : decide ((t : Int) < 1) = false := decide_eq_false (by omega)
        by_cases x3 : t2 = which
        · have x4 : 64 * (m - 1) < n := by rcases hbad with h | h | h | h <;> first | exact absurd x1 h | exact absurd h x2 | exact absurd x3 h | exact h
          have q3 : ((t2 : Int) != (which : Int)) = false := by rw [bne_eq_false_iff_eq]; omega
          have q4 : decide (((64 * (m - 1) : Nat) : Int) < (n : Int)) = true := decide_eq_true (by omega)
          clear hbad x1 x3
          go_wp2_with (first
            | (with_reducible refine wpList_storeBlk rfl 96 _ _ rfl g #[.string S1, .int .i64 e1] #[.string S2, .int .i64 e2] (by with_unfolding_all rfl) (by with_unfolding_all rfl) HN3 rfl (by kernel_rfl) (by kernel_rfl) ?_; rw [hW4]; dsimp only [Act.put])
            | (with_reducible refine wpList_storeBlk rfl 30 _ _ rfl (w.heap.size + 1) #[.string ⟨#[]⟩, .slice none 0 0, .int .i64 0, .string ⟨#[]⟩] #[.string ⟨#[]⟩, .slice none 0 0, .int .i64 0, .string ⟨#[]⟩] (by with_unfolding_all rfl) (by with_unfolding_all rfl) HS4.out.s rfl (by kernel_rfl) (by kernel_rfl) ?_; dsimp only [Act.put]))
          exact bodyPost_rowTmp rfl (w.heap.size + 1) zeroS _ rfl rfl rfl HS5.out.s _ Tryz.underlying30 rfl (by kernel_rfl) ⟨HS5.out.b, .inl ⟨HX.out, rfl⟩⟩
        · have q3 : ((t2 : Int) != (which : Int)) = true := by rw [bne_iff_ne]; omega
          clear hbad x1
          go_wp2_with (first
            | (with_reducible refine wpList_storeBlk rfl 96 _ _ rfl g #[.string S1, .int .i64 e1] #[.string S2, .int .i64 e2] (by with_unfolding_all rfl) (by with_unfolding_all rfl) HN3 rfl (by kernel_rfl) (by kernel_rfl) ?_; rw [hW4]; dsimp only [Act.put])
            | (with_reducible refine wpList_storeBlk rfl 30 _ _ rfl (w.heap.size + 1) #[.string ⟨#[]⟩, .slice none 0 0, .int .i64 0, .string ⟨#[]⟩] #[.string ⟨#[]⟩, .slice none 0 0, .int .i64 0, .string ⟨#[]⟩] (by with_unfolding_all rfl) (by with_unfolding_all rfl) HS4.out.s rfl (by kernel_rfl) (by kernel_rfl) ?_; dsimp only [Act.put]))
          exact bodyPost_rowTmp rfl (w.heap.size + 1) zeroS _ rfl rfl rfl HS5.out.s _ Tryz.underlying30 rfl (by kernel_rfl) ⟨HS5.out.b, .inl ⟨HX.out, rfl⟩⟩
    · have q1 : (e2 != 0) = true := by rw [bne_iff_ne]; exact x1
      clear hbad
      go_wp2_with (first
        | (with_reducible refine wpList_storeBlk rfl 96 _ _ rfl g #[.string S1, .int .i64 e1] #[.string S2, .int .i64 e2] (by with_unfolding_all rfl) (by with_unfolding_all rfl) HN3 rfl (by kernel_rfl) (by kernel_rfl) ?_; rw [hW4]; dsimp only [Act.put])
        | (with_reducible refine wpList_storeBlk rfl 30 _ _ rfl (w.heap.size + 1) #[.string ⟨#[]⟩, .slice none 0 0, .int .i64 0, .string ⟨#[]⟩] #[.string ⟨#[]⟩, .slice none 0 0, .int .i64 0, .string ⟨#[]⟩] (by with_unfolding_all rfl) (by with_unfolding_all rfl) HS4.out.s rfl (by kernel_rfl) (by kernel_rfl) ?_; dsimp only [Act.put]))
      exact bodyPost_rowTmp rfl (w.heap.size + 1) zeroS _ rfl rfl rfl HS5.out.s _ Tryz.underlying30 rfl (by kernel_rfl) ⟨HS5.out.b, .inl ⟨HX.out, rfl⟩⟩
  · have HX : Hid (halfP L which = match txsP ((allB L p (m - 1)).extract 0 n) with
    | some (x :: l) => if hdB (t : Int) ((allB L p (m - 1)).extract 0 n) = hd then some (x, l, (t : Int), (allB L p (m - 1)).extract 0 n) else none
    | _ => none) := by show _ = _; rw [hH.out, if_neg hbad]
    clear hH
    have q1 : (e2 != 0) = false := by rw [bne_eq_false_iff_eq]; exact Classical.not_not.1 (fun h => hbad (.inl h))
    have q2 : decide ((t : Int) < 1) = false := decide_eq_false (fun h => hbad (.inr (.inl (by omega))))
    have q3 : ((t2 : Int) != (which : Int)) = false := by rw [bne_eq_false_iff_eq]; exact congrArg _ (Classical.not_not.1 (fun h => hbad (.inr (.inr (.inl h)))))
    have hn9 : n ≤ 64 * (m - 1) := by
      have : ¬ 64 * (m - 1) < n := fun h => hbad (.inr (.inr (.inr h)))
      omega
    have q4 : decide (((64 * (m - 1) : Nat) : Int) < (n : Int)) = false := decide_eq_false (by omega)
    clear hbad
    have hsz4 : w.heap.size + 1 < W4.heap.size := HS4.out.s.lt
    go_wp2_with (with_reducible refine wpList_storeBlk rfl 96 _ _ rfl g #[.string S1, .int .i64 e1] #[.string S2, .int .i64 e2] (by with_unfolding_all rfl) (by with_unfolding_all rfl) HN3 rfl (by kernel_rfl) (by kernel_rfl) ?_; rw [hW4]; dsimp only [Act.put])
    go_loopw [10, 11] (fun v i wr => ∃ j : Nat, j + 1 ≤ m ∧ i = .int .i64 ((j + 1 : Nat) : Int) ∧ Hid (wr.ownsRow W4.heap.size 5 1 v (allB L p j).size (Lib.strCells (allB L p j))) ∧ Hid (Below W4.heap.size W4 wr)) (fun _ i _ => 1024 - (intOf i).toNat)
    case atStart => exact ⟨0, by omega, rfl, World.ownsRow_nil _ _ _ _, Below.refl _ _⟩
    case round =>
      obtain ⟨j, hj, rfl, HO, HB⟩ := hrel
      clear q1 q2 q3 q4 HN3 hW4 d0
      have HSr := HS4.out.on HB.out
      have d0 : wr.cell? ⟨w.heap.size, 0, none⟩ = some (.slice (some ⟨b, 0, none⟩) L.length c) := HSr.d.cell 0
      by_cases hlt : j + 1 < m
      · have b0 : ((j + 1 : Nat) : Int) < (m : Int) := by omega
        have hi9 : p + (j + 1) < L.length := by omega
        have x := HR.out.2 (p + (j + 1)) hi9
        have d1 : wr.cell? ⟨b, p + (j + 1), none⟩ = some (.string (strL L (p + (j + 1)))) := by
          rw [HSr.b.cell (p := ⟨b, p + (j + 1), none⟩) (World.block_lt_of_cell? w _ x)]; exact x
        have hz9 : (strL L (p + (j + 1))).size = 64 := H64.out _ hi9
        have hz8 : (allB L p j).size = 64 * j := allB_size L p j H64.out (by omega)
        have e9 : allB L p (j + 1) = allB L p j ++ strL L (p + (j + 1)) := rfl
        have w1 : (p : Int) + ((j + 1 : Nat) : Int) = ((p + (j + 1) : Nat) : Int) := by omega
        have w2 : ((p + (j + 1) : Nat) : Int) < (L.length : Int) := by omega
        have HZ9 : Hid (allB L p (j + 1) = allB L p j ++ strL L (p + (j + 1))) := e9
        have HO' := HO.out
        obtain ⟨K1, hK1⟩ : ∃ K1, p + (j + 1) = K1 := ⟨_, rfl⟩
        obtain ⟨J1, hJ1⟩ : ∃ J1, j + 1 = J1 := ⟨_, rfl⟩
        rw [hK1] at d1 hz9 w2 HZ9 hi9
        rw [hJ1] at b0 w1 hlt HZ9
        rw [show ((p + J1 : Nat) : Int) = (K1 : Int) by omega] at w1
        obtain ⟨T1, hT1⟩ : ∃ T1, strL L K1 = T1 := ⟨_, rfl⟩
        rw [hT1] at d1 hz9 HZ9
        rw [hJ1]
        obtain ⟨A1, hA1⟩ : ∃ A1, allB L p j = A1 := ⟨_, rfl⟩
        rw [hA1] at hz8 HZ9 HO'
        have hw9 := HB.out.size
        clear x e9 hK1 hT1 hA1 HSr HO
        go_wp2_with (at_builtin; refine Lib.wpList_append_own_string _ rfl _ _ 43 9 rfl W4.heap.size 5 i0 Tryz.underlying43 Tryz.underlying9 hi hz0 hz1 hz2 _ _ _ rfl HO' T1 rfl (by unfold maxLen; omega) (by omega) hw9 ?_)
        intro v4 w4 ho4 hg4 _
        have HO4 : Hid (w4.ownsRow W4.heap.size 5 1 v4 (allB L p J1).size (Lib.strCells (allB L p J1))) := by
          show World.ownsRow _ _ _ _ _ _ _
          rw [HZ9.out, strCells_append, ByteArray.size_append, hz8, hz9]
          exact ho4
        have HB4 : Hid (Below W4.heap.size W4 w4) := HB.out.grown hg4 HB.out.size (fun k hk => (World.ownsRow.lt HO' k hk).1)
        have w9 : IntKind.i64.wrap ((J1 : Int) + 1) = ((J1 + 1 : Nat) : Int) := by rw [IntKind.wrap_i64]; omega
        clear ho4 hg4 HO' HB
        go_wp2_with fail
        refine ⟨?_, ?_⟩
        · exact ⟨J1, by omega, (by first | rfl | go_num | trivial), HO4, HB4⟩
        · simp [intOf] <;> omega
      · have ej : j + 1 = m := by omega
        have ej2 : j = m - 1 := by omega
        have hO := HO.out
        rw [ej2] at hO
        rw [ej]
        have hz8 : (allB L p (m - 1)).size = 64 * (m - 1) := allB_size L p _ H64.out (by omega)
        obtain ⟨X, hX⟩ : ∃ X, allB L p (m - 1) = X := ⟨_, rfl⟩
        rw [hX] at hO hz8 HX
        obtain ⟨a, cap, hv, hcap, hk9, v1⟩ := conv_first (P := Tryz.prog) hO (show n ≤ X.size by omega) 43 9 Tryz.underlying43 Tryz.underlying5 Tryz.underlying9
        subst hv
        obtain ⟨Y, hY⟩ : ∃ Y, X.extract 0 n = Y := ⟨_, rfl⟩
        rw [hY] at v1 HX
        have hYs : Y.size ≤ 65536 := by rw [← hY, ByteArray.size_extract]; omega
        have CT : Hid (∀ W, _) := fun W => rtexts18_any Y W (by omega)
        have n0 : (n : Int) ≤ (cap : Int) := by omega
        have HS4' : Hid (HfS w wr _ _) := HSr
        have hwr : w.heap.size + 1 < wr.heap.size := HSr.s.lt
        clear ej ej2 HO hO hX hY HSr
        go_wp2_with fail
        refine (CT.out _).mono ?_
        rintro e W5 ⟨v13, q, rfl, hb, hcase⟩
        have HS5 : Hid (HfS w W5 _ _) := HS4'.out.on hb
        clear CT v1 hb HS4' HS4 HB d0 hsz4
        have d0 : W5.cell? ⟨w.heap.size, 0, none⟩ = some (.slice (some ⟨b, 0, none⟩) L.length c) := HS5.out.d.cell 0
        have d1 : W5.cell? ⟨b, p, none⟩ = some (.string hd) := (by
          have x := HR.out.2 p hp0
          rw [HS5.out.b.cell (p := ⟨b, p, none⟩) (World.block_lt_of_cell? w _ x), x, hhd])
        have w8 : IntKind.i64.wrap (p : Int) = (p : Int) := by rw [IntKind.wrap_i64]; omega
        rcases hcase with ⟨hx, rfl, rfl⟩ | ⟨l, hx, ho, rfl⟩
        · have HX1 : Hid (halfP L which = none) := by show _ = _; rw [HX.out, hx]
          go_wp2_with fail
          refine wp_region_noPanic ?_
          refine wp_region_held_drew (S := fun _ => True) (by kernel_rfl) (by first | exact trivial | assumption | exact ⟨by assumption, by assumption⟩) (fun hHeld => ?_)
          refine take_at (i := 0) (v := ?_) rfl rfl (by kernel_rfl) (by kernel_rfl) (by kernel_rfl) (fun _ _ _ h => h) (Or.inl ⟨by rfl, ?_⟩) (by assumption) ?_
          rotate_left
          · intro w hSw; (try dsimp only at hSw); go_simp; try with_reducible rfl
          try simp only [Act.put, List.setIfInBounds_toArray, List.set_cons_zero, List.set_cons_succ]
          refine take_at (i := 1) (v := ?_) rfl rfl (by kernel_rfl) (by kernel_rfl) (by kernel_rfl) (fun _ _ _ h => h) (Or.inl ⟨by rfl, ?_⟩) (by assumption) ?_
          rotate_left
          · intro w hSw; (try dsimp only at hSw); go_simp; try with_reducible rfl
          try simp only [Act.put, List.setIfInBounds_toArray, List.set_cons_zero, List.set_cons_succ]
          refine take_at (i := 2) (v := ?_) rfl rfl (by kernel_rfl) (by kernel_rfl) (by kernel_rfl) (fun _ _ _ h => h) (Or.inl ⟨by rfl, ?_⟩) (by assumption) ?_
          rotate_left
          · intro w hSw; (try dsimp only at hSw); go_simp; try with_reducible rfl
          try simp only [Act.put, List.setIfInBounds_toArray, List.set_cons_zero, List.set_cons_succ]
          refine take_at (i := 3) (v := undef) rfl rfl (by kernel_rfl) (by kernel_rfl) (by kernel_rfl) (fun _ _ _ h => h) (Or.inr ⟨by rfl, rfl⟩) (by assumption) ?_
          try simp only [Act.put, List.setIfInBounds_toArray, List.set_cons_zero, List.set_cons_succ]
          refine take_at (i := 4) (v := undef) rfl rfl (by kernel_rfl) (by kernel_rfl) (by kernel_rfl) (fun _ _ _ h => h) (Or.inr ⟨by rfl, rfl⟩) (by assumption) ?_
          try simp only [Act.put, List.setIfInBounds_toArray, List.set_cons_zero, List.set_cons_succ]
          refine take_at (i := 5) (v := undef) rfl rfl (by kernel_rfl) (by kernel_rfl) (by kernel_rfl) (fun _ _ _ h => h) (Or.inr ⟨by rfl, rfl⟩) (by assumption) ?_
          try simp only [Act.put, List.setIfInBounds_toArray, List.set_cons_zero, List.set_cons_succ]
          refine take_at (i := 6) (v := undef) rfl rfl (by kernel_rfl) (by kernel_rfl) (by kernel_rfl) (fun _ _ _ h => h) (Or.inr ⟨by rfl, rfl⟩) (by assumption) ?_
          try simp only [Act.put, List.setIfInBounds_toArray, List.set_cons_zero, List.set_cons_succ]
          refine take_at (i := 7) (v := undef) rfl rfl (by kernel_rfl) (by kernel_rfl) (by kernel_rfl) (fun _ _ _ h => h) (Or.inr ⟨by rfl, rfl⟩) (by assumption) ?_
          try simp only [Act.put, List.setIfInBounds_toArray, List.set_cons_zero, List.set_cons_succ]
          refine take_at (i := 8) (v := undef) rfl rfl (by kernel_rfl) (by kernel_rfl) (by kernel_rfl) (fun _ _ _ h => h) (Or.inr ⟨by rfl, rfl⟩) (by assumption) ?_
          try simp only [Act.put, List.setIfInBounds_toArray, List.set_cons_zero, List.set_cons_succ]
          refine take_at (i := 9) (v := undef) rfl rfl (by kernel_rfl) (by kernel_rfl) (by kernel_rfl) (fun _ _ _ h => h) (Or.inr ⟨by rfl, rfl⟩) (by assumption) ?_
          try simp only [Act.put, List.setIfInBounds_toArray, List.set_cons_zero, List.set_cons_succ]
          refine take_at (i := 10) (v := undef) rfl rfl (by kernel_rfl) (by kernel_rfl) (by kernel_rfl) (fun _ _ _ h => h) (Or.inr ⟨by rfl, rfl⟩) (by assumption) ?_
          try simp only [Act.put, List.setIfInBounds_toArray, List.set_cons_zero, List.set_cons_succ]
          refine take_at (i := 11) (v := undef) rfl rfl (by kernel_rfl) (by kernel_rfl) (by kernel_rfl) (fun _ _ _ h => h) (Or.inr ⟨by rfl, rfl⟩) (by assumption) ?_
          try simp only [Act.put, List.setIfInBounds_toArray, List.set_cons_zero, List.set_cons_succ]
          refine take_at (i := 12) (v := undef) rfl rfl (by kernel_rfl) (by kernel_rfl) (by kernel_rfl) (fun _ _ _ h => h) (Or.inr ⟨by rfl, rfl⟩) (by assumption) ?_
          try simp only [Act.put, List.setIfInBounds_toArray, List.set_cons_zero, List.set_cons_succ]
          refine take_at (i := 13) (v := undef) rfl rfl (by kernel_rfl) (by kernel_rfl) (by kernel_rfl) (fun _ _ _ h => h) (Or.inr ⟨by rfl, rfl⟩) (by assumption) ?_
          try simp only [Act.put, List.setIfInBounds_toArray, List.set_cons_zero, List.set_cons_succ]
          refine take_at (i := 14) (v := ?_) rfl rfl (by kernel_rfl) (by kernel_rfl) (by kernel_rfl) (fun _ _ _ h => h) (Or.inl ⟨by rfl, ?_⟩) (by assumption) ?_
          rotate_left
          · intro w hSw; (try dsimp only at hSw); go_simp; try with_reducible rfl
          try simp only [Act.put, List.setIfInBounds_toArray, List.set_cons_zero, List.set_cons_succ]
          refine wpAnyH_done (by kernel_rfl) (NoPanic.normal ?_) _
          have HS6 : Hid (HfS w W5.drew _ _) := HS5.out.on (Below.refl _ _).drew
          have HS7 : Hid (HfS w (W5.drew.setRow (w.heap.size + 1) zeroS) _ zeroS) := HS6.out.set zeroS
          clear HS5 d0 d1
          go_wp2_with (with_reducible refine wpList_storeBlk rfl 30 _ _ rfl (w.heap.size + 1) #[.string ⟨#[]⟩, .slice none 0 0, .int .i64 0, .string ⟨#[]⟩] #[.string ⟨#[]⟩, .slice none 0 0, .int .i64 0, .string ⟨#[]⟩] (by with_unfolding_all rfl) (by with_unfolding_all rfl) HS6.out.s rfl (by kernel_rfl) (by kernel_rfl) ?_; dsimp only [Act.put])
          exact bodyPost_rowTmp rfl (w.heap.size + 1) zeroS _ rfl rfl rfl HS7.out.s _ Tryz.underlying30 rfl (by kernel_rfl) ⟨HS7.out.b, .inl ⟨HX1.out, rfl⟩⟩
        · cases l with
          | nil =>
            have HX1 : Hid (halfP L which = none) := by show _ = _; rw [HX.out, hx]
            have e0 : decide (0 < ([] : List ByteArray).length) = false := rfl
            rw [e0]
            go_wp2_with fail
            refine wp_region_noPanic ?_
            refine wp_region_held_drew (S := fun _ => True) (by kernel_rfl) (by first | exact trivial | assumption | exact ⟨by assumption, by assumption⟩) (fun hHeld => ?_)
            refine take_at (i := 0) (v := ?_) rfl rfl (by kernel_rfl) (by kernel_rfl) (by kernel_rfl) (fun _ _ _ h => h) (Or.inl ⟨by rfl, ?_⟩) (by assumption) ?_
            rotate_left
            · intro w hSw; (try dsimp only at hSw); go_simp; try with_reducible rfl
            try simp only [Act.put, List.setIfInBounds_toArray, List.set_cons_zero, List.set_cons_succ]
            refine take_at (i := 1) (v := ?_) rfl rfl (by kernel_rfl) (by kernel_rfl) (by kernel_rfl) (fun _ _ _ h => h) (Or.inl ⟨by rfl, ?_⟩) (by assumption) ?_
            rotate_left
            · intro w hSw; (try dsimp only at hSw); go_simp; try with_reducible rfl
            try simp only [Act.put, List.setIfInBounds_toArray, List.set_cons_zero, List.set_cons_succ]
            refine take_at (i := 2) (v := ?_) rfl rfl (by kernel_rfl) (by kernel_rfl) (by kernel_rfl) (fun _ _ _ h => h) (Or.inl ⟨by rfl, ?_⟩) (by assumption) ?_
            rotate_left
            · intro w hSw; (try dsimp only at hSw); go_simp; try with_reducible rfl
            try simp only [Act.put, List.setIfInBounds_toArray, List.set_cons_zero, List.set_cons_succ]
            refine take_at (i := 3) (v := undef) rfl rfl (by kernel_rfl) (by kernel_rfl) (by kernel_rfl) (fun _ _ _ h => h) (Or.inr ⟨by rfl, rfl⟩) (by assumption) ?_
            try simp only [Act.put, List.setIfInBounds_toArray, List.set_cons_zero, List.set_cons_succ]
            refine take_at (i := 4) (v := undef) rfl rfl (by kernel_rfl) (by kernel_rfl) (by kernel_rfl) (fun _ _ _ h => h) (Or.inr ⟨by rfl, rfl⟩) (by assumption) ?_
            try simp only [Act.put, List.setIfInBounds_toArray, List.set_cons_zero, List.set_cons_succ]
            refine take_at (i := 5) (v := undef) rfl rfl (by kernel_rfl) (by kernel_rfl) (by kernel_rfl) (fun _ _ _ h => h) (Or.inr ⟨by rfl, rfl⟩) (by assumption) ?_
            try simp only [Act.put, List.setIfInBounds_toArray, List.set_cons_zero, List.set_cons_succ]
            refine take_at (i := 6) (v := undef) rfl rfl (by kernel_rfl) (by kernel_rfl) (by kernel_rfl) (fun _ _ _ h => h) (Or.inr ⟨by rfl, rfl⟩) (by assumption) ?_
            try simp only [Act.put, List.setIfInBounds_toArray, List.set_cons_zero, List.set_cons_succ]
            refine take_at (i := 7) (v := undef) rfl rfl (by kernel_rfl) (by kernel_rfl) (by kernel_rfl) (fun _ _ _ h => h) (Or.inr ⟨by rfl, rfl⟩) (by assumption) ?_
            try simp only [Act.put, List.setIfInBounds_toArray, List.set_cons_zero, List.set_cons_succ]
            refine take_at (i := 8) (v := undef) rfl rfl (by kernel_rfl) (by kernel_rfl) (by kernel_rfl) (fun _ _ _ h => h) (Or.inr ⟨by rfl, rfl⟩) (by assumption) ?_
            try simp only [Act.put, List.setIfInBounds_toArray, List.set_cons_zero, List.set_cons_succ]
            refine take_at (i := 9) (v := undef) rfl rfl (by kernel_rfl) (by kernel_rfl) (by kernel_rfl) (fun _ _ _ h => h) (Or.inr ⟨by rfl, rfl⟩) (by assumption) ?_
            try simp only [Act.put, List.setIfInBounds_toArray, List.set_cons_zero, List.set_cons_succ]
            refine take_at (i := 10) (v := undef) rfl rfl (by kernel_rfl) (by kernel_rfl) (by kernel_rfl) (fun _ _ _ h => h) (Or.inr ⟨by rfl, rfl⟩) (by assumption) ?_
            try simp only [Act.put, List.setIfInBounds_toArray, List.set_cons_zero, List.set_cons_succ]
            refine take_at (i := 11) (v := undef) rfl rfl (by kernel_rfl) (by kernel_rfl) (by kernel_rfl) (fun _ _ _ h => h) (Or.inr ⟨by rfl, rfl⟩) (by assumption) ?_
            try simp only [Act.put, List.setIfInBounds_toArray, List.set_cons_zero, List.set_cons_succ]
            refine take_at (i := 12) (v := undef) rfl rfl (by kernel_rfl) (by kernel_rfl) (by kernel_rfl) (fun _ _ _ h => h) (Or.inr ⟨by rfl, rfl⟩) (by assumption) ?_
            try simp only [Act.put, List.setIfInBounds_toArray, List.set_cons_zero, List.set_cons_succ]
            refine take_at (i := 13) (v := undef) rfl rfl (by kernel_rfl) (by kernel_rfl) (by kernel_rfl) (fun _ _ _ h => h) (Or.inr ⟨by rfl, rfl⟩) (by assumption) ?_
            try simp only [Act.put, List.setIfInBounds_toArray, List.set_cons_zero, List.set_cons_succ]
            refine take_at (i := 14) (v := ?_) rfl rfl (by kernel_rfl) (by kernel_rfl) (by kernel_rfl) (fun _ _ _ h => h) (Or.inl ⟨by rfl, ?_⟩) (by assumption) ?_
            rotate_left
            · intro w hSw; (try dsimp only at hSw); go_simp; try with_reducible rfl
            try simp only [Act.put, List.setIfInBounds_toArray, List.set_cons_zero, List.set_cons_succ]
            refine wpAnyH_done (by kernel_rfl) (NoPanic.normal ?_) _
            have HS6 : Hid (HfS w W5.drew _ _) := HS5.out.on (Below.refl _ _).drew
            have HS7 : Hid (HfS w (W5.drew.setRow (w.heap.size + 1) zeroS) _ zeroS) := HS6.out.set zeroS
            clear HS5 d0 d1
            go_wp2_with (with_reducible refine wpList_storeBlk rfl 30 _ _ rfl (w.heap.size + 1) #[.string ⟨#[]⟩, .slice none 0 0, .int .i64 0, .string ⟨#[]⟩] #[.string ⟨#[]⟩, .slice none 0 0, .int .i64 0, .string ⟨#[]⟩] (by with_unfolding_all rfl) (by with_unfolding_all rfl) HS6.out.s rfl (by kernel_rfl) (by kernel_rfl) ?_; dsimp only [Act.put])
            exact bodyPost_rowTmp rfl (w.heap.size + 1) zeroS _ rfl rfl rfl HS7.out.s _ Tryz.underlying30 rfl (by kernel_rfl) ⟨HS7.out.b, .inl ⟨HX1.out, rfl⟩⟩
          | cons x l =>
            have e0 : decide (0 < (x :: l).length) = true := decide_eq_true (by simp)
            rw [e0]
            have HX1 : Hid (halfP L which = if hdB (t : Int) Y = hd then some (x, l, (t : Int), Y) else none) := by show _ = _; rw [HX.out, hx]
            clear e0 hx HX
            obtain ⟨G, hG⟩ : ∃ G, hdB (t : Int) Y = G := ⟨_, rfl⟩
            have CH : Hid (∀ W, Calls Tryz.prog 57 #[.int .i64 (t : Int), .string Y] W fun e w' => e = .returned (.string G) ∧ Below W.heap.size W w') := by rw [← hG]; exact fun W => rhead18_any (t : Int) Y W hYs (by omega) (by omega)
            rw [hG] at HX1
            clear hG
            have HO5 : Hid (OwnTx W5 (wr.heap.size + 1) v13 (x :: l).length (x :: l)) := ho
            clear ho
            go_wp2_with fail
            refine wp_region_noPanic ?_
            refine wp_region_held_drew (S := fun W' => W'.cell? ⟨w.heap.size, 0, none⟩ = some (.slice (some ⟨b, 0, none⟩) L.length c) ∧ W'.cell? ⟨b, p, none⟩ = some (.string hd)) (by kernel_rfl) (by first | exact trivial | assumption | exact ⟨by assumption, by assumption⟩) (fun hHeld => ?_)
            refine take_at (i := 0) (v := ?_) rfl rfl (by kernel_rfl) (by kernel_rfl) (by kernel_rfl) (fun _ _ _ h => h) (Or.inl ⟨by rfl, ?_⟩) (by assumption) ?_
            rotate_left
            · intro w hSw; (try dsimp only at hSw); go_simp; try with_reducible rfl
            try simp only [Act.put, List.setIfInBounds_toArray, List.set_cons_zero, List.set_cons_succ]
            refine take_at (i := 1) (v := ?_) rfl rfl (by kernel_rfl) (by kernel_rfl) (by kernel_rfl) (fun _ _ _ h => h) (Or.inl ⟨by rfl, ?_⟩) (by assumption) ?_
            rotate_left
            · intro w hSw; (try dsimp only at hSw); go_simp; try with_reducible rfl
            try simp only [Act.put, List.setIfInBounds_toArray, List.set_cons_zero, List.set_cons_succ]
            refine take_at (i := 2) (v := ?_) rfl rfl (by kernel_rfl) (by kernel_rfl) (by kernel_rfl) (fun _ _ _ h => h) (Or.inl ⟨by rfl, ?_⟩) (by assumption) ?_
            rotate_left
            · intro w hSw; (try dsimp only at hSw); go_simp; try with_reducible rfl
            try simp only [Act.put, List.setIfInBounds_toArray, List.set_cons_zero, List.set_cons_succ]
            refine take_at (i := 3) (v := ?_) rfl rfl (by kernel_rfl) (by kernel_rfl) (by kernel_rfl) (fun _ _ _ h => h) (Or.inl ⟨by rfl, ?_⟩) (by assumption) ?_
            rotate_left
            · intro w hSw; (try dsimp only at hSw); go_simp; try with_reducible rfl
            try simp only [Act.put, List.setIfInBounds_toArray, List.set_cons_zero, List.set_cons_succ]
            refine take_at (i := 4) (v := ?_) rfl rfl (by kernel_rfl) (by kernel_rfl) (by kernel_rfl) (fun _ _ _ h => h) (Or.inl ⟨by rfl, ?_⟩) (by assumption) ?_
            rotate_left
            · intro w hSw; (try dsimp only at hSw); go_simp; try with_reducible rfl
            try simp only [Act.put, List.setIfInBounds_toArray, List.set_cons_zero, List.set_cons_succ]
            refine take_at (i := 6) (v := ?_) rfl rfl (by kernel_rfl) (by kernel_rfl) (by kernel_rfl) (fun _ _ _ h => h) (Or.inl ⟨by rfl, ?_⟩) (by assumption) ?_
            rotate_left
            · intro w hSw; (try dsimp only at hSw); go_simp; try with_reducible rfl
            try simp only [Act.put, List.setIfInBounds_toArray, List.set_cons_zero, List.set_cons_succ]
            refine take_at (i := 7) (v := ?_) rfl rfl (by kernel_rfl) (by kernel_rfl) (by kernel_rfl) (fun _ _ _ h => h) (Or.inl ⟨by rfl, ?_⟩) (by assumption) ?_
            rotate_left
            · intro w hSw; (try dsimp only at hSw); go_simp; try with_reducible rfl
            try simp only [Act.put, List.setIfInBounds_toArray, List.set_cons_zero, List.set_cons_succ]
            refine take_at (i := 8) (v := ?_) rfl rfl (by kernel_rfl) (by kernel_rfl) (by kernel_rfl) (fun _ _ _ h => h) (Or.inl ⟨by rfl, ?_⟩) (by assumption) ?_
            rotate_left
            · intro w hSw; (try dsimp only at hSw); go_simp; try with_reducible rfl
            try simp only [Act.put, List.setIfInBounds_toArray, List.set_cons_zero, List.set_cons_succ]
            refine take_at (i := 9) (v := ?_) rfl rfl (by kernel_rfl) (by kernel_rfl) (by kernel_rfl) (fun _ _ _ h => h) (Or.inl ⟨by rfl, ?_⟩) (by assumption) ?_
            rotate_left
            · intro w hSw; (try dsimp only at hSw); go_simp; try with_reducible rfl
            try simp only [Act.put, List.setIfInBounds_toArray, List.set_cons_zero, List.set_cons_succ]
            refine take_at (i := 10) (v := ?_) rfl rfl (by kernel_rfl) (by kernel_rfl) (by kernel_rfl) (fun _ _ _ h => h) (Or.inl ⟨by rfl, ?_⟩) (by assumption) ?_
            rotate_left
            · intro w hSw; (try dsimp only at hSw); go_simp; try with_reducible rfl
            try simp only [Act.put, List.setIfInBounds_toArray, List.set_cons_zero, List.set_cons_succ]
            refine take_at (i := 11) (v := ?_) rfl rfl (by kernel_rfl) (by kernel_rfl) (by kernel_rfl) (fun _ _ _ h => h) (Or.inl ⟨by rfl, ?_⟩) (by assumption) ?_
            rotate_left
            · intro w hSw; (try dsimp only at hSw); go_simp; try with_reducible rfl
            try simp only [Act.put, List.setIfInBounds_toArray, List.set_cons_zero, List.set_cons_succ]
            refine take_at (i := 12) (v := ?_) rfl rfl (by kernel_rfl) (by kernel_rfl) (by kernel_rfl) (fun _ _ _ h => h) (Or.inl ⟨by rfl, ?_⟩) (by assumption) ?_
            rotate_left
            · intro w hSw; (try dsimp only at hSw); go_simp; try with_reducible rfl
            try simp only [Act.put, List.setIfInBounds_toArray, List.set_cons_zero, List.set_cons_succ]
            refine wpAnyH_ready (rs := [5]) (by kernel_rfl) (by simp) ?_
            refine AllReadyH.cons rfl (fun K hK => ?_) AllReadyH.nil
            go_simp
            refine (CH.out _).mono ?_
            rintro e W6 ⟨rfl, hb6⟩
            have hb7 : Below W5.heap.size W5 W6 := below_step (Below.refl _ _).drew (Nat.le_refl _) hb6
            have HS6 : Hid (HfS w W6 _ _) := HS5.out.on hb7
            have HO6 : Hid (OwnTx W6 (wr.heap.size + 1) v13 (x :: l).length (x :: l)) := owns_on HO5.out hb7
            have hS6 : W6.cell? ⟨w.heap.size, 0, none⟩ = some (.slice (some ⟨b, 0, none⟩) L.length c) ∧ W6.cell? ⟨b, p, none⟩ = some (.string hd) := ⟨HS6.out.d.cell 0, by rw [hb7.cell (p := ⟨b, p, none⟩) (World.block_lt_of_cell? W5 _ d1)]; exact d1⟩
            clear hb6 hb7 HS5 HO5 CH d0 d1
            refine hK.out _ _ hS6 (fun hHeld => ?_)
            clear hK K
            refine take_at (i := 13) (v := ?_) rfl rfl (by kernel_rfl) (by kernel_rfl) (by kernel_rfl) (fun _ _ _ h => h) (Or.inl ⟨by rfl, ?_⟩) (by assumption) ?_
            rotate_left
            · intro w hSw; (try dsimp only at hSw); go_simp; try with_reducible rfl
            try simp only [Act.put, List.setIfInBounds_toArray, List.set_cons_zero, List.set_cons_succ]
            refine take_at (i := 14) (v := ?_) rfl rfl (by kernel_rfl) (by kernel_rfl) (by kernel_rfl) (fun _ _ _ h => h) (Or.inl ⟨by rfl, ?_⟩) (by assumption) ?_
            rotate_left
            · intro w hSw; (try dsimp only at hSw); go_simp; try with_reducible rfl
            try simp only [Act.put, List.setIfInBounds_toArray, List.set_cons_zero, List.set_cons_succ]
            refine wpAnyH_done (by kernel_rfl) (NoPanic.normal ?_) _
            clear hS6
            by_cases hGd : G = hd
            · have q5 : (G.toList != hd.toList) = false := by rw [bne_eq_false_iff_eq, hGd]
              have q6 : (G.toList == hd.toList) = true := by rw [hGd]; exact beq_self_eq_true _
              have HX2 : Hid (halfP L which = some (x, l, (t : Int), Y)) := by show _ = _; rw [HX1.out, if_pos hGd]
              clear HX1
              obtain ⟨a13, c13, rfl, hst⟩ := HO6.out.strs
              obtain ⟨b13, o13, rfl, hc13⟩ := hst.some (by simp)
              have k0 : W6.cell? ⟨b13, o13, none⟩ = some (.string x) := hc13 0 (by simp)
              have HO7 : Hid (OwnTx W6 (wr.heap.size + 1) (.slice (some ⟨b13, o13, none⟩) (x :: l).length c13) (x :: l).length (x :: l)) := HO6.out
              have hl13 : (x :: l).length = l.length + 1 := rfl
              have hb13 : w.heap.size ≤ b13 := by have := (World.ownsRow.lt HO6.out b13 rfl).1; omega
              have hcap13 : l.length + 1 ≤ c13 := owns_cap HO6.out
              rw [hl13]
              simp only [q6, Bool.not_true]
              clear hst hc13 HO6 hGd q5 q6
              go_wp2_with fail
              have z0 : (0 : Int) < ((l.length + 1 : Nat) : Int) := by omega
              have z1 : (1 : Int) ≤ ((l.length + 1 : Nat) : Int) := by omega
              have z2 : ((l.length + 1 : Nat) : Int) ≤ (c13 : Int) := by omega
              have z3 : (1 : Int) ≤ (l.length : Int) + 1 := by omega
              obtain ⟨A, hA⟩ : ∃ A : Option Addr, (if c13 = 1 then some ⟨b13, o13, none⟩ else some ⟨b13, o13 + 1, none⟩) = A := ⟨_, rfl⟩
              have HAb : Hid (∀ z, A = some z → w.heap.size ≤ z.block) := by
                intro z hz
                rw [← hA] at hz
                split at hz <;> cases hz <;> exact hb13
              have HA : Hid (StrsAt (W6.drew.setRow (w.heap.size + 1) #[.string x, .slice A l.length (c13 - 1), .int .i64 (t : Int), .string Y]) A l.length l ∧ (W6.drew.setRow (w.heap.size + 1) #[.string x, .slice A l.length (c13 - 1), .int .i64 (t : Int), .string Y]).cell? ⟨b13, o13, none⟩ = some (.string x)) := by
                have h9 : OwnTx (W6.drew.setRow (w.heap.size + 1) #[.string x, .slice A l.length (c13 - 1), .int .i64 (t : Int), .string Y]) (wr.heap.size + 1) (.slice (some ⟨b13, o13, none⟩) (x :: l).length c13) (x :: l).length (x :: l) := owns_same (owns_on HO7.out (Below.refl _ _).drew) (fun j hj => setRow_other W6.drew (w.heap.size + 1) j _ (by have := (World.ownsRow.lt HO7.out _ hj).1; omega))
                have hc := own_cells h9
                refine ⟨⟨rfl, ?_⟩, hc 0 (by simp)⟩
                by_cases hl0 : l.length = 0
                · exact .inl hl0
                · refine .inr ⟨b13, o13 + 1, ?_, fun i hi => ?_⟩
                  · rw [← hA, if_neg (by omega)]
                  · have h := hc (i + 1) (by rw [hl13]; omega)
                    rw [show o13 + 1 + i = o13 + (i + 1) by omega, h]
                    rfl
              have HS8 : Hid (HfS w W6.drew _ _) := HS6.out.on (Below.refl _ _).drew
              refine wp_region_noPanic ?_
              refine wp_region_held_drew (S := fun W' => W'.cell? ⟨b13, o13, none⟩ = some (.string x)) (by kernel_rfl) (by first | exact trivial | assumption | exact ⟨by assumption, by assumption⟩) (fun hHeld => ?_)
              refine take_at (i := 0) (v := ?_) rfl rfl (by kernel_rfl) (by kernel_rfl) (by kernel_rfl) (fun _ _ _ h => h) (Or.inl ⟨by rfl, ?_⟩) (by assumption) ?_
              rotate_left
              · intro w hSw; (try dsimp only at hSw); go_simp; try with_reducible rfl
              try simp only [Act.put, List.setIfInBounds_toArray, List.set_cons_zero, List.set_cons_succ]
              refine take_at (i := 1) (v := ?_) rfl rfl (by kernel_rfl) (by kernel_rfl) (by kernel_rfl) (fun _ _ _ h => h) (Or.inl ⟨by rfl, ?_⟩) (by assumption) ?_
              rotate_left
              · intro w hSw; (try dsimp only at hSw); go_simp; try with_reducible rfl
              try simp only [Act.put, List.setIfInBounds_toArray, List.set_cons_zero, List.set_cons_succ]
              refine take_at (i := 2) (v := ?_) rfl rfl (by kernel_rfl) (by kernel_rfl) (by kernel_rfl) (fun _ _ _ h => h) (Or.inl ⟨by rfl, ?_⟩) (by assumption) ?_
              rotate_left
              · intro w hSw; (try dsimp only at hSw); go_simp; try with_reducible rfl
              try simp only [Act.put, List.setIfInBounds_toArray, List.set_cons_zero, List.set_cons_succ]
              refine take_at (i := 3) (v := ?_) rfl rfl (by kernel_rfl) (by kernel_rfl) (by kernel_rfl) (fun _ _ _ h => h) (Or.inl ⟨by rfl, ?_⟩) (by assumption) ?_
              rotate_left
              · intro w hSw; (try dsimp only at hSw); go_simp; try with_reducible rfl
              try simp only [Act.put, List.setIfInBounds_toArray, List.set_cons_zero, List.set_cons_succ]
              refine take_at (i := 4) (v := ?_) rfl rfl (by kernel_rfl) (by kernel_rfl) (by kernel_rfl) (fun _ _ _ h => h) (Or.inl ⟨by rfl, ?_⟩) (by assumption) ?_
              rotate_left
              · intro w hSw; (try dsimp only at hSw); go_simp; try with_reducible rfl
              try simp only [Act.put, List.setIfInBounds_toArray, List.set_cons_zero, List.set_cons_succ]
              refine take_at (i := 5) (v := ?_) rfl rfl (by kernel_rfl) (by kernel_rfl) (by kernel_rfl) (fun _ _ _ h => h) (Or.inl ⟨by rfl, ?_⟩) (by assumption) ?_
              rotate_left
              · intro w hSw; (try dsimp only at hSw); go_simp; try with_reducible rfl
              try simp only [Act.put, List.setIfInBounds_toArray, List.set_cons_zero, List.set_cons_succ]
              refine take_at (i := 6) (v := ?_) rfl rfl (by kernel_rfl) (by kernel_rfl) (by kernel_rfl) (fun _ _ _ h => h) (Or.inl ⟨by rfl, ?_⟩) (by assumption) ?_
              rotate_left
              · intro w hSw; (try dsimp only at hSw); go_simp; try with_reducible rfl
              try simp only [Act.put, List.setIfInBounds_toArray, List.set_cons_zero, List.set_cons_succ]
              refine take_at (i := 7) (v := ?_) rfl rfl (by kernel_rfl) (by kernel_rfl) (by kernel_rfl) (fun _ _ _ h => h) (Or.inl ⟨by rfl, ?_⟩) (by assumption) ?_
              rotate_left
              · intro w hSw; (try dsimp only at hSw); go_simp; try with_reducible rfl
              try simp only [Act.put, List.setIfInBounds_toArray, List.set_cons_zero, List.set_cons_succ]
              refine wpAnyH_ready (rs := [8]) (by kernel_rfl) (by simp) ?_
              refine AllReadyH.cons rfl (fun K hK => ?_) AllReadyH.nil
              refine step_storeRow rfl rfl 30 _ _ rfl (w.heap.size + 1) #[.string ⟨#[]⟩, .slice none 0 0, .int .i64 0, .string ⟨#[]⟩] #[.string x, .slice A l.length (c13 - 1), .int .i64 (t : Int), .string Y] rfl rfl HS8.out.s rfl (by kernel_rfl) (by simp [Value.oneCell']) ?_
              have HS9 : Hid (HfS w (W6.drew.setRow (w.heap.size + 1) #[.string x, .slice A l.length (c13 - 1), .int .i64 (t : Int), .string Y]) _ _) := HS8.out.set _
              refine hK.out _ _ HA.out.2 (fun hHeld => ?_)
              clear hK K
              refine take_at (i := 9) (v := ?_) rfl rfl (by kernel_rfl) (by kernel_rfl) (by kernel_rfl) (fun _ _ _ h => h) (Or.inl ⟨by rfl, ?_⟩) (by assumption) ?_
              rotate_left
              · intro w hSw; (try dsimp only at hSw); go_simp; try with_reducible rfl
              try simp only [Act.put, List.setIfInBounds_toArray, List.set_cons_zero, List.set_cons_succ]
              refine wpAnyH_done (by kernel_rfl) (NoPanic.normal ?_) _
              clear HO7 HS8
              go_wp2_with fail
              exact bodyPost_rowTmp rfl (w.heap.size + 1) #[.string x, .slice A l.length (c13 - 1), .int .i64 (t : Int), .string Y] _ rfl rfl rfl HS9.out.s _ Tryz.underlying30 rfl (by kernel_rfl) ⟨HS9.out.b, .inr ⟨_, _, HX2.out, rfl, A, c13 - 1, rfl, HA.out.1, HAb.out⟩⟩
            · have hGe : ¬ G.toList = hd.toList := fun e => hGd (bytes_ext (by rw [toList_data, toList_data] at e; exact e))
              have q5 : (G.toList != hd.toList) = true := by rw [bne_iff_ne]; exact hGe
              have q6 : (G.toList == hd.toList) = false := by rw [beq_eq_false_iff_ne]; exact hGe
              have HX2 : Hid (halfP L which = none) := by show _ = _; rw [HX1.out, if_neg hGd]
              have HS7 : Hid (HfS w (W6.setRow (w.heap.size + 1) zeroS) _ zeroS) := HS6.out.set zeroS
              simp only [q6, Bool.not_false]
              clear HX1 HO6 q5 q6
              go_wp2_with (with_reducible refine wpList_storeBlk rfl 30 _ _ rfl (w.heap.size + 1) #[.string ⟨#[]⟩, .slice none 0 0, .int .i64 0, .string ⟨#[]⟩] #[.string ⟨#[]⟩, .slice none 0 0, .int .i64 0, .string ⟨#[]⟩] (by with_unfolding_all rfl) (by with_unfolding_all rfl) HS6.out.s rfl (by kernel_rfl) (by kernel_rfl) ?_; dsimp only [Act.put])
              exact bodyPost_rowTmp rfl (w.heap.size + 1) zeroS _ rfl rfl rfl HS7.out.s _ Tryz.underlying30 rfl (by kernel_rfl) ⟨HS7.out.b, .inl ⟨HX2.out, rfl⟩⟩

end Go.Proofs.YtaakmcihpdbilaaGreatDoor

/- Layer 18, the document's: Open. -/
namespace Go.Proofs.YtaakmcihpdbilaaGreatDoor
open Go.RowKit
set_option maxRecDepth 100000
set_option linter.unusedSimpArgs false
set_option linter.unusedVariables false
set_option maxRecDepth 100000

def zeroT : StoT := (⟨#[]⟩, [], 0, ⟨#[]⟩)
/-- What a device has. -/
def openP (L : List ByteArray) : StoT :=
  if (halfP L 1).isSome = true ∧ ((halfP L 0).isSome = false ∨ ((halfP L 0).getD zeroT).2.2.1 < ((halfP L 1).getD zeroT).2.2.1) then (halfP L 1).getD zeroT else (halfP L 0).getD zeroT

theorem rhalf18_two (D : DevT) (v : Value) (which : Nat) (w : World) (h : DevIn w v D) (h2 : 2 ≤ D.1.length) (hl : D.1.length ≤ 2048) (h64 : ∀ i, i < D.1.length → (strL D.1 i).size = 64) (hwh : which < 2) :
    Calls Tryz.prog 38 #[v, .int .i64 (which : Int)] w fun e w' => ∃ a c, e = .returned (.tuple #[.agg #[.string ((halfP D.1 which).getD zeroT).1, .slice a ((halfP D.1 which).getD zeroT).2.1.length c, .int .i64 ((halfP D.1 which).getD zeroT).2.2.1, .string ((halfP D.1 which).getD zeroT).2.2.2], .bool (halfP D.1 which).isSome]) ∧
      StrsAt w' a ((halfP D.1 which).getD zeroT).2.1.length ((halfP D.1 which).getD zeroT).2.1 ∧ (∀ x, a = some x → w.heap.size ≤ x.block) ∧ Below w.heap.size w w' := by
  refine (rhalf18_any D v which w h h2 hl h64 hwh).mono ?_
  rintro e w' ⟨hb, ⟨hx, rfl⟩ | ⟨X, u, hx, rfl, a, c, rfl, hs, hx9⟩⟩
  · rw [hx]; exact ⟨none, 0, rfl, ⟨rfl, .inl rfl⟩, (fun _ h => by cases h), hb⟩
  · rw [hx]; exact ⟨a, c, rfl, hs, hx9, hb⟩

theorem cell_row_other (w : World) (g b i : Nat) (cs : Array Value) (h : b ≠ g) : (w.setRow g cs).cell? ⟨b, i, none⟩ = w.cell? ⟨b, i, none⟩ := by
  unfold World.cell?
  simp only [setRow_other w g b cs h]

theorem strs_row {w : World} {g n : Nat} {a : Option Addr} {l : List ByteArray} {cs : Array Value} (h : StrsAt w a n l) (hx : ∀ x, a = some x → g < x.block) : StrsAt (w.setRow g cs) a n l := by
  refine ⟨h.1, ?_⟩
  rcases h.2 with h0 | ⟨b, off, ha, hc⟩
  · exact .inl h0
  · refine .inr ⟨b, off, ha, fun i hi => ?_⟩
    rw [cell_row_other w g b (off + i) cs (by have := hx _ ha; have h9 : g < b := this; omega)]
    exact hc i hi

set_option maxHeartbeats 4000000 in
theorem ropen18_not (D : DevT) (v : Value) (w : World) (h : DevIn w v D) (hl : D.1.length ≤ 2048) (hn : D.1.length < 2 ∨ D.2.2.1 = true) :
    Calls Tryz.prog 19 #[v] w fun e w' => ∃ u, e = .returned (.tuple #[u, .int .i64 (if D.1.length < 2 then 1 else 170)]) ∧ StoIn w' w.heap.size u zeroT ∧ Below w.heap.size w w' := by
  obtain ⟨b, c, rfl, hr⟩ := h
  obtain ⟨L, F, O, N⟩ := D
  unfold devA
  simp only at hl hr hn ⊢
  have HS0 : Hid (HfS w ((w.alloc (.cells #[.slice (some ⟨b, 0, none⟩) L.length c, .int .i64 F, .bool O, .int .i64 N] 28)).alloc (.cells zeroS 30)) #[.slice (some ⟨b, 0, none⟩) L.length c, .int .i64 F, .bool O, .int .i64 N] zeroS) := HfS.new w _ _
  unfold zeroS at HS0
  obtain ⟨W0, hW0⟩ : ∃ W, ((w.alloc (.cells #[.slice (some ⟨b, 0, none⟩) L.length c, .int .i64 F, .bool O, .int .i64 N] 28)).alloc (.cells #[.string ⟨#[]⟩, .slice none 0 0, .int .i64 0, .string ⟨#[]⟩] 30)) = W := ⟨_, rfl⟩
  rw [hW0] at HS0
  have d0 : W0.cell? ⟨w.heap.size, 0, none⟩ = some (.slice (some ⟨b, 0, none⟩) L.length c) := HS0.out.d.cell 0
  have d1 : W0.cell? ⟨w.heap.size, 1, none⟩ = some (.int .i64 F) := HS0.out.d.cell 1
  have d2 : W0.cell? ⟨w.heap.size, 2, none⟩ = some (.bool O) := HS0.out.d.cell 2
  have d3 : W0.cell? ⟨w.heap.size, 3, none⟩ = some (.int .i64 N) := HS0.out.d.cell 3
  have HS1 : Hid (HfS w (W0.setRow (w.heap.size + 1) zeroS) _ zeroS) := HS0.out.set zeroS
  by_cases h2 : L.length < 2
  · have q0 : decide ((L.length : Int) < 2) = true := decide_eq_true (by omega)
    rw [if_pos h2]
    clear hn hr
    go_enter Tryz.func19, Tryz.ntmps19
    go_wp2_with (with_reducible refine wpList_storeBlk rfl 30 _ _ rfl (w.heap.size + 1) #[.string ⟨#[]⟩, .slice none 0 0, .int .i64 0, .string ⟨#[]⟩] #[.string ⟨#[]⟩, .slice none 0 0, .int .i64 0, .string ⟨#[]⟩] (by with_unfolding_all rfl) (by with_unfolding_all rfl) HS0.out.s rfl (by kernel_rfl) (by kernel_rfl) ?_; dsimp only [Act.put])
    exact bodyPost_rowTmp rfl (w.heap.size + 1) zeroS _ rfl rfl rfl HS1.out.s _ Tryz.underlying30 rfl (by kernel_rfl) ⟨_, rfl, StoIn.zero _ _, HS1.out.b⟩
  · have q0 : decide ((L.length : Int) < 2) = false := decide_eq_false (by omega)
    rw [if_neg h2]
    obtain rfl : O = true := by rcases hn with h | h; exact absurd h h2; exact h
    clear hn hr
    go_enter Tryz.func19, Tryz.ntmps19
    go_wp2_with (with_reducible refine wpList_storeBlk rfl 30 _ _ rfl (w.heap.size + 1) #[.string ⟨#[]⟩, .slice none 0 0, .int .i64 0, .string ⟨#[]⟩] #[.string ⟨#[]⟩, .slice none 0 0, .int .i64 0, .string ⟨#[]⟩] (by with_unfolding_all rfl) (by with_unfolding_all rfl) HS0.out.s rfl (by kernel_rfl) (by kernel_rfl) ?_; dsimp only [Act.put])
    exact bodyPost_rowTmp rfl (w.heap.size + 1) zeroS _ rfl rfl rfl HS1.out.s _ Tryz.underlying30 rfl (by kernel_rfl) ⟨_, rfl, StoIn.zero _ _, HS1.out.b⟩

set_option maxHeartbeats 4000000 in
theorem ropen18_any (D : DevT) (v : Value) (w : World) (h : DevIn w v D) (h2 : 2 ≤ D.1.length) (hl : D.1.length ≤ 2048) (h64 : ∀ i, i < D.1.length → (strL D.1 i).size = 64) (ho : D.2.2.1 = false) :
    Calls Tryz.prog 19 #[v] w fun e w' => ∃ u, e = .returned (.tuple #[u, .int .i64 0]) ∧ StoIn w' w.heap.size u (openP D.1) ∧ Below w.heap.size w w' := by
  have C0 : Hid (∀ W, DevIn W v D → _) := fun W hW => rhalf18_two D v 0 W hW h2 hl h64 (by decide)
  have C1 : Hid (∀ W, DevIn W v D → _) := fun W hW => rhalf18_two D v 1 W hW h2 hl h64 (by decide)
  have HD : Hid (DevIn w v D) := h
  obtain ⟨b, c, rfl, hr⟩ := h
  obtain ⟨L, F, O, N⟩ := D
  unfold devA at C0 C1 HD ⊢
  simp only at hl hr h2 ho C0 C1 HD ⊢
  obtain ⟨⟨A0, A1, A2, A3⟩, hA⟩ : ∃ X, (halfP L 0).getD zeroT = X := ⟨_, rfl⟩
  obtain ⟨⟨B0, B1, B2, B3⟩, hB⟩ : ∃ X, (halfP L 1).getD zeroT = X := ⟨_, rfl⟩
  obtain ⟨qa, hqa⟩ : ∃ q, (halfP L 0).isSome = q := ⟨_, rfl⟩
  obtain ⟨qb, hqb⟩ : ∃ q, (halfP L 1).isSome = q := ⟨_, rfl⟩
  rw [hA, hqa] at C0
  rw [hB, hqb] at C1
  have HP : Hid (openP L = if qb = true ∧ (qa = false ∨ A2 < B2) then (B0, B1, B2, B3) else (A0, A1, A2, A3)) := by
    show _ = _
    unfold openP
    rw [hA, hB, hqa, hqb]
  simp only at C0 C1
  clear hA hB hqa hqb h64
  have HS0 : Hid (HfS w ((w.alloc (.cells #[.slice (some ⟨b, 0, none⟩) L.length c, .int .i64 F, .bool O, .int .i64 N] 28)).alloc (.cells zeroS 30)) #[.slice (some ⟨b, 0, none⟩) L.length c, .int .i64 F, .bool O, .int .i64 N] zeroS) := HfS.new w _ _
  unfold zeroS at HS0
  obtain ⟨W0, hW0⟩ : ∃ W, ((w.alloc (.cells #[.slice (some ⟨b, 0, none⟩) L.length c, .int .i64 F, .bool O, .int .i64 N] 28)).alloc (.cells #[.string ⟨#[]⟩, .slice none 0 0, .int .i64 0, .string ⟨#[]⟩] 30)) = W := ⟨_, rfl⟩
  rw [hW0] at HS0
  have d0 : W0.cell? ⟨w.heap.size, 0, none⟩ = some (.slice (some ⟨b, 0, none⟩) L.length c) := HS0.out.d.cell 0
  have d1 : W0.cell? ⟨w.heap.size, 1, none⟩ = some (.int .i64 F) := HS0.out.d.cell 1
  have d2 : W0.cell? ⟨w.heap.size, 2, none⟩ = some (.bool O) := HS0.out.d.cell 2
  have d3 : W0.cell? ⟨w.heap.size, 3, none⟩ = some (.int .i64 N) := HS0.out.d.cell 3
  have HD0 : Hid (DevIn W0 _ _) := HD.out.on HS0.out.b
  subst ho
  have q0 : decide ((L.length : Int) < 2) = false := decide_eq_false (by omega)
  go_enter Tryz.func19, Tryz.ntmps19
  go_wp2_with fail
  refine (C0.out W0 HD0.out).mono ?_
  rintro e W1 ⟨a4, c4, rfl, hs4, hx4, hb⟩
  have HS1 := HS0.out.on hb
  have hw0 : w.heap.size + 1 < W0.heap.size := HS0.out.s.lt
  have hg1 : w.heap.size + 1 < W1.heap.size := HS1.s.lt
  have hx4' : Hid (∀ x, a4 = some x → w.heap.size + 1 < x.block) := fun x hx => by have := hx4 x hx; omega
  have HD1 : DevIn W1 _ _ := HD0.out.on hb
  clear hb HS0 C0 d0 d1 d2 d3 hW0 HD0 HD hx4 hr
  have XN : Blk (W1.alloc (.cells #[.string ⟨#[]⟩, .slice none 0 0, .int .i64 0, .string ⟨#[]⟩] 30)) 30 W1.heap.size #[.string ⟨#[]⟩, .slice none 0 0, .int .i64 0, .string ⟨#[]⟩] := Blk.new _ _ _
  have HN2 : Blk ((W1.alloc (.cells #[.string ⟨#[]⟩, .slice none 0 0, .int .i64 0, .string ⟨#[]⟩] 30)).setRow W1.heap.size #[.string A0, .slice a4 A1.length c4, .int .i64 A2, .string A3]) 30 W1.heap.size #[.string A0, .slice a4 A1.length c4, .int .i64 A2, .string A3] := XN.setRow _
  have hb2 : Below W1.heap.size W1 ((W1.alloc (.cells #[.string ⟨#[]⟩, .slice none 0 0, .int .i64 0, .string ⟨#[]⟩] 30)).setRow W1.heap.size #[.string A0, .slice a4 A1.length c4, .int .i64 A2, .string A3]) := below_setRow (below_new W1 _) (Nat.le_refl _) _
  obtain ⟨W2, hW2⟩ : ∃ W2, (W1.alloc (.cells #[.string ⟨#[]⟩, .slice none 0 0, .int .i64 0, .string ⟨#[]⟩] 30)).setRow W1.heap.size #[.string A0, .slice a4 A1.length c4, .int .i64 A2, .string A3] = W2 := ⟨_, rfl⟩
  rw [hW2] at HN2 hb2
  have HS2 := HS1.on hb2
  have HD2 := HD1.on hb2
  have hs5 := hs4.below hb2
  have d0 : W2.cell? ⟨w.heap.size, 0, none⟩ = some (.slice (some ⟨b, 0, none⟩) L.length c) := HS2.d.cell 0
  have d1 : W2.cell? ⟨w.heap.size, 1, none⟩ = some (.int .i64 F) := HS2.d.cell 1
  have d2 : W2.cell? ⟨w.heap.size, 2, none⟩ = some (.bool false) := HS2.d.cell 2
  have d3 : W2.cell? ⟨w.heap.size, 3, none⟩ = some (.int .i64 N) := HS2.d.cell 3
  clear hs4 HS1 HD1 hb2
  go_wp2_with (with_reducible refine wpList_storeBlk rfl 30 _ _ rfl W1.heap.size #[.string ⟨#[]⟩, .slice none 0 0, .int .i64 0, .string ⟨#[]⟩] #[.string A0, .slice a4 A1.length c4, .int .i64 A2, .string A3] (by with_unfolding_all rfl) (by with_unfolding_all rfl) XN rfl (by kernel_rfl) (by kernel_rfl) ?_; rw [hW2]; dsimp only [Act.put])
  refine (C1.out W2 HD2).mono ?_
  rintro e W3 ⟨a6, c6, rfl, hs6, hx6, hb⟩
  have HS3 := HS2.on hb
  have hw2 : w.heap.size + 1 < W2.heap.size := HS2.s.lt
  have hx6' : Hid (∀ x, a6 = some x → w.heap.size + 1 < x.block) := fun x hx => by have := hx6 x hx; omega
  have HN3 := HN2.on hb
  have hs7 := hs5.below hb
  obtain ⟨g4, hg4⟩ : ∃ g, W1.heap.size = g := ⟨_, rfl⟩
  rw [hg4] at HN3 hg1
  rw [hg4]
  clear hb HS2 C1 d0 d1 d2 d3 hW2 HD2 hx6 XN HN2 hs5 hg4
  have XN : Blk (W3.alloc (.cells #[.string ⟨#[]⟩, .slice none 0 0, .int .i64 0, .string ⟨#[]⟩] 30)) 30 W3.heap.size #[.string ⟨#[]⟩, .slice none 0 0, .int .i64 0, .string ⟨#[]⟩] := Blk.new _ _ _
  have HN4 : Blk ((W3.alloc (.cells #[.string ⟨#[]⟩, .slice none 0 0, .int .i64 0, .string ⟨#[]⟩] 30)).setRow W3.heap.size #[.string B0, .slice a6 B1.length c6, .int .i64 B2, .string B3]) 30 W3.heap.size #[.string B0, .slice a6 B1.length c6, .int .i64 B2, .string B3] := XN.setRow _
  have hb4 : Below W3.heap.size W3 ((W3.alloc (.cells #[.string ⟨#[]⟩, .slice none 0 0, .int .i64 0, .string ⟨#[]⟩] 30)).setRow W3.heap.size #[.string B0, .slice a6 B1.length c6, .int .i64 B2, .string B3]) := below_setRow (below_new W3 _) (Nat.le_refl _) _
  obtain ⟨W4, hW4⟩ : ∃ W4, (W3.alloc (.cells #[.string ⟨#[]⟩, .slice none 0 0, .int .i64 0, .string ⟨#[]⟩] 30)).setRow W3.heap.size #[.string B0, .slice a6 B1.length c6, .int .i64 B2, .string B3] = W4 := ⟨_, rfl⟩
  rw [hW4] at HN4 hb4
  have HS4 : Hid (HfS w W4 _ _) := HS3.on hb4
  have HN5 := HN3.on hb4
  have HZA : Hid (StrsAt W4 a4 A1.length A1) := hs7.below hb4
  have HZB : Hid (StrsAt W4 a6 B1.length B1) := hs6.below hb4
  have e0 : W4.cell? ⟨g4, 0, none⟩ = some (.string A0) := HN5.cell 0
  have e1 : W4.cell? ⟨g4, 1, none⟩ = some (.slice a4 A1.length c4) := HN5.cell 1
  have e2 : W4.cell? ⟨g4, 2, none⟩ = some (.int .i64 A2) := HN5.cell 2
  have e3 : W4.cell? ⟨g4, 3, none⟩ = some (.string A3) := HN5.cell 3
  have f0 : W4.cell? ⟨W3.heap.size, 0, none⟩ = some (.string B0) := HN4.cell 0
  have f1 : W4.cell? ⟨W3.heap.size, 1, none⟩ = some (.slice a6 B1.length c6) := HN4.cell 1
  have f2 : W4.cell? ⟨W3.heap.size, 2, none⟩ = some (.int .i64 B2) := HN4.cell 2
  have f3 : W4.cell? ⟨W3.heap.size, 3, none⟩ = some (.string B3) := HN4.cell 3
  clear hs7 hs6 HS3 HN3 hb4 HN4 HN5
  cases qb with
  | false =>
    have HQ : Hid (openP L = (A0, A1, A2, A3)) := by show _ = _; rw [HP.out]; simp
    go_wp2_with (first
      | (with_reducible refine wpList_storeBlk rfl 30 _ _ rfl W3.heap.size #[.string ⟨#[]⟩, .slice none 0 0, .int .i64 0, .string ⟨#[]⟩] #[.string B0, .slice a6 B1.length c6, .int .i64 B2, .string B3] (by with_unfolding_all rfl) (by with_unfolding_all rfl) XN rfl (by kernel_rfl) (by kernel_rfl) ?_; rw [hW4]; dsimp only [Act.put])
      | (with_reducible refine wpList_storeBlk rfl 30 _ _ rfl (w.heap.size + 1) #[.string ⟨#[]⟩, .slice none 0 0, .int .i64 0, .string ⟨#[]⟩] #[.string A0, .slice a4 A1.length c4, .int .i64 A2, .string A3] (by with_unfolding_all rfl) (by with_unfolding_all rfl) HS4.out.s rfl (by kernel_rfl) (by kernel_rfl) ?_; dsimp only [Act.put]))
    exact bodyPost_rowTmp rfl (w.heap.size + 1) #[.string A0, .slice a4 A1.length c4, .int .i64 A2, .string A3] _ rfl rfl rfl (HS4.out.set _).s _ Tryz.underlying30 rfl (by kernel_rfl) ⟨_, rfl, (by rw [HQ.out]; exact ⟨a4, c4, rfl, strs_row HZA.out (fun x hx => hx4'.out x hx), fun x hx => by have := hx4'.out x hx; omega⟩), (HS4.out.set _).b⟩
  | true =>
    cases qa with
    | false =>
      have HQ : Hid (openP L = (B0, B1, B2, B3)) := by show _ = _; rw [HP.out]; simp
      go_wp2_with (first
        | (with_reducible refine wpList_storeBlk rfl 30 _ _ rfl W3.heap.size #[.string ⟨#[]⟩, .slice none 0 0, .int .i64 0, .string ⟨#[]⟩] #[.string B0, .slice a6 B1.length c6, .int .i64 B2, .string B3] (by with_unfolding_all rfl) (by with_unfolding_all rfl) XN rfl (by kernel_rfl) (by kernel_rfl) ?_; rw [hW4]; dsimp only [Act.put])
        | (with_reducible refine wpList_storeBlk rfl 30 _ _ rfl (w.heap.size + 1) #[.string ⟨#[]⟩, .slice none 0 0, .int .i64 0, .string ⟨#[]⟩] #[.string B0, .slice a6 B1.length c6, .int .i64 B2, .string B3] (by with_unfolding_all rfl) (by with_unfolding_all rfl) HS4.out.s rfl (by kernel_rfl) (by kernel_rfl) ?_; dsimp only [Act.put]))
      exact bodyPost_rowTmp rfl (w.heap.size + 1) #[.string B0, .slice a6 B1.length c6, .int .i64 B2, .string B3] _ rfl rfl rfl (HS4.out.set _).s _ Tryz.underlying30 rfl (by kernel_rfl) ⟨_, rfl, (by rw [HQ.out]; exact ⟨a6, c6, rfl, strs_row HZB.out (fun x hx => hx6'.out x hx), fun x hx => by have := hx6'.out x hx; omega⟩), (HS4.out.set _).b⟩
    | true =>
      by_cases hAB : A2 < B2
      · have HQ : Hid (openP L = (B0, B1, B2, B3)) := by show _ = _; rw [HP.out]; simp [hAB]
        have t0 : decide (A2 < B2) = true := decide_eq_true hAB
        go_wp2_with (first
          | (with_reducible refine wpList_storeBlk rfl 30 _ _ rfl W3.heap.size #[.string ⟨#[]⟩, .slice none 0 0, .int .i64 0, .string ⟨#[]⟩] #[.string B0, .slice a6 B1.length c6, .int .i64 B2, .string B3] (by with_unfolding_all rfl) (by with_unfolding_all rfl) XN rfl (by kernel_rfl) (by kernel_rfl) ?_; rw [hW4]; dsimp only [Act.put])
          | (with_reducible refine wpList_storeBlk rfl 30 _ _ rfl (w.heap.size + 1) #[.string ⟨#[]⟩, .slice none 0 0, .int .i64 0, .string ⟨#[]⟩] #[.string B0, .slice a6 B1.length c6, .int .i64 B2, .string B3] (by with_unfolding_all rfl) (by with_unfolding_all rfl) HS4.out.s rfl (by kernel_rfl) (by kernel_rfl) ?_; dsimp only [Act.put]))
        exact bodyPost_rowTmp rfl (w.heap.size + 1) #[.string B0, .slice a6 B1.length c6, .int .i64 B2, .string B3] _ rfl rfl rfl (HS4.out.set _).s _ Tryz.underlying30 rfl (by kernel_rfl) ⟨_, rfl, (by rw [HQ.out]; exact ⟨a6, c6, rfl, strs_row HZB.out (fun x hx => hx6'.out x hx), fun x hx => by have := hx6'.out x hx; omega⟩), (HS4.out.set _).b⟩
      · have HQ : Hid (openP L = (A0, A1, A2, A3)) := by show _ = _; rw [HP.out]; simp [hAB]
        have t0 : decide (A2 < B2) = false := decide_eq_false hAB
        go_wp2_with (first
          | (with_reducible refine wpList_storeBlk rfl 30 _ _ rfl W3.heap.size #[.string ⟨#[]⟩, .slice none 0 0, .int .i64 0, .string ⟨#[]⟩] #[.string B0, .slice a6 B1.length c6, .int .i64 B2, .string B3] (by with_unfolding_all rfl) (by with_unfolding_all rfl) XN rfl (by kernel_rfl) (by kernel_rfl) ?_; rw [hW4]; dsimp only [Act.put])
          | (with_reducible refine wpList_storeBlk rfl 30 _ _ rfl (w.heap.size + 1) #[.string ⟨#[]⟩, .slice none 0 0, .int .i64 0, .string ⟨#[]⟩] #[.string A0, .slice a4 A1.length c4, .int .i64 A2, .string A3] (by with_unfolding_all rfl) (by with_unfolding_all rfl) HS4.out.s rfl (by kernel_rfl) (by kernel_rfl) ?_; dsimp only [Act.put]))
        exact bodyPost_rowTmp rfl (w.heap.size + 1) #[.string A0, .slice a4 A1.length c4, .int .i64 A2, .string A3] _ rfl rfl rfl (HS4.out.set _).s _ Tryz.underlying30 rfl (by kernel_rfl) ⟨_, rfl, (by rw [HQ.out]; exact ⟨a4, c4, rfl, strs_row HZA.out (fun x hx => hx4'.out x hx), fun x hx => by have := hx4'.out x hx; omega⟩), (HS4.out.set _).b⟩

end Go.Proofs.YtaakmcihpdbilaaGreatDoor
