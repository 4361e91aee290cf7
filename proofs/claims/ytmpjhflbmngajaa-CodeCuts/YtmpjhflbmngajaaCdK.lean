/- Layer 9's laws: few parts; a part written on both sides. -/
import Derived.Test.YtmpjhflbmngajaaCdF
import Derived.Test.YtmpjhflbmngajaaCdJ
import Derived.Test.YtmpjhflbmngajaaOpenP
namespace Go.Proofs.Ytmpjhflbmngajaa
open Go.RowKit
set_option linter.unusedSimpArgs false

def partV (p : Int × Int × Int × ByteArray) : Value := .agg #[.int .i64 (kd p), .int .i64 (pn p), .int .i64 (pm p), .string (ps p)]
def FewB (s : ByteArray) : Prop := ¬ (512 < s.size ∧ s.size ≤ 32768) ∧ s.size ≤ 131072
def FewP (l : List (Int × Int × Int × ByteArray)) (n : Nat) : Prop := n ≤ 40 ∧ ∀ i, i < n → FewB (ps (ptL l i))
theorem PartsAt.some {w : World} {a : Option Addr} {n : Nat} {l : List (Int × Int × Int × ByteArray)} (h : PartsAt w a n l) (hn : 0 < n) :
    ∃ b off, a = some ⟨b, off, none⟩ ∧ ∀ i, i < n → w.cell? ⟨b, off + i * 4, none⟩ = some (.int .i64 (kd (ptL l i))) ∧ w.cell? ⟨b, off + i * 4 + 1, none⟩ = some (.int .i64 (pn (ptL l i))) ∧ w.cell? ⟨b, off + i * 4 + 2, none⟩ = some (.int .i64 (pm (ptL l i))) ∧ w.cell? ⟨b, off + i * 4 + 3, none⟩ = some (.string (ps (ptL l i))) := by
  rcases h.2 with h0 | h1
  · omega
  · exact h1
theorem PartsAt.below {w w' : World} {a : Option Addr} {n : Nat} {l : List (Int × Int × Int × ByteArray)} (h : PartsAt w a n l) (hb : Below w.heap.size w w') : PartsAt w' a n l := by
  refine ⟨h.1, h.2.imp id ?_⟩
  rintro ⟨b, off, e, hc⟩
  refine ⟨b, off, e, fun i hi => ?_⟩
  obtain ⟨c0, c1, c2, c3⟩ := hc i hi
  rw [hb.cell (World.block_lt_of_cell? w _ c0), hb.cell (World.block_lt_of_cell? w _ c1), hb.cell (World.block_lt_of_cell? w _ c2), hb.cell (World.block_lt_of_cell? w _ c3)]
  exact ⟨c0, c1, c2, c3⟩

set_option maxHeartbeats 2000000 in
set_option maxRecDepth 100000 in
theorem few9 (l : List (Int × Int × Int × ByteArray)) (a : Option Addr) (n c : Nat) (w : World) (hm : n ≤ maxLen) (hI : PartsAt w a n l) (hz : ∀ i, (ps (ptL l i)).size ≤ maxLen) (D : Bool) (hD : D = true ↔ FewP l n) :
    Calls Try.prog 9 #[.slice a n c] w fun e w' => e = .returned (.bool D) ∧ w' = w := by
  have HD : Hid (D = true ↔ FewP l n) := hD
  clear hD
  have HI : Hid (PartsAt w a n l) := hI
  have HZ : Hid (∀ i, (ps (ptL l i)).size ≤ maxLen) := hz
  have hm' : n ≤ 9223372036854775807 := hm
  clear hI hz hm
  go_enter Try.func9, Try.ntmps9
  go_wp2_with fail
  go_loopw [3] (fun i wr => ∃ k : Nat, k ≤ n ∧ k ≤ 40 ∧ i = .int .i64 k ∧ Hid (∀ j, j < k → FewB (ps (ptL l j))) ∧ wr = w) (fun i _ => n - (intOf i).toNat)
  case atStart => exact ⟨0, Nat.zero_le _, Nat.zero_le _, rfl, fun j hj => absurd hj (Nat.not_lt_zero _), rfl⟩
  case round =>
    obtain ⟨k, hk, hk40, rfl, HN, rfl⟩ := hrel
    by_cases hlt : k < n
    · have b0 : (k : Int) < (n : Int) := by omega
      by_cases h40 : k < 40
      · have b1 : (k : Int) < 40 := by omega
        obtain ⟨b, off, rfl, hcl⟩ := HI.out.some (by omega)
        obtain ⟨_, _, _, c0⟩ := hcl k hlt
        have hXs : (ps (ptL l k)).size ≤ 9223372036854775807 := HZ.out k
        have HNo : Hid (¬ FewB (ps (ptL l k)) → D = false) := fun he => by
          cases D with
          | false => rfl
          | true => exact absurd ((HD.out.1 rfl).2 k hlt) he
        have HYes : Hid (FewB (ps (ptL l k)) → ∀ j, j < k + 1 → FewB (ps (ptL l j))) := fun he j hj => by
          by_cases e : j = k
          · subst e; exact he
          · exact HN.out j (by omega)
        clear hcl HN
        obtain ⟨X, hX⟩ : ∃ X, ps (ptL l k) = X := ⟨_, rfl⟩
        rw [hX] at c0 hXs HNo HYes
        clear hX
        by_cases h1 : 512 < X.size
        · have q1 : decide ((512 : Int) < (X.size : Int)) = true := by simp; omega
          by_cases h2 : X.size ≤ 32768
          · have q2 : decide ((X.size : Int) ≤ 32768) = true := by simp; omega
            obtain rfl : D = false := HNo.out (fun h => h.1 ⟨h1, h2⟩)
            clear HNo HYes h1 h2
            go_wp2
            go_ret
            exact ⟨rfl, rfl⟩
          · have q2 : decide ((X.size : Int) ≤ 32768) = false := by simp; omega
            by_cases h3 : X.size ≤ 131072
            · have q3 : decide ((131072 : Int) < (X.size : Int)) = false := by simp; omega
              have HN' : Hid (∀ j, j < k + 1 → FewB (ps (ptL l j))) := HYes.out ⟨fun h => h2 h.2, h3⟩
              clear HNo HYes h1 h2 h3
              go_wp2
              refine ⟨⟨k + 1, by omega, by omega, by go_num, HN', by first | rfl | trivial⟩, ?_⟩
              simp [intOf]; omega
            · have q3 : decide ((131072 : Int) < (X.size : Int)) = true := by simp; omega
              obtain rfl : D = false := HNo.out (fun h => h3 h.2)
              clear HNo HYes h1 h2 h3
              go_wp2
              go_ret
              exact ⟨rfl, rfl⟩
        · have q1 : decide ((512 : Int) < (X.size : Int)) = false := by simp; omega
          have q3 : decide ((131072 : Int) < (X.size : Int)) = false := by simp; omega
          have HN' : Hid (∀ j, j < k + 1 → FewB (ps (ptL l j))) := HYes.out ⟨fun h => h1 h.1, by omega⟩
          clear HNo HYes h1
          go_wp2
          refine ⟨⟨k + 1, by omega, by omega, by go_num, HN', by first | rfl | trivial⟩, ?_⟩
          simp [intOf]; omega
      · have b1 : ¬ ((k : Int) < 40) := by omega
        have b2 : decide ((n : Int) ≤ 40) = false := by simp; omega
        obtain rfl : D = false := by
          cases D with
          | false => rfl
          | true => have := (HD.out.1 rfl).1; omega
        go_wp2
        go_ret
        exact ⟨rfl, rfl⟩
    · have hk' : k = n := by omega
      subst hk'
      have b2 : decide ((k : Int) ≤ 40) = true := by simp; omega
      obtain rfl : D = true := HD.out.2 ⟨hk40, HN.out⟩
      go_wp2
      go_ret
      exact ⟨rfl, rfl⟩

theorem OutAt.setRowOther {w : World} {g : Nat} {v : Value} {o : ByteArray × Bool} (h : OutAt w g v o) (c : Nat) (hg : g ≠ c) (hv : v.ownBlock ≠ some c) (cs : Array Value) : OutAt (w.setRow c cs) g v o := by
  obtain ⟨S, b⟩ := o
  cases b with
  | true => exact OutAt.bad.2 ⟨Blk.setRowOther (OutAt.bad.1 h).1 c hg cs, (OutAt.bad.1 h).2⟩
  | false =>
    obtain ⟨h1, h2, h3⟩ := OutAt.ok.1 h
    refine OutAt.ok.2 ⟨h1.setRowOther c hg cs, ⟨h2.1, ?_⟩, h3⟩
    rcases h2.2 with hn | ⟨b, cap, cur, rfl, h0, hg, rest⟩
    · exact .inl hn
    · exact .inr ⟨b, cap, cur, rfl, h0, by rw [setRow_other w c b cs (fun e => hv (by rw [← e]; rfl))]; exact hg, rest⟩
theorem Kept2.setRowNew {g : Nat} {r : Option Nat} {a w : World} (h : Kept2 g r a w) (c : Nat) (hc : a.heap.size ≤ c) (cs : Array Value) : Kept2 g r a (w.setRow c cs) :=
  ⟨h.os, h.tape, h.output, by have := h.size; simpa [World.setRow] using this, fun k hk hg hr => by rw [setRow_other w c k cs (by omega)]; exact h.block k hk hg hr⟩

set_option maxHeartbeats 4000000 in
set_option maxRecDepth 100000 in
theorem writes_any (g : Nat) (v : Value) (o q : ByteArray × Bool) (p : Int × Int × Int × ByteArray) (w : World) (h : OutAt w g v o) (hq : q.1.size ≤ 65536) (hp : (ps p).size ≤ 1000000) :
    Calls Try.prog 11 #[.pointer (some ⟨g, 0, none⟩), outV q, partV p] w fun e w' => e = .returned (outV (writeP q p)) ∧ OutTo w g v (writeP o p) w' := by
  have hlt := h.lt.1
  have hrl : Hid (∀ k, v.ownBlock = some k → k < w.heap.size) := h.lt.2
  have hO : Hid (OutAt w g v o) := h
  clear h
  obtain ⟨o', ho'⟩ : ∃ o', writeP o p = o' := ⟨_, rfl⟩
  obtain ⟨⟨S', b'⟩, hq'⟩ : ∃ q', writeP q p = q' := ⟨_, rfl⟩
  rw [ho', hq']
  have hw1 : writeP o p = o' := ho'
  have hw2 : writeP q p = (S', b') := hq'
  unfold writeP at hw1 hw2
  have hR1 := fun w => rbyte_any q (pn p) w hq
  have hR2 := fun w => rnum_any q (pn p) w hq
  have hR3 := fun w => rstamp_any q (pn p) (pm p) w hq
  have hR4 := fun w => rtext_any q (ps p) w hq hp
  obtain ⟨Q, qb⟩ := q
  unfold partV
  unfold outV at hR1 hR2 hR3 hR4 ⊢
  obtain ⟨K, hK⟩ : ∃ K, kd p = K := ⟨_, rfl⟩
  obtain ⟨N, hN⟩ : ∃ N, pn p = N := ⟨_, rfl⟩
  obtain ⟨M, hM⟩ : ∃ M, pm p = M := ⟨_, rfl⟩
  obtain ⟨X, hX⟩ : ∃ X, ps p = X := ⟨_, rfl⟩
  rw [hK, hN, hM, hX] at hw1 hw2
  rw [hN] at hR1 hR2 hR3
  rw [hM] at hR3
  rw [hX] at hR4
  rw [hK, hN, hM, hX]
  clear hK hN hM hX ho' hq' hp hq
  have HA : Hid (Blk (((w.alloc (.cells #[.string Q, .bool qb] 28)).alloc (.cells #[.int .i64 K, .int .i64 N, .int .i64 M, .string X] 31)).alloc (.cells #[.string ⟨#[]⟩, .bool false] 28)) 28 w.heap.size #[.string Q, .bool qb]) := ((Blk.new w _ _).alloc _).alloc _
  have HB : Hid (Blk (((w.alloc (.cells #[.string Q, .bool qb] 28)).alloc (.cells #[.int .i64 K, .int .i64 N, .int .i64 M, .string X] 31)).alloc (.cells #[.string ⟨#[]⟩, .bool false] 28)) 31 (w.heap.size + 1) #[.int .i64 K, .int .i64 N, .int .i64 M, .string X]) := (Blk.new' _ _ _ _ (by simp)).alloc _
  have HC : Hid (Blk (((w.alloc (.cells #[.string Q, .bool qb] 28)).alloc (.cells #[.int .i64 K, .int .i64 N, .int .i64 M, .string X] 31)).alloc (.cells #[.string ⟨#[]⟩, .bool false] 28)) 28 (w.heap.size + 2) #[.string ⟨#[]⟩, .bool false]) := Blk.new' _ _ _ _ (by simp)
  have HW : Hid (Below w.heap.size w (((w.alloc (.cells #[.string Q, .bool qb] 28)).alloc (.cells #[.int .i64 K, .int .i64 N, .int .i64 M, .string X] 31)).alloc (.cells #[.string ⟨#[]⟩, .bool false] 28))) := ((below_new w _).alloc (by simp) _).alloc (by simp; omega) _
  by_cases h1 : K = 1
  · rw [if_pos h1] at hw1 hw2
    rw [hw2] at hR1
    have HO : Hid (∀ w', OutAt w' g v o → Calls Try.prog 22 #[.pointer (some ⟨g, 0, none⟩), .int .i64 N] w' fun e w'' => e = .returned (.tuple #[]) ∧ OutTo w' g v o' w'') := fun w' h => by rw [← hw1]; exact obyte_any g v o N w' h
    have HR : Hid (∀ w, Calls Try.prog 26 #[.agg #[.string Q, .bool qb], .int .i64 N] w fun e w' => e = .returned (.agg #[.string S', .bool b']) ∧ Below w.heap.size w w') := hR1
    clear hR1 hR2 hR3 hR4 hw1 hw2
    subst h1
    go_enter Try.func11, Try.ntmps11
    go_wp2_with fail
    refine Calls.mono (HO.out _ (hO.out.on HW.out)) ?_
    rintro e w1 ⟨rfl, v1, a1, k1, n1⟩
    have hb1 : Blk w1 28 w.heap.size #[.string Q, .bool qb] := HA.out.kept k1 (by omega) (fun e => by have := hrl.out _ e.symm; omega)
    have hb2 : Blk w1 31 (w.heap.size + 1) #[_, .int .i64 N, .int .i64 M, .string X] := HB.out.kept k1 (by omega) (fun e => by have := hrl.out _ e.symm; omega)
    have hb3 : Blk w1 28 (w.heap.size + 2) #[.string ⟨#[]⟩, .bool false] := HC.out.kept k1 (by omega) (fun e => by have := hrl.out _ e.symm; omega)
    have p0 : w1.cell? ⟨w.heap.size, 0, none⟩ = some (.string Q) := hb1.cell 0
    have p1 : w1.cell? ⟨w.heap.size, 1, none⟩ = some (.bool qb) := hb1.cell 1
    have p2 : w1.cell? ⟨w.heap.size + 1, 1, none⟩ = some (.int .i64 N) := hb2.cell 1
    have p3 : w1.cell? ⟨w.heap.size + 1, 2, none⟩ = some (.int .i64 M) := hb2.cell 2
    have p4 : w1.cell? ⟨w.heap.size + 1, 3, none⟩ = some (.string X) := hb2.cell 3
    have H1 : Hid (OutAt w1 g v1 o' ∧ Kept2 g v.ownBlock w w1) := ⟨a1, Kept2.behind HW.out k1⟩
    have HX : Hid (∀ j, v1.ownBlock = some j → v.ownBlock = some j ∨ w.heap.size + 3 ≤ j) := fun j hj => by
      rcases n1 j hj with h' | h'
      · exact Or.inl h'
      · exact Or.inr (by simp at h'; omega)
    have H3 : Hid (Blk w1 28 (w.heap.size + 2) #[.string ⟨#[]⟩, .bool false]) := hb3
    clear hb1 hb2 hb3 a1 k1 n1 HA HB HC HW
    go_wp2_with fail
    refine (HR.out _).mono ?_
    rintro e w2 ⟨rfl, hb⟩
    have H4 : Hid (Blk w2 28 (w.heap.size + 2) #[.string ⟨#[]⟩, .bool false]) := H3.out.on hb
    go_wp2_with (with_reducible refine wpList_storeBlk rfl 28 _ _ rfl (w.heap.size + 2) #[.string ⟨#[]⟩, .bool false] #[.string S', .bool b'] ?hx ?hy H4.out rfl ?hi ?h1 ?_)
    try (case hx => rfl)
    try (case hy => rfl)
    try (case hi => kernel_rfl)
    try (case h1 => simp [Value.oneCell'])
    refine bodyPost_row rfl (w.heap.size + 2) #[.string S', .bool b'] rfl rfl (H4.out.setRow _) _ Try.underlying28 rfl (by kernel_rfl) ⟨rfl, v1, ?_, ?_, ?_⟩
    · exact (H1.out.1.on hb).setRowOther _ (by omega) (fun e => by
        rcases HX.out _ e with h' | h'
        · have := hrl.out _ h'; omega
        · omega) _
    · exact (H1.out.2.on hb).setRowNew _ (by omega) _
    · exact fun j hj => (HX.out j hj).imp id (fun h => by omega)
  · rw [if_neg h1] at hw1 hw2
    by_cases h2 : K = 2
    · rw [if_pos h2] at hw1 hw2
      rw [hw2] at hR2
      have HO : Hid (∀ w', OutAt w' g v o → Calls Try.prog 23 #[.pointer (some ⟨g, 0, none⟩), .int .i64 N] w' fun e w'' => e = .returned (.tuple #[]) ∧ OutTo w' g v o' w'') := fun w' h => by rw [← hw1]; exact onum_any g v o N w' h
      have HR : Hid (∀ w, Calls Try.prog 27 #[.agg #[.string Q, .bool qb], .int .i64 N] w fun e w' => e = .returned (.agg #[.string S', .bool b']) ∧ Below w.heap.size w w') := hR2
      clear hR1 hR2 hR3 hR4 hw1 hw2 h1
      subst h2
      go_enter Try.func11, Try.ntmps11
      go_wp2_with fail
      refine Calls.mono (HO.out _ (hO.out.on HW.out)) ?_
      rintro e w1 ⟨rfl, v1, a1, k1, n1⟩
      have hb1 : Blk w1 28 w.heap.size #[.string Q, .bool qb] := HA.out.kept k1 (by omega) (fun e => by have := hrl.out _ e.symm; omega)
      have hb2 : Blk w1 31 (w.heap.size + 1) #[_, .int .i64 N, .int .i64 M, .string X] := HB.out.kept k1 (by omega) (fun e => by have := hrl.out _ e.symm; omega)
      have hb3 : Blk w1 28 (w.heap.size + 2) #[.string ⟨#[]⟩, .bool false] := HC.out.kept k1 (by omega) (fun e => by have := hrl.out _ e.symm; omega)
      have p0 : w1.cell? ⟨w.heap.size, 0, none⟩ = some (.string Q) := hb1.cell 0
      have p1 : w1.cell? ⟨w.heap.size, 1, none⟩ = some (.bool qb) := hb1.cell 1
      have p2 : w1.cell? ⟨w.heap.size + 1, 1, none⟩ = some (.int .i64 N) := hb2.cell 1
      have p3 : w1.cell? ⟨w.heap.size + 1, 2, none⟩ = some (.int .i64 M) := hb2.cell 2
      have p4 : w1.cell? ⟨w.heap.size + 1, 3, none⟩ = some (.string X) := hb2.cell 3
      have H1 : Hid (OutAt w1 g v1 o' ∧ Kept2 g v.ownBlock w w1) := ⟨a1, Kept2.behind HW.out k1⟩
      have HX : Hid (∀ j, v1.ownBlock = some j → v.ownBlock = some j ∨ w.heap.size + 3 ≤ j) := fun j hj => by
        rcases n1 j hj with h' | h'
        · exact Or.inl h'
        · exact Or.inr (by simp at h'; omega)
      have H3 : Hid (Blk w1 28 (w.heap.size + 2) #[.string ⟨#[]⟩, .bool false]) := hb3
      clear hb1 hb2 hb3 a1 k1 n1 HA HB HC HW
      go_wp2_with fail
      refine (HR.out _).mono ?_
      rintro e w2 ⟨rfl, hb⟩
      have H4 : Hid (Blk w2 28 (w.heap.size + 2) #[.string ⟨#[]⟩, .bool false]) := H3.out.on hb
      go_wp2_with (with_reducible refine wpList_storeBlk rfl 28 _ _ rfl (w.heap.size + 2) #[.string ⟨#[]⟩, .bool false] #[.string S', .bool b'] ?hx ?hy H4.out rfl ?hi ?h1 ?_)
      try (case hx => rfl)
      try (case hy => rfl)
      try (case hi => kernel_rfl)
      try (case h1 => simp [Value.oneCell'])
      refine bodyPost_row rfl (w.heap.size + 2) #[.string S', .bool b'] rfl rfl (H4.out.setRow _) _ Try.underlying28 rfl (by kernel_rfl) ⟨rfl, v1, ?_, ?_, ?_⟩
      · exact (H1.out.1.on hb).setRowOther _ (by omega) (fun e => by
          rcases HX.out _ e with h' | h'
          · have := hrl.out _ h'; omega
          · omega) _
      · exact (H1.out.2.on hb).setRowNew _ (by omega) _
      · exact fun j hj => (HX.out j hj).imp id (fun h => by omega)
    · rw [if_neg h2] at hw1 hw2
      by_cases h3 : K = 3
      · rw [if_pos h3] at hw1 hw2
        rw [hw2] at hR3
        have HO : Hid (∀ w', OutAt w' g v o → Calls Try.prog 24 #[.pointer (some ⟨g, 0, none⟩), .agg #[.int .i64 N, .int .i64 M]] w' fun e w'' => e = .returned (.tuple #[]) ∧ OutTo w' g v o' w'') := fun w' h => by rw [← hw1]; exact ostamp_any g v o N M w' h
        have HR : Hid (∀ w, Calls Try.prog 28 #[.agg #[.string Q, .bool qb], .agg #[.int .i64 N, .int .i64 M]] w fun e w' => e = .returned (.agg #[.string S', .bool b']) ∧ Below w.heap.size w w') := hR3
        clear hR1 hR2 hR3 hR4 hw1 hw2 h1 h2
        subst h3
        go_enter Try.func11, Try.ntmps11
        go_wp2_with fail
        refine Calls.mono (HO.out _ (hO.out.on HW.out)) ?_
        rintro e w1 ⟨rfl, v1, a1, k1, n1⟩
        have hb1 : Blk w1 28 w.heap.size #[.string Q, .bool qb] := HA.out.kept k1 (by omega) (fun e => by have := hrl.out _ e.symm; omega)
        have hb2 : Blk w1 31 (w.heap.size + 1) #[_, .int .i64 N, .int .i64 M, .string X] := HB.out.kept k1 (by omega) (fun e => by have := hrl.out _ e.symm; omega)
        have hb3 : Blk w1 28 (w.heap.size + 2) #[.string ⟨#[]⟩, .bool false] := HC.out.kept k1 (by omega) (fun e => by have := hrl.out _ e.symm; omega)
        have p0 : w1.cell? ⟨w.heap.size, 0, none⟩ = some (.string Q) := hb1.cell 0
        have p1 : w1.cell? ⟨w.heap.size, 1, none⟩ = some (.bool qb) := hb1.cell 1
        have p2 : w1.cell? ⟨w.heap.size + 1, 1, none⟩ = some (.int .i64 N) := hb2.cell 1
        have p3 : w1.cell? ⟨w.heap.size + 1, 2, none⟩ = some (.int .i64 M) := hb2.cell 2
        have p4 : w1.cell? ⟨w.heap.size + 1, 3, none⟩ = some (.string X) := hb2.cell 3
        have H1 : Hid (OutAt w1 g v1 o' ∧ Kept2 g v.ownBlock w w1) := ⟨a1, Kept2.behind HW.out k1⟩
        have HX : Hid (∀ j, v1.ownBlock = some j → v.ownBlock = some j ∨ w.heap.size + 3 ≤ j) := fun j hj => by
          rcases n1 j hj with h' | h'
          · exact Or.inl h'
          · exact Or.inr (by simp at h'; omega)
        have H3 : Hid (Blk w1 28 (w.heap.size + 2) #[.string ⟨#[]⟩, .bool false]) := hb3
        clear hb1 hb2 hb3 a1 k1 n1 HA HB HC HW
        go_wp2_with fail
        refine (HR.out _).mono ?_
        rintro e w2 ⟨rfl, hb⟩
        have H4 : Hid (Blk w2 28 (w.heap.size + 2) #[.string ⟨#[]⟩, .bool false]) := H3.out.on hb
        go_wp2_with (with_reducible refine wpList_storeBlk rfl 28 _ _ rfl (w.heap.size + 2) #[.string ⟨#[]⟩, .bool false] #[.string S', .bool b'] ?hx ?hy H4.out rfl ?hi ?h1 ?_)
        try (case hx => rfl)
        try (case hy => rfl)
        try (case hi => kernel_rfl)
        try (case h1 => simp [Value.oneCell'])
        refine bodyPost_row rfl (w.heap.size + 2) #[.string S', .bool b'] rfl rfl (H4.out.setRow _) _ Try.underlying28 rfl (by kernel_rfl) ⟨rfl, v1, ?_, ?_, ?_⟩
        · exact (H1.out.1.on hb).setRowOther _ (by omega) (fun e => by
            rcases HX.out _ e with h' | h'
            · have := hrl.out _ h'; omega
            · omega) _
        · exact (H1.out.2.on hb).setRowNew _ (by omega) _
        · exact fun j hj => (HX.out j hj).imp id (fun h => by omega)
      · rw [if_neg h3] at hw1 hw2
        rw [hw2] at hR4
        have HO : Hid (∀ w', OutAt w' g v o → Calls Try.prog 25 #[.pointer (some ⟨g, 0, none⟩), .string X] w' fun e w'' => e = .returned (.tuple #[]) ∧ OutTo w' g v o' w'') := fun w' h => by rw [← hw1]; exact otext_any g v o X w' h
        have HR : Hid (∀ w, Calls Try.prog 29 #[.agg #[.string Q, .bool qb], .string X] w fun e w' => e = .returned (.agg #[.string S', .bool b']) ∧ Below w.heap.size w w') := hR4
        clear hR1 hR2 hR3 hR4 hw1 hw2
        go_enter Try.func11, Try.ntmps11
        go_wp2_with fail
        refine Calls.mono (HO.out _ (hO.out.on HW.out)) ?_
        rintro e w1 ⟨rfl, v1, a1, k1, n1⟩
        have hb1 : Blk w1 28 w.heap.size #[.string Q, .bool qb] := HA.out.kept k1 (by omega) (fun e => by have := hrl.out _ e.symm; omega)
        have hb2 : Blk w1 31 (w.heap.size + 1) #[_, .int .i64 N, .int .i64 M, .string X] := HB.out.kept k1 (by omega) (fun e => by have := hrl.out _ e.symm; omega)
        have hb3 : Blk w1 28 (w.heap.size + 2) #[.string ⟨#[]⟩, .bool false] := HC.out.kept k1 (by omega) (fun e => by have := hrl.out _ e.symm; omega)
        have p0 : w1.cell? ⟨w.heap.size, 0, none⟩ = some (.string Q) := hb1.cell 0
        have p1 : w1.cell? ⟨w.heap.size, 1, none⟩ = some (.bool qb) := hb1.cell 1
        have p2 : w1.cell? ⟨w.heap.size + 1, 1, none⟩ = some (.int .i64 N) := hb2.cell 1
        have p3 : w1.cell? ⟨w.heap.size + 1, 2, none⟩ = some (.int .i64 M) := hb2.cell 2
        have p4 : w1.cell? ⟨w.heap.size + 1, 3, none⟩ = some (.string X) := hb2.cell 3
        have H1 : Hid (OutAt w1 g v1 o' ∧ Kept2 g v.ownBlock w w1) := ⟨a1, Kept2.behind HW.out k1⟩
        have HX : Hid (∀ j, v1.ownBlock = some j → v.ownBlock = some j ∨ w.heap.size + 3 ≤ j) := fun j hj => by
          rcases n1 j hj with h' | h'
          · exact Or.inl h'
          · exact Or.inr (by simp at h'; omega)
        have H3 : Hid (Blk w1 28 (w.heap.size + 2) #[.string ⟨#[]⟩, .bool false]) := hb3
        clear hb1 hb2 hb3 a1 k1 n1 HA HB HC HW
        go_wp2_with fail
        refine (HR.out _).mono ?_
        rintro e w2 ⟨rfl, hb⟩
        have H4 : Hid (Blk w2 28 (w.heap.size + 2) #[.string ⟨#[]⟩, .bool false]) := H3.out.on hb
        go_wp2_with (with_reducible refine wpList_storeBlk rfl 28 _ _ rfl (w.heap.size + 2) #[.string ⟨#[]⟩, .bool false] #[.string S', .bool b'] ?hx ?hy H4.out rfl ?hi ?h1 ?_)
        try (case hx => rfl)
        try (case hy => rfl)
        try (case hi => kernel_rfl)
        try (case h1 => simp [Value.oneCell'])
        refine bodyPost_row rfl (w.heap.size + 2) #[.string S', .bool b'] rfl rfl (H4.out.setRow _) _ Try.underlying28 rfl (by kernel_rfl) ⟨rfl, v1, ?_, ?_, ?_⟩
        · exact (H1.out.1.on hb).setRowOther _ (by omega) (fun e => by
            rcases HX.out _ e with h' | h'
            · have := hrl.out _ h'; omega
            · omega) _
        · exact (H1.out.2.on hb).setRowNew _ (by omega) _
        · exact fun j hj => (HX.out j hj).imp id (fun h => by omega)
end Go.Proofs.Ytmpjhflbmngajaa
