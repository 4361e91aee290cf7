/- Layer 17, the code's device: burn, Write. -/
import Derived.Test.YtaakmcihpdbilaaDoorBkB
namespace Go.Proofs.YtaakmcihpdbilaaDoor
open Go.RowKit
set_option maxRecDepth 100000
set_option linter.unusedSimpArgs false
set_option maxRecDepth 100000

theorem Tryd.sizeU8 : (Tryd.prog.info? 5).map (·.size) = some 1 := by kernel_rfl

theorem Kept2.setRowR {g b : Nat} {a w : World} (h : Kept2 g (some b) a w) (cs : Array Value) : Kept2 g (some b) a (w.setRow b cs) :=
  ⟨h.os, h.tape, h.output, by have := h.size; simpa [World.setRow] using this, fun k hk hg hr => by rw [setRow_other w b k cs (fun e => hr (by rw [e]))]; exact h.block k hk hg hr⟩


set_option maxHeartbeats 2000000 in
theorem dburn_no (g b : Nat) (D : DevT) (w : World) (h : DevAt w g b D) (ho : D.2.2.1 = true ∨ D.2.1 = 0) :
    Calls Tryd.prog 54 #[.pointer (some ⟨g, 0, none⟩)] w fun e w' => e = .returned (.bool false) ∧ DevTo w g b (offB D) w' := by
  obtain ⟨F, hb, _, _, _, _, hF, h1, h2⟩ := id h
  have H : Hid (DevAt w g b D) := h
  have HB : Hid (Blk w 43 g #[.pointer (some ⟨g, 0, none⟩), .slice (some ⟨b, 0, none⟩) D.1.length D.1.length, .bool D.2.2.1, .int .i64 F, .int .i64 D.2.2.2]) := hb
  have HX : Hid (-1 ≤ F ∧ F ≤ 9223372036854775807) := ⟨h1, h2⟩
  have c2 : w.cell? ⟨g, 2, none⟩ = some (.bool D.2.2.1) := hb.cell 2
  have c3 : w.cell? ⟨g, 3, none⟩ = some (.int .i64 F) := hb.cell 3
  by_cases hf : F = 0
  · subst hf
    have f2 := hb.free 2
    have c3' : (w.setCell ⟨g, 2, none⟩ (.bool true)).cell? ⟨g, 3, none⟩ = some (.int .i64 0) := (hb.setAt 2 _).cell 3
    have f3 := (hb.setAt 2 (.bool true)).free 3
    have c2' : ((w.setCell ⟨g, 2, none⟩ (.bool true)).setCell ⟨g, 3, none⟩ (.int .i64 (-1))).cell? ⟨g, 2, none⟩ = some (.bool true) := ((hb.setAt 2 (.bool true)).setAt 3 (.int .i64 (-1))).cell 2
    clear hb h hF h1 h2 ho
    go_enter Tryd.func54, Tryd.ntmps54
    go_wp2
    go_ret
    exact ⟨rfl, H.out.turn rfl (((Kept2.refl g none w).setCell ⟨g, 2, none⟩ rfl _).setCell ⟨g, 3, none⟩ rfl _) ((HB.out.setAt 2 _).setAt 3 _) (fun _ => rfl) (by decide) (by decide)⟩
  · have ht : D.2.2.1 = true := by
      rcases ho with e | e
      · exact e
      · cases hh : D.2.2.1 with
        | true => rfl
        | false => exact absurd ((hF hh).trans e) hf
    have q3 : (F == 0) = false := by rw [beq_eq_false_iff_ne]; exact hf
    rw [ht] at c2
    rw [ht] at HB
    clear hb h hF h1 h2 ho
    go_enter Tryd.func54, Tryd.ntmps54
    go_wp2
    go_ret
    exact ⟨rfl, H.out.turn (F := F) rfl (Kept2.refl g none w) HB.out (fun e => by cases e) HX.out.1 HX.out.2⟩

/-- A device behind a write's power. -/
def burnB (D : DevT) : DevT := (D.1, (if 0 < D.2.1 then D.2.1 - 1 else D.2.1), false, D.2.2.2)

set_option maxHeartbeats 2000000 in
theorem dburn_yes (g b : Nat) (D : DevT) (w : World) (h : DevAt w g b D) (ho : D.2.2.1 = false) (hf : D.2.1 ≠ 0) :
    Calls Tryd.prog 54 #[.pointer (some ⟨g, 0, none⟩)] w fun e w' => e = .returned (.bool true) ∧ DevTo w g b (burnB D) w' := by
  obtain ⟨F, hb, _, _, _, _, hF, h1, h2⟩ := id h
  obtain rfl := hF ho
  rw [ho] at hb
  have H : Hid (DevAt w g b D) := h
  have HB : Hid (Blk w 43 g #[.pointer (some ⟨g, 0, none⟩), .slice (some ⟨b, 0, none⟩) D.1.length D.1.length, .bool false, .int .i64 D.2.1, .int .i64 D.2.2.2]) := hb
  have c2 : w.cell? ⟨g, 2, none⟩ = some (.bool false) := hb.cell 2
  have c3 : w.cell? ⟨g, 3, none⟩ = some (.int .i64 D.2.1) := hb.cell 3
  have f3 := hb.free 3
  have q3 : (D.2.1 == 0) = false := by rw [beq_eq_false_iff_ne]; exact hf
  clear hb h hF
  generalize hz : D.2.1 = z at *
  by_cases hm : z = -1
  · subst hm
    clear h1 h2 q3 hf
    go_enter Tryd.func54, Tryd.ntmps54
    go_wp2
    go_ret
    exact ⟨rfl, H.out.turn (F := -1) rfl (Kept2.refl g none w) HB.out (fun _ => by unfold burnB; simp only [hz]; rfl) (by decide) (by decide)⟩
  · have q4 : (z != -1) = true := by rw [bne_iff_ne]; exact hm
    have q5 : Hid (0 < z ∧ z ≤ 9223372036854775807) := ⟨by omega, h2⟩
    have wr : IntKind.i64.wrap (z - 1) = z - 1 := by rw [IntKind.wrap_i64]; omega
    clear h1 h2 hm hf
    go_enter Tryd.func54, Tryd.ntmps54
    go_wp2
    go_ret
    have := q5.out
    exact ⟨rfl, H.out.turn (F := z - 1) rfl ((Kept2.refl g none w).setCell ⟨g, 3, none⟩ rfl _) (HB.out.setAt 3 _) (fun _ => by unfold burnB; simp only [hz]; rw [if_pos this.1]) (by omega) (by omega)⟩


set_option maxHeartbeats 1000000 in
theorem dwrite_no (p : Value) (k : Int) (s : ByteArray) (w : World) (h : NoDev w p) :
    Calls Tryd.prog 34 #[p, .int .i64 k, .string s] w fun e w' => e = .returned (.int .i64 1) ∧ w' = w := by
  have HC : Hid (∀ w', w' = w → Calls Tryd.prog 53 #[p, .int .i64 k] w' fun e w'' => e = .returned (.bool false) ∧ w'' = w') := fun w' e => by subst e; exact dhas_no p k _ h
  clear h
  go_enter Tryd.func34, Tryd.ntmps34
  go_wp2_with fail
  refine (HC.out _ rfl).mono ?_
  rintro e w1 ⟨rfl, hw1⟩
  subst hw1
  go_wp2
  go_ret
  exact ⟨rfl, rfl⟩

set_option maxHeartbeats 1000000 in
theorem dwrite_arg (g b : Nat) (D : DevT) (k : Int) (s : ByteArray) (w : World) (h : DevAt w g b D) (hk : ¬ MayWr D k s) :
    Calls Tryd.prog 34 #[.pointer (some ⟨g, 0, none⟩), .int .i64 k, .string s] w fun e w' => e = .returned (.int .i64 1) ∧ w' = w := by
  by_cases h0 : MayB D k
  · have HC : Hid (∀ w', w' = w → Calls Tryd.prog 53 #[.pointer (some ⟨g, 0, none⟩), .int .i64 k] w' fun e w'' => e = .returned (.bool true) ∧ w'' = w') := fun w' e => by
      subst e
      exact dhas_any g b D k _ h true ⟨fun _ => h0, fun _ => rfl⟩
    have q2 : ((s.size : Int) != 64) = true := by rw [bne_iff_ne]; exact fun e => hk ⟨h0, by omega⟩
    clear h hk h0
    go_enter Tryd.func34, Tryd.ntmps34
    go_wp2_with fail
    refine (HC.out _ rfl).mono ?_
    rintro e w1 ⟨rfl, hw1⟩
    subst hw1
    go_wp2
    go_ret
    exact ⟨rfl, rfl⟩
  · have HC : Hid (∀ w', w' = w → Calls Tryd.prog 53 #[.pointer (some ⟨g, 0, none⟩), .int .i64 k] w' fun e w'' => e = .returned (.bool false) ∧ w'' = w') := fun w' e => by
      subst e
      exact dhas_any g b D k _ h false ⟨fun e => (by cases e), fun e => absurd e h0⟩
    clear h hk h0
    go_enter Tryd.func34, Tryd.ntmps34
    go_wp2_with fail
    refine (HC.out _ rfl).mono ?_
    rintro e w1 ⟨rfl, hw1⟩
    subst hw1
    go_wp2
    go_ret
    exact ⟨rfl, rfl⟩

set_option maxHeartbeats 1000000 in
theorem dwrite_off (g b : Nat) (D : DevT) (k : Nat) (s : ByteArray) (w : World) (h : DevAt w g b D) (hk : k < D.1.length) (hs : s.size = 64) (ho : D.2.2.1 = true ∨ D.2.1 = 0) :
    Calls Tryd.prog 34 #[.pointer (some ⟨g, 0, none⟩), .int .i64 (k : Int), .string s] w fun e w' => e = .returned (.int .i64 170) ∧ DevTo w g b (offB D) w' := by
  have HC : Hid (∀ w', w' = w → Calls Tryd.prog 53 #[.pointer (some ⟨g, 0, none⟩), .int .i64 (k : Int)] w' fun e w'' => e = .returned (.bool true) ∧ w'' = w') := fun w' e => by
    subst e
    exact dhas_any g b D k _ h true ⟨fun _ => ⟨by omega, by omega⟩, fun _ => rfl⟩
  have CB : Hid (∀ w', w' = w → Calls Tryd.prog 54 #[.pointer (some ⟨g, 0, none⟩)] w' fun e w'' => e = .returned (.bool false) ∧ DevTo w' g b (offB D) w'') := fun w' e => by subst e; exact dburn_no g b D _ h ho
  have q2 : ((s.size : Int) != 64) = false := by rw [bne_eq_false_iff_eq]; omega
  clear h hk ho hs
  go_enter Tryd.func34, Tryd.ntmps34
  go_wp2_with fail
  refine (HC.out _ rfl).mono ?_
  rintro e w1 ⟨rfl, hw1⟩
  subst hw1
  go_wp2_with fail
  refine (CB.out _ rfl).mono ?_
  rintro e w2 ⟨rfl, hd⟩
  go_wp2
  go_ret
  exact ⟨rfl, hd⟩

set_option maxHeartbeats 2000000 in
theorem dwrite_yes (g b : Nat) (D : DevT) (k : Nat) (s : ByteArray) (w : World) (h : DevAt w g b D) (hk : k < D.1.length) (hs : s.size = 64) (ho : D.2.2.1 = false) (hf : D.2.1 ≠ 0) (hN : 0 ≤ D.2.2.2 ∧ D.2.2.2 < 1152921504606846976) :
    Calls Tryd.prog 34 #[.pointer (some ⟨g, 0, none⟩), .int .i64 (k : Int), .string s] w fun e w' => e = .returned (.int .i64 0) ∧ DevTo w g b (writeB D k s).1 w' := by
  have HC : Hid (∀ w', w' = w → Calls Tryd.prog 53 #[.pointer (some ⟨g, 0, none⟩), .int .i64 (k : Int)] w' fun e w'' => e = .returned (.bool true) ∧ w'' = w') := fun w' e => by
    subst e
    exact dhas_any g b D k _ h true ⟨fun _ => ⟨by omega, by omega⟩, fun _ => rfl⟩
  have CB : Hid (∀ w', w' = w → Calls Tryd.prog 54 #[.pointer (some ⟨g, 0, none⟩)] w' fun e w'' => e = .returned (.bool true) ∧ DevTo w' g b (burnB D) w'') := fun w' e => by subst e; exact dburn_yes g b D _ h ho hf
  have q2 : ((s.size : Int) != 64) = false := by rw [bne_eq_false_iff_eq]; omega
  have HX : Hid (s.size = 64 ∧ k < D.1.length ∧ D.2.2.1 = false ∧ D.2.1 ≠ 0) := ⟨hs, hk, ho, hf⟩
  have q1 : (k : Int) < (D.1.length : Int) := by omega
  have q0 : (0 : Int) ≤ (k : Int) := by omega
  have wr : IntKind.i64.wrap (D.2.2.2 + 1) = D.2.2.2 + 1 := by rw [IntKind.wrap_i64]; omega
  clear h hk ho hs hf hN
  go_enter Tryd.func34, Tryd.ntmps34
  go_wp2_with fail
  refine (HC.out _ rfl).mono ?_
  rintro e w1 ⟨rfl, hw1⟩
  subst hw1
  go_wp2_with fail
  refine (CB.out _ rfl).mono ?_
  rintro e w2 ⟨rfl, hd⟩
  obtain ⟨hs, hk, ho, hf⟩ := HX.out
  obtain ⟨⟨F, hb, hr, hne, ha, hl, hF, h1, h2⟩, hk2⟩ := hd
  obtain ⟨cs, r1, r2, r3⟩ := hr
  have c1 : w2.cell? ⟨g, 1, none⟩ = some (.slice (some ⟨b, 0, none⟩) D.1.length D.1.length) := hb.cell 1
  have r2' : cs.size = 64 * D.1.length := r2
  have hcp := fun ty => run_copyK (P := Tryd.prog) 68 9 ty 5 b (k * 64) 64 64 s cs 86 Tryd.underlying68 Tryd.sizeU8 r1 (by omega) (by omega)
  have hrp : RowC (w2.setRow b (splice cs.toList (k * 64) (Lib.strCells s)).toArray) b (D.1.set k s) := RowC.put cs r1 r2 r3 k hk s hs
  have hb3 := hb.setRowOther b hne (splice cs.toList (k * 64) (Lib.strCells s)).toArray
  have hk3 : Kept2 g (some b) w1 (w2.setRow b (splice cs.toList (k * 64) (Lib.strCells s)).toArray) := hk2.setRowR _
  generalize w2.setRow b (splice cs.toList (k * 64) (Lib.strCells s)).toArray = w3 at *
  have c4 : w3.cell? ⟨g, 4, none⟩ = some (.int .i64 D.2.2.2) := hb3.cell 4
  have f4 := hb3.free 4
  have HZ : Hid (RowC w3 b (D.1.set k s) ∧ Kept2 g (some b) w1 w3 ∧ AllB D.1 ∧ D.1.length ≤ 4096 ∧ F = (burnB D).2.1 ∧ -1 ≤ F ∧ F ≤ 9223372036854775807) := ⟨hrp, hk3, ha, hl, hF rfl, h1, h2⟩
  have HB3 : Hid (Blk w3 43 g #[.pointer (some ⟨g, 0, none⟩), .slice (some ⟨b, 0, none⟩) D.1.length D.1.length, .bool false, .int .i64 F, .int .i64 D.2.2.2]) := hb3
  clear hrp hk3 ha hl hF h1 h2 hb3 hb r1 r2 r3 r2' hk2
  go_wp2
  go_ret
  obtain ⟨z1, z2, z3, z4, z5, z6, z7⟩ := HZ.out
  have e1 : writeB D k s = ((D.1.set k s, (burnB D).2.1, false, D.2.2.2 + 1), 0) := by
    unfold writeB burnB
    rw [if_neg (by rintro (e | e); · rw [ho] at e; cases e
                   · exact hf e)]
  rw [e1]
  refine ⟨rfl, ⟨F, ?_, z1.other ⟨g, 4, none⟩ (fun e => hne e.symm) _, hne, z3.set k s hs, by show (D.1.set k s).length ≤ 4096; rw [List.length_set]; exact z4, fun _ => z5, z6, z7⟩, z2.setCell ⟨g, 4, none⟩ rfl _⟩
  show Blk _ _ _ #[_, .slice _ (D.1.set k s).length (D.1.set k s).length, _, _, _]
  rw [List.length_set]
  exact HB3.out.setAt 4 _

end Go.Proofs.YtaakmcihpdbilaaDoor
