/- The code's In (layer 9): as it was made; what is wrong with it; what is taken of it. -/
import Derived.Test.YtmpjhflbmngajaaKept
import Derived.Test.YtmpjhflbmngajaaCdB
namespace Go.Proofs.Ytmpjhflbmngajaa
open Go.RowKit
set_option linter.unusedSimpArgs false

/-- An In at block g: the bytes that are left, and what was wrong first (then none are left). One that nobody made. -/
def InAt (w : World) (g : Nat) (i : ByteArray × Int) : Prop :=
  Blk w 57 g #[.pointer (some ⟨g, 0, none⟩), .string i.1, .int .i64 i.2] ∧ (i.2 ≠ 0 → i.1 = ⟨#[]⟩) ∧ i.1.size ≤ 1048576
def InBad (w : World) (g : Nat) : Prop := Blk w 57 g #[.pointer none, .string ⟨#[]⟩, .int .i64 0]
theorem InAt.on {w w' : World} {g : Nat} {i : ByteArray × Int} (h : InAt w g i) (hb : Below w.heap.size w w') : InAt w' g i := ⟨h.1.on hb, h.2⟩
theorem InBad.on {w w' : World} {g : Nat} (h : InBad w g) (hb : Below w.heap.size w w') : InBad w' g := Blk.on h hb
/-- The In at g is i' in w'; nothing else has turned. -/
def InTo (w : World) (g : Nat) (i' : ByteArray × Int) (w' : World) : Prop := InAt w' g i' ∧ Kept2 g none w w'
theorem InTo.same {w : World} {g : Nat} {i : ByteArray × Int} (h : InAt w g i) : InTo w g i w := ⟨h, Kept2.refl _ _ _⟩
theorem InTo.trans {w w1 w2 : World} {g : Nat} {i i' : ByteArray × Int} (h1 : InTo w g i w1) (h2 : InTo w1 g i' w2) : InTo w g i' w2 := ⟨h2.1, h1.2.trans h2.2 (Nx.refl _ _)⟩
theorem InTo.behind {w w1 w2 : World} {g : Nat} {i' : ByteArray × Int} (hb : Below w.heap.size w w1) (h2 : InTo w1 g i' w2) : InTo w g i' w2 := ⟨h2.1, Kept2.behind hb h2.2⟩
theorem InTo.on {w w1 w2 : World} {g : Nat} {i' : ByteArray × Int} (h : InTo w g i' w1) (hb : Below w1.heap.size w1 w2) : InTo w g i' w2 := ⟨h.1.on hb, h.2.on hb⟩
theorem Try.inInfo : (Try.prog.info? 57).map (·.size) = some 3 := by kernel_rfl

set_option maxHeartbeats 1000000 in
set_option maxRecDepth 100000 in
theorem newIn_any (s : ByteArray) (w : World) (hs : s.size ≤ 1048576) : Calls Try.prog 14 #[.string s] w fun e w' => e = .returned (.pointer (some ⟨w.heap.size, 0, none⟩)) ∧ InAt w' w.heap.size (s, 0) ∧ Below w.heap.size w w' := by
  go_enter Try.func14, Try.ntmps14
  go_wp2
  go_ret
  exact ⟨rfl, ⟨Blk.new w _ _, fun h => absurd rfl h, hs⟩, below_new w _⟩

set_option maxHeartbeats 1000000 in
set_option maxRecDepth 100000 in
theorem igiven_any (g : Nat) (i : ByteArray × Int) (w : World) (h : InAt w g i) :
    Calls Try.prog 35 #[.pointer (some ⟨g, 0, none⟩)] w fun e w' => e = .returned (.bool true) ∧ w' = w := by
  obtain ⟨j, hj, _⟩ := Option.map_eq_some_iff.1 Try.inInfo
  have c0 : w.cell? ⟨g, 0, none⟩ = some (.pointer (some ⟨g, 0, none⟩)) := h.1.cell 0
  have hq := run_eql_ptr_same (P := Try.prog) w ⟨g, 0, none⟩ Try.underlying36 hj
  clear h
  go_enter Try.func35, Try.ntmps35
  go_wp2
  go_ret
  exact ⟨rfl, rfl⟩
set_option maxHeartbeats 1000000 in
set_option maxRecDepth 100000 in
theorem igiven_bad (g : Nat) (w : World) (h : InBad w g) :
    Calls Try.prog 35 #[.pointer (some ⟨g, 0, none⟩)] w fun e w' => e = .returned (.bool false) ∧ w' = w := by
  have c0 : w.cell? ⟨g, 0, none⟩ = some (.pointer none) := Blk.cell h 0
  have hq := eql_nil_some (P := Try.prog) w ⟨g, 0, none⟩ Try.underlying36
  go_enter Try.func35, Try.ntmps35
  go_wp2
  go_ret
  exact ⟨rfl, rfl⟩
set_option maxHeartbeats 1000000 in
set_option maxRecDepth 100000 in
theorem igiven_nil (w : World) :
    Calls Try.prog 35 #[.pointer none] w fun e w' => e = .returned (.bool false) ∧ w' = w := by
  go_enter Try.func35, Try.ntmps35
  go_wp2
  go_ret
  exact ⟨rfl, rfl⟩

/-- An In that nobody made: nil, or an empty one. -/
def NoIn (w : World) (p : Value) : Prop := p = .pointer none ∨ ∃ g, p = .pointer (some ⟨g, 0, none⟩) ∧ InBad w g
theorem NoIn.on {w w' : World} {p : Value} (h : NoIn w p) (hb : Below w.heap.size w w') : NoIn w' p := h.imp id (fun ⟨g, e, h⟩ => ⟨g, e, h.on hb⟩)
theorem igiven_no (p : Value) (w : World) (h : NoIn w p) : Calls Try.prog 35 #[p] w fun e w' => e = .returned (.bool false) ∧ w' = w := by
  rcases h with rfl | ⟨g, rfl, h⟩
  · exact igiven_nil w
  · exact igiven_bad g w h

set_option maxHeartbeats 1000000 in
set_option maxRecDepth 100000 in
theorem iwell_any (g : Nat) (i : ByteArray × Int) (w : World) (h : InAt w g i) :
    Calls Try.prog 34 #[.pointer (some ⟨g, 0, none⟩)] w fun e w' => e = .returned (.bool (decide (i.2 = 0))) ∧ w' = w := by
  obtain ⟨S, c⟩ := i
  have HC : Hid (∀ w', w' = w → Calls Try.prog 35 #[.pointer (some ⟨g, 0, none⟩)] w' fun e w'' => e = .returned (.bool true) ∧ w'' = w') := fun w' e => by subst e; exact igiven_any g _ _ h
  have c2 : w.cell? ⟨g, 2, none⟩ = some (.int .i64 c) := h.1.cell 2
  clear h
  show Calls _ _ _ _ fun e w' => e = .returned (.bool (decide (c = 0))) ∧ w' = w
  go_enter Try.func34, Try.ntmps34
  go_wp2_with fail
  refine (HC.out _ rfl).mono ?_
  rintro e w1 ⟨rfl, rfl⟩
  go_wp2
  go_ret
  exact ⟨rfl, rfl⟩
set_option maxHeartbeats 1000000 in
set_option maxRecDepth 100000 in
theorem iwell_no (p : Value) (w : World) (h : NoIn w p) :
    Calls Try.prog 34 #[p] w fun e w' => e = .returned (.bool false) ∧ w' = w := by
  have HC : Hid (∀ w', w' = w → Calls Try.prog 35 #[p] w' fun e w'' => e = .returned (.bool false) ∧ w'' = w') := fun w' e => by subst e; exact igiven_no p _ h
  clear h
  go_enter Try.func34, Try.ntmps34
  go_wp2_with fail
  refine (HC.out _ rfl).mono ?_
  rintro e w1 ⟨rfl, rfl⟩
  go_wp2
  go_ret
  exact ⟨rfl, rfl⟩

set_option maxHeartbeats 1000000 in
set_option maxRecDepth 100000 in
theorem irest_any (g : Nat) (i : ByteArray × Int) (w : World) (h : InAt w g i) :
    Calls Try.prog 19 #[.pointer (some ⟨g, 0, none⟩)] w fun e w' => e = .returned (.int .i64 (i.1.size : Int)) ∧ w' = w := by
  obtain ⟨S, c⟩ := i
  have HC : Hid (∀ w', w' = w → Calls Try.prog 34 #[.pointer (some ⟨g, 0, none⟩)] w' fun e w'' => e = .returned (.bool (decide (c = 0))) ∧ w'' = w') := fun w' e => by subst e; exact iwell_any g _ _ h
  have c1 : w.cell? ⟨g, 1, none⟩ = some (.string S) := h.1.cell 1
  have hw : c ≠ 0 → S = ⟨#[]⟩ := h.2.1
  clear h
  show Calls _ _ _ _ fun e w' => e = .returned (.int .i64 (S.size : Int)) ∧ w' = w
  by_cases hc : c = 0
  · rw [decide_eq_true hc] at HC
    clear hw hc
    go_enter Try.func19, Try.ntmps19
    go_wp2_with fail
    refine (HC.out _ rfl).mono ?_
    rintro e w1 ⟨rfl, rfl⟩
    go_wp2
    go_ret
    exact ⟨rfl, rfl⟩
  · rw [decide_eq_false hc] at HC
    have := hw hc
    subst this
    clear hw hc
    go_enter Try.func19, Try.ntmps19
    go_wp2_with fail
    refine (HC.out _ rfl).mono ?_
    rintro e w1 ⟨rfl, rfl⟩
    go_wp2
    go_ret
    exact ⟨rfl, rfl⟩
set_option maxHeartbeats 1000000 in
set_option maxRecDepth 100000 in
theorem irest_no (p : Value) (w : World) (h : NoIn w p) :
    Calls Try.prog 19 #[p] w fun e w' => e = .returned (.int .i64 0) ∧ w' = w := by
  have HC : Hid (∀ w', w' = w → Calls Try.prog 34 #[p] w' fun e w'' => e = .returned (.bool false) ∧ w'' = w') := fun w' e => by subst e; exact iwell_no p _ h
  clear h
  go_enter Try.func19, Try.ntmps19
  go_wp2_with fail
  refine (HC.out _ rfl).mono ?_
  rintro e w1 ⟨rfl, rfl⟩
  go_wp2
  go_ret
  exact ⟨rfl, rfl⟩

set_option maxHeartbeats 1000000 in
set_option maxRecDepth 100000 in
theorem idone_no (p : Value) (w : World) (h : NoIn w p) :
    Calls Try.prog 20 #[p] w fun e w' => e = .returned (.int .i64 91) ∧ w' = w := by
  have HC : Hid (∀ w', w' = w → Calls Try.prog 35 #[p] w' fun e w'' => e = .returned (.bool false) ∧ w'' = w') := fun w' e => by subst e; exact igiven_no p _ h
  clear h
  go_enter Try.func20, Try.ntmps20
  go_wp2_with fail
  refine (HC.out _ rfl).mono ?_
  rintro e w1 ⟨rfl, rfl⟩
  go_wp2
  go_ret
  exact ⟨rfl, rfl⟩
set_option maxHeartbeats 1000000 in
set_option maxRecDepth 100000 in
theorem idone_any (g : Nat) (i : ByteArray × Int) (w : World) (h : InAt w g i) :
    Calls Try.prog 20 #[.pointer (some ⟨g, 0, none⟩)] w fun e w' => e = .returned (.int .i64 (inDoneP i)) ∧ w' = w := by
  obtain ⟨S, c⟩ := i
  have HC : Hid (∀ w', w' = w → Calls Try.prog 35 #[.pointer (some ⟨g, 0, none⟩)] w' fun e w'' => e = .returned (.bool true) ∧ w'' = w') := fun w' e => by subst e; exact igiven_any g _ _ h
  have c1 : w.cell? ⟨g, 1, none⟩ = some (.string S) := h.1.cell 1
  have c2 : w.cell? ⟨g, 2, none⟩ = some (.int .i64 c) := h.1.cell 2
  have hw : c ≠ 0 → S = ⟨#[]⟩ := h.2.1
  clear h
  by_cases hs : S.size = 0
  · have e : inDoneP (S, c) = c := by unfold inDoneP; rw [if_neg (fun h => h.2 hs)]
    rw [e]
    have he := empty_yes S hs
    clear hw e
    go_enter Try.func20, Try.ntmps20
    go_wp2_with fail
    refine (HC.out _ rfl).mono ?_
    rintro e w1 ⟨rfl, rfl⟩
    go_wp2
    go_ret
    exact ⟨rfl, rfl⟩
  · have hc : c = 0 := by
      by_cases hc : c = 0
      · exact hc
      · exact absurd (by rw [hw hc]; rfl) hs
    have e : inDoneP (S, c) = 91 := by unfold inDoneP; rw [if_pos ⟨hc, hs⟩]
    rw [e]
    have he := empty_no S hs
    clear hw e hc
    go_enter Try.func20, Try.ntmps20
    go_wp2_with fail
    refine (HC.out _ rfl).mono ?_
    rintro e w1 ⟨rfl, rfl⟩
    go_wp2
    go_ret
    exact ⟨rfl, rfl⟩

set_option maxHeartbeats 1000000 in
set_option maxRecDepth 100000 in
theorem ifail_any (g : Nat) (i : ByteArray × Int) (x : Int) (w : World) (h : InAt w g i) :
    Calls Try.prog 33 #[.pointer (some ⟨g, 0, none⟩), .int .i64 x] w fun e w' => e = .returned (.tuple #[]) ∧ InTo w g (wrongP i x) w' := by
  obtain ⟨S, c⟩ := i
  have HC : Hid (∀ w', w' = w → Calls Try.prog 34 #[.pointer (some ⟨g, 0, none⟩)] w' fun e w'' => e = .returned (.bool (decide (c = 0))) ∧ w'' = w') := fun w' e => by subst e; exact iwell_any g _ _ h
  have hI : Hid (InAt w g (S, c)) := h
  have c1 : w.cell? ⟨g, 1, none⟩ = some (.string S) := h.1.cell 1
  have c2 : w.cell? ⟨g, 2, none⟩ = some (.int .i64 c) := h.1.cell 2
  have f1 := h.1.free 1
  have f2 := h.1.free 2
  clear h
  by_cases hc : c = 0
  · rw [decide_eq_true hc] at HC
    have e : wrongP (S, c) x = (⟨#[]⟩, x) := by unfold wrongP; rw [if_pos hc]
    rw [e]
    clear hc e
    go_enter Try.func33, Try.ntmps33
    go_wp2_with fail
    refine (HC.out _ rfl).mono ?_
    rintro e w1 ⟨rfl, rfl⟩
    go_wp2
    go_end0
    exact ⟨rfl, ⟨(hI.out.1.setAt 2 _).setAt 1 _, fun _ => rfl, Nat.zero_le _⟩, ((Kept2.refl g none _).setCell ⟨g, 2, none⟩ rfl _).setCell ⟨g, 1, none⟩ rfl _⟩
  · rw [decide_eq_false hc] at HC
    have hw : S = ⟨#[]⟩ := hI.out.2.1 hc
    have e : wrongP (S, c) x = (S, c) := by unfold wrongP; rw [if_neg hc, hw]
    rw [e]
    clear hc e hw
    go_enter Try.func33, Try.ntmps33
    go_wp2_with fail
    refine (HC.out _ rfl).mono ?_
    rintro e w1 ⟨rfl, rfl⟩
    go_wp2
    go_end0
    exact ⟨rfl, InTo.same hI.out⟩
set_option maxHeartbeats 1000000 in
set_option maxRecDepth 100000 in
theorem ifail_no (p : Value) (x : Int) (w : World) (h : NoIn w p) :
    Calls Try.prog 33 #[p, .int .i64 x] w fun e w' => e = .returned (.tuple #[]) ∧ w' = w := by
  have HC : Hid (∀ w', w' = w → Calls Try.prog 34 #[p] w' fun e w'' => e = .returned (.bool false) ∧ w'' = w') := fun w' e => by subst e; exact iwell_no p _ h
  clear h
  go_enter Try.func33, Try.ntmps33
  go_wp2_with fail
  refine (HC.out _ rfl).mono ?_
  rintro e w1 ⟨rfl, rfl⟩
  go_wp2
  go_end0
  exact ⟨rfl, rfl⟩
end Go.Proofs.Ytmpjhflbmngajaa
