/- Layer 18: what the laws want of the code's store, whatever it is made of. -/
import Derived.Test.YtaakmcihpdbilaaDoorStD
import Derived.Test.YtaakmcihpdbilaaDoorBkD
import Derived.Test.YtaakmcihpdbilaaDoorStS
namespace Go.Proofs.YtaakmcihpdbilaaDoor
open Go.RowKit
set_option maxRecDepth 100000
set_option linter.unusedSimpArgs false
set_option maxRecDepth 100000

/-- Of what was there only blocks of T may have turned. -/
structure KeptS (T : Nat → Prop) (w w' : World) : Prop where
  os : w'.os = w.os
  tape : w'.tape = w.tape
  output : w'.output = w.output
  size : w.heap.size ≤ w'.heap.size
  block : ∀ k, k < w.heap.size → ¬ T k → w'.heap[k]? = w.heap[k]?
theorem KeptS.ofBelow {w w' : World} (h : Below w.heap.size w w') : KeptS (fun _ => False) w w' := ⟨h.os, h.tape, h.output, h.size, fun k hk _ => h.block k hk⟩
theorem KeptS.ofDev {w w' : World} {g b : Nat} {D : DevT} (h : DevTo w g b D w') : KeptS (fun k => k = g ∨ k = b) w w' := ⟨h.2.os, h.2.tape, h.2.output, h.2.size, fun k hk hn => h.2.block k hk (fun e => hn (.inl e)) (fun e => hn (.inr (by cases e; rfl)))⟩
theorem KeptS.below {T : Nat → Prop} {w w' : World} (h : KeptS T w w') (B : Nat) (hB : B ≤ w.heap.size) (hT : ∀ k, T k → B ≤ k) : Below B w w' := ⟨h.os, h.tape, h.output, h.size, fun k hk => h.block k (by omega) (fun e => by have := hT k e; omega)⟩

/-- The code's store, in worlds that came out of w0: at gs, on the device at g; S: the blocks that are its own. -/
structure Sto18 (StAt : World → (Nat → Prop) → Nat → Nat → StoT → Prop) (w0 : World) : Prop where
  keep : ∀ w w' S gs g X T, StAt w S gs g X → KeptS T w w' → (∀ k, S k → ¬ T k) → StAt w' S gs g X
  lt : ∀ w S gs g X, StAt w S gs g X → ∀ k, S k → k < w.heap.size
  opens : ∀ w g b D, Below w0.heap.size w0 w → DevAt w g b D → 2 ≤ D.1.length → D.1.length ≤ 2048 → D.2.2.1 = false →
    Calls Tryd.prog 7 #[.pointer (some ⟨g, 0, none⟩)] w fun e w' => ∃ gs S, e = .returned (.tuple #[.pointer (some ⟨gs, 0, none⟩), .int .i64 0]) ∧ StAt w' S gs g (openP D.1) ∧ (∀ k, S k → w.heap.size ≤ k) ∧ Below w.heap.size w w'
  base : ∀ w S gs g X, StAt w S gs g X → Calls Tryd.prog 13 #[.pointer (some ⟨gs, 0, none⟩)] w fun e w' => e = .returned (.string X.1) ∧ Below w.heap.size w w'
  behind : ∀ w S gs g X, StAt w S gs g X → Calls Tryd.prog 15 #[.pointer (some ⟨gs, 0, none⟩)] w fun e w' => ∃ a c, e = .returned (.slice a X.2.1.length c) ∧ StrsAt w' a X.2.1.length X.2.1 ∧ (∀ x, a = some x → X.2.1.length = 0 ∨ w.heap.size ≤ x.block) ∧ Below w.heap.size w w'
  turn : ∀ w S gs g X, StAt w S gs g X → Calls Tryd.prog 16 #[.pointer (some ⟨gs, 0, none⟩)] w fun e w' => e = .returned (.int .i64 X.2.2.1) ∧ Below w.heap.size w w'
  add : ∀ w S gs g b D X t n c0, Below w0.heap.size w0 w → StAt w S gs g X → DevAt w g b D → DvO n c0 D → StM n X → 2 ≤ n → n ≤ 2048 → c0 < 576460752303423488 → ¬ S g → ¬ S b →
    Calls Tryd.prog 11 #[.pointer (some ⟨gs, 0, none⟩), .string t] w fun e w' => e = .returned (.int .i64 (addP D X t).2.2) ∧ DevAt w' g b (addP D X t).1 ∧ KeptS (fun k => S k ∨ k = g ∨ k = b) w w' ∧ ((addP D X t).2.2 ≠ 170 → ∃ S', StAt w' S' gs g (addP D X t).2.1 ∧ ∀ k, S' k → S k ∨ w.heap.size ≤ k)
  lay : ∀ w S gs g b D X t n c0, Below w0.heap.size w0 w → StAt w S gs g X → DevAt w g b D → DvO n c0 D → StM n X → 2 ≤ n → n ≤ 2048 → c0 < 576460752303423488 → ¬ S g → ¬ S b →
    Calls Tryd.prog 8 #[.pointer (some ⟨gs, 0, none⟩), .string t] w fun e w' => e = .returned (.int .i64 (layS D X t).2.2) ∧ DevAt w' g b (layS D X t).1 ∧ KeptS (fun k => S k ∨ k = g ∨ k = b) w w' ∧ ((layS D X t).2.2 ≠ 170 → ∃ S', StAt w' S' gs g (layS D X t).2.1 ∧ ∀ k, S' k → S k ∨ w.heap.size ≤ k)

/-- A store and its device, both of the call's own. -/
structure LwS (StAt : World → (Nat → Prop) → Nat → Nat → StoT → Prop) (w wr : World) (S : Nat → Prop) (gs g b : Nat) (D : DevT) (X : StoT) : Prop where
  d : DevB w wr g b D
  s : StAt wr S gs g X
  ng : ¬ S g
  nb : ¬ S b
  lo : ∀ k, S k → w.heap.size ≤ k
variable {StAt : World → (Nat → Prop) → Nat → Nat → StoT → Prop}
theorem Sto18.move {w wr : World} (C : Sto18 StAt w) (h : Below w.heap.size w wr) : Sto18 StAt wr :=
  ⟨C.keep, C.lt, fun w' g b D hb => C.opens w' g b D (below_step h (Nat.le_refl _) hb), C.base, C.behind, C.turn, fun w' S gs g b D X t n c0 hb => C.add w' S gs g b D X t n c0 (below_step h (Nat.le_refl _) hb), fun w' S gs g b D X t n c0 hb => C.lay w' S gs g b D X t n c0 (below_step h (Nat.le_refl _) hb)⟩
theorem LwS.on {w0 : World} (C : Sto18 StAt w0) {w wr w' : World} {S : Nat → Prop} {gs g b : Nat} {D : DevT} {X : StoT} (h : LwS StAt w wr S gs g b D X) (hb : Below wr.heap.size wr w') : LwS StAt w w' S gs g b D X :=
  ⟨h.d.on hb, C.keep _ _ _ _ _ _ _ h.s (KeptS.ofBelow hb) (fun _ _ e => e), h.ng, h.nb, h.lo⟩
theorem LwS.dev {w0 : World} (C : Sto18 StAt w0) {w wr w' : World} {S : Nat → Prop} {gs g b : Nat} {D D' : DevT} {X : StoT} (h : LwS StAt w wr S gs g b D X) (hd : DevTo wr g b D' w') : LwS StAt w w' S gs g b D' X :=
  ⟨h.d.to hd, C.keep _ _ _ _ _ _ _ h.s (KeptS.ofDev hd) (fun k hk e => by rcases e with rfl | rfl; · exact h.ng hk
                                                                          · exact h.nb hk), h.ng, h.nb, h.lo⟩
/-- Behind a call that keeps all but the store's and the device's blocks. -/
theorem LwS.call {w wr w' : World} {S : Nat → Prop} {gs g b : Nat} {D D' : DevT} {X : StoT} (h : LwS StAt w wr S gs g b D X) (hd : DevAt w' g b D') (hk : KeptS (fun k => S k ∨ k = g ∨ k = b) wr w') : DevB w w' g b D' :=
  ⟨hd, h.d.2.1, h.d.2.2.1, h.d.2.2.2.trans (hk.below _ h.d.2.2.2.size (fun k hk => by
    rcases hk with hk | rfl | rfl
    · exact h.lo k hk
    · exact h.d.2.1
    · exact h.d.2.2.1))⟩
theorem LwS.next {w wr w' : World} {S S' : Nat → Prop} {gs g b : Nat} {D D' : DevT} {X X' : StoT} (h : LwS StAt w wr S gs g b D X) (hd : DevAt w' g b D') (hk : KeptS (fun k => S k ∨ k = g ∨ k = b) wr w') (hs : StAt w' S' gs g X') (hn : ∀ k, S' k → S k ∨ wr.heap.size ≤ k) : LwS StAt w w' S' gs g b D' X' := by
  obtain ⟨l1, l2⟩ := h.d.1.lt
  have hz := h.d.2.2.2.size
  exact ⟨h.call hd hk, hs, fun e => by rcases hn _ e with e | e; · exact h.ng e
                                       · omega, fun e => by rcases hn _ e with e | e; · exact h.nb e
                                                            · omega, fun k e => by rcases hn _ e with e | e; · exact h.lo k e
                                                                                   · omega⟩
/-- Opened anew. -/
theorem LwS.anew {w wr w' : World} {S : Nat → Prop} {gs g b : Nat} {D : DevT} {X : StoT} (h : DevB w wr g b D) (hs : StAt w' S gs g X) (hn : ∀ k, S k → wr.heap.size ≤ k) (hb : Below wr.heap.size wr w') : LwS StAt w w' S gs g b D X := by
  obtain ⟨l1, l2⟩ := h.1.lt
  have hz := h.2.2.2.size
  exact ⟨h.on hb, hs, fun e => by have := hn _ e; omega, fun e => by have := hn _ e; omega, fun k e => by have := hn _ e; omega⟩

theorem newB_noughts (n i : Nat) (h : i < (newB n).1.length) : strL (newB n).1 i = zeroB 64 := by
  unfold newB at h ⊢
  simp only [List.length_replicate] at h
  unfold strL
  rw [List.getD_eq_getElem?_getD, List.getElem?_replicate, if_pos h]; rfl
theorem newB_len (n : Nat) : (newB n).1.length = n := by unfold newB; simp
theorem newB_dv (n : Nat) : DvO n 0 (newB n) := ⟨newB_len n, Int.le_refl _, Int.le_refl _, by show (-1 : Int) ≤ -1; omega, by show (-1 : Int) ≤ _; omega⟩
theorem newB_on (n : Nat) : OnD (newB n) := ⟨rfl, rfl⟩

end Go.Proofs.YtaakmcihpdbilaaDoor
