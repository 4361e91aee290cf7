/- Layer 18, the code's: each, span. -/
import Derived.Test.YtaakmcihpdbilaaDoorSmB
import Derived.Test.YtaakmcihpdbilaaDoorBld
namespace Go.Proofs.YtaakmcihpdbilaaDoor
open Go.RowKit
set_option maxRecDepth 100000
set_option linter.unusedSimpArgs false
set_option linter.unusedVariables false
set_option maxRecDepth 100000

/-- So many blocks, from one on, one behind the other. -/
def catB (L : List ByteArray) (p : Nat) : Nat → ByteArray
  | 0 => ⟨#[]⟩
  | k + 1 => catB L p k ++ strL L (p + k)
theorem catB_all (L : List ByteArray) (p : Nat) : ∀ k, catB L (p + 1) k = allB L p k
  | 0 => rfl
  | k + 1 => by
    show catB L (p + 1) k ++ strL L (p + 1 + k) = allB L p k ++ strL L (p + (k + 1))
    rw [catB_all L p k, show p + 1 + k = p + (k + 1) by omega]
theorem catB_size (L : List ByteArray) (p : Nat) (h : AllB L) : ∀ k, p + k ≤ L.length → (catB L p k).size = 64 * k
  | 0, _ => rfl
  | k + 1, hk => by
    show (catB L p k ++ strL L (p + k)).size = _
    rw [ByteArray.size_append, catB_size L p h k (by omega), h _ (by omega)]; omega

set_option maxHeartbeats 1000000 in
/-- The closure that a block is told to. -/
theorem tell18_any (B b : Nat) (a s : ByteArray) (w : World) (h : Bld B b a w) (hlen : a.size + s.size ≤ 140737488355328) (hBw : B ≤ w.heap.size) :
    Calls Tryd.prog 43 #[.string s, .pointer (some ⟨b, 0, none⟩)] w fun e w' => e = .returned (.tuple #[]) ∧ Bld B b (a ++ s) w' ∧ Below B w w' := by
  go_enter Tryd.func43, Tryd.ntmps43
  go_wp2_with fail
  refine (bwrite_any B b a s _ h hlen hBw).mono ?_
  rintro e w1 ⟨rfl, h1, hb1⟩
  go_wp2
  go_end0
  exact ⟨rfl, h1, hb1⟩

set_option maxHeartbeats 2000000 in
theorem each18_any (B : Nat) (g b c : Nat) (D : DevT) (p m : Nat) (w : World) (h : DevAt w g b D) (ho : D.2.2.1 = false) (hp : p + m ≤ D.1.length) (hl : D.1.length ≤ 4096) (hg : g < B) (hb : b < B) (hB : B ≤ w.heap.size) (hc : Bld B c ⟨#[]⟩ w) :
    Calls Tryd.prog 41 #[.int .i64 (p : Int), .int .i64 (m : Int), .func (.func 42) #[.pointer (some ⟨g, 0, none⟩)] #[], .func (.func 43) #[] #[.pointer (some ⟨c, 0, none⟩)]] w fun e w' => e = .returned (.tuple #[]) ∧ Bld B c (catB D.1 p m) w' ∧ Below B w w' := by
  have HD : Hid (∀ W, Below B w W → DevAt W g b D) := fun W hW => by
    obtain ⟨F, h1, ⟨cs, h2, h3⟩, h4⟩ := h
    exact ⟨F, h1.below hW hg, ⟨cs, h2.below hW hb, h3⟩, h4⟩
  have HA : Hid (AllB D.1) := by obtain ⟨F, _, _, _, h4, _⟩ := h; exact h4
  have HC0 : Hid (Bld B c (catB D.1 p 0) w) := hc
  have HR : Hid (∀ k, readB D k = (strL D.1 k, 0)) := fun k => by unfold readB; rw [ho]; rfl
  clear h hc
  go_enter Tryd.func41, Tryd.ntmps41
  go_wp2_with fail
  go_loopw [12] (fun i wr => ∃ k : Nat, k ≤ m ∧ i = .int .i64 k ∧ Hid (Bld B c (catB D.1 p k) wr) ∧ Hid (Below B w wr)) (fun i _ => m - (intOf i).toNat)
  case atStart => exact ⟨0, Nat.zero_le _, rfl, HC0, Below.refl _ _⟩
  case round =>
    clear HC0
    obtain ⟨k, hk, rfl, HC, HB⟩ := hrel
    by_cases hlt : k < m
    · have d0 : (k : Int) < (m : Int) := by omega
      have d2 : p + k < 4096 := by omega
      have CR : Hid (∀ W, W = wr → Calls Tryd.prog 42 #[.pointer (some ⟨g, 0, none⟩), .int .i64 ((p : Int) + (k : Int))] W fun e w' => e = .returned (.tuple #[.string (strL D.1 (p + k)), .int .i64 0]) ∧ w' = W) := fun W e => by
        subst e
        rw [show (p : Int) + (k : Int) = ((p + k : Nat) : Int) by omega]
        have h := dread_any g b D (p + k) _ (HD.out _ HB.out) (by omega)
        rw [HR.out] at h
        exact h
      have hs : (catB D.1 p k).size = 64 * k := catB_size D.1 p HA.out k (by omega)
      have hs2 : (strL D.1 (p + k)).size = 64 := HA.out _ (by omega)
      have hBB := HB.out.size
      have CT : Hid (∀ W, W = wr → Calls Tryd.prog 43 #[.string (strL D.1 (p + k)), .pointer (some ⟨c, 0, none⟩)] W fun e w' => e = .returned (.tuple #[]) ∧ Bld B c (catB D.1 p (k + 1)) w' ∧ Below B W w') := fun W e => by
        subst e
        exact tell18_any B c (catB D.1 p k) (strL D.1 (p + k)) _ HC.out (by omega) (by omega)
      clear hs hs2 HC
      go_wp2_with fail
      refine (CR.out _ rfl).mono ?_
      rintro e W1 ⟨rfl, hW1⟩
      subst hW1
      go_wp2_with fail
      refine (CT.out _ rfl).mono ?_
      rintro e W2 ⟨rfl, hc2, hb2⟩
      have HB2 : Hid (Below B w W2) := HB.out.trans hb2
      have HC2 : Hid (Bld B c (catB D.1 p (k + 1)) W2) := hc2
      clear HB hb2 hc2 CR CT
      go_wp2_with fail
      refine ⟨⟨k + 1, by omega, by rfl, HC2, HB2⟩, ?_⟩
      show m - (k + 1) < m - k
      omega
    · have d0 : ¬ ((k : Int) < (m : Int)) := by omega
      obtain rfl : k = m := by omega
      go_wp2_with fail
      go_end0
      exact ⟨rfl, HC.out, HB.out⟩

set_option maxHeartbeats 2000000 in
theorem span18_any (g b : Nat) (D : DevT) (p m : Nat) (w : World) (h : DevAt w g b D) (ho : D.2.2.1 = false) (hp : p + (m + 63) / 64 ≤ D.1.length) (hl : D.1.length ≤ 4096) :
    Calls Tryd.prog 27 #[.pointer (some ⟨g, 0, none⟩), .int .i64 (p : Int), .int .i64 (m : Int)] w fun e w' => e = .returned (.string ((catB D.1 p ((m + 63) / 64)).extract 0 m)) ∧ Below w.heap.size w w' := by
  have hmf : ∀ (fn : Fn) (first cap : Array Value) (w : World), (Instr.makeFunc fn first cap).run Tryd.prog w = .ok (.func fn first cap) w := fun _ _ _ _ => rfl
  obtain ⟨q, hq⟩ : ∃ q, (m + 63) / 64 = q := ⟨_, rfl⟩
  rw [hq] at hp ⊢
  have hm : m ≤ 64 * q := by omega
  have CB : Hid (∀ W, Calls Tryd.prog 35 #[.int .i64 (m : Int)] W fun e w' => e = .returned (.int .i64 (q : Int)) ∧ w' = W) := fun W => by rw [← hq]; exact blocks18_any m W (by omega)
  have hz : (catB D.1 p q).size = 64 * q := catB_size D.1 p (by obtain ⟨F, _, _, _, h4, _⟩ := h; exact h4) q hp
  have hlt := h.lt
  have HC : Hid (Bld w.heap.size w.heap.size ⟨#[]⟩ (w.alloc (.cells #[.pointer none, .slice none 0 0] 70))) := bld_new w
  have HB1 : Hid (Below w.heap.size w (w.alloc (.cells #[.pointer none, .slice none 0 0] 70))) := below_new w _
  have HD : Hid (DevAt (w.alloc (.cells #[.pointer none, .slice none 0 0] 70)) g b D) := h.on (below_new w _)
  obtain ⟨A, HA⟩ : ∃ A, Hid (A = catB D.1 p q) := ⟨_, rfl⟩
  rw [← HA.out] at hz ⊢
  clear h hq
  go_enter Tryd.func27, Tryd.ntmps27
  go_wp2_with fail
  refine (CB.out _).mono ?_
  rintro e w1 ⟨rfl, hw1⟩
  subst hw1
  go_wp2_with fail
  refine (each18_any w.heap.size g b w.heap.size D p q _ HD.out ho hp hl hlt.1 hlt.2 HB1.out.size HC.out).mono ?_
  rintro e w2 ⟨rfl, hc2, hb2⟩
  rw [← HA.out] at hc2
  have HB2 : Hid (Below w.heap.size w w2) := HB1.out.trans hb2
  have HC2 : Hid (Bld w.heap.size w.heap.size A w2) := hc2
  clear HC HB1 HD hb2 hc2 CB
  go_wp2_with fail
  refine (bstring_any w.heap.size w.heap.size A w2 HC2.out HB2.out.size).mono ?_
  rintro e w3 ⟨rfl, hb3⟩
  have hB := HB2.out.trans hb3
  clear HB2 HC2 hb3
  have hmz : m ≤ A.size := by omega
  go_wp2
  go_ret
  exact ⟨rfl, hB⟩

end Go.Proofs.YtaakmcihpdbilaaDoor
