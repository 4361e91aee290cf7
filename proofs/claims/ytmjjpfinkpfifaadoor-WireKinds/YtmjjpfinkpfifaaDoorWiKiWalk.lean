/- The walk of WireKinds. -/
import Derived.Test.YtmjjpfinkpfifaaDoorWiI
import Derived.Test.YtmjjpfinkpfifaaDoorWiKi
namespace Go.Proofs.YtmjjpfinkpfifaaDoor
open Go.RowKit
set_option maxRecDepth 100000
set_option linter.unusedSimpArgs false
set_option linter.unusedVariables false
set_option maxRecDepth 100000

theorem mask255k (z : Int) : ∃ q : Nat, bits .and .i64 z 255 = (q : Int) ∧ q < 256 := ⟨(z % 256).toNat, by rw [i64_mask z 8 (by decide) 255 (by decide)]; omega, by omega⟩
theorem mask65535k (z : Int) : ∃ q : Nat, bits .and .i64 z 65535 = (q : Int) ∧ q < 65536 := ⟨(z % 65536).toNat, by rw [i64_mask z 16 (by decide) 65535 (by decide)]; omega, by omega⟩

/-- The rounds of the first loop: 'has'. -/
def Ki1 (w wr : World) (X F NA : Array Value) (hx h hb hq k j : Nat) : Prop := Below w.heap.size w wr ∧ Blk wr 47 hx X ∧ Blk wr 41 h F ∧ Blk wr 50 hb (hasL ((nmI k).take j)) ∧ Blk wr 3 hq NA

theorem ki1_step {w wr : World} {X F NA : Array Value} {hx h hb hq k j i : Nat} (t : Ki1 w wr X F NA hx h hb hq k j) (hk : k < 9) (hj : j < (nmI k).length) (hi : (nmI k).getD j 0 = i) (o1 : hx < hb) (o2 : h < hb) (o3 : hq < hb) (o4 : w.heap.size ≤ hb) : Ki1 w (wr.setCell ⟨hb, i, none⟩ (.bool true)) X F NA hx h hb hq k (j + 1) := by
  obtain ⟨t1, t2, t3, t4, t5⟩ := t
  refine ⟨t1.setCell (p := ⟨hb, i, none⟩) o4 _, t2.other ⟨hb, i, none⟩ (by show hx ≠ hb; omega) _, t3.other ⟨hb, i, none⟩ (by show h ≠ hb; omega) _, ?_, t5.other ⟨hb, i, none⟩ (by show hq ≠ hb; omega) _⟩
  rw [nmI_snoc k hk j hj, hi, hasL_snoc]
  exact t4.setAt i _

/-- The frame's items. -/
def ItK (W : World) (h : Nat) (v : Value) (it : List (Int × Int × ByteArray)) : Prop := (it = [] ∧ v = .slice none 0 0) ∨ ∃ B, h < B ∧ it = [(1, 2, ⟨#[98]⟩)] ∧ v = .slice (some ⟨B, 0, none⟩) 1 1 ∧ Blk W 52 B #[.int .i64 1, .int .i64 2, .string ⟨#[98]⟩]

theorem ItK.other {W : World} {h : Nat} {v : Value} {it : List (Int × Int × ByteArray)} (t : ItK W h v it) (i : Nat) (u : Value) : ItK (W.setCell ⟨h, i, none⟩ u) h v it := by
  rcases t with t | ⟨B, t1, t2, t3, t4⟩
  · exact .inl t
  · exact .inr ⟨B, t1, t2, t3, t4.other ⟨h, i, none⟩ (by show B ≠ h; omega) _⟩

theorem ItK.at {W : World} {h : Nat} {v : Value} {it : List (Int × Int × ByteArray)} (t : ItK W h v it) : ∃ a c, v = .slice a it.length c ∧ it.length ≤ c ∧ ItsAt W a it.length it := by
  rcases t with ⟨rfl, rfl⟩ | ⟨B, t1, rfl, rfl, t4⟩
  · exact ⟨none, 0, rfl, Nat.le_refl _, rfl, .inl rfl⟩
  · refine ⟨_, 1, rfl, Nat.le_refl _, rfl, .inr ⟨B, 0, rfl, fun i hi => ?_⟩⟩
    obtain rfl : i = 0 := by have : i < 1 := hi; omega
    exact ⟨t4.cell 0, t4.cell 1, t4.cell 2⟩

/-- The rounds of the second loop: the frame. -/
def Ki2 (w : World) (X : Array Value) (hx h hb k : Nat) (g s e M : Int) (m c : Nat) (wr : World) : Prop := Below w.heap.size w wr ∧ Blk wr 47 hx X ∧ Blk wr 50 hb #[.bool false, .bool (nmK k 1), .bool (nmK k 2), .bool (nmK k 3), .bool (nmK k 4), .bool (nmK k 5), .bool (nmK k 6)] ∧ ∃ v, Blk wr 41 h (arrK k g s e M m c v) ∧ ItK wr h v (itK k m c)

theorem ki2_set {w wr : World} {X : Array Value} {hx h hb k : Nat} {g s e M : Int} {m c : Nat} (t : Ki2 w X hx h hb k g s e M m c wr) (i : Nat) (u : Value) (ha : ∀ v, (arrK k g s e M m c v).setIfInBounds i u = arrK k g s e M m (c + 1) v) (hc : c ≠ 5) (o1 : hx < h) (o2 : h < hb) (o3 : w.heap.size ≤ h) : Ki2 w X hx h hb k g s e M m (c + 1) (wr.setCell ⟨h, i, none⟩ u) := by
  obtain ⟨t1, t2, t3, v, t4, t5⟩ := t
  refine ⟨t1.setCell (p := ⟨h, i, none⟩) o3 _, t2.other ⟨h, i, none⟩ (by show hx ≠ h; omega) _, t3.other ⟨h, i, none⟩ (by show hb ≠ h; omega) _, v, ?_, ?_⟩
  · rw [← ha v]; exact t4.setAt i u
  · rw [← itK_other k m c hc]; exact t5.other i u

theorem ki2_skip {w wr : World} {X : Array Value} {hx h hb k : Nat} {g s e M : Int} {m c : Nat} (t : Ki2 w X hx h hb k g s e M m c wr) (ha : ∀ v, arrK k g s e M m c v = arrK k g s e M m (c + 1) v) (hi : itK k m c = itK k m (c + 1)) : Ki2 w X hx h hb k g s e M m (c + 1) wr := by
  obtain ⟨t1, t2, t3, v, t4, t5⟩ := t
  exact ⟨t1, t2, t3, v, by rw [← ha v]; exact t4, by rw [← hi]; exact t5⟩

theorem ki2_items {w wr : World} {X : Array Value} {hx h hb k : Nat} {g s e M : Int} {m : Nat} (t : Ki2 w X hx h hb k g s e M m 5 wr) (hi : nmK k 5 = true ∨ m = 5) (o1 : hx < h) (o2 : h < hb) (o3 : w.heap.size ≤ h) : Ki2 w X hx h hb k g s e M m 6 ((wr.alloc (.cells #[.int .i64 1, .int .i64 2, .string ⟨#[98]⟩] 52)).setCell ⟨h, 6, none⟩ (.slice (some ⟨wr.heap.size, 0, none⟩) 1 1)) := by
  obtain ⟨t1, t2, t3, v, t4, t5⟩ := t
  have hn := below_new wr (.cells #[.int .i64 1, .int .i64 2, .string ⟨#[98]⟩] 52)
  have hlt := t4.lt
  refine ⟨(below_step t1 (Nat.le_refl _) hn).setCell (p := ⟨h, 6, none⟩) o3 _, (t2.on hn).other ⟨h, 6, none⟩ (by show hx ≠ h; omega) _, (t3.on hn).other ⟨h, 6, none⟩ (by show hb ≠ h; omega) _, _, ?_, .inr ⟨wr.heap.size, hlt, itK_set k m hi, rfl, (Blk.new _ _ _).other ⟨h, 6, none⟩ (by show wr.heap.size ≠ h; omega) _⟩⟩
  rw [← arrK_set5 k g s e M m v]
  exact (t4.on hn).setAt 6 _

theorem kinP_any (K g Sv Ev Mv er : Int) (bl : ByteArray) (it : List (Int × Int × ByteArray)) (n : Nat) (hn : it.length = n) (hl : n ≤ 40) (hz : ∀ i, (itL it i).2.2.size ≤ 9223372036854775807) (hb : bl.size ≤ 4) (S : ByteArray) (E : Int) (hp : putFC (K, g, Sv, Ev, Mv, bl, it, er) = (S, E)) : ∀ (a : Option Addr) (c : Nat) (W : World), ItsAt W a n it → Calls Tryd.prog 19 #[.agg #[.int .i64 K, .int .i64 g, .int .i64 Sv, .int .i64 Ev, .int .i64 Mv, .string bl, .slice a n c, .int .i64 er]] W fun e w' => e = .returned (.tuple #[.string S, .int .i64 E]) ∧ Below W.heap.size W w' := fun a c W hI => by
  subst hn
  have h := putF_any (K, g, Sv, Ev, Mv, bl, it, er) a c W (by show it.length ≤ _; omega) hI hz (by show bl.size ≤ _; omega)
  rw [hp] at h
  exact h

theorem kinT_any (K g Sv Ev Mv er : Int) (bl : ByteArray) (it : List (Int × Int × ByteArray)) (n : Nat) (hn : it.length = n) (S : ByteArray) (hs : S.size ≤ 65536) (hp : putFC (K, g, Sv, Ev, Mv, bl, it, er) = (S, 0)) : ∀ (W : World), Calls Tryd.prog 21 #[.string S] W fun e w' => ∃ a1 c1, e = .returned (.tuple #[.agg #[.int .i64 K, .int .i64 g, .int .i64 Sv, .int .i64 Ev, .int .i64 Mv, .string bl, .slice a1 n c1, .int .i64 er], .int .i64 0]) ∧ n ≤ c1 ∧ ItsAt w' a1 n it ∧ Below W.heap.size W w' := fun W => by
  subst hn
  have h := takeF_any S W (by omega)
  rw [takeFC_put _ _ hp] at h
  exact h.mono fun e w' ⟨a, c, h1, h2, h3, h4, h5⟩ => ⟨a, c, h1, h2, h4, h5⟩

theorem kinS_any (K g Sv Ev Mv er : Int) (bl : ByteArray) (it : List (Int × Int × ByteArray)) (n : Nat) (hn : it.length = n) (hl : n ≤ 40) : ∀ (a a1 : Option Addr) (c c1 : Nat) (W : World), n ≤ c → n ≤ c1 → ItsAt W a n it → ItsAt W a1 n it → Calls Tryd.prog 22 #[.agg #[.int .i64 K, .int .i64 g, .int .i64 Sv, .int .i64 Ev, .int .i64 Mv, .string bl, .slice a n c, .int .i64 er], .agg #[.int .i64 K, .int .i64 g, .int .i64 Sv, .int .i64 Ev, .int .i64 Mv, .string bl, .slice a1 n c1, .int .i64 er]] W fun e w' => e = .returned (.bool true) ∧ Below W.heap.size W w' := fun a a1 c c1 W h1 h2 h3 h4 => by
  subst hn
  exact rsame19_any (K, g, Sv, Ev, Mv, bl, it, er) (K, g, Sv, Ev, Mv, bl, it, er) true ⟨fun _ => rfl, fun _ => rfl⟩ a a1 c c1 W (by show it.length ≤ _; omega) h1 h2 h3 h4

theorem itK_fit (k m c i : Nat) : (itL (itK k m c) i).2.2.size ≤ 9223372036854775807 := by
  unfold itK; split
  · rcases i with _ | i
    · decide
    · exact Nat.zero_le _
  · exact Nat.zero_le _

theorem itK_len (k m c : Nat) : (itK k m c).length ≤ 1 := by
  unfold itK; split
  · exact Nat.le_refl 1
  · exact Nat.zero_le 1

theorem has_at (k m : Nat) (hm : 1 ≤ m ∧ m ≤ 6) : (#[.bool false, .bool (nmK k 1), .bool (nmK k 2), .bool (nmK k 3), .bool (nmK k 4), .bool (nmK k 5), .bool (nmK k 6)] : Array Value)[m]? = some (.bool (nmK k m)) := by
  rcases (by omega : m = 1 ∨ m = 2 ∨ m = 3 ∨ m = 4 ∨ m = 5 ∨ m = 6) with rfl | rfl | rfl | rfl | rfl | rfl <;> rfl

theorem arrK_init (k : Nat) (g s e M : Int) (m : Nat) : arrK k g s e M m 1 (.slice none 0 0) = #[.int .i64 (1 + (k : Int)), .int .i64 g, .int .i64 0, .int .i64 0, .int .i64 0, .string ⟨#[]⟩, .slice none 0 0, .int .i64 0] := by
  unfold arrK; simp [onK]

theorem itK_init (k m : Nat) : itK k m 1 = [] := by
  unfold itK; simp [onK]

set_option maxHeartbeats 8000000 in
theorem wireKinds_walk (x y : Int) (x0 x1 x2 x3 : Int) (w : World) (hG : Glob8 w) : Calls Tryd.prog 7 #[.int .i64 x, .agg #[.int .i64 x0, .int .i64 x1, .int .i64 x2, .int .i64 x3], .int .i64 y] w fun e w' => e = .returned (.bool true) ∧ Below w.heap.size w w' := by
  have CA : Hid (∀ W, Below w.heap.size w W → Calls Tryd.prog 10 #[] W fun e w' => e = .returned (.bool true) ∧ Below w.heap.size w w') := fun W hW => (awake19 W (hG.below hW)).mono fun e w' h => ⟨h.1, below_step hW (Nat.le_refl _) h.2⟩
  clear hG
  obtain ⟨q, hq0, hq1⟩ := mask255k x
  obtain ⟨p, hp0, hp1⟩ := mask255k y
  obtain ⟨g, hg0, hg1⟩ := mask65535k x0
  obtain ⟨s, hs0, hs1⟩ := mask65535k x1
  obtain ⟨e, he0, he1⟩ := mask65535k x2
  obtain ⟨M, hM0, hM1⟩ := mask65535k x3
  obtain ⟨k, hk0, hk1⟩ : ∃ k : Nat, (q : Int).tmod 9 = (k : Int) ∧ k < 9 := ⟨q % 9, rfl, by omega⟩
  obtain ⟨m0, hm0, hm1⟩ : ∃ m : Nat, (p : Int).tmod 6 = (m : Int) ∧ m < 6 := ⟨p % 6, rfl, by omega⟩
  obtain ⟨m, hm⟩ : ∃ m, m0 + 1 = m := ⟨_, rfl⟩
  have em : (1 : Int) + (m0 : Int) = (m : Int) := by omega
  have hm6 : 1 ≤ m ∧ m ≤ 6 := by omega
  have hkin := kinds_any k m (g : Int) (1 + (s : Int)) (1 + (e : Int)) (1 + (M : Int)) hk1 hm6 (by omega) (by omega) (by omega) (by omega)
  have HKin : Hid (_) := hkin
  clear hkin
  have HE : Hid (hasL (nmI k) = #[.bool false, .bool (nmK k 1), .bool (nmK k 2), .bool (nmK k 3), .bool (nmK k 4), .bool (nmK k 5), .bool (nmK k 6)]) := hasL_end k hk1
  have HK9 : Hid (k < 9) := hk1
  have HM6 : Hid (1 ≤ m ∧ m ≤ 6) := hm6
  have b1 : (1 : Int) + (k : Int) - 1 = (k : Int) := by omega
  have b2 : (0 : Int) ≤ (k : Int) := by omega
  have b3 : (k : Int) < 9 := by omega
  obtain ⟨V0, hV0⟩ : ∃ V, w.alloc (.cells #[.int .i64 x0, .int .i64 x1, .int .i64 x2, .int .i64 x3] 47) = V := ⟨_, rfl⟩
  have z0 : V0.heap.size = w.heap.size + 1 := by rw [← hV0, World.size_alloc]
  have n0 : Below w.heap.size w V0 := by rw [← hV0]; exact below_new _ _
  have k0_0 : Blk V0 47 (w.heap.size) #[.int .i64 x0, .int .i64 x1, .int .i64 x2, .int .i64 x3] := by rw [← hV0]; exact Blk.new _ _ _
  have u0 : Below w.heap.size w V0 := n0
  obtain ⟨V1, hV1⟩ : ∃ V, V0.alloc (.cells #[.int .i64 (1 + (k : Int)), .int .i64 (g : Int), .int .i64 0, .int .i64 0, .int .i64 0, .string ⟨#[]⟩, .slice none 0 0, .int .i64 0] 41) = V := ⟨_, rfl⟩
  have z1 : V1.heap.size = w.heap.size + 1 + 1 := by rw [← hV1, World.size_alloc, z0]
  have n1 : Below V0.heap.size V0 V1 := by rw [← hV1]; exact below_new _ _
  have k1_1 : Blk V1 41 (w.heap.size + 1) #[.int .i64 (1 + (k : Int)), .int .i64 (g : Int), .int .i64 0, .int .i64 0, .int .i64 0, .string ⟨#[]⟩, .slice none 0 0, .int .i64 0] := by rw [← hV1, ← z0]; exact Blk.new _ _ _
  have k1_0 := k0_0.on n1
  have u1 : Below w.heap.size w V1 := below_step u0 (Nat.le_refl _) n1
  clear k0_0 u0
  obtain ⟨V2, hV2⟩ : ∃ V, V1.alloc (.cells #[.int .i64 2, .int .i64 4] 3) = V := ⟨_, rfl⟩
  have z2 : V2.heap.size = w.heap.size + 1 + 1 + 1 := by rw [← hV2, World.size_alloc, z1]
  have n2 : Below V1.heap.size V1 V2 := by rw [← hV2]; exact below_new _ _
  have k2_2 : Blk V2 3 (w.heap.size + 1 + 1) #[.int .i64 2, .int .i64 4] := by rw [← hV2, ← z1]; exact Blk.new _ _ _
  have k2_0 := k1_0.on n2
  have k2_1 := k1_1.on n2
  have u2 : Below w.heap.size w V2 := below_step u1 (Nat.le_refl _) n2
  clear k1_0 k1_1 u1
  obtain ⟨V3, hV3⟩ : ∃ V, V2.alloc (.cells #[.int .i64 1] 3) = V := ⟨_, rfl⟩
  have z3 : V3.heap.size = w.heap.size + 1 + 1 + 1 + 1 := by rw [← hV3, World.size_alloc, z2]
  have n3 : Below V2.heap.size V2 V3 := by rw [← hV3]; exact below_new _ _
  have k3_3 : Blk V3 3 (w.heap.size + 1 + 1 + 1) #[.int .i64 1] := by rw [← hV3, ← z2]; exact Blk.new _ _ _
  have k3_0 := k2_0.on n3
  have k3_1 := k2_1.on n3
  have k3_2 := k2_2.on n3
  have u3 : Below w.heap.size w V3 := below_step u2 (Nat.le_refl _) n3
  clear k2_0 k2_1 k2_2 u2
  obtain ⟨V4, hV4⟩ : ∃ V, V3.alloc (.cells #[.int .i64 1, .int .i64 3] 3) = V := ⟨_, rfl⟩
  have z4 : V4.heap.size = w.heap.size + 1 + 1 + 1 + 1 + 1 := by rw [← hV4, World.size_alloc, z3]
  have n4 : Below V3.heap.size V3 V4 := by rw [← hV4]; exact below_new _ _
  have k4_4 : Blk V4 3 (w.heap.size + 1 + 1 + 1 + 1) #[.int .i64 1, .int .i64 3] := by rw [← hV4, ← z3]; exact Blk.new _ _ _
  have k4_0 := k3_0.on n4
  have k4_1 := k3_1.on n4
  have k4_2 := k3_2.on n4
  have k4_3 := k3_3.on n4
  have u4 : Below w.heap.size w V4 := below_step u3 (Nat.le_refl _) n4
  clear k3_0 k3_1 k3_2 k3_3 u3
  obtain ⟨V5, hV5⟩ : ∃ V, V4.alloc (.cells #[.int .i64 5] 3) = V := ⟨_, rfl⟩
  have z5 : V5.heap.size = w.heap.size + 1 + 1 + 1 + 1 + 1 + 1 := by rw [← hV5, World.size_alloc, z4]
  have n5 : Below V4.heap.size V4 V5 := by rw [← hV5]; exact below_new _ _
  have k5_5 : Blk V5 3 (w.heap.size + 1 + 1 + 1 + 1 + 1) #[.int .i64 5] := by rw [← hV5, ← z4]; exact Blk.new _ _ _
  have k5_0 := k4_0.on n5
  have k5_1 := k4_1.on n5
  have k5_2 := k4_2.on n5
  have k5_3 := k4_3.on n5
  have k5_4 := k4_4.on n5
  have u5 : Below w.heap.size w V5 := below_step u4 (Nat.le_refl _) n5
  clear k4_0 k4_1 k4_2 k4_3 k4_4 u4
  obtain ⟨V6, hV6⟩ : ∃ V, V5.alloc (.cells #[.int .i64 1, .int .i64 2, .int .i64 4] 3) = V := ⟨_, rfl⟩
  have z6 : V6.heap.size = w.heap.size + 1 + 1 + 1 + 1 + 1 + 1 + 1 := by rw [← hV6, World.size_alloc, z5]
  have n6 : Below V5.heap.size V5 V6 := by rw [← hV6]; exact below_new _ _
  have k6_6 : Blk V6 3 (w.heap.size + 1 + 1 + 1 + 1 + 1 + 1) #[.int .i64 1, .int .i64 2, .int .i64 4] := by rw [← hV6, ← z5]; exact Blk.new _ _ _
  have k6_0 := k5_0.on n6
  have k6_1 := k5_1.on n6
  have k6_2 := k5_2.on n6
  have k6_3 := k5_3.on n6
  have k6_4 := k5_4.on n6
  have k6_5 := k5_5.on n6
  have u6 : Below w.heap.size w V6 := below_step u5 (Nat.le_refl _) n6
  clear k5_0 k5_1 k5_2 k5_3 k5_4 k5_5 u5
  obtain ⟨V7, hV7⟩ : ∃ V, V6.alloc (.cells #[.int .i64 1] 3) = V := ⟨_, rfl⟩
  have z7 : V7.heap.size = w.heap.size + 1 + 1 + 1 + 1 + 1 + 1 + 1 + 1 := by rw [← hV7, World.size_alloc, z6]
  have n7 : Below V6.heap.size V6 V7 := by rw [← hV7]; exact below_new _ _
  have k7_7 : Blk V7 3 (w.heap.size + 1 + 1 + 1 + 1 + 1 + 1 + 1) #[.int .i64 1] := by rw [← hV7, ← z6]; exact Blk.new _ _ _
  have k7_0 := k6_0.on n7
  have k7_1 := k6_1.on n7
  have k7_2 := k6_2.on n7
  have k7_3 := k6_3.on n7
  have k7_4 := k6_4.on n7
  have k7_5 := k6_5.on n7
  have k7_6 := k6_6.on n7
  have u7 : Below w.heap.size w V7 := below_step u6 (Nat.le_refl _) n7
  clear k6_0 k6_1 k6_2 k6_3 k6_4 k6_5 k6_6 u6
  obtain ⟨V8, hV8⟩ : ∃ V, V7.alloc (.cells #[] 3) = V := ⟨_, rfl⟩
  have z8 : V8.heap.size = w.heap.size + 1 + 1 + 1 + 1 + 1 + 1 + 1 + 1 + 1 := by rw [← hV8, World.size_alloc, z7]
  have n8 : Below V7.heap.size V7 V8 := by rw [← hV8]; exact below_new _ _
  have k8_8 : Blk V8 3 (w.heap.size + 1 + 1 + 1 + 1 + 1 + 1 + 1 + 1) #[] := by rw [← hV8, ← z7]; exact Blk.new _ _ _
  have k8_0 := k7_0.on n8
  have k8_1 := k7_1.on n8
  have k8_2 := k7_2.on n8
  have k8_3 := k7_3.on n8
  have k8_4 := k7_4.on n8
  have k8_5 := k7_5.on n8
  have k8_6 := k7_6.on n8
  have k8_7 := k7_7.on n8
  have u8 : Below w.heap.size w V8 := below_step u7 (Nat.le_refl _) n8
  clear k7_0 k7_1 k7_2 k7_3 k7_4 k7_5 k7_6 k7_7 u7
  obtain ⟨V9, hV9⟩ : ∃ V, V8.alloc (.cells #[.int .i64 1, .int .i64 2, .int .i64 4] 3) = V := ⟨_, rfl⟩
  have z9 : V9.heap.size = w.heap.size + 1 + 1 + 1 + 1 + 1 + 1 + 1 + 1 + 1 + 1 := by rw [← hV9, World.size_alloc, z8]
  have n9 : Below V8.heap.size V8 V9 := by rw [← hV9]; exact below_new _ _
  have k9_9 : Blk V9 3 (w.heap.size + 1 + 1 + 1 + 1 + 1 + 1 + 1 + 1 + 1) #[.int .i64 1, .int .i64 2, .int .i64 4] := by rw [← hV9, ← z8]; exact Blk.new _ _ _
  have k9_0 := k8_0.on n9
  have k9_1 := k8_1.on n9
  have k9_2 := k8_2.on n9
  have k9_3 := k8_3.on n9
  have k9_4 := k8_4.on n9
  have k9_5 := k8_5.on n9
  have k9_6 := k8_6.on n9
  have k9_7 := k8_7.on n9
  have k9_8 := k8_8.on n9
  have u9 : Below w.heap.size w V9 := below_step u8 (Nat.le_refl _) n9
  clear k8_0 k8_1 k8_2 k8_3 k8_4 k8_5 k8_6 k8_7 k8_8 u8
  obtain ⟨V10, hV10⟩ : ∃ V, V9.alloc (.cells #[.int .i64 6] 3) = V := ⟨_, rfl⟩
  have z10 : V10.heap.size = w.heap.size + 1 + 1 + 1 + 1 + 1 + 1 + 1 + 1 + 1 + 1 + 1 := by rw [← hV10, World.size_alloc, z9]
  have n10 : Below V9.heap.size V9 V10 := by rw [← hV10]; exact below_new _ _
  have k10_10 : Blk V10 3 (w.heap.size + 1 + 1 + 1 + 1 + 1 + 1 + 1 + 1 + 1 + 1) #[.int .i64 6] := by rw [← hV10, ← z9]; exact Blk.new _ _ _
  have k10_0 := k9_0.on n10
  have k10_1 := k9_1.on n10
  have k10_2 := k9_2.on n10
  have k10_3 := k9_3.on n10
  have k10_4 := k9_4.on n10
  have k10_5 := k9_5.on n10
  have k10_6 := k9_6.on n10
  have k10_7 := k9_7.on n10
  have k10_8 := k9_8.on n10
  have k10_9 := k9_9.on n10
  have u10 : Below w.heap.size w V10 := below_step u9 (Nat.le_refl _) n10
  clear k9_0 k9_1 k9_2 k9_3 k9_4 k9_5 k9_6 k9_7 k9_8 k9_9 u9
  obtain ⟨V11, hV11⟩ : ∃ V, V10.alloc (.cells #[.slice (some ⟨w.heap.size + 1 + 1, 0, none⟩) 2 2, .slice (some ⟨w.heap.size + 1 + 1 + 1, 0, none⟩) 1 1, .slice (some ⟨w.heap.size + 1 + 1 + 1 + 1, 0, none⟩) 2 2, .slice (some ⟨w.heap.size + 1 + 1 + 1 + 1 + 1, 0, none⟩) 1 1, .slice (some ⟨w.heap.size + 1 + 1 + 1 + 1 + 1 + 1, 0, none⟩) 3 3, .slice (some ⟨w.heap.size + 1 + 1 + 1 + 1 + 1 + 1 + 1, 0, none⟩) 1 1, .slice (some ⟨w.heap.size + 1 + 1 + 1 + 1 + 1 + 1 + 1 + 1, 0, none⟩) 0 0, .slice (some ⟨w.heap.size + 1 + 1 + 1 + 1 + 1 + 1 + 1 + 1 + 1, 0, none⟩) 3 3, .slice (some ⟨w.heap.size + 1 + 1 + 1 + 1 + 1 + 1 + 1 + 1 + 1 + 1, 0, none⟩) 1 1] 48) = V := ⟨_, rfl⟩
  have z11 : V11.heap.size = w.heap.size + 1 + 1 + 1 + 1 + 1 + 1 + 1 + 1 + 1 + 1 + 1 + 1 := by rw [← hV11, World.size_alloc, z10]
  have n11 : Below V10.heap.size V10 V11 := by rw [← hV11]; exact below_new _ _
  have k11_11 : Blk V11 48 (w.heap.size + 1 + 1 + 1 + 1 + 1 + 1 + 1 + 1 + 1 + 1 + 1) #[.slice (some ⟨w.heap.size + 1 + 1, 0, none⟩) 2 2, .slice (some ⟨w.heap.size + 1 + 1 + 1, 0, none⟩) 1 1, .slice (some ⟨w.heap.size + 1 + 1 + 1 + 1, 0, none⟩) 2 2, .slice (some ⟨w.heap.size + 1 + 1 + 1 + 1 + 1, 0, none⟩) 1 1, .slice (some ⟨w.heap.size + 1 + 1 + 1 + 1 + 1 + 1, 0, none⟩) 3 3, .slice (some ⟨w.heap.size + 1 + 1 + 1 + 1 + 1 + 1 + 1, 0, none⟩) 1 1, .slice (some ⟨w.heap.size + 1 + 1 + 1 + 1 + 1 + 1 + 1 + 1, 0, none⟩) 0 0, .slice (some ⟨w.heap.size + 1 + 1 + 1 + 1 + 1 + 1 + 1 + 1 + 1, 0, none⟩) 3 3, .slice (some ⟨w.heap.size + 1 + 1 + 1 + 1 + 1 + 1 + 1 + 1 + 1 + 1, 0, none⟩) 1 1] := by rw [← hV11, ← z10]; exact Blk.new _ _ _
  have k11_0 := k10_0.on n11
  have k11_1 := k10_1.on n11
  have k11_2 := k10_2.on n11
  have k11_3 := k10_3.on n11
  have k11_4 := k10_4.on n11
  have k11_5 := k10_5.on n11
  have k11_6 := k10_6.on n11
  have k11_7 := k10_7.on n11
  have k11_8 := k10_8.on n11
  have k11_9 := k10_9.on n11
  have k11_10 := k10_10.on n11
  have u11 : Below w.heap.size w V11 := below_step u10 (Nat.le_refl _) n11
  clear k10_0 k10_1 k10_2 k10_3 k10_4 k10_5 k10_6 k10_7 k10_8 k10_9 k10_10 u10
  obtain ⟨V12, hV12⟩ : ∃ V, V11.alloc (.cells #[.bool false, .bool false, .bool false, .bool false, .bool false, .bool false, .bool false] 50) = V := ⟨_, rfl⟩
  have z12 : V12.heap.size = w.heap.size + 1 + 1 + 1 + 1 + 1 + 1 + 1 + 1 + 1 + 1 + 1 + 1 + 1 := by rw [← hV12, World.size_alloc, z11]
  have n12 : Below V11.heap.size V11 V12 := by rw [← hV12]; exact below_new _ _
  have k12_12 : Blk V12 50 (w.heap.size + 1 + 1 + 1 + 1 + 1 + 1 + 1 + 1 + 1 + 1 + 1 + 1) #[.bool false, .bool false, .bool false, .bool false, .bool false, .bool false, .bool false] := by rw [← hV12, ← z11]; exact Blk.new _ _ _
  have k12_0 := k11_0.on n12
  have k12_1 := k11_1.on n12
  have k12_2 := k11_2.on n12
  have k12_3 := k11_3.on n12
  have k12_4 := k11_4.on n12
  have k12_5 := k11_5.on n12
  have k12_6 := k11_6.on n12
  have k12_7 := k11_7.on n12
  have k12_8 := k11_8.on n12
  have k12_9 := k11_9.on n12
  have k12_10 := k11_10.on n12
  have k12_11 := k11_11.on n12
  have u12 : Below w.heap.size w V12 := below_step u11 (Nat.le_refl _) n12
  clear k11_0 k11_1 k11_2 k11_3 k11_4 k11_5 k11_6 k11_7 k11_8 k11_9 k11_10 k11_11 u11
  have HN : ∃ hq NA, ([.slice (some ⟨w.heap.size + 1 + 1, 0, none⟩) 2 2, .slice (some ⟨w.heap.size + 1 + 1 + 1, 0, none⟩) 1 1, .slice (some ⟨w.heap.size + 1 + 1 + 1 + 1, 0, none⟩) 2 2, .slice (some ⟨w.heap.size + 1 + 1 + 1 + 1 + 1, 0, none⟩) 1 1, .slice (some ⟨w.heap.size + 1 + 1 + 1 + 1 + 1 + 1, 0, none⟩) 3 3, .slice (some ⟨w.heap.size + 1 + 1 + 1 + 1 + 1 + 1 + 1, 0, none⟩) 1 1, .slice (some ⟨w.heap.size + 1 + 1 + 1 + 1 + 1 + 1 + 1 + 1, 0, none⟩) 0 0, .slice (some ⟨w.heap.size + 1 + 1 + 1 + 1 + 1 + 1 + 1 + 1 + 1, 0, none⟩) 3 3, .slice (some ⟨w.heap.size + 1 + 1 + 1 + 1 + 1 + 1 + 1 + 1 + 1 + 1, 0, none⟩) 1 1] : List Value)[k]'(by simpa using hk1) = .slice (some ⟨hq, 0, none⟩) (nmI k).length (nmI k).length ∧ hq < w.heap.size + 1 + 1 + 1 + 1 + 1 + 1 + 1 + 1 + 1 + 1 + 1 + 1 ∧ Blk V12 3 hq NA ∧ ∀ i, i < (nmI k).length → NA[i]? = some (.int .i64 (((nmI k).getD i 0 : Nat) : Int)) := by
    rcases (by omega : k = 0 ∨ k = 1 ∨ k = 2 ∨ k = 3 ∨ k = 4 ∨ k = 5 ∨ k = 6 ∨ k = 7 ∨ k = 8) with rfl | rfl | rfl | rfl | rfl | rfl | rfl | rfl | rfl
    · refine ⟨_, _, rfl, by omega, k12_2, fun i hi => ?_⟩
      rcases i with _ | _ | _ | i <;> first | rfl | exact absurd hi (by simp [nmI])
    · refine ⟨_, _, rfl, by omega, k12_3, fun i hi => ?_⟩
      rcases i with _ | _ | _ | i <;> first | rfl | exact absurd hi (by simp [nmI])
    · refine ⟨_, _, rfl, by omega, k12_4, fun i hi => ?_⟩
      rcases i with _ | _ | _ | i <;> first | rfl | exact absurd hi (by simp [nmI])
    · refine ⟨_, _, rfl, by omega, k12_5, fun i hi => ?_⟩
      rcases i with _ | _ | _ | i <;> first | rfl | exact absurd hi (by simp [nmI])
    · refine ⟨_, _, rfl, by omega, k12_6, fun i hi => ?_⟩
      rcases i with _ | _ | _ | i <;> first | rfl | exact absurd hi (by simp [nmI])
    · refine ⟨_, _, rfl, by omega, k12_7, fun i hi => ?_⟩
      rcases i with _ | _ | _ | i <;> first | rfl | exact absurd hi (by simp [nmI])
    · refine ⟨_, _, rfl, by omega, k12_8, fun i hi => ?_⟩
      rcases i with _ | _ | _ | i <;> first | rfl | exact absurd hi (by simp [nmI])
    · refine ⟨_, _, rfl, by omega, k12_9, fun i hi => ?_⟩
      rcases i with _ | _ | _ | i <;> first | rfl | exact absurd hi (by simp [nmI])
    · refine ⟨_, _, rfl, by omega, k12_10, fun i hi => ?_⟩
      rcases i with _ | _ | _ | i <;> first | rfl | exact absurd hi (by simp [nmI])
  obtain ⟨hq, NA, g1, g2, g3, g4⟩ := HN
  have HNA : Hid (∀ i, i < (nmI k).length → NA[i]? = some (.int .i64 (((nmI k).getD i 0 : Nat) : Int))) := g4
  have HI : Hid (Ki1 w V12 #[.int .i64 x0, .int .i64 x1, .int .i64 x2, .int .i64 x3] #[.int .i64 (1 + (k : Int)), .int .i64 (g : Int), .int .i64 0, .int .i64 0, .int .i64 0, .string ⟨#[]⟩, .slice none 0 0, .int .i64 0] NA w.heap.size (w.heap.size + 1) (w.heap.size + 1 + 1 + 1 + 1 + 1 + 1 + 1 + 1 + 1 + 1 + 1 + 1) hq k 0) := ⟨u12, k12_0, k12_1, k12_12, g3⟩
  have HO : Hid (w.heap.size < w.heap.size + 1 ∧ w.heap.size + 1 < w.heap.size + 1 + 1 + 1 + 1 + 1 + 1 + 1 + 1 + 1 + 1 + 1 + 1 ∧ hq < w.heap.size + 1 + 1 + 1 + 1 + 1 + 1 + 1 + 1 + 1 + 1 + 1 + 1) := ⟨by omega, by omega, g2⟩
  have HG : Hid (_) := g1
  obtain ⟨n, hn⟩ : ∃ n, (nmI k).length = n := ⟨_, rfl⟩
  rw [hn] at HG HNA
  have HN : Hid ((nmI k).length = n) := hn
  have HV0 : Hid (_) := hV0
  have HV1 : Hid (_) := hV1
  have HV2 : Hid (_) := hV2
  have HV3 : Hid (_) := hV3
  have HV4 : Hid (_) := hV4
  have HV5 : Hid (_) := hV5
  have HV6 : Hid (_) := hV6
  have HV7 : Hid (_) := hV7
  have HV8 : Hid (_) := hV8
  have HV9 : Hid (_) := hV9
  have HV10 : Hid (_) := hV10
  have HV11 : Hid (_) := hV11
  have HV12 : Hid (_) := hV12
  clear g1 g2 g3 g4 hn hm6 hV0 z0 n0 k12_0 hV1 z1 n1 k12_1 hV2 z2 n2 k12_2 hV3 z3 n3 k12_3 hV4 z4 n4 k12_4 hV5 z5 n5 k12_5 hV6 z6 n6 k12_6 hV7 z7 n7 k12_7 hV8 z8 n8 k12_8 hV9 z9 n9 k12_9 hV10 z10 n10 k12_10 hV11 z11 n11 k12_11 hV12 z12 n12 k12_12 u12 hm1 hm hq1 hp1
  go_enter Tryd.func7, Tryd.ntmps7
  go_wp2_with fail
  rw [HV0.out, HV1.out, HV2.out, HV3.out, HV4.out, HV5.out, HV6.out, HV7.out, HV8.out, HV9.out, HV10.out, HV11.out, HV12.out]
  rw [HG.out]
  clear HG HV0 HV1 HV2 HV3 HV4 HV5 HV6 HV7 HV8 HV9 HV10 HV11 HV12 b1 b2 b3 hk1
  obtain ⟨hb, hhb⟩ : ∃ hb, w.heap.size + 1 + 1 + 1 + 1 + 1 + 1 + 1 + 1 + 1 + 1 + 1 + 1 = hb := ⟨_, rfl⟩
  rw [hhb] at HI HO ⊢
  obtain ⟨h, hh⟩ : ∃ h, w.heap.size + 1 = h := ⟨_, rfl⟩
  rw [hh] at HI HO ⊢
  clear hhb hh hq0 hk0 hg0
  as_aux_lemma =>
  go_loopw [11] (fun i wr => ∃ j : Nat, j ≤ n ∧ i = .int .i64 j ∧ Hid (Ki1 w wr #[.int .i64 x0, .int .i64 x1, .int .i64 x2, .int .i64 x3] #[.int .i64 (1 + (k : Int)), .int .i64 (g : Int), .int .i64 0, .int .i64 0, .int .i64 0, .string ⟨#[]⟩, .slice none 0 0, .int .i64 0] NA w.heap.size h hb hq k j)) (fun i _ => n - (intOf i).toNat)
  case atStart => exact ⟨0, Nat.zero_le _, rfl, HI⟩
  case round =>
    clear HI
    obtain ⟨j, hj, rfl, HX⟩ := hrel
    by_cases hlt : j < n
    · have b0 : (j : Int) < (n : Int) := by omega
      have b00 : (0 : Int) ≤ (j : Int) := by omega
      have b2 : IntKind.i64.wrap ((j : Int) + 1) = (j : Int) + 1 := by
        have := HN.out
        have hl := nmI_len k HK9.out
        rw [IntKind.wrap_i64]; omega
      obtain ⟨i, hi⟩ : ∃ i, (nmI k).getD j 0 = i := ⟨_, rfl⟩
      have hlen : j < (nmI k).length := by rw [HN.out]; exact hlt
      have hi16 := nmI_at k HK9.out j hlen
      rw [hi] at hi16
      have cN : wr.cell? ⟨hq, j, none⟩ = some (.int .i64 (i : Int)) := by rw [HX.out.2.2.2.2.cell j, HNA.out j hlt, hi]
      obtain ⟨u, c0⟩ : ∃ u, wr.cell? ⟨hb, i, none⟩ = some u := by
        rw [HX.out.2.2.2.1.cell i, Array.getElem?_eq_getElem (by rw [hasL_size]; omega)]; exact ⟨_, rfl⟩
      have c1 : wr.frozen? ⟨hb, i, none⟩ = false := HX.out.2.2.2.1.free i
      have HW5 : Hid (Ki1 w (wr.setCell ⟨hb, i, none⟩ (.bool true)) #[.int .i64 x0, .int .i64 x1, .int .i64 x2, .int .i64 x3] #[.int .i64 (1 + (k : Int)), .int .i64 (g : Int), .int .i64 0, .int .i64 0, .int .i64 0, .string ⟨#[]⟩, .slice none 0 0, .int .i64 0] NA w.heap.size h hb hq k (j + 1)) := by
        obtain ⟨o1, o2, o3⟩ := HO.out
        exact ki1_step HX.out HK9.out hlen hi (by omega) o2 o3 (by omega)
      have bi0 : (0 : Int) ≤ (i : Int) := by omega
      have bi1 : (i : Int) < 7 := by omega
      obtain ⟨W5, hW5⟩ : ∃ W5, wr.setCell ⟨hb, i, none⟩ (.bool true) = W5 := ⟨_, rfl⟩
      rw [hW5] at HW5
      clear HX hi hlen hi16
      go_wp2_with fail
      try rw [hW5]
      clear hW5 c0 c1 cN
      refine ⟨?_, ?_⟩
      · first
        | exact ⟨j + 1, by omega, by go_num, HW5⟩
        | ((repeat apply Exists.intro); refine ⟨?_, rfl⟩; exact ⟨j + 1, by omega, by go_num, HW5⟩)
      · simp [intOf] <;> omega
    · obtain rfl : j = n := by omega
      have b0 : ¬ ((j : Int) < (j : Int)) := by omega
      have HI2 : Hid (Ki2 w #[.int .i64 x0, .int .i64 x1, .int .i64 x2, .int .i64 x3] w.heap.size h hb k (g : Int) (1 + (s : Int)) (1 + (e : Int)) (1 + (M : Int)) m 1 wr) := by
        obtain ⟨t1, t2, t3, t4, t5⟩ := HX.out
        refine ⟨t1, t2, ?_, _, by rw [arrK_init]; exact t3, .inl ⟨itK_init k m, rfl⟩⟩
        rw [← HE.out]
        have := HN.out
        rw [← this, List.take_length] at t4
        exact t4
      clear HX HE HNA HN
      have hm61 := HM6.out.1
      have hm66 := HM6.out.2
      go_wp2_with fail
      clear hm61 hm66
      clear hp0 hm0 em b0 hj hlt
      as_aux_lemma =>
      go_loopw [13] (fun i wr => (i = .int .i64 1 ∧ Hid (Ki2 w #[.int .i64 x0, .int .i64 x1, .int .i64 x2, .int .i64 x3] w.heap.size h hb k (g : Int) (1 + (s : Int)) (1 + (e : Int)) (1 + (M : Int)) m 1 wr)) ∨ (i = .int .i64 2 ∧ Hid (Ki2 w #[.int .i64 x0, .int .i64 x1, .int .i64 x2, .int .i64 x3] w.heap.size h hb k (g : Int) (1 + (s : Int)) (1 + (e : Int)) (1 + (M : Int)) m 2 wr)) ∨ (i = .int .i64 3 ∧ Hid (Ki2 w #[.int .i64 x0, .int .i64 x1, .int .i64 x2, .int .i64 x3] w.heap.size h hb k (g : Int) (1 + (s : Int)) (1 + (e : Int)) (1 + (M : Int)) m 3 wr)) ∨ (i = .int .i64 4 ∧ Hid (Ki2 w #[.int .i64 x0, .int .i64 x1, .int .i64 x2, .int .i64 x3] w.heap.size h hb k (g : Int) (1 + (s : Int)) (1 + (e : Int)) (1 + (M : Int)) m 4 wr)) ∨ (i = .int .i64 5 ∧ Hid (Ki2 w #[.int .i64 x0, .int .i64 x1, .int .i64 x2, .int .i64 x3] w.heap.size h hb k (g : Int) (1 + (s : Int)) (1 + (e : Int)) (1 + (M : Int)) m 5 wr)) ∨ (i = .int .i64 6 ∧ Hid (Ki2 w #[.int .i64 x0, .int .i64 x1, .int .i64 x2, .int .i64 x3] w.heap.size h hb k (g : Int) (1 + (s : Int)) (1 + (e : Int)) (1 + (M : Int)) m 6 wr)) ∨ (i = .int .i64 7 ∧ Hid (Ki2 w #[.int .i64 x0, .int .i64 x1, .int .i64 x2, .int .i64 x3] w.heap.size h hb k (g : Int) (1 + (s : Int)) (1 + (e : Int)) (1 + (M : Int)) m 7 wr))) (fun i _ => 7 - (intOf i).toNat)
      case atStart => exact .inl ⟨rfl, HI2⟩
      case round =>
        clear HI2
        rcases hrel with ⟨rfl, HX⟩ | ⟨rfl, HX⟩ | ⟨rfl, HX⟩ | ⟨rfl, HX⟩ | ⟨rfl, HX⟩ | ⟨rfl, HX⟩ | ⟨rfl, HX⟩
        · cases hb1 : nmK k 1 with
          | true =>
            have cH : wr.cell? ⟨hb, 1, none⟩ = some (.bool true) := by rw [← hb1]; exact HX.out.2.2.1.cell 1
            clear CA HKin
            as_aux_lemma =>
            have cX : wr.cell? ⟨w.heap.size, 1, none⟩ = some (.int .i64 x1) := HX.out.2.1.cell 1
            obtain ⟨u, c0⟩ : ∃ u, wr.cell? ⟨h, 2, none⟩ = some u := by obtain ⟨_, _, _, v, t4, _⟩ := HX.out; exact ⟨_, t4.cell 2⟩
            have c1 : wr.frozen? ⟨h, 2, none⟩ = false := by obtain ⟨_, _, _, v, t4, _⟩ := HX.out; exact t4.free 2
            have HW5 : Hid (Ki2 w #[.int .i64 x0, .int .i64 x1, .int .i64 x2, .int .i64 x3] w.heap.size h hb k (g : Int) (1 + (s : Int)) (1 + (e : Int)) (1 + (M : Int)) m 2 (wr.setCell ⟨h, 2, none⟩ (.int .i64 (1 + (s : Int))))) := by
              obtain ⟨o1, o2, o3⟩ := HO.out
              exact ki2_set HX.out 2 _ (fun v => arrK_set1 k _ _ _ _ m v (.inl hb1)) (by decide) o1 o2 (by omega)
            obtain ⟨W5, hW5⟩ : ∃ W5, wr.setCell ⟨h, 2, none⟩ (.int .i64 (1 + (s : Int))) = W5 := ⟨_, rfl⟩
            rw [hW5] at HW5
            clear HX
            go_wp2_with fail
            try rw [hW5]
            refine ⟨?_, ?_⟩
            · first
              | exact .inr (.inl (⟨by go_num, HW5⟩))
              | exact .inr (.inl (⟨rfl, HW5⟩))
              | ((repeat apply Exists.intro); refine ⟨?_, rfl⟩; exact .inr (.inl (⟨by go_num, HW5⟩)))
            · simp [intOf]
          | false =>
            have cH : wr.cell? ⟨hb, 1, none⟩ = some (.bool false) := by rw [← hb1]; exact HX.out.2.2.1.cell 1
            clear CA HKin
            by_cases hmc : m = 1
            · have bm : ((1 : Int) != (m : Int)) = false := by simp; omega
              have Hmc : Hid (m = 1) := hmc
              clear hmc
              have cX : wr.cell? ⟨w.heap.size, 1, none⟩ = some (.int .i64 x1) := HX.out.2.1.cell 1
              obtain ⟨u, c0⟩ : ∃ u, wr.cell? ⟨h, 2, none⟩ = some u := by obtain ⟨_, _, _, v, t4, _⟩ := HX.out; exact ⟨_, t4.cell 2⟩
              have c1 : wr.frozen? ⟨h, 2, none⟩ = false := by obtain ⟨_, _, _, v, t4, _⟩ := HX.out; exact t4.free 2
              have HW5 : Hid (Ki2 w #[.int .i64 x0, .int .i64 x1, .int .i64 x2, .int .i64 x3] w.heap.size h hb k (g : Int) (1 + (s : Int)) (1 + (e : Int)) (1 + (M : Int)) m 2 (wr.setCell ⟨h, 2, none⟩ (.int .i64 (1 + (s : Int))))) := by
                obtain ⟨o1, o2, o3⟩ := HO.out
                exact ki2_set HX.out 2 _ (fun v => arrK_set1 k _ _ _ _ m v (.inr Hmc.out)) (by decide) o1 o2 (by omega)
              obtain ⟨W5, hW5⟩ : ∃ W5, wr.setCell ⟨h, 2, none⟩ (.int .i64 (1 + (s : Int))) = W5 := ⟨_, rfl⟩
              rw [hW5] at HW5
              clear HX
              go_wp2_with fail
              try rw [hW5]
              refine ⟨?_, ?_⟩
              · first
                | exact .inr (.inl (⟨by go_num, HW5⟩))
                | exact .inr (.inl (⟨rfl, HW5⟩))
                | ((repeat apply Exists.intro); refine ⟨?_, rfl⟩; exact .inr (.inl (⟨by go_num, HW5⟩)))
              · simp [intOf]
            · have bm : ((1 : Int) != (m : Int)) = true := by simp; omega
              have HW5 : Hid (Ki2 w #[.int .i64 x0, .int .i64 x1, .int .i64 x2, .int .i64 x3] w.heap.size h hb k (g : Int) (1 + (s : Int)) (1 + (e : Int)) (1 + (M : Int)) m 2 wr) := ki2_skip HX.out (fun v => arrK_skip1 k _ _ _ _ m v hb1 hmc) (itK_other k m 1 (by decide))
              clear HX hmc
              go_wp2_with fail
              refine ⟨?_, ?_⟩
              · first
                | exact .inr (.inl (⟨by go_num, HW5⟩))
                | exact .inr (.inl (⟨rfl, HW5⟩))
                | ((repeat apply Exists.intro); refine ⟨?_, rfl⟩; exact .inr (.inl (⟨by go_num, HW5⟩)))
              · simp [intOf]
        · cases hb1 : nmK k 2 with
          | true =>
            have cH : wr.cell? ⟨hb, 2, none⟩ = some (.bool true) := by rw [← hb1]; exact HX.out.2.2.1.cell 2
            clear CA HKin
            as_aux_lemma =>
            have cX : wr.cell? ⟨w.heap.size, 2, none⟩ = some (.int .i64 x2) := HX.out.2.1.cell 2
            obtain ⟨u, c0⟩ : ∃ u, wr.cell? ⟨h, 3, none⟩ = some u := by obtain ⟨_, _, _, v, t4, _⟩ := HX.out; exact ⟨_, t4.cell 3⟩
            have c1 : wr.frozen? ⟨h, 3, none⟩ = false := by obtain ⟨_, _, _, v, t4, _⟩ := HX.out; exact t4.free 3
            have HW5 : Hid (Ki2 w #[.int .i64 x0, .int .i64 x1, .int .i64 x2, .int .i64 x3] w.heap.size h hb k (g : Int) (1 + (s : Int)) (1 + (e : Int)) (1 + (M : Int)) m 3 (wr.setCell ⟨h, 3, none⟩ (.int .i64 (1 + (e : Int))))) := by
              obtain ⟨o1, o2, o3⟩ := HO.out
              exact ki2_set HX.out 3 _ (fun v => arrK_set2 k _ _ _ _ m v (.inl hb1)) (by decide) o1 o2 (by omega)
            obtain ⟨W5, hW5⟩ : ∃ W5, wr.setCell ⟨h, 3, none⟩ (.int .i64 (1 + (e : Int))) = W5 := ⟨_, rfl⟩
            rw [hW5] at HW5
            clear HX
            go_wp2_with fail
            try rw [hW5]
            refine ⟨?_, ?_⟩
            · first
              | exact .inr (.inr (.inl (⟨by go_num, HW5⟩)))
              | exact .inr (.inr (.inl (⟨rfl, HW5⟩)))
              | ((repeat apply Exists.intro); refine ⟨?_, rfl⟩; exact .inr (.inr (.inl (⟨by go_num, HW5⟩))))
            · simp [intOf]
          | false =>
            have cH : wr.cell? ⟨hb, 2, none⟩ = some (.bool false) := by rw [← hb1]; exact HX.out.2.2.1.cell 2
            clear CA HKin
            by_cases hmc : m = 2
            · have bm : ((2 : Int) != (m : Int)) = false := by simp; omega
              have Hmc : Hid (m = 2) := hmc
              clear hmc
              have cX : wr.cell? ⟨w.heap.size, 2, none⟩ = some (.int .i64 x2) := HX.out.2.1.cell 2
              obtain ⟨u, c0⟩ : ∃ u, wr.cell? ⟨h, 3, none⟩ = some u := by obtain ⟨_, _, _, v, t4, _⟩ := HX.out; exact ⟨_, t4.cell 3⟩
              have c1 : wr.frozen? ⟨h, 3, none⟩ = false := by obtain ⟨_, _, _, v, t4, _⟩ := HX.out; exact t4.free 3
              have HW5 : Hid (Ki2 w #[.int .i64 x0, .int .i64 x1, .int .i64 x2, .int .i64 x3] w.heap.size h hb k (g : Int) (1 + (s : Int)) (1 + (e : Int)) (1 + (M : Int)) m 3 (wr.setCell ⟨h, 3, none⟩ (.int .i64 (1 + (e : Int))))) := by
                obtain ⟨o1, o2, o3⟩ := HO.out
                exact ki2_set HX.out 3 _ (fun v => arrK_set2 k _ _ _ _ m v (.inr Hmc.out)) (by decide) o1 o2 (by omega)
              obtain ⟨W5, hW5⟩ : ∃ W5, wr.setCell ⟨h, 3, none⟩ (.int .i64 (1 + (e : Int))) = W5 := ⟨_, rfl⟩
              rw [hW5] at HW5
              clear HX
              go_wp2_with fail
              try rw [hW5]
              refine ⟨?_, ?_⟩
              · first
                | exact .inr (.inr (.inl (⟨by go_num, HW5⟩)))
                | exact .inr (.inr (.inl (⟨rfl, HW5⟩)))
                | ((repeat apply Exists.intro); refine ⟨?_, rfl⟩; exact .inr (.inr (.inl (⟨by go_num, HW5⟩))))
              · simp [intOf]
            · have bm : ((2 : Int) != (m : Int)) = true := by simp; omega
              have HW5 : Hid (Ki2 w #[.int .i64 x0, .int .i64 x1, .int .i64 x2, .int .i64 x3] w.heap.size h hb k (g : Int) (1 + (s : Int)) (1 + (e : Int)) (1 + (M : Int)) m 3 wr) := ki2_skip HX.out (fun v => arrK_skip2 k _ _ _ _ m v hb1 hmc) (itK_other k m 2 (by decide))
              clear HX hmc
              go_wp2_with fail
              refine ⟨?_, ?_⟩
              · first
                | exact .inr (.inr (.inl (⟨by go_num, HW5⟩)))
                | exact .inr (.inr (.inl (⟨rfl, HW5⟩)))
                | ((repeat apply Exists.intro); refine ⟨?_, rfl⟩; exact .inr (.inr (.inl (⟨by go_num, HW5⟩))))
              · simp [intOf]
        · cases hb1 : nmK k 3 with
          | true =>
            have cH : wr.cell? ⟨hb, 3, none⟩ = some (.bool true) := by rw [← hb1]; exact HX.out.2.2.1.cell 3
            clear CA HKin
            as_aux_lemma =>
            have cX : wr.cell? ⟨w.heap.size, 3, none⟩ = some (.int .i64 x3) := HX.out.2.1.cell 3
            obtain ⟨u, c0⟩ : ∃ u, wr.cell? ⟨h, 4, none⟩ = some u := by obtain ⟨_, _, _, v, t4, _⟩ := HX.out; exact ⟨_, t4.cell 4⟩
            have c1 : wr.frozen? ⟨h, 4, none⟩ = false := by obtain ⟨_, _, _, v, t4, _⟩ := HX.out; exact t4.free 4
            have HW5 : Hid (Ki2 w #[.int .i64 x0, .int .i64 x1, .int .i64 x2, .int .i64 x3] w.heap.size h hb k (g : Int) (1 + (s : Int)) (1 + (e : Int)) (1 + (M : Int)) m 4 (wr.setCell ⟨h, 4, none⟩ (.int .i64 (1 + (M : Int))))) := by
              obtain ⟨o1, o2, o3⟩ := HO.out
              exact ki2_set HX.out 4 _ (fun v => arrK_set3 k _ _ _ _ m v (.inl hb1)) (by decide) o1 o2 (by omega)
            obtain ⟨W5, hW5⟩ : ∃ W5, wr.setCell ⟨h, 4, none⟩ (.int .i64 (1 + (M : Int))) = W5 := ⟨_, rfl⟩
            rw [hW5] at HW5
            clear HX
            go_wp2_with fail
            try rw [hW5]
            refine ⟨?_, ?_⟩
            · first
              | exact .inr (.inr (.inr (.inl (⟨by go_num, HW5⟩))))
              | exact .inr (.inr (.inr (.inl (⟨rfl, HW5⟩))))
              | ((repeat apply Exists.intro); refine ⟨?_, rfl⟩; exact .inr (.inr (.inr (.inl (⟨by go_num, HW5⟩)))))
            · simp [intOf]
          | false =>
            have cH : wr.cell? ⟨hb, 3, none⟩ = some (.bool false) := by rw [← hb1]; exact HX.out.2.2.1.cell 3
            clear CA HKin
            by_cases hmc : m = 3
            · have bm : ((3 : Int) != (m : Int)) = false := by simp; omega
              have Hmc : Hid (m = 3) := hmc
              clear hmc
              have cX : wr.cell? ⟨w.heap.size, 3, none⟩ = some (.int .i64 x3) := HX.out.2.1.cell 3
              obtain ⟨u, c0⟩ : ∃ u, wr.cell? ⟨h, 4, none⟩ = some u := by obtain ⟨_, _, _, v, t4, _⟩ := HX.out; exact ⟨_, t4.cell 4⟩
              have c1 : wr.frozen? ⟨h, 4, none⟩ = false := by obtain ⟨_, _, _, v, t4, _⟩ := HX.out; exact t4.free 4
              have HW5 : Hid (Ki2 w #[.int .i64 x0, .int .i64 x1, .int .i64 x2, .int .i64 x3] w.heap.size h hb k (g : Int) (1 + (s : Int)) (1 + (e : Int)) (1 + (M : Int)) m 4 (wr.setCell ⟨h, 4, none⟩ (.int .i64 (1 + (M : Int))))) := by
                obtain ⟨o1, o2, o3⟩ := HO.out
                exact ki2_set HX.out 4 _ (fun v => arrK_set3 k _ _ _ _ m v (.inr Hmc.out)) (by decide) o1 o2 (by omega)
              obtain ⟨W5, hW5⟩ : ∃ W5, wr.setCell ⟨h, 4, none⟩ (.int .i64 (1 + (M : Int))) = W5 := ⟨_, rfl⟩
              rw [hW5] at HW5
              clear HX
              go_wp2_with fail
              try rw [hW5]
              refine ⟨?_, ?_⟩
              · first
                | exact .inr (.inr (.inr (.inl (⟨by go_num, HW5⟩))))
                | exact .inr (.inr (.inr (.inl (⟨rfl, HW5⟩))))
                | ((repeat apply Exists.intro); refine ⟨?_, rfl⟩; exact .inr (.inr (.inr (.inl (⟨by go_num, HW5⟩)))))
              · simp [intOf]
            · have bm : ((3 : Int) != (m : Int)) = true := by simp; omega
              have HW5 : Hid (Ki2 w #[.int .i64 x0, .int .i64 x1, .int .i64 x2, .int .i64 x3] w.heap.size h hb k (g : Int) (1 + (s : Int)) (1 + (e : Int)) (1 + (M : Int)) m 4 wr) := ki2_skip HX.out (fun v => arrK_skip3 k _ _ _ _ m v hb1 hmc) (itK_other k m 3 (by decide))
              clear HX hmc
              go_wp2_with fail
              refine ⟨?_, ?_⟩
              · first
                | exact .inr (.inr (.inr (.inl (⟨by go_num, HW5⟩))))
                | exact .inr (.inr (.inr (.inl (⟨rfl, HW5⟩))))
                | ((repeat apply Exists.intro); refine ⟨?_, rfl⟩; exact .inr (.inr (.inr (.inl (⟨by go_num, HW5⟩)))))
              · simp [intOf]
        · cases hb1 : nmK k 4 with
          | true =>
            have cH : wr.cell? ⟨hb, 4, none⟩ = some (.bool true) := by rw [← hb1]; exact HX.out.2.2.1.cell 4
            clear CA HKin
            as_aux_lemma =>
            obtain ⟨u, c0⟩ : ∃ u, wr.cell? ⟨h, 5, none⟩ = some u := by obtain ⟨_, _, _, v, t4, _⟩ := HX.out; exact ⟨_, t4.cell 5⟩
            have c1 : wr.frozen? ⟨h, 5, none⟩ = false := by obtain ⟨_, _, _, v, t4, _⟩ := HX.out; exact t4.free 5
            have HW5 : Hid (Ki2 w #[.int .i64 x0, .int .i64 x1, .int .i64 x2, .int .i64 x3] w.heap.size h hb k (g : Int) (1 + (s : Int)) (1 + (e : Int)) (1 + (M : Int)) m 5 (wr.setCell ⟨h, 5, none⟩ (.string ⟨#[98, 108, 111, 98]⟩))) := by
              obtain ⟨o1, o2, o3⟩ := HO.out
              exact ki2_set HX.out 5 _ (fun v => arrK_set4 k _ _ _ _ m v (.inl hb1)) (by decide) o1 o2 (by omega)
            obtain ⟨W5, hW5⟩ : ∃ W5, wr.setCell ⟨h, 5, none⟩ (.string ⟨#[98, 108, 111, 98]⟩) = W5 := ⟨_, rfl⟩
            rw [hW5] at HW5
            clear HX
            go_wp2_with fail
            try rw [hW5]
            refine ⟨?_, ?_⟩
            · first
              | exact .inr (.inr (.inr (.inr (.inl (⟨by go_num, HW5⟩)))))
              | exact .inr (.inr (.inr (.inr (.inl (⟨rfl, HW5⟩)))))
              | ((repeat apply Exists.intro); refine ⟨?_, rfl⟩; exact .inr (.inr (.inr (.inr (.inl (⟨by go_num, HW5⟩))))))
            · simp [intOf]
          | false =>
            have cH : wr.cell? ⟨hb, 4, none⟩ = some (.bool false) := by rw [← hb1]; exact HX.out.2.2.1.cell 4
            clear CA HKin
            by_cases hmc : m = 4
            · have bm : ((4 : Int) != (m : Int)) = false := by simp; omega
              have Hmc : Hid (m = 4) := hmc
              clear hmc
              obtain ⟨u, c0⟩ : ∃ u, wr.cell? ⟨h, 5, none⟩ = some u := by obtain ⟨_, _, _, v, t4, _⟩ := HX.out; exact ⟨_, t4.cell 5⟩
              have c1 : wr.frozen? ⟨h, 5, none⟩ = false := by obtain ⟨_, _, _, v, t4, _⟩ := HX.out; exact t4.free 5
              have HW5 : Hid (Ki2 w #[.int .i64 x0, .int .i64 x1, .int .i64 x2, .int .i64 x3] w.heap.size h hb k (g : Int) (1 + (s : Int)) (1 + (e : Int)) (1 + (M : Int)) m 5 (wr.setCell ⟨h, 5, none⟩ (.string ⟨#[98, 108, 111, 98]⟩))) := by
                obtain ⟨o1, o2, o3⟩ := HO.out
                exact ki2_set HX.out 5 _ (fun v => arrK_set4 k _ _ _ _ m v (.inr Hmc.out)) (by decide) o1 o2 (by omega)
              obtain ⟨W5, hW5⟩ : ∃ W5, wr.setCell ⟨h, 5, none⟩ (.string ⟨#[98, 108, 111, 98]⟩) = W5 := ⟨_, rfl⟩
              rw [hW5] at HW5
              clear HX
              go_wp2_with fail
              try rw [hW5]
              refine ⟨?_, ?_⟩
              · first
                | exact .inr (.inr (.inr (.inr (.inl (⟨by go_num, HW5⟩)))))
                | exact .inr (.inr (.inr (.inr (.inl (⟨rfl, HW5⟩)))))
                | ((repeat apply Exists.intro); refine ⟨?_, rfl⟩; exact .inr (.inr (.inr (.inr (.inl (⟨by go_num, HW5⟩))))))
              · simp [intOf]
            · have bm : ((4 : Int) != (m : Int)) = true := by simp; omega
              have HW5 : Hid (Ki2 w #[.int .i64 x0, .int .i64 x1, .int .i64 x2, .int .i64 x3] w.heap.size h hb k (g : Int) (1 + (s : Int)) (1 + (e : Int)) (1 + (M : Int)) m 5 wr) := ki2_skip HX.out (fun v => arrK_skip4 k _ _ _ _ m v hb1 hmc) (itK_other k m 4 (by decide))
              clear HX hmc
              go_wp2_with fail
              refine ⟨?_, ?_⟩
              · first
                | exact .inr (.inr (.inr (.inr (.inl (⟨by go_num, HW5⟩)))))
                | exact .inr (.inr (.inr (.inr (.inl (⟨rfl, HW5⟩)))))
                | ((repeat apply Exists.intro); refine ⟨?_, rfl⟩; exact .inr (.inr (.inr (.inr (.inl (⟨by go_num, HW5⟩))))))
              · simp [intOf]
        · cases hb1 : nmK k 5 with
          | true =>
            have cH : wr.cell? ⟨hb, 5, none⟩ = some (.bool true) := by rw [← hb1]; exact HX.out.2.2.1.cell 5
            clear CA HKin
            as_aux_lemma =>
            obtain ⟨u, c0⟩ : ∃ u, (wr.alloc (.cells #[.int .i64 1, .int .i64 2, .string ⟨#[98]⟩] 52)).cell? ⟨h, 6, none⟩ = some u := by obtain ⟨_, _, _, v, t4, _⟩ := HX.out; exact ⟨_, (t4.on (below_new _ _)).cell 6⟩
            have c1 : (wr.alloc (.cells #[.int .i64 1, .int .i64 2, .string ⟨#[98]⟩] 52)).frozen? ⟨h, 6, none⟩ = false := by obtain ⟨_, _, _, v, t4, _⟩ := HX.out; exact (t4.on (below_new _ _)).free 6
            have HW5 : Hid (Ki2 w #[.int .i64 x0, .int .i64 x1, .int .i64 x2, .int .i64 x3] w.heap.size h hb k (g : Int) (1 + (s : Int)) (1 + (e : Int)) (1 + (M : Int)) m 6 ((wr.alloc (.cells #[.int .i64 1, .int .i64 2, .string ⟨#[98]⟩] 52)).setCell ⟨h, 6, none⟩ (.slice (some ⟨wr.heap.size, 0, none⟩) 1 1))) := by
              obtain ⟨o1, o2, o3⟩ := HO.out
              exact ki2_items HX.out (.inl hb1) o1 o2 (by omega)
            clear HX
            go_wp2_with fail
            refine ⟨?_, ?_⟩
            · first
              | exact .inr (.inr (.inr (.inr (.inr (.inl (⟨by go_num, HW5⟩))))))
              | exact .inr (.inr (.inr (.inr (.inr (.inl (⟨rfl, HW5⟩))))))
              | ((repeat apply Exists.intro); refine ⟨?_, rfl⟩; exact .inr (.inr (.inr (.inr (.inr (.inl (⟨by go_num, HW5⟩)))))))
            · simp [intOf]
          | false =>
            have cH : wr.cell? ⟨hb, 5, none⟩ = some (.bool false) := by rw [← hb1]; exact HX.out.2.2.1.cell 5
            clear CA HKin
            by_cases hmc : m = 5
            · have bm : ((5 : Int) != (m : Int)) = false := by simp; omega
              have Hmc : Hid (m = 5) := hmc
              clear hmc
              obtain ⟨u, c0⟩ : ∃ u, (wr.alloc (.cells #[.int .i64 1, .int .i64 2, .string ⟨#[98]⟩] 52)).cell? ⟨h, 6, none⟩ = some u := by obtain ⟨_, _, _, v, t4, _⟩ := HX.out; exact ⟨_, (t4.on (below_new _ _)).cell 6⟩
              have c1 : (wr.alloc (.cells #[.int .i64 1, .int .i64 2, .string ⟨#[98]⟩] 52)).frozen? ⟨h, 6, none⟩ = false := by obtain ⟨_, _, _, v, t4, _⟩ := HX.out; exact (t4.on (below_new _ _)).free 6
              have HW5 : Hid (Ki2 w #[.int .i64 x0, .int .i64 x1, .int .i64 x2, .int .i64 x3] w.heap.size h hb k (g : Int) (1 + (s : Int)) (1 + (e : Int)) (1 + (M : Int)) m 6 ((wr.alloc (.cells #[.int .i64 1, .int .i64 2, .string ⟨#[98]⟩] 52)).setCell ⟨h, 6, none⟩ (.slice (some ⟨wr.heap.size, 0, none⟩) 1 1))) := by
                obtain ⟨o1, o2, o3⟩ := HO.out
                exact ki2_items HX.out (.inr Hmc.out) o1 o2 (by omega)
              clear HX
              go_wp2_with fail
              refine ⟨?_, ?_⟩
              · first
                | exact .inr (.inr (.inr (.inr (.inr (.inl (⟨by go_num, HW5⟩))))))
                | exact .inr (.inr (.inr (.inr (.inr (.inl (⟨rfl, HW5⟩))))))
                | ((repeat apply Exists.intro); refine ⟨?_, rfl⟩; exact .inr (.inr (.inr (.inr (.inr (.inl (⟨by go_num, HW5⟩)))))))
              · simp [intOf]
            · have bm : ((5 : Int) != (m : Int)) = true := by simp; omega
              have HW5 : Hid (Ki2 w #[.int .i64 x0, .int .i64 x1, .int .i64 x2, .int .i64 x3] w.heap.size h hb k (g : Int) (1 + (s : Int)) (1 + (e : Int)) (1 + (M : Int)) m 6 wr) := ki2_skip HX.out (fun v => arrK_skip5 k _ _ _ _ m v hb1 hmc) ((itK_none k m).trans (itK_skip k m hb1 hmc).symm)
              clear HX hmc
              go_wp2_with fail
              refine ⟨?_, ?_⟩
              · first
                | exact .inr (.inr (.inr (.inr (.inr (.inl (⟨by go_num, HW5⟩))))))
                | exact .inr (.inr (.inr (.inr (.inr (.inl (⟨rfl, HW5⟩))))))
                | ((repeat apply Exists.intro); refine ⟨?_, rfl⟩; exact .inr (.inr (.inr (.inr (.inr (.inl (⟨by go_num, HW5⟩)))))))
              · simp [intOf]
        · cases hb1 : nmK k 6 with
          | true =>
            have cH : wr.cell? ⟨hb, 6, none⟩ = some (.bool true) := by rw [← hb1]; exact HX.out.2.2.1.cell 6
            clear CA HKin
            as_aux_lemma =>
            obtain ⟨u, c0⟩ : ∃ u, wr.cell? ⟨h, 7, none⟩ = some u := by obtain ⟨_, _, _, v, t4, _⟩ := HX.out; exact ⟨_, t4.cell 7⟩
            have c1 : wr.frozen? ⟨h, 7, none⟩ = false := by obtain ⟨_, _, _, v, t4, _⟩ := HX.out; exact t4.free 7
            have HW5 : Hid (Ki2 w #[.int .i64 x0, .int .i64 x1, .int .i64 x2, .int .i64 x3] w.heap.size h hb k (g : Int) (1 + (s : Int)) (1 + (e : Int)) (1 + (M : Int)) m 7 (wr.setCell ⟨h, 7, none⟩ (.int .i64 210))) := by
              obtain ⟨o1, o2, o3⟩ := HO.out
              exact ki2_set HX.out 7 _ (fun v => arrK_set6 k _ _ _ _ m v (.inl hb1)) (by decide) o1 o2 (by omega)
            obtain ⟨W5, hW5⟩ : ∃ W5, wr.setCell ⟨h, 7, none⟩ (.int .i64 210) = W5 := ⟨_, rfl⟩
            rw [hW5] at HW5
            clear HX
            go_wp2_with fail
            try rw [hW5]
            refine ⟨?_, ?_⟩
            · first
              | exact .inr (.inr (.inr (.inr (.inr (.inr (⟨by go_num, HW5⟩))))))
              | exact .inr (.inr (.inr (.inr (.inr (.inr (⟨rfl, HW5⟩))))))
              | ((repeat apply Exists.intro); refine ⟨?_, rfl⟩; exact .inr (.inr (.inr (.inr (.inr (.inr (⟨by go_num, HW5⟩)))))))
            · simp [intOf]
          | false =>
            have cH : wr.cell? ⟨hb, 6, none⟩ = some (.bool false) := by rw [← hb1]; exact HX.out.2.2.1.cell 6
            clear CA HKin
            by_cases hmc : m = 6
            · have bm : ((6 : Int) != (m : Int)) = false := by simp; omega
              have Hmc : Hid (m = 6) := hmc
              clear hmc
              obtain ⟨u, c0⟩ : ∃ u, wr.cell? ⟨h, 7, none⟩ = some u := by obtain ⟨_, _, _, v, t4, _⟩ := HX.out; exact ⟨_, t4.cell 7⟩
              have c1 : wr.frozen? ⟨h, 7, none⟩ = false := by obtain ⟨_, _, _, v, t4, _⟩ := HX.out; exact t4.free 7
              have HW5 : Hid (Ki2 w #[.int .i64 x0, .int .i64 x1, .int .i64 x2, .int .i64 x3] w.heap.size h hb k (g : Int) (1 + (s : Int)) (1 + (e : Int)) (1 + (M : Int)) m 7 (wr.setCell ⟨h, 7, none⟩ (.int .i64 210))) := by
                obtain ⟨o1, o2, o3⟩ := HO.out
                exact ki2_set HX.out 7 _ (fun v => arrK_set6 k _ _ _ _ m v (.inr Hmc.out)) (by decide) o1 o2 (by omega)
              obtain ⟨W5, hW5⟩ : ∃ W5, wr.setCell ⟨h, 7, none⟩ (.int .i64 210) = W5 := ⟨_, rfl⟩
              rw [hW5] at HW5
              clear HX
              go_wp2_with fail
              try rw [hW5]
              refine ⟨?_, ?_⟩
              · first
                | exact .inr (.inr (.inr (.inr (.inr (.inr (⟨by go_num, HW5⟩))))))
                | exact .inr (.inr (.inr (.inr (.inr (.inr (⟨rfl, HW5⟩))))))
                | ((repeat apply Exists.intro); refine ⟨?_, rfl⟩; exact .inr (.inr (.inr (.inr (.inr (.inr (⟨by go_num, HW5⟩)))))))
              · simp [intOf]
            · have bm : ((6 : Int) != (m : Int)) = true := by simp; omega
              have HW5 : Hid (Ki2 w #[.int .i64 x0, .int .i64 x1, .int .i64 x2, .int .i64 x3] w.heap.size h hb k (g : Int) (1 + (s : Int)) (1 + (e : Int)) (1 + (M : Int)) m 7 wr) := ki2_skip HX.out (fun v => arrK_skip6 k _ _ _ _ m v hb1 hmc) (itK_other k m 6 (by decide))
              clear HX hmc
              go_wp2_with fail
              refine ⟨?_, ?_⟩
              · first
                | exact .inr (.inr (.inr (.inr (.inr (.inr (⟨by go_num, HW5⟩))))))
                | exact .inr (.inr (.inr (.inr (.inr (.inr (⟨rfl, HW5⟩))))))
                | ((repeat apply Exists.intro); refine ⟨?_, rfl⟩; exact .inr (.inr (.inr (.inr (.inr (.inr (⟨by go_num, HW5⟩)))))))
              · simp [intOf]
        · clear hs0 he0 hM0
          obtain ⟨Sv, Ev, Mv, er, bl, harr, hb4, hyes, hno⟩ := HKin.out
          obtain ⟨t1, t2, t3, v, t4, t5⟩ := HX.out
          rw [harr v] at t4
          have hz := itK_fit k m 7
          have hl1 := itK_len k m 7
          have bm0 : (0 : Int) ≤ (m : Int) := by omega
          have bm7 : (m : Int) < 7 := by have := HM6.out.2; omega
          obtain ⟨it, hit⟩ : ∃ it, itK k m 7 = it := ⟨_, rfl⟩
          rw [hit] at t5 hyes hno hl1
          simp only [hit] at hz
          obtain ⟨a, c, rfl, hc, hI⟩ := t5.at
          obtain ⟨n1, hn1⟩ : ∃ n1, it.length = n1 := ⟨_, rfl⟩
          rw [hn1] at t4 hc hI hl1
          have cM : ∀ W, Blk W 50 hb #[.bool false, .bool (nmK k 1), .bool (nmK k 2), .bool (nmK k 3), .bool (nmK k 4), .bool (nmK k 5), .bool (nmK k 6)] → W.cell? ⟨hb, m, none⟩ = some (.bool (nmK k m)) := fun W hW => by
            rw [hW.cell m]
            exact has_at k m HM6.out
          obtain ⟨Kd, hKd⟩ : ∃ Kd : Int, 1 + (k : Int) = Kd := ⟨_, rfl⟩
          rw [hKd] at t4 hyes hno
          clear hit HX HKin HM6 HO HK9 hKd
          cases hb1 : nmK k m with
          | false =>
            have CP : Hid (∀ (a : Option Addr) (c : Nat) (W : World), ItsAt W a n1 it → _) := kinP_any Kd (g : Int) Sv Ev Mv er bl it n1 hn1 (by omega) hz hb4 ⟨#[]⟩ 1 (hno hb1)
            have d0 : wr.cell? ⟨h, 0, none⟩ = some (.int .i64 Kd) := t4.cell 0
            have d1 : wr.cell? ⟨h, 1, none⟩ = some (.int .i64 (g : Int)) := t4.cell 1
            have d2 : wr.cell? ⟨h, 2, none⟩ = some (.int .i64 Sv) := t4.cell 2
            have d3 : wr.cell? ⟨h, 3, none⟩ = some (.int .i64 Ev) := t4.cell 3
            have d4 : wr.cell? ⟨h, 4, none⟩ = some (.int .i64 Mv) := t4.cell 4
            have d5 : wr.cell? ⟨h, 5, none⟩ = some (.string bl) := t4.cell 5
            have d6 : wr.cell? ⟨h, 6, none⟩ = some (.slice a n1 c) := t4.cell 6
            have d7 : wr.cell? ⟨h, 7, none⟩ = some (.int .i64 er) := t4.cell 7
            have HIt : Hid (ItsAt wr a n1 it) := hI
            have HLC : Hid (n1 ≤ c) := hc
            have HBr : Hid (Below w.heap.size w wr) := t1
            have HFr : Hid (Blk wr 41 h #[.int .i64 Kd, .int .i64 (g : Int), .int .i64 Sv, .int .i64 Ev, .int .i64 Mv, .string bl, .slice a n1 c, .int .i64 er]) := t4
            have HCM : Hid (∀ W, Blk W 50 hb #[.bool false, .bool (nmK k 1), .bool (nmK k 2), .bool (nmK k 3), .bool (nmK k 4), .bool (nmK k 5), .bool (nmK k 6)] → W.cell? ⟨hb, m, none⟩ = some (.bool false)) := fun W hW => by rw [← hb1]; exact cM W hW
            have HHr : Hid (Blk wr 50 hb #[.bool false, .bool (nmK k 1), .bool (nmK k 2), .bool (nmK k 3), .bool (nmK k 4), .bool (nmK k 5), .bool (nmK k 6)]) := t3
            clear t1 t2 t3 t4 t5 hc hI hb1 cM hz hl1 hn1 hyes hno hb4 harr
            go_wp2_with fail
            clear d0 d1 d2 d3 d4 d5 d6 d7
            refine (CP.out a c wr HIt.out).mono ?_
            rintro ee w2 ⟨rfl, hbb⟩
            have HB2 : Hid (Below w.heap.size w w2) := below_step HBr.out (Nat.le_refl _) hbb
            have HF2 : Hid (Blk w2 41 h #[.int .i64 Kd, .int .i64 (g : Int), .int .i64 Sv, .int .i64 Ev, .int .i64 Mv, .string bl, .slice a n1 c, .int .i64 er]) := HFr.out.on hbb
            have HI2 : Hid (ItsAt w2 a n1 it) := HIt.out.below hbb
            have cM2 : w2.cell? ⟨hb, m, none⟩ = some (.bool false) := HCM.out w2 (HHr.out.on hbb)
            clear hbb HBr HFr HIt CP HCM HHr
            as_aux_lemma =>
            go_wp2_with fail
            refine (CA.out w2 HB2.out).mono ?_
            rintro ee w9 ⟨rfl, hb9⟩
            go_wp2_with fail
            go_ret
            exact ⟨rfl, hb9⟩
          | true =>
            obtain ⟨S, hS, hSs⟩ := hyes hb1
            have CP : Hid (∀ (a : Option Addr) (c : Nat) (W : World), ItsAt W a n1 it → _) := kinP_any Kd (g : Int) Sv Ev Mv er bl it n1 hn1 (by omega) hz hb4 S 0 hS
            have CT : Hid (∀ (W : World), _) := kinT_any Kd (g : Int) Sv Ev Mv er bl it n1 hn1 S hSs hS
            have CS : Hid (∀ (a a1 : Option Addr) (c c1 : Nat) (W : World), n1 ≤ c → n1 ≤ c1 → ItsAt W a n1 it → ItsAt W a1 n1 it → _) := kinS_any Kd (g : Int) Sv Ev Mv er bl it n1 hn1 (by omega)
            clear hS hSs
            have d0 : wr.cell? ⟨h, 0, none⟩ = some (.int .i64 Kd) := t4.cell 0
            have d1 : wr.cell? ⟨h, 1, none⟩ = some (.int .i64 (g : Int)) := t4.cell 1
            have d2 : wr.cell? ⟨h, 2, none⟩ = some (.int .i64 Sv) := t4.cell 2
            have d3 : wr.cell? ⟨h, 3, none⟩ = some (.int .i64 Ev) := t4.cell 3
            have d4 : wr.cell? ⟨h, 4, none⟩ = some (.int .i64 Mv) := t4.cell 4
            have d5 : wr.cell? ⟨h, 5, none⟩ = some (.string bl) := t4.cell 5
            have d6 : wr.cell? ⟨h, 6, none⟩ = some (.slice a n1 c) := t4.cell 6
            have d7 : wr.cell? ⟨h, 7, none⟩ = some (.int .i64 er) := t4.cell 7
            have HIt : Hid (ItsAt wr a n1 it) := hI
            have HLC : Hid (n1 ≤ c) := hc
            have HBr : Hid (Below w.heap.size w wr) := t1
            have HFr : Hid (Blk wr 41 h #[.int .i64 Kd, .int .i64 (g : Int), .int .i64 Sv, .int .i64 Ev, .int .i64 Mv, .string bl, .slice a n1 c, .int .i64 er]) := t4
            have HCM : Hid (∀ W, Blk W 50 hb #[.bool false, .bool (nmK k 1), .bool (nmK k 2), .bool (nmK k 3), .bool (nmK k 4), .bool (nmK k 5), .bool (nmK k 6)] → W.cell? ⟨hb, m, none⟩ = some (.bool true)) := fun W hW => by rw [← hb1]; exact cM W hW
            have HHr : Hid (Blk wr 50 hb #[.bool false, .bool (nmK k 1), .bool (nmK k 2), .bool (nmK k 3), .bool (nmK k 4), .bool (nmK k 5), .bool (nmK k 6)]) := t3
            clear t1 t2 t3 t4 t5 hc hI hb1 cM hz hl1 hn1 hyes hno hb4 harr
            go_wp2_with fail
            clear d0 d1 d2 d3 d4 d5 d6 d7
            refine (CP.out a c wr HIt.out).mono ?_
            rintro ee w2 ⟨rfl, hbb⟩
            have HB2 : Hid (Below w.heap.size w w2) := below_step HBr.out (Nat.le_refl _) hbb
            have HF2 : Hid (Blk w2 41 h #[.int .i64 Kd, .int .i64 (g : Int), .int .i64 Sv, .int .i64 Ev, .int .i64 Mv, .string bl, .slice a n1 c, .int .i64 er]) := HFr.out.on hbb
            have HI2 : Hid (ItsAt w2 a n1 it) := HIt.out.below hbb
            have cM2 : w2.cell? ⟨hb, m, none⟩ = some (.bool true) := HCM.out w2 (HHr.out.on hbb)
            clear hbb HBr HFr HIt CP HCM HHr
            as_aux_lemma =>
            go_wp2_with fail
            clear cM2
            refine (CT.out w2).mono ?_
            rintro ee w3 ⟨a1, c1, rfl, hc1, hi1, hbb⟩
            have HB3 : Hid (Below w.heap.size w w3) := below_step HB2.out (Nat.le_refl _) hbb
            have hF3 : Blk w3 41 h #[.int .i64 Kd, .int .i64 (g : Int), .int .i64 Sv, .int .i64 Ev, .int .i64 Mv, .string bl, .slice a n1 c, .int .i64 er] := HF2.out.on hbb
            have HI3 : Hid (ItsAt w3 a n1 it) := HI2.out.below hbb
            have HJ3 : Hid (ItsAt w3 a1 n1 it) := hi1
            have HC1 : Hid (n1 ≤ c1) := hc1
            clear hbb HB2 HF2 HI2 CT hi1 hc1
            have X2 : Blk (w3.alloc (.cells #[.int .i64 0, .int .i64 0, .int .i64 0, .int .i64 0, .int .i64 0, .string ⟨#[]⟩, .slice none 0 0, .int .i64 0] 41)) 41 w3.heap.size #[.int .i64 0, .int .i64 0, .int .i64 0, .int .i64 0, .int .i64 0, .string ⟨#[]⟩, .slice none 0 0, .int .i64 0] := Blk.new _ _ _
            have hG4 : Blk ((w3.alloc (.cells #[.int .i64 0, .int .i64 0, .int .i64 0, .int .i64 0, .int .i64 0, .string ⟨#[]⟩, .slice none 0 0, .int .i64 0] 41)).setRow w3.heap.size #[.int .i64 Kd, .int .i64 (g : Int), .int .i64 Sv, .int .i64 Ev, .int .i64 Mv, .string bl, .slice a1 n1 c1, .int .i64 er]) 41 w3.heap.size #[.int .i64 Kd, .int .i64 (g : Int), .int .i64 Sv, .int .i64 Ev, .int .i64 Mv, .string bl, .slice a1 n1 c1, .int .i64 er] := X2.setRow _
            have hb4 : Below w3.heap.size w3 ((w3.alloc (.cells #[.int .i64 0, .int .i64 0, .int .i64 0, .int .i64 0, .int .i64 0, .string ⟨#[]⟩, .slice none 0 0, .int .i64 0] 41)).setRow w3.heap.size #[.int .i64 Kd, .int .i64 (g : Int), .int .i64 Sv, .int .i64 Ev, .int .i64 Mv, .string bl, .slice a1 n1 c1, .int .i64 er]) := below_setRow (below_new _ _) (Nat.le_refl _) _
            obtain ⟨w4, hw4⟩ : ∃ w4, (w3.alloc (.cells #[.int .i64 0, .int .i64 0, .int .i64 0, .int .i64 0, .int .i64 0, .string ⟨#[]⟩, .slice none 0 0, .int .i64 0] 41)).setRow w3.heap.size #[.int .i64 Kd, .int .i64 (g : Int), .int .i64 Sv, .int .i64 Ev, .int .i64 Mv, .string bl, .slice a1 n1 c1, .int .i64 er] = w4 := ⟨_, rfl⟩
            rw [hw4] at hG4 hb4
            have HB4 : Hid (Below w.heap.size w w4) := below_step HB3.out (Nat.le_refl _) hb4
            have hF4 : Blk w4 41 h #[.int .i64 Kd, .int .i64 (g : Int), .int .i64 Sv, .int .i64 Ev, .int .i64 Mv, .string bl, .slice a n1 c, .int .i64 er] := hF3.on hb4
            have HI4 : Hid (ItsAt w4 a n1 it) := HI3.out.below hb4
            have HJ4 : Hid (ItsAt w4 a1 n1 it) := HJ3.out.below hb4
            have d0 : w4.cell? ⟨h, 0, none⟩ = some (.int .i64 Kd) := hF4.cell 0
            have d1 : w4.cell? ⟨h, 1, none⟩ = some (.int .i64 (g : Int)) := hF4.cell 1
            have d2 : w4.cell? ⟨h, 2, none⟩ = some (.int .i64 Sv) := hF4.cell 2
            have d3 : w4.cell? ⟨h, 3, none⟩ = some (.int .i64 Ev) := hF4.cell 3
            have d4 : w4.cell? ⟨h, 4, none⟩ = some (.int .i64 Mv) := hF4.cell 4
            have d5 : w4.cell? ⟨h, 5, none⟩ = some (.string bl) := hF4.cell 5
            have d6 : w4.cell? ⟨h, 6, none⟩ = some (.slice a n1 c) := hF4.cell 6
            have d7 : w4.cell? ⟨h, 7, none⟩ = some (.int .i64 er) := hF4.cell 7
            have e0 : w4.cell? ⟨w3.heap.size, 0, none⟩ = some (.int .i64 Kd) := hG4.cell 0
            have e1 : w4.cell? ⟨w3.heap.size, 1, none⟩ = some (.int .i64 (g : Int)) := hG4.cell 1
            have e2 : w4.cell? ⟨w3.heap.size, 2, none⟩ = some (.int .i64 Sv) := hG4.cell 2
            have e3 : w4.cell? ⟨w3.heap.size, 3, none⟩ = some (.int .i64 Ev) := hG4.cell 3
            have e4 : w4.cell? ⟨w3.heap.size, 4, none⟩ = some (.int .i64 Mv) := hG4.cell 4
            have e5 : w4.cell? ⟨w3.heap.size, 5, none⟩ = some (.string bl) := hG4.cell 5
            have e6 : w4.cell? ⟨w3.heap.size, 6, none⟩ = some (.slice a1 n1 c1) := hG4.cell 6
            have e7 : w4.cell? ⟨w3.heap.size, 7, none⟩ = some (.int .i64 er) := hG4.cell 7
            clear hb4 HB3 HI3 HJ3 hF3 hF4 hG4
            go_wp2_with (with_reducible refine wpList_storeBlk rfl 41 _ _ rfl w3.heap.size #[.int .i64 0, .int .i64 0, .int .i64 0, .int .i64 0, .int .i64 0, .string ⟨#[]⟩, .slice none 0 0, .int .i64 0] #[.int .i64 Kd, .int .i64 (g : Int), .int .i64 Sv, .int .i64 Ev, .int .i64 Mv, .string bl, .slice a1 n1 c1, .int .i64 er] (by with_unfolding_all rfl) (by with_unfolding_all rfl) X2 rfl (by kernel_rfl) (by kernel_rfl) ?_)
            try rw [hw4]
            clear hw4 X2 d0 e0 d1 e1 d2 e2 d3 e3 d4 e4 d5 e5 d6 e6 d7 e7
            refine (CS.out a a1 c c1 w4 HLC.out HC1.out HI4.out HJ4.out).mono ?_
            rintro ee w5 ⟨rfl, hbb⟩
            have HB5 : Hid (Below w.heap.size w w5) := below_step HB4.out (Nat.le_refl _) hbb
            clear hbb HB4 CS
            go_wp2_with fail
            refine (CA.out w5 HB5.out).mono ?_
            rintro ee w9 ⟨rfl, hb9⟩
            go_wp2_with fail
            go_ret
            exact ⟨rfl, hb9⟩

end Go.Proofs.YtmjjpfinkpfifaaDoor
