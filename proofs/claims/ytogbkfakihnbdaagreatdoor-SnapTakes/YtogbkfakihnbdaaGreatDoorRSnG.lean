import Derived.Test.YtogbkfakihnbdaaGreatDoorSnQ
import Derived.Test.YtogbkfakihnbdaaGreatDoorRSnB
import Derived.Test.YtogbkfakihnbdaaGreatDoorRSnE
import Derived.Test.YtogbkfakihnbdaaGreatDoorP11
import Derived.Test.YtogbkfakihnbdaaGreatDoorSnK
import Derived.Deep.DeepCutAuto
import Derived.Deep.CutBlock
/- The document's Take (layer 13). -/
namespace Go.Proofs.YtogbkfakihnbdaaGreatDoor
open Go.RowKit
set_option linter.unusedSimpArgs false

theorem inTextP_few (i : ByteArray × Int) : (inTextP i 1024).2.size ≤ 1024 := by
  unfold inTextP
  split
  · exact Nat.zero_le _
  · split
    · exact Nat.zero_le _
    · split
      · exact Nat.zero_le _
      · simp only [ByteArray.size_extract]; omega

theorem readLS_all {α : Type} (rd : ByteArray × Int → (ByteArray × Int) × α) (P : α → Prop) (hp : ∀ i, P (rd i).2) (i : ByteArray × Int) : ∀ k, ∀ x ∈ (readLS rd k i).2, P x := by
  intro k
  induction k with
  | zero => intro x hx; exact absurd hx List.not_mem_nil
  | succ k ih =>
    intro x hx
    have hx : x ∈ (readLS rd k i).2 ++ [(rd (readLS rd k i).1).2] := hx
    rcases List.mem_append.1 hx with hx | hx
    · exact ih x hx
    · rw [List.mem_singleton.1 hx]; exact hp _

theorem readNdP_size (i : ByteArray × Int) : (readNdP i).1.1.size ≤ i.1.size := by
  unfold readNdP
  exact Nat.le_trans (inTextP_size _ _) (Nat.le_trans (inTextP_size _ _) (Nat.le_trans (inStampP_size _) (inStampP_size _)))

theorem readOpP_size (i : ByteArray × Int) : (readOpP i).1.1.size ≤ i.1.size := by
  unfold readOpP
  exact Nat.le_trans (inTextP_size _ _) (Nat.le_trans (inTextP_size _ _) (Nat.le_trans (inStampP_size _) (Nat.le_trans (inStampP_size _) (Nat.le_trans (inStampP_size _) (numberP_size _ _)))))

theorem readSD_sizes (s : ByteArray) : (∀ k, k < (readSD s).1.length → (nL (readSD s).1 k).2.2.1.size ≤ 1024 ∧ (nL (readSD s).1 k).2.2.2.size ≤ 1024) ∧ (∀ k, k < (readSD s).2.1.length → (oL (readSD s).2.1 k).2.2.2.2.1.size ≤ 1024 ∧ (oL (readSD s).2.1 k).2.2.2.2.2.size ≤ 1024) ∧ (readSD s).1.length ≤ 513 ∧ (readSD s).2.1.length ≤ 513 := by
  have hN := readLS_all readNdP (fun x => x.2.2.1.size ≤ 1024 ∧ x.2.2.2.size ≤ 1024) (fun i => ⟨inTextP_few _, inTextP_few _⟩) (sN s).1 (min (sN s).2 513)
  have hO := readLS_all readOpP (fun x => x.2.2.2.2.1.size ≤ 1024 ∧ x.2.2.2.2.2.size ≤ 1024) (fun i => ⟨inTextP_few _, inTextP_few _⟩) (sM s).1 (min (sM s).2 513)
  have lN := readLS_len readNdP (sN s).1 (min (sN s).2 513)
  have lO := readLS_len readOpP (sM s).1 (min (sM s).2 513)
  have eL : readLS readNdP (min (sN s).2 513) (sN s).1 = sL s := by unfold sL; simp only
  have eO : readLS readOpP (min (sM s).2 513) (sM s).1 = sO s := by unfold sO; simp only
  rw [eL] at hN lN
  rw [eO] at hO lO
  have e1 : (readSD s).1 = (sL s).2 := by unfold readSD; simp only
  have e2 : (readSD s).2.1 = (sO s).2 := by unfold readSD; simp only
  rw [e1, e2]
  have m1 : min (sN s).2 513 ≤ 513 := Nat.min_le_right _ _
  have m2 : min (sM s).2 513 ≤ 513 := Nat.min_le_right _ _
  clear eL eO e1 e2
  generalize (sL s).2 = La at hN lN ⊢
  generalize (sO s).2 = Oa at hO lO ⊢
  exact ⟨fun k hk => hN _ (nL_mem _ k hk), fun k hk => hO _ (oL_mem _ k hk), by omega, by omega⟩

/-- What the document's Take holds: its answer's cell, what is read, the tree. -/
structure DkS (w : World) (h : Nat) (i cs : Array Value) (W : World) : Prop where
  z : Blk W 28 h #[.slice none 0 0, .slice none 0 0, .int .i64 0, .int .i64 0]
  x : Blk W 55 (h + 1) i
  y : Blk W 28 (h + 1 + 1) cs
  bel : Below w.heap.size w W
  low : w.heap.size ≤ h

theorem DkS.on {w : World} {h : Nat} {i cs : Array Value} {W W' : World} (k : DkS w h i cs W) (hb : Below W.heap.size W W') : DkS w h i cs W' := ⟨k.z.on hb, k.x.on hb, k.y.on hb, below_step k.bel (Nat.le_refl _) hb, k.low⟩

theorem DkS.onB {w : World} {h B : Nat} {i cs : Array Value} {W W' : World} (k : DkS w h i cs W) (hb : Below B W W') (hB : h + 1 + 1 < B) : DkS w h i cs W' :=
  ⟨k.z.below hb (by omega), k.x.below hb (by omega), k.y.below hb hB, k.bel.trans (hb.mono (by have := k.low; omega)), k.low⟩

theorem DkS.set {w : World} {h : Nat} {i cs : Array Value} {W : World} (k : DkS w h i cs W) (i' : Array Value) : DkS w h i' cs (W.setRow (h + 1) i') :=
  ⟨k.z.setRowOther _ (by omega) _, k.x.setRow _, k.y.setRowOther _ (by omega) _, below_setRow k.bel (by have := k.low; omega) _, k.low⟩

theorem DkS.put {w : World} {h : Nat} {i cs : Array Value} {W : World} (k : DkS w h i cs W) (j : Nat) (u : Value) : DkS w h i (cs.setIfInBounds j u) (W.setCell ⟨h + 1 + 1, j, none⟩ u) := by
  have hl := k.low
  exact ⟨k.z.grown (grown_set W (h + 1 + 1) j u) (fun e => by have := Option.some.inj e; omega), k.x.grown (grown_set W (h + 1 + 1) j u) (fun e => by have := Option.some.inj e; omega), k.y.setAt j u, k.bel.setCell (p := ⟨h + 1 + 1, j, none⟩) (by show w.heap.size ≤ h + 1 + 1; omega) u, k.low⟩

theorem DkS.oth {w : World} {h g : Nat} {i cs : Array Value} {W : World} (k : DkS w h i cs W) (hg : h + 1 + 1 < g) (c : Array Value) : DkS w h i cs (W.setRow g c) :=
  ⟨k.z.setRowOther _ (by omega) _, k.x.setRowOther _ (by omega) _, k.y.setRowOther _ (by omega) _, below_setRow k.bel (by have := k.low; omega) _, k.low⟩

theorem DkS.oth1 {w : World} {h g : Nat} {i cs : Array Value} {W : World} (k : DkS w h i cs W) (hg : h + 1 + 1 < g) (j : Nat) (u : Value) : DkS w h i cs (W.setCell ⟨g, j, none⟩ u) := by
  have hl := k.low
  exact ⟨k.z.grown (grown_set W g j u) (fun e => by have := Option.some.inj e; omega), k.x.grown (grown_set W g j u) (fun e => by have := Option.some.inj e; omega), k.y.grown (grown_set W g j u) (fun e => by have := Option.some.inj e; omega), k.bel.setCell (p := ⟨g, j, none⟩) (by show w.heap.size ≤ g; omega) u, k.low⟩

/-- Within a round: the new item's block beside it; all that was there as it was. -/
structure DnS (w : World) (h : Nat) (t : TypeId) (g : Nat) (V : World) (i cs ns : Array Value) (W : World) : Prop where
  d : DkS w h i cs W
  b : Blk W t g ns
  kv : KeptF (fun k => k = h + 1) V W
  up : V.heap.size ≤ g
  lo : h + 1 + 1 < g

theorem DnS.on {w : World} {h : Nat} {t : TypeId} {g : Nat} {V : World} {i cs ns : Array Value} {W W' : World} (k : DnS w h t g V i cs ns W) (hb : Below W.heap.size W W') : DnS w h t g V i cs ns W' := ⟨k.d.on hb, k.b.on hb, k.kv.on hb, k.up, k.lo⟩

theorem DnS.set {w : World} {h : Nat} {t : TypeId} {g : Nat} {V : World} {i cs ns : Array Value} {W : World} (k : DnS w h t g V i cs ns W) (i' : Array Value) : DnS w h t g V i' cs ns (W.setRow (h + 1) i') :=
  ⟨k.d.set i', k.b.setRowOther _ (by have := k.lo; omega) _, k.kv.grown (grown_setRow W (h + 1) i') (fun j e _ => (Option.some.inj e).symm), k.up, k.lo⟩

theorem DnS.put {w : World} {h : Nat} {t : TypeId} {g : Nat} {V : World} {i cs ns : Array Value} {W : World} (k : DnS w h t g V i cs ns W) (j : Nat) (u : Value) : DnS w h t g V i cs (ns.setIfInBounds j u) (W.setCell ⟨g, j, none⟩ u) :=
  ⟨k.d.oth1 k.lo j u, k.b.setAt j u, k.kv.grown (grown_set W g j u) (fun j e hj => by have := Option.some.inj e; have := k.up; omega), k.up, k.lo⟩

theorem DnS.row {w : World} {h : Nat} {t : TypeId} {g : Nat} {V : World} {i cs ns : Array Value} {W : World} (k : DnS w h t g V i cs ns W) (ns' : Array Value) : DnS w h t g V i cs ns' (W.setRow g ns') :=
  ⟨k.d.oth k.lo ns', k.b.setRow _, k.kv.grown (grown_setRow W g ns') (fun j e hj => by have := Option.some.inj e; have := k.up; omega), k.up, k.lo⟩

theorem DnS.new {w : World} {h : Nat} {t : TypeId} {V : World} {i cs : Array Value} (k : DkS w h i cs V) (ns ns' : Array Value) : DnS w h t V.heap.size V i cs ns' ((V.alloc (.cells ns t)).setRow V.heap.size ns') := by
  have hlo : h + 1 + 1 < V.heap.size := k.y.lt
  exact DnS.row ⟨k.on (below_new _ _), Blk.new _ _ _, (KeptF.refl _ V).on (below_new _ _), Nat.le_refl _, hlo⟩ ns'

/-- What the document's Take answers. -/
def DTake (w' : World) (l : List NodeT) (ops : List OpT) (b1 b2 : Int) (acc : Bool) (e : Ending) : Prop :=
  ∃ a1 c1 a2 c2, NodesAt w' a1 l.length l ∧ OpsAt w' a2 ops.length ops ∧ e = .returned (.tuple #[.agg (if acc = true then #[.slice a1 l.length c1, .slice a2 ops.length c2, .int .i64 b1, .int .i64 b2] else #[.slice none 0 0, .slice none 0 0, .int .i64 0, .int .i64 0]), .int .i64 (if acc = true then 0 else 91)])

set_option maxHeartbeats 16000000 in
set_option maxRecDepth 100000 in
theorem rtake_any (M : OpT → Bool) (hM : ∀ o, M o = true ↔ MayO o) (s : ByteArray) (w : World) (hs : s.size ≤ 65536) (G : Nat → Bool) (Tn : TreeT) (R : Int) (E acc : Bool)
    (HGk : Hid (∀ k, k < (readSD s).1.length → (G k = true ↔ NodeOk (readSD s).1 (readSD s).2.2 k))) (HE0 : Hid ((Tn, R) = ofP M G (readSD s))) (HE : Hid (E = true ↔ RiseO (readSD s).2.1)) (HA : Hid (acc = true ↔ (OkSD s ∧ (decide (R = 0) && E) = true))) :
    Calls Tryz.prog 6 #[.string s] w fun e w' => Below w.heap.size w w' ∧ DTake w' (readSD s).1 (readSD s).2.1 (readSD s).2.2.1 (readSD s).2.2.2 acc e := by
  obtain ⟨hszN, hszO, hl1, hl2⟩ := readSD_sizes s
  have CM : Hid (∀ W a1 a2 c1 c2, NodesAt W a1 (readSD s).1.length (readSD s).1 → OpsAt W a2 (readSD s).2.1.length (readSD s).2.1 → Calls Tryz.prog 25 #[.agg #[.slice a1 (readSD s).1.length c1, .slice a2 (readSD s).2.1.length c2, .int .i64 (readSD s).2.2.1, .int .i64 (readSD s).2.2.2]] W fun e w' => e = .returned (.bool (decide (R = 0) && E)) ∧ Below W.heap.size W w') := fun W a1 a2 c1 c2 h1 h2 =>
    rmay_any M hM G (readSD s).1 (readSD s).2.1 (readSD s).2.2.1 (readSD s).2.2.2 a1 a2 c1 c2 W Tn R E (by omega) HGk (fun k hk => ⟨Nat.le_trans (hszN k hk).1 (by decide), Nat.le_trans (hszN k hk).2 (by decide)⟩) (fun k hk => ⟨Nat.le_trans (hszO k hk).1 (by decide), Nat.le_trans (hszO k hk).2 (by decide)⟩) h1 h2 HE0 HE
  obtain ⟨X, hX⟩ : ∃ X, (decide (R = 0) && E) = X := ⟨_, rfl⟩
  rw [hX] at CM HA
  obtain ⟨⟨⟨Sa, ea⟩, b1, b2⟩, ka⟩ : ∃ p, inStampP (s, 0) = p := ⟨_, rfl⟩
  obtain ⟨⟨⟨Sb, eb⟩, n⟩, kb⟩ : ∃ p, sN s = p := ⟨_, rfl⟩
  obtain ⟨⟨⟨Sc, ec⟩, l⟩, kc⟩ : ∃ p, sL s = p := ⟨_, rfl⟩
  obtain ⟨⟨⟨Sd, ed⟩, m⟩, kd⟩ : ∃ p, sM s = p := ⟨_, rfl⟩
  obtain ⟨⟨⟨Se, ee⟩, ops⟩, ke⟩ : ∃ p, sO s = p := ⟨_, rfl⟩
  have hrd : readSD s = (l, ops, (b1, b2)) := by unfold readSD; rw [ka, kc, ke]
  unfold OkSD at HA
  rw [kb, kc, kd, ke] at HA
  rw [hrd] at CM hl1 hl2 ⊢
  simp only at CM HA hl1 hl2 ⊢
  have za : (s, (0 : Int)).1.size ≤ 1048576 := by show s.size ≤ _; omega
  have zb : (Sa, ea).1.size ≤ 1048576 := Nat.le_trans (by have h := inStampP_size (s, 0); rw [ka] at h; exact h) za
  have kb' : inNumP (Sa, ea) = ((Sb, eb), n) := by have h := kb; unfold sN at h; rw [ka] at h; exact h
  have zc : (Sb, eb).1.size ≤ 1048576 := Nat.le_trans (by have h := inNumP_size (Sa, ea); rw [kb'] at h; exact h) zb
  have kc' : readLS readNdP (min n 513) (Sb, eb) = ((Sc, ec), l) := by have h := kc; unfold sL at h; rw [kb] at h; exact h
  have zd : (Sc, ec).1.size ≤ 1048576 := Nat.le_trans (by have h := readLS_size readNdP readNdP_size (Sb, eb) (min n 513); rw [kc'] at h; exact h) zc
  have kd' : inNumP (Sc, ec) = ((Sd, ed), m) := by have h := kd; unfold sM at h; rw [kc] at h; exact h
  have ze : (Sd, ed).1.size ≤ 1048576 := Nat.le_trans (by have h := inNumP_size (Sc, ec); rw [kd'] at h; exact h) zd
  have ke' : readLS readOpP (min m 513) (Sd, ed) = ((Se, ee), ops) := by have h := ke; unfold sO at h; rw [kd] at h; exact h
  have hln : l.length = min n 513 := by have h := readLS_len readNdP (Sb, eb) (min n 513); rw [kc'] at h; exact h
  have hlo : ops.length = min m 513 := by have h := readLS_len readOpP (Sd, ed) (min m 513); rw [ke'] at h; exact h
  have hn40 : n ≤ 1099511627775 := by
    have h := kb'
    unfold inNumP at h
    split at h
    · cases h; omega
    · have h2 := congrArg Prod.snd h
      have h3 : (numberP (Sa, ea) 6).2 = n := h2
      omega
  have hm40 : m ≤ 1099511627775 := by
    have h := kd'
    unfold inNumP at h
    split at h
    · cases h; omega
    · have h2 := congrArg Prod.snd h
      have h3 : (numberP (Sc, ec) 6).2 = m := h2
      omega
  have CA' : ∀ W, _ := fun W => rinStamp_any (s, 0) W za
  rw [ka] at CA'
  have CB' : ∀ W, _ := fun W => rinNum_any (Sa, ea) W zb
  rw [kb'] at CB'
  have CD' : ∀ W, _ := fun W => rinNum_any (Sc, ec) W zd
  rw [kd'] at CD'
  have CE' : ∀ W, _ := fun W => rinDone_any (Se, ee) W
  obtain ⟨Q, hQ⟩ : ∃ Q, inDoneP (Se, ee) = Q := ⟨_, rfl⟩
  rw [hQ] at CE' HA
  simp only [inV] at CA' CB' CD' CE'
  have CA : Hid (∀ W, _) := CA'
  have CB : Hid (∀ W, _) := CB'
  have CD : Hid (∀ W, _) := CD'
  have CE : Hid (∀ W, _) := CE'
  have HKc : Hid (readLS readNdP (min n 513) (Sb, eb) = ((Sc, ec), l)) := kc'
  have HKe : Hid (readLS readOpP (min m 513) (Sd, ed) = ((Se, ee), ops)) := ke'
  have HLn : Hid (l.length = min n 513) := hln
  have HLo : Hid (ops.length = min m 513) := hlo
  have HZc : Hid ((Sb, eb).1.size ≤ 1048576) := zc
  have HZe : Hid ((Sd, ed).1.size ≤ 1048576) := ze
  have bs : ¬ ((65536 : Int) < (s.size : Int)) := by omega
  clear CA' CB' CD' CE' ka kb kc kd ke kb' kc' kd' ke' hrd za zb zc zd ze hln hlo hszN hszO hl1 hl2 HGk HE0 HE hX hQ hM hs
  have XA : Blk ((w.alloc (.cells #[.slice none 0 0, .slice none 0 0, .int .i64 0, .int .i64 0] 28)).alloc (.cells #[.string ⟨#[]⟩, .int .i64 0] 55)) 55 (w.heap.size + 1) #[.string ⟨#[]⟩, .int .i64 0] := Blk.new' _ _ _ _ (by rw [World.size_alloc])
  have XB : Blk ((((w.alloc (.cells #[.slice none 0 0, .slice none 0 0, .int .i64 0, .int .i64 0] 28)).alloc (.cells #[.string ⟨#[]⟩, .int .i64 0] 55)).setRow (w.heap.size + 1) #[.string s, .int .i64 0]).alloc (.cells #[.slice none 0 0, .slice none 0 0, .int .i64 0, .int .i64 0] 28)) 28 (w.heap.size + 1 + 1) #[.slice none 0 0, .slice none 0 0, .int .i64 0, .int .i64 0] := Blk.new' _ _ _ _ (by simp [World.setRow])
  obtain ⟨W0, hW0⟩ : ∃ W0, ((((w.alloc (.cells #[.slice none 0 0, .slice none 0 0, .int .i64 0, .int .i64 0] 28)).alloc (.cells #[.string ⟨#[]⟩, .int .i64 0] 55)).setRow (w.heap.size + 1) #[.string s, .int .i64 0]).alloc (.cells #[.slice none 0 0, .slice none 0 0, .int .i64 0, .int .i64 0] 28)).setRow (w.heap.size + 1 + 1) #[.slice none 0 0, .slice none 0 0, .int .i64 0, .int .i64 0] = W0 := ⟨_, rfl⟩
  have HS0 : Hid (DkS w w.heap.size #[.string s, .int .i64 0] #[.slice none 0 0, .slice none 0 0, .int .i64 0, .int .i64 0] W0) := by
    show DkS _ _ _ _ _
    rw [← hW0]
    refine ⟨?_, ?_, ?_, ?_, Nat.le_refl _⟩
    · exact ((((Blk.new' _ _ _ _ rfl).on (below_new _ _)).setRowOther _ (by omega) _).on (below_new _ _)).setRowOther _ (by omega) _
    · exact ((XA.setRow _).on (below_new _ _)).setRowOther _ (by omega) _
    · exact XB.setRow _
    · exact below_setRow ((below_setRow ((below_new _ _).alloc (by simp only [World.size_alloc]; omega) _) (by omega) _).alloc (by simp [World.setRow]; omega) _) (by omega) _
  have q0 : W0.cell? ⟨w.heap.size + 1, 0, none⟩ = some (.string s) := HS0.out.x.cell 0
  have q1 : W0.cell? ⟨w.heap.size + 1, 1, none⟩ = some (.int .i64 0) := HS0.out.x.cell 1
  have szR : ∀ (W : World) (g : Nat) (c : Array Value), (W.setRow g c).heap.size = W.heap.size := fun W g c => by simp [World.setRow]
  go_enter Tryz.func6, Tryz.ntmps6
  go_wp2_with (first
    | (with_reducible refine wpList_storeBlk rfl 55 _ _ rfl (w.heap.size + 1) #[.string ⟨#[]⟩, .int .i64 0] #[.string s, .int .i64 0] (by with_unfolding_all rfl) (by with_unfolding_all rfl) XA rfl (by kernel_rfl) (by kernel_rfl) ?_)
    | (with_reducible refine wpList_storeBlk rfl 28 _ _ rfl (w.heap.size + 1 + 1) #[.slice none 0 0, .slice none 0 0, .int .i64 0, .int .i64 0] #[.slice none 0 0, .slice none 0 0, .int .i64 0, .int .i64 0] (by with_unfolding_all rfl) (by with_unfolding_all rfl) XB rfl (by kernel_rfl) (by kernel_rfl) ?_))
  obtain ⟨h, hh⟩ : ∃ h, w.heap.size = h := ⟨_, rfl⟩
  have HS : Hid (DkS w h #[.string s, .int .i64 0] #[.slice none 0 0, .slice none 0 0, .int .i64 0, .int .i64 0] W0) := by show DkS _ _ _ _ _; rw [← hh]; exact HS0.out
  try rw [hW0]
  try rw [hh]
  clear hW0 hh XA XB HS0 q0 q1 szR
  refine (CA.out W0).mono ?_
  rintro e U0 ⟨rfl, hb⟩
  have HU : Hid (DkS w h #[.string s, .int .i64 0] #[.slice none 0 0, .slice none 0 0, .int .i64 0, .int .i64 0] U0) := HS.out.on hb
  have X1 := HU.out.x
  clear hb HS CA
  have HV : Hid (DkS w h #[.string Sa, .int .i64 ea] #[.slice none 0 0, .slice none 0 0, .int .i64 0, .int .i64 0] (U0.setRow (h + 1) #[.string Sa, .int .i64 ea])) := HU.out.set _
  have y2 : (U0.setRow (h + 1) #[.string Sa, .int .i64 ea]).cell? ⟨h + 1 + 1, 2, none⟩ = some _ := HV.out.y.cell 2
  have v2 : (U0.setRow (h + 1) #[.string Sa, .int .i64 ea]).frozen? ⟨h + 1 + 1, 2, none⟩ = false := HV.out.y.free 2
  have y3 : ((U0.setRow (h + 1) #[.string Sa, .int .i64 ea]).setCell ⟨h + 1 + 1, 2, none⟩ (.int .i64 b1)).cell? ⟨h + 1 + 1, 3, none⟩ = some _ := (HV.out.put 2 (.int .i64 b1)).y.cell 3
  have v3 : ((U0.setRow (h + 1) #[.string Sa, .int .i64 ea]).setCell ⟨h + 1 + 1, 2, none⟩ (.int .i64 b1)).frozen? ⟨h + 1 + 1, 3, none⟩ = false := (HV.out.put 2 (.int .i64 b1)).y.free 3
  have HS : Hid (DkS w h #[.string Sa, .int .i64 ea] #[.slice none 0 0, .slice none 0 0, .int .i64 b1, .int .i64 b2] (((U0.setRow (h + 1) #[.string Sa, .int .i64 ea]).setCell ⟨h + 1 + 1, 2, none⟩ (.int .i64 b1)).setCell ⟨h + 1 + 1, 3, none⟩ (.int .i64 b2))) := (HV.out.put 2 (.int .i64 b1)).put 3 (.int .i64 b2)
  obtain ⟨W1, hW1⟩ : ∃ W, (((U0.setRow (h + 1) #[.string Sa, .int .i64 ea]).setCell ⟨h + 1 + 1, 2, none⟩ (.int .i64 b1)).setCell ⟨h + 1 + 1, 3, none⟩ (.int .i64 b2)) = W := ⟨_, rfl⟩
  rw [hW1] at HS
  have q0 : W1.cell? ⟨h + 1, 0, none⟩ = some (.string Sa) := HS.out.x.cell 0
  have q1 : W1.cell? ⟨h + 1, 1, none⟩ = some (.int .i64 ea) := HS.out.x.cell 1
  go_wp2_with (with_reducible refine wpList_storeBlk rfl 55 _ _ rfl (h + 1) #[.string s, .int .i64 0] #[.string Sa, .int .i64 ea] (by with_unfolding_all rfl) (by with_unfolding_all rfl) X1 rfl (by kernel_rfl) (by kernel_rfl) ?_)
  try rw [hW1]
  clear hW1 HU HV X1 q0 q1 y2 v2 y3 v3
  refine (CB.out W1).mono ?_
  rintro e U1 ⟨rfl, hb⟩
  have HU : Hid (DkS w h #[.string Sa, .int .i64 ea] #[.slice none 0 0, .slice none 0 0, .int .i64 b1, .int .i64 b2] U1) := HS.out.on hb
  have X1 := HU.out.x
  clear hb HS CB
  have HS2 : Hid (DkS w h #[.string Sb, .int .i64 eb] #[.slice none 0 0, .slice none 0 0, .int .i64 b1, .int .i64 b2] (U1.setRow (h + 1) #[.string Sb, .int .i64 eb])) := HU.out.set _
  go_upto_block 0 with (with_reducible refine wpList_storeBlk rfl 55 _ _ rfl (h + 1) #[.string Sa, .int .i64 ea] #[.string Sb, .int .i64 eb] (by with_unfolding_all rfl) (by with_unfolding_all rfl) X1 rfl (by kernel_rfl) (by kernel_rfl) ?_)
  obtain ⟨W2, hW2⟩ : ∃ W, (U1.setRow (h + 1) #[.string Sb, .int .i64 eb]) = W := ⟨_, rfl⟩
  rw [hW2] at HS2
  try rw [hW2]
  clear hW2 HU X1
  obtain ⟨B, hB⟩ : ∃ B, W2.heap.size = B := ⟨_, rfl⟩
  have HBh : Hid (h + 1 + 1 < B) := by show _ < _; rw [← hB]; exact HS2.out.y.lt
  have HBw0 : Hid (B ≤ W2.heap.size) := by show _ ≤ _; omega
  clear hB
  obtain ⟨i0, hi, hz0, hz1, hz2⟩ := info_parts Tryz.infoNode
  obtain ⟨N1, hN1⟩ : ∃ N1, min n 513 = N1 := ⟨_, rfl⟩
  have hN2 : N1 ≤ 513 ∧ N1 ≤ n ∧ (N1 = n ∨ N1 = 513) := by omega
  rw [hN1] at HKc HLn
  clear hN1
  go_cut [7] (fun kv wx => ∃ (a1 : Option Addr) (c1 : Nat), kv = .int .i64 N1 ∧ Hid (OwnN wx B (.slice a1 N1 c1) l) ∧ Hid (DkS w h #[.string Sc, .int .i64 ec] #[.slice a1 N1 c1, .slice none 0 0, .int .i64 b1, .int .i64 b2] wx) ∧ Hid (B ≤ wx.heap.size))
  case first =>
   go_wp2_with fail
   go_loopw [7] (fun i wr => ∃ (k c1 : Nat) (a1 : Option Addr) (S : ByteArray) (c : Int) (lk : List NodeT), k ≤ N1 ∧ i = .int .i64 k ∧ Hid (readLS readNdP k (Sb, eb) = ((S, c), lk)) ∧ Hid (OwnN wr B (.slice a1 k c1) lk) ∧ Hid (DkS w h #[.string S, .int .i64 c] #[.slice a1 k c1, .slice none 0 0, .int .i64 b1, .int .i64 b2] wr) ∧ Hid (B ≤ wr.heap.size)) (fun i _ => 513 - (intOf i).toNat)
   case atStart => exact ⟨0, 0, none, Sb, eb, [], Nat.zero_le _, rfl, rfl, World.ownsRow_nil _ _ _ _, HS2, HBw0⟩
   case round =>
     clear HS2 HBw0
     obtain ⟨k, c1, a1, S, c, lk, hk, rfl, HR, HO, HS, HBw⟩ := hrel
     have HLk : Hid (lk.length = k) := by have h := readLS_len readNdP (Sb, eb) k; rw [HR.out] at h; exact h
     by_cases hlt : k < N1
     · have b0 : (k : Int) < (n : Int) := by omega
       have b3 : (k : Int) ≤ 512 := by omega
       have z0 : (S, c).1.size ≤ 1048576 := Nat.le_trans (by have h := readLS_size readNdP readNdP_size (Sb, eb) k; rw [HR.out] at h; exact h) HZc.out
       obtain ⟨⟨⟨S1, e1⟩, x0, x1⟩, r1⟩ : ∃ p, inStampP (S, c) = p := ⟨_, rfl⟩
       have z1 : (S1, e1).1.size ≤ 1048576 := Nat.le_trans (by have h := inStampP_size (S, c); rw [r1] at h; exact h) z0
       obtain ⟨⟨⟨S2, e2⟩, x2, x3⟩, r2⟩ : ∃ p, inStampP (S1, e1) = p := ⟨_, rfl⟩
       have z2 : (S2, e2).1.size ≤ 1048576 := Nat.le_trans (by have h := inStampP_size (S1, e1); rw [r2] at h; exact h) z1
       obtain ⟨⟨⟨S3, e3⟩, x4⟩, r3⟩ : ∃ p, inTextP (S2, e2) 1024 = p := ⟨_, rfl⟩
       have z3 : (S3, e3).1.size ≤ 1048576 := Nat.le_trans (by have h := inTextP_size (S2, e2) 1024; rw [r3] at h; exact h) z2
       obtain ⟨⟨⟨S4, e4⟩, x5⟩, r4⟩ : ∃ p, inTextP (S3, e3) 1024 = p := ⟨_, rfl⟩
       have HR' : Hid (readLS readNdP (k + 1) (Sb, eb) = ((S4, e4), lk ++ [((x0, x1), (x2, x3), x4, x5)])) := by
         show ((readNdP (readLS readNdP k (Sb, eb)).1).1, (readLS readNdP k (Sb, eb)).2 ++ [(readNdP (readLS readNdP k (Sb, eb)).1).2]) = _
         rw [HR.out]
         unfold readNdP
         simp only [r1, r2, r3, r4]
       have C1' : ∀ W, _ := fun W => rinStamp_any (S, c) W z0
       rw [r1] at C1'
       have C2' : ∀ W, _ := fun W => rinStamp_any (S1, e1) W z1
       rw [r2] at C2'
       have C3' : ∀ W, _ := fun W => rinText_any (S2, e2) 1024 W z2
       rw [r3] at C3'
       have C4' : ∀ W, _ := fun W => rinText_any (S3, e3) 1024 W z3
       rw [r4] at C4'
       simp only [inV] at C1' C2' C3' C4'
       have C1 : Hid (∀ W, _) := C1'
       have C2 : Hid (∀ W, _) := C2'
       have C3 : Hid (∀ W, _) := C3'
       have C4 : Hid (∀ W, _) := C4'
       obtain ⟨CS, hCS⟩ : ∃ CS : Array Value, #[.slice a1 k c1, .slice none 0 0, .int .i64 b1, .int .i64 b2] = CS := ⟨_, rfl⟩
       have HCS : Hid (#[.slice a1 k c1, .slice none 0 0, .int .i64 b1, .int .i64 b2] = CS) := hCS
       rw [hCS] at HS
       clear C1' C2' C3' C4' r1 r2 r3 r4 z0 z1 z2 z3 hCS HR
       have XN : Blk (wr.alloc (.cells #[.int .i64 0, .int .i64 0, .int .i64 0, .int .i64 0, .string ⟨#[]⟩, .string ⟨#[]⟩] 47)) 47 wr.heap.size #[.int .i64 0, .int .i64 0, .int .i64 0, .int .i64 0, .string ⟨#[]⟩, .string ⟨#[]⟩] := Blk.new _ _ _
       have HN0 : Hid (DnS w h 47 wr.heap.size wr #[.string S, .int .i64 c] CS #[.int .i64 0, .int .i64 0, .int .i64 0, .int .i64 0, .string ⟨#[]⟩, .string ⟨#[]⟩] ((wr.alloc (.cells #[.int .i64 0, .int .i64 0, .int .i64 0, .int .i64 0, .string ⟨#[]⟩, .string ⟨#[]⟩] 47)).setRow wr.heap.size #[.int .i64 0, .int .i64 0, .int .i64 0, .int .i64 0, .string ⟨#[]⟩, .string ⟨#[]⟩])) := DnS.new HS.out _ _
       obtain ⟨W0, hW0⟩ : ∃ W, ((wr.alloc (.cells #[.int .i64 0, .int .i64 0, .int .i64 0, .int .i64 0, .string ⟨#[]⟩, .string ⟨#[]⟩] 47)).setRow wr.heap.size #[.int .i64 0, .int .i64 0, .int .i64 0, .int .i64 0, .string ⟨#[]⟩, .string ⟨#[]⟩]) = W := ⟨_, rfl⟩
       rw [hW0] at HN0
       have q0 : W0.cell? ⟨h + 1, 0, none⟩ = some (.string S) := HN0.out.d.x.cell 0
       have q1 : W0.cell? ⟨h + 1, 1, none⟩ = some (.int .i64 c) := HN0.out.d.x.cell 1
       clear HS
       go_wp2_with (with_reducible refine wpList_storeBlk rfl 47 _ _ rfl wr.heap.size #[.int .i64 0, .int .i64 0, .int .i64 0, .int .i64 0, .string ⟨#[]⟩, .string ⟨#[]⟩] #[.int .i64 0, .int .i64 0, .int .i64 0, .int .i64 0, .string ⟨#[]⟩, .string ⟨#[]⟩] (by with_unfolding_all rfl) (by with_unfolding_all rfl) XN rfl (by kernel_rfl) (by kernel_rfl) ?_)
       obtain ⟨g, hg⟩ : ∃ g, wr.heap.size = g := ⟨_, rfl⟩
       have HS : Hid (DnS w h 47 g wr #[.string S, .int .i64 c] CS #[.int .i64 0, .int .i64 0, .int .i64 0, .int .i64 0, .string ⟨#[]⟩, .string ⟨#[]⟩] W0) := by show DnS _ _ _ _ _ _ _ _ _; rw [← hg]; exact HN0.out
       try rw [hW0]
       try rw [hg]
       clear hW0 hg XN HN0 q0 q1
       refine (C1.out W0).mono ?_
       rintro e U1 ⟨rfl, hb⟩
       have HU : Hid (DnS w h 47 g wr #[.string S, .int .i64 c] CS #[.int .i64 0, .int .i64 0, .int .i64 0, .int .i64 0, .string ⟨#[]⟩, .string ⟨#[]⟩] U1) := HS.out.on hb
       have X1 := HU.out.d.x
       clear hb HS C1
       have HV : Hid (DnS w h 47 g wr #[.string S1, .int .i64 e1] CS #[.int .i64 0, .int .i64 0, .int .i64 0, .int .i64 0, .string ⟨#[]⟩, .string ⟨#[]⟩] (U1.setRow (h + 1) #[.string S1, .int .i64 e1])) := HU.out.set _
       have y0 : (U1.setRow (h + 1) #[.string S1, .int .i64 e1]).cell? ⟨g, 0, none⟩ = some _ := (HV.out).b.cell 0
       have v0 : (U1.setRow (h + 1) #[.string S1, .int .i64 e1]).frozen? ⟨g, 0, none⟩ = false := (HV.out).b.free 0
       have y1 : ((U1.setRow (h + 1) #[.string S1, .int .i64 e1]).setCell ⟨g, 0, none⟩ (.int .i64 x0)).cell? ⟨g, 1, none⟩ = some _ := ((HV.out).put 0 (.int .i64 x0)).b.cell 1
       have v1 : ((U1.setRow (h + 1) #[.string S1, .int .i64 e1]).setCell ⟨g, 0, none⟩ (.int .i64 x0)).frozen? ⟨g, 1, none⟩ = false := ((HV.out).put 0 (.int .i64 x0)).b.free 1
       have HS : Hid (DnS w h 47 g wr #[.string S1, .int .i64 e1] CS #[.int .i64 x0, .int .i64 x1, .int .i64 0, .int .i64 0, .string ⟨#[]⟩, .string ⟨#[]⟩] (((U1.setRow (h + 1) #[.string S1, .int .i64 e1]).setCell ⟨g, 0, none⟩ (.int .i64 x0)).setCell ⟨g, 1, none⟩ (.int .i64 x1))) := (((HV.out).put 0 (.int .i64 x0)).put 1 (.int .i64 x1))
       obtain ⟨W1, hW1⟩ : ∃ W, (((U1.setRow (h + 1) #[.string S1, .int .i64 e1]).setCell ⟨g, 0, none⟩ (.int .i64 x0)).setCell ⟨g, 1, none⟩ (.int .i64 x1)) = W := ⟨_, rfl⟩
       rw [hW1] at HS
       have q0 : W1.cell? ⟨h + 1, 0, none⟩ = some (.string S1) := HS.out.d.x.cell 0
       have q1 : W1.cell? ⟨h + 1, 1, none⟩ = some (.int .i64 e1) := HS.out.d.x.cell 1
       go_wp2_with (with_reducible refine wpList_storeBlk rfl 55 _ _ rfl (h + 1) #[.string S, .int .i64 c] #[.string S1, .int .i64 e1] (by with_unfolding_all rfl) (by with_unfolding_all rfl) X1 rfl (by kernel_rfl) (by kernel_rfl) ?_)
       try rw [hW1]
       clear hW1 HU HV X1 q0 q1 y0 v0 y1 v1
       refine (C2.out W1).mono ?_
       rintro e U2 ⟨rfl, hb⟩
       have HU : Hid (DnS w h 47 g wr #[.string S1, .int .i64 e1] CS #[.int .i64 x0, .int .i64 x1, .int .i64 0, .int .i64 0, .string ⟨#[]⟩, .string ⟨#[]⟩] U2) := HS.out.on hb
       have X1 := HU.out.d.x
       clear hb HS C2
       have HV : Hid (DnS w h 47 g wr #[.string S2, .int .i64 e2] CS #[.int .i64 x0, .int .i64 x1, .int .i64 0, .int .i64 0, .string ⟨#[]⟩, .string ⟨#[]⟩] (U2.setRow (h + 1) #[.string S2, .int .i64 e2])) := HU.out.set _
       have y2 : (U2.setRow (h + 1) #[.string S2, .int .i64 e2]).cell? ⟨g, 2, none⟩ = some _ := (HV.out).b.cell 2
       have v2 : (U2.setRow (h + 1) #[.string S2, .int .i64 e2]).frozen? ⟨g, 2, none⟩ = false := (HV.out).b.free 2
       have y3 : ((U2.setRow (h + 1) #[.string S2, .int .i64 e2]).setCell ⟨g, 2, none⟩ (.int .i64 x2)).cell? ⟨g, 3, none⟩ = some _ := ((HV.out).put 2 (.int .i64 x2)).b.cell 3
       have v3 : ((U2.setRow (h + 1) #[.string S2, .int .i64 e2]).setCell ⟨g, 2, none⟩ (.int .i64 x2)).frozen? ⟨g, 3, none⟩ = false := ((HV.out).put 2 (.int .i64 x2)).b.free 3
       have HS : Hid (DnS w h 47 g wr #[.string S2, .int .i64 e2] CS #[.int .i64 x0, .int .i64 x1, .int .i64 x2, .int .i64 x3, .string ⟨#[]⟩, .string ⟨#[]⟩] (((U2.setRow (h + 1) #[.string S2, .int .i64 e2]).setCell ⟨g, 2, none⟩ (.int .i64 x2)).setCell ⟨g, 3, none⟩ (.int .i64 x3))) := (((HV.out).put 2 (.int .i64 x2)).put 3 (.int .i64 x3))
       obtain ⟨W2, hW2⟩ : ∃ W, (((U2.setRow (h + 1) #[.string S2, .int .i64 e2]).setCell ⟨g, 2, none⟩ (.int .i64 x2)).setCell ⟨g, 3, none⟩ (.int .i64 x3)) = W := ⟨_, rfl⟩
       rw [hW2] at HS
       have q0 : W2.cell? ⟨h + 1, 0, none⟩ = some (.string S2) := HS.out.d.x.cell 0
       have q1 : W2.cell? ⟨h + 1, 1, none⟩ = some (.int .i64 e2) := HS.out.d.x.cell 1
       go_wp2_with (with_reducible refine wpList_storeBlk rfl 55 _ _ rfl (h + 1) #[.string S1, .int .i64 e1] #[.string S2, .int .i64 e2] (by with_unfolding_all rfl) (by with_unfolding_all rfl) X1 rfl (by kernel_rfl) (by kernel_rfl) ?_)
       try rw [hW2]
       clear hW2 HU HV X1 q0 q1 y2 v2 y3 v3
       refine (C3.out W2).mono ?_
       rintro e U3 ⟨rfl, hb⟩
       have HU : Hid (DnS w h 47 g wr #[.string S2, .int .i64 e2] CS #[.int .i64 x0, .int .i64 x1, .int .i64 x2, .int .i64 x3, .string ⟨#[]⟩, .string ⟨#[]⟩] U3) := HS.out.on hb
       have X1 := HU.out.d.x
       clear hb HS C3
       have HV : Hid (DnS w h 47 g wr #[.string S3, .int .i64 e3] CS #[.int .i64 x0, .int .i64 x1, .int .i64 x2, .int .i64 x3, .string ⟨#[]⟩, .string ⟨#[]⟩] (U3.setRow (h + 1) #[.string S3, .int .i64 e3])) := HU.out.set _
       have y4 : (U3.setRow (h + 1) #[.string S3, .int .i64 e3]).cell? ⟨g, 4, none⟩ = some _ := (HV.out).b.cell 4
       have v4 : (U3.setRow (h + 1) #[.string S3, .int .i64 e3]).frozen? ⟨g, 4, none⟩ = false := (HV.out).b.free 4
       have HS : Hid (DnS w h 47 g wr #[.string S3, .int .i64 e3] CS #[.int .i64 x0, .int .i64 x1, .int .i64 x2, .int .i64 x3, .string x4, .string ⟨#[]⟩] ((U3.setRow (h + 1) #[.string S3, .int .i64 e3]).setCell ⟨g, 4, none⟩ (.string x4))) := ((HV.out).put 4 (.string x4))
       obtain ⟨W3, hW3⟩ : ∃ W, ((U3.setRow (h + 1) #[.string S3, .int .i64 e3]).setCell ⟨g, 4, none⟩ (.string x4)) = W := ⟨_, rfl⟩
       rw [hW3] at HS
       have q0 : W3.cell? ⟨h + 1, 0, none⟩ = some (.string S3) := HS.out.d.x.cell 0
       have q1 : W3.cell? ⟨h + 1, 1, none⟩ = some (.int .i64 e3) := HS.out.d.x.cell 1
       go_wp2_with (with_reducible refine wpList_storeBlk rfl 55 _ _ rfl (h + 1) #[.string S2, .int .i64 e2] #[.string S3, .int .i64 e3] (by with_unfolding_all rfl) (by with_unfolding_all rfl) X1 rfl (by kernel_rfl) (by kernel_rfl) ?_)
       try rw [hW3]
       clear hW3 HU HV X1 q0 q1 y4 v4
       refine (C4.out W3).mono ?_
       rintro e U4 ⟨rfl, hb⟩
       have HU : Hid (DnS w h 47 g wr #[.string S3, .int .i64 e3] CS #[.int .i64 x0, .int .i64 x1, .int .i64 x2, .int .i64 x3, .string x4, .string ⟨#[]⟩] U4) := HS.out.on hb
       have X1 := HU.out.d.x
       clear hb HS C4
       have HV : Hid (DnS w h 47 g wr #[.string S4, .int .i64 e4] CS #[.int .i64 x0, .int .i64 x1, .int .i64 x2, .int .i64 x3, .string x4, .string ⟨#[]⟩] (U4.setRow (h + 1) #[.string S4, .int .i64 e4])) := HU.out.set _
       have y5 : (U4.setRow (h + 1) #[.string S4, .int .i64 e4]).cell? ⟨g, 5, none⟩ = some _ := (HV.out).b.cell 5
       have v5 : (U4.setRow (h + 1) #[.string S4, .int .i64 e4]).frozen? ⟨g, 5, none⟩ = false := (HV.out).b.free 5
       have HS : Hid (DnS w h 47 g wr #[.string S4, .int .i64 e4] CS #[.int .i64 x0, .int .i64 x1, .int .i64 x2, .int .i64 x3, .string x4, .string x5] ((U4.setRow (h + 1) #[.string S4, .int .i64 e4]).setCell ⟨g, 5, none⟩ (.string x5))) := ((HV.out).put 5 (.string x5))
       obtain ⟨W4, hW4⟩ : ∃ W, ((U4.setRow (h + 1) #[.string S4, .int .i64 e4]).setCell ⟨g, 5, none⟩ (.string x5)) = W := ⟨_, rfl⟩
       rw [hW4] at HS
       have q0 : W4.cell? ⟨h + 1, 0, none⟩ = some (.string S4) := HS.out.d.x.cell 0
       have q1 : W4.cell? ⟨h + 1, 1, none⟩ = some (.int .i64 e4) := HS.out.d.x.cell 1
       have m0 : W4.cell? ⟨g, 0, none⟩ = some (.int .i64 x0) := HS.out.b.cell 0
       have m1 : W4.cell? ⟨g, 1, none⟩ = some (.int .i64 x1) := HS.out.b.cell 1
       have m2 : W4.cell? ⟨g, 2, none⟩ = some (.int .i64 x2) := HS.out.b.cell 2
       have m3 : W4.cell? ⟨g, 3, none⟩ = some (.int .i64 x3) := HS.out.b.cell 3
       have m4 : W4.cell? ⟨g, 4, none⟩ = some (.string x4) := HS.out.b.cell 4
       have m5 : W4.cell? ⟨g, 5, none⟩ = some (.string x5) := HS.out.b.cell 5
       have p0 : W4.cell? ⟨h + 1 + 1, 0, none⟩ = some (.slice a1 k c1) := by rw [HS.out.d.y.cell 0, ← HCS.out]; rfl
       have own4 : W4.ownsRow B 47 6 (.slice a1 k c1) k (cellsN lk) := by
         have h4 : OwnN W4 B (.slice a1 k c1) lk := ownN_kept HO.out HS.out.kv (fun j hj => by have h5 : j = h + 1 := hj; have := HBh.out; omega)
         have h5 : W4.ownsRow B 47 6 (.slice a1 k c1) lk.length (cellsN lk) := h4
         rw [HLk.out] at h5
         exact h5
       have hB4 : B ≤ W4.heap.size := Nat.le_trans HBw.out HS.out.kv.size
       go_wp2_with (first
         | (with_reducible refine wpList_storeBlk rfl 55 _ _ rfl (h + 1) #[.string S3, .int .i64 e3] #[.string S4, .int .i64 e4] (by with_unfolding_all rfl) (by with_unfolding_all rfl) X1 rfl (by kernel_rfl) (by kernel_rfl) ?_)
         | (at_builtin; refine wpList_appR rfl (.tmp 61) (.tmp 63) 23 rfl B 47 i0 _ 6 64 Tryz.underlying23 hi hz0 hz1 hz2 rfl (by decide) W4 (.slice a1 k c1) _ _ rfl own4 #[.int .i64 x0, .int .i64 x1, .int .i64 x2, .int .i64 x3, .string x4, .string x5] rfl (nodeA_one ((x0, x1), (x2, x3), x4, x5)) rfl (by omega) (by unfold maxLen; omega) hB4 ?_))
       intro v5 w5 hown5 hb5
       try rw [hW4] at hb5
       have O5 : OwnN w5 B v5 (lk ++ [((x0, x1), (x2, x3), x4, x5)]) := by
         show World.ownsRow _ _ _ _ _ _ _
         rw [List.length_append, cellsN_snoc, HLk.out]
         exact hown5
       have hlen5 : (lk ++ [((x0, x1), (x2, x3), x4, x5)]).length = k + 1 := by rw [List.length_append, HLk.out]; rfl
       obtain ⟨a5, c5, rfl, _⟩ := OwnN.nodes O5
       rw [hlen5] at O5 ⊢
       have HD5 : Hid (DkS w h #[.string S4, .int .i64 e4] CS w5) := HS.out.d.onB hb5 HBh.out
       have j0 : w5.cell? ⟨h + 1 + 1, 0, none⟩ = some (.slice a1 k c1) := by rw [HD5.out.y.cell 0, ← HCS.out]; rfl
       have j1 : w5.frozen? ⟨h + 1 + 1, 0, none⟩ = false := HD5.out.y.free 0
       have HD6 : Hid (DkS w h #[.string S4, .int .i64 e4] #[.slice a5 (k + 1) c5, .slice none 0 0, .int .i64 b1, .int .i64 b2] (w5.setCell ⟨h + 1 + 1, 0, none⟩ (.slice a5 (k + 1) c5))) := by
         have h6 := HD5.out.put 0 (.slice a5 (k + 1) c5)
         rw [← HCS.out] at h6
         exact h6
       have HO6 : Hid (OwnN (w5.setCell ⟨h + 1 + 1, 0, none⟩ (.slice a5 (k + 1) c5)) B (.slice a5 (k + 1) c5) (lk ++ [((x0, x1), (x2, x3), x4, x5)])) := owns_same O5 (fun j hj => (grown_set w5 (h + 1 + 1) 0 _).block j (World.ownsRow.lt O5 j hj).2 (fun e => by have h7 := (World.ownsRow.lt O5 j hj).1; have h8 := Option.some.inj e; have h9 := HBh.out; omega))
       have HB6 : Hid (B ≤ (w5.setCell ⟨h + 1 + 1, 0, none⟩ (.slice a5 (k + 1) c5)).heap.size) := by
         have h7 := (grown_set w5 (h + 1 + 1) 0 (.slice a5 (k + 1) c5)).size
         have h8 := hb5.size
         show B ≤ _
         omega
       have w9 : IntKind.i64.wrap ((k : Int) + 1) = ((k + 1 : Nat) : Int) := by rw [IntKind.wrap_i64]; omega
       clear hown5 hb5 O5 HD5 HS hW4 HU HV X1 q0 q1 y5 v5 m0 m1 m2 m3 m4 m5 p0 own4 hB4 HO HCS hlen5
       go_wp2_with fail
       refine ⟨?_, ?_⟩
       · exact ⟨k + 1, c5, a5, S4, e4, _, by omega, (by first | rfl | go_num | trivial), HR', HO6, HD6, HB6⟩
       · simp [intOf] <;> omega
     · obtain rfl : k = N1 := by omega
       have hRR := HR.out.symm.trans HKc.out
       obtain ⟨hSc, rfl⟩ : (S, c) = (Sc, ec) ∧ lk = l := ⟨congrArg Prod.fst hRR, congrArg Prod.snd hRR⟩
       obtain ⟨rfl, rfl⟩ : S = Sc ∧ c = ec := ⟨congrArg Prod.fst hSc, congrArg Prod.snd hSc⟩
       clear hRR hSc
       by_cases hkn : k < n
       · have b0 : (k : Int) < (n : Int) := by omega
         have b3 : ¬ ((k : Int) ≤ 512) := by omega
         go_wp2_with fail
         go_meet
         case rel => exact ⟨a1, c1, rfl, HO, HS, HBw⟩
       · have b0 : ¬ ((k : Int) < (n : Int)) := by omega
         go_wp2_with fail
         go_meet
         case rel => exact ⟨a1, c1, rfl, HO, HS, HBw⟩
  case rest =>
   obtain ⟨a1, c1, rfl, HO1, HS1, HBw1⟩ := hcut
   have q0 : wc.cell? ⟨h + 1, 0, none⟩ = some (.string Sc) := HS1.out.x.cell 0
   have q1 : wc.cell? ⟨h + 1, 1, none⟩ = some (.int .i64 ec) := HS1.out.x.cell 1
   clear HKc HZc hi hz0 hz1 hz2
   go_wp2_with fail
   clear q0 q1
   refine (CD.out wc).mono ?_
   rintro e U2 ⟨rfl, hb⟩
   have HU : Hid (DkS w h #[.string Sc, .int .i64 ec] #[.slice a1 N1 c1, .slice none 0 0, .int .i64 b1, .int .i64 b2] U2) := HS1.out.on hb
   have HOU : Hid (OwnN U2 B (.slice a1 N1 c1) l) := owns_on HO1.out hb
   have HBU : Hid (B ≤ U2.heap.size) := Nat.le_trans HBw1.out hb.size
   have X1 := HU.out.x
   clear hb HS1 HO1 HBw1 CD
   have HS3 : Hid (DkS w h #[.string Sd, .int .i64 ed] #[.slice a1 N1 c1, .slice none 0 0, .int .i64 b1, .int .i64 b2] (U2.setRow (h + 1) #[.string Sd, .int .i64 ed])) := HU.out.set _
   have HO3 : Hid (OwnN (U2.setRow (h + 1) #[.string Sd, .int .i64 ed]) B (.slice a1 N1 c1) l) := owns_same HOU.out (fun j hj => (grown_setRow U2 (h + 1) _).block j (World.ownsRow.lt HOU.out j hj).2 (fun e => by have h7 := (World.ownsRow.lt HOU.out j hj).1; have h8 := Option.some.inj e; have h9 := HBh.out; omega))
   have HB3 : Hid (B ≤ (U2.setRow (h + 1) #[.string Sd, .int .i64 ed]).heap.size) := Nat.le_trans HBU.out (grown_setRow U2 (h + 1) _).size
   go_upto_block 2 with (with_reducible refine wpList_storeBlk rfl 55 _ _ rfl (h + 1) #[.string Sc, .int .i64 ec] #[.string Sd, .int .i64 ed] (by with_unfolding_all rfl) (by with_unfolding_all rfl) X1 rfl (by kernel_rfl) (by kernel_rfl) ?_)
   obtain ⟨W3, hW3⟩ : ∃ W, (U2.setRow (h + 1) #[.string Sd, .int .i64 ed]) = W := ⟨_, rfl⟩
   rw [hW3] at HS3 HO3 HB3
   try rw [hW3]
   clear hW3 HU HOU HBU X1
   obtain ⟨B2, hB2⟩ : ∃ B2, W3.heap.size = B2 := ⟨_, rfl⟩
   have HB2 : Hid (h + 1 + 1 < B2 ∧ B ≤ B2) := by show _ ∧ _; rw [← hB2]; exact ⟨HS3.out.y.lt, HB3.out⟩
   have HBw0 : Hid (B2 ≤ W3.heap.size) := by show _ ≤ _; omega
   have HK0 : Hid (KeptF (fun k => k = h + 1 ∨ k = h + 1 + 1) W3 W3) := KeptF.refl _ _
   obtain ⟨i0, hi, hz0, hz1, hz2⟩ := info_parts Tryz.infoOp
   obtain ⟨N2, hN2⟩ : ∃ N2, min m 513 = N2 := ⟨_, rfl⟩
   have hN3 : N2 ≤ 513 ∧ N2 ≤ m ∧ (N2 = m ∨ N2 = 513) := by omega
   rw [hN2] at HKe HLo
   clear hN2
   have HB2' : Hid (B2 = W3.heap.size) := hB2.symm
   clear hB2 HB3
   go_cut [10] (fun kv wx => ∃ (a2 : Option Addr) (c2 : Nat), kv = .int .i64 N2 ∧ Hid (OwnO wx B2 (.slice a2 N2 c2) ops) ∧ Hid (DkS w h #[.string Se, .int .i64 ee] #[.slice a1 N1 c1, .slice a2 N2 c2, .int .i64 b1, .int .i64 b2] wx) ∧ Hid (OwnN wx B (.slice a1 N1 c1) l))
   case first =>
    go_wp2_with fail
    go_loopw [10] (fun i wr => ∃ (k c2 : Nat) (a2 : Option Addr) (S : ByteArray) (c : Int) (lk : List OpT), k ≤ N2 ∧ i = .int .i64 k ∧ Hid (readLS readOpP k (Sd, ed) = ((S, c), lk)) ∧ Hid (OwnO wr B2 (.slice a2 k c2) lk) ∧ Hid (DkS w h #[.string S, .int .i64 c] #[.slice a1 N1 c1, .slice a2 k c2, .int .i64 b1, .int .i64 b2] wr) ∧ Hid (KeptF (fun k => k = h + 1 ∨ k = h + 1 + 1) W3 wr)) (fun i _ => 513 - (intOf i).toNat)
    case atStart => exact ⟨0, 0, none, Sd, ed, [], Nat.zero_le _, rfl, rfl, World.ownsRow_nil _ _ _ _, HS3, HK0⟩
    case round =>
      clear HS3 HBw0 HK0
      obtain ⟨k, c2, a2, S, c, lk, hk, rfl, HR, HO, HS, HK⟩ := hrel
      have HLk : Hid (lk.length = k) := by have h := readLS_len readOpP (Sd, ed) k; rw [HR.out] at h; exact h
      by_cases hlt : k < N2
      · have b0 : (k : Int) < (m : Int) := by omega
        have b3 : (k : Int) ≤ 512 := by omega
        have z0 : (S, c).1.size ≤ 1048576 := Nat.le_trans (by have h := readLS_size readOpP readOpP_size (Sd, ed) k; rw [HR.out] at h; exact h) HZe.out
        obtain ⟨⟨⟨S1, e1⟩, x0, ⟨x1, x2⟩, ⟨x3, x4⟩, ⟨x5, x6⟩, x7, x8⟩, r1⟩ : ∃ p, readOpP (S, c) = p := ⟨_, rfl⟩
        have HR' : Hid (readLS readOpP (k + 1) (Sd, ed) = ((S1, e1), lk ++ [(x0, (x1, x2), (x3, x4), (x5, x6), x7, x8)])) := by
          show ((readOpP (readLS readOpP k (Sd, ed)).1).1, (readLS readOpP k (Sd, ed)).2 ++ [(readOpP (readLS readOpP k (Sd, ed)).1).2]) = _
          rw [HR.out]
          simp only [r1]
        have C1' : ∀ W, _ := fun W => rtakeOp_any (S, c) W z0
        rw [r1] at C1'
        simp only [inV, opA] at C1'
        have C1 : Hid (∀ W, _) := C1'
        obtain ⟨CS, hCS⟩ : ∃ CS : Array Value, #[.slice a1 N1 c1, .slice a2 k c2, .int .i64 b1, .int .i64 b2] = CS := ⟨_, rfl⟩
        have HCS : Hid (#[.slice a1 N1 c1, .slice a2 k c2, .int .i64 b1, .int .i64 b2] = CS) := hCS
        rw [hCS] at HS
        clear C1' r1 z0 hCS HR
        have XN : Blk (wr.alloc (.cells #[.int .i64 0, .int .i64 0, .int .i64 0, .int .i64 0, .int .i64 0, .int .i64 0, .int .i64 0, .string ⟨#[]⟩, .string ⟨#[]⟩] 37)) 37 wr.heap.size #[.int .i64 0, .int .i64 0, .int .i64 0, .int .i64 0, .int .i64 0, .int .i64 0, .int .i64 0, .string ⟨#[]⟩, .string ⟨#[]⟩] := Blk.new _ _ _
        have HN0 : Hid (DnS w h 37 wr.heap.size wr #[.string S, .int .i64 c] CS #[.int .i64 0, .int .i64 0, .int .i64 0, .int .i64 0, .int .i64 0, .int .i64 0, .int .i64 0, .string ⟨#[]⟩, .string ⟨#[]⟩] ((wr.alloc (.cells #[.int .i64 0, .int .i64 0, .int .i64 0, .int .i64 0, .int .i64 0, .int .i64 0, .int .i64 0, .string ⟨#[]⟩, .string ⟨#[]⟩] 37)).setRow wr.heap.size #[.int .i64 0, .int .i64 0, .int .i64 0, .int .i64 0, .int .i64 0, .int .i64 0, .int .i64 0, .string ⟨#[]⟩, .string ⟨#[]⟩])) := DnS.new HS.out _ _
        obtain ⟨W0, hW0⟩ : ∃ W, ((wr.alloc (.cells #[.int .i64 0, .int .i64 0, .int .i64 0, .int .i64 0, .int .i64 0, .int .i64 0, .int .i64 0, .string ⟨#[]⟩, .string ⟨#[]⟩] 37)).setRow wr.heap.size #[.int .i64 0, .int .i64 0, .int .i64 0, .int .i64 0, .int .i64 0, .int .i64 0, .int .i64 0, .string ⟨#[]⟩, .string ⟨#[]⟩]) = W := ⟨_, rfl⟩
        rw [hW0] at HN0
        have q0 : W0.cell? ⟨h + 1, 0, none⟩ = some (.string S) := HN0.out.d.x.cell 0
        have q1 : W0.cell? ⟨h + 1, 1, none⟩ = some (.int .i64 c) := HN0.out.d.x.cell 1
        clear HS
        go_wp2_with (with_reducible refine wpList_storeBlk rfl 37 _ _ rfl wr.heap.size #[.int .i64 0, .int .i64 0, .int .i64 0, .int .i64 0, .int .i64 0, .int .i64 0, .int .i64 0, .string ⟨#[]⟩, .string ⟨#[]⟩] #[.int .i64 0, .int .i64 0, .int .i64 0, .int .i64 0, .int .i64 0, .int .i64 0, .int .i64 0, .string ⟨#[]⟩, .string ⟨#[]⟩] (by with_unfolding_all rfl) (by with_unfolding_all rfl) XN rfl (by kernel_rfl) (by kernel_rfl) ?_)
        obtain ⟨g, hg⟩ : ∃ g, wr.heap.size = g := ⟨_, rfl⟩
        have HS : Hid (DnS w h 37 g wr #[.string S, .int .i64 c] CS #[.int .i64 0, .int .i64 0, .int .i64 0, .int .i64 0, .int .i64 0, .int .i64 0, .int .i64 0, .string ⟨#[]⟩, .string ⟨#[]⟩] W0) := by show DnS _ _ _ _ _ _ _ _ _; rw [← hg]; exact HN0.out
        try rw [hW0]
        try rw [hg]
        clear hW0 hg XN HN0 q0 q1
        refine (C1.out W0).mono ?_
        rintro e U1 ⟨rfl, hb⟩
        have HU : Hid (DnS w h 37 g wr #[.string S, .int .i64 c] CS #[.int .i64 0, .int .i64 0, .int .i64 0, .int .i64 0, .int .i64 0, .int .i64 0, .int .i64 0, .string ⟨#[]⟩, .string ⟨#[]⟩] U1) := HS.out.on hb
        have X1 := HU.out.d.x
        have X2 := (HU.out.set #[.string S1, .int .i64 e1]).b
        clear hb HS C1
        have HS : Hid (DnS w h 37 g wr #[.string S1, .int .i64 e1] CS #[.int .i64 x0, .int .i64 x1, .int .i64 x2, .int .i64 x3, .int .i64 x4, .int .i64 x5, .int .i64 x6, .string x7, .string x8] ((U1.setRow (h + 1) #[.string S1, .int .i64 e1]).setRow g #[.int .i64 x0, .int .i64 x1, .int .i64 x2, .int .i64 x3, .int .i64 x4, .int .i64 x5, .int .i64 x6, .string x7, .string x8])) := (HU.out.set #[.string S1, .int .i64 e1]).row _
        obtain ⟨W4, hW4⟩ : ∃ W, ((U1.setRow (h + 1) #[.string S1, .int .i64 e1]).setRow g #[.int .i64 x0, .int .i64 x1, .int .i64 x2, .int .i64 x3, .int .i64 x4, .int .i64 x5, .int .i64 x6, .string x7, .string x8]) = W := ⟨_, rfl⟩
        rw [hW4] at HS
        have m0 : W4.cell? ⟨g, 0, none⟩ = some (.int .i64 x0) := HS.out.b.cell 0
        have m1 : W4.cell? ⟨g, 1, none⟩ = some (.int .i64 x1) := HS.out.b.cell 1
        have m2 : W4.cell? ⟨g, 2, none⟩ = some (.int .i64 x2) := HS.out.b.cell 2
        have m3 : W4.cell? ⟨g, 3, none⟩ = some (.int .i64 x3) := HS.out.b.cell 3
        have m4 : W4.cell? ⟨g, 4, none⟩ = some (.int .i64 x4) := HS.out.b.cell 4
        have m5 : W4.cell? ⟨g, 5, none⟩ = some (.int .i64 x5) := HS.out.b.cell 5
        have m6 : W4.cell? ⟨g, 6, none⟩ = some (.int .i64 x6) := HS.out.b.cell 6
        have m7 : W4.cell? ⟨g, 7, none⟩ = some (.string x7) := HS.out.b.cell 7
        have m8 : W4.cell? ⟨g, 8, none⟩ = some (.string x8) := HS.out.b.cell 8
        have p0 : W4.cell? ⟨h + 1 + 1, 1, none⟩ = some (.slice a2 k c2) := by rw [HS.out.d.y.cell 1, ← HCS.out]; rfl
        have own4 : W4.ownsRow B2 37 9 (.slice a2 k c2) k (cellsO lk) := by
          have h4 : OwnO W4 B2 (.slice a2 k c2) lk := ownO_kept HO.out HS.out.kv (fun j hj => by have h5 : j = h + 1 := hj; have := HB2.out.1; omega)
          have h5 : W4.ownsRow B2 37 9 (.slice a2 k c2) lk.length (cellsO lk) := h4
          rw [HLk.out] at h5
          exact h5
        have hB4 : B2 ≤ W4.heap.size := by have h6 := HS.out.kv.size; have h7 := HK.out.size; have h8 := HB2'.out; omega
        go_wp2_with (first
          | (with_reducible refine wpList_storeBlk rfl 55 _ _ rfl (h + 1) #[.string S, .int .i64 c] #[.string S1, .int .i64 e1] (by with_unfolding_all rfl) (by with_unfolding_all rfl) X1 rfl (by kernel_rfl) (by kernel_rfl) ?_)
          | (with_reducible refine wpList_storeBlk rfl 37 _ _ rfl g #[.int .i64 0, .int .i64 0, .int .i64 0, .int .i64 0, .int .i64 0, .int .i64 0, .int .i64 0, .string ⟨#[]⟩, .string ⟨#[]⟩] #[.int .i64 x0, .int .i64 x1, .int .i64 x2, .int .i64 x3, .int .i64 x4, .int .i64 x5, .int .i64 x6, .string x7, .string x8] (by with_unfolding_all rfl) (by with_unfolding_all rfl) X2 rfl (by kernel_rfl) (by kernel_rfl) ?_)
          | (at_builtin; refine wpList_appR rfl (.tmp 87) (.tmp 89) 24 rfl B2 37 i0 _ 9 88 Tryz.underlying24 hi hz0 hz1 hz2 rfl (by decide) W4 (.slice a2 k c2) _ _ rfl own4 #[.int .i64 x0, .int .i64 x1, .int .i64 x2, .int .i64 x3, .int .i64 x4, .int .i64 x5, .int .i64 x6, .string x7, .string x8] rfl (opA_one (x0, (x1, x2), (x3, x4), (x5, x6), x7, x8)) rfl (by omega) (by unfold maxLen; omega) hB4 ?_))
        intro v5 w5 hown5 hb5
        try rw [hW4] at hb5
        have O5 : OwnO w5 B2 v5 (lk ++ [(x0, (x1, x2), (x3, x4), (x5, x6), x7, x8)]) := by
          show World.ownsRow _ _ _ _ _ _ _
          rw [List.length_append, cellsO_snoc, HLk.out]
          exact hown5
        have hlen5 : (lk ++ [(x0, (x1, x2), (x3, x4), (x5, x6), x7, x8)]).length = k + 1 := by rw [List.length_append, HLk.out]; rfl
        obtain ⟨a5, c5, rfl, _⟩ := OwnO.ops O5
        rw [hlen5] at O5 ⊢
        have HD5 : Hid (DkS w h #[.string S1, .int .i64 e1] CS w5) := HS.out.d.onB hb5 HB2.out.1
        have j0 : w5.cell? ⟨h + 1 + 1, 1, none⟩ = some (.slice a2 k c2) := by rw [HD5.out.y.cell 1, ← HCS.out]; rfl
        have j1 : w5.frozen? ⟨h + 1 + 1, 1, none⟩ = false := HD5.out.y.free 1
        have HD6 : Hid (DkS w h #[.string S1, .int .i64 e1] #[.slice a1 N1 c1, .slice a5 (k + 1) c5, .int .i64 b1, .int .i64 b2] (w5.setCell ⟨h + 1 + 1, 1, none⟩ (.slice a5 (k + 1) c5))) := by
          have h6 := HD5.out.put 1 (.slice a5 (k + 1) c5)
          rw [← HCS.out] at h6
          exact h6
        have HO6 : Hid (OwnO (w5.setCell ⟨h + 1 + 1, 1, none⟩ (.slice a5 (k + 1) c5)) B2 (.slice a5 (k + 1) c5) (lk ++ [(x0, (x1, x2), (x3, x4), (x5, x6), x7, x8)])) := owns_same O5 (fun j hj => (grown_set w5 (h + 1 + 1) 1 _).block j (World.ownsRow.lt O5 j hj).2 (fun e => by have h7 := (World.ownsRow.lt O5 j hj).1; have h8 := Option.some.inj e; have h9 := HB2.out.1; omega))
        have HK6 : Hid (KeptF (fun k => k = h + 1 ∨ k = h + 1 + 1) W3 (w5.setCell ⟨h + 1 + 1, 1, none⟩ (.slice a5 (k + 1) c5))) := by
          have k1 : KeptF (fun k => k = h + 1 ∨ k = h + 1 + 1) W3 W4 := HK.out.trans HS.out.kv (fun j _ hj => .inl hj)
          have k2 : KeptF (fun k => k = h + 1 ∨ k = h + 1 + 1) W3 w5 := ⟨hb5.os.trans k1.os, hb5.tape.trans k1.tape, hb5.output.trans k1.output, Nat.le_trans k1.size hb5.size, fun j hj hF => (hb5.block j (by have h8 := HB2'.out; omega)).trans (k1.block j hj hF)⟩
          exact k2.setCell (h + 1 + 1) 1 _ (fun _ => .inr rfl)
        have w9 : IntKind.i64.wrap ((k : Int) + 1) = ((k + 1 : Nat) : Int) := by rw [IntKind.wrap_i64]; omega
        clear hown5 hb5 O5 HD5 HS hW4 HU X1 X2 m0 m1 m2 m3 m4 m5 m6 m7 m8 p0 own4 hB4 HO HCS hlen5 HK
        go_wp2_with fail
        refine ⟨?_, ?_⟩
        · exact ⟨k + 1, c5, a5, S1, e1, _, by omega, (by first | rfl | go_num | trivial), HR', HO6, HD6, HK6⟩
        · simp [intOf] <;> omega
      · obtain rfl : k = N2 := by omega
        have hRR := HR.out.symm.trans HKe.out
        obtain ⟨hSc, rfl⟩ : (S, c) = (Se, ee) ∧ lk = ops := ⟨congrArg Prod.fst hRR, congrArg Prod.snd hRR⟩
        obtain ⟨rfl, rfl⟩ : S = Se ∧ c = ee := ⟨congrArg Prod.fst hSc, congrArg Prod.snd hSc⟩
        have HO9 : Hid (OwnN wr B (.slice a1 N1 c1) l) := owns_same HO3.out (fun j hj => HK.out.block j (World.ownsRow.lt HO3.out j hj).2 (fun hF => by have h7 := (World.ownsRow.lt HO3.out j hj).1; have h9 := HBh.out; omega))
        clear hRR hSc
        by_cases hkn : k < m
        · have b0 : (k : Int) < (m : Int) := by omega
          have b3 : ¬ ((k : Int) ≤ 512) := by omega
          go_wp2_with fail
          go_meet
          case rel => exact ⟨a2, c2, rfl, HO, HS, HO9⟩
        · have b0 : ¬ ((k : Int) < (m : Int)) := by omega
          go_wp2_with fail
          go_meet
          case rel => exact ⟨a2, c2, rfl, HO, HS, HO9⟩
   case rest =>
     clear HS3 HBw0 HK0 HO3 hi hz0 hz1 hz2
     obtain ⟨a2, c2, rfl, HO2, HS2, HO1⟩ := hcut
     have HNr : Hid (NodesAt wc a1 N1 l) := by
       obtain ⟨a, cc, he, hr⟩ := OwnN.nodes HO1.out
       cases he
       have h := hr
       rw [HLn.out] at h
       exact h
     have HOr : Hid (OpsAt wc a2 N2 ops) := by
       obtain ⟨a, cc, he, hr, _⟩ := OwnO.ops HO2.out
       cases he
       have h := hr
       rw [HLo.out] at h
       exact h
     have q0 : wc.cell? ⟨h + 1, 0, none⟩ = some (.string Se) := HS2.out.x.cell 0
     have q1 : wc.cell? ⟨h + 1, 1, none⟩ = some (.int .i64 ee) := HS2.out.x.cell 1
     clear HO1 HO2
     have CM2 : Hid (∀ W a1 a2 c1 c2, NodesAt W a1 N1 l → OpsAt W a2 N2 ops → Calls Tryz.prog 25 #[.agg #[.slice a1 N1 c1, .slice a2 N2 c2, .int .i64 b1, .int .i64 b2]] W fun e w' => e = .returned (.bool X) ∧ Below W.heap.size W w') := by
       have h := CM.out
       rw [HLn.out, HLo.out] at h
       exact h
     clear CM
     go_wp2_with fail
     clear q0 q1
     refine (CE.out wc).mono ?_
     rintro e w9 ⟨rfl, hb⟩
     have HS9 : Hid (DkS w h #[.string Se, .int .i64 ee] #[.slice a1 N1 c1, .slice a2 N2 c2, .int .i64 b1, .int .i64 b2] w9) := HS2.out.on hb
     have HN9 : Hid (NodesAt w9 a1 N1 l) := HNr.out.below hb
     have HO9 : Hid (OpsAt w9 a2 N2 ops) := HOr.out.below hb
     clear hb HS2 HNr HOr CE
     by_cases hQ : Q = 0
     rotate_left
     · have hQ' : (Q == 0) = false := by rw [beq_eq_false_iff_ne]; exact hQ
       have X9 := HS9.out.z
       have hB9 := HS9.out.bel
       have hL9 := HS9.out.low
       obtain rfl : acc = false := by
         cases acc with
         | false => rfl
         | true => exact absurd (HA.out.1 rfl) (fun k => hQ k.1.1)
       go_wp2_with (with_reducible refine wpList_storeBlk rfl 28 _ _ rfl h #[.slice none 0 0, .slice none 0 0, .int .i64 0, .int .i64 0] #[.slice none 0 0, .slice none 0 0, .int .i64 0, .int .i64 0] (by with_unfolding_all rfl) (by with_unfolding_all rfl) X9 rfl (by kernel_rfl) (by kernel_rfl) ?_)
       exact bodyPost_rowTmp rfl h _ _ rfl rfl rfl (X9.setRow _) _ Tryz.underlying28 rfl (by kernel_rfl) ⟨below_setRow hB9 hL9 _, a1, c1, a2, c2, by rw [HLn.out]; exact NodesAt.rowK HN9.out X9 rfl _, by rw [HLo.out]; exact OpsAt.rowK HO9.out X9 rfl _, rfl⟩
     subst hQ
     have d0 : w9.cell? ⟨h + 1 + 1, 0, none⟩ = some (.slice a1 N1 c1) := HS9.out.y.cell 0
     have d1 : w9.cell? ⟨h + 1 + 1, 1, none⟩ = some (.slice a2 N2 c2) := HS9.out.y.cell 1
     have d2 : w9.cell? ⟨h + 1 + 1, 2, none⟩ = some (.int .i64 b1) := HS9.out.y.cell 2
     have d3 : w9.cell? ⟨h + 1 + 1, 3, none⟩ = some (.int .i64 b2) := HS9.out.y.cell 3
     by_cases hn : N1 = n
     rotate_left
     · have hn1 : ((N1 : Int) == (n : Int)) = false := by rw [beq_eq_false_iff_ne]; omega
       have hn2 : ¬ ((N1 : Int) = (n : Int)) := by omega
       have hn3 : (N1 == n) = false := by rw [beq_eq_false_iff_ne]; exact hn
       have X9 := HS9.out.z
       have hB9 := HS9.out.bel
       have hL9 := HS9.out.low
       obtain rfl : acc = false := by
         cases acc with
         | false => rfl
         | true => exact absurd (HA.out.1 rfl) (fun k => hn (HLn.out.symm.trans k.1.2.1))
       go_wp2_with (with_reducible refine wpList_storeBlk rfl 28 _ _ rfl h #[.slice none 0 0, .slice none 0 0, .int .i64 0, .int .i64 0] #[.slice none 0 0, .slice none 0 0, .int .i64 0, .int .i64 0] (by with_unfolding_all rfl) (by with_unfolding_all rfl) X9 rfl (by kernel_rfl) (by kernel_rfl) ?_)
       exact bodyPost_rowTmp rfl h _ _ rfl rfl rfl (X9.setRow _) _ Tryz.underlying28 rfl (by kernel_rfl) ⟨below_setRow hB9 hL9 _, a1, c1, a2, c2, by rw [HLn.out]; exact NodesAt.rowK HN9.out X9 rfl _, by rw [HLo.out]; exact OpsAt.rowK HO9.out X9 rfl _, rfl⟩
     subst hn
     by_cases hm : N2 = m
     rotate_left
     · have hm1 : ((N2 : Int) == (m : Int)) = false := by rw [beq_eq_false_iff_ne]; omega
       have hm2 : ¬ ((N2 : Int) = (m : Int)) := by omega
       have hm3 : (N2 == m) = false := by rw [beq_eq_false_iff_ne]; exact hm
       have X9 := HS9.out.z
       have hB9 := HS9.out.bel
       have hL9 := HS9.out.low
       obtain rfl : acc = false := by
         cases acc with
         | false => rfl
         | true => exact absurd (HA.out.1 rfl) (fun k => hm (HLo.out.symm.trans k.1.2.2.1))
       go_wp2_with (with_reducible refine wpList_storeBlk rfl 28 _ _ rfl h #[.slice none 0 0, .slice none 0 0, .int .i64 0, .int .i64 0] #[.slice none 0 0, .slice none 0 0, .int .i64 0, .int .i64 0] (by with_unfolding_all rfl) (by with_unfolding_all rfl) X9 rfl (by kernel_rfl) (by kernel_rfl) ?_)
       exact bodyPost_rowTmp rfl h _ _ rfl rfl rfl (X9.setRow _) _ Tryz.underlying28 rfl (by kernel_rfl) ⟨below_setRow hB9 hL9 _, a1, c1, a2, c2, by rw [HLn.out]; exact NodesAt.rowK HN9.out X9 rfl _, by rw [HLo.out]; exact OpsAt.rowK HO9.out X9 rfl _, rfl⟩
     subst hm
     have HSs : Hid (s.size ≤ 65536) := by show _ ≤ _; omega
     go_wp2_with fail
     refine (CM2.out w9 a1 a2 c1 c2 HN9.out HO9.out).mono ?_
     rintro e wf ⟨rfl, hb⟩
     have HSf : Hid (DkS w h #[.string Se, .int .i64 ee] #[.slice a1 N1 c1, .slice a2 N2 c2, .int .i64 b1, .int .i64 b2] wf) := HS9.out.on hb
     have HNf : Hid (NodesAt wf a1 N1 l) := HN9.out.below hb
     have HOf : Hid (OpsAt wf a2 N2 ops) := HO9.out.below hb
     clear hb HS9 HN9 HO9 CM2 d0 d1 d2 d3
     have HS9 := HSf
     have HN9 := HNf
     have HO9 := HOf
     clear HSf HNf HOf
     cases X with
     | false =>
       have X9 := HS9.out.z
       have hB9 := HS9.out.bel
       have hL9 := HS9.out.low
       obtain rfl : acc = false := by
         cases acc with
         | false => rfl
         | true => exact absurd (HA.out.1 rfl) (fun k => by cases k.2)
       go_wp2_with (with_reducible refine wpList_storeBlk rfl 28 _ _ rfl h #[.slice none 0 0, .slice none 0 0, .int .i64 0, .int .i64 0] #[.slice none 0 0, .slice none 0 0, .int .i64 0, .int .i64 0] (by with_unfolding_all rfl) (by with_unfolding_all rfl) X9 rfl (by kernel_rfl) (by kernel_rfl) ?_)
       exact bodyPost_rowTmp rfl h _ _ rfl rfl rfl (X9.setRow _) _ Tryz.underlying28 rfl (by kernel_rfl) ⟨below_setRow hB9 hL9 _, a1, c1, a2, c2, by rw [HLn.out]; exact NodesAt.rowK HN9.out X9 rfl _, by rw [HLo.out]; exact OpsAt.rowK HO9.out X9 rfl _, rfl⟩
     | true =>
       have X9 := HS9.out.z
       have hB9 := HS9.out.bel
       have hL9 := HS9.out.low
       have d0 : wf.cell? ⟨h + 1 + 1, 0, none⟩ = some (.slice a1 N1 c1) := HS9.out.y.cell 0
       have d1 : wf.cell? ⟨h + 1 + 1, 1, none⟩ = some (.slice a2 N2 c2) := HS9.out.y.cell 1
       have d2 : wf.cell? ⟨h + 1 + 1, 2, none⟩ = some (.int .i64 b1) := HS9.out.y.cell 2
       have d3 : wf.cell? ⟨h + 1 + 1, 3, none⟩ = some (.int .i64 b2) := HS9.out.y.cell 3
       obtain rfl : acc = true := HA.out.2 ⟨⟨(by first | rfl | trivial), HLn.out, HLo.out, HSs.out⟩, (by first | rfl | trivial)⟩
       go_wp2_with (with_reducible refine wpList_storeBlk rfl 28 _ _ rfl h #[.slice none 0 0, .slice none 0 0, .int .i64 0, .int .i64 0] #[.slice a1 N1 c1, .slice a2 N2 c2, .int .i64 b1, .int .i64 b2] (by with_unfolding_all rfl) (by with_unfolding_all rfl) X9 rfl (by kernel_rfl) (by kernel_rfl) ?_)
       exact bodyPost_rowTmp rfl h _ _ rfl rfl rfl (X9.setRow _) _ Tryz.underlying28 rfl (by kernel_rfl) ⟨below_setRow hB9 hL9 _, a1, c1, a2, c2, by rw [HLn.out]; exact NodesAt.rowK HN9.out X9 rfl _, by rw [HLo.out]; exact OpsAt.rowK HO9.out X9 rfl _, by rw [HLn.out, HLo.out]; rfl⟩
end Go.Proofs.YtogbkfakihnbdaaGreatDoor
