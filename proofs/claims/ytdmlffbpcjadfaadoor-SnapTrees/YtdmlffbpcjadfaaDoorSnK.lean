import Derived.Test.YtdmlffbpcjadfaaDoorSnJ
/- The code's Take (layer 13). -/
namespace Go.Proofs.YtdmlffbpcjadfaaDoor
open Go.RowKit
set_option linter.unusedSimpArgs false

theorem numberP_less (i : ByteArray × Int) (n : Nat) : (numberP i n).1.1.size + n ≤ i.1.size ∨ (numberP i n).1.1.size = 0 := by
  unfold numberP
  split
  · exact .inr rfl
  · rename_i h
    refine .inl ?_
    simp only [ByteArray.size_extract]
    have : ¬ i.1.size < n := fun k => h (.inr k)
    omega

theorem inNumP_less (i : ByteArray × Int) : (inNumP i).1.1.size + 6 ≤ i.1.size ∨ (inNumP i).1.1.size = 0 := by
  unfold inNumP
  split
  · exact .inr rfl
  · exact numberP_less i 6

theorem inStampC_less (i : ByteArray × Int) : (inStampC i).1.1.size + 7 ≤ i.1.size ∨ (inStampC i).1.1.size = 0 := by
  have h0 : (stampI i).1.size ≤ i.1.size := by
    unfold stampI
    split
    · exact Nat.zero_le _
    · exact Nat.le_refl _
  have h1 := inNumP_less (stampI i)
  have h2 := numberP_less (inNumP (stampI i)).1 1
  have h3 := numberP_size (inNumP (stampI i)).1 1
  show (numberP (inNumP (stampI i)).1 1).1.1.size + 7 ≤ _ ∨ (numberP (inNumP (stampI i)).1 1).1.1.size = 0
  omega

theorem takeI_size (i : ByteArray × Int) (n : Nat) : (takeI i n).1.size ≤ i.1.size := by
  unfold takeI
  split
  · exact Nat.zero_le _
  · simp only [ByteArray.size_extract]; omega

theorem inTextC_less (i : ByteArray × Int) (most : Int) : (inTextC i most).1.1.size ≤ i.1.size := by
  have h := numberP_size i 2
  unfold inTextC
  split
  · exact Nat.zero_le _
  · exact Nat.le_trans (takeI_size _ _) h

theorem readNdC_less (i : ByteArray × Int) : (readNdC i).1.1.size + 7 ≤ i.1.size ∨ (readNdC i).1.1.size = 0 := by
  have h1 := inStampC_less i
  have h2 := inStampC_less (inStampC i).1
  have h3 := inTextC_less (inStampC (inStampC i).1).1 65536
  have h4 := inTextC_less (inTextC (inStampC (inStampC i).1).1 65536).1 65536
  show (inTextC (inTextC (inStampC (inStampC i).1).1 65536).1 65536).1.1.size + 7 ≤ _ ∨ (inTextC (inTextC (inStampC (inStampC i).1).1 65536).1 65536).1.1.size = 0
  omega

theorem readOpC_less (i : ByteArray × Int) : (readOpC i).1.1.size + 7 ≤ i.1.size ∨ (readOpC i).1.1.size = 0 := by
  unfold readOpC
  simp only
  have h0 := numberP_size i 1
  generalize (numberP i 1).1 = j0 at *
  have h1 := inStampC_less j0
  generalize (inStampC j0).1 = j1 at *
  have h2 := inStampC_less j1
  generalize (inStampC j1).1 = j2 at *
  have h3 := inStampC_less j2
  generalize (inStampC j2).1 = j3 at *
  have h4 := inTextC_less j3 65536
  generalize (inTextC j3 65536).1 = j4 at *
  have h5 := inTextC_less j4 65536
  omega

theorem readLC_len {α : Type} (rd : ByteArray × Int → (ByteArray × Int) × α) (hc : ∀ i, (rd i).1.1.size + 7 ≤ i.1.size ∨ (rd i).1.1.size = 0) : ∀ (n : Nat) (i : ByteArray × Int), (readLC rd n i).2.length * 7 ≤ i.1.size + 6 := by
  intro n
  induction n with
  | zero => intro i; unfold readLC; simp
  | succ n ih =>
    intro i
    unfold readLC
    split
    · simp
    · rename_i h
      simp only [List.length_cons]
      have h1 := ih (rd i).1
      rcases hc i with h2 | h2
      · omega
      · rcases Nat.eq_zero_or_pos n with h0 | h0
        · subst h0; unfold readLC; simp; omega
        · obtain ⟨m, rfl⟩ : ∃ m, n = m + 1 := ⟨n - 1, by omega⟩
          unfold readLC
          rw [if_pos h2]
          simp
          omega

theorem readLC_all {α : Type} (rd : ByteArray × Int → (ByteArray × Int) × α) (P : α → Prop) (hp : ∀ i, P (rd i).2) : ∀ (n : Nat) (i : ByteArray × Int), ∀ x ∈ (readLC rd n i).2, P x := by
  intro n
  induction n with
  | zero => intro i x hx; unfold readLC at hx; exact absurd hx List.not_mem_nil
  | succ n ih =>
    intro i x hx
    unfold readLC at hx
    split at hx
    · exact absurd hx List.not_mem_nil
    · rcases List.mem_cons.1 hx with rfl | hx
      · exact hp i
      · exact ih _ x hx

theorem readLC_size {α : Type} (rd : ByteArray × Int → (ByteArray × Int) × α) (hc : ∀ i, (rd i).1.1.size ≤ i.1.size) : ∀ (n : Nat) (i : ByteArray × Int), (readLC rd n i).1.1.size ≤ i.1.size := by
  intro n
  induction n with
  | zero => intro i; unfold readLC; exact Nat.le_refl _
  | succ n ih =>
    intro i
    unfold readLC
    split
    · exact Nat.le_refl _
    · exact Nat.le_trans (ih _) (hc i)

/-- What the code reads as a tree. -/
def readSC (s : ByteArray) : TreeT :=
  ((readLC readNdC (inNumP (inStampC (s, 0)).1).2 (inNumP (inStampC (s, 0)).1).1).2,
   (readLC readOpC (inNumP (readLC readNdC (inNumP (inStampC (s, 0)).1).2 (inNumP (inStampC (s, 0)).1).1).1).2 (inNumP (readLC readNdC (inNumP (inStampC (s, 0)).1).2 (inNumP (inStampC (s, 0)).1).1).1).1).2,
   (inStampC (s, 0)).2)

theorem readSC_few (s : ByteArray) (hs : s.size ≤ 65536) : (readSC s).1.length ≤ 9364 ∧ (readSC s).2.1.length ≤ 9364 := by
  have n7 : ∀ i, (readNdC i).1.1.size ≤ i.1.size := fun i => by rcases readNdC_less i with h | h <;> omega
  have h0 : (inStampC (s, 0)).1.1.size ≤ s.size := by
    have h : (inStampC (s, 0)).1.1.size + 7 ≤ s.size ∨ (inStampC (s, 0)).1.1.size = 0 := inStampC_less (s, 0)
    omega
  have h1 := inNumP_size (inStampC (s, 0)).1
  have h2 := readLC_len readNdC readNdC_less (inNumP (inStampC (s, 0)).1).2 (inNumP (inStampC (s, 0)).1).1
  have h3 := readLC_size readNdC n7 (inNumP (inStampC (s, 0)).1).2 (inNumP (inStampC (s, 0)).1).1
  have h4 := inNumP_size (readLC readNdC (inNumP (inStampC (s, 0)).1).2 (inNumP (inStampC (s, 0)).1).1).1
  have h5 := readLC_len readOpC readOpC_less (inNumP (readLC readNdC (inNumP (inStampC (s, 0)).1).2 (inNumP (inStampC (s, 0)).1).1).1).2 (inNumP (readLC readNdC (inNumP (inStampC (s, 0)).1).2 (inNumP (inStampC (s, 0)).1).1).1).1
  refine ⟨?_, ?_⟩
  · show (readLC readNdC _ _).2.length ≤ _; omega
  · show (readLC readOpC _ _).2.length ≤ _; omega

theorem readNdC_sizes (i : ByteArray × Int) : (readNdC i).2.2.2.1.size ≤ 1048576 ∧ (readNdC i).2.2.2.2.size ≤ 9223372036854775807 := by
  unfold readNdC
  simp only
  exact ⟨inTextC_size _ _, Nat.le_trans (inTextC_size _ _) (by decide)⟩

theorem readSC_sizes (s : ByteArray) : (∀ k, k < (readSC s).1.length → (nL (readSC s).1 k).2.2.1.size ≤ 1048576 ∧ (nL (readSC s).1 k).2.2.2.size ≤ 9223372036854775807) ∧ (∀ k, k < (readSC s).2.1.length → (oL (readSC s).2.1 k).2.2.2.2.1.size ≤ 1048576 ∧ (oL (readSC s).2.1 k).2.2.2.2.2.size ≤ 9223372036854775807) := by
  refine ⟨fun k hk => ?_, fun k hk => ?_⟩
  · exact readLC_all readNdC (fun x => x.2.2.1.size ≤ 1048576 ∧ x.2.2.2.size ≤ 9223372036854775807) readNdC_sizes _ _ _ (nL_mem _ k hk)
  · have h : oL (readSC s).2.1 k ∈ (readSC s).2.1 := by rw [oL_get _ k hk]; exact List.getElem_mem hk
    exact readLC_all readOpC (fun x => x.2.2.2.2.1.size ≤ 1048576 ∧ x.2.2.2.2.2.size ≤ 9223372036854775807) readOpC_sizes _ _ _ h

theorem NodesAt.rowK {w : World} {a : Option Addr} {n : Nat} {l : List NodeT} {t : TypeId} {g : Nat} {cs : Array Value} (h : NodesAt w a n l) (hb : Blk w t g cs) (hc : cs.size = 4) (cs' : Array Value) : NodesAt (w.setRow g cs') a n l := by
  obtain ⟨hl, hr⟩ := h
  refine ⟨hl, ?_⟩
  rcases hr with h0 | ⟨b, off, ha, hcl⟩
  · exact .inl h0
  · refine .inr ⟨b, off, ha, fun i hi k hk => ?_⟩
    obtain ⟨x, h1, h2⟩ := hcl i hi k hk
    refine ⟨x, h1, ?_⟩
    by_cases e2 : b = g
    · subst e2
      obtain ⟨x5, h3, h4⟩ := hcl i hi 5 (by decide)
      rw [hb.cell, Array.getElem?_eq_none (by omega)] at h4
      cases h4
    · rw [World.cell?_of_block (w := w) (setRow_other w g b cs' e2)]; exact h2

theorem OpsAt.rowK {w : World} {a : Option Addr} {n : Nat} {l : List OpT} {t : TypeId} {g : Nat} {cs : Array Value} (h : OpsAt w a n l) (hb : Blk w t g cs) (hc : cs.size = 4) (cs' : Array Value) : OpsAt (w.setRow g cs') a n l := by
  obtain ⟨hl, hr⟩ := h
  refine ⟨hl, ?_⟩
  rcases hr with h0 | ⟨b, off, ha, hcl⟩
  · exact .inl h0
  · refine .inr ⟨b, off, ha, fun i hi k hk => ?_⟩
    obtain ⟨x, h1, h2⟩ := hcl i hi k hk
    refine ⟨x, h1, ?_⟩
    by_cases e2 : b = g
    · subst e2
      obtain ⟨x5, h3, h4⟩ := hcl i hi 8 (by decide)
      rw [hb.cell, Array.getElem?_eq_none (by omega)] at h4
      cases h4
    · rw [World.cell?_of_block (w := w) (setRow_other w g b cs' e2)]; exact h2

theorem own_setCell {w : World} {B hx c n j : Nat} {e : TypeId} {v u : Value} {xs : List Value} (h : w.ownsRow B e c v n xs) (hg : hx < B) : (w.setCell ⟨hx, j, none⟩ u).ownsRow B e c v n xs :=
  owns_same h (fun k hk => (grown_set w hx j u).block k (World.ownsRow.lt h k hk).2 (fun e => by have := (World.ownsRow.lt h k hk).1; have := Option.some.inj e; omega))

/-- What Take answers: the tree that was read, if it is put as the same bytes. -/
def TakeOut (w' : World) (l : List NodeT) (ops : List OpT) (b1 b2 : Int) (P s : ByteArray) (Er : Int) (e : Ending) : Prop :=
  ∃ a1 c1 a2 c2, NodesAt w' a1 l.length l ∧ OpsAt w' a2 ops.length ops ∧ e = .returned (.tuple #[.agg (if Er ≠ 0 ∨ P ≠ s then #[.slice none 0 0, .slice none 0 0, .int .i64 0, .int .i64 0] else #[.slice a1 l.length c1, .slice a2 ops.length c2, .int .i64 b1, .int .i64 b2]), .int .i64 (if Er ≠ 0 ∨ P ≠ s then 91 else 0)])

set_option maxHeartbeats 8000000 in
set_option maxRecDepth 100000 in
theorem take_any (M : OpT → Bool) (hM : ∀ o, M o = true ↔ MayO o) (s : ByteArray) (w : World) (hs : s.size ≤ 65536) (hG : Glob8 w) (l : List NodeT) (ops : List OpT) (b1 b2 : Int) (hx : readSC s = (l, ops, (b1, b2))) (D E : Bool) (HD : Hid (D = true ↔ (l.length ≤ 512 ∧ RiseN l ∧ (∀ k, k < l.length → FixH (b1, b2) (nL l k)) ∧ FixC l))) (HE : Hid (E = true ↔ RiseO ops)) (P : ByteArray) (Er : Int) (hP : putSP M D E (l, ops, (b1, b2)) = (P, Er)) :
    Calls Tryd.prog 10 #[.string s] w fun e w' => Below w.heap.size w w' ∧ TakeOut w' l ops b1 b2 P s Er e := by
  have hmf : ∀ (fn : Fn) (first cap : Array Value) (w : World), (Instr.makeFunc fn first cap).run Tryd.prog w = .ok (.func fn first cap) w := fun _ _ _ _ => rfl
  have hfew := readSC_few s hs
  have hsz := readSC_sizes s
  rw [hx] at hfew hsz
  simp only at hfew hsz
  have CP : Hid (∀ W a1 a2 c1 c2, Below w.heap.size w W → NodesAt W a1 l.length l → OpsAt W a2 ops.length ops → Calls Tryd.prog 9 #[.agg #[.slice a1 l.length c1, .slice a2 ops.length c2, .int .i64 b1, .int .i64 b2]] W fun e w' => e = .returned (.tuple #[.string P, .int .i64 Er]) ∧ Below W.heap.size W w') := fun W a1 a2 c1 c2 hW h1 h2 => by
    have h := put_any M hM l ops b1 b2 a1 a2 c1 c2 W D E (by omega) (by omega) HD HE hsz.1 hsz.2 h1 h2 (hG.below hW)
    rw [hP] at h
    exact h
  have C1' : ∀ W g, InAt W g (s, 0) → _ := fun W g hW => istamp_any g (s, 0) W hW
  obtain ⟨⟨i1, bb1, bb2⟩, h1⟩ : ∃ p, inStampC (s, 0) = p := ⟨_, rfl⟩
  have C2' : ∀ W g hc, InAt W g i1 → Blk W 69 hc #[.pointer (some ⟨g, 0, none⟩)] → hc ≠ g → _ := fun W g hc hW hB hn => rlistN_any g hc i1 W hW hB hn
  obtain ⟨⟨i2, l'⟩, h2⟩ : ∃ p, readLC readNdC (inNumP i1).2 (inNumP i1).1 = p := ⟨_, rfl⟩
  have C3' : ∀ W g hc, InAt W g i2 → Blk W 69 hc #[.pointer (some ⟨g, 0, none⟩)] → hc ≠ g → _ := fun W g hc hW hB hn => rlistO_any g hc i2 W hW hB hn
  obtain ⟨⟨i3, ops'⟩, h3⟩ : ∃ p, readLC readOpC (inNumP i2).2 (inNumP i2).1 = p := ⟨_, rfl⟩
  have hx' : (l', ops', (bb1, bb2)) = (l, ops, (b1, b2)) := by
    rw [← hx]
    unfold readSC
    simp only [h1, h2, h3]
  obtain ⟨rfl, hx2⟩ : l' = l ∧ (ops', (bb1, bb2)) = (ops, (b1, b2)) := ⟨congrArg Prod.fst hx', congrArg Prod.snd hx'⟩
  obtain ⟨rfl, hx3⟩ : ops' = ops ∧ (bb1, bb2) = (b1, b2) := ⟨congrArg Prod.fst hx2, congrArg Prod.snd hx2⟩
  obtain ⟨rfl, rfl⟩ : bb1 = b1 ∧ bb2 = b2 := ⟨congrArg Prod.fst hx3, congrArg Prod.snd hx3⟩
  simp only [h1] at C1'
  simp only [h2] at C2'
  simp only [h3] at C3'
  have C1 : Hid (∀ W g, InAt W g (s, 0) → _) := C1'
  have C2 : Hid (∀ W g hc, InAt W g i1 → Blk W 69 hc #[.pointer (some ⟨g, 0, none⟩)] → hc ≠ g → _) := C2'
  have C3 : Hid (∀ W g hc, InAt W g i2 → Blk W 69 hc #[.pointer (some ⟨g, 0, none⟩)] → hc ≠ g → _) := C3'
  have bs : ¬ ((s.size : Int) > 65536) := by omega
  have HI : Hid (s.size ≤ 1048576) := by show _ ≤ _; omega
  clear C1' C2' C3' h1 h2 h3 hx hx' hx2 hx3 hfew hsz HD HE hP hM hG
  go_enter Tryd.func10, Tryd.ntmps10
  go_wp2_with fail
  obtain ⟨w0, hw0⟩ : ∃ w0, w.alloc (.cells #[.slice none 0 0, .slice none 0 0, .int .i64 0, .int .i64 0] 38) = w0 := ⟨_, rfl⟩
  obtain ⟨h, hh⟩ : ∃ h, w.heap.size = h := ⟨_, rfl⟩
  have HB0 : Hid (Below w.heap.size w w0) := by show Below _ _ _; rw [← hw0]; exact below_new _ _
  have HZ0 : Hid (Blk w0 38 h #[.slice none 0 0, .slice none 0 0, .int .i64 0, .int .i64 0]) := by show Blk _ _ _ _; rw [← hw0, ← hh]; exact Blk.new _ _ _
  have HL : Hid (w.heap.size ≤ h) := by show _ ≤ _; omega
  try rw [hw0]
  try rw [hh]
  clear hw0 hh
  refine (newIn_any s w0 HI.out).mono ?_
  rintro e w1 ⟨rfl, hI1, hb1⟩
  have HS1 : Hid (TkS w h w0.heap.size w1.heap.size (w1.heap.size + 1) (s, 0) #[.slice none 0 0, .slice none 0 0, .int .i64 0, .int .i64 0] ((w1.alloc (.cells #[.pointer (some ⟨w0.heap.size, 0, none⟩)] 69)).alloc (.cells #[.slice none 0 0, .slice none 0 0, .int .i64 0, .int .i64 0] 38))) := by
    have hl1 := hI1.1.lt
    have hl2 := HZ0.out.lt
    exact ⟨(hI1.on (below_new _ _)).on (below_new _ _), (Blk.new _ _ _).on (below_new _ _), Blk.new' _ _ _ _ (by rw [World.size_alloc]), ((HZ0.out.on hb1).on (below_new _ _)).on (below_new _ _), below_step HB0.out (Nat.le_refl _) (below_step hb1 (Nat.le_refl _) ((below_new _ _).alloc (by rw [World.size_alloc]; omega) _)), HL.out, hl2, hl1, Nat.lt_succ_self _⟩
  have y : ((w1.alloc (.cells #[.pointer (some ⟨w0.heap.size, 0, none⟩)] 69)).alloc (.cells #[.slice none 0 0, .slice none 0 0, .int .i64 0, .int .i64 0] 38)).cell? ⟨w1.heap.size, 0, none⟩ = some (.pointer (some ⟨w0.heap.size, 0, none⟩)) := HS1.out.cap.cell 0
  clear hI1 hb1 HB0 HZ0 HI
  go_wp2_with fail
  clear y
  obtain ⟨W2, hW2⟩ : ∃ W2, ((w1.alloc (.cells #[.pointer (some ⟨w0.heap.size, 0, none⟩)] 69)).alloc (.cells #[.slice none 0 0, .slice none 0 0, .int .i64 0, .int .i64 0] 38)) = W2 := ⟨_, rfl⟩
  rw [hW2] at HS1
  try rw [hW2]
  clear hW2
  obtain ⟨g, hg⟩ : ∃ g, w0.heap.size = g := ⟨_, rfl⟩
  obtain ⟨hx, hhx⟩ : ∃ hx, w1.heap.size + 1 = hx := ⟨_, rfl⟩
  obtain ⟨hc, hhc⟩ : ∃ hc, w1.heap.size = hc := ⟨_, rfl⟩
  rw [hg, hhx, hhc] at HS1
  try rw [hg]
  try rw [hhx]
  try rw [hhc]
  clear hg hhx hhc
  refine (C1.out W2 g HS1.out.inn).mono ?_
  rintro e U1 ⟨rfl, hI⟩
  have HU : Hid (TkS w h g hc hx i1 #[.slice none 0 0, .slice none 0 0, .int .i64 0, .int .i64 0] U1) := HS1.out.step hI
  clear hI HS1 C1
  have y2 : U1.cell? ⟨hx, 2, none⟩ = some _ := HU.out.x.cell 2
  have z2 : U1.frozen? ⟨hx, 2, none⟩ = false := HU.out.x.free 2
  have y3 : (U1.setCell ⟨hx, 2, none⟩ (.int .i64 bb1)).cell? ⟨hx, 3, none⟩ = some _ := (HU.out.set 2 (.int .i64 bb1)).x.cell 3
  have z3 : (U1.setCell ⟨hx, 2, none⟩ (.int .i64 bb1)).frozen? ⟨hx, 3, none⟩ = false := (HU.out.set 2 (.int .i64 bb1)).x.free 3
  have HS2 : Hid (TkS w h g hc hx i1 #[.slice none 0 0, .slice none 0 0, .int .i64 bb1, .int .i64 bb2] ((U1.setCell ⟨hx, 2, none⟩ (.int .i64 bb1)).setCell ⟨hx, 3, none⟩ (.int .i64 bb2))) := (HU.out.set 2 (.int .i64 bb1)).set 3 (.int .i64 bb2)
  obtain ⟨W3, hW3⟩ : ∃ W, (U1.setCell ⟨hx, 2, none⟩ (.int .i64 bb1)).setCell ⟨hx, 3, none⟩ (.int .i64 bb2) = W := ⟨_, rfl⟩
  rw [hW3] at HS2
  have a3 : W3.cell? ⟨hc, 0, none⟩ = some (.pointer (some ⟨g, 0, none⟩)) := HS2.out.cap.cell 0
  go_wp2_with fail
  try rw [hW3]
  clear hW3 HU y2 z2 y3 z3 a3
  have HL3 : Hid (g < W3.heap.size ∧ hx < W3.heap.size) := ⟨HS2.out.inn.1.lt, HS2.out.x.lt⟩
  refine (C2.out W3 g hc HS2.out.inn HS2.out.cap (by have := HS2.out.gc; omega)).mono ?_
  rintro e U2 ⟨v1, rfl, hO, hI⟩
  obtain ⟨n1, hn1⟩ : ∃ n1, l'.length = n1 := ⟨_, rfl⟩
  obtain ⟨a1, c1, rfl, _⟩ := OwnN.nodes hO
  have HN2 : Hid (OwnN U2 W3.heap.size (.slice a1 l'.length c1) l') := hO
  have HU : Hid (TkS w h g hc hx i2 #[.slice none 0 0, .slice none 0 0, .int .i64 bb1, .int .i64 bb2] U2) := HS2.out.step hI
  rw [hn1] at HN2 ⊢
  clear hI HS2 C2 hO
  have y0 : U2.cell? ⟨hx, 0, none⟩ = some _ := HU.out.x.cell 0
  have z0 : U2.frozen? ⟨hx, 0, none⟩ = false := HU.out.x.free 0
  have HS3 : Hid (TkS w h g hc hx i2 #[.slice a1 n1 c1, .slice none 0 0, .int .i64 bb1, .int .i64 bb2] (U2.setCell ⟨hx, 0, none⟩ (.slice a1 n1 c1))) := HU.out.set 0 (.slice a1 n1 c1)
  have HN3 : Hid (OwnN (U2.setCell ⟨hx, 0, none⟩ (.slice a1 n1 c1)) W3.heap.size (.slice a1 n1 c1) l') := own_setCell HN2.out HL3.out.2
  obtain ⟨W4, hW4⟩ : ∃ W, U2.setCell ⟨hx, 0, none⟩ (.slice a1 n1 c1) = W := ⟨_, rfl⟩
  rw [hW4] at HS3 HN3
  have a4 : W4.cell? ⟨hc, 0, none⟩ = some (.pointer (some ⟨g, 0, none⟩)) := HS3.out.cap.cell 0
  go_wp2_with fail
  try rw [hW4]
  clear hW4 HU y0 z0 a4 HN2
  have HL4 : Hid (hx < W4.heap.size) := HS3.out.x.lt
  refine (C3.out W4 g hc HS3.out.inn HS3.out.cap (by have := HS3.out.gc; omega)).mono ?_
  rintro e U3 ⟨v2, rfl, hO, hI⟩
  obtain ⟨n2, hn2⟩ : ∃ n2, ops'.length = n2 := ⟨_, rfl⟩
  obtain ⟨a2, c2, rfl, _, _⟩ := OwnO.ops hO
  have HO4 : Hid (OwnO U3 W4.heap.size (.slice a2 ops'.length c2) ops') := hO
  have HU : Hid (TkS w h g hc hx i3 #[.slice a1 n1 c1, .slice none 0 0, .int .i64 bb1, .int .i64 bb2] U3) := HS3.out.step hI
  have HN4 : Hid (OwnN U3 W3.heap.size (.slice a1 n1 c1) l') := own_kept2 HN3.out hI.2 HL3.out.1
  rw [hn2] at HO4 ⊢
  clear hI HS3 C3 hO HN3
  have y1 : U3.cell? ⟨hx, 1, none⟩ = some _ := HU.out.x.cell 1
  have z1 : U3.frozen? ⟨hx, 1, none⟩ = false := HU.out.x.free 1
  have HS4 : Hid (TkS w h g hc hx i3 #[.slice a1 n1 c1, .slice a2 n2 c2, .int .i64 bb1, .int .i64 bb2] (U3.setCell ⟨hx, 1, none⟩ (.slice a2 n2 c2))) := HU.out.set 1 (.slice a2 n2 c2)
  have HN5 : Hid (OwnN (U3.setCell ⟨hx, 1, none⟩ (.slice a2 n2 c2)) W3.heap.size (.slice a1 n1 c1) l') := own_setCell HN4.out HL3.out.2
  have HO5 : Hid (OwnO (U3.setCell ⟨hx, 1, none⟩ (.slice a2 n2 c2)) W4.heap.size (.slice a2 n2 c2) ops') := own_setCell HO4.out HL4.out
  obtain ⟨W5, hW5⟩ : ∃ W, U3.setCell ⟨hx, 1, none⟩ (.slice a2 n2 c2) = W := ⟨_, rfl⟩
  rw [hW5] at HS4 HN5 HO5
  have d0 : W5.cell? ⟨hx, 0, none⟩ = some (.slice a1 n1 c1) := HS4.out.x.cell 0
  have d1 : W5.cell? ⟨hx, 1, none⟩ = some (.slice a2 n2 c2) := HS4.out.x.cell 1
  have d2 : W5.cell? ⟨hx, 2, none⟩ = some (.int .i64 bb1) := HS4.out.x.cell 2
  have d3 : W5.cell? ⟨hx, 3, none⟩ = some (.int .i64 bb2) := HS4.out.x.cell 3
  go_wp2_with fail
  try rw [hW5]
  clear hW5 HU y1 z1 d0 d1 d2 d3 HN4 HO4
  have HNr : Hid (NodesAt W5 a1 n1 l') := by
    obtain ⟨a, c, he, hr⟩ := OwnN.nodes HN5.out
    cases he
    show NodesAt _ _ _ _
    rw [← hn1]; exact hr
  have HOr : Hid (OpsAt W5 a2 n2 ops') := by
    obtain ⟨a, c, he, hr, _⟩ := OwnO.ops HO5.out
    cases he
    show OpsAt _ _ _ _
    rw [← hn2]; exact hr
  have CA : Hid (∀ W, Below W5.heap.size W5 W → Calls Tryd.prog 9 #[.agg #[.slice a1 n1 c1, .slice a2 n2 c2, .int .i64 bb1, .int .i64 bb2]] W fun e w' => e = .returned (.tuple #[.string P, .int .i64 Er]) ∧ Below W.heap.size W w') := fun W hW => by
    have h := CP.out W a1 a2 c1 c2 (below_step HS4.out.bel (Nat.le_refl _) hW) (by rw [hn1]; exact HNr.out.below hW) (by rw [hn2]; exact HOr.out.below hW)
    rw [hn1, hn2] at h
    exact h
  have CS' := asPutS_any a1 a2 n1 c1 n2 c2 bb1 bb2 P s Er W5 (fun W hW => CA.out W hW)
  obtain ⟨Q, hQ⟩ : ∃ Q : Array Value, (if Er ≠ 0 ∨ P ≠ s then #[.slice none 0 0, .slice none 0 0, .int .i64 0, .int .i64 0] else #[.slice a1 n1 c1, .slice a2 n2 c2, .int .i64 bb1, .int .i64 bb2]) = Q := ⟨_, rfl⟩
  obtain ⟨F, hF⟩ : ∃ F : Int, (if Er ≠ 0 ∨ P ≠ s then 91 else 0) = F := ⟨_, rfl⟩
  have HQ : Hid ((if Er ≠ 0 ∨ P ≠ s then #[.slice none 0 0, .slice none 0 0, .int .i64 0, .int .i64 0] else #[.slice a1 n1 c1, .slice a2 n2 c2, .int .i64 bb1, .int .i64 bb2]) = Q) := hQ
  have HF : Hid ((if Er ≠ 0 ∨ P ≠ s then 91 else 0) = F) := hF
  rw [hQ, hF] at CS'
  obtain ⟨q0, q1, q2, q3, hq4, hq1⟩ : ∃ q0 q1 q2 q3, Q = #[q0, q1, q2, q3] ∧ Q.all (·.oneCell') = true := by
    rw [← hQ]
    split
    · exact ⟨_, _, _, _, rfl, by simp [Value.oneCell']⟩
    · exact ⟨_, _, _, _, rfl, by simp [Value.oneCell']⟩
  subst hq4
  have HQ1 : Hid ((#[q0, q1, q2, q3] : Array Value).all (·.oneCell') = true) := hq1
  have CS : Hid (Calls _ _ _ _ _) := CS'
  clear CS' hQ hF hq1 CP CA HN5 HO5
  refine CS.out.mono ?_
  rintro e w6 ⟨rfl, hb6⟩
  have HS6 := HS4.out.on hb6
  have X1 := HS6.z
  have hB6 := HS6.bel
  have hL6 := HS6.lh
  have hN6 := HNr.out.below hb6
  have hO6 := HOr.out.below hb6
  clear CS hb6 HS4 HS6 HNr HOr
  go_wp2_with (with_reducible refine wpList_storeBlk rfl 38 _ _ rfl h #[.slice none 0 0, .slice none 0 0, .int .i64 0, .int .i64 0] #[q0, q1, q2, q3] ?hx ?hy X1 rfl ?hi ?h1 ?_)
  try (case hx => rfl)
  try (case hy => rfl)
  try (case hi => kernel_rfl)
  try (case h1 => exact HQ1.out)
  exact bodyPost_rowTmp rfl h _ _ rfl rfl rfl (X1.setRow _) _ Tryd.underlying38 rfl (by kernel_rfl) ⟨below_setRow hB6 hL6 _, a1, c1, a2, c2, by rw [hn1]; exact NodesAt.rowK hN6 X1 rfl _, by rw [hn2]; exact OpsAt.rowK hO6 X1 rfl _, by rw [hn1, hn2, HQ.out, HF.out]; rfl⟩
end Go.Proofs.YtdmlffbpcjadfaaDoor
