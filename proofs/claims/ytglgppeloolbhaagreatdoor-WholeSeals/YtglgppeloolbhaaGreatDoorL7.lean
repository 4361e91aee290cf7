import Derived.Test.YtglgppeloolbhaaGreatDoorR7
import Derived.Test.YtglgppeloolbhaaGreatDoorL5
import Derived.Test.YtglgppeloolbhaaGreatDoorL6
import Derived.Test.YtglgppeloolbhaaGreatDoorBld
import Derived.Test.YtglgppeloolbhaaGreatDoorStrs
import Derived.BigQuiet
import Derived.Test.YtglgppeloolbhaaGreatDoorG
import Derived.Deep.RegionWith
/- aead.fit, aead.turned, aead.once. -/
namespace Go.Proofs.YtglgppeloolbhaaGreatDoor
open Go.RowKit
set_option maxRecDepth 100000
set_option linter.unusedSimpArgs false

set_option maxHeartbeats 1000000 in
theorem afit_any (key nonce : ByteArray) (a b : Nat) (w : World) (hs : a + b ≤ 4503599627370496) :
    Calls Tryz.prog 9 #[.string key, .string nonce, .int .i64 ((a : Int) + (b : Int))] w fun e w' => ∃ t, e = .returned (.bool t) ∧ (t = true ↔ MayA key nonce a b) ∧ w' = w := by
  obtain ⟨n, hn⟩ : ∃ n : Nat, n = a + b := ⟨_, rfl⟩
  rw [show (a : Int) + (b : Int) = (n : Int) by omega]
  by_cases h1 : key.size = 32
  · have g1 : (((key.size : Int) == 32)) = true := by rw [beq_iff_eq]; omega
    by_cases h2 : nonce.size = 12
    · have g2 : (((nonce.size : Int) == 12)) = true := by rw [beq_iff_eq]; omega
      by_cases h3 : n ≤ 32768
      · have g3 : decide ((n : Int) ≤ 32768) = true := by simp; omega
        have hM : MayA key nonce a b := ⟨h1, h2, by omega⟩
        clear hn
        go_enter Tryz.func9, Tryz.ntmps9
        go_wp2
        go_ret
        exact ⟨true, rfl, ⟨fun _ => hM, fun _ => rfl⟩, rfl⟩
      · have g3 : decide ((n : Int) ≤ 32768) = false := by simp; omega
        have hM : ¬ MayA key nonce a b := fun h => h3 (by have := h.2.2; omega)
        clear hn
        go_enter Tryz.func9, Tryz.ntmps9
        go_wp2
        go_ret
        exact ⟨false, rfl, ⟨fun h => (by cases h), fun h => absurd h hM⟩, rfl⟩
    · have g2 : (((nonce.size : Int) == 12)) = false := by rw [beq_eq_false_iff_ne]; omega
      have hM : ¬ MayA key nonce a b := fun h => h2 h.2.1
      clear hn
      go_enter Tryz.func9, Tryz.ntmps9
      go_wp2
      go_ret
      exact ⟨false, rfl, ⟨fun h => (by cases h), fun h => absurd h hM⟩, rfl⟩
  · have g1 : (((key.size : Int) == 32)) = false := by rw [beq_eq_false_iff_ne]; omega
    have hM : ¬ MayA key nonce a b := fun h => h1 h.1
    clear hn
    go_enter Tryz.func9, Tryz.ntmps9
    go_wp2
    go_ret
    exact ⟨false, rfl, ⟨fun h => (by cases h), fun h => absurd h hM⟩, rfl⟩
theorem afit_yes (key nonce : ByteArray) (a b : Nat) (w : World) (h : MayA key nonce a b) :
    Calls Tryz.prog 9 #[.string key, .string nonce, .int .i64 ((a : Int) + (b : Int))] w fun e w' => e = .returned (.bool true) ∧ w' = w := by
  refine (afit_any key nonce a b w (by have := h.2.2; omega)).mono ?_
  rintro e w' ⟨t, rfl, ht, rfl⟩
  rw [ht.2 h]; exact ⟨rfl, rfl⟩
theorem afit_no (key nonce : ByteArray) (a b : Nat) (w : World) (hs : a + b ≤ 4503599627370496) (h : ¬ MayA key nonce a b) :
    Calls Tryz.prog 9 #[.string key, .string nonce, .int .i64 ((a : Int) + (b : Int))] w fun e w' => e = .returned (.bool false) ∧ w' = w := by
  refine (afit_any key nonce a b w hs).mono ?_
  rintro e w' ⟨t, rfl, ht, rfl⟩
  cases t with
  | true => exact absurd (ht.1 rfl) h
  | false => exact ⟨rfl, rfl⟩

set_option maxHeartbeats 1000000 in
theorem aturned_any (key nonce s : ByteArray) (w : World) (hk : key.size = 32) (hn : nonce.size = 12) (hs : s.size ≤ 65536) (hP : GlobP w) :
    Calls Tryz.prog 10 #[.string key, .string nonce, .string s] w fun e w' => e = .returned (.string (streamB key nonce 1 s)) ∧ Below w.heap.size w w' := by
  have C : Hid (Calls _ _ _ _ _) := stream_yes key nonce 1 s w ⟨hk, hn, by decide, by decide⟩ hs (by omega) hP
  clear hP
  go_enter Tryz.func10, Tryz.ntmps10
  go_wp2_with fail
  refine C.out.mono ?_
  rintro e w1 ⟨rfl, hb1⟩
  clear C
  go_wp2_with fail
  go_ret
  exact ⟨rfl, hb1⟩

set_option maxHeartbeats 1000000 in
theorem aonce_any (key nonce : ByteArray) (w : World) (hk : key.size = 32) (hn : nonce.size = 12) (hP : GlobP w) :
    Calls Tryz.prog 12 #[.string key, .string nonce] w fun e w' => e = .returned (.string (keyA key nonce)) ∧ Below w.heap.size w w' := by
  obtain ⟨B, HB⟩ : ∃ B, Hid (B = blockB key nonce 0) := ⟨_, rfl⟩
  have hBs : B.size = 64 := by rw [HB.out]; exact blockB_size _ _ _
  have C' := cblock_yes key nonce 0 w ⟨hk, hn, by decide, by decide⟩ hP
  rw [← HB.out] at C'
  have C : Hid (Calls _ _ _ _ _) := C'
  have e : keyA key nonce = B.extract 0 32 := by rw [HB.out]; rfl
  rw [e]
  clear C' e HB hP
  go_enter Tryz.func12, Tryz.ntmps12
  go_wp2_with fail
  refine C.out.mono ?_
  rintro e w1 ⟨rfl, hb1⟩
  clear C
  go_wp2_with fail
  go_ret
  exact ⟨rfl, hb1⟩
end Go.Proofs.YtglgppeloolbhaaGreatDoor

/- aead.filled: texts one behind another, each with noughts. -/
namespace Go.Proofs.YtglgppeloolbhaaGreatDoor
open Go.RowKit
set_option maxRecDepth 100000
set_option linter.unusedSimpArgs false

/-- The first k texts, filled. -/
def fillsB (l : List ByteArray) : Nat → ByteArray
  | 0 => ByteArray.empty
  | k + 1 => (fillsB l k ++ strL l k) ++ zeroB (fillA (strL l k).size)
theorem fillsB_le (l : List ByteArray) (m : Nat) (h : ∀ i, (strL l i).size ≤ m) (k : Nat) : (fillsB l k).size ≤ k * (m + 16) := by
  induction k with
  | zero => exact Nat.zero_le _
  | succ k ih =>
    show ((fillsB l k ++ strL l k) ++ zeroB _).size ≤ _
    rw [ByteArray.size_append, ByteArray.size_append, zeroB_size, Nat.add_mul, Nat.one_mul]
    have h1 := h k
    have h2 := fillA_lt (strL l k).size
    generalize k * (m + 16) = K at *
    omega
theorem i64_and15 (n : Int) : bits .and .i64 n 15 = n % 16 := i64_mask n 4 (by decide) 15 (by decide)
theorem fillA_int (n : Nat) : (-(n : Int)) % 16 = (fillA n : Int) := by
  have : fillA n = (16 - n % 16) % 16 := rfl
  omega

theorem noughts_take (f : Nat) (h : f ≤ 15) : (⟨#[0, 0, 0, 0, 0, 0, 0, 0, 0, 0, 0, 0, 0, 0, 0]⟩ : ByteArray).extract 0 f = zeroB f :=
  (show ∀ f, f < 16 → (⟨#[0, 0, 0, 0, 0, 0, 0, 0, 0, 0, 0, 0, 0, 0, 0]⟩ : ByteArray).extract 0 f = zeroB f by decide +kernel) f (by omega)

set_option maxRecDepth 100000 in
set_option maxHeartbeats 4000000 in
theorem afilled_any (a : Option Addr) (n c : Nat) (l : List ByteArray) (w : World) (hS : StrsAt w a n l) (hn : n ≤ 1000) (hsz : ∀ i, (strL l i).size ≤ 1048576) :
    Calls Tryz.prog 29 #[.slice a n c] w fun e w' => e = .returned (.string (fillsB l n)) ∧ Below w.heap.size w w' := by
  have HS : Hid (StrsAt w a n l) := hS
  have HL : Hid (∀ k, (fillsB l k).size ≤ k * (1048576 + 16)) := fillsB_le l _ hsz
  clear hS
  go_enter Tryz.func29, Tryz.ntmps29
  go_wp2_with fail
  go_loopw [8] (fun i wr => ∃ k : Nat, k ≤ n ∧ i = .int .i64 k ∧ Bld w.heap.size w.heap.size (fillsB l k) wr ∧ Below w.heap.size w wr) (fun i _ => n - (intOf i).toNat)
  case atStart => exact ⟨0, Nat.zero_le _, rfl, bld_new w, below_new w _⟩
  case round =>
    obtain ⟨k, hk, rfl, hbd, hbl⟩ := hrel
    by_cases hlt : k < n
    · obtain ⟨b, off, rfl, hcl⟩ := HS.out.some (by omega)
      have c0' := hcl k hlt
      have c0 : wr.cell? ⟨b, off + k, none⟩ = some (.string (strL l k)) := by
        rw [hbl.cell (p := ⟨b, off + k, none⟩) (World.block_lt_of_cell? w _ c0')]; exact c0'
      have b0 : (k : Int) < (n : Int) := by omega
      have hX := hsz k
      obtain ⟨f, Hf⟩ : ∃ f, Hid (f = fillA (strL l k).size) := ⟨_, rfl⟩
      have hf : f ≤ 15 := by rw [Hf.out]; have := fillA_lt (strL l k).size; omega
      have hbits : bits .and .i64 (-((strL l k).size : Int)) 15 = (f : Int) := by rw [i64_and15, fillA_int, ← Hf.out]
      have HF : Hid (fillsB l (k + 1) = (fillsB l k ++ strL l k) ++ zeroB f) := by show _ = _; rw [Hf.out]; rfl
      have hFk : (fillsB l k).size ≤ 1048592000 := by
        refine Nat.le_trans (HL.out k) ?_
        refine Nat.le_trans (Nat.mul_le_mul_right _ (by omega : k ≤ 1000)) ?_
        decide
      have hB0 := hbl.size
      clear hcl c0' hsz HL Hf
      obtain ⟨F1, HF1⟩ : ∃ F1, Hid (F1 = fillsB l (k + 1)) := ⟨_, rfl⟩
      rw [← HF1.out] at HF
      generalize fillsB l k = F0 at *
      generalize strL l k = X at *
      have C1 : Hid (Calls _ _ _ _ _) := bwrite_any w.heap.size w.heap.size F0 X wr hbd (by omega) hB0
      clear hbd
      go_wp2_with fail
      refine C1.out.mono ?_
      rintro e w1 ⟨rfl, hbd1, hb1⟩
      clear C1
      have hB1 := hb1.size
      have C2' := bwrite_any w.heap.size w.heap.size (F0 ++ X) (zeroB f) w1 hbd1 (by rw [ByteArray.size_append, zeroB_size]; omega) (by omega)
      rw [← HF.out, ← noughts_take f hf] at C2'
      have C2 : Hid (Calls _ _ _ _ _) := C2'
      clear hbd1 C2'
      go_wp2_with fail
      refine C2.out.mono ?_
      rintro e w2 ⟨rfl, hbd2, hb2⟩
      clear C2
      have hbl2 : Below w.heap.size w w2 := (hbl.trans hb1).trans hb2
      clear hbl hb1 hb2
      go_wp2_with fail
      rw [HF1.out] at hbd2
      refine ⟨⟨k + 1, by omega, by go_num, hbd2, hbl2⟩, ?_⟩
      simp [intOf]; omega
    · have hk' : k = n := by omega
      subst hk'
      have C : Hid (Calls _ _ _ _ _) := bstring_any w.heap.size w.heap.size (fillsB l k) wr hbd hbl.size
      clear hbd
      go_wp2_with fail
      refine C.out.mono ?_
      rintro e w1 ⟨rfl, hb1⟩
      clear C
      have hbl1 := hbl.trans hb1
      clear hbl hb1
      go_wp2_with fail
      go_ret
      exact ⟨rfl, hbl1⟩
end Go.Proofs.YtglgppeloolbhaaGreatDoor

/- aead.lengths, aead.tagged. -/
namespace Go.Proofs.YtglgppeloolbhaaGreatDoor
open Go.RowKit
set_option maxRecDepth 100000
set_option linter.unusedSimpArgs false

theorem cell_two_new (w : World) (x y : Value) (e : TypeId) : ∀ (j : Nat) (u : Value), [x, y][j]? = some u → (w.alloc (.cells #[x, y] e)).cell? ((⟨w.heap.size, 0, none⟩ : Addr).add j) = some u := by
  intro j u hj
  match j, hj with
  | 0, hj => simp at hj; subst hj; simp [Addr.add]
  | 1, hj => simp at hj; subst hj; simp [Addr.add]
/-- Two numbers appended to a row of the call's own, in a plain region. -/
theorem wpList_app2 {P : Program} {ops : Array Oper} {rest : List Oper} {o : Oper} {a : Act} {Q : Exit → Act → World → Prop} (hgd : o.guard = none) (s x : Operand) (t : TypeId)
    (ho : o.op = .call { callee := .builtin .append, args := #[s, x], argTypes := #[t, t] })
    (B : Nat) (e : TypeId) (i : TypeInfo) (K : IntKind) (bytes : Nat) (ht : P.underlying t = some (.slice e)) (hi : P.info? e = some i) (hz : i.zero = some (.int K 0)) (hsize : i.size = 1) (hby : i.bytes = bytes)
    (W : World) (v : Value) (n : Nat) (l : List Int) (hs : a.eval s = v) (hown : OwnV W B e K v n l) (y z : Int) (hx : a.eval x = .slice (some ⟨W.heap.size, 0, none⟩) 2 2)
    (hn : (n + 2) * bytes ≤ 140737488355328) (hn' : n + 2 ≤ 9223372036854775807) (hB : B ≤ W.heap.size)
    (h : ∀ v' w', OwnV w' B e K v' (n + 2) (l ++ [y, z]) → Below B W w' → wpList P ops Q rest (a.put o.dst v') w') :
    wpList P ops Q (o :: rest) a (W.alloc (.cells #[.int K y, .int K z] e)) := by
  refine wpList_append_own _ hgd s x t ho B e i (.int K 0) 1 bytes ht hi hz hsize hby rfl (by decide) v n _ hs (World.ownsRow.alloc hown _) ⟨W.heap.size, 0, none⟩ 2 2 [.int K y, .int K z] hx rfl (cell_two_new _ _ _ _) ?_ (by unfold maxLen; omega) hn (by simp; omega) ?_
  · intro u hu; simp at hu; rcases hu with rfl | rfl <;> rfl
  · intro v' w' h1 h2 _
    refine h v' w' (by unfold OwnV; rw [List.map_append]; exact h1) ?_
    exact ((Below.refl B W).alloc hB _).grown h2 (by simp; omega) (fun k hk => (World.ownsRow.lt hown k hk).1)

/-- The lengths of the first k texts, a nought behind each. -/
def lensI (l : List ByteArray) : Nat → List Int
  | 0 => []
  | k + 1 => lensI l k ++ [((strL l k).size : Int), 0]

set_option maxRecDepth 100000 in
set_option maxHeartbeats 4000000 in
theorem alengths_any (a : Option Addr) (n c : Nat) (l : List ByteArray) (w : World) (hS : StrsAt w a n l) (hn : n ≤ 1000) (hsz : ∀ i, (strL l i).size ≤ 1048576) :
    Calls Tryz.prog 30 #[.slice a n c] w fun e w' => e = .returned (.string ⟨(putL (lensI l n) ssh).toArray⟩) ∧ Below w.heap.size w w' := by
  obtain ⟨i0, hi, hz0, hz1, hz2⟩ := info_parts Tryz.info3
  have HS : Hid (StrsAt w a n l) := hS
  clear hS
  go_enter Tryz.func30, Tryz.ntmps30
  go_wp2_with fail
  go_loopw [3, 8] (fun v i wr => ∃ k : Nat, k ≤ n ∧ i = .int .i64 k ∧ OwnV wr w.heap.size 3 .i64 v (2 * k) (lensI l k) ∧ Below w.heap.size w wr) (fun _ i _ => n - (intOf i).toNat)
  case atStart => exact ⟨0, Nat.zero_le _, rfl, World.ownsRow_nil _ _ _ _, Below.refl _ _⟩
  case round =>
    obtain ⟨k, hk, rfl, hown, hbl⟩ := hrel
    by_cases hlt : k < n
    · obtain ⟨b, off, rfl, hcl⟩ := HS.out.some (by omega)
      have c0' := hcl k hlt
      have c0 : wr.cell? ⟨b, off + k, none⟩ = some (.string (strL l k)) := by
        rw [hbl.cell (p := ⟨b, off + k, none⟩) (World.block_lt_of_cell? w _ c0')]; exact c0'
      have b0 : (k : Int) < (n : Int) := by omega
      have hX := hsz k
      have HF : Hid (lensI l (k + 1) = lensI l k ++ [((strL l k).size : Int), 0]) := rfl
      have hB0 := hbl.size
      clear hcl c0' hsz
      generalize lensI l k = F0 at *
      generalize strL l k = X at *
      go_wp2_with (at_builtin; refine wpList_app2 rfl (.tmp 12) (.tmp 15) 47 rfl w.heap.size 3 i0 .i64 8 Tryz.underlying47 hi hz0 hz1 hz2 wr u3 (2 * k) F0 rfl hown (X.size : Int) 0 rfl (by omega) (by omega) hB0 ?_)
      intro v' w' hown' hb'
      have hbl' := hbl.trans hb'
      clear hbl hb' hown
      go_wp2_with fail
      refine ⟨⟨k + 1, by omega, by go_num, by rw [HF.out]; exact hown', hbl'⟩, ?_⟩
      simp [intOf]; omega
    · have hk' : k = n := by omega
      subst hk'
      obtain ⟨a', c', rfl, hI⟩ := hown.ints
      have C : Hid (Calls _ _ _ _ _) := putSmall_any a' (2 * k) c' (lensI l k) wr (by omega) hI
      clear hown hI
      go_wp2_with fail
      refine C.out.mono ?_
      rintro e w1 ⟨rfl, hb1⟩
      clear C
      have hbl1 := below_step hbl (Nat.le_refl _) hb1
      clear hbl hb1
      go_wp2_with fail
      go_ret
      exact ⟨rfl, hbl1⟩
end Go.Proofs.YtglgppeloolbhaaGreatDoor

/- aead.tagged. -/
namespace Go.Proofs.YtglgppeloolbhaaGreatDoor
open Go.RowKit
set_option maxRecDepth 100000
set_option linter.unusedSimpArgs false

theorem strs_two (w : World) (x y : ByteArray) (e : TypeId) : StrsAt (w.alloc (.cells #[.string x, .string y] e)) (some ⟨w.heap.size, 0, none⟩) 2 [x, y] := by
  refine ⟨rfl, .inr ⟨w.heap.size, 0, rfl, fun i hi => ?_⟩⟩
  match i, hi with
  | 0, _ => simp [strL]
  | 1, _ => simp [strL]
theorem strs_three (w : World) (x y z : ByteArray) (e : TypeId) : StrsAt (w.alloc (.cells #[.string x, .string y, .string z] e)) (some ⟨w.heap.size, 0, none⟩) 3 [x, y, z] := by
  refine ⟨rfl, .inr ⟨w.heap.size, 0, rfl, fun i hi => ?_⟩⟩
  match i, hi with
  | 0, _ => simp [strL]
  | 1, _ => simp [strL]
  | 2, _ => simp [strL]
theorem strL_le (l : List ByteArray) (m : Nat) (h : ∀ s ∈ l, s.size ≤ m) (i : Nat) : (strL l i).size ≤ m := by
  unfold strL
  by_cases hi : i < l.length
  · rw [List.getD_eq_getElem?_getD, List.getElem?_eq_getElem hi]
    exact h _ (List.getElem_mem hi)
  · rw [List.getD_eq_getElem?_getD, List.getElem?_eq_none (by omega)]
    exact Nat.zero_le _
theorem empty_front (s : ByteArray) : ByteArray.empty ++ s = s := by
  apply bytes_ext
  rw [ByteArray.data_append, Array.toList_append]
  rfl
theorem fills_mac (b c : ByteArray) : fillsB [b, c, lensB b.size c.size] 3 = macText b c := by
  show ((((((ByteArray.empty ++ b) ++ zeroB (fillA b.size)) ++ c) ++ zeroB (fillA c.size)) ++ lensB b.size c.size) ++ zeroB (fillA (lensB b.size c.size).size)) = _
  rw [lensB_size, show fillA 16 = 0 from rfl, zeroB_none, empty_front]
  unfold macText fillB
  rw [ByteArray.append_assoc (a := b ++ zeroB (fillA b.size)) (b := c)]

set_option maxRecDepth 100000 in
set_option maxHeartbeats 4000000 in
theorem atagged_any (b c : ByteArray) (w : World) (hs : b.size + c.size ≤ 65000) :
    Calls Tryz.prog 13 #[.string b, .string c] w fun e w' => e = .returned (.string (macText b c)) ∧ Below w.heap.size w w' := by
  obtain ⟨L, hL⟩ : ∃ L, lensB b.size c.size = L := ⟨_, rfl⟩
  have hLs : L.size = 16 := by rw [← hL]; exact lensB_size _ _
  obtain ⟨M, hM⟩ : ∃ M, macText b c = M := ⟨_, rfl⟩
  have hF : fillsB [b, c, L] 3 = M := by rw [← hL, ← hM]; exact fills_mac b c
  rw [hM]
  have C1' := alengths_any (some ⟨w.heap.size, 0, none⟩) 2 2 [b, c] _ (strs_two w b c 9) (by decide) (strL_le _ _ (by intro s h; simp at h; rcases h with rfl | rfl <;> omega))
  rw [show (⟨(putL (lensI [b, c] 2) ssh).toArray⟩ : ByteArray) = L from hL] at C1'
  have C1 : Hid (Calls _ _ _ _ _) := C1'
  have C2' := fun w : World => afilled_any (some ⟨w.heap.size, 0, none⟩) 3 3 [b, c, L] _ (strs_three w b c L 9) (by decide) (strL_le _ _ (by intro s h; simp at h; rcases h with rfl | rfl | rfl <;> omega))
  rw [hF] at C2'
  have C2 : Hid (∀ w : World, _) := C2'
  clear C1' C2' hF hM hL
  go_enter Tryz.func13, Tryz.ntmps13
  go_wp2_with fail
  refine C1.out.mono ?_
  rintro e w1 ⟨rfl, hb1⟩
  have hB1 := below_step (below_new w _) (Nat.le_refl _) hb1
  clear C1 hb1
  go_wp2_with fail
  refine (C2.out _).mono ?_
  rintro e w2 ⟨rfl, hb2⟩
  have hB2 := below_step (below_step hB1 (Nat.le_refl _) (below_new w1 _)) (Nat.le_refl _) hb2
  clear C2 hb2
  go_wp2_with fail
  go_ret
  exact ⟨rfl, hB2⟩
end Go.Proofs.YtglgppeloolbhaaGreatDoor

/- aead.Seal. -/
namespace Go.Proofs.YtglgppeloolbhaaGreatDoor
open Go.RowKit
set_option maxRecDepth 100000
set_option linter.unusedSimpArgs false

set_option maxHeartbeats 1000000 in
theorem aseal_no (key nonce b s : ByteArray) (w : World) (hs : b.size + s.size ≤ 4503599627370496) (h : ¬ MayA key nonce b.size s.size) :
    Calls Tryz.prog 4 #[.string key, .string nonce, .string b, .string s] w fun e w' => e = .returned (.tuple #[.string ⟨#[]⟩, .int .i64 1]) ∧ Below w.heap.size w w' := by
  have C : Hid (∀ w, _) := fun w => afit_no key nonce b.size s.size w hs h
  clear h
  go_enter Tryz.func4, Tryz.ntmps4
  go_wp2_with fail
  refine (C.out _).mono ?_
  rintro e w1 ⟨rfl, rfl⟩
  clear C
  go_wp2_with fail
  go_ret2
  exact ⟨rfl, Below.refl _ _⟩

set_option maxRecDepth 100000 in
set_option maxHeartbeats 4000000 in
theorem aseal_yes (key nonce b s : ByteArray) (w : World) (h : MayA key nonce b.size s.size) (hP : GlobP w) (hY : GlobY w) :
    Calls Tryz.prog 4 #[.string key, .string nonce, .string b, .string s] w fun e w' => e = .returned (.tuple #[.string (sealB key nonce b s), .int .i64 0]) ∧ Below w.heap.size w w' := by
  have hm := h.2.2
  have C : Hid (∀ w, _) := fun w => afit_yes key nonce b.size s.size w h
  obtain ⟨S, HS⟩ : ∃ S, Hid (S = streamB key nonce 1 s) := ⟨_, rfl⟩
  have hSs : S.size = s.size := by rw [HS.out]; exact streamB_size _ _ _ _
  have CS' := aturned_any key nonce s w h.1 h.2.1 (by omega) hP
  rw [← HS.out] at CS'
  have CS : Hid (Calls _ _ _ _ _) := CS'
  obtain ⟨K, HK⟩ : ∃ K, Hid (K = keyA key nonce) := ⟨_, rfl⟩
  have hKs : K.size = 32 := by rw [HK.out]; exact keyA_size _ _
  have CK' := fun (w' : World) (hb : Below w.heap.size w w') => aonce_any key nonce w' h.1 h.2.1 (hP.below hb)
  rw [← HK.out] at CK'
  have CK : Hid (∀ (w' : World) (hb : Below w.heap.size w w'), _) := CK'
  obtain ⟨M, HM⟩ : ∃ M, Hid (M = macText b S) := ⟨_, rfl⟩
  have hMs : M.size ≤ 65536 := by rw [HM.out]; exact macText_le _ _ (by omega)
  have CM' := fun w' => atagged_any b S w' (by omega)
  rw [← HM.out] at CM'
  have CM : Hid (∀ w, _) := CM'
  obtain ⟨T, HT⟩ : ∃ T, Hid (T = tagB K M) := ⟨_, rfl⟩
  have hTs : T.size = 16 := by rw [HT.out]; exact tagB_size _ _
  have CT' := fun (w' : World) (hb : Below w.heap.size w w') => mac_on K M w w' hY hb hKs hMs
  rw [← HT.out] at CT'
  have CT : Hid (∀ (w' : World) (hb : Below w.heap.size w w'), _) := CT'
  obtain ⟨E, hE⟩ : ∃ E, S ++ T = E := ⟨_, rfl⟩
  have e : sealB key nonce b s = E := by
    rw [← hE, HT.out, HK.out, HM.out, HS.out]; rfl
  rw [e]
  have hsum : ¬ (9223372036854775807 < s.size + 16) := by omega
  clear CS' CK' CM' CT' HS HK HM HT e h hP hY
  go_enter Tryz.func4, Tryz.ntmps4
  go_wp2_with fail
  refine (C.out _).mono ?_
  rintro e w1 ⟨rfl, rfl⟩
  clear C
  go_wp2_with fail
  refine CS.out.mono ?_
  rintro e w2 ⟨rfl, hb2⟩
  clear CS
  go_wp2_with fail
  refine (CK.out _ hb2).mono ?_
  rintro e w3 ⟨rfl, hb3⟩
  have hB3 := below_step hb2 (Nat.le_refl _) hb3
  clear CK hb2 hb3
  go_wp2_with fail
  refine (CM.out _).mono ?_
  rintro e w4 ⟨rfl, hb4⟩
  have hB4 := below_step hB3 (Nat.le_refl _) hb4
  clear CM hB3 hb4
  go_wp2_with fail
  refine (CT.out _ hB4).mono ?_
  rintro e w5 ⟨rfl, hB5⟩
  clear CT hB4
  go_wp2_with fail
  go_ret2
  exact ⟨rfl, hB5⟩
end Go.Proofs.YtglgppeloolbhaaGreatDoor

/- aead.Open. -/
namespace Go.Proofs.YtglgppeloolbhaaGreatDoor
open Go.RowKit
set_option maxRecDepth 100000
set_option linter.unusedSimpArgs false

end Go.Proofs.YtglgppeloolbhaaGreatDoor

/- aead.Open by what is asked of it; awake, light. -/
namespace Go.Proofs.YtglgppeloolbhaaGreatDoor
open Go.RowKit
set_option maxRecDepth 100000
set_option linter.unusedSimpArgs false

end Go.Proofs.YtglgppeloolbhaaGreatDoor

/- awake of layer 7. -/
namespace Go.Proofs.YtglgppeloolbhaaGreatDoor
open Go.RowKit
set_option maxRecDepth 100000
set_option linter.unusedSimpArgs false

end Go.Proofs.YtglgppeloolbhaaGreatDoor
