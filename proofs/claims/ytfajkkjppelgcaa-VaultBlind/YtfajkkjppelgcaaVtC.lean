/- The code's ideal way (layer 16): seal, open. -/
import Derived.Test.YtfajkkjppelgcaaVtB
namespace Go.Proofs.Ytfajkkjppelgcaa
open Go.RowKit
set_option maxRecDepth 100000
set_option linter.unusedSimpArgs false
set_option linter.unusedSectionVars false
variable [Inhabited TabZ]

/-- What the table holds: a key, a nonce, what it is bound to, the text. -/
def entV (key nonce bound text : ByteArray) : Value := .agg #[.string key, .string nonce, .string bound, .string text]

set_option maxHeartbeats 2000000 in
theorem iseal_no (i : Nat) (key nonce bound text : ByteArray) (w : World) (h : ¬ MayA key nonce bound.size text.size) (hs : bound.size + text.size ≤ 4503599627370496) :
    Calls Try.prog 30 #[.pointer (some ⟨i, 0, none⟩), .string key, .string nonce, .string bound, .string text] w fun e w' => e = .returned (.tuple #[.string ⟨#[]⟩, .int .i64 1]) ∧ Below w.heap.size w w' := by
  have C1 : Hid (∀ w, _) := fun w => fit_any key nonce bound text.size w false hs ⟨fun e => (by cases e), fun e => absurd e h⟩
  clear h
  go_enter Try.func30, Try.ntmps30
  go_wp2_with fail
  refine (C1.out _).mono ?_
  rintro e w1 ⟨rfl, hb1⟩
  have hB1 := below_step (below_new w _) (Nat.le_refl _) hb1
  clear hb1 C1
  go_wp2_with fail
  go_ret2
  exact ⟨rfl, hB1⟩

set_option maxHeartbeats 4000000 in
theorem iseal_yes (i m N : Nat) (S key nonce bound text : ByteArray) (T : List (ByteArray × Value)) (w : World) (hh : Hsh w) (hI : IdlAt w i m S N T) (h : MayA key nonce bound.size text.size) (hS : S.size ≤ 65472) (hN : N < 1152921504606000000) :
    Calls Try.prog 30 #[.pointer (some ⟨i, 0, none⟩), .string key, .string nonce, .string bound, .string text] w fun e w' => e = .returned (.tuple #[.string (drawV S N (text.size + 16)), .int .i64 0]) ∧ IdlAt w' i m S (N + upV (text.size + 16)) (putX T (drawV S N (text.size + 16)) (entV key nonce bound text)) ∧ Kept2 i (some m) w w' := by
  have h3 := h.2.2
  have C1 : Hid (∀ w, _) := fun w => fit_any key nonce bound text.size w true (by omega) ⟨fun _ => h, fun _ => rfl⟩
  obtain ⟨n, hn⟩ : ∃ n, n = text.size + 16 := ⟨_, rfl⟩
  have hts : text.size ≤ 32768 := by omega
  have HT : Hid (IdlAt w i m S N T) := hI
  have HH : Hid (Hsh w) := hh
  have C2 : Hid (∀ w', Hsh w' → IdlAt w' i m S N T → Calls Try.prog 32 #[.pointer (some ⟨i, 0, none⟩), .int .i64 ((text.size : Int) + 16)] w' fun e w'' => e = .returned (.string (drawV S N n)) ∧ IdlAt w'' i m S (N + upV n) T ∧ Kept2 i (some m) w' w'') := fun w' a b => by
    rw [show (text.size : Int) + 16 = (n : Int) by omega]
    exact draw_any i m N n S T w' a b hS hN (by omega)
  rw [← hn]
  obtain ⟨hi, hm⟩ := hI.lt
  generalize drawV S N n = D at *
  generalize N + upV n = N2 at *
  clear h hh hI hS hN h3 hn
  go_enter Try.func30, Try.ntmps30
  go_wp2_with fail
  refine (C1.out _).mono ?_
  rintro e w1 ⟨rfl, hb1⟩
  have hbw := below_new w (.cells #[.string key, .string nonce, .string bound] 64)
  have hB1 := below_step hbw (Nat.le_refl _) hb1
  have V1 := (Blk.new w 64 #[.string key, .string nonce, .string bound]).on hb1
  have X1 : Hid (IdlAt w1 i m S N T) := HT.out.on hB1
  have H1 : Hid (Hsh w1) := HH.out.below hB1
  have HB1 : Hid (Below w.heap.size w w1) := hB1
  have HV1 : Hid (Blk w1 64 w.heap.size #[.string key, .string nonce, .string bound]) := V1
  clear hb1 C1 hbw hB1 V1 HT HH
  go_wp2_with fail
  refine (C2.out _ H1.out X1.out).mono ?_
  rintro e w2 ⟨rfl, h2, k2⟩
  have X2 : Hid (IdlAt w2 i m S N2 T) := h2
  have V2 : Blk w2 64 w.heap.size #[.string key, .string nonce, .string bound] := HV1.out.kept k2 (by omega) (fun e => by have := Option.some.inj e; omega)
  have K2 : Hid (Kept2 i (some m) w w2) := Kept2.behind HB1.out k2
  have s0 : w2.drew.cell? ⟨i, 2, none⟩ = some (.map (some m)) ∧ w2.drew.cell? ⟨w.heap.size, 0, none⟩ = some (.string key) ∧ w2.drew.cell? ⟨w.heap.size, 1, none⟩ = some (.string nonce) ∧ w2.drew.cell? ⟨w.heap.size, 2, none⟩ = some (.string bound) := ⟨h2.1.cell 2, V2.cell 0, V2.cell 1, V2.cell 2⟩
  obtain ⟨w3, hrun, hmap, hgrow⟩ := (show MapTV w2.drew m T from h2.2.block rfl).put 36 67 Try.underlying36 D (.agg #[.string key, .string nonce, .string bound, .string text])
  have hmi : m ≠ i := h2.ne.symm
  have X3 : Hid (IdlAt w3 i m S N2 (putX T D (entV key nonce bound text))) := ⟨(show Blk w2.drew _ _ _ from h2.1).kept (Kept2.ofOne none hgrow) h2.ne (by simp), hmap⟩
  have K3 : Hid (Kept2 i (some m) w w3) := K2.out.drew.trans (Kept2.ofGrown i hgrow) (Nx.refl _ _)
  have V3 : Blk w3 64 w.heap.size #[.string key, .string nonce, .string bound] := (show Blk w2.drew _ _ _ from V2).kept (Kept2.ofOne none hgrow) (by omega) (by simp)
  have s3 : w3.cell? ⟨i, 2, none⟩ = some (.map (some m)) ∧ w3.cell? ⟨w.heap.size, 0, none⟩ = some (.string key) ∧ w3.cell? ⟨w.heap.size, 1, none⟩ = some (.string nonce) ∧ w3.cell? ⟨w.heap.size, 2, none⟩ = some (.string bound) := ⟨X3.out.1.cell 2, V3.cell 0, V3.cell 1, V3.cell 2⟩
  have HS3 : Hid (_ ∧ _ ∧ _ ∧ _) := s3
  clear h2 k2 C2 X1 H1 HB1 HV1 V2 K2 X2 hmap hgrow V3 s3 hmi
  go_wp2_with fail
  refine wp_region_noPanic ?_
  refine wp_region_held_drew (S := fun w' => w'.cell? ⟨i, 2, none⟩ = some (.map (some m)) ∧ w'.cell? ⟨w.heap.size, 0, none⟩ = some (.string key) ∧ w'.cell? ⟨w.heap.size, 1, none⟩ = some (.string nonce) ∧ w'.cell? ⟨w.heap.size, 2, none⟩ = some (.string bound)) (by kernel_rfl) (by first | exact trivial | assumption | exact ⟨by assumption, by assumption⟩) (fun hHeld => ?_)
  refine take_at (i := 0) (v := ?_) rfl rfl (by kernel_rfl) (by kernel_rfl) (by kernel_rfl) (fun _ _ _ h => h) (Or.inl ⟨by rfl, ?_⟩) (by assumption) ?_
  rotate_left
  · intro w hSw; (try dsimp only at hSw); go_simp; try with_reducible rfl
  try simp only [Act.put, List.setIfInBounds_toArray, List.set_cons_zero, List.set_cons_succ]
  refine take_at (i := 1) (v := ?_) rfl rfl (by kernel_rfl) (by kernel_rfl) (by kernel_rfl) (fun _ _ _ h => h) (Or.inl ⟨by rfl, ?_⟩) (by assumption) ?_
  rotate_left
  · intro w hSw; (try dsimp only at hSw); go_simp; try with_reducible rfl
  try simp only [Act.put, List.setIfInBounds_toArray, List.set_cons_zero, List.set_cons_succ]
  refine take_at (i := 2) (v := ?_) rfl rfl (by kernel_rfl) (by kernel_rfl) (by kernel_rfl) (fun _ _ _ h => h) (Or.inl ⟨by rfl, ?_⟩) (by assumption) ?_
  rotate_left
  · intro w hSw; (try dsimp only at hSw); go_simp; try with_reducible rfl
  try simp only [Act.put, List.setIfInBounds_toArray, List.set_cons_zero, List.set_cons_succ]
  refine take_at (i := 3) (v := ?_) rfl rfl (by kernel_rfl) (by kernel_rfl) (by kernel_rfl) (fun _ _ _ h => h) (Or.inl ⟨by rfl, ?_⟩) (by assumption) ?_
  rotate_left
  · intro w hSw; (try dsimp only at hSw); go_simp; try with_reducible rfl
  try simp only [Act.put, List.setIfInBounds_toArray, List.set_cons_zero, List.set_cons_succ]
  refine take_at (i := 4) (v := ?_) rfl rfl (by kernel_rfl) (by kernel_rfl) (by kernel_rfl) (fun _ _ _ h => h) (Or.inl ⟨by rfl, ?_⟩) (by assumption) ?_
  rotate_left
  · intro w hSw; (try dsimp only at hSw); go_simp; try with_reducible rfl
  try simp only [Act.put, List.setIfInBounds_toArray, List.set_cons_zero, List.set_cons_succ]
  refine take_at (i := 5) (v := ?_) rfl rfl (by kernel_rfl) (by kernel_rfl) (by kernel_rfl) (fun _ _ _ h => h) (Or.inl ⟨by rfl, ?_⟩) (by assumption) ?_
  rotate_left
  · intro w hSw; (try dsimp only at hSw); go_simp; try with_reducible rfl
  try simp only [Act.put, List.setIfInBounds_toArray, List.set_cons_zero, List.set_cons_succ]
  refine take_at (i := 6) (v := ?_) rfl rfl (by kernel_rfl) (by kernel_rfl) (by kernel_rfl) (fun _ _ _ h => h) (Or.inl ⟨by rfl, ?_⟩) (by assumption) ?_
  rotate_left
  · intro w hSw; (try dsimp only at hSw); go_simp; try with_reducible rfl
  try simp only [Act.put, List.setIfInBounds_toArray, List.set_cons_zero, List.set_cons_succ]
  refine take_at (i := 7) (v := ?_) rfl rfl (by kernel_rfl) (by kernel_rfl) (by kernel_rfl) (fun _ _ _ h => h) (Or.inl ⟨by rfl, ?_⟩) (by assumption) ?_
  rotate_left
  · intro w hSw; (try dsimp only at hSw); go_simp; try with_reducible rfl
  try simp only [Act.put, List.setIfInBounds_toArray, List.set_cons_zero, List.set_cons_succ]
  refine wpAnyH_ready (rs := [8]) (by kernel_rfl) (by simp) ?_
  refine AllReadyH.cons rfl (fun K hK => ?_) AllReadyH.nil
  go_simp
  refine hK.out _ _ HS3.out (fun hHeld => ?_)
  clear hK K
  refine wpAnyH_done (by kernel_rfl) (NoPanic.normal ?_) _
  go_wp2_with fail
  go_ret2
  exact ⟨rfl, X3.out, K3.out⟩

theorem withEq (a b c a' b' c' : ByteArray) (w : World) : (Op.equalIn 10000 64 (.agg #[.string a, .string b, .string c]) (.agg #[.string a', .string b', .string c'])).run Try.prog w = .ok (decide (a = a') && (decide (b = b') && decide (c = c'))) w := by
  have u9 := Try.underlying9
  have a9 := Try.isAgg9
  have z9 := Try.sizeOf9
  have txt : ∀ s t : ByteArray, (s.toList = t.toList) = (s = t) := fun s t => propext ⟨fun e => bytes_ext (by rw [toList_data, toList_data] at e; exact e), fun e => by rw [e]⟩
  have ite : ∀ (p : Prop) [Decidable p] (q : Bool) (w : World), (if p then Result.ok q w else Result.ok false w) = Result.ok (decide p && q) w := fun p _ q w => by by_cases h : p <;> simp [h]
  rw [show (10000 : Nat) = 9999 + 1 from rfl, Op.equalIn]
  simp only [Sem.run_bind, run_underlying Try.underlying64, Result.andThen_ok]
  go_simp

theorem withNeq (a b c a' b' c' : ByteArray) (w : World) : (binOp .neq 64 (.agg #[.string a, .string b, .string c]) (.agg #[.string a', .string b', .string c'])).run Try.prog w = .ok (.bool (!(decide (a = a') && (decide (b = b') && decide (c = c'))))) w := by
  have h := withEq a b c a' b' c' w
  simp only [binOp]
  simp [Op.equal, Op.maxDepth, h]

end Go.Proofs.Ytfajkkjppelgcaa
