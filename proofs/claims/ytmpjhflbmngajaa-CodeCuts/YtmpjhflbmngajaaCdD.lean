/- The code's Out (layer 9): a number that may be, written. -/
import Derived.Test.YtmpjhflbmngajaaCdC
namespace Go.Proofs.Ytmpjhflbmngajaa
open Go.RowKit
set_option linter.unusedSimpArgs false

theorem row6_new (w : World) (t : TypeId) : Row8 (w.alloc (.cells #[.int .u8 0, .int .u8 0, .int .u8 0, .int .u8 0, .int .u8 0, .int .u8 0] t)) w.heap.size 6 (fun _ => 0) := by
  refine ⟨_, t, _, heap_alloc_last w _, Or.inr rfl, fun j hj => ?_⟩
  match j, hj with
  | 0, _ => rfl
  | 1, _ => rfl
  | 2, _ => rfl
  | 3, _ => rfl
  | 4, _ => rfl
  | 5, _ => rfl

/-- 'b[:k:k]' of an array of n. -/
theorem sliceAt_head {P : Program} {w : World} {t e : TypeId} {n k b : Nat} {i : TypeInfo} (hu : P.underlying t = some (.array n e)) (hi : P.info? e = some i) (hk : k ≤ n) :
    (Instr.sliceAt t (.pointer (some ⟨b, 0, none⟩)) none (some (.int .i64 (k : Int))) (some (.int .i64 (k : Int)))).run P w = .ok (.slice (some ⟨b, 0, none⟩) k k) w := by
  simp [Instr.sliceAt, Instr.sureAddr, run_underlying hu, Instr.sliceBounds, run_sliceBound, sliced, hk, sizeOf, typeInfo, hi, Addr.add]

set_option maxHeartbeats 1000000 in
set_option maxRecDepth 100000 in
theorem number_yes (g : Nat) (v : Value) (S : ByteArray) (N : Nat) (most : Int) (size : Nat) (w : World) (h : OutOk w g v S) (hN : (N : Int) ≤ most) (hs : size ≤ 6) :
    Calls Try.prog 40 #[.pointer (some ⟨g, 0, none⟩), .int .i64 (N : Int), .int .i64 most, .int .i64 (size : Int)] w fun e w' => e = .returned (.bool (!(withP (S, false) (bigB (N : Int) size) true).2)) ∧ ∃ v', OutAt w' g v' (withP (S, false) (bigB (N : Int) size) true) ∧ Kept2 g v.ownBlock w w' ∧ Nx w v.ownBlock v'.ownBlock := by
  have HC : Hid (∀ w', w' = w → Calls Try.prog 30 #[.pointer (some ⟨g, 0, none⟩)] w' fun e w'' => e = .returned (.bool true) ∧ w'' = w') := fun w' e => by subst e; exact owell_ok g _ _ h.1
  have HL : Hid (∀ w' b, OutOk w' g v S → Row8 w' b size (bt (bigB (N : Int) size)) → Calls Try.prog 41 #[.pointer (some ⟨g, 0, none⟩), .slice (some ⟨b, 0, none⟩) size size] w' fun e w'' => e = .returned (.bool (!(withP (S, false) (bigB (N : Int) size) true).2)) ∧ ∃ v', OutAt w'' g v' (withP (S, false) (bigB (N : Int) size) true) ∧ Kept2 g v.ownBlock w' w'' ∧ Nx w' v.ownBlock v'.ownBlock) := fun w' b h1 h2 => by
    have := lay_any g v S (bigB (N : Int) size) b size w' h1 (by rw [bigB_size]; exact h2) (by rw [bigB_size]; omega)
    rw [bigB_size] at this
    exact this
  obtain ⟨o', ho'⟩ : ∃ o', withP (S, false) (bigB (N : Int) size) true = o' := ⟨_, rfl⟩
  rw [ho'] at HL ⊢
  clear ho'
  obtain ⟨q, hq⟩ : ∃ q, (!o'.2) = q := ⟨_, rfl⟩
  rw [hq] at HL ⊢
  clear hq
  obtain ⟨F, HF⟩ : ∃ F, Hid (F = bigF (N : Int) size) := ⟨_, rfl⟩
  have HFl : Hid (∀ i, F i < 256) := by show ∀ i, _; rw [HF.out]; exact bigF_lt _ _
  have HFB : Hid (∀ j, j < size → bt (bigB (N : Int) size) j = F j) := fun j hj => by
    unfold bigB
    rw [bt_bytesOf _ _ _ hj (bigF_lt _ _ _), HF.out]
  have hOK : Hid (OutOk w g v S) := h
  clear h
  go_enter Try.func40, Try.ntmps40
  go_wp2_with fail
  refine (HC.out _ rfl).mono ?_
  rintro e w1 ⟨rfl, rfl⟩
  have hneg : ¬ ((N : Int) < 0) := by omega
  have hmost : ¬ (most < (N : Int)) := by omega
  go_wp2_with fail
  go_loopw [24] (fun i wr => ∃ k : Nat, k ≤ size ∧ i = .int .i64 (k : Int) ∧ Row8 wr w1.heap.size 6 (cutN F k) ∧ Below w1.heap.size w1 wr) (fun i _ => size - (intOf i).toNat)
  case atStart => exact ⟨0, Nat.zero_le _, rfl, (row6_new w1 _).cast (cutN_nil F), below_new w1 _⟩
  case round =>
    obtain ⟨k, hk, rfl, hrow, hbl⟩ := hrel
    by_cases hlt : k < size
    · obtain ⟨m, hm⟩ : ∃ m : Nat, (size : Int) - 1 - (k : Int) = (m : Int) := ⟨size - 1 - k, by omega⟩
      have hm6 : m ≤ 5 := by omega
      have hk6 : k < 6 := by omega
      have hFk : F k = ((N : Int) / 2 ^ (8 * m) % 256).toNat := by rw [HF.out]; unfold bigF; rw [show size - 1 - k = m by omega]
      have hfz := hrow.free k hk6
      have hcell := hrow.cell k hk6
      have hval : (N : Int) / 2 ^ (8 * m) % 256 = ((F k : Nat) : Int) := by rw [hFk]; omega
      generalize F k = X at hFk hval
      have HX : Hid (X = F k) := by show _ = _; rw [hFk, HF.out]; unfold bigF; rw [show size - 1 - k = m by omega]
      clear hFk
      go_wp2
      refine ⟨⟨k + 1, by omega, rfl, ?_, hbl.setCell (p := ⟨w1.heap.size, k, none⟩) (Nat.le_refl _) _⟩, ?_⟩
      · have h1 := hrow.set k X
        rw [HX.out] at h1 ⊢
        exact h1.cast (cutN_put F k)
      · simp [intOf]; omega
    · have hk' : k = size := by omega
      subst hk'
      have hlr : Hid (Row8 wr w1.heap.size k (bt (bigB (N : Int) k))) := by
        obtain ⟨cs, t, fr, e1, e2, e3⟩ := hrow
        refine ⟨cs, t, fr, e1, e2.imp (fun h => by omega) id, fun j hj => ?_⟩
        rw [e3 j (by omega), HFB.out j hj]
        unfold cutN; rw [if_pos hj]
      clear hrow
      obtain ⟨i0, hi, _⟩ := info_parts Try.info5
      have hsl := sliceAt_head (P := Try.prog) (w := wr) (b := w1.heap.size) Try.underlying78 hi hs
      go_wp2_with fail
      refine Calls.mono (HL.out wr w1.heap.size (hOK.out.on hbl) hlr.out) ?_
      rintro e w2 ⟨rfl, v', h1, h2, h3⟩
      go_wp2
      go_ret
      have hs := hbl.size
      exact ⟨rfl, v', h1, Kept2.behind hbl h2, fun j hj => by
        rcases h3 j hj with h' | h'
        · exact Or.inl h'
        · exact Or.inr (by omega)⟩
end Go.Proofs.Ytmpjhflbmngajaa
