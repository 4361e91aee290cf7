/- Layer 18, the code's: Add, Lay; the store as the laws want it. -/
import Derived.Test.YtaakmcihpdbilaaDoorSmJ
import Derived.Test.YtaakmcihpdbilaaDoorStAw
import Derived.Test.YtaakmcihpdbilaaDoorStE
namespace Go.Proofs.YtaakmcihpdbilaaDoor
open Go.RowKit
set_option maxRecDepth 100000
set_option linter.unusedSimpArgs false
set_option linter.unusedVariables false
set_option maxRecDepth 100000

/-- A call of write, any. -/
theorem write18_any (gs g b : Nat) (S : Nat → Prop) (X : StoT) (D : DevT) (n : Nat) (c0 : Int) (turn : Nat) (A t : ByteArray) (w : World) (h : StC w S gs g X) (hd : DevAt w g b D) (hD : DvO n c0 D) (hn2 : 2 ≤ n) (hn9 : n ≤ 2048) (hc : c0 < 576460752303423488) (hA : A.size ≤ 65536) (ht9 : turn ≤ 1099511627775) (x1 : gs ≠ g) (x2 : gs ≠ b) (hB : GlobB w) (hK : GlobK w) :
    Calls Tryd.prog 21 #[.pointer (some ⟨gs, 0, none⟩), .int .i64 (turn : Int), .string A, .string t] w fun e w' =>
      e = .returned (.int .i64 (wrP18 D turn A t).2) ∧ DevAt w' g b (wrP18 D turn A t).1 ∧ KeptS (Tri gs g b) w w' ∧
      ((wrP18 D turn A t).2 = 0 → Blk w' 45 gs #[.pointer (some ⟨gs, 0, none⟩), .pointer (some ⟨g, 0, none⟩), .int .i64 (turn : Int), .string (A ++ txB t)]) ∧ ((wrP18 D turn A t).2 = 2 → StC w' S gs g X) := by
  by_cases hf : 32768 < t.size ∨ ¬ ((A.size + (t.size + 2) + 63) / 64 + 1 ≤ n / 2)
  · have e : wrP18 D turn A t = (D, 2) := by unfold wrP18; rw [hD.len]; exact if_pos hf
    rw [e]
    refine (write18_full gs g b S X D n turn A t w h hd hD.len hn2 hn9 hA hf).mono ?_
    rintro x w' ⟨h1, h2⟩
    exact ⟨h1, hd.on h2, (KeptS.ofBelow h2).sub (fun _ e => e.elim), (fun e => by cases e), (fun _ => ⟨h.1.on h2, h.2⟩)⟩
  · have e : wrP18 D turn A t = writesP D turn (A.size / 64) (A ++ txB t) := by unfold wrP18; rw [hD.len]; exact if_neg hf
    rw [e]
    have h1 : ¬ 32768 < t.size := fun e => hf (.inl e)
    have h2 : (A.size + (t.size + 2) + 63) / 64 + 1 ≤ n / 2 := by
      rcases Nat.lt_or_ge (n / 2) ((A.size + (t.size + 2) + 63) / 64 + 1) with h' | h'
      · exact absurd (.inr (by omega)) hf
      · exact h'
    refine (write18_yes gs g b S X D n c0 turn A t w h hd hD hn2 hn9 hc hA h1 h2 ht9 x1 x2 hB hK).mono ?_
    rintro x w' ⟨a1, a2, a3, a4⟩
    refine ⟨a1, a2, a3, a4, fun e => ?_⟩
    rcases writesP_two D turn (A.size / 64) (A ++ txB t) with h' | h' <;> rw [h'] at e <;> cases e

theorem add_wr (D : DevT) (X : StoT) (t : ByteArray) (h0 : X.2.2.1 ≠ 0) : (addP D X t).1 = (wrP18 D X.2.2.1.toNat X.2.2.2 t).1 ∧ (addP D X t).2.2 = (wrP18 D X.2.2.1.toNat X.2.2.2 t).2 ∧ (addP D X t).2.1 = if (wrP18 D X.2.2.1.toNat X.2.2.2 t).2 = 0 then (X.1, X.2.1 ++ [t], X.2.2.1, X.2.2.2 ++ txB t) else X := by
  unfold addP wrP18
  by_cases hf : 32768 < t.size ∨ ¬ ((X.2.2.2.size + (t.size + 2) + 63) / 64 + 1 ≤ D.1.length / 2)
  · rw [if_pos (.inr hf), if_pos hf]; exact ⟨rfl, rfl, rfl⟩
  · rw [if_neg (fun e => e.elim h0 hf), if_neg hf]
    simp only
    by_cases hr : (writesP D X.2.2.1.toNat (X.2.2.2.size / 64) (X.2.2.2 ++ txB t)).2 = 0
    · rw [if_pos hr, if_pos hr]; exact ⟨rfl, hr.symm, rfl⟩
    · rw [if_neg hr, if_neg hr]; exact ⟨rfl, rfl, rfl⟩
theorem lay_wr (D : DevT) (X : StoT) (t : ByteArray) (h0 : ¬ 1099511627775 ≤ X.2.2.1) : (layS D X t).1 = (wrP18 D (X.2.2.1 + 1).toNat ⟨#[]⟩ t).1 ∧ (layS D X t).2.2 = (wrP18 D (X.2.2.1 + 1).toNat ⟨#[]⟩ t).2 ∧ (layS D X t).2.1 = if (wrP18 D (X.2.2.1 + 1).toNat ⟨#[]⟩ t).2 = 0 then (t, [], X.2.2.1 + 1, txB t) else X := by
  have ea : (⟨#[]⟩ : ByteArray) ++ txB t = txB t := empty_app _
  unfold layS wrP18
  rw [ea, show (⟨#[]⟩ : ByteArray).size = 0 from rfl, Nat.zero_add, Nat.zero_div]
  by_cases hf : 32768 < t.size ∨ ¬ ((t.size + 2 + 63) / 64 + 1 ≤ D.1.length / 2)
  · rw [if_pos (hf.imp id .inr), if_pos hf]; exact ⟨rfl, rfl, rfl⟩
  · rw [if_neg (fun e => by rcases e with e | e | e; · exact hf (.inl e)
                            · exact h0 e
                            · exact hf (.inr e)), if_neg hf]
    simp only
    by_cases hr : (writesP D (X.2.2.1 + 1).toNat 0 (txB t)).2 = 0
    · rw [if_pos hr, if_pos hr]; exact ⟨rfl, hr.symm, rfl⟩
    · rw [if_neg hr, if_neg hr]; exact ⟨rfl, rfl, rfl⟩

theorem stW_add (X : StoT) (t : ByteArray) (n : Nat) (h : StW X) (h0 : X.2.2.1 ≠ 0) (ht : t.size ≤ 32768) (hz : (X.2.2.2 ++ txB t).size ≤ 65536) : StW (X.1, X.2.1 ++ [t], X.2.2.1, X.2.2.2 ++ txB t) := by
  rcases h.t with e | ⟨h1, h2⟩
  · rw [e] at h0; exact absurd rfl h0
  · exact ⟨.inr ⟨h1, txs_app t ht _ _ _ (Nat.le_refl _) h2⟩, h.u, hz⟩
theorem stW_lay (X : StoT) (t : ByteArray) (h : StW X) (h0 : ¬ 1099511627775 ≤ X.2.2.1) (h1 : 0 ≤ X.2.2.1) (ht : t.size ≤ 32768) : StW (t, [], X.2.2.1 + 1, txB t) := by
  have e := txs_one t ⟨#[]⟩ ht
  rw [show txB t ++ (⟨#[]⟩ : ByteArray) = txB t from ByteArray.append_empty, txsP_none ⟨#[]⟩ rfl] at e
  refine ⟨.inr ⟨by show (1 : Int) ≤ X.2.2.1 + 1; omega, e⟩, by show X.2.2.1 + 1 ≤ 1099511627775; omega, by show (txB t).size ≤ _; rw [txB_size]; omega⟩
theorem wr_room (D : DevT) (turn : Nat) (A t : ByteArray) (h : (wrP18 D turn A t).2 = 0) : t.size ≤ 32768 ∧ (A.size + (t.size + 2) + 63) / 64 + 1 ≤ D.1.length / 2 := by
  unfold wrP18 at h
  by_cases hf : 32768 < t.size ∨ ¬ ((A.size + (t.size + 2) + 63) / 64 + 1 ≤ D.1.length / 2)
  · rw [if_pos hf] at h; cases h
  · refine ⟨?_, ?_⟩
    · rcases Nat.lt_or_ge 32768 t.size with h' | h'
      · exact absurd (.inl h') hf
      · exact h'
    · rcases Nat.lt_or_ge (D.1.length / 2) ((A.size + (t.size + 2) + 63) / 64 + 1) with h' | h'
      · exact absurd (.inr (by omega)) hf
      · exact h'


set_option maxHeartbeats 2000000 in
theorem sadd_any (gs g b : Nat) (S : Nat → Prop) (X : StoT) (D : DevT) (n : Nat) (c0 : Int) (t : ByteArray) (w : World) (h : StC w S gs g X) (hd : DevAt w g b D) (hD : DvO n c0 D) (h0' : 0 ≤ X.2.2.1) (hn2 : 2 ≤ n) (hn9 : n ≤ 2048) (hc : c0 < 576460752303423488) (x1 : gs ≠ g) (x2 : gs ≠ b) (hB : GlobB w) (hK : GlobK w) :
    Calls Tryd.prog 11 #[.pointer (some ⟨gs, 0, none⟩), .string t] w fun e w' => e = .returned (.int .i64 (addP D X t).2.2) ∧ DevAt w' g b (addP D X t).1 ∧ KeptS (Tri gs g b) w w' ∧ ((addP D X t).2.2 ≠ 170 → StC w' S gs g (addP D X t).2.1) := by
  have HC : Hid (∀ w', w' = w → Calls Tryd.prog 20 #[.pointer (some ⟨gs, 0, none⟩)] w' fun e w'' => e = .returned (.bool true) ∧ w'' = w') := fun w' e => by subst e; exact sgiven_any gs g S X _ h
  have c2 : w.cell? ⟨gs, 2, none⟩ = some (.int .i64 X.2.2.1) := h.1.cell 2
  have c3 : w.cell? ⟨gs, 3, none⟩ = some (.string X.2.2.2) := h.1.cell 3
  by_cases h0 : X.2.2.1 = 0
  · have e9 : addP D X t = (D, X, 2) := by unfold addP; exact if_pos (.inl h0)
    rw [e9]
    have H : Hid (StC w S gs g X ∧ DevAt w g b D) := ⟨h, hd⟩
    rw [h0] at c2
    clear h hd e9 hB hK
    go_enter Tryd.func11, Tryd.ntmps11
    go_wp2_with fail
    refine (HC.out _ rfl).mono ?_
    rintro e w1 ⟨rfl, hw1⟩
    subst hw1
    go_wp2
    go_ret
    exact ⟨rfl, H.out.2, KeptS.refl _ _, fun _ => H.out.1⟩
  · obtain ⟨e1, e2, e3⟩ := add_wr D X t h0
    obtain ⟨u, hu⟩ : ∃ u : Nat, X.2.2.1 = (u : Int) := ⟨X.2.2.1.toNat, by omega⟩
    have hu9 := h.2.2.u
    have hb9 := h.2.2.b
    have hW := write18_any gs g b S X D n c0 u X.2.2.2 t w.drew ⟨h.1.on (Below.refl _ _).drew, h.2⟩ (hd.on (Below.refl _ _).drew) hD hn2 hn9 hc hb9 (by omega) x1 x2 (hB.below (Below.refl _ _).drew) (hK.below (Below.refl _ _).drew)
    rw [show X.2.2.1.toNat = u by omega] at e1 e2 e3
    have HF : Hid (∀ W, DevAt W g b (wrP18 D u X.2.2.2 t).1 → KeptS (Tri gs g b) w.drew W → ((wrP18 D u X.2.2.2 t).2 = 0 → Blk W 45 gs #[.pointer (some ⟨gs, 0, none⟩), .pointer (some ⟨g, 0, none⟩), .int .i64 (u : Int), .string (X.2.2.2 ++ txB t)]) → ((wrP18 D u X.2.2.2 t).2 = 2 → StC W S gs g X) → DevAt W g b (addP D X t).1 ∧ KeptS (Tri gs g b) w W ∧ ((addP D X t).2.2 ≠ 170 → StC W S gs g (addP D X t).2.1)) := fun W a1 a2 a3 a4 => by
      refine ⟨by rw [e1]; exact a1, ((KeptS.ofBelow (Below.refl _ _).drew).sub (fun _ e => e.elim)).trans a2, fun hne => ?_⟩
      rw [e2] at hne
      rw [e3]
      by_cases hz : (wrP18 D u X.2.2.2 t).2 = 0
      · rw [if_pos hz]
        obtain ⟨r1, r2⟩ := wr_room _ _ _ _ hz
        have hl := hD.len
        refine ⟨?_, h.2.1, stW_add X t n h.2.2 h0 r1 (by rw [ByteArray.size_append, txB_size]; omega)⟩
        have := a3 hz
        rw [← hu] at this
        exact this
      · rw [if_neg hz]
        refine a4 ?_
        have h3 := add_three D X t
        rw [e2] at h3
        rcases h3 with h3 | h3 | h3
        · exact absurd h3 hz
        · exact h3
        · exact absurd h3 hne
    rw [e2] at HF ⊢
    obtain ⟨z, hz⟩ : ∃ z, (wrP18 D u X.2.2.2 t).2 = z := ⟨_, rfl⟩
    rw [hz] at hW HF ⊢
    have hS : w.drew.cell? ⟨gs, 2, none⟩ = some (.int .i64 (u : Int)) ∧ w.drew.cell? ⟨gs, 3, none⟩ = some (.string X.2.2.2) := by rw [← hu]; exact ⟨(h.1.on (Below.refl _ _).drew).cell 2, (h.1.on (Below.refl _ _).drew).cell 3⟩
    have hT : True := trivial
    rw [hu] at c2
    obtain ⟨A, hA⟩ : ∃ A, X.2.2.2 = A := ⟨_, rfl⟩
    rw [hA] at c3 hS hW HF
    have CW : Hid (Calls _ _ _ _ _) := hW
    have q0 : ((u : Int) == 0) = false := by rw [beq_eq_false_iff_ne]; omega
    clear h hd hB hK e1 e2 e3 hA hW hu9 hb9 hz hu
    go_enter Tryd.func11, Tryd.ntmps11
    go_wp2_with fail
    refine (HC.out _ rfl).mono ?_
    rintro e w1 ⟨rfl, hw1⟩
    subst hw1
    go_wp2_with fail
    refine wp_region_noPanic ?_
    refine till_begin 10 (fun W => W.cell? ⟨gs, 2, none⟩ = some (.int .i64 (u : Int)) ∧ W.cell? ⟨gs, 3, none⟩ = some (.string A)) (fun _ => True) (by kernel_rfl) ?_
    refine till_take (i := 0) (v := ?_) rfl rfl (by kernel_rfl) (by kernel_rfl) (by kernel_rfl) rfl (fun _ _ _ h => h) (Or.inl ⟨by rfl, ?_⟩) (by assumption) (fun _ => by assumption) ?_
    rotate_left
    · intro w hSw; (try dsimp only at hSw); go_simp; try with_reducible rfl
    try simp only [Act.put, List.setIfInBounds_toArray, List.set_cons_zero, List.set_cons_succ]
    refine till_take (i := 1) (v := ?_) rfl rfl (by kernel_rfl) (by kernel_rfl) (by kernel_rfl) rfl (fun _ _ _ h => h) (Or.inl ⟨by rfl, ?_⟩) (by assumption) (fun _ => by assumption) ?_
    rotate_left
    · intro w hSw; (try dsimp only at hSw); go_simp; try with_reducible rfl
    try simp only [Act.put, List.setIfInBounds_toArray, List.set_cons_zero, List.set_cons_succ]
    refine till_take (i := 2) (v := ?_) rfl rfl (by kernel_rfl) (by kernel_rfl) (by kernel_rfl) rfl (fun _ _ _ h => h) (Or.inl ⟨by rfl, ?_⟩) (by assumption) (fun _ => by assumption) ?_
    rotate_left
    · intro w hSw; (try dsimp only at hSw); go_simp; try with_reducible rfl
    try simp only [Act.put, List.setIfInBounds_toArray, List.set_cons_zero, List.set_cons_succ]
    refine till_take (i := 3) (v := ?_) rfl rfl (by kernel_rfl) (by kernel_rfl) (by kernel_rfl) rfl (fun _ _ _ h => h) (Or.inl ⟨by rfl, ?_⟩) (by assumption) (fun _ => by assumption) ?_
    rotate_left
    · intro w hSw; (try dsimp only at hSw); go_simp; try with_reducible rfl
    try simp only [Act.put, List.setIfInBounds_toArray, List.set_cons_zero, List.set_cons_succ]
    refine till_take (i := 5) (v := ?_) rfl rfl (by kernel_rfl) (by kernel_rfl) (by kernel_rfl) rfl (fun _ _ _ h => h) (Or.inl ⟨by rfl, ?_⟩) (by assumption) (fun _ => by assumption) ?_
    rotate_left
    · intro w hSw; (try dsimp only at hSw); go_simp; try with_reducible rfl
    try simp only [Act.put, List.setIfInBounds_toArray, List.set_cons_zero, List.set_cons_succ]
    refine till_take (i := 6) (v := ?_) rfl rfl (by kernel_rfl) (by kernel_rfl) (by kernel_rfl) rfl (fun _ _ _ h => h) (Or.inl ⟨by rfl, ?_⟩) (by assumption) (fun _ => by assumption) ?_
    rotate_left
    · intro w hSw; (try dsimp only at hSw); go_simp; try with_reducible rfl
    try simp only [Act.put, List.setIfInBounds_toArray, List.set_cons_zero, List.set_cons_succ]
    refine till_take (i := 7) (v := ?_) rfl rfl (by kernel_rfl) (by kernel_rfl) (by kernel_rfl) rfl (fun _ _ _ h => h) (Or.inl ⟨by rfl, ?_⟩) (by assumption) (fun _ => by assumption) ?_
    rotate_left
    · intro w hSw; (try dsimp only at hSw); go_simp; try with_reducible rfl
    try simp only [Act.put, List.setIfInBounds_toArray, List.set_cons_zero, List.set_cons_succ]
    refine till_take (i := 9) (v := ?_) rfl rfl (by kernel_rfl) (by kernel_rfl) (by kernel_rfl) rfl (fun _ _ _ h => h) (Or.inl ⟨by rfl, ?_⟩) (by assumption) (fun _ => by assumption) ?_
    rotate_left
    · intro w hSw; (try dsimp only at hSw); go_simp; try with_reducible rfl
    try simp only [Act.put, List.setIfInBounds_toArray, List.set_cons_zero, List.set_cons_succ]
    refine till_take' (i := 4) (v := ?_) rfl rfl (by kernel_rfl) (by kernel_rfl) (by kernel_rfl) rfl (by kernel_rfl) (by kernel_rfl) (fun _ _ _ h => h) (Or.inl ⟨by rfl, ?_⟩) (by assumption) (by assumption) ?_
    rotate_left
    · intro w hSw; (try dsimp only at hSw); go_simp; try with_reducible rfl
    try simp only [Act.put, List.setIfInBounds_toArray, List.set_cons_zero, List.set_cons_succ]
    refine till_take' (i := 8) (v := ?_) rfl rfl (by kernel_rfl) (by kernel_rfl) (by kernel_rfl) rfl (by kernel_rfl) (by kernel_rfl) (fun _ _ _ h => h) (Or.inl ⟨by rfl, ?_⟩) (by assumption) (by assumption) ?_
    rotate_left
    · intro w hSw; (try dsimp only at hSw); go_simp; try with_reducible rfl
    try simp only [Act.put, List.setIfInBounds_toArray, List.set_cons_zero, List.set_cons_succ]
    refine till_step (i := 10) (by kernel_rfl) rfl (fun K hK => ?_)
    go_simp
    refine CW.out.mono ?_
    rintro e w2 ⟨rfl, a1, a2, a3, a4⟩
    have HF2 : Hid _ := HF.out w2 a1 a2 a3 a4
    clear a1 a2 a3 a4 CW HF hS c2 c3
    refine hK.out _ _ (hT) (fun h => till_no (by kernel_rfl) h) ?_
    clear hK K
    refine till_take (i := 11) (v := ?_) rfl rfl (by kernel_rfl) (by kernel_rfl) (by kernel_rfl) rfl (fun _ _ _ h => h) (Or.inl ⟨by rfl, ?_⟩) (by assumption) (fun h => till_no (by kernel_rfl) h) ?_
    rotate_left
    · intro w hSw; (try dsimp only at hSw); go_simp; try with_reducible rfl
    try simp only [Act.put, List.setIfInBounds_toArray, List.set_cons_zero, List.set_cons_succ]
    refine till_done (by kernel_rfl) (NoPanic.normal ?_) _
    go_wp2_with fail
    go_ret
    exact ⟨rfl, HF2.out⟩

set_option maxHeartbeats 2000000 in
theorem slay_any (gs g b : Nat) (S : Nat → Prop) (X : StoT) (D : DevT) (n : Nat) (c0 : Int) (t : ByteArray) (w : World) (h : StC w S gs g X) (hd : DevAt w g b D) (hD : DvO n c0 D) (h0' : 0 ≤ X.2.2.1) (hn2 : 2 ≤ n) (hn9 : n ≤ 2048) (hc : c0 < 576460752303423488) (x1 : gs ≠ g) (x2 : gs ≠ b) (hB : GlobB w) (hK : GlobK w) :
    Calls Tryd.prog 8 #[.pointer (some ⟨gs, 0, none⟩), .string t] w fun e w' => e = .returned (.int .i64 (layS D X t).2.2) ∧ DevAt w' g b (layS D X t).1 ∧ KeptS (Tri gs g b) w w' ∧ ((layS D X t).2.2 ≠ 170 → StC w' S gs g (layS D X t).2.1) := by
  have HC : Hid (∀ w', w' = w → Calls Tryd.prog 20 #[.pointer (some ⟨gs, 0, none⟩)] w' fun e w'' => e = .returned (.bool true) ∧ w'' = w') := fun w' e => by subst e; exact sgiven_any gs g S X _ h
  have c2 : w.cell? ⟨gs, 2, none⟩ = some (.int .i64 X.2.2.1) := h.1.cell 2
  have hu9 := h.2.2.u
  by_cases h0 : 1099511627775 ≤ X.2.2.1
  · have e9 : layS D X t = (D, X, 2) := by unfold layS; exact if_pos (.inr (.inl h0))
    rw [e9]
    have H : Hid (StC w S gs g X ∧ DevAt w g b D) := ⟨h, hd⟩
    rw [show X.2.2.1 = 1099511627775 by omega] at c2
    clear h hd e9 hB hK
    go_enter Tryd.func8, Tryd.ntmps8
    go_wp2_with fail
    refine (HC.out _ rfl).mono ?_
    rintro e w1 ⟨rfl, hw1⟩
    subst hw1
    go_wp2
    go_ret
    exact ⟨rfl, H.out.2, KeptS.refl _ _, fun _ => H.out.1⟩
  · obtain ⟨e1, e2, e3⟩ := lay_wr D X t h0
    obtain ⟨u, hu⟩ : ∃ u : Nat, X.2.2.1 = (u : Int) := ⟨X.2.2.1.toNat, by omega⟩
    have hW := write18_any gs g b S X D n c0 (u + 1) ⟨#[]⟩ t w h hd hD hn2 hn9 hc (by show 0 ≤ 65536; decide) (by omega) x1 x2 hB hK
    rw [show (X.2.2.1 + 1).toNat = u + 1 by omega] at e1 e2 e3
    have HF : Hid (∀ W, DevAt W g b (wrP18 D (u + 1) ⟨#[]⟩ t).1 → KeptS (Tri gs g b) w W → ((wrP18 D (u + 1) ⟨#[]⟩ t).2 = 0 → Blk W 45 gs #[.pointer (some ⟨gs, 0, none⟩), .pointer (some ⟨g, 0, none⟩), .int .i64 ((u + 1 : Nat) : Int), .string (⟨#[]⟩ ++ txB t)]) → ((wrP18 D (u + 1) ⟨#[]⟩ t).2 = 2 → StC W S gs g X) → DevAt W g b (layS D X t).1 ∧ KeptS (Tri gs g b) w W ∧ ((layS D X t).2.2 ≠ 170 → StC W S gs g (layS D X t).2.1)) := fun W a1 a2 a3 a4 => by
      refine ⟨by rw [e1]; exact a1, a2, fun hne => ?_⟩
      rw [e2] at hne
      rw [e3]
      by_cases hz : (wrP18 D (u + 1) ⟨#[]⟩ t).2 = 0
      · rw [if_pos hz]
        obtain ⟨r1, r2⟩ := wr_room _ _ _ _ hz
        refine ⟨?_, h.2.1, stW_lay X t h.2.2 h0 h0' r1⟩
        have := a3 hz
        rw [show (⟨#[]⟩ : ByteArray) ++ txB t = txB t from empty_app _, show ((u + 1 : Nat) : Int) = X.2.2.1 + 1 by omega] at this
        exact this
      · rw [if_neg hz]
        refine a4 ?_
        have h3 := lay_three D X t
        rw [e2] at h3
        rcases h3 with h3 | h3 | h3
        · exact absurd h3 hz
        · exact h3
        · exact absurd h3 hne
    rw [e2] at HF ⊢
    obtain ⟨z, hz⟩ : ∃ z, (wrP18 D (u + 1) ⟨#[]⟩ t).2 = z := ⟨_, rfl⟩
    rw [hz] at hW HF ⊢
    rw [hu] at c2
    rw [show ((u + 1 : Nat) : Int) = (u : Int) + 1 by omega] at hW HF
    have CW : Hid (Calls _ _ _ _ _) := hW
    have q0 : ((u : Int) == 1099511627775) = false := by rw [beq_eq_false_iff_ne]; omega
    have hu1 : u < 1099511627775 := by omega
    clear h hd hB hK e1 e2 e3 hW hu9 hz hu
    go_enter Tryd.func8, Tryd.ntmps8
    go_wp2_with fail
    refine (HC.out _ rfl).mono ?_
    rintro e w1 ⟨rfl, hw1⟩
    subst hw1
    go_wp2_with fail
    refine CW.out.mono ?_
    rintro e w2 ⟨rfl, a1, a2, a3, a4⟩
    have HF2 : Hid _ := HF.out w2 a1 a2 a3 a4
    clear a1 a2 a3 a4 CW HF c2
    go_wp2_with fail
    go_ret
    exact ⟨rfl, HF2.out⟩

theorem stC_sto (w0 : World) (hB : GlobB w0) (hK : GlobK w0) : Sto18 StC w0 := by
  refine ⟨?_, ?_, ?_, ?_, ?_, ?_, ?_, ?_⟩
  · intro w w' S gs g X T h hk hT
    refine ⟨?_, h.2⟩
    have hgs : S gs := (h.2.1 gs).2 rfl
    unfold Blk
    rw [hk.block gs h.1.lt (hT gs hgs)]
    exact h.1
  · intro w S gs g X h k hk
    rw [(h.2.1 k).1 hk]
    exact h.1.lt
  · intro w g b D hb h h2 hl ho
    exact open18_any g b D w h h2 hl ho (hB.below hb) (hK.below hb)
  · intro w S gs g X h
    exact sbase_any gs g S X w h
  · intro w S gs g X h
    exact sbehind_any gs g S X w h
  · intro w S gs g X h
    refine (sturn_any gs g S X w h).mono ?_
    rintro e w' ⟨h1, rfl⟩
    exact ⟨h1, Below.refl _ _⟩
  · intro w S gs g b D X t n c0 hb h hd hD hM hn2 hn9 hc n1 n2
    have hgs : S gs := (h.2.1 gs).2 rfl
    refine (sadd_any gs g b S X D n c0 t w h hd hD hM.t0 hn2 hn9 hc (fun e => n1 (e ▸ hgs)) (fun e => n2 (e ▸ hgs)) (hB.below hb) (hK.below hb)).mono ?_
    rintro e w' ⟨h1, h2, h3, h4⟩
    exact ⟨h1, h2, h3.sub (fun k hk => hk.imp (fun e => (h.2.1 k).2 e) id), fun hne => ⟨S, h4 hne, fun k hk => .inl hk⟩⟩
  · intro w S gs g b D X t n c0 hb h hd hD hM hn2 hn9 hc n1 n2
    have hgs : S gs := (h.2.1 gs).2 rfl
    refine (slay_any gs g b S X D n c0 t w h hd hD hM.t0 hn2 hn9 hc (fun e => n1 (e ▸ hgs)) (fun e => n2 (e ▸ hgs)) (hB.below hb) (hK.below hb)).mono ?_
    rintro e w' ⟨h1, h2, h3, h4⟩
    exact ⟨h1, h2, h3.sub (fun k hk => hk.imp (fun e => (h.2.1 k).2 e) id), fun hne => ⟨S, h4 hne, fun k hk => .inl hk⟩⟩

end Go.Proofs.YtaakmcihpdbilaaDoor