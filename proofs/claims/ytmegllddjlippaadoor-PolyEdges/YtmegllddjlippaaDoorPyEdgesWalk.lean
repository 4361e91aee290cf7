/- The walk of PolyEdges. -/
import Derived.Test.YtmegllddjlippaaDoorL6
import Derived.Test.YtmegllddjlippaaDoorZer
namespace Go.Proofs.YtmegllddjlippaaDoor
open Go.RowKit
set_option linter.unusedSimpArgs false

theorem cutN_keep (f : Nat → Nat) (k : Nat) (h : f k = 0) : cutN f k = cutN f (k + 1) := by
  funext i
  unfold cutN
  by_cases h1 : i < k
  · rw [if_pos h1, if_pos (by omega)]
  · rw [if_neg h1]
    by_cases h2 : i = k
    · subst h2; rw [if_pos (by omega), h]
    · rw [if_neg (by omega)]

set_option maxRecDepth 100000 in
set_option maxHeartbeats 4000000 in
theorem polyEdges_walk (keys bs many : Int) (w : World) (hY : GlobY w) :
    Calls Tryd.prog 7 #[.int .i64 keys, .int .i64 bs, .int .i64 many] w fun e w' => e = .returned (.bool true) ∧ Below w.heap.size w w' := by
  have CA : Hid (∀ w', Below w.heap.size w w' → _) := fun w' hb => awake_on w w' hY hb
  have HY : Hid (GlobY w) := hY
  obtain ⟨cK, HcK⟩ : ∃ c : Nat → Bool, Hid (c = fun k => (bits .and .i64 (keys / 2 ^ k) 1 == 1)) := ⟨_, rfl⟩
  obtain ⟨FK, HFK⟩ : ∃ f : Nat → Nat, Hid (f = fun k => if cK k then 255 else 0) := ⟨_, rfl⟩
  have HFKl : Hid (∀ i, FK i < 256) := by
    show ∀ i, FK i < 256
    intro i
    rw [HFK.out]
    show (if cK i then 255 else 0) < 256
    split <;> decide
  obtain ⟨n, hn, en⟩ : ∃ n : Nat, n < 64 ∧ many % 64 = (n : Int) := ⟨(many % 64).toNat, by omega, by omega⟩
  have hand : bits .and .i64 many 63 = (n : Int) := by rw [i64_mask many 6 (by decide) 63 (by decide)]; exact en
  clear en
  have m1 := fun w => make_zeros 32 32 rfl (by decide) w
  have R0 : Hid (Row8 (w.alloc (.cells (zcells 32) 5)) w.heap.size 32 (cutN FK 0)) := by
    show Row8 _ _ _ _
    rw [← cutN_nil]; exact row_zeros 32 w
  have B0 : Below w.heap.size w (w.alloc (.cells (zcells 32) 5)) := below_new w _
  clear hY
  generalize hg : w.heap.size = g at *
  go_enter Tryd.func7, Tryd.ntmps7
  go_wp2_with fail
  clear m1
  go_loopw [8] (fun i wr => ∃ k : Nat, k ≤ 32 ∧ i = .int .i64 k ∧ Hid (Row8 wr g 32 (cutN FK k)) ∧ Below g w wr) (fun i _ => 32 - (intOf i).toNat)
  case atStart => exact ⟨0, Nat.zero_le _, rfl, R0, B0⟩
  case round =>
    clear R0 B0
    obtain ⟨k, hk, rfl, HR, hbl⟩ := hrel
    by_cases hlt : k < 32
    · have c0 := HR.out.cell k hlt
      have f0 := HR.out.free k hlt
      have b0 : (k : Int) < 32 := by omega
      have hFk : FK k = if cK k then 255 else 0 := by rw [HFK.out]
      have hck : cK k = (bits .and .i64 (keys / 2 ^ k) 1 == 1) := by rw [HcK.out]
      cases hb : cK k with
      | true =>
        rw [hb] at hFk hck
        have hbit := hck.symm
        rw [if_pos rfl] at hFk
        have HN : Hid (Row8 (wr.setCell ⟨g, k, none⟩ (.int .u8 255)) g 32 (cutN FK (k + 1))) := by
          have h := (HR.out.set k (FK k)).cast (cutN_put FK k)
          rw [hFk] at h
          exact h
        have NB := hbl.setCell (p := ⟨g, k, none⟩) (Nat.le_refl _) (.int .u8 255)
        clear hck hFk hb HR hbl
        go_wp2
        refine ⟨⟨k + 1, by omega, by go_num, HN, NB⟩, ?_⟩
        simp [intOf]; omega
      | false =>
        rw [hb] at hFk hck
        have hbit := hck.symm
        rw [if_neg (by decide)] at hFk
        have HN : Hid (Row8 wr g 32 (cutN FK (k + 1))) := by rw [← cutN_keep FK k hFk]; exact HR
        clear hck hFk hb HR
        go_wp2
        refine ⟨⟨k + 1, by omega, by go_num, HN, hbl⟩, ?_⟩
        simp [intOf]; omega
    · have hk32 : k = 32 := by omega
      subst hk32
      have RK : Hid (Row8 wr g 32 (cutN FK 32)) := HR
      have BK := hbl
      have hgl := HR.out.lt
      obtain ⟨w5, h5⟩ : ∃ w5, w5 = wr := ⟨_, rfl⟩
      rw [← h5] at RK BK hgl ⊢
      clear HR hbl h5
      have mk := fun w => make_zeros n (n : Int) rfl (by omega) w
      go_wp2_with fail
      obtain ⟨cS, hcS⟩ : ∃ c : Nat → Bool, c = fun k => (bits .and .i64 (bs / 2 ^ (k % 32)) 1 == 1) := ⟨_, rfl⟩
      obtain ⟨FZ, hFZ⟩ : ∃ f : Nat → Nat, f = fun k => if cS k then (251 + k % 8) % 256 else 255 := ⟨_, rfl⟩
      have HcS : Hid (cS = fun k => (bits .and .i64 (bs / 2 ^ (k % 32)) 1 == 1)) := hcS
      have HFZ : Hid (FZ = fun k => if cS k then (251 + k % 8) % 256 else 255) := hFZ
      have HFSl : Hid (∀ i, FZ i < 256) := by
        show ∀ i, FZ i < 256
        intro i
        rw [hFZ]
        show (if cS i then (251 + i % 8) % 256 else 255) < 256
        split
        · exact Nat.mod_lt _ (by decide)
        · decide
      clear hcS hFZ
      have R1 : Hid (Row8 (w5.alloc (.cells (zcells n) 5)) g 32 (cutN FK 32)) := RK.out.alloc _
      have R2 : Hid (Row8 (w5.alloc (.cells (zcells n) 5)) w5.heap.size n (cutN FZ 0)) := by
        show Row8 _ _ _ _
        rw [← cutN_nil]; exact row_zeros n w5
      have hgs : g ≤ w5.heap.size := by rw [← hg]; exact BK.size
      have B1 : Below g w (w5.alloc (.cells (zcells n) 5)) := BK.alloc hgs _
      clear RK BK mk
      generalize w5.heap.size = q at *
      go_loopw [11] (fun i wr => ∃ k : Nat, k ≤ n ∧ i = .int .i64 k ∧ Hid (Row8 wr g 32 (cutN FK 32)) ∧ Hid (Row8 wr q n (cutN FZ k)) ∧ Below g w wr) (fun i _ => n - (intOf i).toNat)
      case atStart => exact ⟨0, Nat.zero_le _, rfl, R1, R2, B1⟩
      case round =>
        clear R1 R2 B1
        obtain ⟨k, hk, rfl, RK, HR, hbl⟩ := hrel
        by_cases hlt : k < n
        · have c0 := HR.out.cell k hlt
          have f0 := HR.out.free k hlt
          have b0 : (k : Int) < (n : Int) := by omega
          have hFk : FZ k = if cS k then (251 + k % 8) % 256 else 255 := by rw [HFZ.out]
          have hck : cS k = (bits .and .i64 (bs / 2 ^ (k % 32)) 1 == 1) := by rw [HcS.out]
          have a31 : bits .and .i64 (k : Int) 31 = ((k % 32 : Nat) : Int) := by rw [i64_mask (k : Int) 5 (by decide) 31 (by decide)]; simp
          have a7 : bits .and .i64 (k : Int) 7 = ((k % 8 : Nat) : Int) := by rw [i64_mask (k : Int) 3 (by decide) 7 (by decide)]; simp
          have l31 : k % 32 < 32 := Nat.mod_lt _ (by decide)
          have l7 : k % 8 < 8 := Nat.mod_lt _ (by decide)
          have W1 := HR.out.set k 255
          have c1 := W1.cell k hlt
          have f1 := W1.free k hlt
          have P1 : Hid (Row8 (wr.setCell ⟨q, k, none⟩ (.int .u8 255)) g 32 (cutN FK 32)) := RK.out.other _ (by simp; omega) _
          have B1 := hbl.setCell (p := ⟨q, k, none⟩) hgs (.int .u8 255)
          rw [if_pos rfl] at c1
          cases hb : cS k with
          | true =>
            rw [hb] at hFk hck
            have hbit := hck.symm
            rw [if_pos rfl] at hFk
            have W2 := (W1.set k (FZ k)).cast (show _ = cutN FZ (k + 1) by
              rw [← cutN_put FZ k]
              funext i
              by_cases hi : i = k
              · rw [if_pos hi, if_pos hi]
              · rw [if_neg hi, if_neg hi, if_neg hi])
            have P2 : Hid (Row8 ((wr.setCell ⟨q, k, none⟩ (.int .u8 255)).setCell ⟨q, k, none⟩ (.int .u8 ((FZ k : Nat) : Int))) g 32 (cutN FK 32)) := P1.out.other _ (by simp; omega) _
            have B2 := B1.setCell (p := ⟨q, k, none⟩) hgs (.int .u8 ((FZ k : Nat) : Int))
            generalize k % 32 = m at *
            have VW : IntKind.u8.wrap (251 + ((k % 8 : Nat) : Int)) = ((FZ k : Nat) : Int) := by rw [hFk, IntKind.wrap_u8]; omega
            generalize k % 8 = j at *
            have HW2 : Hid (Row8 ((wr.setCell ⟨q, k, none⟩ (.int .u8 255)).setCell ⟨q, k, none⟩ (.int .u8 ((FZ k : Nat) : Int))) q n (cutN FZ (k + 1))) := W2
            generalize FZ k = F at *
            clear hck hFk hb HR RK hbl W1 W2 P1 B1
            go_wp2
            refine ⟨⟨k + 1, by omega, by go_num, P2, HW2, B2⟩, ?_⟩
            simp [intOf]; omega
          | false =>
            rw [hb] at hFk hck
            have hbit := hck.symm
            rw [if_neg (by decide)] at hFk
            have HN : Hid (Row8 (wr.setCell ⟨q, k, none⟩ (.int .u8 255)) q n (cutN FZ (k + 1))) := by
              have h := (HR.out.set k (FZ k)).cast (cutN_put FZ k)
              rw [hFk] at h
              exact h
            generalize k % 32 = m at *
            clear hck hFk hb HR RK hbl W1 a7 l7 c1 f1
            go_wp2
            refine ⟨⟨k + 1, by omega, by go_num, P1, HN, B1⟩, ?_⟩
            simp [intOf]; omega
        · have hkn : k = n := by omega
          subst hkn
          obtain ⟨w6, h6⟩ : ∃ w6, w6 = wr := ⟨_, rfl⟩
          rw [← h6] at RK HR hbl ⊢
          clear h6
          have hlK : ∀ i, cutN FK 32 i < 256 := fun i => by
            unfold cutN
            split
            · exact HFKl.out i
            · decide
          have hlS : ∀ i, cutN FZ k i < 256 := fun i => by
            unfold cutN
            split
            · exact HFSl.out i
            · decide
          obtain ⟨KB, hKB⟩ : ∃ K, (⟨(bytesOf 32 (cutN FK 32)).toArray⟩ : ByteArray) = K := ⟨_, rfl⟩
          obtain ⟨SB, hSB⟩ : ∃ S, (⟨(bytesOf k (cutN FZ k)).toArray⟩ : ByteArray) = S := ⟨_, rfl⟩
          have hKs : KB.size = 32 := by
            rw [← hKB]; show (bytesOf 32 _).toArray.size = 32
            rw [List.size_toArray, bytesOf_length]
          have hSs : SB.size = k := by
            rw [← hSB]; show (bytesOf k _).toArray.size = k
            rw [List.size_toArray, bytesOf_length]
          have v1 := RK.out.conv (P := Tryd.prog) hlK 32 32 (Nat.le_refl _) 29 9 Tryd.underlying29 Tryd.underlying5 Tryd.underlying9
          have v2 := HR.out.conv (P := Tryd.prog) hlS k k (Nat.le_refl _) 29 9 Tryd.underlying29 Tryd.underlying5 Tryd.underlying9
          rw [hKB] at v1
          rw [hSB] at v2
          have hbl' : Below w.heap.size w w6 := by rw [hg]; exact hbl
          obtain ⟨T, HT⟩ : ∃ T, Hid (T = tagB KB SB) := ⟨_, rfl⟩
          have c1 := mac_yes KB SB w6 hKs (by omega) (HY.out.below hbl')
          rw [← HT.out] at c1
          have C1 : Hid (Calls _ _ _ _ _) := c1
          have c2 := fun w => rmac_yes KB SB w hKs (by omega)
          rw [← HT.out] at c2
          have C2 : Hid (∀ w, _) := c2
          clear c1 c2 HT hbl'
          go_wp2_with fail
          refine C1.out.mono ?_
          rintro e w7 ⟨rfl, hb7⟩
          have hB7 := below_step hbl (by have := hbl.size; omega) hb7
          have RK7 : Row8 w7 g 32 (cutN FK 32) := RK.out.below hb7 RK.out.lt
          have HR7 : Row8 w7 q k (cutN FZ k) := HR.out.below hb7 HR.out.lt
          have v3 := RK7.conv (P := Tryd.prog) hlK 32 32 (Nat.le_refl _) 29 9 Tryd.underlying29 Tryd.underlying5 Tryd.underlying9
          have v4 := HR7.conv (P := Tryd.prog) hlS k k (Nat.le_refl _) 29 9 Tryd.underlying29 Tryd.underlying5 Tryd.underlying9
          rw [hKB] at v3
          rw [hSB] at v4
          clear C1 hbl hb7 RK HR RK7 HR7 v1 v2 hlK hlS hKB hSB
          go_wp2_with fail
          refine (C2.out _).mono ?_
          rintro e w8 ⟨rfl, hb8⟩
          have hB8 := below_step hB7 (by have := hB7.size; omega) hb8
          clear C2 hB7 hb8 v3 v4
          go_wp2_with fail
          refine (CA.out _ hB8).mono ?_
          rintro e w9 ⟨rfl, hB9⟩
          clear CA hB8
          go_wp2_with fail
          go_ret
          exact ⟨rfl, hB9⟩
end Go.Proofs.YtmegllddjlippaaDoor
