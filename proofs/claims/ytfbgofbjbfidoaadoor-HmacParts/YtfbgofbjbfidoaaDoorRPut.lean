import Derived.Test.YtfbgofbjbfidoaaDoorRBig
namespace Go.Proofs.YtfbgofbjbfidoaaDoor
open Go.RowKit

theorem i64_and255 (n : Int) : bits .and .i64 n 255 = n % 256 := i64_mask n 8 (by decide) 255 (by decide)
theorem putL_nums (l : List Int) (sh : Nat → Nat) (j : Nat) (h : j < (nums (putL l sh)).length) : (nums (putL l sh))[j] = ((pb l sh j : Nat) : Int) := by
  have hk : j < 4 * l.length := by rw [nums_length, putL_length] at h; exact h
  have e : nums (putL l sh) = tab (4 * l.length) (fun i => (pb l sh i : Int)) := nums_bytesOf _ _ (fun i _ => pb_lt l sh i)
  simp only [e, tab_get _ _ j hk]
theorem pb0 (l : List Int) (k X : Nat) (hX : X < 4294967296) (h : l.getD k 0 % 4294967296 = (X : Int)) : ((pb l bsh (4 * k) : Nat) : Int) = (X : Int) / 16777216 := by
  rw [pb_int, show 4 * k / 4 = k by omega, show bsh (4 * k) = 24 by unfold bsh; omega, show (2 ^ 24 : Nat) = 16777216 from rfl]; omega
theorem pb1 (l : List Int) (k X : Nat) (h : l.getD k 0 % 4294967296 = (X : Int)) : ((pb l bsh (4 * k + 1) : Nat) : Int) = (X : Int) / 65536 % 256 := by
  rw [pb_int, show (4 * k + 1) / 4 = k by omega, show bsh (4 * k + 1) = 16 by unfold bsh; omega, show (2 ^ 16 : Nat) = 65536 from rfl]; omega
theorem pb2 (l : List Int) (k X : Nat) (h : l.getD k 0 % 4294967296 = (X : Int)) : ((pb l bsh (4 * k + 2) : Nat) : Int) = (X : Int) / 256 % 256 := by
  rw [pb_int, show (4 * k + 2) / 4 = k by omega, show bsh (4 * k + 2) = 8 by unfold bsh; omega, show (2 ^ 8 : Nat) = 256 from rfl]; omega
theorem pb3 (l : List Int) (k X : Nat) (h : l.getD k 0 % 4294967296 = (X : Int)) : ((pb l bsh (4 * k + 3) : Nat) : Int) = (X : Int) % 256 := by
  rw [pb_int, show (4 * k + 3) / 4 = k by omega, show bsh (4 * k + 3) = 0 by unfold bsh; omega, show (2 ^ 0 : Nat) = 1 from rfl]; omega

set_option maxHeartbeats 2000000 in
theorem rputBig_any (a : Option Addr) (n c : Nat) (l : List Int) (w : World) (hn : n ≤ 262144) (hI : IntsAt w .i64 a n l) :
    Calls Tryd.prog 27 #[.slice a n c] w fun e w' => e = .returned (.string ⟨(putL l bsh).toArray⟩) ∧ Below w.heap.size w w' := by
  have HI : Hid (IntsAt w .i64 a n l) := hI
  have HL : Hid ((nums (putL l bsh)).length = 4 * n) := by show _ = _; rw [nums_length, putL_length, hI.1]
  clear hI
  obtain ⟨i0, hi, hz0, hz1, hz2⟩ := info_parts Tryd.info5
  go_enter Tryd.func27, Tryd.ntmps27
  go_wp2
  go_loopw [3, 4] (fun v i wr => ∃ k : Nat, k ≤ n ∧ i = .int .i64 k ∧ OwnV wr w.heap.size 5 .u8 v (4 * k) ((nums (putL l bsh)).take (4 * k)) ∧ Below w.heap.size w wr) (fun _ i _ => n - (intOf i).toNat)
  case atStart => exact ⟨0, Nat.zero_le _, rfl, OwnV.nil _ _ _ _, Below.refl _ _⟩
  case round =>
    obtain ⟨k, hk, rfl, hown, hbl⟩ := hrel
    by_cases hlt : k < n
    · obtain ⟨b, off, rfl, hcl⟩ : ∃ b off, a = some ⟨b, off, none⟩ ∧ ∀ i, i < n → w.cell? ⟨b, off + i, none⟩ = some (.int .i64 (l.getD i 0)) := by
        rcases HI.out.2 with h0 | h1
        · omega
        · exact h1
      obtain ⟨X, hX, ex'⟩ := nat_mod (l.getD k 0) 4294967296 (by decide)
      have ex : l.getD k 0 % 4294967296 = (X : Int) := ex'
      clear ex'
      obtain ⟨x, hx⟩ : ∃ x, x = l.getD k 0 := ⟨_, rfl⟩
      have h1 := hcl k hlt
      have hlb := World.block_lt_of_cell? w _ h1
      have g1 : wr.cell? ⟨b, off + k, none⟩ = some (.int .i64 x) := by
        rw [hbl.cell (p := ⟨b, off + k, none⟩) hlb, h1, hx]
      have P0 : Hid _ := pb0 l k X hX ex
      have P1 : Hid _ := pb1 l k X ex
      have P2 : Hid _ := pb2 l k X ex
      have P3 : Hid _ := pb3 l k X ex
      have c1 := fun w => word_any x w
      rw [hx, ex, ← hx] at c1
      have C1 : Hid (∀ w, _) := c1
      clear hx h1 hcl c1 ex
      have m1 := i64_and255 ((X : Int) / 65536)
      have m2 := i64_and255 ((X : Int) / 256)
      have m3 := i64_and255 (X : Int)
      have hsz := hbl.size
      go_wp2_with (first | (go_at_call 31; refine (C1.out _).mono ?_; rintro e w' ⟨rfl, rfl⟩) | (at_builtin; refine wpList_app1 rfl (.tmp 17) (.tmp 21) 26 rfl w.heap.size 5 i0 .u8 1 Tryd.underlying26 hi hz0 hz1 hz2 _ u3 (4 * k) _ rfl hown _ rfl (by omega) (by omega) hsz ?_))
      intro v1 w1 hown1 hbl1
      rw [take_snoc_int _ _ (by rw [HL.out]; omega) _ (by rw [putL_nums]; exact P0.out)] at hown1
      have hbl2 := hbl.trans hbl1
      have hsz2 := hbl2.size
      clear hbl1 hown hbl hsz g1
      go_wp2_with (at_builtin; refine wpList_app1 rfl (.tmp 23) (.tmp 28) 26 rfl w.heap.size 5 i0 .u8 1 Tryd.underlying26 hi hz0 hz1 hz2 w1 v1 (4 * k + 1) _ rfl hown1 _ rfl (by omega) (by omega) hsz2 ?_)
      intro v2 w2 hown2 hbx
      rw [take_snoc_int _ _ (by rw [HL.out]; omega) _ (by rw [putL_nums]; exact P1.out)] at hown2
      have hbl4 := hbl2.trans hbx
      have hsz4 := hbl4.size
      clear hbx hown1 hbl2 hsz2
      go_wp2_with (at_builtin; refine wpList_app1 rfl (.tmp 30) (.tmp 35) 26 rfl w.heap.size 5 i0 .u8 1 Tryd.underlying26 hi hz0 hz1 hz2 w2 v2 (4 * k + 2) _ rfl hown2 _ rfl (by omega) (by omega) hsz4 ?_)
      intro v3 w3 hown3 hbx
      rw [take_snoc_int _ _ (by rw [HL.out]; omega) _ (by rw [putL_nums]; exact P2.out)] at hown3
      have hbl6 := hbl4.trans hbx
      have hsz6 := hbl6.size
      clear hbx hown2 hbl4 hsz4
      go_wp2_with (at_builtin; refine wpList_app1 rfl (.tmp 37) (.tmp 41) 26 rfl w.heap.size 5 i0 .u8 1 Tryd.underlying26 hi hz0 hz1 hz2 w3 v3 (4 * k + 3) _ rfl hown3 _ rfl (by omega) (by omega) hsz6 ?_)
      intro v4 w4 hown4 hbx
      rw [take_snoc_int _ _ (by rw [HL.out]; omega) _ (by rw [putL_nums]; exact P3.out)] at hown4
      have hbl8 := hbl6.trans hbx
      have hsz8 := hbl8.size
      clear hbx hown3 hbl6 hsz6
      go_wp2
      go_roundw
      case rel => exact ⟨k + 1, by omega, by go_num, hown4, hbl8⟩
      case measure => simp [intOf]; omega
    · have hk' : k = n := by omega
      rw [List.take_of_length_le (by rw [HL.out]; omega)] at hown
      have hcv := own_conv (P := Tryd.prog) 26 9 hown Tryd.underlying26 Tryd.underlying5 Tryd.underlying9
      clear hk' hown hi hz0 hz1 hz2
      go_wp2
      go_ret
      exact ⟨rfl, hbl⟩
end Go.Proofs.YtfbgofbjbfidoaaDoor
