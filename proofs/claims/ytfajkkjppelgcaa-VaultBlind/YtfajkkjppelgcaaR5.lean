import Derived.Test.YtfajkkjppelgcaaL5
import Derived.Deep.DeepCutAuto
import Derived.Laws.AppendOwn
import Derived.Lib.AppendStr
/- The document's round: four of sixteen words behind a quarter round. -/
namespace Go.Proofs.Ytfajkkjppelgcaa
open Go.RowKit
set_option maxRecDepth 100000
set_option linter.unusedSimpArgs false

/-- A whole array is written at a step of a region that draws its order. -/
theorem step_storeBlk {P : Program} {ops : Array Oper} {o : Oper} {a : Act} {w : World} {K' : Act → World → Prop} {Q : Exit → Act → World → Prop} {E : Prop} (hgd : o.guard = none) (hd : o.dst = none) (t : TypeId) (x y : Operand) (ho : o.op = .store t x y) (g : Nat) (cs cs' : Array Value) (hx : a.eval x = .pointer (some ⟨g, 0, none⟩)) (hy : a.eval y = .agg cs') (h : Blk w t g cs) (hl : cs.size = cs'.size)
    (hi : (P.info? t).map (·.size) = some cs.size) (h1 : cs'.all (·.oneCell') = true) (hk : K' (a.put none undef) (w.setRow g cs')) :
    if Region.wanted o (yielded ops a.tmps) = true then Oper.wp P o a w K' Q else E := by
  rw [if_pos (by simp [Region.wanted, hgd])]
  unfold Oper.wp execOp
  have := run_storeVar_row (P := P) w g t t cs cs' h (hl ▸ hi) hl h1
  simp only [ho, hx, hy, Instr.storeAt, Instr.sureAddr, Sem.run_bind, Sem.run_pure, Result.andThen_ok, this]
  show K' (a.put o.dst _) _
  rw [hd]; exact hk
def four0 : Array Value := #[.int .i64 0, .int .i64 0, .int .i64 0, .int .i64 0]

end Go.Proofs.Ytfajkkjppelgcaa

/- The document's Block. -/
namespace Go.Proofs.Ytfajkkjppelgcaa
open Go.RowKit
set_option maxRecDepth 100000
set_option linter.unusedSimpArgs false

theorem putL_mod (l l' : List Int) (hl : l.length = l'.length) (h : ∀ i, l.getD i 0 % 4294967296 = l'.getD i 0 % 4294967296) : putL l ssh = putL l' ssh := by
  unfold putL bytesOf
  rw [hl]
  apply List.map_congr_left
  intro j _
  have e : pb l ssh j = pb l' ssh j := by
    unfold pb
    have h4 := h (j / 4)
    generalize l.getD (j / 4) 0 = a at *
    generalize l'.getD (j / 4) 0 = b at *
    have hs : ssh j = 0 ∨ ssh j = 8 ∨ ssh j = 16 ∨ ssh j = 24 := by unfold ssh; omega
    rcases hs with hs | hs | hs | hs
    · rw [hs, show ((2 ^ 0 : Nat) : Int) = 1 from rfl]; omega
    · rw [hs, show ((2 ^ 8 : Nat) : Int) = 256 from rfl]; omega
    · rw [hs, show ((2 ^ 16 : Nat) : Int) = 65536 from rfl]; omega
    · rw [hs, show ((2 ^ 24 : Nat) : Int) = 16777216 from rfl]; omega
  rw [e]

end Go.Proofs.Ytfajkkjppelgcaa

/- The document's Stream. -/
namespace Go.Proofs.Ytfajkkjppelgcaa
open Go.RowKit
set_option maxRecDepth 100000
set_option linter.unusedSimpArgs false

theorem extract_parts (s : ByteArray) (a b : Nat) (h : a ≤ b) (hb : b ≤ s.size) : s.extract 0 a ++ s.extract a b = s.extract 0 b := by
  have e1 : (s.extract 0 a).size = a := by rw [ByteArray.size_extract]; omega
  have e2 : (s.extract a b).size = b - a := by rw [ByteArray.size_extract]; omega
  have e3 : (s.extract 0 b).size = b := by rw [ByteArray.size_extract]; omega
  apply bt_ext
  · rw [ByteArray.size_append, e1, e2, e3]; omega
  · intro j hj
    rw [ByteArray.size_append, e1, e2] at hj
    rw [bt_extract s 0 b j (by omega) hb, Nat.zero_add]
    by_cases h1 : j < a
    · rw [bt_append_left _ _ _ (by rw [e1]; exact h1), bt_extract s 0 a j (by omega) (by omega), Nat.zero_add]
    · have e : j = (s.extract 0 a).size + (j - a) := by rw [e1]; omega
      rw [show bt (s.extract 0 a ++ s.extract a b) j = bt (s.extract a b) (j - a) by
        conv => lhs; rw [e]
        rw [bt_append_right]]
      rw [bt_extract s a b (j - a) (by omega) hb, show a + (j - a) = j by omega]
theorem extract_none (s : ByteArray) : s.extract 0 0 = ⟨#[]⟩ := by
  apply bt_ext
  · rw [ByteArray.size_extract]; rfl
  · intro j hj
    rw [ByteArray.size_extract] at hj; omega
theorem extract_whole (s : ByteArray) (n : Nat) (h : s.size = n) : s.extract 0 n = s := by
  subst h
  apply bt_ext
  · rw [ByteArray.size_extract]; omega
  · intro j hj
    have hj' : j < s.size := by rw [ByteArray.size_extract] at hj; omega
    rw [bt_extract s 0 s.size j (by omega) (Nat.le_refl _), Nat.zero_add]
/-- A piece of a stream. -/
theorem stream_piece (key nonce : ByteArray) (c k n : Nat) (s : ByteArray) (h : 64 * k + n ≤ s.size) (hn : n ≤ 64) :
    (⟨(xorL (s.extract (64 * k) (64 * k + n)) ((blockB key nonce (c + k)).extract 0 n)).toArray⟩ : ByteArray) = (streamB key nonce c s).extract (64 * k) (64 * k + n) := by
  have e1 : (s.extract (64 * k) (64 * k + n)).size = n := by rw [ByteArray.size_extract]; omega
  have e2 : ((blockB key nonce (c + k)).extract 0 n).size = n := by rw [ByteArray.size_extract, blockB_size]; omega
  have e3 : ((streamB key nonce c s).extract (64 * k) (64 * k + n)).size = n := by rw [ByteArray.size_extract, streamB_size]; omega
  have e4 : (⟨(xorL (s.extract (64 * k) (64 * k + n)) ((blockB key nonce (c + k)).extract 0 n)).toArray⟩ : ByteArray).size = n := by
    show (xorL _ _).toArray.size = n
    rw [List.size_toArray, xorL_length _ _ (by rw [e1, e2]), e1]
  apply bt_ext
  · rw [e3, e4]
  · intro j hj
    rw [e4] at hj
    rw [bt_xorL _ _ j (by rw [e1]; exact hj) (by rw [e2]; exact hj), bt_extract s _ _ j (by omega) h, bt_extract _ 0 n j (by omega) (by rw [blockB_size]; omega), bt_extract _ _ _ j (by omega) (by rw [streamB_size]; exact h), bt_stream _ _ _ _ _ (by omega),
      Nat.zero_add, show (64 * k + j) / 64 = k by omega, show (64 * k + j) % 64 = j by omega]
/-- A row of bytes of the call's own, as a text. -/
theorem owns_conv {P : Program} {w : World} {B n : Nat} {e : TypeId} {v : Value} {s : ByteArray} (src dst : TypeId) (h : w.ownsRow B e 1 v n (Lib.strCells s)) (hs : P.underlying src = some (.slice e)) (he : P.underlying e = some (.int .u8)) (hd : P.underlying dst = some .string) :
    (convert src dst v).run P w = .ok (.string s) w := by
  have hn : s.size = n := by have := h.1; rw [Lib.strCells_length] at this; omega
  rcases h.2 with ⟨rfl, rfl⟩ | ⟨g, cap, cur, rfl, r⟩
  · have : s = ⟨#[]⟩ := by apply bt_ext; exact hn; intro i hi; omega
    subst this
    exact run_convert_bytes_nil w src e hs he 0 0 dst hd
  · have := (row_of_owns h).conv (P := P) (bt_lt _) n cap (by omega) src dst hs he hd
    rw [bytesOf_extract _ n (by omega), extract_whole s n hn] at this
    exact this

end Go.Proofs.Ytfajkkjppelgcaa

/- Streams that are none. -/
namespace Go.Proofs.Ytfajkkjppelgcaa
open Go.RowKit
set_option maxRecDepth 100000
set_option linter.unusedSimpArgs false

end Go.Proofs.Ytfajkkjppelgcaa
