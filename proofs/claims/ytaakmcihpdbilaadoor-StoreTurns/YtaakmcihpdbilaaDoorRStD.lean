/- Layer 18, the document's: half. -/
import Derived.Test.YtaakmcihpdbilaaDoorRStC
import Derived.Lib.AppendStr
import Derived.Deep.DeepCutAuto
import Derived.Deep.CutBlock
namespace Go.Proofs.YtaakmcihpdbilaaDoor
open Go.RowKit
set_option maxRecDepth 100000
set_option linter.unusedSimpArgs false
set_option linter.unusedVariables false
set_option maxRecDepth 100000

/-- What a store has: its base, what lies behind it, its turn, its bytes. -/
abbrev StoT := ByteArray × List ByteArray × Int × ByteArray
def zeroS : Array Value := #[.string ⟨#[]⟩, .slice none 0 0, .int .i64 0, .string ⟨#[]⟩]
def StoIn (w : World) (B : Nat) (v : Value) (X : StoT) : Prop := ∃ a c, v = .agg #[.string X.1, .slice a X.2.1.length c, .int .i64 X.2.2.1, .string X.2.2.2] ∧ StrsAt w a X.2.1.length X.2.1 ∧ ∀ x, a = some x → B ≤ x.block
theorem StoIn.zero (w : World) (B : Nat) : StoIn w B (.agg zeroS) (⟨#[]⟩, [], 0, ⟨#[]⟩) := ⟨none, 0, rfl, ⟨rfl, .inl rfl⟩, fun _ h => by cases h⟩
theorem StoIn.on {w w' : World} {B : Nat} {v : Value} {X : StoT} (h : StoIn w B v X) (hb : Below w.heap.size w w') : StoIn w' B v X := by
  obtain ⟨a, c, e, h, hx⟩ := h
  exact ⟨a, c, e, h.below hb, hx⟩

/-- The blocks of a half behind its head, the first k of them. -/
def allB (L : List ByteArray) (p : Nat) : Nat → ByteArray
  | 0 => ⟨#[]⟩
  | k + 1 => allB L p k ++ strL L (p + (k + 1))
theorem allB_size (L : List ByteArray) (p : Nat) : ∀ k, (∀ i, i < L.length → (strL L i).size = 64) → p + k < L.length → (allB L p k).size = 64 * k
  | 0, _, _ => rfl
  | k + 1, h, hk => by
    show (allB L p k ++ strL L (p + (k + 1))).size = _
    rw [ByteArray.size_append, allB_size L p k h (by omega), h _ hk]; omega

def hf1 (L : List ByteArray) (p : Nat) : (ByteArray × Int) × Nat := inNumP (strL L p, 0)
def hf2 (L : List ByteArray) (p : Nat) : (ByteArray × Int) × Nat := inNumP (hf1 L p).1
def hfB (L : List ByteArray) (p : Nat) : ByteArray := (allB L p (L.length / 2 - 1)).extract 0 (hf2 L p).2
/-- What a half has, if it is whole. -/
def halfP (L : List ByteArray) (which : Nat) : Option StoT :=
  let p := which * (L.length / 2)
  if (hf2 L p).1.2 ≠ 0 ∨ (hf1 L p).2 < 1 ∨ (hf1 L p).2 % 2 ≠ which ∨ 64 * (L.length / 2 - 1) < (hf2 L p).2 then none
  else match txsP (hfB L p) with
    | some (x :: l) => if hdB ((hf1 L p).2 : Int) (hfB L p) = strL L p then some (x, l, ((hf1 L p).2 : Int), hfB L p) else none
    | _ => none

theorem Tryd.infoByte18 : (Tryd.prog.info? 5).map (fun i => (i.zero, i.size, i.bytes)) = some (some (.int .u8 0), 1, 1) := by kernel_rfl

/-- The first n bytes of a row of bytes of the call's own, as a text. -/
theorem conv_first {P : Program} {w : World} {B k n : Nat} {e : TypeId} {v : Value} {s : ByteArray} (h : w.ownsRow B e 1 v k (Lib.strCells s)) (hn : n ≤ s.size) (src dst : TypeId) (hs : P.underlying src = some (.slice e)) (he : P.underlying e = some (.int .u8)) (hd : P.underlying dst = some .string) :
    ∃ a cap, v = .slice a k cap ∧ n ≤ cap ∧ n ≤ k ∧ (convert src dst (.slice a n cap)).run P w = .ok (.string (s.extract 0 n)) w := by
  have hk : s.size = k := by have := h.1; rw [Lib.strCells_length] at this; omega
  have h' := h
  rcases h.2 with ⟨rfl, rfl⟩ | ⟨g, cap, cur, rfl, r⟩
  · obtain rfl : n = 0 := by omega
    refine ⟨none, 0, rfl, Nat.le_refl _, Nat.le_refl _, ?_⟩
    have : s.extract 0 0 = ⟨#[]⟩ := by apply bt_ext; (rw [ByteArray.size_extract]; rfl); intro i hi; rw [ByteArray.size_extract] at hi; omega
    rw [this]
    exact run_convert_bytes_nil w src e hs he 0 0 dst hd
  · have hc : k ≤ cap := by have := r; omega
    refine ⟨_, cap, rfl, by omega, by omega, ?_⟩
    have := (row_of_owns h').conv (P := P) (bt_lt _) n cap (by omega) src dst hs he hd
    rw [this, bytesOf_extract s n hn]

theorem own_cells {w : World} {B n b o c : Nat} {l : List ByteArray} (h : OwnTx w B (.slice (some ⟨b, o, none⟩) n c) n l) : ∀ i, i < n → w.cell? ⟨b, o + i, none⟩ = some (.string (strL l i)) := by
  obtain ⟨a, c', e, hs⟩ := h.strs
  cases e
  intro i hi
  rcases hs.2 with h0 | ⟨b', off, ha, hc⟩
  · omega
  · cases ha; exact hc i hi

theorem owns_cap {w : World} {B e c n m cap : Nat} {a : Option Addr} {xs : List Value} (h : w.ownsRow B e c (.slice a m cap) n xs) : n ≤ cap := by
  rcases h.2 with ⟨h1, h2⟩ | ⟨g, cp, cur, h1, r⟩
  · rw [h2]; exact Nat.zero_le _
  · cases h1
    have := r; omega

theorem inNumP_small (i : ByteArray × Int) : (inNumP i).2 ≤ 1099511627775 := by
  unfold inNumP
  split
  · exact Nat.zero_le _
  · omega

end Go.Proofs.YtaakmcihpdbilaaDoor
