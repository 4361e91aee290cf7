import Derived.Test.YtaakmcihpdbilaaDoorR17
import Derived.Test.YtaakmcihpdbilaaDoorR9
import Derived.Test.YtaakmcihpdbilaaDoorL2c
import Derived.Test.YtaakmcihpdbilaaDoorBA
import Derived.Test.YtaakmcihpdbilaaDoorG
import Derived.BigQuiet
import Derived.Deep.QuietTactic
import Derived.Sort.Grow
import Derived.Lib.AppendStr
import Derived.Deep.DeepCutAuto
import Derived.Deep.CutBlock
/- Layer 18, the document's: text, filled, head, room. -/
namespace Go.Proofs.YtaakmcihpdbilaaDoor
open Go.RowKit
set_option maxRecDepth 100000
set_option linter.unusedSimpArgs false
set_option maxRecDepth 100000

/-- A text as bytes; bytes with noughts up to whole blocks; the head of a half. -/
def txB (s : ByteArray) : ByteArray := bigB (s.size : Int) 2 ++ s
def padN (n : Nat) : Nat := (64 - n % 64) % 64
def filB (s : ByteArray) : ByteArray := s ++ zeroB (padN s.size)
def hdB (turn : Int) (s : ByteArray) : ByteArray := filB (bigB turn 6 ++ bigB (s.size : Int) 6 ++ (ofN (sumN s)).extract 0 8)
theorem txB_size (s : ByteArray) : (txB s).size = s.size + 2 := by unfold txB; rw [ByteArray.size_append, bigB_size]; omega
theorem filB_size (s : ByteArray) : (filB s).size = 64 * ((s.size + 63) / 64) := by
  unfold filB padN
  rw [ByteArray.size_append, zeroB_size]; omega

theorem textP_new (s : ByteArray) (h : s.size ≤ 32768) : textP (ByteArray.empty, false) s = (txB s, false) := by
  unfold textP
  rw [if_neg (by omega)]
  unfold layP
  have h1 : (ByteArray.empty ++ (bigB (s.size : Int) 2 ++ s)).size ≤ 65536 := by
    rw [ByteArray.size_append, ByteArray.size_append, bigB_size]; show 0 + (2 + s.size) ≤ 65536; omega
  simp_all [txB]

end Go.Proofs.YtaakmcihpdbilaaDoor

/- A region that draws its order, whose operations only read and whose callees leave what was there as it was: walked once. Plain facts. -/
namespace Go.Proofs.YtaakmcihpdbilaaDoor
open Go.RowKit
set_option maxRecDepth 100000
set_option linter.unusedSimpArgs false

/-- A world behind another, with all that was there as it was. -/
structure Beh (w : World) where
  w' : World
  h : Below w.heap.size w w'

theorem wp_region_quiet_beh {P : Program} {id : Nat} {Q : Exit → Act → World → Prop} {a : Act} {w : World} {l : List Oper} (hm : P.follows .mixedOrders = true) (hB : Region.lexB .any l.toArray = true)
    (h : wpQuiet P l.toArray (fun w' => ∃ p : Beh w, w' = p.w') (fun a' => ∀ w', (∃ p : Beh w, w' = p.w') → Q .normal a' w') l a) : (Code.region id l.toArray true).wp P Q a w :=
  wp_region_quiet (C := fun w' => ∃ p : Beh w, w' = p.w') hm hB ⟨⟨w.drew, (Below.refl _ _).drew⟩, rfl⟩ (by simpa using h)

/-- A callee's contract, met in a world behind w. -/
theorem Calls.beh_of {P : Program} {f : FuncId} {args : Array Value} {w : World} {p : Beh w} {v : Value} (h : Calls P f args p.w' fun e w' => e = .returned v ∧ Below p.w'.heap.size p.w' w') :
    Calls P f args p.w' fun e w'' => e = .returned v ∧ ∃ q : Beh w, w'' = q.w' :=
  h.mono fun _ w' ⟨he, hb⟩ => ⟨he, ⟨⟨w', below_step p.h (Nat.le_refl _) hb⟩, rfl⟩⟩

theorem Beh.cell {w : World} (p : Beh w) {a : Addr} {v : Value} (h : w.cell? a = some v) : p.w'.cell? a = some v := by
  rw [p.h.cell (World.block_lt_of_cell? w _ h)]; exact h
end Go.Proofs.YtaakmcihpdbilaaDoor

/- Layer 18, the document's: head, room. -/
namespace Go.Proofs.YtaakmcihpdbilaaDoor
open Go.RowKit
set_option maxRecDepth 100000
set_option linter.unusedSimpArgs false
set_option maxRecDepth 100000

theorem numP_ok (A : ByteArray) (n : Int) (hA : A.size + 6 ≤ 65536) (h0 : 0 ≤ n) (h1 : n ≤ 1099511627775) : numP (A, false) n 6 1099511627775 = (A ++ bigB n 6, false) := by
  unfold numP oneOk layP
  rw [if_pos]
  refine ⟨by simp [h0, h1], rfl, ?_⟩
  show A.size + (bigB n 6).size ≤ 65536
  rw [bigB_size]; exact hA

theorem empty_app (A : ByteArray) : ByteArray.empty ++ A = A := by
  apply ByteArray.ext
  simp

theorem sum32 (s : ByteArray) : (ofN (sumN s)).size = 32 := ofN_size _ (foldN_length _ _ rfl _)

theorem hdB_size (turn : Int) (s : ByteArray) : (hdB turn s).size = 64 := by
  unfold hdB
  rw [filB_size, ByteArray.size_append, ByteArray.size_append, bigB_size, bigB_size, ByteArray.size_extract, sum32]
  decide

end Go.Proofs.YtaakmcihpdbilaaDoor

/- Layer 18, the document's: texts. -/
namespace Go.Proofs.YtaakmcihpdbilaaDoor
open Go.RowKit
set_option maxRecDepth 100000
set_option linter.unusedSimpArgs false
set_option maxRecDepth 100000
set_option linter.unusedVariables false

theorem Tryd.infoStr18 : (Tryd.prog.info? 9).map (fun i => (i.zero, i.size, i.bytes)) = some (some (.string ⟨#[]⟩), 1, 16) := by kernel_rfl
def lnV : Value → Nat
  | .slice _ n _ => n
  | _ => 0

theorem inTextP_less (S : ByteArray) (m : Int) (h : (inTextP (S, 0) m).1.2 = 0) : (inTextP (S, 0) m).1.1.size + 2 ≤ S.size := by
  unfold inTextP at h ⊢
  have h90 : ∀ e : Int, e ≠ 0 → ∀ i : ByteArray × Int, (wrongP i e).2 ≠ 0 := by
    intro e he i
    unfold wrongP
    simp only
    split
    · exact he
    · assumption
  split at h
  · rename_i hn; exact absurd h hn
  · rename_i hn
    split at h
    · exact absurd h (h90 91 (by decide) _)
    · split at h
      · exact absurd h (h90 90 (by decide) _)
      · have hn : (numberP (S, 0) 2).1.2 = 0 := Classical.not_not.1 hn
        have hs : (numberP (S, 0) 2).1.1.size + 2 ≤ S.size := by
          unfold numberP at hn ⊢
          by_cases hc : (S, (0 : Int)).2 ≠ 0 ∨ (S, (0 : Int)).1.size < 2
          · rw [if_pos hc] at hn; exact absurd hn (h90 90 (by decide) _)
          · rw [if_neg hc]
            have h2 : ¬ S.size < 2 := fun h => hc (.inr h)
            show (S.extract 2 S.size).size + 2 ≤ _
            rw [ByteArray.size_extract]; omega
        rename_i q1 q2
        rw [if_neg (by simpa using hn), if_neg q1, if_neg q2]
        simp only [ByteArray.size_extract]; omega

/-- The texts of bytes. -/
def txsF : Nat → ByteArray → Option (List ByteArray)
  | 0, S => if S.size = 0 then some [] else none
  | n + 1, S => if S.size = 0 then some [] else if (inTextP (S, 0) 32768).1.2 = 0 then (txsF n (inTextP (S, 0) 32768).1.1).map ((inTextP (S, 0) 32768).2 :: ·) else none
def txsP (S : ByteArray) : Option (List ByteArray) := txsF S.size S
theorem txsF_none (n : Nat) (S : ByteArray) (h : S.size = 0) : txsF n S = some [] := by
  cases n with
  | zero => exact if_pos h
  | succ n => exact if_pos h
theorem txsF_more : ∀ n m (S : ByteArray), S.size ≤ n → S.size ≤ m → txsF n S = txsF m S
  | 0, m, S, h, _ => by rw [txsF_none 0 S (by omega), txsF_none m S (by omega)]
  | n + 1, 0, S, _, h => by rw [txsF_none _ S (by omega), txsF_none _ S (by omega)]
  | n + 1, m + 1, S, h1, h2 => by
    unfold txsF
    by_cases h0 : S.size = 0
    · rw [if_pos h0, if_pos h0]
    · rw [if_neg h0, if_neg h0]
      by_cases he : (inTextP (S, 0) 32768).1.2 = 0
      · have hl := inTextP_less S 32768 he
        rw [if_pos he, if_pos he, txsF_more n m _ (by omega) (by omega)]
      · rw [if_neg he, if_neg he]
theorem txsP_none (S : ByteArray) (h : S.size = 0) : txsP S = some [] := txsF_none _ S h
theorem txsP_bad (S : ByteArray) (h : S.size ≠ 0) (h1 : (inTextP (S, 0) 32768).1.2 ≠ 0) : txsP S = none := by
  unfold txsP
  obtain ⟨n, hn⟩ : ∃ n, S.size = n + 1 := ⟨S.size - 1, by omega⟩
  rw [hn]
  unfold txsF
  rw [if_neg h, if_neg h1]
theorem txsP_next (S S1 T : ByteArray) (h : S.size ≠ 0) (h1 : inTextP (S, 0) 32768 = ((S1, 0), T)) : txsP S = (txsP S1).map (T :: ·) := by
  have hl := inTextP_less S 32768 (by rw [h1])
  rw [h1] at hl
  have hl' : S1.size + 2 ≤ S.size := hl
  unfold txsP
  obtain ⟨n, hn⟩ : ∃ n, S.size = n + 1 := ⟨S.size - 1, by omega⟩
  rw [hn, show txsF (n + 1) S = if S.size = 0 then some [] else if (inTextP (S, 0) 32768).1.2 = 0 then (txsF n (inTextP (S, 0) 32768).1.1).map ((inTextP (S, 0) 32768).2 :: ·) else none from rfl, if_neg h, h1]
  show (if (0 : Int) = 0 then _ else _) = _
  rw [if_pos rfl, txsF_more n S1.size S1 (by omega) (Nat.le_refl _)]

end Go.Proofs.YtaakmcihpdbilaaDoor

/- Layer 18, the document's: half. -/
namespace Go.Proofs.YtaakmcihpdbilaaDoor
open Go.RowKit
set_option maxRecDepth 100000
set_option linter.unusedSimpArgs false
set_option linter.unusedVariables false
set_option maxRecDepth 100000

/-- What a store has: its base, what lies behind it, its turn, its bytes. -/
abbrev StoT := ByteArray × List ByteArray × Int × ByteArray
def zeroS : Array Value := #[.string ⟨#[]⟩, .slice none 0 0, .int .i64 0, .string ⟨#[]⟩]
def StoIn (w : World) (B : Nat) (v : Value) (X : StoT) : Prop := ∃ a c, v = .agg #[.string X.1, .slice a X.2.1.length c, .int .i64 X.2.2.1, .string X.2.2.2] ∧ StrsAt w a X.2.1.length X.2.1 ∧ ∀ x, a = some x → B ≤ x.block
theorem StoIn.zero (w : World) (B : Nat) : StoIn w B (.agg zeroS) (⟨#[]⟩, [], 0, ⟨#[]⟩) := ⟨none, 0, rfl, ⟨rfl, .inl rfl⟩, fun _ h => by cases h⟩
theorem StoIn.on {w w' : World} {B : Nat} {v : Value} {X : StoT} (h : StoIn w B v X) (hb : Below w.heap.size w w') : StoIn w' B v X := by
  obtain ⟨a, c, e, h, hx⟩ := h
  exact ⟨a, c, e, h.below hb, hx⟩

/-- The blocks of a half behind its head, the first k of them. -/
def allB (L : List ByteArray) (p : Nat) : Nat → ByteArray
  | 0 => ⟨#[]⟩
  | k + 1 => allB L p k ++ strL L (p + (k + 1))
theorem allB_size (L : List ByteArray) (p : Nat) : ∀ k, (∀ i, i < L.length → (strL L i).size = 64) → p + k < L.length → (allB L p k).size = 64 * k
  | 0, _, _ => rfl
  | k + 1, h, hk => by
    show (allB L p k ++ strL L (p + (k + 1))).size = _
    rw [ByteArray.size_append, allB_size L p k h (by omega), h _ hk]; omega

def hf1 (L : List ByteArray) (p : Nat) : (ByteArray × Int) × Nat := inNumP (strL L p, 0)
def hf2 (L : List ByteArray) (p : Nat) : (ByteArray × Int) × Nat := inNumP (hf1 L p).1
def hfB (L : List ByteArray) (p : Nat) : ByteArray := (allB L p (L.length / 2 - 1)).extract 0 (hf2 L p).2
/-- What a half has, if it is whole. -/
def halfP (L : List ByteArray) (which : Nat) : Option StoT :=
  let p := which * (L.length / 2)
  if (hf2 L p).1.2 ≠ 0 ∨ (hf1 L p).2 < 1 ∨ (hf1 L p).2 % 2 ≠ which ∨ 64 * (L.length / 2 - 1) < (hf2 L p).2 then none
  else match txsP (hfB L p) with
    | some (x :: l) => if hdB ((hf1 L p).2 : Int) (hfB L p) = strL L p then some (x, l, ((hf1 L p).2 : Int), hfB L p) else none
    | _ => none

theorem Tryd.infoByte18 : (Tryd.prog.info? 5).map (fun i => (i.zero, i.size, i.bytes)) = some (some (.int .u8 0), 1, 1) := by kernel_rfl

/-- The first n bytes of a row of bytes of the call's own, as a text. -/
theorem conv_first {P : Program} {w : World} {B k n : Nat} {e : TypeId} {v : Value} {s : ByteArray} (h : w.ownsRow B e 1 v k (Lib.strCells s)) (hn : n ≤ s.size) (src dst : TypeId) (hs : P.underlying src = some (.slice e)) (he : P.underlying e = some (.int .u8)) (hd : P.underlying dst = some .string) :
    ∃ a cap, v = .slice a k cap ∧ n ≤ cap ∧ n ≤ k ∧ (convert src dst (.slice a n cap)).run P w = .ok (.string (s.extract 0 n)) w := by
  have hk : s.size = k := by have := h.1; rw [Lib.strCells_length] at this; omega
  have h' := h
  rcases h.2 with ⟨rfl, rfl⟩ | ⟨g, cap, cur, rfl, r⟩
  · obtain rfl : n = 0 := by omega
    refine ⟨none, 0, rfl, Nat.le_refl _, Nat.le_refl _, ?_⟩
    have : s.extract 0 0 = ⟨#[]⟩ := by apply bt_ext; (rw [ByteArray.size_extract]; rfl); intro i hi; rw [ByteArray.size_extract] at hi; omega
    rw [this]
    exact run_convert_bytes_nil w src e hs he 0 0 dst hd
  · have hc : k ≤ cap := by have := r; omega
    refine ⟨_, cap, rfl, by omega, by omega, ?_⟩
    have := (row_of_owns h').conv (P := P) (bt_lt _) n cap (by omega) src dst hs he hd
    rw [this, bytesOf_extract s n hn]

theorem own_cells {w : World} {B n b o c : Nat} {l : List ByteArray} (h : OwnTx w B (.slice (some ⟨b, o, none⟩) n c) n l) : ∀ i, i < n → w.cell? ⟨b, o + i, none⟩ = some (.string (strL l i)) := by
  obtain ⟨a, c', e, hs⟩ := h.strs
  cases e
  intro i hi
  rcases hs.2 with h0 | ⟨b', off, ha, hc⟩
  · omega
  · cases ha; exact hc i hi

theorem owns_cap {w : World} {B e c n m cap : Nat} {a : Option Addr} {xs : List Value} (h : w.ownsRow B e c (.slice a m cap) n xs) : n ≤ cap := by
  rcases h.2 with ⟨h1, h2⟩ | ⟨g, cp, cur, h1, r⟩
  · rw [h2]; exact Nat.zero_le _
  · cases h1
    have := r; omega

theorem inNumP_small (i : ByteArray × Int) : (inNumP i).2 ≤ 1099511627775 := by
  unfold inNumP
  split
  · exact Nat.zero_le _
  · omega

end Go.Proofs.YtaakmcihpdbilaaDoor

/- Layer 18, the document's: Open. -/
namespace Go.Proofs.YtaakmcihpdbilaaDoor
open Go.RowKit
set_option maxRecDepth 100000
set_option linter.unusedSimpArgs false
set_option linter.unusedVariables false
set_option maxRecDepth 100000

def zeroT : StoT := (⟨#[]⟩, [], 0, ⟨#[]⟩)
/-- What a device has. -/
def openP (L : List ByteArray) : StoT :=
  if (halfP L 1).isSome = true ∧ ((halfP L 0).isSome = false ∨ ((halfP L 0).getD zeroT).2.2.1 < ((halfP L 1).getD zeroT).2.2.1) then (halfP L 1).getD zeroT else (halfP L 0).getD zeroT

theorem cell_row_other (w : World) (g b i : Nat) (cs : Array Value) (h : b ≠ g) : (w.setRow g cs).cell? ⟨b, i, none⟩ = w.cell? ⟨b, i, none⟩ := by
  unfold World.cell?
  simp only [setRow_other w g b cs h]

theorem strs_row {w : World} {g n : Nat} {a : Option Addr} {l : List ByteArray} {cs : Array Value} (h : StrsAt w a n l) (hx : ∀ x, a = some x → g < x.block) : StrsAt (w.setRow g cs) a n l := by
  refine ⟨h.1, ?_⟩
  rcases h.2 with h0 | ⟨b, off, ha, hc⟩
  · exact .inl h0
  · refine .inr ⟨b, off, ha, fun i hi => ?_⟩
    rw [cell_row_other w g b (off + i) cs (by have := hx _ ha; have h9 : g < b := this; omega)]
    exact hc i hi

end Go.Proofs.YtaakmcihpdbilaaDoor
