import Derived.Test.YtkmdajenbidaaaaDoorG
import Derived.Laws.ResultCell
/- Structs by value; the document's with (layer 9). -/
namespace Go.Proofs.YtkmdajenbidaaaaDoor
open Go.RowKit
set_option maxRecDepth 100000
set_option linter.unusedSimpArgs false

/-- An Out on plain data; with a part more. -/
def outV (o : ByteArray × Bool) : Value := .agg #[.string o.1, .bool o.2]

def layP (o : ByteArray × Bool) (s : ByteArray) (ok : Bool) : ByteArray × Bool := if ok = true ∧ o.2 = false ∧ o.1.size + s.size ≤ 65536 then (o.1 ++ s, false) else (o.1, true)

theorem layP_size (o : ByteArray × Bool) (s : ByteArray) (ok : Bool) (h : o.1.size ≤ 65536) : (layP o s ok).1.size ≤ 65536 := by
  unfold layP
  split
  · rename_i hc; show (o.1 ++ s).size ≤ _; rw [ByteArray.size_append]; exact hc.2.2
  · exact h

/-- A number as so many bytes, the highest first. -/
def bigF (n : Int) (many j : Nat) : Nat := (n / 2 ^ (8 * (many - 1 - j)) % 256).toNat

theorem bigF_lt (n : Int) (many j : Nat) : bigF n many j < 256 := by unfold bigF; omega

def bigB (n : Int) (many : Nat) : ByteArray := ⟨(bytesOf many (bigF n many)).toArray⟩

theorem bigB_size (n : Int) (many : Nat) : (bigB n many).size = many := by
  show (bytesOf many _).toArray.size = _
  rw [List.size_toArray, bytesOf_length]

end Go.Proofs.YtkmdajenbidaaaaDoor

/- The document's Byte, Num (layer 9). -/
namespace Go.Proofs.YtkmdajenbidaaaaDoor
open Go.RowKit
set_option maxRecDepth 100000
set_option linter.unusedSimpArgs false

def oneOk (n most : Int) : Bool := decide (0 ≤ n) && decide (n ≤ most)

def numP (o : ByteArray × Bool) (n : Int) (many : Nat) (most : Int) : ByteArray × Bool := layP o (bigB n many) (oneOk n most)





end Go.Proofs.YtkmdajenbidaaaaDoor

/- The document's Num (layer 9). -/
namespace Go.Proofs.YtkmdajenbidaaaaDoor
open Go.RowKit
set_option maxRecDepth 100000
set_option linter.unusedSimpArgs false





end Go.Proofs.YtkmdajenbidaaaaDoor

/- The document's Text, Done (layer 9). -/
namespace Go.Proofs.YtkmdajenbidaaaaDoor
open Go.RowKit
set_option maxRecDepth 100000
set_option linter.unusedSimpArgs false

def textP (o : ByteArray × Bool) (s : ByteArray) : ByteArray × Bool := if 65535 < s.size then layP o ⟨#[]⟩ false else layP o (bigB (s.size : Int) 2 ++ s) true

def doneP (o : ByteArray × Bool) : Value := if o.2 then .tuple #[.string ⟨#[]⟩, .int .i64 1] else .tuple #[.string o.1, .int .i64 0]

end Go.Proofs.YtkmdajenbidaaaaDoor

/- The document's wrong, number (layer 9). -/
namespace Go.Proofs.YtkmdajenbidaaaaDoor
open Go.RowKit
set_option maxRecDepth 100000
set_option linter.unusedSimpArgs false

/-- An In on plain data; one with which something is wrong. -/
def inV (i : ByteArray × Int) : Value := .agg #[.string i.1, .int .i64 i.2]

def wrongP (i : ByteArray × Int) (e : Int) : ByteArray × Int := (⟨#[]⟩, if i.2 = 0 then e else i.2)

/-- The number of the first k bytes, the highest first. -/
def accB (s : ByteArray) : Nat → Nat
  | 0 => 0
  | k + 1 => accB s k * 256 + bt s k

theorem accB_lt (s : ByteArray) (k : Nat) : accB s k < 256 ^ k := by
  induction k with
  | zero => show 0 < 1; omega
  | succ k ih =>
    show accB s k * 256 + bt s k < _
    have := bt_lt s k
    rw [Nat.pow_succ]; omega

def numberP (i : ByteArray × Int) (many : Nat) : (ByteArray × Int) × Nat := if i.2 ≠ 0 ∨ i.1.size < many then (wrongP i 90, 0) else ((i.1.extract many i.1.size, i.2), accB i.1 many)

theorem or256 (X y : Nat) (hX : X < 281474976710656) (hy : y < 256) : bits .or .i64 ((X : Int) * 256) (y : Int) = ((X * 256 + y : Nat) : Int) := by
  have e : (X : Int) * 256 = ((X * 256 : Nat) : Int) := by simp
  rw [e, i64_or_nat _ _ (by omega) (by omega)]
  have h := Nat.two_pow_add_eq_or_of_lt (i := 8) (b := y) (by omega) X
  rw [show X * 256 = 2 ^ 8 * X by omega, ← h]

end Go.Proofs.YtkmdajenbidaaaaDoor

/- The document's InNum, InDone (layer 9). -/
namespace Go.Proofs.YtkmdajenbidaaaaDoor
open Go.RowKit
set_option maxRecDepth 100000
set_option linter.unusedSimpArgs false

def inNumP (i : ByteArray × Int) : (ByteArray × Int) × Nat := if 1099511627775 < (numberP i 6).2 then (wrongP (numberP i 6).1 91, 0) else numberP i 6

end Go.Proofs.YtkmdajenbidaaaaDoor

/- The document's InByte, InDone, InText (layer 9). -/
namespace Go.Proofs.YtkmdajenbidaaaaDoor
open Go.RowKit
set_option maxRecDepth 100000
set_option linter.unusedSimpArgs false

def inDoneP (i : ByteArray × Int) : Int := if i.2 = 0 ∧ ¬ i.1.size = 0 then 91 else i.2

theorem empty_yes (s : ByteArray) (h : s.size = 0) : s.toList.isEmpty = true := by
  rw [toList_data]
  have : s.data.size = 0 := h
  rw [Array.eq_empty_of_size_eq_zero this]; rfl

theorem empty_no (s : ByteArray) (h : ¬ s.size = 0) : s.toList.isEmpty = false := by
  rw [toList_data]
  cases hq : s.data.toList with
  | nil =>
    have h2 : s.data.toList.length = 0 := by rw [hq]; rfl
    rw [Array.length_toList] at h2
    exact absurd h2 h
  | cons a l => rfl



end Go.Proofs.YtkmdajenbidaaaaDoor

/- The document's InText (layer 9). -/
namespace Go.Proofs.YtkmdajenbidaaaaDoor
open Go.RowKit
set_option maxRecDepth 100000
set_option linter.unusedSimpArgs false

def inTextP (i : ByteArray × Int) (most : Int) : (ByteArray × Int) × ByteArray :=
  if (numberP i 2).1.2 ≠ 0 then ((numberP i 2).1, ⟨#[]⟩)
  else if most < ((numberP i 2).2 : Int) then (wrongP (numberP i 2).1 91, ⟨#[]⟩)
  else if (numberP i 2).1.1.size < (numberP i 2).2 then (wrongP (numberP i 2).1 90, ⟨#[]⟩)
  else (((numberP i 2).1.1.extract (numberP i 2).2 (numberP i 2).1.1.size, (numberP i 2).1.2), (numberP i 2).1.1.extract 0 (numberP i 2).2)



end Go.Proofs.YtkmdajenbidaaaaDoor

/- The document's Stamp (layer 9). -/
namespace Go.Proofs.YtkmdajenbidaaaaDoor
open Go.RowKit
set_option maxRecDepth 100000
set_option linter.unusedSimpArgs false

def stampOk (t u : Int) : Bool := oneOk t 1099511627775 && oneOk u 255

def stampP (o : ByteArray × Bool) (t u : Int) : ByteArray × Bool := layP o (bigB t 6 ++ bigB u 1) (stampOk t u)



end Go.Proofs.YtkmdajenbidaaaaDoor

/- The document's InStamp, where nothing is wrong (layer 9). -/
namespace Go.Proofs.YtkmdajenbidaaaaDoor
open Go.RowKit
set_option maxRecDepth 100000
set_option linter.unusedSimpArgs false

def inStampP (i : ByteArray × Int) : (ByteArray × Int) × (Int × Int) :=
  if (numberP (inNumP i).1 1).1.2 ≠ 0 then ((numberP (inNumP i).1 1).1, (0, 0)) else ((numberP (inNumP i).1 1).1, (((inNumP i).2 : Int), ((numberP (inNumP i).1 1).2 : Int)))

theorem wrongP_size (i : ByteArray × Int) (e : Int) : (wrongP i e).1.size = 0 := rfl

theorem numberP_size (i : ByteArray × Int) (many : Nat) : (numberP i many).1.1.size ≤ i.1.size := by
  unfold numberP
  split
  · exact Nat.zero_le _
  · show (i.1.extract many i.1.size).size ≤ _; rw [ByteArray.size_extract]; omega

theorem inNumP_size (i : ByteArray × Int) : (inNumP i).1.1.size ≤ i.1.size := by
  unfold inNumP
  split
  · exact Nat.zero_le _
  · exact numberP_size i 6

end Go.Proofs.YtkmdajenbidaaaaDoor

/- The document's InStamp, where something is wrong (layer 9). -/
namespace Go.Proofs.YtkmdajenbidaaaaDoor
open Go.RowKit
set_option maxRecDepth 100000
set_option linter.unusedSimpArgs false

end Go.Proofs.YtkmdajenbidaaaaDoor

/- Layer 9 on plain data: what was written is read; what is cut is too short. Nothing of the program. -/
namespace Go.Proofs.YtkmdajenbidaaaaDoor
open Go.RowKit
set_option maxRecDepth 100000
set_option linter.unusedSimpArgs false

/-- The number of a number's bytes. -/
theorem bt_bigB (N many j : Nat) (hj : j < many) : bt (bigB (N : Int) many) j = N / 256 ^ (many - 1 - j) % 256 := by
  unfold bigB
  rw [bt_bytesOf _ _ _ hj (bigF_lt _ _ _)]
  unfold bigF
  have e : (2 : Int) ^ (8 * (many - 1 - j)) = ((256 ^ (many - 1 - j) : Nat) : Int) := by
    rw [show (256 : Nat) = 2 ^ 8 by decide, ← Nat.pow_mul]; simp
  rw [e]
  generalize 256 ^ (many - 1 - j) = P
  have : (N : Int) / (P : Int) % 256 = ((N / P % 256 : Nat) : Int) := by simp
  rw [this, Int.toNat_natCast]

theorem accB_congr (s t : ByteArray) (k : Nat) (h : ∀ j, j < k → bt s j = bt t j) : accB s k = accB t k := by
  induction k with
  | zero => rfl
  | succ k ih =>
    show accB s k * 256 + bt s k = accB t k * 256 + bt t k
    rw [ih (fun j hj => h j (by omega)), h k (by omega)]

theorem accB_big_to (N many k : Nat) (hk : k ≤ many) (hN : N < 256 ^ many) : accB (bigB (N : Int) many) k = N / 256 ^ (many - k) := by
  induction k with
  | zero => exact (Nat.div_eq_of_lt hN).symm
  | succ k ih =>
    show accB _ k * 256 + bt _ k = _
    rw [ih (by omega), bt_bigB N many k (by omega), show many - k = (many - (k + 1)) + 1 by omega, Nat.pow_succ, ← Nat.div_div_eq_div_mul, show many - 1 - k = many - (k + 1) by omega]
    generalize N / 256 ^ (many - (k + 1)) = M
    omega

theorem accB_big (N many : Nat) (hN : N < 256 ^ many) : accB (bigB (N : Int) many) many = N := by
  rw [accB_big_to N many many (Nat.le_refl _) hN, Nat.sub_self]
  simp

/-- A text is a beginning of another. -/
def PreB (t u : ByteArray) : Prop := t.size ≤ u.size ∧ ∀ j, j < t.size → bt t j = bt u j

theorem PreB.refl (t : ByteArray) : PreB t t := ⟨Nat.le_refl _, fun _ _ => rfl⟩

theorem PreB.cut (u : ByteArray) (n : Nat) (h : n ≤ u.size) : PreB (u.extract 0 n) u := by
  have e : (u.extract 0 n).size = n := by rw [ByteArray.size_extract]; omega
  exact ⟨by omega, fun j hj => by rw [bt_extract _ 0 n j (by omega) h, Nat.zero_add]⟩

theorem PreB.whole {t u : ByteArray} (h : PreB t u) (e : t.size = u.size) : t = u := bt_ext _ _ e (fun i hi => h.2 i hi)

theorem PreB.left {t E T : ByteArray} (h : PreB t (E ++ T)) (j : Nat) (hj : j < t.size) (hE : j < E.size) : bt t j = bt E j := by
  rw [h.2 j hj, bt_append_left _ _ _ hE]

theorem PreB.rest {t E T : ByteArray} (h : PreB t (E ++ T)) (n : Nat) (hE : E.size = n) (hn : n ≤ t.size) : PreB (t.extract n t.size) T := by
  have h1 := h.1
  rw [ByteArray.size_append] at h1
  have e : (t.extract n t.size).size = t.size - n := by rw [ByteArray.size_extract]; omega
  refine ⟨by omega, fun j hj => ?_⟩
  rw [bt_extract _ n t.size j (by omega) (Nat.le_refl _), h.2 _ (by omega), ← hE, bt_append_right]

/-- A number of a beginning. -/
theorem number_pre (t T : ByteArray) (N many : Nat) (hN : N < 256 ^ many) (h : PreB t (bigB (N : Int) many ++ T)) :
    (t.size < many ∧ numberP (t, 0) many = ((⟨#[]⟩, 90), 0)) ∨ (many ≤ t.size ∧ numberP (t, 0) many = ((t.extract many t.size, 0), N) ∧ PreB (t.extract many t.size) T) := by
  unfold numberP
  by_cases hm : t.size < many
  · left
    refine ⟨hm, ?_⟩
    rw [if_pos (Or.inr hm)]; rfl
  · right
    refine ⟨by omega, ?_, h.rest many (bigB_size _ _) (by omega)⟩
    rw [if_neg (by rintro (h | h); exact h rfl; exact hm h)]
    show ((t.extract many t.size, (0 : Int)), accB t many) = _
    rw [accB_congr t (bigB (N : Int) many) many (fun j hj => h.left j (by omega) (by rw [bigB_size]; exact hj)), accB_big N many hN]

theorem number_bad (e : Int) (he : e ≠ 0) (many : Nat) : numberP (⟨#[]⟩, e) many = ((⟨#[]⟩, e), 0) := by
  unfold numberP
  rw [if_pos (Or.inl he)]
  unfold wrongP
  rw [if_neg he]

/-- A part: its kind, two numbers, a text. -/
def kd (p : Int × Int × Int × ByteArray) : Int := p.1

def pn (p : Int × Int × Int × ByteArray) : Int := p.2.1

def pm (p : Int × Int × Int × ByteArray) : Int := p.2.2.1

def ps (p : Int × Int × Int × ByteArray) : ByteArray := p.2.2.2

def encP (p : Int × Int × Int × ByteArray) : ByteArray :=
  if kd p = 1 then bigB (pn p) 1 else if kd p = 2 then bigB (pn p) 6 else if kd p = 3 then bigB (pn p) 6 ++ bigB (pm p) 1 else bigB ((ps p).size : Int) 2 ++ ps p

def okP (p : Int × Int × Int × ByteArray) : Bool :=
  if kd p = 1 then oneOk (pn p) 255 else if kd p = 2 then oneOk (pn p) 1099511627775 else if kd p = 3 then stampOk (pn p) (pm p) else decide ((ps p).size ≤ 65535)

def writeP (o : ByteArray × Bool) (p : Int × Int × Int × ByteArray) : ByteArray × Bool :=
  if kd p = 1 then numP o (pn p) 1 255 else if kd p = 2 then numP o (pn p) 6 1099511627775 else if kd p = 3 then stampP o (pn p) (pm p) else textP o (ps p)

theorem layP_no (o : ByteArray × Bool) (s t : ByteArray) : layP o s false = layP o t false := by
  unfold layP
  rw [if_neg (fun h => by cases h.1), if_neg (fun h => by cases h.1)]

theorem writeP_eq (o : ByteArray × Bool) (p : Int × Int × Int × ByteArray) : writeP o p = layP o (encP p) (okP p) := by
  unfold writeP encP okP
  split
  · rfl
  · split
    · rfl
    · split
      · rfl
      · unfold textP
        split
        · next h => rw [decide_eq_false (by omega)]; exact layP_no _ _ _
        · next h => rw [decide_eq_true (by omega)]

/-- What k parts are, one behind the other. -/
def encA : List (Int × Int × Int × ByteArray) → ByteArray
  | [] => ByteArray.empty
  | p :: l => encP p ++ encA l

def writeA (o : ByteArray × Bool) (l : List (Int × Int × Int × ByteArray)) : ByteArray × Bool := l.foldl writeP o

theorem writeA_bad (S : ByteArray) (l : List (Int × Int × Int × ByteArray)) : writeA (S, true) l = (S, true) := by
  induction l with
  | nil => rfl
  | cons p l ih =>
    show writeA (writeP (S, true) p) l = _
    rw [writeP_eq]
    unfold layP
    rw [if_neg (fun h => by cases h.2.1)]
    exact ih

theorem writeA_ok (S : ByteArray) (l : List (Int × Int × Int × ByteArray)) (h : (writeA (S, false) l).2 = false) : (∀ p ∈ l, okP p = true) ∧ (writeA (S, false) l).1 = S ++ encA l := by
  induction l generalizing S with
  | nil =>
    refine ⟨fun p hp => (by cases hp), ?_⟩
    show S = S ++ ByteArray.empty
    apply bytes_ext
    rw [ByteArray.data_append, Array.toList_append]
    exact (List.append_nil _).symm
  | cons p l ih =>
    have e : writeA (S, false) (p :: l) = writeA (layP (S, false) (encP p) (okP p)) l := by
      show writeA (writeP (S, false) p) l = _
      rw [writeP_eq]
    rw [e] at h ⊢
    by_cases hc : okP p = true ∧ false = false ∧ S.size + (encP p).size ≤ 65536
    · have e2 : layP (S, false) (encP p) (okP p) = (S ++ encP p, false) := by unfold layP; exact if_pos hc
      rw [e2] at h ⊢
      obtain ⟨h1, h2⟩ := ih _ h
      refine ⟨fun q hq => ?_, ?_⟩
      · rcases List.mem_cons.1 hq with rfl | hq
        · exact hc.1
        · exact h1 q hq
      · rw [h2, ByteArray.append_assoc]; rfl
    · have e2 : layP (S, false) (encP p) (okP p) = (S, true) := by unfold layP; exact if_neg hc
      rw [e2, writeA_bad] at h
      cases h

end Go.Proofs.YtkmdajenbidaaaaDoor

/- Layer 9 on plain data: parts of a beginning, read. -/
namespace Go.Proofs.YtkmdajenbidaaaaDoor
open Go.RowKit
set_option maxRecDepth 100000
set_option linter.unusedSimpArgs false

theorem inNum_pre (t T : ByteArray) (N : Nat) (hN : N ≤ 1099511627775) (h : PreB t (bigB (N : Int) 6 ++ T)) :
    (t.size < 6 ∧ inNumP (t, 0) = ((⟨#[]⟩, 90), 0)) ∨ (6 ≤ t.size ∧ inNumP (t, 0) = ((t.extract 6 t.size, 0), N) ∧ PreB (t.extract 6 t.size) T) := by
  unfold inNumP
  rcases number_pre t T N 6 (Nat.lt_of_le_of_lt hN (by decide)) h with ⟨h1, h2⟩ | ⟨h1, h2, h3⟩
  · left; rw [h2]; exact ⟨h1, rfl⟩
  · right; rw [h2]
    exact ⟨h1, if_neg (by show ¬ 1099511627775 < N; omega), h3⟩

theorem inNum_bad (e : Int) (he : e ≠ 0) : inNumP (⟨#[]⟩, e) = ((⟨#[]⟩, e), 0) := by
  unfold inNumP
  rw [number_bad e he]; rfl

theorem append_mid (a b c : ByteArray) : (a ++ b) ++ c = a ++ (b ++ c) := ByteArray.append_assoc

theorem extract_twice (t : ByteArray) (a b : Nat) (h : a + b ≤ t.size) : (t.extract a t.size).extract b (t.extract a t.size).size = t.extract (a + b) t.size := by
  have e1 : (t.extract a t.size).size = t.size - a := by rw [ByteArray.size_extract]; omega
  refine bt_ext _ _ (by simp only [ByteArray.size_extract]; omega) (fun j hj => ?_)
  rw [ByteArray.size_extract, e1] at hj
  rw [bt_extract _ b _ j (by omega) (Nat.le_refl _), bt_extract _ a t.size (b + j) (by omega) (Nat.le_refl _), bt_extract _ (a + b) t.size j (by omega) (Nat.le_refl _), Nat.add_assoc]

theorem inStamp_pre (t T : ByteArray) (N U : Nat) (hN : N ≤ 1099511627775) (hU : U ≤ 255) (h : PreB t ((bigB (N : Int) 6 ++ bigB (U : Int) 1) ++ T)) :
    (t.size < 7 ∧ inStampP (t, 0) = ((⟨#[]⟩, 90), (0, 0))) ∨ (7 ≤ t.size ∧ inStampP (t, 0) = ((t.extract 7 t.size, 0), ((N : Int), (U : Int))) ∧ PreB (t.extract 7 t.size) T) := by
  rw [append_mid] at h
  unfold inStampP
  rcases inNum_pre t _ N hN h with ⟨h1, h2⟩ | ⟨h1, h2, h3⟩
  · left
    rw [h2]
    refine ⟨by omega, ?_⟩
    show (if (numberP (⟨#[]⟩, 90) 1).1.2 ≠ 0 then _ else _) = _
    rw [number_bad 90 (by decide), if_pos (by decide)]
  · rw [h2]
    have e1 : (t.extract 6 t.size).size = t.size - 6 := by rw [ByteArray.size_extract]; omega
    rcases number_pre _ T U 1 (by omega) h3 with ⟨k1, k2⟩ | ⟨k1, k2, k3⟩
    · left
      refine ⟨by omega, ?_⟩
      show (if (numberP (t.extract 6 t.size, 0) 1).1.2 ≠ 0 then _ else _) = _
      rw [k2, if_pos (by decide)]
    · right
      have e2 := extract_twice t 6 1 (by omega)
      rw [e2] at k2 k3
      refine ⟨by omega, ?_, k3⟩
      show (if (numberP (t.extract 6 t.size, 0) 1).1.2 ≠ 0 then _ else _) = _
      rw [k2, if_neg (fun h => h rfl)]

theorem inStamp_bad (e : Int) (he : e ≠ 0) : inStampP (⟨#[]⟩, e) = ((⟨#[]⟩, e), (0, 0)) := by
  unfold inStampP
  rw [inNum_bad e he]
  show (if (numberP (⟨#[]⟩, e) 1).1.2 ≠ 0 then _ else _) = _
  rw [number_bad e he]
  exact if_pos he

theorem inText_pre (t T s : ByteArray) (most : Int) (hs : s.size ≤ 65535) (hm : (s.size : Int) ≤ most) (h : PreB t ((bigB (s.size : Int) 2 ++ s) ++ T)) :
    (t.size < 2 + s.size ∧ inTextP (t, 0) most = ((⟨#[]⟩, 90), ⟨#[]⟩)) ∨ (2 + s.size ≤ t.size ∧ inTextP (t, 0) most = ((t.extract (2 + s.size) t.size, 0), s) ∧ PreB (t.extract (2 + s.size) t.size) T) := by
  rw [append_mid] at h
  unfold inTextP
  rcases number_pre t _ s.size 2 (by omega) h with ⟨h1, h2⟩ | ⟨h1, h2, h3⟩
  · left
    rw [h2]
    exact ⟨by omega, if_pos (by decide)⟩
  · rw [h2]
    have e1 : (t.extract 2 t.size).size = t.size - 2 := by rw [ByteArray.size_extract]; omega
    show (_ ∧ (if (0 : Int) ≠ 0 then _ else if most < (s.size : Int) then _ else if (t.extract 2 t.size).size < s.size then (wrongP (t.extract 2 t.size, 0) 90, _) else (((t.extract 2 t.size).extract s.size (t.extract 2 t.size).size, (0 : Int)), (t.extract 2 t.size).extract 0 s.size)) = _) ∨ (_ ∧ (if (0 : Int) ≠ 0 then _ else if most < (s.size : Int) then _ else if (t.extract 2 t.size).size < s.size then (wrongP (t.extract 2 t.size, 0) 90, _) else (((t.extract 2 t.size).extract s.size (t.extract 2 t.size).size, (0 : Int)), (t.extract 2 t.size).extract 0 s.size)) = _ ∧ _)
    rw [if_neg (fun h => h rfl), if_neg (by omega)]
    by_cases hc : (t.extract 2 t.size).size < s.size
    · left
      rw [if_pos hc]
      exact ⟨by omega, rfl⟩
    · right
      rw [if_neg hc, extract_twice t 2 s.size (by omega)]
      have h4 := h3.rest s.size rfl (by omega)
      rw [extract_twice t 2 s.size (by omega)] at h4
      refine ⟨by omega, ?_, h4⟩
      have e3 : (t.extract 2 t.size).extract 0 s.size = s := by
        refine bt_ext _ _ (by rw [ByteArray.size_extract]; omega) (fun j hj => ?_)
        rw [ByteArray.size_extract] at hj
        rw [bt_extract _ 0 s.size j (by omega) (by omega), Nat.zero_add]
        exact h3.left j (by omega) (by omega)
      rw [e3]

theorem inText_bad (e : Int) (he : e ≠ 0) (most : Int) : inTextP (⟨#[]⟩, e) most = ((⟨#[]⟩, e), ⟨#[]⟩) := by
  unfold inTextP
  rw [number_bad e he]
  exact if_pos he

/-- What a part leaves; what it gives. -/
def nextP (i : ByteArray × Int) (p : Int × Int × Int × ByteArray) : ByteArray × Int :=
  if kd p = 1 then (numberP i 1).1 else if kd p = 2 then (inNumP i).1 else if kd p = 3 then (inStampP i).1 else (inTextP i 65536).1

theorem oneOk_nat (n most : Int) (h : oneOk n most = true) : ∃ N : Nat, n = (N : Int) ∧ (N : Int) ≤ most := by
  unfold oneOk at h
  rw [Bool.and_eq_true, decide_eq_true_iff, decide_eq_true_iff] at h
  exact ⟨n.toNat, by omega, by omega⟩

theorem next_pre (t T : ByteArray) (p : Int × Int × Int × ByteArray) (hok : okP p = true) (h : PreB t (encP p ++ T)) :
    (t.size < (encP p).size ∧ nextP (t, 0) p = (⟨#[]⟩, 90)) ∨ ((encP p).size ≤ t.size ∧ nextP (t, 0) p = (t.extract (encP p).size t.size, 0) ∧ PreB (t.extract (encP p).size t.size) T) := by
  unfold nextP
  unfold okP at hok
  unfold encP at h ⊢
  by_cases h1 : kd p = 1
  · simp only [if_pos h1] at hok h ⊢
    obtain ⟨N, hN, hl⟩ := oneOk_nat _ _ hok
    rw [hN] at h ⊢
    rw [bigB_size]
    rcases number_pre t T N 1 (by omega) h with ⟨k1, k2⟩ | ⟨k1, k2, k3⟩
    · left; rw [k2]; exact ⟨k1, rfl⟩
    · right; rw [k2]; exact ⟨k1, rfl, k3⟩
  · simp only [if_neg h1] at hok h ⊢
    by_cases h2 : kd p = 2
    · simp only [if_pos h2] at hok h ⊢
      obtain ⟨N, hN, hl⟩ := oneOk_nat _ _ hok
      rw [hN] at h ⊢
      rw [bigB_size]
      rcases inNum_pre t T N (by omega) h with ⟨k1, k2⟩ | ⟨k1, k2, k3⟩
      · left; rw [k2]; exact ⟨k1, rfl⟩
      · right; rw [k2]; exact ⟨k1, rfl, k3⟩
    · simp only [if_neg h2] at hok h ⊢
      by_cases h3 : kd p = 3
      · simp only [if_pos h3] at hok h ⊢
        unfold stampOk at hok
        rw [Bool.and_eq_true] at hok
        obtain ⟨N, hN, hl⟩ := oneOk_nat _ _ hok.1
        obtain ⟨U, hU, hu⟩ := oneOk_nat _ _ hok.2
        rw [hN, hU] at h ⊢
        rw [ByteArray.size_append, bigB_size, bigB_size]
        rcases inStamp_pre t T N U (by omega) (by omega) h with ⟨k1, k2⟩ | ⟨k1, k2, k3⟩
        · left; rw [k2]; exact ⟨k1, rfl⟩
        · right; rw [k2]; exact ⟨k1, rfl, k3⟩
      · simp only [if_neg h3] at hok h ⊢
        rw [decide_eq_true_iff] at hok
        rw [ByteArray.size_append, bigB_size]
        rcases inText_pre t T (ps p) 65536 hok (by omega) h with ⟨k1, k2⟩ | ⟨k1, k2, k3⟩
        · left; rw [k2]; exact ⟨k1, rfl⟩
        · right; rw [k2]; exact ⟨k1, rfl, k3⟩

theorem next_bad (e : Int) (he : e ≠ 0) (p : Int × Int × Int × ByteArray) : nextP (⟨#[]⟩, e) p = (⟨#[]⟩, e) := by
  unfold nextP
  rw [number_bad e he, inNum_bad e he, inStamp_bad e he, inText_bad e he]
  split
  · rfl
  · split
    · rfl
    · split <;> rfl

def nextA (i : ByteArray × Int) (l : List (Int × Int × Int × ByteArray)) : ByteArray × Int := l.foldl nextP i

theorem nextA_bad (e : Int) (he : e ≠ 0) (l : List (Int × Int × Int × ByteArray)) : nextA (⟨#[]⟩, e) l = (⟨#[]⟩, e) := by
  induction l with
  | nil => rfl
  | cons p l ih =>
    show nextA (nextP (⟨#[]⟩, e) p) l = _
    rw [next_bad e he]; exact ih

/-- What is cut is too short. -/
theorem nextA_cut (l : List (Int × Int × Int × ByteArray)) (t : ByteArray) (hok : ∀ p ∈ l, okP p = true) (h : PreB t (encA l)) (hlt : t.size < (encA l).size) : nextA (t, 0) l = (⟨#[]⟩, 90) := by
  induction l generalizing t with
  | nil =>
    have : (encA []).size = 0 := rfl
    omega
  | cons p l ih =>
    show nextA (nextP (t, 0) p) l = _
    have hs : (encA (p :: l)).size = (encP p).size + (encA l).size := ByteArray.size_append
    rcases next_pre t (encA l) p (hok p (List.mem_cons_self ..)) h with ⟨k1, k2⟩ | ⟨k1, k2, k3⟩
    · rw [k2]; exact nextA_bad 90 (by decide) l
    · rw [k2]
      exact ih _ (fun q hq => hok q (List.mem_cons_of_mem _ hq)) k3 (by rw [ByteArray.size_extract]; omega)

/-- What was written is read, and what stands behind it is left. -/
theorem nextA_all (l : List (Int × Int × Int × ByteArray)) (t T : ByteArray) (hok : ∀ p ∈ l, okP p = true) (h : PreB t (encA l ++ T)) (hle : (encA l).size ≤ t.size) :
    nextA (t, 0) l = (t.extract (encA l).size t.size, 0) ∧ PreB (t.extract (encA l).size t.size) T := by
  induction l generalizing t with
  | nil =>
    have e : t.extract 0 t.size = t := bt_ext _ _ (by rw [ByteArray.size_extract]; omega) (fun j hj => by
      rw [ByteArray.size_extract] at hj
      rw [bt_extract _ 0 _ j (by omega) (Nat.le_refl _), Nat.zero_add])
    have e0 : (encA []).size = 0 := rfl
    refine ⟨?_, h.rest _ rfl hle⟩
    rw [e0, e]; rfl
  | cons p l ih =>
    have hs : (encA (p :: l)).size = (encP p).size + (encA l).size := ByteArray.size_append
    have h' : PreB t (encP p ++ (encA l ++ T)) := by
      have : encA (p :: l) ++ T = encP p ++ (encA l ++ T) := append_mid _ _ _
      rw [← this]; exact h
    show nextA (nextP (t, 0) p) l = _ ∧ _
    rcases next_pre t _ p (hok p (List.mem_cons_self ..)) h' with ⟨k1, k2⟩ | ⟨k1, k2, k3⟩
    · omega
    · have e1 : (t.extract (encP p).size t.size).size = t.size - (encP p).size := by rw [ByteArray.size_extract]; omega
      obtain ⟨j1, j2⟩ := ih _ (fun q hq => hok q (List.mem_cons_of_mem _ hq)) k3 (by omega)
      rw [extract_twice t _ _ (by omega)] at j1 j2
      rw [k2, hs]
      exact ⟨j1, j2⟩

end Go.Proofs.YtkmdajenbidaaaaDoor
