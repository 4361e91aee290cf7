import Derived.Test.YtfajkkjppelgcaaL5
import Derived.Test.YtfajkkjppelgcaaR6
import Derived.Test.YtfajkkjppelgcaaR5
import Derived.BigQuiet
/- Sealing on plain bytes: nothing of the program. -/
namespace Go.Proofs.Ytfajkkjppelgcaa
open Go.RowKit
set_option maxRecDepth 100000
set_option linter.unusedSimpArgs false

/-- How many noughts are wanted up to a multiple of 16. -/
def fillA (n : Nat) : Nat := (16 - n % 16) % 16
def fillB (s : ByteArray) : ByteArray := s ++ zeroB (fillA s.size)
theorem fillB_size (s : ByteArray) : (fillB s).size = s.size + fillA s.size := by
  unfold fillB; rw [ByteArray.size_append, zeroB_size]
theorem fillA_lt (n : Nat) : fillA n < 16 := Nat.mod_lt _ (by decide)
theorem zeroB_snoc (k : Nat) : zeroB k ++ ⟨#[0]⟩ = zeroB (k + 1) := by
  apply bytes_ext
  unfold zeroB
  rw [ByteArray.data_append, Array.toList_append, List.toList_toArray, List.toList_toArray, List.replicate_succ']
theorem fill_more (s : ByteArray) (k : Nat) : (s ++ zeroB k) ++ ⟨#[0]⟩ = s ++ zeroB (k + 1) := by
  rw [ByteArray.append_assoc, zeroB_snoc]
theorem zeroB_none (s : ByteArray) : s ++ zeroB 0 = s := by
  apply bytes_ext
  rw [ByteArray.data_append, Array.toList_append]
  show s.data.toList ++ [] = _
  rw [List.append_nil]
/-- Two lengths, as eight bytes each. -/
def lensB (a b : Nat) : ByteArray := ⟨(putL [(a : Int), 0, (b : Int), 0] ssh).toArray⟩
theorem lensB_size (a b : Nat) : (lensB a b).size = 16 := by unfold lensB; rw [put_size]; rfl
/-- What is summed. -/
def macText (b c : ByteArray) : ByteArray := (fillB b ++ fillB c) ++ lensB b.size c.size
theorem macText_size (b c : ByteArray) : (macText b c).size = b.size + fillA b.size + (c.size + fillA c.size) + 16 := by
  unfold macText; rw [ByteArray.size_append, ByteArray.size_append, fillB_size, fillB_size, lensB_size]
theorem macText_le (b c : ByteArray) (h : b.size + c.size ≤ 65000) : (macText b c).size ≤ 65536 := by
  rw [macText_size]
  have h1 := fillA_lt b.size
  have h2 := fillA_lt c.size
  omega
/-- The key of the tag; the tag; what is sealed. -/
def keyA (key nonce : ByteArray) : ByteArray := (blockB key nonce 0).extract 0 32
theorem keyA_size (key nonce : ByteArray) : (keyA key nonce).size = 32 := by unfold keyA; rw [ByteArray.size_extract, blockB_size]; rfl
def tagA (key nonce b c : ByteArray) : ByteArray := tagB (keyA key nonce) (macText b c)
theorem tagA_size (key nonce b c : ByteArray) : (tagA key nonce b c).size = 16 := tagB_size _ _
def sealB (key nonce b s : ByteArray) : ByteArray := streamB key nonce 1 s ++ tagA key nonce b (streamB key nonce 1 s)
theorem sealB_size (key nonce b s : ByteArray) : (sealB key nonce b s).size = s.size + 16 := by
  unfold sealB; rw [ByteArray.size_append, streamB_size, tagA_size]
theorem extract_front (a b : ByteArray) (n : Nat) (h : a.size = n) : (a ++ b).extract 0 n = a := by
  have e : ((a ++ b).extract 0 n).size = a.size := by rw [ByteArray.size_extract, ByteArray.size_append]; omega
  refine bt_ext _ _ e (fun i hi => ?_)
  rw [e] at hi
  rw [bt_extract _ 0 n i (by omega) (by rw [ByteArray.size_append]; omega), Nat.zero_add, bt_append_left _ _ _ hi]
theorem extract_back (a b : ByteArray) (n m : Nat) (h : a.size = n) (hm : m = n + b.size) : (a ++ b).extract n m = b := by
  have e : ((a ++ b).extract n m).size = b.size := by rw [ByteArray.size_extract, ByteArray.size_append]; omega
  refine bt_ext _ _ e (fun i hi => ?_)
  rw [e] at hi
  rw [bt_extract _ n m i (by omega) (by rw [ByteArray.size_append]; omega), ← h, bt_append_right]
/-- May a key, a nonce, and texts of so many bytes be? -/
def MayA (key nonce : ByteArray) (a b : Nat) : Prop := key.size = 32 ∧ nonce.size = 12 ∧ a + b ≤ 32768
theorem MayA.fits {key nonce : ByteArray} {a b : Nat} (h : MayA key nonce a b) (c : Nat) (hc : c < 4294967296) : Fits key nonce (c : Int) := ⟨h.1, h.2.1, by omega, by omega⟩
/-- What Open makes of a text that may be. -/
def cutA (t : ByteArray) : Nat := t.size - 16
def OpensA (key nonce b t : ByteArray) : Prop := 16 ≤ t.size ∧ tagA key nonce b (t.extract 0 (cutA t)) = t.extract (cutA t) t.size
theorem opens_seal (key nonce b s : ByteArray) : OpensA key nonce b (sealB key nonce b s) ∧ streamB key nonce 1 ((sealB key nonce b s).extract 0 (cutA (sealB key nonce b s))) = s := by
  have hz := sealB_size key nonce b s
  have hc : cutA (sealB key nonce b s) = s.size := by unfold cutA; omega
  have h1 : (sealB key nonce b s).extract 0 s.size = streamB key nonce 1 s := extract_front _ _ _ (streamB_size _ _ _ _)
  have h2 : (sealB key nonce b s).extract s.size (sealB key nonce b s).size = tagA key nonce b (streamB key nonce 1 s) := extract_back _ _ _ _ (streamB_size _ _ _ _) (by rw [hz, tagA_size])
  unfold OpensA
  rw [hc, h1, h2, streamB_back]
  exact ⟨⟨by omega, rfl⟩, rfl⟩
end Go.Proofs.Ytfajkkjppelgcaa

/- The document's filled, may. -/
namespace Go.Proofs.Ytfajkkjppelgcaa
open Go.RowKit
set_option maxRecDepth 100000
set_option linter.unusedSimpArgs false

def sizeOfV : Value → Nat
  | .string s => s.size
  | _ => 0

end Go.Proofs.Ytfajkkjppelgcaa

/- The document's Tag. -/
namespace Go.Proofs.Ytfajkkjppelgcaa
open Go.RowKit
set_option maxRecDepth 100000
set_option linter.unusedSimpArgs false

end Go.Proofs.Ytfajkkjppelgcaa

/- The document's Seal. -/
namespace Go.Proofs.Ytfajkkjppelgcaa
open Go.RowKit
set_option maxRecDepth 100000
set_option linter.unusedSimpArgs false

end Go.Proofs.Ytfajkkjppelgcaa

/- The document's Open. -/
namespace Go.Proofs.Ytfajkkjppelgcaa
open Go.RowKit
set_option maxRecDepth 100000
set_option linter.unusedSimpArgs false

end Go.Proofs.Ytfajkkjppelgcaa

/- The document's Open, of a text that has a tag. -/
namespace Go.Proofs.Ytfajkkjppelgcaa
open Go.RowKit
set_option maxRecDepth 100000
set_option linter.unusedSimpArgs false

end Go.Proofs.Ytfajkkjppelgcaa
