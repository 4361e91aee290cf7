import Derived.Test.YtfbgofbjbfidoaaDoorSha
namespace Go.Proofs.YtfbgofbjbfidoaaDoor
open Go.RowKit

/-- What stands behind a text of n bytes. -/
def zerosN (n : Nat) : Nat := (64 - (n + 9) % 64) % 64
def lenL (n : Nat) : List UInt8 := putL [((8 * n / 4294967296 : Nat) : Int), ((8 * n : Nat) : Int)] bsh
def padL (n : Nat) : List UInt8 := 128 :: (List.replicate (zerosN n) 0 ++ lenL n)
def padB (n : Nat) : ByteArray := ⟨(padL n).toArray⟩
/-- The bytes of a text with what stands behind it. -/
def fullF (s : ByteArray) (j : Nat) : Nat := if j < s.size then bt s j else ((padL s.size).getD (j - s.size) 0).toNat
def sumN (s : ByteArray) : List Nat := foldN (fullF s) bN ((s.size + 9 + zerosN s.size) / 64)

theorem abc_sum : sumN ⟨#[97, 98, 99]⟩ = [0xba7816bf, 0x8f01cfea, 0x414140de, 0x5dae2223, 0xb00361a3, 0x96177a9c, 0xb410ff61, 0xf20015ad] := by decide +kernel
end Go.Proofs.YtfbgofbjbfidoaaDoor
