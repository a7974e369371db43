/- ChaCha20 as plain reckoning on words of 32 bits: no program. -/
import Derived.Test.YtjfhggcjdckfgaaDoorGA
namespace Go.Proofs.YtjfhggcjdckfgaaDoor
set_option maxRecDepth 100000
namespace Sm.Sr
set_option linter.unusedSimpArgs false
set_option linter.unusedVariables false
open Go.RowKit

def rol (x : BitVec 32) (s : Nat) : BitVec 32 := x <<< s ||| x >>> (32 - s)
structure Qu where
  a : BitVec 32
  b : BitVec 32
  c : BitVec 32
  d : BitVec 32
/-- half a quarter round, turned by m and n -/
def half (q : Qu) (m n : Nat) : Qu :=
  let a := q.a + q.b
  let d := rol (q.d ^^^ a) m
  let c := q.c + d
  ⟨a, rol (q.b ^^^ c) n, c, d⟩
/-- a quarter round -/
def quart (q : Qu) : Qu := half (half q 16 12) 8 7
def Qu.at (q : Qu) : Nat → BitVec 32
  | 0 => q.a
  | 1 => q.b
  | 2 => q.c
  | _ => q.d
/-- four words of sixteen, of diagonal i (shift 1) or column i (shift 0) -/
def four (f : Nat → BitVec 32) (sh i : Nat) : Qu := ⟨f i, f (4 + (i + sh) % 4), f (8 + (i + 2 * sh) % 4), f (12 + (i + 3 * sh) % 4)⟩
/-- all four columns, or all four diagonals -/
def rnd (sh : Nat) (f : Nat → BitVec 32) : Nat → BitVec 32 := fun j => (quart (four f sh ((j % 4 + (4 - sh) * (j / 4)) % 4))).at (j / 4)
/-- n rounds of columns and diagonals -/
def rnds (f : Nat → BitVec 32) : Nat → Nat → BitVec 32
  | 0 => f
  | n + 1 => rnd 1 (rnd 0 (rnds f n))
/-- all rounds, and what was laid added again -/
def mixd (f : Nat → BitVec 32) : Nat → BitVec 32 := fun j => rnds f 10 j + f j
def byteAt (s : ByteArray) (i : Nat) : UInt8 := s.data.toList.getD i 0
/-- a word of four bytes, the smallest first -/
def word4 (a b c d : UInt8) : BitVec 32 := BitVec.ofNat 32 a.toNat ||| BitVec.ofNat 32 b.toNat <<< 8 ||| BitVec.ofNat 32 c.toNat <<< 16 ||| BitVec.ofNat 32 d.toNat <<< 24
def wordAt (s : ByteArray) (i : Nat) : BitVec 32 := word4 (byteAt s (4 * i)) (byteAt s (4 * i + 1)) (byteAt s (4 * i + 2)) (byteAt s (4 * i + 3))
/-- what is laid, with the number n -/
def laidF (key nonce : ByteArray) (n : BitVec 32) : Nat → BitVec 32 := fun j =>
  if j = 0 then 1634760805#32 else if j = 1 then 857760878#32 else if j = 2 then 2036477234#32 else if j = 3 then 1797285236#32
  else if j < 12 then wordAt key (j - 4) else if j = 12 then n else wordAt nonce (j - 13)
/-- a byte of words -/
def byteOf (f : Nat → BitVec 32) (i : Nat) : Int := lowb (f (i / 4) >>> (8 * (i % 4)))
/-- the bytes of sixteen words -/
def bytesOf (f : Nat → BitVec 32) : List Int := (List.range 64).map (byteOf f)
/-- a block's bytes -/
def blockOf (key : ByteArray) (n : BitVec 32) (nonce : ByteArray) : List Int := bytesOf (mixd (laidF key nonce n))
theorem blockOf_length (key : ByteArray) (n : BitVec 32) (nonce : ByteArray) : (blockOf key n nonce).length = 64 := by simp [blockOf, bytesOf]
end Sm.Sr
end Go.Proofs.YtjfhggcjdckfgaaDoor
