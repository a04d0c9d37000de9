/-
  IPv4 packets as seven integers, two addresses, options and a body. Plain: nothing here speaks of the program.
-/
import Derived.Test.YtmfkpiclpkeemaaAddrLib
import Derived.Test.YtmfkpiclpkeemaaSum
import Derived.Test.YtmfkpiclpkeemaaBytesOf
namespace Go.Proofs.Ytmfkpiclpkeemaa
set_option maxRecDepth 100000
open Go.RowKit

/-- The head of a packet, but for its options. -/
structure Fh where
  dscp : Int
  ecn : Int
  id : Int
  flags : Int
  frag : Int
  ttl : Int
  proto : Int
  src : Ad
  dst : Ad
deriving DecidableEq

def Fh.zero : Fh := ⟨0, 0, 0, 0, 0, 0, 0, Ad.zero, Ad.zero⟩
def upTo (n hi : Int) : Bool := decide (0 ≤ n ∧ n ≤ hi)
theorem upTo_iff {n hi : Int} : upTo n hi = true ↔ 0 ≤ n ∧ n ≤ hi := by simp [upTo]
def adOk4 (x : Ad) : Bool := decide (x.k = 4) && x.ok
def optOk (o : Nat) : Bool := decide (o ≤ 40 ∧ o % 4 = 0)
/-- The seven integers are in their ranges. -/
def Fh.small (x : Fh) : Bool := upTo x.dscp 63 && upTo x.ecn 3 && upTo x.id 65535 && upTo x.flags 7 && upTo x.frag 8191 && upTo x.ttl 255 && upTo x.proto 255
/-- Is a packet with this head, o bytes of options and n bytes of a body valid? -/
def Fh.ok (x : Fh) (o n : Nat) : Bool := x.small && adOk4 x.src && adOk4 x.dst && optOk o && decide ((n : Int) ≤ 1480 - o)
theorem adOk4_iff {x : Ad} : adOk4 x = true ↔ x.k = 4 ∧ x.a = 0 ∧ x.b = 0 ∧ x.c = 0 ∧ 0 ≤ x.d ∧ x.d ≤ 4294967295 := by
  simp only [adOk4, Bool.and_eq_true, decide_eq_true_eq, Ad.ok_iff]
  omega
theorem Fh.small_iff (x : Fh) : x.small = true ↔ (0 ≤ x.dscp ∧ x.dscp ≤ 63) ∧ (0 ≤ x.ecn ∧ x.ecn ≤ 3) ∧ (0 ≤ x.id ∧ x.id ≤ 65535) ∧ (0 ≤ x.flags ∧ x.flags ≤ 7) ∧ (0 ≤ x.frag ∧ x.frag ≤ 8191) ∧ (0 ≤ x.ttl ∧ x.ttl ≤ 255) ∧ (0 ≤ x.proto ∧ x.proto ≤ 255) := by
  simp only [Fh.small, upTo, Bool.and_eq_true, decide_eq_true_eq, and_assoc]
theorem Fh.ok_iff (x : Fh) (o n : Nat) : x.ok o n = true ↔ ((0 ≤ x.dscp ∧ x.dscp ≤ 63) ∧ (0 ≤ x.ecn ∧ x.ecn ≤ 3) ∧ (0 ≤ x.id ∧ x.id ≤ 65535) ∧ (0 ≤ x.flags ∧ x.flags ≤ 7) ∧ (0 ≤ x.frag ∧ x.frag ≤ 8191) ∧ (0 ≤ x.ttl ∧ x.ttl ≤ 255) ∧ (0 ≤ x.proto ∧ x.proto ≤ 255)) ∧
    adOk4 x.src = true ∧ adOk4 x.dst = true ∧ (o ≤ 40 ∧ o % 4 = 0) ∧ (n : Int) ≤ 1480 - o := by
  simp only [Fh.ok, optOk, Bool.and_eq_true, decide_eq_true_eq, and_assoc, Fh.small_iff]
/-- The bytes of a head with a checksum, over options and the length of a body. -/
def Fh.head (x : Fh) (sum : Int) (os : List UInt8) (n : Nat) : List UInt8 :=
  [byteOf (69 + (os.length : Int) / 4), byteOf (4 * x.dscp + x.ecn)] ++ put16 (20 + os.length + n) ++ put16 x.id ++ put16 (8192 * x.flags + x.frag) ++ [byteOf x.ttl, byteOf x.proto] ++ put16 sum ++ put32 x.src.d ++ put32 x.dst.d ++ os
def Fh.sum (x : Fh) (os : List UInt8) (n : Nat) : Int := if x.ok os.length n then checksum (x.head 0 os n) else -1
def Fh.bytes (x : Fh) (os bs : List UInt8) : List UInt8 := if x.ok os.length bs.length then x.head (x.sum os bs.length) os bs.length ++ bs else []
theorem Fh.head_length (x : Fh) (sum : Int) (os : List UInt8) (n : Nat) : (x.head sum os n).length = 20 + os.length := by
  simp [Fh.head, put16, put32]; omega
theorem Fh.bytes_length (x : Fh) (os bs : List UInt8) : (x.bytes os bs).length ≤ 1500 := by
  unfold Fh.bytes
  split
  · rename_i h
    have h2 := ((x.ok_iff os.length bs.length).1 h).2.2.2
    rw [List.length_append, Fh.head_length]
    omega
  · simp
theorem adOk4_bytes {x : Ad} (h : adOk4 x = true) : x.bytes = put32 x.d := by
  have h2 := adOk4_iff.1 h
  have h3 : x.ok = true := by simp only [adOk4, Bool.and_eq_true] at h; exact h.2
  simp [Ad.bytes, h3, h2.1]
def Fh.piece (x : Fh) (o n : Nat) : Bool := x.ok o n && decide (x.frag ≠ 0 ∨ x.flags % 2 = 1)
end Go.Proofs.Ytmfkpiclpkeemaa
