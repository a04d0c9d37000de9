/-
  Ethernet frames as four integers and a body. Plain: nothing here speaks of the program.
-/
import Derived.Test.YtegpaocoepcemaaPut
import Derived.Test.YtegpaocoepcemaaBe
import Derived.Test.YtegpaocoepcemaaBytesOf
namespace Go.Proofs.Ytegpaocoepcemaa
open Go.RowKit

/-- The head of a frame: Dst, Src, Tag, Kind. -/
structure Eh where
  d : Int
  s : Int
  t : Int
  k : Int
deriving DecidableEq

def Eh.zero : Eh := ⟨0, 0, 0, 0⟩
def Eh.head (x : Eh) : Int := if x.t = -1 then 14 else 18
def macOk (n : Int) : Bool := decide (0 ≤ n ∧ n ≤ 281474976710655)
def kindOk (n : Int) : Bool := decide (1536 ≤ n ∧ n ≤ 65535 ∧ n ≠ 33024)
def tagOk (n : Int) : Bool := decide (-1 ≤ n ∧ n ≤ 65535)
/-- Is a frame with this head and n bytes of a body valid? -/
def Eh.ok (x : Eh) (n : Nat) : Bool := macOk x.d && macOk x.s && tagOk x.t && kindOk x.k && decide ((n : Int) ≤ 1600 - x.head)
theorem Eh.ok_iff (x : Eh) (n : Nat) : x.ok n = true ↔ (0 ≤ x.d ∧ x.d ≤ 281474976710655) ∧ (0 ≤ x.s ∧ x.s ≤ 281474976710655) ∧ (-1 ≤ x.t ∧ x.t ≤ 65535) ∧ (1536 ≤ x.k ∧ x.k ≤ 65535 ∧ x.k ≠ 33024) ∧ (n : Int) ≤ 1600 - x.head := by
  simp only [Eh.ok, macOk, tagOk, kindOk, Bool.and_eq_true, decide_eq_true_eq, and_assoc]
/-- The six bytes of an address. -/
def mac (n : Int) : List UInt8 := put16 (n / 4294967296) ++ put32 n
/-- The bytes of a head. -/
def Eh.top (x : Eh) : List UInt8 := mac x.d ++ mac x.s ++ (if x.t = -1 then [] else put16 33024 ++ put16 x.t) ++ put16 x.k
def Eh.bytes (x : Eh) (bs : List UInt8) : List UInt8 := if x.ok bs.length then x.top ++ bs else []
theorem mac_length (n : Int) : (mac n).length = 6 := rfl
theorem Eh.top_length (x : Eh) : (x.top.length : Int) = x.head := by
  unfold Eh.top Eh.head
  split <;> simp [mac, put16, put32]
theorem Eh.bytes_length (x : Eh) (bs : List UInt8) : (x.bytes bs).length ≤ 1600 := by
  unfold Eh.bytes
  split
  · rename_i h
    have h1 := x.top_length
    have h2 := ((x.ok_iff bs.length).1 h).2.2.2.2
    rw [List.length_append]
    omega
  · simp
end Go.Proofs.Ytegpaocoepcemaa
