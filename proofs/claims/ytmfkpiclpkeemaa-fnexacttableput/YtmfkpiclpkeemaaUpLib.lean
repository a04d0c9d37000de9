/-
  Upper layers as eleven integers, a bool, options and a body. Plain: nothing here speaks of the program.
-/
import Derived.Test.YtmfkpiclpkeemaaFourLib
namespace Go.Proofs.Ytmfkpiclpkeemaa
set_option maxRecDepth 100000
open Go.RowKit

/-- An upper layer, but for its options and its body. -/
structure Uh where
  kind : Int
  sport : Int
  dport : Int
  seq : Int
  ack : Int
  bits : Int
  window : Int
  urgent : Int
  ty : Int
  code : Int
  rest : Int
  nosum : Bool
deriving DecidableEq
def Uh.zero : Uh := ⟨0, 0, 0, 0, 0, 0, 0, 0, 0, 0, 0, false⟩
/-- The size of an upper layer with o bytes of options and n of a body. -/
def Uh.size (x : Uh) (o n : Nat) : Int := if x.kind = 0 then n else if x.kind = 1 then 20 + o + n else if x.kind = 2 then 8 + n else if x.kind = 3 then 8 + n else -1
/-- Are two addresses valid and of one kind? -/
def pairA (x y : Ad) : Bool := x.ok && y.ok && decide (x.k = y.k)
/-- The bytes of the pseudo header. -/
def psBytes (x y : Ad) (p s : Int) : List UInt8 := x.bytes ++ y.bytes ++ (if x.k = 4 then [0, byteOf p] ++ put16 s else put32 s ++ [0, 0, 0, byteOf p])
def psSum (x y : Ad) (p s : Int) : Int := if pairA x y && upTo p 255 && upTo s 1500 then onesSum (psBytes x y p s) else -1
theorem psSum_no {x y : Ad} {p s : Int} (h : (pairA x y && upTo p 255 && upTo s 1500) = false) : psSum x y p s = -1 := by simp [psSum, h]
theorem psSum_yes {x y : Ad} {p s : Int} (h : (pairA x y && upTo p 255 && upTo s 1500) = true) : psSum x y p s = onesSum (psBytes x y p s) := by simp [psSum, h]
end Go.Proofs.Ytmfkpiclpkeemaa
