/-
  The laws' own helpers on IPv4 packets: a size, a copy, a comparison, a marking, a look at the marks.
-/
import Derived.Test.YthfmjnebpdhdfaaFourLib
import Derived.Test.YthfmjnebpdhdfaaInBytes
import Derived.Test.YthfmjnebpdhdfaaCells19
import Derived.Test.YthfmjnebpdhdfaaAddr
import Derived.Laws.Tables
namespace Go.Proofs.Ythfmjnebpdhdfaa
set_option maxRecDepth 100000
open Go.RowKit

















theorem K.setRow_own {w : World} {base : Nat} {e : TypeId} {size n : Nat} {v : Value} {xs : List Value} {g : Nat} (cs : Array Value) (h : w.ownsRow base e size v n xs) (hg : g < base) : (w.setRow g cs).ownsRow base e size v n xs :=
  own_grown (row := some g) h ⟨rfl, rfl, rfl, by simp, fun k _ hk => setRow_other w g k cs (fun e => hk (by rw [e]))⟩ (fun k hk => by have := (h.lt k hk).1; simp; omega)

theorem K.setRow_grown (w : World) (g : Nat) (cs : Array Value) : w.grownBy (w.setRow g cs) (some g) := ⟨rfl, rfl, rfl, by simp, fun k _ hk => setRow_other w g k cs (fun e => hk (by rw [e]))⟩

theorem K.setRow_below {w0 w : World} {g : Nat} (hb : Below w0.heap.size w0 w) (hg : w0.heap.size ≤ g) (cs : Array Value) : Below w0.heap.size w0 (w.setRow g cs) :=
  bgrown hb (K.setRow_grown w g cs) (fun k hk => by cases hk; exact hg)













/-- What a copy of a packet leaves. -/
def FourOut (x : Fh) (os bs : List UInt8) (n m : Nat) (w : World) (e : Ending) (w' : World) : Prop :=
  ∃ A c D d, e = .returned (.agg #[.int .i64 x.dscp, .int .i64 x.ecn, .int .i64 x.id, .int .i64 x.flags, .int .i64 x.frag, .int .i64 x.ttl, .int .i64 x.proto, .int .i64 x.src.k, .int .i64 x.src.a, .int .i64 x.src.b, .int .i64 x.src.c, .int .i64 x.src.d, .int .i64 x.dst.k, .int .i64 x.dst.a, .int .i64 x.dst.b, .int .i64 x.dst.c, .int .i64 x.dst.d, .slice A n c, .slice D m d]) ∧ w'.ownsRow w.heap.size 5 1 (.slice A n c) n (cellsOf os) ∧ w'.ownsRow w.heap.size 5 1 (.slice D m d) m (cellsOf bs) ∧
    (∀ k, (Value.slice A n c).ownBlock = some k → (Value.slice D m d).ownBlock ≠ some k) ∧ Below w.heap.size w w'
end Go.Proofs.Ythfmjnebpdhdfaa
