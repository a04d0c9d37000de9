/-
  The laws' own helpers on IPv4 packets: a size, a copy, a comparison, a marking, a look at the marks.
-/
import Derived.Test.YtkmijefheejcjaaFourLib
import Derived.Test.YtkmijefheejcjaaInBytes
import Derived.Test.YtkmijefheejcjaaCells19
import Derived.Test.YtkmijefheejcjaaAddr
import Derived.Laws.Tables
namespace Go.Proofs.Ytkmijefheejcjaa
set_option maxRecDepth 100000
open Go.RowKit

















theorem K.setRow_own {w : World} {base : Nat} {e : TypeId} {size n : Nat} {v : Value} {xs : List Value} {g : Nat} (cs : Array Value) (h : w.ownsRow base e size v n xs) (hg : g < base) : (w.setRow g cs).ownsRow base e size v n xs :=
  own_grown (row := some g) h ⟨rfl, rfl, rfl, by simp, fun k _ hk => setRow_other w g k cs (fun e => hk (by rw [e]))⟩ (fun k hk => by have := (h.lt k hk).1; simp; omega)

theorem K.setRow_grown (w : World) (g : Nat) (cs : Array Value) : w.grownBy (w.setRow g cs) (some g) := ⟨rfl, rfl, rfl, by simp, fun k _ hk => setRow_other w g k cs (fun e => hk (by rw [e]))⟩

theorem K.setRow_below {w0 w : World} {g : Nat} (hb : Below w0.heap.size w0 w) (hg : w0.heap.size ≤ g) (cs : Array Value) : Below w0.heap.size w0 (w.setRow g cs) :=
  bgrown hb (K.setRow_grown w g cs) (fun k hk => by cases hk; exact hg)

set_option maxHeartbeats 400000 in
theorem szF_yes (A : Option Addr) (n c : Nat) (l : Int) (w : World) (h : (n : Int) ≤ l) (hl : l ≤ 1048576) :
    Calls Try.prog 97 #[.slice A n c, .int .i64 l] w fun e w' => e = .returned (.int .i64 (l - n)) ∧ w = w' := by
  go_enter Try.func97, Try.ntmps97
  go_wp2
  go_ret
  exact ⟨rfl, rfl⟩

set_option maxHeartbeats 400000 in
theorem szF_no (A : Option Addr) (n c : Nat) (l : Int) (w : World) (h : l < (n : Int)) (h0 : 0 ≤ l) (hn : n ≤ maxLen) :
    Calls Try.prog 97 #[.slice A n c, .int .i64 l] w fun e w' => e = .returned (.int .i64 (-1)) ∧ w = w' := by
  unfold maxLen at hn
  go_enter Try.func97, Try.ntmps97
  go_wp2
  go_ret
  exact ⟨rfl, rfl⟩







theorem toFn (A : Option Addr) (n c : Nat) (bs : List UInt8) (w : World) (hr : RB w w.heap.size A bs) (hl : bs.length = n) (hn : n ≤ 1048576) :
    Calls Try.prog 30 #[.slice A n c] w fun e w' => ∃ D d, e = .returned (.slice D n d) ∧ w'.ownsRow w.heap.size 5 1 (.slice D n d) n (cellsOf bs) ∧ Below w.heap.size w w' := by
  subst hl
  exact (toB A c bs w hr hn).mono fun e w' ⟨he, ho, hb⟩ => ⟨_, _, he, ho, hb⟩

/-- What a copy of a packet leaves. -/
def FourOut (x : Fh) (os bs : List UInt8) (n m : Nat) (w : World) (e : Ending) (w' : World) : Prop :=
  ∃ A c D d, e = .returned (.agg #[.int .i64 x.dscp, .int .i64 x.ecn, .int .i64 x.id, .int .i64 x.flags, .int .i64 x.frag, .int .i64 x.ttl, .int .i64 x.proto, .int .i64 x.src.k, .int .i64 x.src.a, .int .i64 x.src.b, .int .i64 x.src.c, .int .i64 x.src.d, .int .i64 x.dst.k, .int .i64 x.dst.a, .int .i64 x.dst.b, .int .i64 x.dst.c, .int .i64 x.dst.d, .slice A n c, .slice D m d]) ∧ w'.ownsRow w.heap.size 5 1 (.slice A n c) n (cellsOf os) ∧ w'.ownsRow w.heap.size 5 1 (.slice D m d) m (cellsOf bs) ∧
    (∀ k, (Value.slice A n c).ownBlock = some k → (Value.slice D m d).ownBlock ≠ some k) ∧ Below w.heap.size w w'
end Go.Proofs.Ytkmijefheejcjaa
