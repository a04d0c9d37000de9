/-
  A region that draws its order, the first operations of which leave a value each, or a slice of bytes that can be read or is owned, and touch nothing that was there before; the others follow in their order. Plain: any program.
-/
import Derived.Test.YtmfkpiclpkeemaaRegThen
import Derived.Test.YtmfkpiclpkeemaaBytesOf
namespace Go.Proofs.Ytmfkpiclpkeemaa
set_option maxRecDepth 100000
open Go.RowKit

/-- What an operation leaves: a value; a slice of n bytes that reads as bs; one that is the call's own; anything. -/
inductive Fo where
  | val (v : Value)
  | rb (n : Nat) (bs : List UInt8)
  | own (b n : Nat) (bs : List UInt8)
  | any
def Fo.holds : Fo → World → Value → Prop
  | .val u, _, v => v = u
  | .rb n bs, w, v => ∃ A c, v = .slice A n c ∧ RB w w.heap.size A bs
  | .own b n bs, w, v => ∃ A c, v = .slice A n c ∧ w.ownsRow b 5 1 (.slice A n c) n (cellsOf bs)
  | .any, _, _ => True
theorem Fo.on {w w' : World} (hb : Below w.heap.size w w') (f : Fo) (v : Value) (h : f.holds w v) : f.holds w' v := by
  cases f with
  | val u => exact h
  | rb n bs =>
    obtain ⟨A, c, e, r⟩ := h
    exact ⟨A, c, e, (r.below hb).more hb.size⟩
  | own b n bs =>
    obtain ⟨A, c, e, r⟩ := h
    exact ⟨A, c, e, own_below r hb⟩
  | any => trivial

section
variable {P : Program} {ops : Array Oper} {Q : Exit → Act → World → Prop}
theorem wp_region_owns {id : Nat} {a : Act} {w : World} (hmx : P.follows .mixedOrders = true) (k n : Nat) (L : List (Nat × Nat)) (R : List Oper) (F : List Fo) (hf : thenB ops n k = true) (hL : dstsOf ops k = L) (hR : ops.toList.drop k = R) (hn : a.tmps.size = n)
    (hop : ∀ (j : Nat) o, j < k → ops[j]? = some o → ∀ a' v K, (∀ t, (∀ p ∈ L, p.2 ≠ t) → a'.tmps.getD t undef = a.tmps.getD t undef) → (∀ p ∈ needOf ops j, (F.getD p.1 .any).holds v (a'.tmps.getD p.2 undef)) → Below w.heap.size w v →
      (∀ u v', (F.getD j .any).holds v' u → Below v.heap.size v v' → K (a'.put o.dst u) v') → o.wp P a' v K Q)
    (hend : ∀ (f : Nat → Value) v, (∀ p ∈ L, (F.getD p.1 .any).holds v (f p.1)) → Below w.heap.size w v → wpList P ops Q R (L.foldl (fun b p => b.put (some p.2) (f p.1)) a) v) : (Code.region id ops true).wp P Q a w := by
  refine wp_region_then hmx k n L R hf hL hR (fun j v u => (F.getD j .any).holds v u) (fun v => Below w.heap.size w v) hn ⟨rfl, rfl, rfl, Nat.le_refl _, fun _ _ => rfl⟩ ?_ (fun f v hf hB => hend f v hf hB)
  intro j o hj ho a' v K hk hnd hB hK
  exact hop j o hj ho a' v K hk hnd hB (fun u v' hu hb => hK u v' hu (fun i x hx => Fo.on hb _ _ hx) (bthen hB hb))
theorem owns_of {j : Nat} {F : List Fo} {v : World} {a' : Act} (hnd : ∀ p ∈ needOf ops j, (F.getD p.1 .any).holds v (a'.tmps.getD p.2 undef)) (i t : Nat) (h : (needOf ops j).contains (i, t) = true) : (F.getD i .any).holds v (a'.eval (.tmp t)) :=
  hnd (i, t) (by simpa using h)
end
end Go.Proofs.Ytmfkpiclpkeemaa
