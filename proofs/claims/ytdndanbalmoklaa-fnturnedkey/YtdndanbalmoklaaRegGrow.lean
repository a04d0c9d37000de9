/-
  A region that draws its order, one of the first operations of which (p) makes one row grow; what the others leave holds on beside that. Plain: any program.
-/
import Derived.Test.YtdndanbalmoklaaRegThenP
import Derived.Test.YtdndanbalmoklaaBytesOf
namespace Go.Proofs.Ytdndanbalmoklaa
set_option maxRecDepth 100000
open Go.RowKit

/-- What an operation leaves: a value; something that holds on while nothing old is turned but the row blk; anything. -/
inductive Fq (blk : Option Nat) where
  | val (v : Value)
  | pr (f : World → Value → Prop) (h1 : ∀ w w' v, Below w.heap.size w w' → f w v → f w' v) (h2 : ∀ w w' v, w.grownBy w' blk → f w v → f w' v)
  | any
def Fq.holds {blk : Option Nat} : Fq blk → World → Value → Prop
  | .val u, _, v => v = u
  | .pr f _ _, w, v => f w v
  | .any, _, _ => True
theorem Fq.on {blk : Option Nat} {w w' : World} (hb : Below w.heap.size w w') (f : Fq blk) (v : Value) (h : f.holds w v) : f.holds w' v := by
  cases f with
  | val u => exact h
  | pr f k _ => exact k w w' v hb h
  | any => trivial
theorem Fq.grown {blk : Option Nat} {w w' : World} (hb : w.grownBy w' blk) (f : Fq blk) (v : Value) (h : f.holds w v) : f.holds w' v := by
  cases f with
  | val u => exact h
  | pr f _ k => exact k w w' v hb h
  | any => trivial

section
variable {P : Program} {ops : Array Oper} {Q : Exit → Act → World → Prop}
theorem wp_region_grow {id : Nat} {a : Act} {w : World} (blk : Option Nat) (hmx : P.follows .mixedOrders = true) (k n : Nat) (L : List (Nat × Nat)) (R : List Oper) (F : List (Fq blk)) (hf : thenB ops n k = true) (hL : dstsOf ops k = L) (hR : ops.toList.drop k = R) (p dp : Nat) (hpk : p < k) (hpL : (p, dp) ∈ L) (hn : a.tmps.size = n)
    (J : Bool → World → Prop) (hJ : ∀ b v v', Below v.heap.size v v' → J b v → J b v') (h0 : J false { w with drawn := w.drawn + 1 }) (G : World → Value → Prop) (hG : ∀ v v' u, Below v.heap.size v v' → G v u → G v' u)
    (hop : ∀ (j : Nat) o, j < k → j ≠ p → ops[j]? = some o → ∀ b a' v K, ((markOf ops (p + 1) [p]).contains j = true → b = false) → (∀ t, (∀ q ∈ L, q.2 ≠ t) → a'.tmps.getD t undef = a.tmps.getD t undef) → (∀ q ∈ needOf ops j, q.1 ≠ p → (F.getD q.1 .any).holds v (a'.tmps.getD q.2 undef)) → J b v →
      (∀ u v', (F.getD j .any).holds v' u → Below v.heap.size v v' → K (a'.put o.dst u) v') → o.wp P a' v K Q)
    (hpp : ∀ o, ops[p]? = some o → ∀ a' v K, (∀ t, (∀ q ∈ L, q.2 ≠ t) → a'.tmps.getD t undef = a.tmps.getD t undef) → (∀ q ∈ needOf ops p, q.1 ≠ p → (F.getD q.1 .any).holds v (a'.tmps.getD q.2 undef)) → J false v →
      (∀ u v', G v' u → v.grownBy v' blk → J true v' → K (a'.put o.dst u) v') → o.wp P a' v K Q)
    (hend : ∀ (f : Nat → Value) v, (∀ q ∈ L, q.1 ≠ p → (F.getD q.1 .any).holds v (f q.1)) → G v (f p) → J true v → wpList P ops Q R (L.foldl (fun b q => b.put (some q.2) (f q.1)) a) v) : (Code.region id ops true).wp P Q a w := by
  refine wp_region_thenP hmx k n L R hf hL hR (fun j b v u => if j = p then (b = true → G v u) else (F.getD j .any).holds v u) J p hpk hn h0 ?_ ?_ ?_
  · intro j o hj hjp ho b a' v K hc hk hnd hI hK
    refine hop j o hj hjp ho b a' v K hc hk (fun q hq hqp => by have := hnd q hq; rwa [if_neg hqp] at this) hI (fun u v' hu hb => hK u v' (by rw [if_neg hjp]; exact hu) (fun i x hx => ?_) (hJ b v v' hb hI))
    by_cases hip : i = p
    · rw [if_pos hip] at hx ⊢
      exact fun e => hG v v' x hb (hx e)
    · rw [if_neg hip] at hx ⊢
      exact Fq.on hb _ _ hx
  · intro o ho a' v K hk hnd hI hK
    refine hpp o ho a' v K hk (fun q hq hqp => by have := hnd q hq; rwa [if_neg hqp] at this) hI (fun u v' hu hg hJ' => hK u v' (by rw [if_pos rfl]; exact fun _ => hu) (fun i x hip hx => ?_) hJ')
    rw [if_neg hip] at hx ⊢
    exact Fq.grown hg _ _ hx
  · intro f v hf' hI
    have hp := hf' (p, dp) hpL
    simp only [if_true] at hp
    exact hend f v (fun q hq hqp => by have := hf' q hq; rwa [if_neg hqp] at this) (hp trivial) hI
theorem grow_of {blk : Option Nat} {j p : Nat} {F : List (Fq blk)} {v : World} {a' : Act} (hnd : ∀ q ∈ needOf ops j, q.1 ≠ p → (F.getD q.1 .any).holds v (a'.tmps.getD q.2 undef)) (i t : Nat) (h : (needOf ops j).contains (i, t) = true) (hi : i ≠ p) : (F.getD i .any).holds v (a'.eval (.tmp t)) :=
  hnd (i, t) (by simpa using h) hi
end
end Go.Proofs.Ytdndanbalmoklaa
