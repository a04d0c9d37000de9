/-
  A region that draws its order, by an invariant and by what each operation leaves, the frame written out at its end. Plain: any program.
-/
import Derived.Test.YtdndanbalmoklaaRegKept
import Derived.Test.YtdndanbalmoklaaRegThen
namespace Go.Proofs.Ytdndanbalmoklaa
set_option maxRecDepth 100000
open Go.RowKit

section
variable {P : Program} {ops : Array Oper} {Q : Exit → Act → World → Prop}
theorem wp_region_keptL {id : Nat} {a : Act} {w : World} (hm : P.follows .mixedOrders = true) (Γ : Nat → World → Value → Prop) (out : List Nat) (I : Nat → World → Prop) (R : World → World → Prop) (n : Nat) (L : List (Nat × Nat)) (hf : formB ops n out = true) (hL : dstsOf ops ops.size = L)
    (hn : a.tmps.size = n) (h0 : I 0 { w with drawn := w.drawn + 1 }) (hΓ : ∀ j w w' v, R w w' → Γ j w v → Γ j w' v)
    (hop : ∀ (j : Nat) o, ops[j]? = some o → ∀ k a' w K, (∀ t ∈ out, a'.tmps.getD t undef = a.tmps.getD t undef) → (∀ p ∈ needOf ops j, Γ p.1 w (a'.tmps.getD p.2 undef)) → k < ops.size → I k w →
      (∀ v w', Γ j w' v → R w w' → I (k + 1) w' → K (a'.put o.dst v) w') → o.wp P a' w K Q)
    (hend : ∀ (f : Nat → Value) w', (∀ p ∈ L, Γ p.1 w' (f p.1)) → I ops.size w' → Q .normal (L.foldl (fun b p => b.put (some p.2) (f p.1)) a) w') : (Code.region id ops true).wp P Q a w := by
  subst hL
  refine wp_region_kept hm Γ out I R n hf hn h0 hΓ hop ?_
  intro a' w' hsz hdf hout hrest hs hI
  have hdst : ∀ p ∈ dstsOf ops ops.size, Γ p.1 w' (a'.tmps.getD p.2 undef) ∧ p.2 < n := by
    intro p hp
    obtain ⟨_, o, h2, h3⟩ := dstsOf_mem.1 hp
    refine ⟨hs p.1 o p.2 h2 h3, ?_⟩
    have h4 := (formB_at hf h2).2.2
    exact (h4 p.2 h3).1
  obtain ⟨f, hfv⟩ : ∃ f : Nat → Value, ∀ p ∈ dstsOf ops ops.size, f p.1 = a'.tmps.getD p.2 undef := by
    refine ⟨fun j => match (ops[j]?).bind (·.dst) with | some d => a'.tmps.getD d undef | none => undef, fun p hp => ?_⟩
    obtain ⟨_, o, h2, h3⟩ := dstsOf_mem.1 hp
    simp [h2, h3]
  have E := act_eqT hsz hdf (dstsOf ops ops.size) f a hn rfl (fun p hp => ⟨(hdst p hp).2, (hfv p hp).symm⟩) (fun t ht => hrest t (fun j o ho hd => ht (j, t) (dstsOf_mem.2 ⟨(Array.getElem?_eq_some_iff.1 ho).1, o, ho, hd⟩) rfl))
  rw [E]
  exact hend f w' (fun p hp => by rw [hfv p hp]; exact (hdst p hp).1) hI
end
end Go.Proofs.Ytdndanbalmoklaa
