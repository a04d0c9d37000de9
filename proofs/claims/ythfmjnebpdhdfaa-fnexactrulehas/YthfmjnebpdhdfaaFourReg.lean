/-
  The region in which the laws compare a packet with a new copy: it draws its order.
-/
import Derived.Test.YthfmjnebpdhdfaaFour2
import Derived.Test.YthfmjnebpdhdfaaFour3
import Derived.Test.YthfmjnebpdhdfaaRegSteps
import Derived.Deep.WholeRow
namespace Go.Proofs.Ythfmjnebpdhdfaa
set_option maxRecDepth 100000
open Go.RowKit



theorem getD_set (l : Array Value) (j i : Nat) (v : Value) (hj : j < l.size) : (l.setIfInBounds j v).getD i undef = if i = j then v else l.getD i undef := by
  by_cases h : i = j
  · subst h
    simp [hj]
  · rw [if_neg h]
    simp only [Array.getD_eq_getD_getElem?, Array.getElem?_setIfInBounds, Ne.symm h, if_false]
theorem ext_getD {l m : Array Value} (hs : l.size = m.size) (h : ∀ i, l.getD i undef = m.getD i undef) : l = m := by
  apply Array.ext hs
  intro i h1 h2
  have := h i
  simpa [h1, h2] using this

/-- A frame of which all slots but five are known is the old one with these five written. -/
theorem act_eq5 {a a' : Act} {n : Nat} (d : Nat) (hsz : a'.tmps.size = n) (hn : a.tmps.size = n) (hdf : a'.defers = a.defers) (hd : d + 5 ≤ n)
    (h : ∀ t, t ≠ d → t ≠ d + 1 → t ≠ d + 2 → t ≠ d + 3 → t ≠ d + 4 → a'.tmps.getD t undef = a.tmps.getD t undef) (v0 v1 v2 v3 v4 : Value) (g0 : a'.tmps.getD d undef = v0) (g1 : a'.tmps.getD (d + 1) undef = v1) (g2 : a'.tmps.getD (d + 2) undef = v2) (g3 : a'.tmps.getD (d + 3) undef = v3) (g4 : a'.tmps.getD (d + 4) undef = v4) :
    a' = ((((a.put (some d) v0).put (some (d + 1)) v1).put (some (d + 2)) v2).put (some (d + 3)) v3).put (some (d + 4)) v4 := by
  obtain ⟨tm, df⟩ := a'
  obtain ⟨tm0, df0⟩ := a
  try simp only at hsz hn hdf h g0 g1 g2 g3 g4
  subst hdf
  show (⟨tm, df⟩ : Act) = ⟨((((tm0.setIfInBounds d v0).setIfInBounds (d + 1) v1).setIfInBounds (d + 2) v2).setIfInBounds (d + 3) v3).setIfInBounds (d + 4) v4, df⟩
  congr 1
  refine ext_getD (by simp only [Array.size_setIfInBounds]; omega) (fun i => ?_)
  rw [getD_set _ _ _ _ (by simp only [Array.size_setIfInBounds]; omega), getD_set _ _ _ _ (by simp only [Array.size_setIfInBounds]; omega), getD_set _ _ _ _ (by simp only [Array.size_setIfInBounds]; omega), getD_set _ _ _ _ (by simp only [Array.size_setIfInBounds]; omega), getD_set _ _ _ _ (by omega)]
  by_cases h4 : i = d + 4
  · rw [if_pos h4, h4, g4]
  · rw [if_neg h4]
    by_cases h3 : i = d + 3
    · rw [if_pos h3, h3, g3]
    · rw [if_neg h3]
      by_cases h2 : i = d + 2
      · rw [if_pos h2, h2, g2]
      · rw [if_neg h2]
        by_cases h1 : i = d + 1
        · rw [if_pos h1, h1, g1]
        · rw [if_neg h1]
          by_cases h0 : i = d
          · rw [if_pos h0, h0, g0]
          · rw [if_neg h0]
            exact h i h0 h1 h2 h3 h4

section
variable {o : Oper} {a : Act} {w : World} {K : Act → World → Prop} {Q : Exit → Act → World → Prop}
theorem s_not (t : Nat) (b : Bool) (ty : TypeId) (ho : o.op = .unOp .not ty (.tmp t)) (ht : a.eval (.tmp t) = .bool b) (hK : K (a.put o.dst (.bool (!b))) w) : o.wp Try.prog a w K Q := by
  unfold Oper.wp execOp
  simp only [ho, ht]
  go_simp
  exact hK
end

/-- What the five operations leave. -/
def GSame (x : Fh) (A D E G : Option Addr) (n c m d e g : Nat) (os bs : List UInt8) : Nat → World → Value → Prop
  | 0, _, v => v = .agg #[.int .i64 x.dscp, .int .i64 x.ecn, .int .i64 x.id, .int .i64 x.flags, .int .i64 x.frag, .int .i64 x.ttl, .int .i64 x.proto, .int .i64 x.src.k, .int .i64 x.src.a, .int .i64 x.src.b, .int .i64 x.src.c, .int .i64 x.src.d, .int .i64 x.dst.k, .int .i64 x.dst.a, .int .i64 x.dst.b, .int .i64 x.dst.c, .int .i64 x.dst.d, .slice E n e, .slice G m g]
  | 1, _, v => v = .agg #[.int .i64 x.dscp, .int .i64 x.ecn, .int .i64 x.id, .int .i64 x.flags, .int .i64 x.frag, .int .i64 x.ttl, .int .i64 x.proto, .int .i64 x.src.k, .int .i64 x.src.a, .int .i64 x.src.b, .int .i64 x.src.c, .int .i64 x.src.d, .int .i64 x.dst.k, .int .i64 x.dst.a, .int .i64 x.dst.b, .int .i64 x.dst.c, .int .i64 x.dst.d, .slice A n c, .slice D m d]
  | 2, w, v => ∃ A6 c6 D6 d6, v = .agg #[.int .i64 x.dscp, .int .i64 x.ecn, .int .i64 x.id, .int .i64 x.flags, .int .i64 x.frag, .int .i64 x.ttl, .int .i64 x.proto, .int .i64 x.src.k, .int .i64 x.src.a, .int .i64 x.src.b, .int .i64 x.src.c, .int .i64 x.src.d, .int .i64 x.dst.k, .int .i64 x.dst.a, .int .i64 x.dst.b, .int .i64 x.dst.c, .int .i64 x.dst.d, .slice A6 n c6, .slice D6 m d6] ∧ RB w w.heap.size A6 os ∧ RB w w.heap.size D6 bs
  | 3, _, v => v = .bool true
  | 4, _, v => v = .bool false
  | _, _, _ => True
theorem gSame_on {x : Fh} {A D E G : Option Addr} {n c m d e g : Nat} {os bs : List UInt8} (j : Nat) (w w' : World) (v : Value) (h : Below w.heap.size w w') (hv : GSame x A D E G n c m d e g os bs j w v) : GSame x A D E G n c m d e g os bs j w' v := by
  match j, hv with
  | 0, hv => exact hv
  | 1, hv => exact hv
  | 2, ⟨A6, c6, D6, d6, e, r, s⟩ => exact ⟨A6, c6, D6, d6, e, (r.below h).more h.size, (s.below h).more h.size⟩
  | 3, hv => exact hv
  | 4, hv => exact hv
  | j + 5, _ => trivial

end Go.Proofs.Ythfmjnebpdhdfaa
