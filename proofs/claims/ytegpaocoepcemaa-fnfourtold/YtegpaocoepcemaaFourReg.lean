/-
  The region in which the laws compare a packet with a new copy: it draws its order.
-/
import Derived.Test.YtegpaocoepcemaaFour2
import Derived.Test.YtegpaocoepcemaaFour3
import Derived.Test.YtegpaocoepcemaaRegSteps
import Derived.Deep.WholeRow
namespace Go.Proofs.Ytegpaocoepcemaa
set_option maxRecDepth 100000
open Go.RowKit

/-- A packet is stored into a variable that was just made. -/
theorem storeNewF {ops : Array Oper} {rest : List Oper} {o : Oper} {a : Act} {w : World} {Q : Exit → Act → World → Prop} (hgd : o.guard = none) (x y : Operand) (ho : o.op = .store 52 x y) {n0 n1 n2 n3 n4 n5 n6 n7 n8 n9 n10 n11 n12 n13 n14 n15 n16 : Int} {A D : Option Addr} {l c m d : Nat} (hx : a.eval x = .pointer (some ⟨w.heap.size, 0, none⟩)) (hy : a.eval y = .agg #[.int .i64 n0, .int .i64 n1, .int .i64 n2, .int .i64 n3, .int .i64 n4, .int .i64 n5, .int .i64 n6, .int .i64 n7, .int .i64 n8, .int .i64 n9, .int .i64 n10, .int .i64 n11, .int .i64 n12, .int .i64 n13, .int .i64 n14, .int .i64 n15, .int .i64 n16, .slice A l c, .slice D m d])
    (h : wpList Try.prog ops Q rest (a.put o.dst undef) (w.alloc (.cells #[.int .i64 n0, .int .i64 n1, .int .i64 n2, .int .i64 n3, .int .i64 n4, .int .i64 n5, .int .i64 n6, .int .i64 n7, .int .i64 n8, .int .i64 n9, .int .i64 n10, .int .i64 n11, .int .i64 n12, .int .i64 n13, .int .i64 n14, .int .i64 n15, .int .i64 n16, .slice A l c, .slice D m d] 52))) : wpList Try.prog ops Q (o :: rest) a (w.alloc (.cells #[.int .i64 0, .int .i64 0, .int .i64 0, .int .i64 0, .int .i64 0, .int .i64 0, .int .i64 0, .int .i64 0, .int .i64 0, .int .i64 0, .int .i64 0, .int .i64 0, .int .i64 0, .int .i64 0, .int .i64 0, .int .i64 0, .int .i64 0, .slice none 0 0, .slice none 0 0] 52)) := by
  refine storeF hgd x y ho w.heap.size hx hy (K.new w _) ?_
  rw [World.setRow_alloc_new]
  exact h

theorem getD_set (l : Array Value) (j i : Nat) (v : Value) (hj : j < l.size) : (l.setIfInBounds j v).getD i undef = if i = j then v else l.getD i undef := by
  by_cases h : i = j
  · subst h
    simp [hj]
  · rw [if_neg h]
    simp only [Array.getD_eq_getD_getElem?, Array.getElem?_setIfInBounds, Ne.symm h, if_false]
theorem ext_getD {l m : Array Value} (hs : l.size = m.size) (h : ∀ i, l.getD i undef = m.getD i undef) : l = m := by
  apply Array.ext hs
  intro i h1 h2
  have := h i
  simpa [h1, h2] using this

/-- A frame of which all slots but five are known is the old one with these five written. -/
theorem act_eq5 {a a' : Act} {n : Nat} (d : Nat) (hsz : a'.tmps.size = n) (hn : a.tmps.size = n) (hdf : a'.defers = a.defers) (hd : d + 5 ≤ n)
    (h : ∀ t, t ≠ d → t ≠ d + 1 → t ≠ d + 2 → t ≠ d + 3 → t ≠ d + 4 → a'.tmps.getD t undef = a.tmps.getD t undef) (v0 v1 v2 v3 v4 : Value) (g0 : a'.tmps.getD d undef = v0) (g1 : a'.tmps.getD (d + 1) undef = v1) (g2 : a'.tmps.getD (d + 2) undef = v2) (g3 : a'.tmps.getD (d + 3) undef = v3) (g4 : a'.tmps.getD (d + 4) undef = v4) :
    a' = ((((a.put (some d) v0).put (some (d + 1)) v1).put (some (d + 2)) v2).put (some (d + 3)) v3).put (some (d + 4)) v4 := by
  obtain ⟨tm, df⟩ := a'
  obtain ⟨tm0, df0⟩ := a
  simp only at hsz hn hdf h g0 g1 g2 g3 g4
  subst hdf
  show (⟨tm, df⟩ : Act) = ⟨((((tm0.setIfInBounds d v0).setIfInBounds (d + 1) v1).setIfInBounds (d + 2) v2).setIfInBounds (d + 3) v3).setIfInBounds (d + 4) v4, df⟩
  congr 1
  refine ext_getD (by simp only [Array.size_setIfInBounds]; omega) (fun i => ?_)
  rw [getD_set _ _ _ _ (by simp only [Array.size_setIfInBounds]; omega), getD_set _ _ _ _ (by simp only [Array.size_setIfInBounds]; omega), getD_set _ _ _ _ (by simp only [Array.size_setIfInBounds]; omega), getD_set _ _ _ _ (by simp only [Array.size_setIfInBounds]; omega), getD_set _ _ _ _ (by omega)]
  by_cases h4 : i = d + 4
  · rw [if_pos h4, h4, g4]
  · rw [if_neg h4]
    by_cases h3 : i = d + 3
    · rw [if_pos h3, h3, g3]
    · rw [if_neg h3]
      by_cases h2 : i = d + 2
      · rw [if_pos h2, h2, g2]
      · rw [if_neg h2]
        by_cases h1 : i = d + 1
        · rw [if_pos h1, h1, g1]
        · rw [if_neg h1]
          by_cases h0 : i = d
          · rw [if_pos h0, h0, g0]
          · rw [if_neg h0]
            exact h i h0 h1 h2 h3 h4

/-- What the five operations leave. -/
def GSame (x : Fh) (A D E G : Option Addr) (n c m d e g : Nat) (os bs : List UInt8) : Nat → World → Value → Prop
  | 0, _, v => v = .agg #[.int .i64 x.dscp, .int .i64 x.ecn, .int .i64 x.id, .int .i64 x.flags, .int .i64 x.frag, .int .i64 x.ttl, .int .i64 x.proto, .int .i64 x.src.k, .int .i64 x.src.a, .int .i64 x.src.b, .int .i64 x.src.c, .int .i64 x.src.d, .int .i64 x.dst.k, .int .i64 x.dst.a, .int .i64 x.dst.b, .int .i64 x.dst.c, .int .i64 x.dst.d, .slice E n e, .slice G m g]
  | 1, _, v => v = .agg #[.int .i64 x.dscp, .int .i64 x.ecn, .int .i64 x.id, .int .i64 x.flags, .int .i64 x.frag, .int .i64 x.ttl, .int .i64 x.proto, .int .i64 x.src.k, .int .i64 x.src.a, .int .i64 x.src.b, .int .i64 x.src.c, .int .i64 x.src.d, .int .i64 x.dst.k, .int .i64 x.dst.a, .int .i64 x.dst.b, .int .i64 x.dst.c, .int .i64 x.dst.d, .slice A n c, .slice D m d]
  | 2, w, v => ∃ A6 c6 D6 d6, v = .agg #[.int .i64 x.dscp, .int .i64 x.ecn, .int .i64 x.id, .int .i64 x.flags, .int .i64 x.frag, .int .i64 x.ttl, .int .i64 x.proto, .int .i64 x.src.k, .int .i64 x.src.a, .int .i64 x.src.b, .int .i64 x.src.c, .int .i64 x.src.d, .int .i64 x.dst.k, .int .i64 x.dst.a, .int .i64 x.dst.b, .int .i64 x.dst.c, .int .i64 x.dst.d, .slice A6 n c6, .slice D6 m d6] ∧ RB w w.heap.size A6 os ∧ RB w w.heap.size D6 bs
  | 3, _, v => v = .bool true
  | 4, _, v => v = .bool false
  | _, _, _ => True
theorem gSame_on {x : Fh} {A D E G : Option Addr} {n c m d e g : Nat} {os bs : List UInt8} (j : Nat) (w w' : World) (v : Value) (h : Below w.heap.size w w') (hv : GSame x A D E G n c m d e g os bs j w v) : GSame x A D E G n c m d e g os bs j w' v := by
  match j, hv with
  | 0, hv => exact hv
  | 1, hv => exact hv
  | 2, ⟨A6, c6, D6, d6, e, r, s⟩ => exact ⟨A6, c6, D6, d6, e, (r.below h).more h.size, (s.below h).more h.size⟩
  | 3, hv => exact hv
  | 4, hv => exact hv
  | j + 5, _ => trivial

end Go.Proofs.Ytegpaocoepcemaa