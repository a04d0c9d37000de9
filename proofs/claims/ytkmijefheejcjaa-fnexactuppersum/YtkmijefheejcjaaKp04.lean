/-
  The steps of a region that draws numbers off a cursor and puts them together: what each operation leaves. The region in which the laws compare a packet with a new copy: it draws its order. The region in which a law compares a variable with a new copy of its argument: it draws its order. For any struct, any copy, any comparison. The laws' own helpers on upper layers: whole loads and stores, a size. The laws' own copy of an upper layer. The marking of an IPv4 packet whose options take up all the room that the laws allow. The laws' own comparison of upper layers, their marking and a look at the marks. What the laws on upper layers share: the comparison with a new copy. The formats of the upper layers, and their sizes, in the program and in the model. What FourOk calls, in the program; FourOk in the model.
-/
import Derived.Test.YtkmijefheejcjaaKp03
import Derived.Test.YtkmijefheejcjaaKp02
import Derived.Deep.WholeRow
import Derived.Test.YtkmijefheejcjaaKp01
import Derived.Laws.Tables
import Derived.Handy
namespace Go.Proofs.Ytkmijefheejcjaa
set_option maxRecDepth 100000
open Go.RowKit

/-- What a slot may hold: the cursor's pointer, the result's pointer, an integer, an index below n, a row of n integers, a pointer to an integer. -/
inductive Av where
  | cur | res | int | idx (n : Nat) | row (n : Nat) | cellp | ad | any
def gam (g r : Nat) : Av → World → Value → Prop
  | .cur, _, v => v = .pointer (some ⟨g, 0, none⟩)
  | .res, _, v => v = .pointer (some ⟨r, 0, none⟩)
  | .int, _, v => ∃ x : Int, v = .int .i64 x
  | .idx n, _, v => ∃ x : Nat, v = .int .i64 (x : Int) ∧ x < n
  | .row n, w, v => ∃ b, v = .slice (some ⟨b, 0, none⟩) n n ∧ b ≠ g ∧ b ≠ r ∧ ∀ j, j < n → ∃ x : Int, w.cell? ⟨b, j, none⟩ = some (.int .i64 x)
  | .cellp, w, v => ∃ b j, v = .pointer (some ⟨b, j, none⟩) ∧ b ≠ g ∧ b ≠ r ∧ ∃ x : Int, w.cell? ⟨b, j, none⟩ = some (.int .i64 x)
  | .ad, _, v => ∃ x : Ad, v = .agg #[.int .i64 x.k, .int .i64 x.a, .int .i64 x.b, .int .i64 x.c, .int .i64 x.d]
  | .any, _, _ => True
/-- Nothing has turned but the blocks g and r; there may be new ones. -/
def Turned (g r : Nat) (w w' : World) : Prop := w.heap.size ≤ w'.heap.size ∧ ∀ i, i < w.heap.size → i ≠ g → i ≠ r → w'.heap[i]? = w.heap[i]?
theorem Turned.cell {g r : Nat} {w w' : World} (h : Turned g r w w') {b j : Nat} {v : Value} (hg : b ≠ g) (hr : b ≠ r) (hc : w.cell? ⟨b, j, none⟩ = some v) : w'.cell? ⟨b, j, none⟩ = some v := by
  have hb : b < w.heap.size := World.block_lt_of_cell? _ _ hc
  rw [← hc]
  unfold World.cell?
  simp only [h.2 b hb hg hr]
theorem Turned.refl (g r : Nat) (w : World) : Turned g r w w := ⟨Nat.le_refl _, fun _ _ _ _ => rfl⟩
theorem Turned.of_grown {g r : Nat} {w w' : World} (h : w.grownBy w' (some g)) : Turned g r w w' := ⟨h.size, fun i hi h1 _ => h.block i hi (fun e => h1 (Option.some.inj e))⟩
theorem Turned.alloc (g r : Nat) (w : World) (o : Obj) : Turned g r w (w.alloc o) := ⟨by simp, fun i hi _ _ => Below.heap_alloc w o i hi⟩
theorem gam_on {g r : Nat} {w w' : World} (h : Turned g r w w') (t : Av) (v : Value) (hv : gam g r t w v) : gam g r t w' v := by
  cases t with
  | row n =>
    obtain ⟨b, h1, h2, h3, h4⟩ := hv
    refine ⟨b, h1, h2, h3, fun j hj => ?_⟩
    obtain ⟨x, hx⟩ := h4 j hj
    exact ⟨x, h.cell h2 h3 hx⟩
  | cellp =>
    obtain ⟨b, j, h1, h2, h3, x, hx⟩ := hv
    exact ⟨b, j, h1, h2, h3, x, h.cell h2 h3 hx⟩
  | _ => exact hv

theorem need_of {ops : Array Oper} {Γ : Nat → World → Value → Prop} {w : World} {a : Act} {j : Nat} (h : ∀ p ∈ needOf ops j, Γ p.1 w (a.tmps.getD p.2 undef)) (i d : Nat) (hm : (needOf ops j).contains (i, d) = true) : Γ i w (a.eval (.tmp d)) :=
  h (i, d) (by simpa using hm)
theorem out_of {a a' : Act} {out : List Nat} (h : ∀ t ∈ out, a'.tmps.getD t undef = a.tmps.getD t undef) (t : Nat) (hm : out.contains t = true) {v : Value} (hv : a.tmps.getD t undef = v) : a'.eval (.tmp t) = v := (h t (by simpa using hm)).trans hv

section
variable {o : Oper} {a : Act} {w : World} {K : Act → World → Prop} {Q : Exit → Act → World → Prop}
theorem s_move (t : Nat) (v : Value) (ho : o.op = .move (.tmp t)) (ht : a.eval (.tmp t) = v) (hK : K (a.put o.dst v) w) : o.wp Try.prog a w K Q := by
  unfold Oper.wp execOp
  simp only [ho, ht]
  go_simp
  exact hK
theorem s_pick (t : Nat) (c : Value) (ts : Array TypeId) (g : Nat) (ho : o.op = .call { callee := .value (.func 74), args := #[.tmp t, .const c], argTypes := ts }) (ht : a.eval (.tmp t) = .pointer (some ⟨g, 0, none⟩))
    (h : Calls Try.prog 74 #[.pointer (some ⟨g, 0, none⟩), c] w fun e w' => ∃ u, e = .returned u ∧ K (a.put o.dst u) w') : o.wp Try.prog a w K Q := by
  unfold Oper.wp execOp
  simp only [ho, resolve, List.map_toArray, List.map_cons, List.map_nil, ht, show a.eval (.const c) = c from rfl, show ∀ f, a.eval (.func f) = .func (.func f) #[] #[] from fun _ => rfl]
  go_simp
  exact h.mono fun e w' ⟨u, he, hk⟩ => by subst he; exact hk
theorem s_wide (t : Nat) (c : Value) (ts : Array TypeId) (g : Nat) (ho : o.op = .call { callee := .value (.func 119), args := #[.tmp t, .const c], argTypes := ts }) (ht : a.eval (.tmp t) = .pointer (some ⟨g, 0, none⟩))
    (h : Calls Try.prog 119 #[.pointer (some ⟨g, 0, none⟩), c] w fun e w' => ∃ u, e = .returned u ∧ K (a.put o.dst u) w') : o.wp Try.prog a w K Q := by
  unfold Oper.wp execOp
  simp only [ho, resolve, List.map_toArray, List.map_cons, List.map_nil, ht, show a.eval (.const c) = c from rfl, show ∀ f, a.eval (.func f) = .func (.func f) #[] #[] from fun _ => rfl]
  go_simp
  exact h.mono fun e w' ⟨u, he, hk⟩ => by subst he; exact hk
theorem s_load (t : Nat) (b j : Nat) (v : Value) (ho : o.op = .load 3 (.tmp t)) (ht : a.eval (.tmp t) = .pointer (some ⟨b, j, none⟩)) (hc : w.cell? ⟨b, j, none⟩ = some v) (hK : K (a.put o.dst v) w) : o.wp Try.prog a w K Q := by
  unfold Oper.wp execOp
  simp only [ho, ht]
  go_simp
  exact hK
theorem s_idx (t u : Nat) (b n y : Nat) (ho : o.op = .indexAddr 43 (.tmp t) (.tmp u)) (ht : a.eval (.tmp t) = .slice (some ⟨b, 0, none⟩) n n) (hu : a.eval (.tmp u) = .int .i64 (y : Int)) (hy : (y : Int) < (n : Int)) (hK : K (a.put o.dst (.pointer (some ⟨b, y, none⟩))) w) : o.wp Try.prog a w K Q := by
  unfold Oper.wp execOp
  simp only [ho, ht, hu]
  go_simp
  exact hK
theorem s_mul (x y : Operand) (m n : Int) (ho : o.op = .binOp .mul 3 x y 3) (hx : a.eval x = .int .i64 m) (hy : a.eval y = .int .i64 n) (hK : ∀ z : Int, K (a.put o.dst (.int .i64 z)) w) : o.wp Try.prog a w K Q := by
  unfold Oper.wp execOp
  simp only [ho, hx, hy]
  go_simp
  exact hK _
theorem s_add (x y : Operand) (m n : Int) (ho : o.op = .binOp .add 3 x y 3) (hx : a.eval x = .int .i64 m) (hy : a.eval y = .int .i64 n) (hK : ∀ z : Int, K (a.put o.dst (.int .i64 z)) w) : o.wp Try.prog a w K Q := by
  unfold Oper.wp execOp
  simp only [ho, hx, hy]
  go_simp
  exact hK _
theorem s_sub (x y : Operand) (m n : Int) (ho : o.op = .binOp .sub 3 x y 3) (hx : a.eval x = .int .i64 m) (hy : a.eval y = .int .i64 n) (hK : ∀ z : Int, K (a.put o.dst (.int .i64 z)) w) : o.wp Try.prog a w K Q := by
  unfold Oper.wp execOp
  simp only [ho, hx, hy]
  go_simp
  exact hK _
theorem s_row2 (x0 x1 : Operand) (m0 m1 : Int) (ho : o.op = .buildSlice 43 2 #[(0, x0), (1, x1)]) (h0 : a.eval x0 = .int .i64 m0) (h1 : a.eval x1 = .int .i64 m1)
    (hK : K (a.put o.dst (.slice (some ⟨w.heap.size, 0, none⟩) 2 2)) (w.alloc (.cells #[.int .i64 m0, .int .i64 m1] 3))) : o.wp Try.prog a w K Q := by
  unfold Oper.wp execOp
  simp only [ho, List.map_toArray, List.map_cons, List.map_nil, h0, h1]
  go_simp
  exact hK
theorem s_row3 (x0 x1 x2 : Operand) (m0 m1 m2 : Int) (ho : o.op = .buildSlice 43 3 #[(0, x0), (1, x1), (2, x2)]) (h0 : a.eval x0 = .int .i64 m0) (h1 : a.eval x1 = .int .i64 m1) (h2 : a.eval x2 = .int .i64 m2)
    (hK : K (a.put o.dst (.slice (some ⟨w.heap.size, 0, none⟩) 3 3)) (w.alloc (.cells #[.int .i64 m0, .int .i64 m1, .int .i64 m2] 3))) : o.wp Try.prog a w K Q := by
  unfold Oper.wp execOp
  simp only [ho, List.map_toArray, List.map_cons, List.map_nil, h0, h1, h2]
  go_simp
  exact hK
theorem s_ad (x0 x1 x2 x3 x4 : Operand) (m0 m1 m2 m3 m4 : Int) (ho : o.op = .build 25 #[(0, x0), (1, x1), (2, x2), (3, x3), (4, x4)]) (h0 : a.eval x0 = .int .i64 m0) (h1 : a.eval x1 = .int .i64 m1) (h2 : a.eval x2 = .int .i64 m2) (h3 : a.eval x3 = .int .i64 m3) (h4 : a.eval x4 = .int .i64 m4)
    (hK : K (a.put o.dst (.agg #[.int .i64 m0, .int .i64 m1, .int .i64 m2, .int .i64 m3, .int .i64 m4])) w) : o.wp Try.prog a w K Q := by
  unfold Oper.wp execOp
  simp only [ho, List.map_toArray, List.map_cons, List.map_nil, h0, h1, h2, h3, h4]
  go_simp
  exact hK
theorem s_store5 (x y : Operand) (r : Nat) (z z' : Ad) (ho : o.op = .store 25 x y) (hx : a.eval x = .pointer (some ⟨r, 0, none⟩)) (hy : a.eval y = .agg #[.int .i64 z.k, .int .i64 z.a, .int .i64 z.b, .int .i64 z.c, .int .i64 z.d]) (hr : w.heap[r]? = some (.cells #[.int .i64 z'.k, .int .i64 z'.a, .int .i64 z'.b, .int .i64 z'.c, .int .i64 z'.d] 25 (0, 0)))
    (hK : K (a.put o.dst undef) (((((w.setCell ⟨r, 0, none⟩ (.int .i64 z.k)).setCell ⟨r, 1, none⟩ (.int .i64 z.a)).setCell ⟨r, 2, none⟩ (.int .i64 z.b)).setCell ⟨r, 3, none⟩ (.int .i64 z.c)).setCell ⟨r, 4, none⟩ (.int .i64 z.d))) : o.wp Try.prog a w K Q := by
  obtain ⟨⟨c0, c1, c2, c3, c4⟩, f0, f1, f2, f3, f4⟩ := row5 hr
  clear hr
  unfold Oper.wp execOp
  simp only [ho, hx, hy]
  go_simp
  exact hK
theorem cells3 (w : World) (x0 x1 x2 : Int) (j : Nat) (h : j < 3) : ∃ x : Int, (w.alloc (.cells #[.int .i64 x0, .int .i64 x1, .int .i64 x2] 3)).cell? ⟨w.heap.size, j, none⟩ = some (.int .i64 x) := by
  rw [cell_of_row _ w.heap.size j _ 3 (0, 0) (heap_alloc_new w _)]
  match j, h with
  | 0, _ => exact ⟨x0, rfl⟩
  | 1, _ => exact ⟨x1, rfl⟩
  | 2, _ => exact ⟨x2, rfl⟩
theorem cells2 (w : World) (x0 x1 : Int) (j : Nat) (h : j < 2) : ∃ x : Int, (w.alloc (.cells #[.int .i64 x0, .int .i64 x1] 3)).cell? ⟨w.heap.size, j, none⟩ = some (.int .i64 x) := by
  rw [cell_of_row _ w.heap.size j _ 3 (0, 0) (heap_alloc_new w _)]
  match j, h with
  | 0, _ => exact ⟨x0, rfl⟩
  | 1, _ => exact ⟨x1, rfl⟩
end

/-- What stands in a region that draws numbers off the cursor in block g and lays an address into block r: W is the world at the call's begin. -/
def InReg (W : World) (g r : Nat) (A : Option Addr) (c : Nat) (bs : List UInt8) (t : Nat) (k : Nat) (w : World) : Prop :=
  (∃ t', t' ≤ t + 4 * k ∧ Cur w g A c bs t') ∧ (∃ x : Ad, w.heap[r]? = some (.cells #[.int .i64 x.k, .int .i64 x.a, .int .i64 x.b, .int .i64 x.c, .int .i64 x.d] 25 (0, 0))) ∧ W.grownBy w (some g)
section
variable {W w w' : World} {g r : Nat} {A : Option Addr} {c : Nat} {bs : List UInt8} {t k : Nat}
theorem InReg.more (h : InReg W g r A c bs t k w) : InReg W g r A c bs t (k + 1) w := by
  obtain ⟨⟨t', h1, h2⟩, h3, h4⟩ := h
  exact ⟨⟨t', by omega, h2⟩, h3, h4⟩
theorem InReg.alloc (h : InReg W g r A c bs t k w) (o : Obj) : InReg W g r A c bs t (k + 1) (w.alloc o) := by
  obtain ⟨⟨t', h1, h2⟩, ⟨x, hx⟩, h4⟩ := h
  refine ⟨⟨t', by omega, h2.below (Joins.below_alloc1 w o)⟩, ⟨x, (Below.heap_alloc w o r (Array.getElem?_eq_some_iff.1 hx).1).trans hx⟩, only_new h4 o⟩
theorem InReg.drawn (h : InReg W g r A c bs t k w) (hg : w.grownBy w' (some g)) (hrg : r ≠ g) {t' : Nat} (ht : t' ≤ t + 4 * (k + 1)) (hc : Cur w' g A c bs t') : InReg W g r A c bs t (k + 1) w' := by
  obtain ⟨_, ⟨x, hx⟩, h4⟩ := h
  exact ⟨⟨t', ht, hc⟩, ⟨x, (hg.block r (Array.getElem?_eq_some_iff.1 hx).1 (fun e => hrg (Option.some.inj e))).trans hx⟩, grownBy_trans h4 hg⟩
end
end Go.Proofs.Ytkmijefheejcjaa

namespace Go.Proofs.Ytkmijefheejcjaa
set_option maxRecDepth 100000
open Go.RowKit



theorem getD_set (l : Array Value) (j i : Nat) (v : Value) (hj : j < l.size) : (l.setIfInBounds j v).getD i undef = if i = j then v else l.getD i undef := by
  by_cases h : i = j
  · subst h
    simp [hj]
  · rw [if_neg h]
    simp only [Array.getD_eq_getD_getElem?, Array.getElem?_setIfInBounds, Ne.symm h, if_false]
theorem ext_getD {l m : Array Value} (hs : l.size = m.size) (h : ∀ i, l.getD i undef = m.getD i undef) : l = m := by
  apply Array.ext hs
  intro i h1 h2
  have := h i
  simpa [h1, h2] using this

/-- A frame of which all slots but five are known is the old one with these five written. -/
theorem act_eq5 {a a' : Act} {n : Nat} (d : Nat) (hsz : a'.tmps.size = n) (hn : a.tmps.size = n) (hdf : a'.defers = a.defers) (hd : d + 5 ≤ n)
    (h : ∀ t, t ≠ d → t ≠ d + 1 → t ≠ d + 2 → t ≠ d + 3 → t ≠ d + 4 → a'.tmps.getD t undef = a.tmps.getD t undef) (v0 v1 v2 v3 v4 : Value) (g0 : a'.tmps.getD d undef = v0) (g1 : a'.tmps.getD (d + 1) undef = v1) (g2 : a'.tmps.getD (d + 2) undef = v2) (g3 : a'.tmps.getD (d + 3) undef = v3) (g4 : a'.tmps.getD (d + 4) undef = v4) :
    a' = ((((a.put (some d) v0).put (some (d + 1)) v1).put (some (d + 2)) v2).put (some (d + 3)) v3).put (some (d + 4)) v4 := by
  obtain ⟨tm, df⟩ := a'
  obtain ⟨tm0, df0⟩ := a
  simp only at hsz hn hdf h g0 g1 g2 g3 g4
  subst hdf
  show (⟨tm, df⟩ : Act) = ⟨((((tm0.setIfInBounds d v0).setIfInBounds (d + 1) v1).setIfInBounds (d + 2) v2).setIfInBounds (d + 3) v3).setIfInBounds (d + 4) v4, df⟩
  congr 1
  refine ext_getD (by simp only [Array.size_setIfInBounds]; omega) (fun i => ?_)
  rw [getD_set _ _ _ _ (by simp only [Array.size_setIfInBounds]; omega), getD_set _ _ _ _ (by simp only [Array.size_setIfInBounds]; omega), getD_set _ _ _ _ (by simp only [Array.size_setIfInBounds]; omega), getD_set _ _ _ _ (by simp only [Array.size_setIfInBounds]; omega), getD_set _ _ _ _ (by omega)]
  by_cases h4 : i = d + 4
  · rw [if_pos h4, h4, g4]
  · rw [if_neg h4]
    by_cases h3 : i = d + 3
    · rw [if_pos h3, h3, g3]
    · rw [if_neg h3]
      by_cases h2 : i = d + 2
      · rw [if_pos h2, h2, g2]
      · rw [if_neg h2]
        by_cases h1 : i = d + 1
        · rw [if_pos h1, h1, g1]
        · rw [if_neg h1]
          by_cases h0 : i = d
          · rw [if_pos h0, h0, g0]
          · rw [if_neg h0]
            exact h i h0 h1 h2 h3 h4

section
variable {o : Oper} {a : Act} {w : World} {K : Act → World → Prop} {Q : Exit → Act → World → Prop}
theorem s_not (t : Nat) (b : Bool) (ty : TypeId) (ho : o.op = .unOp .not ty (.tmp t)) (ht : a.eval (.tmp t) = .bool b) (hK : K (a.put o.dst (.bool (!b))) w) : o.wp Try.prog a w K Q := by
  unfold Oper.wp execOp
  simp only [ho, ht]
  go_simp
  exact hK
end

/-- What the five operations leave. -/
def GSame (x : Fh) (A D E G : Option Addr) (n c m d e g : Nat) (os bs : List UInt8) : Nat → World → Value → Prop
  | 0, _, v => v = .agg #[.int .i64 x.dscp, .int .i64 x.ecn, .int .i64 x.id, .int .i64 x.flags, .int .i64 x.frag, .int .i64 x.ttl, .int .i64 x.proto, .int .i64 x.src.k, .int .i64 x.src.a, .int .i64 x.src.b, .int .i64 x.src.c, .int .i64 x.src.d, .int .i64 x.dst.k, .int .i64 x.dst.a, .int .i64 x.dst.b, .int .i64 x.dst.c, .int .i64 x.dst.d, .slice E n e, .slice G m g]
  | 1, _, v => v = .agg #[.int .i64 x.dscp, .int .i64 x.ecn, .int .i64 x.id, .int .i64 x.flags, .int .i64 x.frag, .int .i64 x.ttl, .int .i64 x.proto, .int .i64 x.src.k, .int .i64 x.src.a, .int .i64 x.src.b, .int .i64 x.src.c, .int .i64 x.src.d, .int .i64 x.dst.k, .int .i64 x.dst.a, .int .i64 x.dst.b, .int .i64 x.dst.c, .int .i64 x.dst.d, .slice A n c, .slice D m d]
  | 2, w, v => ∃ A6 c6 D6 d6, v = .agg #[.int .i64 x.dscp, .int .i64 x.ecn, .int .i64 x.id, .int .i64 x.flags, .int .i64 x.frag, .int .i64 x.ttl, .int .i64 x.proto, .int .i64 x.src.k, .int .i64 x.src.a, .int .i64 x.src.b, .int .i64 x.src.c, .int .i64 x.src.d, .int .i64 x.dst.k, .int .i64 x.dst.a, .int .i64 x.dst.b, .int .i64 x.dst.c, .int .i64 x.dst.d, .slice A6 n c6, .slice D6 m d6] ∧ RB w w.heap.size A6 os ∧ RB w w.heap.size D6 bs
  | 3, _, v => v = .bool true
  | 4, _, v => v = .bool false
  | _, _, _ => True
theorem gSame_on {x : Fh} {A D E G : Option Addr} {n c m d e g : Nat} {os bs : List UInt8} (j : Nat) (w w' : World) (v : Value) (h : Below w.heap.size w w') (hv : GSame x A D E G n c m d e g os bs j w v) : GSame x A D E G n c m d e g os bs j w' v := by
  match j, hv with
  | 0, hv => exact hv
  | 1, hv => exact hv
  | 2, ⟨A6, c6, D6, d6, e, r, s⟩ => exact ⟨A6, c6, D6, d6, e, (r.below h).more h.size, (s.below h).more h.size⟩
  | 3, hv => exact hv
  | 4, hv => exact hv
  | j + 5, _ => trivial

end Go.Proofs.Ytkmijefheejcjaa

namespace Go.Proofs.Ytkmijefheejcjaa
set_option maxRecDepth 100000
open Go.RowKit

section
variable {o : Oper} {a : Act} {w : World} {K : Act → World → Prop} {Q : Exit → Act → World → Prop}
theorem z_not (t : Nat) (b : Bool) (ty : TypeId) (ho : o.op = .unOp .not ty (.tmp t)) (ht : a.eval (.tmp t) = .bool b) (hK : K (a.put o.dst (.bool (!b))) w) : o.wp Try.prog a w K Q := by
  unfold Oper.wp execOp
  simp only [ho, ht]
  go_simp
  exact hK
theorem z_load (ty : TypeId) (t g : Nat) (u : Value) (ho : o.op = .load ty (.tmp t)) (ht : a.eval (.tmp t) = .pointer (some ⟨g, 0, none⟩)) (hl : (loadVar ty ⟨g, 0, none⟩).run Try.prog w = .ok u w) (hK : K (a.put o.dst u) w) : o.wp Try.prog a w K Q := by
  unfold Oper.wp execOp
  simp only [ho, ht, Instr.loadAt, Instr.sureAddr, Sem.run_bind, Sem.run_pure, Result.andThen_ok, hl]
  exact hK
end

/-- A call of function f is taken by a contract of it. -/
def Steps1 (f : Nat) : Prop := ∀ (o : Oper) (a : Act) (w : World) (K : Act → World → Prop) (Q : Exit → Act → World → Prop) (t : Nat) (u : Value) (ts : Array TypeId), o.op = .call { callee := .value (.func f), args := #[.tmp t], argTypes := ts } → a.eval (.tmp t) = u →
    (Calls Try.prog f #[u] w fun e w' => ∃ v, e = .returned v ∧ K (a.put o.dst v) w') → o.wp Try.prog a w K Q
def Steps2 (f : Nat) : Prop := ∀ (o : Oper) (a : Act) (w : World) (K : Act → World → Prop) (Q : Exit → Act → World → Prop) (t s : Nat) (u v : Value) (ts : Array TypeId), o.op = .call { callee := .value (.func f), args := #[.tmp t, .tmp s], argTypes := ts } → a.eval (.tmp t) = u → a.eval (.tmp s) = v →
    (Calls Try.prog f #[u, v] w fun e w' => ∃ v, e = .returned v ∧ K (a.put o.dst v) w') → o.wp Try.prog a w K Q

/-- What the five operations leave. -/
def GSameZ (U5 U1 : Value) (Cp : World → Value → Prop) : Nat → World → Value → Prop
  | 0, _, v => v = U5
  | 1, _, v => v = U1
  | 2, w, v => Cp w v
  | 3, _, v => v = .bool true
  | 4, _, v => v = .bool false
  | _, _, _ => True
theorem gSameZ_on {U5 U1 : Value} {Cp : World → Value → Prop} (hc : ∀ v v' u, Below v.heap.size v v' → Cp v u → Cp v' u) (j : Nat) (w w' : World) (v : Value) (h : Below w.heap.size w w') (hv : GSameZ U5 U1 Cp j w v) : GSameZ U5 U1 Cp j w' v := by
  match j, hv with
  | 0, hv => exact hv
  | 1, hv => exact hv
  | 2, hv => exact hc _ _ _ h hv
  | 3, hv => exact hv
  | 4, hv => exact hv
  | j + 5, _ => trivial

theorem same_regionZ {ops : Array Oper} {id : Nat} {a : Act} {w : World} {Q : Exit → Act → World → Prop} {fc fe : Nat} (S1 : Steps1 fc) (S2 : Steps2 fe) (N s1 s5 p g1 g5 : Nat) (tl ti : TypeId) (o0 o1 o2 o3 o4 : Oper) (ts2 ts3 : Array TypeId) (ty4 : TypeId) (hops : ops = #[o0, o1, o2, o3, o4]) (hf : formB ops N [s1, s5] = true) (hN : a.tmps.size = N) (hp : p + 5 ≤ N)
    (e0 : o0.op = .load ti (.tmp s5) ∧ o0.dst = some p) (e1 : o1.op = .load tl (.tmp s1) ∧ o1.dst = some (p + 1)) (e2 : o2.op = .call { callee := .value (.func fc), args := #[.tmp (p + 1)], argTypes := ts2 } ∧ o2.dst = some (p + 2))
    (e3 : o3.op = .call { callee := .value (.func fe), args := #[.tmp p, .tmp (p + 2)], argTypes := ts3 } ∧ o3.dst = some (p + 3)) (e4 : o4.op = .unOp .not ty4 (.tmp (p + 3)) ∧ o4.dst = some (p + 4))
    (n2 : (needOf ops 2).contains (1, p + 1) = true) (n3 : (needOf ops 3).contains (0, p) = true) (n3' : (needOf ops 3).contains (2, p + 2) = true) (n4 : (needOf ops 4).contains (3, p + 3) = true)
    (hs1 : a.tmps.getD s1 undef = .pointer (some ⟨g1, 0, none⟩)) (hs5 : a.tmps.getD s5 undef = .pointer (some ⟨g5, 0, none⟩))
    (U1 U5 : Value) (Cp : World → Value → Prop) (hc : ∀ v v' u, Below v.heap.size v v' → Cp v u → Cp v' u)
    (hq1 : ∀ v, Below w.heap.size w v → (loadVar tl ⟨g1, 0, none⟩).run Try.prog v = .ok U1 v) (hq5 : ∀ v, Below w.heap.size w v → (loadVar ti ⟨g5, 0, none⟩).run Try.prog v = .ok U5 v)
    (hcopy : ∀ v, Below w.heap.size w v → Calls Try.prog fc #[U1] v fun e v' => ∃ u, e = .returned u ∧ Cp v' u ∧ Below v.heap.size v v')
    (hsame : ∀ v u, Below w.heap.size w v → Cp v u → Calls Try.prog fe #[U5, u] v fun e v' => e = .returned (.bool true) ∧ Below v.heap.size v v')
    (h : ∀ w' u, Below w.heap.size w w' → Q .normal (((((a.put (some p) U5).put (some (p + 1)) U1).put (some (p + 2)) u).put (some (p + 3)) (.bool true)).put (some (p + 4)) (.bool false)) w') :
    (Code.region id ops true).wp Try.prog Q a w := by
  have hmx : Try.prog.follows .mixedOrders = true := by kernel_rfl
  refine wp_region_kept hmx (GSameZ U5 U1 Cp) [s1, s5] (fun _ v => Below w.heap.size w v) (fun v v' => Below v.heap.size v v') N hf hN ⟨rfl, rfl, rfl, Nat.le_refl _, fun _ _ => rfl⟩ (fun j v v' u hb hv => gSameZ_on hc j v v' u hb hv) ?_ ?_
  · intro j o ho k a' v K' hx hnd hk hI hK
    subst hops
    match j, ho with
    | 0, ho =>
      obtain rfl := Option.some.inj ho
      exact z_load ti _ g5 _ e0.1 (out_of hx s5 (by simp) hs5) (hq5 v hI) (hK _ _ rfl (Below.refl _ _) hI)
    | 1, ho =>
      obtain rfl := Option.some.inj ho
      exact z_load tl _ g1 _ e1.1 (out_of hx s1 (by simp) hs1) (hq1 v hI) (hK _ _ rfl (Below.refl _ _) hI)
    | 2, ho =>
      obtain rfl := Option.some.inj ho
      have h1 : a'.eval (.tmp (p + 1)) = U1 := (need_of (Γ := GSameZ U5 U1 Cp) (w := v) hnd 1 (p + 1) n2 :)
      refine S1 _ _ _ _ _ _ _ _ e2.1 h1 ((hcopy v hI).mono ?_)
      rintro e' v' ⟨u, rfl, o6, b6⟩
      exact ⟨_, rfl, hK _ _ o6 b6 (bthen hI b6)⟩
    | 3, ho =>
      obtain rfl := Option.some.inj ho
      have h0 : a'.eval (.tmp p) = U5 := (need_of (Γ := GSameZ U5 U1 Cp) (w := v) hnd 0 p n3 :)
      have h2 : Cp v (a'.eval (.tmp (p + 2))) := (need_of (Γ := GSameZ U5 U1 Cp) (w := v) hnd 2 (p + 2) n3' :)
      refine S2 _ _ _ _ _ _ _ _ _ _ e3.1 h0 rfl ((hsame v _ hI h2).mono ?_)
      rintro e' v' ⟨rfl, b6⟩
      exact ⟨_, rfl, hK _ _ rfl b6 (bthen hI b6)⟩
    | 4, ho =>
      obtain rfl := Option.some.inj ho
      have h3 : a'.eval (.tmp (p + 3)) = .bool true := (need_of (Γ := GSameZ U5 U1 Cp) (w := v) hnd 3 (p + 3) n4 :)
      exact z_not _ true _ e4.1 h3 (hK _ _ rfl (Below.refl _ _) hI)
    | j + 5, ho => simp at ho
  · intro a' w' hsz hdf hout hrest hG hI
    subst hops
    have g0 : a'.tmps.getD p undef = _ := hG 0 o0 p rfl e0.2
    have g1' : a'.tmps.getD (p + 1) undef = _ := hG 1 o1 (p + 1) rfl e1.2
    have g3 : a'.tmps.getD (p + 3) undef = _ := hG 3 o3 (p + 3) rfl e3.2
    have g4 : a'.tmps.getD (p + 4) undef = _ := hG 4 o4 (p + 4) rfl e4.2
    have E0 := act_eq5 p hsz hN hdf hp (fun t t0 t1 t2 t3 t4 => hrest t (fun j o hj hd => by
      match j, hj with
      | 0, hj => obtain rfl := Option.some.inj hj; exact t0 (Option.some.inj (hd.symm.trans e0.2))
      | 1, hj => obtain rfl := Option.some.inj hj; exact t1 (Option.some.inj (hd.symm.trans e1.2))
      | 2, hj => obtain rfl := Option.some.inj hj; exact t2 (Option.some.inj (hd.symm.trans e2.2))
      | 3, hj => obtain rfl := Option.some.inj hj; exact t3 (Option.some.inj (hd.symm.trans e3.2))
      | 4, hj => obtain rfl := Option.some.inj hj; exact t4 (Option.some.inj (hd.symm.trans e4.2))
      | j + 5, hj => simp at hj)) _ _ _ _ _ g0 g1' rfl g3 g4
    rw [E0]
    exact h w' _ hI
end Go.Proofs.Ytkmijefheejcjaa

namespace Go.Proofs.Ytkmijefheejcjaa
set_option maxRecDepth 100000
open Go.RowKit

theorem info_up : (Try.prog.info? 38).map (·.size) = some 14 := by kernel_rfl

theorem info_lup : (Try.prog.info? 52).map (·.size) = some 14 := by kernel_rfl

theorem loadLU {ops : Array Oper} {rest : List Oper} {o : Oper} {a : Act} {w : World} {Q : Exit → Act → World → Prop} (hgd : o.guard = none) (x : Operand) (ho : o.op = .load 52 x) (g : Nat) (hx : a.eval x = .pointer (some ⟨g, 0, none⟩)) {t : TypeId} {v0 v1 v2 v3 v4 v5 v6 v7 v8 v9 v10 v11 v12 v13 : Value}
    (hg : w.heap[g]? = some (.cells #[v0, v1, v2, v3, v4, v5, v6, v7, v8, v9, v10, v11, v12, v13] t (0, 0))) (h : wpList Try.prog ops Q rest (a.put o.dst (.agg #[v0, v1, v2, v3, v4, v5, v6, v7, v8, v9, v10, v11, v12, v13])) w) : wpList Try.prog ops Q (o :: rest) a w :=
  wpList_load_row hgd 52 x ho g hx t _ (0, 0) _ hg Try.underlying52 rfl info_lup h

theorem loadU {ops : Array Oper} {rest : List Oper} {o : Oper} {a : Act} {w : World} {Q : Exit → Act → World → Prop} (hgd : o.guard = none) (x : Operand) (ho : o.op = .load 38 x) (g : Nat) (hx : a.eval x = .pointer (some ⟨g, 0, none⟩)) {t : TypeId} {v0 v1 v2 v3 v4 v5 v6 v7 v8 v9 v10 v11 v12 v13 : Value}
    (hg : w.heap[g]? = some (.cells #[v0, v1, v2, v3, v4, v5, v6, v7, v8, v9, v10, v11, v12, v13] t (0, 0))) (h : wpList Try.prog ops Q rest (a.put o.dst (.agg #[v0, v1, v2, v3, v4, v5, v6, v7, v8, v9, v10, v11, v12, v13])) w) : wpList Try.prog ops Q (o :: rest) a w :=
  wpList_load_row hgd 38 x ho g hx t _ (0, 0) _ hg Try.underlying38 rfl info_up h

theorem storeU {ops : Array Oper} {rest : List Oper} {o : Oper} {a : Act} {w : World} {Q : Exit → Act → World → Prop} (hgd : o.guard = none) (x y : Operand) (ho : o.op = .store 38 x y) (g : Nat) {n0 n1 n2 n3 n4 n5 n6 n7 n8 n9 n10 : Int} {bb : Bool} {A D : Option Addr} {l c m d : Nat} (hx : a.eval x = .pointer (some ⟨g, 0, none⟩)) (hy : a.eval y = .agg #[.int .i64 n0, .int .i64 n1, .int .i64 n2, .int .i64 n3, .int .i64 n4, .int .i64 n5, .int .i64 n6, .int .i64 n7, .int .i64 n8, .int .i64 n9, .int .i64 n10, .bool bb, .slice A l c, .slice D m d]) {t : TypeId} {u0 u1 u2 u3 u4 u5 u6 u7 u8 u9 u10 u11 u12 u13 : Value}
    (hg : w.heap[g]? = some (.cells #[u0, u1, u2, u3, u4, u5, u6, u7, u8, u9, u10, u11, u12, u13] t (0, 0))) (h : wpList Try.prog ops Q rest (a.put o.dst undef) (w.setRow g #[.int .i64 n0, .int .i64 n1, .int .i64 n2, .int .i64 n3, .int .i64 n4, .int .i64 n5, .int .i64 n6, .int .i64 n7, .int .i64 n8, .int .i64 n9, .int .i64 n10, .bool bb, .slice A l c, .slice D m d])) : wpList Try.prog ops Q (o :: rest) a w :=
  wpList_store_row hgd 38 x y ho g _ hx hy t _ hg info_up rfl (by simp [Value.oneCell']) h

/-- An upper layer is stored into a variable that was just made. -/
theorem storeNewU {ops : Array Oper} {rest : List Oper} {o : Oper} {a : Act} {w : World} {Q : Exit → Act → World → Prop} (hgd : o.guard = none) (x y : Operand) (ho : o.op = .store 38 x y) {n0 n1 n2 n3 n4 n5 n6 n7 n8 n9 n10 : Int} {bb : Bool} {A D : Option Addr} {l c m d : Nat} (hx : a.eval x = .pointer (some ⟨w.heap.size, 0, none⟩)) (hy : a.eval y = .agg #[.int .i64 n0, .int .i64 n1, .int .i64 n2, .int .i64 n3, .int .i64 n4, .int .i64 n5, .int .i64 n6, .int .i64 n7, .int .i64 n8, .int .i64 n9, .int .i64 n10, .bool bb, .slice A l c, .slice D m d])
    (h : wpList Try.prog ops Q rest (a.put o.dst undef) (w.alloc (.cells #[.int .i64 n0, .int .i64 n1, .int .i64 n2, .int .i64 n3, .int .i64 n4, .int .i64 n5, .int .i64 n6, .int .i64 n7, .int .i64 n8, .int .i64 n9, .int .i64 n10, .bool bb, .slice A l c, .slice D m d] 38))) : wpList Try.prog ops Q (o :: rest) a (w.alloc (.cells #[.int .i64 0, .int .i64 0, .int .i64 0, .int .i64 0, .int .i64 0, .int .i64 0, .int .i64 0, .int .i64 0, .int .i64 0, .int .i64 0, .int .i64 0, .bool false, .slice none 0 0, .slice none 0 0] 38)) := by
  refine storeU hgd x y ho w.heap.size hx hy (K.new w _) ?_
  rw [World.setRow_alloc_new]
  exact h

theorem resU {fn : Func} {p : Tmp} (h : fn.results = #[.cell p 38]) (tmps : Array Value) (w : World) (g : Nat) {t : TypeId} {v0 v1 v2 v3 v4 v5 v6 v7 v8 v9 v10 v11 v12 v13 : Value} (hp : tmps.getD p undef = .pointer (some ⟨g, 0, none⟩)) (hg : w.heap[g]? = some (.cells #[v0, v1, v2, v3, v4, v5, v6, v7, v8, v9, v10, v11, v12, v13] t (0, 0))) :
    (results fn tmps).run Try.prog w = .ok (.agg #[v0, v1, v2, v3, v4, v5, v6, v7, v8, v9, v10, v11, v12, v13]) w :=
  results_cell_row h tmps w g t _ (0, 0) _ hp hg Try.underlying38 rfl info_up

set_option maxHeartbeats 1000000 in
theorem szUp_yes (x : Uh) (A D : Option Addr) (n c m d : Nat) (l : Int) (w : World) (h : (n : Int) + m ≤ l) (hl : l ≤ 1048576) :
    Calls Try.prog 39 #[.agg #[.int .i64 x.kind, .int .i64 x.sport, .int .i64 x.dport, .int .i64 x.seq, .int .i64 x.ack, .int .i64 x.bits, .int .i64 x.window, .int .i64 x.urgent, .int .i64 x.ty, .int .i64 x.code, .int .i64 x.rest, .bool x.nosum, .slice A n c, .slice D m d], .int .i64 l] w fun e w' => (∃ r : Int, e = .returned (.int .i64 r) ∧ 0 ≤ r) ∧ Below w.heap.size w w' := by
  go_enter Try.func39, Try.ntmps39
  go_wp2_with fail
  refine (szF_yes A n c l _ (by omega) hl).mono ?_
  rintro e w' ⟨rfl, rfl⟩
  go_wp2_with fail
  refine (szF_yes D m d _ _ (by omega) (by omega)).mono ?_
  rintro e w' ⟨rfl, rfl⟩
  go_wp2
  go_ret
  exact ⟨⟨_, rfl, by omega⟩, by go_grown⟩

set_option maxHeartbeats 1000000 in
theorem szUp_no1 (x : Uh) (A D : Option Addr) (n c m d : Nat) (l : Int) (w : World) (h : l < (n : Int)) (h0 : 0 ≤ l) (hn : n ≤ maxLen) :
    Calls Try.prog 39 #[.agg #[.int .i64 x.kind, .int .i64 x.sport, .int .i64 x.dport, .int .i64 x.seq, .int .i64 x.ack, .int .i64 x.bits, .int .i64 x.window, .int .i64 x.urgent, .int .i64 x.ty, .int .i64 x.code, .int .i64 x.rest, .bool x.nosum, .slice A n c, .slice D m d], .int .i64 l] w fun e w' => e = .returned (.int .i64 (-1)) ∧ Below w.heap.size w w' := by
  go_enter Try.func39, Try.ntmps39
  go_wp2_with fail
  refine (szF_no A n c l _ h h0 hn).mono ?_
  rintro e w' ⟨rfl, rfl⟩
  go_wp2
  go_ret
  exact ⟨rfl, by go_grown⟩

set_option maxHeartbeats 1000000 in
theorem szUp_no2 (x : Uh) (A D : Option Addr) (n c m d : Nat) (l : Int) (w : World) (h : (n : Int) ≤ l) (hl : l ≤ 1048576) (h2 : l < (n : Int) + m) (hm : m ≤ maxLen) :
    Calls Try.prog 39 #[.agg #[.int .i64 x.kind, .int .i64 x.sport, .int .i64 x.dport, .int .i64 x.seq, .int .i64 x.ack, .int .i64 x.bits, .int .i64 x.window, .int .i64 x.urgent, .int .i64 x.ty, .int .i64 x.code, .int .i64 x.rest, .bool x.nosum, .slice A n c, .slice D m d], .int .i64 l] w fun e w' => e = .returned (.int .i64 (-1)) ∧ Below w.heap.size w w' := by
  go_enter Try.func39, Try.ntmps39
  go_wp2_with fail
  refine (szF_yes A n c l _ h hl).mono ?_
  rintro e w' ⟨rfl, rfl⟩
  go_wp2_with fail
  refine (szF_no D m d _ _ (by omega) (by omega) hm).mono ?_
  rintro e w' ⟨rfl, rfl⟩
  go_wp2
  go_ret
  exact ⟨rfl, by go_grown⟩

/-- What a copy of an upper layer leaves. -/
def UpOut (x : Uh) (os bs : List UInt8) (n m : Nat) (w : World) (e : Ending) (w' : World) : Prop :=
  ∃ A c D d, e = .returned (.agg #[.int .i64 x.kind, .int .i64 x.sport, .int .i64 x.dport, .int .i64 x.seq, .int .i64 x.ack, .int .i64 x.bits, .int .i64 x.window, .int .i64 x.urgent, .int .i64 x.ty, .int .i64 x.code, .int .i64 x.rest, .bool x.nosum, .slice A n c, .slice D m d]) ∧ w'.ownsRow w.heap.size 5 1 (.slice A n c) n (cellsOf os) ∧ w'.ownsRow w.heap.size 5 1 (.slice D m d) m (cellsOf bs) ∧
    (∀ k, (Value.slice A n c).ownBlock = some k → (Value.slice D m d).ownBlock ≠ some k) ∧ Below w.heap.size w w'
end Go.Proofs.Ytkmijefheejcjaa

namespace Go.Proofs.Ytkmijefheejcjaa
set_option maxRecDepth 100000
open Go.RowKit

set_option maxHeartbeats 2000000 in
theorem toUpC (x : Uh) (A D : Option Addr) (n c m d : Nat) (os bs : List UInt8) (w : World) (hr : RB w w.heap.size A os) (hl : os.length = n) (hn : n ≤ 1048576) (hs : RB w w.heap.size D bs) (hm : bs.length = m) (hm2 : m ≤ 1048576) :
    Calls Try.prog 41 #[.agg #[.int .i64 x.kind, .int .i64 x.sport, .int .i64 x.dport, .int .i64 x.seq, .int .i64 x.ack, .int .i64 x.bits, .int .i64 x.window, .int .i64 x.urgent, .int .i64 x.ty, .int .i64 x.code, .int .i64 x.rest, .bool x.nosum, .slice A n c, .slice D m d]] w (UpOut x os bs n m w) := by
  have HL := Lib.hid hl
  have HM := Lib.hid hm
  have HR := Lib.hid hr
  have HS := Lib.hid hs
  clear hl hm hr hs
  go_enter Try.func41, Try.ntmps41
  go_wp2_with fail
  refine Calls.mono (toFn A n c os _ ((HR.out.below (by go_grown)).more (by simp; omega)) HL.out hn) ?_
  rintro e w1 ⟨A1, c1, rfl, o1, b1⟩
  have q1 := Lib.hid (K.on b1 (g := w.heap.size) (by first | (simp; done) | (simp; omega)) (o := .cells #[.int .i64 x.kind, .int .i64 x.sport, .int .i64 x.dport, .int .i64 x.seq, .int .i64 x.ack, .int .i64 x.bits, .int .i64 x.window, .int .i64 x.urgent, .int .i64 x.ty, .int .i64 x.code, .int .i64 x.rest, .bool x.nosum, .slice A n c, .slice D m d] 52) (by repeat (first | exact K.newAt (by first | rfl | (simp; done)) | refine K.oldAt (by first | (simp; done) | (simp; omega)) ?_)))
  have q2 := Lib.hid (K.on b1 (g := w.heap.size + 1) (by first | (simp; done) | (simp; omega)) (o := .cells #[.int .i64 Uh.zero.kind, .int .i64 Uh.zero.sport, .int .i64 Uh.zero.dport, .int .i64 Uh.zero.seq, .int .i64 Uh.zero.ack, .int .i64 Uh.zero.bits, .int .i64 Uh.zero.window, .int .i64 Uh.zero.urgent, .int .i64 Uh.zero.ty, .int .i64 Uh.zero.code, .int .i64 Uh.zero.rest, .bool Uh.zero.nosum, .slice none 0 0, .slice none 0 0] 38) (by repeat (first | exact K.newAt (by first | rfl | (simp; done)) | refine K.oldAt (by first | (simp; done) | (simp; omega)) ?_)))
  have q3 := Lib.hid (K.on b1 (g := w.heap.size + 1 + 1) (by first | (simp; done) | (simp; omega)) (o := .cells #[.int .i64 x.kind, .int .i64 x.sport, .int .i64 x.dport, .int .i64 x.seq, .int .i64 x.ack, .int .i64 x.bits, .int .i64 x.window, .int .i64 x.urgent, .int .i64 x.ty, .int .i64 x.code, .int .i64 x.rest, .bool x.nosum, .slice none 0 0, .slice none 0 0] 38) (by repeat (first | exact K.newAt (by first | rfl | (simp; done)) | refine K.oldAt (by first | (simp; done) | (simp; omega)) ?_)))
  have B1 := Lib.hid (show Below w.heap.size w w1 from bthen (by go_grown) b1)
  have O1 := Lib.hid (own_base o1 (show w.heap.size + 3 ≤ _ by first | (simp; done) | (simp; omega)))
  have Z := Lib.hid (show w.heap.size + 3 ≤ w1.heap.size by have := b1.size; simp at this; omega)
  clear o1 b1
  have d13 := K.cell q1.out 13 _ rfl
  have d12 := K.cell q3.out 12 _ rfl
  have f12 := frozen_of_row _ _ 12 _ _ q3.out
  go_wp2_with fail
  have q1' := Lib.hid (K.other q1.out (w.heap.size + 1 + 1) 12 (.slice A1 n c1) (by omega))
  have q2' := Lib.hid (K.other q2.out (w.heap.size + 1 + 1) 12 (.slice A1 n c1) (by omega))
  have q3' := Lib.hid (K.set q3.out 12 (.slice A1 n c1))
  have O1' := Lib.hid (own_grown O1.out (grownBy_set w1 (w.heap.size + 1 + 1) 12 (.slice A1 n c1)) (fun k hk => by have := (O1.out.lt k hk).1; simp; omega))
  have B1' := Lib.hid (B1.out.setCell (p := ⟨w.heap.size + 1 + 1, 12, none⟩) (by simp; omega) (.slice A1 n c1))
  refine Calls.mono (toFn D m d bs _ ((HS.out.below B1'.out).more B1'.out.size) HM.out hm2) ?_
  rintro e w2 ⟨D2, d2, rfl, o2, b2⟩
  have r2 := Lib.hid (K.below b2 q2'.out)
  have r3 := Lib.hid (K.below b2 q3'.out)
  have P1 := Lib.hid (own_below O1'.out b2)
  have AP := Lib.hid (apart_of (fun k hk => O1'.out.lt k hk) (fun k hk => o2.lt k hk))
  have B2 := Lib.hid (bthen B1'.out b2)
  have O2 := Lib.hid (own_base o2 (show w.heap.size + 3 ≤ _ from Nat.le_trans Z.out (by simp)))
  clear q1 q2 q3 q1' q2' q3' O1 O1' B1 B1' o2 b2 d13 d12 f12
  have d13 := K.cell r3.out 13 _ rfl
  have f13 := frozen_of_row _ _ 13 _ _ r3.out
  have s3 : Hid ((w2.setCell ⟨w.heap.size + 1 + 1, 13, none⟩ (.slice D2 m d2)).heap[w.heap.size + 1 + 1]? = some (.cells #[.int .i64 x.kind, .int .i64 x.sport, .int .i64 x.dport, .int .i64 x.seq, .int .i64 x.ack, .int .i64 x.bits, .int .i64 x.window, .int .i64 x.urgent, .int .i64 x.ty, .int .i64 x.code, .int .i64 x.rest, .bool x.nosum, .slice A1 n c1, .slice D2 m d2] 38 (0, 0))) := Lib.hid (K.set r3.out 13 _)
  have s2 : Hid ((w2.setCell ⟨w.heap.size + 1 + 1, 13, none⟩ (.slice D2 m d2)).heap[w.heap.size + 1]? = some (.cells #[.int .i64 Uh.zero.kind, .int .i64 Uh.zero.sport, .int .i64 Uh.zero.dport, .int .i64 Uh.zero.seq, .int .i64 Uh.zero.ack, .int .i64 Uh.zero.bits, .int .i64 Uh.zero.window, .int .i64 Uh.zero.urgent, .int .i64 Uh.zero.ty, .int .i64 Uh.zero.code, .int .i64 Uh.zero.rest, .bool Uh.zero.nosum, .slice none 0 0, .slice none 0 0] 38 (0, 0))) := Lib.hid (K.other r2.out _ 13 _ (by omega))
  go_wp2_with (first | (with_reducible refine loadU rfl _ rfl (w.heap.size + 1 + 1) rfl s3.out ?_) | (with_reducible refine storeU rfl _ _ rfl (w.heap.size + 1) rfl rfl s2.out ?_))
  (try simp only [Exit.inBlock, Exit.then])
  refine bodyPost_ret (v := .agg #[.int .i64 x.kind, .int .i64 x.sport, .int .i64 x.dport, .int .i64 x.seq, .int .i64 x.ack, .int .i64 x.bits, .int .i64 x.window, .int .i64 x.urgent, .int .i64 x.ty, .int .i64 x.code, .int .i64 x.rest, .bool x.nosum, .slice A1 n c1, .slice D2 m d2]) ?_ rfl ⟨A1, c1, D2, d2, rfl, ?_, ?_, AP.out, ?_⟩
  · exact resU Try.results41 _ _ (w.heap.size + 1) rfl (setRow_heap _ _ _ _ _ _ s2.out)
  · exact own_base (K.setRow_own _ (own_set P1.out _ _ _ (by omega)) (by omega)) (by omega)
  · exact own_base (K.setRow_own _ (own_set O2.out _ _ _ (by omega)) (by omega)) (by omega)
  · exact K.setRow_below (B2.out.setCell (p := ⟨w.heap.size + 1 + 1, 13, none⟩) (by simp; omega) _) (by omega) _
end Go.Proofs.Ytkmijefheejcjaa

namespace Go.Proofs.Ytkmijefheejcjaa
set_option maxRecDepth 100000
open Go.RowKit

set_option maxHeartbeats 400000 in
theorem markB0 (A : Option Addr) (c : Nat) (k : Int) (w : World) : Calls Try.prog 33 #[.slice A 0 c, .int .i64 k] w fun e w' => e = .returned (.int .i64 k) ∧ w = w' := by
  go_enter Try.func33, Try.ntmps33
  go_wp2
  go_loop [1, 5] (fun q i => i = .int .i64 0 ∧ q = .int .i64 k) (fun _ _ => 0)
  case atStart => exact ⟨rfl, rfl⟩
  case round =>
    obtain ⟨rfl, rfl⟩ := hrel
    go_wp2
    go_ret
    exact ⟨rfl, rfl⟩



end Go.Proofs.Ytkmijefheejcjaa

namespace Go.Proofs.Ytkmijefheejcjaa
set_option maxRecDepth 100000
open Go.RowKit

set_option maxHeartbeats 2000000 in
theorem eqUpC (x : Uh) (A D E G : Option Addr) (n c m d e g : Nat) (os bs : List UInt8) (w : World) (hx : RB w w.heap.size A os) (hy : RB w w.heap.size E os) (hl : os.length = n) (hn : n ≤ 1048576)
    (hz : RB w w.heap.size D bs) (hu : RB w w.heap.size G bs) (hm : bs.length = m) (hm2 : m ≤ 1048576) :
    Calls Try.prog 43 #[.agg #[.int .i64 x.kind, .int .i64 x.sport, .int .i64 x.dport, .int .i64 x.seq, .int .i64 x.ack, .int .i64 x.bits, .int .i64 x.window, .int .i64 x.urgent, .int .i64 x.ty, .int .i64 x.code, .int .i64 x.rest, .bool x.nosum, .slice A n c, .slice D m d], .agg #[.int .i64 x.kind, .int .i64 x.sport, .int .i64 x.dport, .int .i64 x.seq, .int .i64 x.ack, .int .i64 x.bits, .int .i64 x.window, .int .i64 x.urgent, .int .i64 x.ty, .int .i64 x.code, .int .i64 x.rest, .bool x.nosum, .slice E n e, .slice G m g]] w fun e w' => e = .returned (.bool true) ∧ Below w.heap.size w w' := by
  have HL := Lib.hid hl
  have HM := Lib.hid hm
  have HX := Lib.hid hx
  have HY := Lib.hid hy
  have HZ := Lib.hid hz
  have HU := Lib.hid hu
  clear hl hx hy hm hz hu
  go_enter Try.func43, Try.ntmps43
  go_wp2_with fail
  refine Calls.mono (eqBn A E n c e os _ ((HX.out.below (by go_grown)).more (by first | (simp; done) | (simp; omega))) ((HY.out.below (by go_grown)).more (by first | (simp; done) | (simp; omega))) HL.out hn) ?_
  rintro e1 w1 ⟨rfl, b1⟩
  have q1 := Lib.hid (K.on b1 (g := w.heap.size) (by first | (simp; done) | (simp; omega)) (o := .cells #[.int .i64 x.kind, .int .i64 x.sport, .int .i64 x.dport, .int .i64 x.seq, .int .i64 x.ack, .int .i64 x.bits, .int .i64 x.window, .int .i64 x.urgent, .int .i64 x.ty, .int .i64 x.code, .int .i64 x.rest, .bool x.nosum, .slice A n c, .slice D m d] 38) (by repeat (first | exact K.newAt (by first | rfl | (simp; done)) | refine K.oldAt (by first | (simp; done) | (simp; omega)) ?_)))
  have q2 := Lib.hid (K.on b1 (g := w.heap.size + 1) (by first | (simp; done) | (simp; omega)) (o := .cells #[.int .i64 x.kind, .int .i64 x.sport, .int .i64 x.dport, .int .i64 x.seq, .int .i64 x.ack, .int .i64 x.bits, .int .i64 x.window, .int .i64 x.urgent, .int .i64 x.ty, .int .i64 x.code, .int .i64 x.rest, .bool x.nosum, .slice E n e, .slice G m g] 38) (by repeat (first | exact K.newAt (by first | rfl | (simp; done)) | refine K.oldAt (by first | (simp; done) | (simp; omega)) ?_)))
  have B1 := Lib.hid (show Below w.heap.size w w1 from bthen (by go_grown) b1)
  clear b1
  have d1 := K.cell q1.out 13 _ rfl
  have d2 := K.cell q2.out 13 _ rfl
  go_wp2_with fail
  refine Calls.mono (eqBn D G m d g bs _ ((HZ.out.below B1.out).more B1.out.size) ((HU.out.below B1.out).more B1.out.size) HM.out hm2) ?_
  rintro e2 w2 ⟨rfl, b2⟩
  have B2 := Lib.hid (bthen B1.out b2)
  clear b2 d1 d2 q1 q2
  go_wp2
  go_ret
  exact ⟨rfl, B2.out⟩

set_option maxHeartbeats 2000000 in
theorem markUpC (x : Uh) (A D : Option Addr) (n c m d base : Nat) (os bs : List UInt8) (k : Int) (w : World) (ho : w.ownsRow base 5 1 (.slice A n c) n (cellsOf os)) (hb : w.ownsRow base 5 1 (.slice D m d) m (cellsOf bs))
    (hap : ∀ k, (Value.slice A n c).ownBlock = some k → (Value.slice D m d).ownBlock ≠ some k) (hn : n ≤ 1048576) (hm : m ≤ 1048576) (h0 : 0 ≤ k) (hk : k + n ≤ 1048576) :
    Calls Try.prog 50 #[.agg #[.int .i64 x.kind, .int .i64 x.sport, .int .i64 x.dport, .int .i64 x.seq, .int .i64 x.ack, .int .i64 x.bits, .int .i64 x.window, .int .i64 x.urgent, .int .i64 x.ty, .int .i64 x.code, .int .i64 x.rest, .bool x.nosum, .slice A n c, .slice D m d], .int .i64 k] w fun e w' => e = .returned (.int .i64 (k + n + m)) ∧
      w'.ownsRow base 5 1 (.slice A n c) n (cellsOf (marks k.toNat n)) ∧ w'.ownsRow base 5 1 (.slice D m d) m (cellsOf (marks (k + n).toNat m)) ∧
        ∃ u, w.grownBy u (Value.slice A n c).ownBlock ∧ u.grownBy w' (Value.slice D m d).ownBlock := by
  have HO := Lib.hid (fun o : Obj => ho.alloc o)
  have HB := Lib.hid (fun o : Obj => hb.alloc o)
  have HA := Lib.hid hap
  have LA := Lib.hid (fun k hk => (ho.lt k hk).2)
  have LB := Lib.hid (fun k hk => (hb.lt k hk).2)
  clear ho hb hap
  go_enter Try.func50, Try.ntmps50
  go_wp2_with fail
  refine Calls.mono (markBn A n c base os k _ (HO.out _) hn h0 (by omega)) ?_
  rintro e w1 ⟨rfl, o1, g1⟩
  have q1 := Lib.hid (K.kept g1 (K.new w _) (fun j hj => by have := LA.out j hj; omega))
  have P1 := Lib.hid (own_grown (HB.out _) g1 (fun j hj e => HA.out j e hj))
  have G1 := Lib.hid (grownBy_trans (only_new (K.refl w _) _) g1)
  clear g1
  have d1 := K.cell q1.out 13 _ rfl
  go_wp2_with fail
  refine Calls.mono (markBn D m d base bs (k + n) _ P1.out hm (by omega) hk) ?_
  rintro e w2 ⟨rfl, o2, g2⟩
  have O2 := Lib.hid (own_grown o1 g2 (fun j hj e => HA.out j hj e))
  have G2 := Lib.hid g2
  have O3 := Lib.hid o2
  clear o1 o2 g2 d1 q1
  go_wp2
  go_ret
  exact ⟨rfl, O2.out, O3.out, w1, G1.out, G2.out⟩

set_option maxHeartbeats 2000000 in
theorem heldUpC (x : Uh) (A D : Option Addr) (n c m d : Nat) (k : Int) (w : World) (hr : RB w w.heap.size A (marks k.toNat n)) (hs : RB w w.heap.size D (marks (k + n).toNat m)) (hn : n ≤ 1048576) (hm : m ≤ 1048576) (h0 : 0 ≤ k) (hk : k + n ≤ 1048576) :
    Calls Try.prog 52 #[.agg #[.int .i64 x.kind, .int .i64 x.sport, .int .i64 x.dport, .int .i64 x.seq, .int .i64 x.ack, .int .i64 x.bits, .int .i64 x.window, .int .i64 x.urgent, .int .i64 x.ty, .int .i64 x.code, .int .i64 x.rest, .bool x.nosum, .slice A n c, .slice D m d], .int .i64 k] w fun e w' => e = .returned (.int .i64 (k + n + m)) ∧ Below w.heap.size w w' := by
  have HR := Lib.hid (fun o : Obj => (hr.below (Joins.below_alloc1 w o)).more (show w.heap.size ≤ (w.alloc o).heap.size by simp))
  have HS := Lib.hid (fun o : Obj => (hs.below (Joins.below_alloc1 w o)).more (show w.heap.size ≤ (w.alloc o).heap.size by simp))
  clear hr hs
  go_enter Try.func52, Try.ntmps52
  go_wp2_with fail
  refine Calls.mono (heldBn A n c k _ (HR.out _) hn h0 (by omega)) ?_
  rintro e w1 ⟨rfl, rfl⟩
  go_wp2_with fail
  refine Calls.mono (heldBn D m d (k + n) _ (HS.out _) hm (by omega) hk) ?_
  rintro e w1 ⟨rfl, rfl⟩
  go_wp2
  go_ret
  exact ⟨rfl, Joins.below_alloc1 w _⟩

set_option maxHeartbeats 2000000 in
theorem markUp0 (x : Uh) (A D : Option Addr) (n c d base : Nat) (os : List UInt8) (k : Int) (w : World) (ho : w.ownsRow base 5 1 (.slice A n c) n (cellsOf os)) (hn : n ≤ 1048576) (h0 : 0 ≤ k) (hk : k ≤ 1048576) :
    Calls Try.prog 50 #[.agg #[.int .i64 x.kind, .int .i64 x.sport, .int .i64 x.dport, .int .i64 x.seq, .int .i64 x.ack, .int .i64 x.bits, .int .i64 x.window, .int .i64 x.urgent, .int .i64 x.ty, .int .i64 x.code, .int .i64 x.rest, .bool x.nosum, .slice A n c, .slice D 0 d], .int .i64 k] w fun e w' => e = .returned (.int .i64 (k + n)) ∧ w.grownBy w' (Value.slice A n c).ownBlock := by
  have HO := Lib.hid (fun o : Obj => ho.alloc o)
  have LA := Lib.hid (fun k hk => (ho.lt k hk).2)
  clear ho
  go_enter Try.func50, Try.ntmps50
  go_wp2_with fail
  refine Calls.mono (markBn A n c base os k _ (HO.out _) hn h0 hk) ?_
  rintro e w1 ⟨rfl, o1, g1⟩
  have q1 := Lib.hid (K.kept g1 (K.new w _) (fun j hj => by have := LA.out j hj; omega))
  have G1 := Lib.hid (grownBy_trans (only_new (K.refl w _) _) g1)
  clear g1 o1
  have d1 := K.cell q1.out 13 _ rfl
  go_wp2_with fail
  refine Calls.mono (markB0 D d (k + n) _) ?_
  rintro e w2 ⟨rfl, rfl⟩
  go_wp2
  go_ret
  exact ⟨rfl, G1.out⟩

theorem markUpW (x : Uh) (A D : Option Addr) (n c m d base : Nat) (os bs : List UInt8) (w : World) (ho : w.ownsRow base 5 1 (.slice A n c) n (cellsOf os)) (hb : w.ownsRow base 5 1 (.slice D m d) m (cellsOf bs))
    (hap : ∀ k, (Value.slice A n c).ownBlock = some k → (Value.slice D m d).ownBlock ≠ some k) (hn : n + m ≤ 1048576) :
    Calls Try.prog 50 #[.agg #[.int .i64 x.kind, .int .i64 x.sport, .int .i64 x.dport, .int .i64 x.seq, .int .i64 x.ack, .int .i64 x.bits, .int .i64 x.window, .int .i64 x.urgent, .int .i64 x.ty, .int .i64 x.code, .int .i64 x.rest, .bool x.nosum, .slice A n c, .slice D m d], .int .i64 1] w fun e w' => e = .returned (.int .i64 (1 + n + m)) ∧
        ∃ u, w.grownBy u (Value.slice A n c).ownBlock ∧ u.grownBy w' (Value.slice D m d).ownBlock := by
  by_cases h : m = 0
  · subst h
    exact (markUp0 x A D n c d base os 1 w ho (by omega) (by omega) (by omega)).mono fun e w' ⟨he, hg⟩ => ⟨by rw [he]; simp, w', hg, K.refl w' _⟩
  · exact (markUpC x A D n c m d base os bs 1 w ho hb hap (by omega) (by omega) (by omega) (by omega)).mono fun e w' ⟨he, _, _, hu⟩ => ⟨he, hu⟩
end Go.Proofs.Ytkmijefheejcjaa

namespace Go.Proofs.Ytkmijefheejcjaa
set_option maxRecDepth 100000
open Go.RowKit

theorem toUp_steps : Steps1 41 := by
  intro o a w K Q t u ts ho ht h
  unfold Oper.wp execOp
  simp only [ho, resolve, List.map_toArray, List.map_cons, List.map_nil, ht, show ∀ f, a.eval (.func f) = .func (.func f) #[] #[] from fun _ => rfl]
  go_simp
  exact h.mono fun e w' ⟨u, he, hk⟩ => by subst he; exact hk
theorem eqUp_steps : Steps2 43 := by
  intro o a w K Q t s u v ts ho ht hs h
  unfold Oper.wp execOp
  simp only [ho, resolve, List.map_toArray, List.map_cons, List.map_nil, ht, hs, show ∀ f, a.eval (.func f) = .func (.func f) #[] #[] from fun _ => rfl]
  go_simp
  exact h.mono fun e w' ⟨u, he, hk⟩ => by subst he; exact hk

/-- A copy of an upper layer, as the comparison wants it. -/
def UpCp (x : Uh) (os bs : List UInt8) (n m : Nat) (w : World) (u : Value) : Prop :=
  ∃ A c D d, u = .agg #[.int .i64 x.kind, .int .i64 x.sport, .int .i64 x.dport, .int .i64 x.seq, .int .i64 x.ack, .int .i64 x.bits, .int .i64 x.window, .int .i64 x.urgent, .int .i64 x.ty, .int .i64 x.code, .int .i64 x.rest, .bool x.nosum, .slice A n c, .slice D m d] ∧ RB w w.heap.size A os ∧ RB w w.heap.size D bs
theorem UpCp.on {x : Uh} {os bs : List UInt8} {n m : Nat} (w w' : World) (u : Value) (hb : Below w.heap.size w w') (h : UpCp x os bs n m w u) : UpCp x os bs n m w' u := by
  obtain ⟨A, c, D, d, e, r, s⟩ := h
  exact ⟨A, c, D, d, e, (r.below hb).more hb.size, (s.below hb).more hb.size⟩

/-- The whole comparison of an upper layer with a new copy of the argument. -/
theorem sameUpRegion {ops : Array Oper} {id : Nat} {a : Act} {w : World} {Q : Exit → Act → World → Prop} (N s1 s5 p g1 g5 : Nat) (o0 o1 o2 o3 o4 : Oper) (ts2 ts3 : Array TypeId) (ty4 : TypeId) (hops : ops = #[o0, o1, o2, o3, o4]) (hf : formB ops N [s1, s5] = true) (hN : a.tmps.size = N) (hp : p + 5 ≤ N)
    (e0 : o0.op = .load 38 (.tmp s5) ∧ o0.dst = some p) (e1 : o1.op = .load 52 (.tmp s1) ∧ o1.dst = some (p + 1)) (e2 : o2.op = .call { callee := .value (.func 41), args := #[.tmp (p + 1)], argTypes := ts2 } ∧ o2.dst = some (p + 2))
    (e3 : o3.op = .call { callee := .value (.func 43), args := #[.tmp p, .tmp (p + 2)], argTypes := ts3 } ∧ o3.dst = some (p + 3)) (e4 : o4.op = .unOp .not ty4 (.tmp (p + 3)) ∧ o4.dst = some (p + 4))
    (n2 : (needOf ops 2).contains (1, p + 1) = true) (n3 : (needOf ops 3).contains (0, p) = true) (n3' : (needOf ops 3).contains (2, p + 2) = true) (n4 : (needOf ops 4).contains (3, p + 3) = true)
    (hs1 : a.tmps.getD s1 undef = .pointer (some ⟨g1, 0, none⟩)) (hs5 : a.tmps.getD s5 undef = .pointer (some ⟨g5, 0, none⟩))
    (x : Uh) (A D E G : Option Addr) (n c m d e g : Nat) (os bs : List UInt8)
    (hq1 : w.heap[g1]? = some (.cells #[.int .i64 x.kind, .int .i64 x.sport, .int .i64 x.dport, .int .i64 x.seq, .int .i64 x.ack, .int .i64 x.bits, .int .i64 x.window, .int .i64 x.urgent, .int .i64 x.ty, .int .i64 x.code, .int .i64 x.rest, .bool x.nosum, .slice A n c, .slice D m d] 52 (0, 0))) (hq5 : w.heap[g5]? = some (.cells #[.int .i64 x.kind, .int .i64 x.sport, .int .i64 x.dport, .int .i64 x.seq, .int .i64 x.ack, .int .i64 x.bits, .int .i64 x.window, .int .i64 x.urgent, .int .i64 x.ty, .int .i64 x.code, .int .i64 x.rest, .bool x.nosum, .slice E n e, .slice G m g] 38 (0, 0)))
    (rA : RB w w.heap.size A os) (rD : RB w w.heap.size D bs) (rE : RB w w.heap.size E os) (rG : RB w w.heap.size G bs) (hl : os.length = n) (hm : bs.length = m) (hn : n ≤ 1048576) (hm2 : m ≤ 1048576)
    (h : ∀ w' u, Below w.heap.size w w' → Q .normal (((((a.put (some p) (.agg #[.int .i64 x.kind, .int .i64 x.sport, .int .i64 x.dport, .int .i64 x.seq, .int .i64 x.ack, .int .i64 x.bits, .int .i64 x.window, .int .i64 x.urgent, .int .i64 x.ty, .int .i64 x.code, .int .i64 x.rest, .bool x.nosum, .slice E n e, .slice G m g])).put (some (p + 1)) (.agg #[.int .i64 x.kind, .int .i64 x.sport, .int .i64 x.dport, .int .i64 x.seq, .int .i64 x.ack, .int .i64 x.bits, .int .i64 x.window, .int .i64 x.urgent, .int .i64 x.ty, .int .i64 x.code, .int .i64 x.rest, .bool x.nosum, .slice A n c, .slice D m d])).put (some (p + 2)) u).put (some (p + 3)) (.bool true)).put (some (p + 4)) (.bool false)) w') :
    (Code.region id ops true).wp Try.prog Q a w := by
  refine same_regionZ toUp_steps eqUp_steps N s1 s5 p g1 g5 52 38 o0 o1 o2 o3 o4 ts2 ts3 ty4 hops hf hN hp e0 e1 e2 e3 e4 n2 n3 n3' n4 hs1 hs5 _ _ (UpCp x os bs n m) (fun v v' u hb hc => hc.on v v' u hb)
    (fun v hv => run_loadVar_row _ _ _ _ _ (0, 0) _ (K.below hv hq1) Try.underlying52 rfl info_lup) (fun v hv => run_loadVar_row _ _ _ _ _ (0, 0) _ (K.below hv hq5) Try.underlying38 rfl info_up) ?_ ?_ h
  · intro v hv
    refine (toUpC x A D n c m d os bs v ((rA.below hv).more hv.size) hl hn ((rD.below hv).more hv.size) hm hm2).mono ?_
    rintro e' v' ⟨A6, c6, D6, d6, rfl, o6, p6, _, b6⟩
    exact ⟨_, rfl, ⟨A6, c6, D6, d6, rfl, RB.of_own o6, RB.of_own p6⟩, b6⟩
  · rintro v u hv ⟨A6, c6, D6, d6, rfl, r6, s6⟩
    exact eqUpC x E G A6 D6 n e m g c6 d6 os bs v ((rE.below hv).more hv.size) r6 hl hn ((rG.below hv).more hv.size) s6 hm hm2
end Go.Proofs.Ytkmijefheejcjaa

namespace Go.Proofs.Ytkmijefheejcjaa
set_option maxRecDepth 100000
open Go.RowKit

/-- An upper layer in its format. -/
def fmtV (k : Int) (v : Value) : Value := if k = 0 then .iface 125 v else if k = 1 then .iface 119 v else if k = 2 then .iface 121 v else if k = 3 then .iface 123 v else .nilIface

set_option maxHeartbeats 2000000 in
theorem formatOfC (x : Uh) (A D : Option Addr) (n c m d : Nat) (w : World) : Calls Try.prog 82 #[.agg #[.int .i64 x.kind, .int .i64 x.sport, .int .i64 x.dport, .int .i64 x.seq, .int .i64 x.ack, .int .i64 x.bits, .int .i64 x.window, .int .i64 x.urgent, .int .i64 x.ty, .int .i64 x.code, .int .i64 x.rest, .bool x.nosum, .slice A n c, .slice D m d]] w fun e w' => e = .returned (fmtV x.kind (.agg #[.int .i64 x.kind, .int .i64 x.sport, .int .i64 x.dport, .int .i64 x.seq, .int .i64 x.ack, .int .i64 x.bits, .int .i64 x.window, .int .i64 x.urgent, .int .i64 x.ty, .int .i64 x.code, .int .i64 x.rest, .bool x.nosum, .slice A n c, .slice D m d])) ∧ w' = w.alloc (.cells #[.int .i64 x.kind, .int .i64 x.sport, .int .i64 x.dport, .int .i64 x.seq, .int .i64 x.ack, .int .i64 x.bits, .int .i64 x.window, .int .i64 x.urgent, .int .i64 x.ty, .int .i64 x.code, .int .i64 x.rest, .bool x.nosum, .slice A n c, .slice D m d] 38) := by
  have q := Lib.hid (K.new w (.cells #[.int .i64 x.kind, .int .i64 x.sport, .int .i64 x.dport, .int .i64 x.seq, .int .i64 x.ack, .int .i64 x.bits, .int .i64 x.window, .int .i64 x.urgent, .int .i64 x.ty, .int .i64 x.code, .int .i64 x.rest, .bool x.nosum, .slice A n c, .slice D m d] 38))
  have hk : x.kind = 0 ∨ x.kind = 1 ∨ x.kind = 2 ∨ x.kind = 3 ∨ (x.kind ≠ 0 ∧ x.kind ≠ 1 ∧ x.kind ≠ 2 ∧ x.kind ≠ 3) := by omega
  obtain ⟨kind, sport, dport, seq, ack, bits, window, urgent, ty, code, rest, nosum⟩ := x
  simp only at hk q ⊢
  rcases hk with rfl | rfl | rfl | rfl | ⟨k0, k1, k2, k3⟩
  · go_enter Try.func82, Try.ntmps82
    go_wp2_with (with_reducible refine loadU rfl _ rfl w.heap.size rfl q.out ?_)
    go_ret
    exact ⟨rfl, rfl⟩
  · go_enter Try.func82, Try.ntmps82
    go_wp2_with (with_reducible refine loadU rfl _ rfl w.heap.size rfl q.out ?_)
    go_ret
    exact ⟨rfl, rfl⟩
  · go_enter Try.func82, Try.ntmps82
    go_wp2_with (with_reducible refine loadU rfl _ rfl w.heap.size rfl q.out ?_)
    go_ret
    exact ⟨rfl, rfl⟩
  · go_enter Try.func82, Try.ntmps82
    go_wp2_with (with_reducible refine loadU rfl _ rfl w.heap.size rfl q.out ?_)
    go_ret
    exact ⟨rfl, rfl⟩
  · go_enter Try.func82, Try.ntmps82
    go_wp2_with (with_reducible refine loadU rfl _ rfl w.heap.size rfl q.out ?_)
    go_ret
    exact ⟨by simp [fmtV, k0, k1, k2, k3], rfl⟩

set_option maxHeartbeats 2000000 in
theorem specUpSize (x : Uh) (A D : Option Addr) (n c m d : Nat) (w : World) (hn : n ≤ 1048576) (hm : m ≤ 1048576) : Calls Try.prog 47 #[.agg #[.int .i64 x.kind, .int .i64 x.sport, .int .i64 x.dport, .int .i64 x.seq, .int .i64 x.ack, .int .i64 x.bits, .int .i64 x.window, .int .i64 x.urgent, .int .i64 x.ty, .int .i64 x.code, .int .i64 x.rest, .bool x.nosum, .slice A n c, .slice D m d]] w fun e w' => e = .returned (.int .i64 (x.size n m)) ∧ Below w.heap.size w w' := by
  have hk : x.kind = 0 ∨ x.kind = 1 ∨ x.kind = 2 ∨ x.kind = 3 ∨ (x.kind ≠ 0 ∧ x.kind ≠ 1 ∧ x.kind ≠ 2 ∧ x.kind ≠ 3) := by omega
  obtain ⟨kind, sport, dport, seq, ack, bits, window, urgent, ty, code, rest, nosum⟩ := x
  simp only at hk ⊢
  rcases hk with rfl | rfl | rfl | rfl | ⟨k0, k1, k2, k3⟩
  · go_enter Try.func47, Try.ntmps47
    go_wp2
    go_ret
    exact ⟨rfl, Joins.below_alloc1 w _⟩
  · go_enter Try.func47, Try.ntmps47
    go_wp2
    go_ret
    exact ⟨rfl, Joins.below_alloc1 w _⟩
  · go_enter Try.func47, Try.ntmps47
    go_wp2
    go_ret
    exact ⟨rfl, Joins.below_alloc1 w _⟩
  · go_enter Try.func47, Try.ntmps47
    go_wp2
    go_ret
    exact ⟨rfl, Joins.below_alloc1 w _⟩
  · go_enter Try.func47, Try.ntmps47
    go_wp2
    go_ret
    exact ⟨by simp [Uh.size, k0, k1, k2, k3], Joins.below_alloc1 w _⟩
end Go.Proofs.Ytkmijefheejcjaa

namespace Go.Proofs.Ytkmijefheejcjaa
set_option maxRecDepth 100000
open Go.RowKit

theorem withinU (n hi : Int) (b : Bool) (w : World) (h : upTo n hi = b) : Calls Try.prog 102 #[.int .i64 n, .int .i64 0, .int .i64 hi] w fun e w' => e = .returned (.bool b) ∧ Below w.heap.size w w' := by
  cases b
  · exact (within_no n 0 hi w (by simp [upTo] at h; omega)).mono fun _ _ ⟨he, hw⟩ => ⟨he, hw ▸ Below.refl _ _⟩
  · simp [upTo] at h
    exact (within_yes n 0 hi w h.1 h.2).mono fun _ _ ⟨he, hw⟩ => ⟨he, hw ▸ Below.refl _ _⟩



set_option maxHeartbeats 400000 in
theorem optC (A : Option Addr) (n c : Nat) (w : World) : Calls Try.prog 158 #[.slice A n c] w fun e w' => e = .returned (.bool (optOk n)) ∧ Below w.heap.size w w' := by
  go_enter Try.func158, Try.ntmps158
  go_wp2
  all_goals (go_ret; exact ⟨ret_bool (by rw [Bool.eq_iff_iff]; simp [optOk]; omega), by go_grown⟩)
theorem optB (A : Option Addr) (n c : Nat) (b : Bool) (w : World) (h : optOk n = b) : Calls Try.prog 158 #[.slice A n c] w fun e w' => e = .returned (.bool b) ∧ Below w.heap.size w w' := h ▸ optC A n c w



set_option maxHeartbeats 400000 in
theorem specIn (n hi : Int) (w : World) : Calls Try.prog 62 #[.int .i64 n, .int .i64 hi] w fun e w' => e = .returned (.bool (upTo n hi)) ∧ w = w' := by
  go_enter Try.func62, Try.ntmps62
  go_wp2
  all_goals (go_ret; exact ⟨ret_bool (by simp [upTo]; try omega), rfl⟩)
end Go.Proofs.Ytkmijefheejcjaa
