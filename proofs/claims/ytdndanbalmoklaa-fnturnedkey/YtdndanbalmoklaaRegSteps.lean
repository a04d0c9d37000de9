/-
  The steps of a region that draws numbers off a cursor and puts them together: what each operation leaves.
-/
import Derived.Test.YtdndanbalmoklaaRegKept
import Derived.Test.YtdndanbalmoklaaCur2
import Derived.Test.YtdndanbalmoklaaAddrOf
namespace Go.Proofs.Ytdndanbalmoklaa
set_option maxRecDepth 100000
open Go.RowKit

/-- What a slot may hold: the cursor's pointer, the result's pointer, an integer, an index below n, a row of n integers, a pointer to an integer. -/
inductive Av where
  | cur | res | int | idx (n : Nat) | row (n : Nat) | cellp | ad | any
def gam (g r : Nat) : Av → World → Value → Prop
  | .cur, _, v => v = .pointer (some ⟨g, 0, none⟩)
  | .res, _, v => v = .pointer (some ⟨r, 0, none⟩)
  | .int, _, v => ∃ x : Int, v = .int .i64 x
  | .idx n, _, v => ∃ x : Nat, v = .int .i64 (x : Int) ∧ x < n
  | .row n, w, v => ∃ b, v = .slice (some ⟨b, 0, none⟩) n n ∧ b ≠ g ∧ b ≠ r ∧ ∀ j, j < n → ∃ x : Int, w.cell? ⟨b, j, none⟩ = some (.int .i64 x)
  | .cellp, w, v => ∃ b j, v = .pointer (some ⟨b, j, none⟩) ∧ b ≠ g ∧ b ≠ r ∧ ∃ x : Int, w.cell? ⟨b, j, none⟩ = some (.int .i64 x)
  | .ad, _, v => ∃ x : Ad, v = .agg #[.int .i64 x.k, .int .i64 x.a, .int .i64 x.b, .int .i64 x.c, .int .i64 x.d]
  | .any, _, _ => True
/-- Nothing has turned but the blocks g and r; there may be new ones. -/
def Turned (g r : Nat) (w w' : World) : Prop := w.heap.size ≤ w'.heap.size ∧ ∀ i, i < w.heap.size → i ≠ g → i ≠ r → w'.heap[i]? = w.heap[i]?
theorem Turned.cell {g r : Nat} {w w' : World} (h : Turned g r w w') {b j : Nat} {v : Value} (hg : b ≠ g) (hr : b ≠ r) (hc : w.cell? ⟨b, j, none⟩ = some v) : w'.cell? ⟨b, j, none⟩ = some v := by
  have hb : b < w.heap.size := World.block_lt_of_cell? _ _ hc
  rw [← hc]
  unfold World.cell?
  simp only [h.2 b hb hg hr]
theorem Turned.refl (g r : Nat) (w : World) : Turned g r w w := ⟨Nat.le_refl _, fun _ _ _ _ => rfl⟩
theorem Turned.of_grown {g r : Nat} {w w' : World} (h : w.grownBy w' (some g)) : Turned g r w w' := ⟨h.size, fun i hi h1 _ => h.block i hi (fun e => h1 (Option.some.inj e))⟩
theorem Turned.alloc (g r : Nat) (w : World) (o : Obj) : Turned g r w (w.alloc o) := ⟨by simp, fun i hi _ _ => Below.heap_alloc w o i hi⟩
theorem gam_on {g r : Nat} {w w' : World} (h : Turned g r w w') (t : Av) (v : Value) (hv : gam g r t w v) : gam g r t w' v := by
  cases t with
  | row n =>
    obtain ⟨b, h1, h2, h3, h4⟩ := hv
    refine ⟨b, h1, h2, h3, fun j hj => ?_⟩
    obtain ⟨x, hx⟩ := h4 j hj
    exact ⟨x, h.cell h2 h3 hx⟩
  | cellp =>
    obtain ⟨b, j, h1, h2, h3, x, hx⟩ := hv
    exact ⟨b, j, h1, h2, h3, x, h.cell h2 h3 hx⟩
  | _ => exact hv

theorem need_of {ops : Array Oper} {Γ : Nat → World → Value → Prop} {w : World} {a : Act} {j : Nat} (h : ∀ p ∈ needOf ops j, Γ p.1 w (a.tmps.getD p.2 undef)) (i d : Nat) (hm : (needOf ops j).contains (i, d) = true) : Γ i w (a.eval (.tmp d)) :=
  h (i, d) (by simpa using hm)
theorem out_of {a a' : Act} {out : List Nat} (h : ∀ t ∈ out, a'.tmps.getD t undef = a.tmps.getD t undef) (t : Nat) (hm : out.contains t = true) {v : Value} (hv : a.tmps.getD t undef = v) : a'.eval (.tmp t) = v := (h t (by simpa using hm)).trans hv

section
variable {o : Oper} {a : Act} {w : World} {K : Act → World → Prop} {Q : Exit → Act → World → Prop}
theorem s_move (t : Nat) (v : Value) (ho : o.op = .move (.tmp t)) (ht : a.eval (.tmp t) = v) (hK : K (a.put o.dst v) w) : o.wp Try.prog a w K Q := by
  unfold Oper.wp execOp
  simp only [ho, ht]
  go_simp
  exact hK
theorem s_pick (t : Nat) (c : Value) (ts : Array TypeId) (g : Nat) (ho : o.op = .call { callee := .value (.func 99), args := #[.tmp t, .const c], argTypes := ts }) (ht : a.eval (.tmp t) = .pointer (some ⟨g, 0, none⟩))
    (h : Calls Try.prog 99 #[.pointer (some ⟨g, 0, none⟩), c] w fun e w' => ∃ u, e = .returned u ∧ K (a.put o.dst u) w') : o.wp Try.prog a w K Q := by
  unfold Oper.wp execOp
  simp only [ho, resolve, List.map_toArray, List.map_cons, List.map_nil, ht, show a.eval (.const c) = c from rfl, show ∀ f, a.eval (.func f) = .func (.func f) #[] #[] from fun _ => rfl]
  go_simp
  exact h.mono fun e w' ⟨u, he, hk⟩ => by subst he; exact hk
theorem s_wide (t : Nat) (c : Value) (ts : Array TypeId) (g : Nat) (ho : o.op = .call { callee := .value (.func 174), args := #[.tmp t, .const c], argTypes := ts }) (ht : a.eval (.tmp t) = .pointer (some ⟨g, 0, none⟩))
    (h : Calls Try.prog 174 #[.pointer (some ⟨g, 0, none⟩), c] w fun e w' => ∃ u, e = .returned u ∧ K (a.put o.dst u) w') : o.wp Try.prog a w K Q := by
  unfold Oper.wp execOp
  simp only [ho, resolve, List.map_toArray, List.map_cons, List.map_nil, ht, show a.eval (.const c) = c from rfl, show ∀ f, a.eval (.func f) = .func (.func f) #[] #[] from fun _ => rfl]
  go_simp
  exact h.mono fun e w' ⟨u, he, hk⟩ => by subst he; exact hk
theorem s_load (t : Nat) (b j : Nat) (v : Value) (ho : o.op = .load 3 (.tmp t)) (ht : a.eval (.tmp t) = .pointer (some ⟨b, j, none⟩)) (hc : w.cell? ⟨b, j, none⟩ = some v) (hK : K (a.put o.dst v) w) : o.wp Try.prog a w K Q := by
  unfold Oper.wp execOp
  simp only [ho, ht]
  go_simp
  exact hK
theorem s_idx (t u : Nat) (b n y : Nat) (ho : o.op = .indexAddr 65 (.tmp t) (.tmp u)) (ht : a.eval (.tmp t) = .slice (some ⟨b, 0, none⟩) n n) (hu : a.eval (.tmp u) = .int .i64 (y : Int)) (hy : (y : Int) < (n : Int)) (hK : K (a.put o.dst (.pointer (some ⟨b, y, none⟩))) w) : o.wp Try.prog a w K Q := by
  unfold Oper.wp execOp
  simp only [ho, ht, hu]
  go_simp
  exact hK
theorem s_mul (x y : Operand) (m n : Int) (ho : o.op = .binOp .mul 3 x y 3) (hx : a.eval x = .int .i64 m) (hy : a.eval y = .int .i64 n) (hK : ∀ z : Int, K (a.put o.dst (.int .i64 z)) w) : o.wp Try.prog a w K Q := by
  unfold Oper.wp execOp
  simp only [ho, hx, hy]
  go_simp
  exact hK _
theorem s_add (x y : Operand) (m n : Int) (ho : o.op = .binOp .add 3 x y 3) (hx : a.eval x = .int .i64 m) (hy : a.eval y = .int .i64 n) (hK : ∀ z : Int, K (a.put o.dst (.int .i64 z)) w) : o.wp Try.prog a w K Q := by
  unfold Oper.wp execOp
  simp only [ho, hx, hy]
  go_simp
  exact hK _
theorem s_sub (x y : Operand) (m n : Int) (ho : o.op = .binOp .sub 3 x y 3) (hx : a.eval x = .int .i64 m) (hy : a.eval y = .int .i64 n) (hK : ∀ z : Int, K (a.put o.dst (.int .i64 z)) w) : o.wp Try.prog a w K Q := by
  unfold Oper.wp execOp
  simp only [ho, hx, hy]
  go_simp
  exact hK _
theorem s_row2 (x0 x1 : Operand) (m0 m1 : Int) (ho : o.op = .buildSlice 65 2 #[(0, x0), (1, x1)]) (h0 : a.eval x0 = .int .i64 m0) (h1 : a.eval x1 = .int .i64 m1)
    (hK : K (a.put o.dst (.slice (some ⟨w.heap.size, 0, none⟩) 2 2)) (w.alloc (.cells #[.int .i64 m0, .int .i64 m1] 3))) : o.wp Try.prog a w K Q := by
  unfold Oper.wp execOp
  simp only [ho, List.map_toArray, List.map_cons, List.map_nil, h0, h1]
  go_simp
  exact hK
theorem s_row3 (x0 x1 x2 : Operand) (m0 m1 m2 : Int) (ho : o.op = .buildSlice 65 3 #[(0, x0), (1, x1), (2, x2)]) (h0 : a.eval x0 = .int .i64 m0) (h1 : a.eval x1 = .int .i64 m1) (h2 : a.eval x2 = .int .i64 m2)
    (hK : K (a.put o.dst (.slice (some ⟨w.heap.size, 0, none⟩) 3 3)) (w.alloc (.cells #[.int .i64 m0, .int .i64 m1, .int .i64 m2] 3))) : o.wp Try.prog a w K Q := by
  unfold Oper.wp execOp
  simp only [ho, List.map_toArray, List.map_cons, List.map_nil, h0, h1, h2]
  go_simp
  exact hK
theorem s_ad (x0 x1 x2 x3 x4 : Operand) (m0 m1 m2 m3 m4 : Int) (ho : o.op = .build 29 #[(0, x0), (1, x1), (2, x2), (3, x3), (4, x4)]) (h0 : a.eval x0 = .int .i64 m0) (h1 : a.eval x1 = .int .i64 m1) (h2 : a.eval x2 = .int .i64 m2) (h3 : a.eval x3 = .int .i64 m3) (h4 : a.eval x4 = .int .i64 m4)
    (hK : K (a.put o.dst (.agg #[.int .i64 m0, .int .i64 m1, .int .i64 m2, .int .i64 m3, .int .i64 m4])) w) : o.wp Try.prog a w K Q := by
  unfold Oper.wp execOp
  simp only [ho, List.map_toArray, List.map_cons, List.map_nil, h0, h1, h2, h3, h4]
  go_simp
  exact hK
theorem s_store5 (x y : Operand) (r : Nat) (z z' : Ad) (ho : o.op = .store 29 x y) (hx : a.eval x = .pointer (some ⟨r, 0, none⟩)) (hy : a.eval y = .agg #[.int .i64 z.k, .int .i64 z.a, .int .i64 z.b, .int .i64 z.c, .int .i64 z.d]) (hr : w.heap[r]? = some (.cells #[.int .i64 z'.k, .int .i64 z'.a, .int .i64 z'.b, .int .i64 z'.c, .int .i64 z'.d] 29 (0, 0)))
    (hK : K (a.put o.dst undef) (((((w.setCell ⟨r, 0, none⟩ (.int .i64 z.k)).setCell ⟨r, 1, none⟩ (.int .i64 z.a)).setCell ⟨r, 2, none⟩ (.int .i64 z.b)).setCell ⟨r, 3, none⟩ (.int .i64 z.c)).setCell ⟨r, 4, none⟩ (.int .i64 z.d))) : o.wp Try.prog a w K Q := by
  obtain ⟨⟨c0, c1, c2, c3, c4⟩, f0, f1, f2, f3, f4⟩ := row5 hr
  clear hr
  unfold Oper.wp execOp
  simp only [ho, hx, hy]
  go_simp
  exact hK
theorem cells3 (w : World) (x0 x1 x2 : Int) (j : Nat) (h : j < 3) : ∃ x : Int, (w.alloc (.cells #[.int .i64 x0, .int .i64 x1, .int .i64 x2] 3)).cell? ⟨w.heap.size, j, none⟩ = some (.int .i64 x) := by
  rw [cell_of_row _ w.heap.size j _ 3 (0, 0) (heap_alloc_new w _)]
  match j, h with
  | 0, _ => exact ⟨x0, rfl⟩
  | 1, _ => exact ⟨x1, rfl⟩
  | 2, _ => exact ⟨x2, rfl⟩
theorem cells2 (w : World) (x0 x1 : Int) (j : Nat) (h : j < 2) : ∃ x : Int, (w.alloc (.cells #[.int .i64 x0, .int .i64 x1] 3)).cell? ⟨w.heap.size, j, none⟩ = some (.int .i64 x) := by
  rw [cell_of_row _ w.heap.size j _ 3 (0, 0) (heap_alloc_new w _)]
  match j, h with
  | 0, _ => exact ⟨x0, rfl⟩
  | 1, _ => exact ⟨x1, rfl⟩
end

/-- What stands in a region that draws numbers off the cursor in block g and lays an address into block r: W is the world at the call's begin. -/
def InReg (W : World) (g r : Nat) (A : Option Addr) (c : Nat) (bs : List UInt8) (t : Nat) (k : Nat) (w : World) : Prop :=
  (∃ t', t' ≤ t + 4 * k ∧ Cur w g A c bs t') ∧ (∃ x : Ad, w.heap[r]? = some (.cells #[.int .i64 x.k, .int .i64 x.a, .int .i64 x.b, .int .i64 x.c, .int .i64 x.d] 29 (0, 0))) ∧ W.grownBy w (some g)
section
variable {W w w' : World} {g r : Nat} {A : Option Addr} {c : Nat} {bs : List UInt8} {t k : Nat}
theorem InReg.more (h : InReg W g r A c bs t k w) : InReg W g r A c bs t (k + 1) w := by
  obtain ⟨⟨t', h1, h2⟩, h3, h4⟩ := h
  exact ⟨⟨t', by omega, h2⟩, h3, h4⟩
theorem InReg.alloc (h : InReg W g r A c bs t k w) (o : Obj) : InReg W g r A c bs t (k + 1) (w.alloc o) := by
  obtain ⟨⟨t', h1, h2⟩, ⟨x, hx⟩, h4⟩ := h
  refine ⟨⟨t', by omega, h2.below (Joins.below_alloc1 w o)⟩, ⟨x, (Below.heap_alloc w o r (Array.getElem?_eq_some_iff.1 hx).1).trans hx⟩, only_new h4 o⟩
theorem InReg.drawn (h : InReg W g r A c bs t k w) (hg : w.grownBy w' (some g)) (hrg : r ≠ g) {t' : Nat} (ht : t' ≤ t + 4 * (k + 1)) (hc : Cur w' g A c bs t') : InReg W g r A c bs t (k + 1) w' := by
  obtain ⟨_, ⟨x, hx⟩, h4⟩ := h
  exact ⟨⟨t', ht, hc⟩, ⟨x, (hg.block r (Array.getElem?_eq_some_iff.1 hx).1 (fun e => hrg (Option.some.inj e))).trans hx⟩, grownBy_trans h4 hg⟩
end
end Go.Proofs.Ytdndanbalmoklaa
