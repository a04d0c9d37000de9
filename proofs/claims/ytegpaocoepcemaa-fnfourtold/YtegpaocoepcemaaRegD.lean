/-
  The steps of a region that draws numbers off a cursor in one order and puts them together: what each operation leaves, number by number.
-/
import Derived.Test.YtegpaocoepcemaaRegChain
import Derived.Test.YtegpaocoepcemaaCurD2
import Derived.Test.YtegpaocoepcemaaCells
namespace Go.Proofs.Ytegpaocoepcemaa.K
open Go.RowKit

/-- What a slot holds: the cursor's pointer, the result's pointer, an integer, a row of integers, a pointer to an integer, a value. -/
inductive Dv where
  | cur | res | int (x : Int) | row (xs : List Int) | cellp (x : Int) | val (v : Value) | any
def gam (g r : Nat) : Dv → World → Value → Prop
  | .cur, _, v => v = .pointer (some ⟨g, 0, none⟩)
  | .res, _, v => v = .pointer (some ⟨r, 0, none⟩)
  | .int x, _, v => v = .int .i64 x
  | .row xs, w, v => ∃ b, v = .slice (some ⟨b, 0, none⟩) xs.length xs.length ∧ b ≠ g ∧ b ≠ r ∧ ∀ j x, xs[j]? = some x → w.cell? ⟨b, j, none⟩ = some (.int .i64 x)
  | .cellp x, w, v => ∃ b j, v = .pointer (some ⟨b, j, none⟩) ∧ b ≠ g ∧ b ≠ r ∧ w.cell? ⟨b, j, none⟩ = some (.int .i64 x)
  | .val u, _, v => v = u
  | .any, _, _ => True
/-- Nothing has turned but the blocks g and r; there may be new ones. -/
def Turned (g r : Nat) (w w' : World) : Prop := w.heap.size ≤ w'.heap.size ∧ ∀ i, i < w.heap.size → i ≠ g → i ≠ r → w'.heap[i]? = w.heap[i]?
theorem Turned.cell {g r : Nat} {w w' : World} (h : Turned g r w w') {b j : Nat} {v : Value} (hg : b ≠ g) (hr : b ≠ r) (hc : w.cell? ⟨b, j, none⟩ = some v) : w'.cell? ⟨b, j, none⟩ = some v := by
  have hb : b < w.heap.size := World.block_lt_of_cell? _ _ hc
  rw [← hc]
  unfold World.cell?
  simp only [h.2 b hb hg hr]
theorem Turned.refl (g r : Nat) (w : World) : Turned g r w w := ⟨Nat.le_refl _, fun _ _ _ _ => rfl⟩
theorem Turned.of_grown {g r : Nat} {w w' : World} (h : w.grownBy w' (some g)) : Turned g r w w' := ⟨h.size, fun i hi h1 _ => h.block i hi (fun e => h1 (Option.some.inj e))⟩
theorem Turned.alloc (g r : Nat) (w : World) (o : Obj) : Turned g r w (w.alloc o) := ⟨by simp, fun i hi _ _ => Below.heap_alloc w o i hi⟩
theorem Turned.set {g r : Nat} {w w' : World} (h : Turned g r w w') (i : Nat) (v : Value) : Turned g r w (w'.setCell ⟨r, i, none⟩ v) :=
  ⟨by simpa using h.1, fun k hk h1 h2 => (heap_setCell_other w' ⟨r, i, none⟩ k v h2).trans (h.2 k hk h1 h2)⟩
theorem gam_on {g r : Nat} {w w' : World} (h : Turned g r w w') (t : Dv) (v : Value) (hv : gam g r t w v) : gam g r t w' v := by
  cases t with
  | row xs =>
    obtain ⟨b, h1, h2, h3, h4⟩ := hv
    exact ⟨b, h1, h2, h3, fun j x hx => h.cell h2 h3 (h4 j x hx)⟩
  | cellp x =>
    obtain ⟨b, j, h1, h2, h3, hx⟩ := hv
    exact ⟨b, j, h1, h2, h3, h.cell h2 h3 hx⟩
  | _ => exact hv
theorem need {ops : Array Oper} {Γ : Nat → World → Value → Prop} {w : World} {a : Act} {j : Nat} (h : ∀ p ∈ needOf ops j, Γ p.1 w (a.tmps.getD p.2 undef)) (i d : Nat) (hm : (needOf ops j).contains (i, d) = true) : Γ i w (a.eval (.tmp d)) :=
  h (i, d) (by simpa using hm)
theorem outer {a a' : Act} {out : List Nat} (h : ∀ t ∈ out, a'.tmps.getD t undef = a.tmps.getD t undef) (t : Nat) (hm : out.contains t = true) {v : Value} (hv : a.tmps.getD t undef = v) : a'.eval (.tmp t) = v := (h t (by simpa using hm)).trans hv

section
variable {o : Oper} {a : Act} {w : World} {K : Act → World → Prop} {Q : Exit → Act → World → Prop}

theorem d_move (t : Nat) (v : Value) (ho : o.op = .move (.tmp t)) (ht : a.eval (.tmp t) = v) (hK : K (a.put o.dst v) w) : o.wp Try.prog a w K Q := by
  unfold Oper.wp execOp
  simp only [ho, ht]
  go_simp
  exact hK

theorem d_pick (t : Nat) (c : Value) (ts : Array TypeId) (g : Nat) (ho : o.op = .call { callee := .value (.func 96), args := #[.tmp t, .const c], argTypes := ts }) (ht : a.eval (.tmp t) = .pointer (some ⟨g, 0, none⟩))
    (h : Calls Try.prog 96 #[.pointer (some ⟨g, 0, none⟩), c] w fun e w' => ∃ u, e = .returned u ∧ K (a.put o.dst u) w') : o.wp Try.prog a w K Q := by
  unfold Oper.wp execOp
  simp only [ho, resolve, List.map_toArray, List.map_cons, List.map_nil, ht, show a.eval (.const c) = c from rfl, show ∀ f, a.eval (.func f) = .func (.func f) #[] #[] from fun _ => rfl]
  go_simp
  exact h.mono fun e w' ⟨u, he, hk⟩ => by subst he; exact hk

theorem d_wide (t : Nat) (c : Value) (ts : Array TypeId) (g : Nat) (ho : o.op = .call { callee := .value (.func 108), args := #[.tmp t, .const c], argTypes := ts }) (ht : a.eval (.tmp t) = .pointer (some ⟨g, 0, none⟩))
    (h : Calls Try.prog 108 #[.pointer (some ⟨g, 0, none⟩), c] w fun e w' => ∃ u, e = .returned u ∧ K (a.put o.dst u) w') : o.wp Try.prog a w K Q := by
  unfold Oper.wp execOp
  simp only [ho, resolve, List.map_toArray, List.map_cons, List.map_nil, ht, show a.eval (.const c) = c from rfl, show ∀ f, a.eval (.func f) = .func (.func f) #[] #[] from fun _ => rfl]
  go_simp
  exact h.mono fun e w' ⟨u, he, hk⟩ => by subst he; exact hk

theorem d_raw (t : Nat) (ts : Array TypeId) (g : Nat) (ho : o.op = .call { callee := .value (.func 97), args := #[.tmp t], argTypes := ts }) (ht : a.eval (.tmp t) = .pointer (some ⟨g, 0, none⟩))
    (h : Calls Try.prog 97 #[.pointer (some ⟨g, 0, none⟩)] w fun e w' => ∃ u, e = .returned u ∧ K (a.put o.dst u) w') : o.wp Try.prog a w K Q := by
  unfold Oper.wp execOp
  simp only [ho, resolve, List.map_toArray, List.map_cons, List.map_nil, ht, show ∀ f, a.eval (.func f) = .func (.func f) #[] #[] from fun _ => rfl]
  go_simp
  exact h.mono fun e w' ⟨u, he, hk⟩ => by subst he; exact hk

theorem d_load (t : Nat) (b j : Nat) (v : Value) (ho : o.op = .load 3 (.tmp t)) (ht : a.eval (.tmp t) = .pointer (some ⟨b, j, none⟩)) (hc : w.cell? ⟨b, j, none⟩ = some v) (hK : K (a.put o.dst v) w) : o.wp Try.prog a w K Q := by
  unfold Oper.wp execOp
  simp only [ho, ht]
  go_simp
  exact hK

theorem d_idx (t u : Nat) (b n y : Nat) (ho : o.op = .indexAddr 113 (.tmp t) (.tmp u)) (ht : a.eval (.tmp t) = .slice (some ⟨b, 0, none⟩) n n) (hu : a.eval (.tmp u) = .int .i64 (y : Int)) (hy : (y : Int) < (n : Int)) (hK : K (a.put o.dst (.pointer (some ⟨b, y, none⟩))) w) : o.wp Try.prog a w K Q := by
  unfold Oper.wp execOp
  simp only [ho, ht, hu]
  go_simp
  exact hK

theorem d_mul (x y : Operand) (m n : Int) (ho : o.op = .binOp .mul 3 x y 3) (hx : a.eval x = .int .i64 m) (hy : a.eval y = .int .i64 n) (hK : K (a.put o.dst (.int .i64 (IntKind.i64.wrap (m * n)))) w) : o.wp Try.prog a w K Q := by
  unfold Oper.wp execOp
  simp only [ho, hx, hy]
  go_simp
  exact hK

theorem d_add (x y : Operand) (m n : Int) (ho : o.op = .binOp .add 3 x y 3) (hx : a.eval x = .int .i64 m) (hy : a.eval y = .int .i64 n) (hK : K (a.put o.dst (.int .i64 (IntKind.i64.wrap (m + n)))) w) : o.wp Try.prog a w K Q := by
  unfold Oper.wp execOp
  simp only [ho, hx, hy]
  go_simp
  exact hK

theorem d_sub (x y : Operand) (m n : Int) (ho : o.op = .binOp .sub 3 x y 3) (hx : a.eval x = .int .i64 m) (hy : a.eval y = .int .i64 n) (hK : K (a.put o.dst (.int .i64 (IntKind.i64.wrap (m - n)))) w) : o.wp Try.prog a w K Q := by
  unfold Oper.wp execOp
  simp only [ho, hx, hy]
  go_simp
  exact hK

theorem d_row2 (x0 x1 : Operand) (m0 m1 : Int) (ho : o.op = .buildSlice 113 2 #[(0, x0), (1, x1)]) (h0 : a.eval x0 = .int .i64 m0) (h1 : a.eval x1 = .int .i64 m1)
    (hK : K (a.put o.dst (.slice (some ⟨w.heap.size, 0, none⟩) 2 2)) (w.alloc (.cells #[.int .i64 m0, .int .i64 m1] 3))) : o.wp Try.prog a w K Q := by
  unfold Oper.wp execOp
  simp only [ho, List.map_toArray, List.map_cons, List.map_nil, h0, h1]
  go_simp
  exact hK

theorem d_row3 (x0 x1 x2 : Operand) (m0 m1 m2 : Int) (ho : o.op = .buildSlice 113 3 #[(0, x0), (1, x1), (2, x2)]) (h0 : a.eval x0 = .int .i64 m0) (h1 : a.eval x1 = .int .i64 m1) (h2 : a.eval x2 = .int .i64 m2)
    (hK : K (a.put o.dst (.slice (some ⟨w.heap.size, 0, none⟩) 3 3)) (w.alloc (.cells #[.int .i64 m0, .int .i64 m1, .int .i64 m2] 3))) : o.wp Try.prog a w K Q := by
  unfold Oper.wp execOp
  simp only [ho, List.map_toArray, List.map_cons, List.map_nil, h0, h1, h2]
  go_simp
  exact hK

theorem d_row4 (x0 x1 x2 x3 : Operand) (m0 m1 m2 m3 : Int) (ho : o.op = .buildSlice 113 4 #[(0, x0), (1, x1), (2, x2), (3, x3)]) (h0 : a.eval x0 = .int .i64 m0) (h1 : a.eval x1 = .int .i64 m1) (h2 : a.eval x2 = .int .i64 m2) (h3 : a.eval x3 = .int .i64 m3)
    (hK : K (a.put o.dst (.slice (some ⟨w.heap.size, 0, none⟩) 4 4)) (w.alloc (.cells #[.int .i64 m0, .int .i64 m1, .int .i64 m2, .int .i64 m3] 3))) : o.wp Try.prog a w K Q := by
  unfold Oper.wp execOp
  simp only [ho, List.map_toArray, List.map_cons, List.map_nil, h0, h1, h2, h3]
  go_simp
  exact hK

theorem d_row5 (x0 x1 x2 x3 x4 : Operand) (m0 m1 m2 m3 m4 : Int) (ho : o.op = .buildSlice 113 5 #[(0, x0), (1, x1), (2, x2), (3, x3), (4, x4)]) (h0 : a.eval x0 = .int .i64 m0) (h1 : a.eval x1 = .int .i64 m1) (h2 : a.eval x2 = .int .i64 m2) (h3 : a.eval x3 = .int .i64 m3) (h4 : a.eval x4 = .int .i64 m4)
    (hK : K (a.put o.dst (.slice (some ⟨w.heap.size, 0, none⟩) 5 5)) (w.alloc (.cells #[.int .i64 m0, .int .i64 m1, .int .i64 m2, .int .i64 m3, .int .i64 m4] 3))) : o.wp Try.prog a w K Q := by
  unfold Oper.wp execOp
  simp only [ho, List.map_toArray, List.map_cons, List.map_nil, h0, h1, h2, h3, h4]
  go_simp
  exact hK

theorem d_row6 (x0 x1 x2 x3 x4 x5 : Operand) (m0 m1 m2 m3 m4 m5 : Int) (ho : o.op = .buildSlice 113 6 #[(0, x0), (1, x1), (2, x2), (3, x3), (4, x4), (5, x5)]) (h0 : a.eval x0 = .int .i64 m0) (h1 : a.eval x1 = .int .i64 m1) (h2 : a.eval x2 = .int .i64 m2) (h3 : a.eval x3 = .int .i64 m3) (h4 : a.eval x4 = .int .i64 m4) (h5 : a.eval x5 = .int .i64 m5)
    (hK : K (a.put o.dst (.slice (some ⟨w.heap.size, 0, none⟩) 6 6)) (w.alloc (.cells #[.int .i64 m0, .int .i64 m1, .int .i64 m2, .int .i64 m3, .int .i64 m4, .int .i64 m5] 3))) : o.wp Try.prog a w K Q := by
  unfold Oper.wp execOp
  simp only [ho, List.map_toArray, List.map_cons, List.map_nil, h0, h1, h2, h3, h4, h5]
  go_simp
  exact hK

theorem d_row7 (x0 x1 x2 x3 x4 x5 x6 : Operand) (m0 m1 m2 m3 m4 m5 m6 : Int) (ho : o.op = .buildSlice 113 7 #[(0, x0), (1, x1), (2, x2), (3, x3), (4, x4), (5, x5), (6, x6)]) (h0 : a.eval x0 = .int .i64 m0) (h1 : a.eval x1 = .int .i64 m1) (h2 : a.eval x2 = .int .i64 m2) (h3 : a.eval x3 = .int .i64 m3) (h4 : a.eval x4 = .int .i64 m4) (h5 : a.eval x5 = .int .i64 m5) (h6 : a.eval x6 = .int .i64 m6)
    (hK : K (a.put o.dst (.slice (some ⟨w.heap.size, 0, none⟩) 7 7)) (w.alloc (.cells #[.int .i64 m0, .int .i64 m1, .int .i64 m2, .int .i64 m3, .int .i64 m4, .int .i64 m5, .int .i64 m6] 3))) : o.wp Try.prog a w K Q := by
  unfold Oper.wp execOp
  simp only [ho, List.map_toArray, List.map_cons, List.map_nil, h0, h1, h2, h3, h4, h5, h6]
  go_simp
  exact hK

theorem d_row8 (x0 x1 x2 x3 x4 x5 x6 x7 : Operand) (m0 m1 m2 m3 m4 m5 m6 m7 : Int) (ho : o.op = .buildSlice 113 8 #[(0, x0), (1, x1), (2, x2), (3, x3), (4, x4), (5, x5), (6, x6), (7, x7)]) (h0 : a.eval x0 = .int .i64 m0) (h1 : a.eval x1 = .int .i64 m1) (h2 : a.eval x2 = .int .i64 m2) (h3 : a.eval x3 = .int .i64 m3) (h4 : a.eval x4 = .int .i64 m4) (h5 : a.eval x5 = .int .i64 m5) (h6 : a.eval x6 = .int .i64 m6) (h7 : a.eval x7 = .int .i64 m7)
    (hK : K (a.put o.dst (.slice (some ⟨w.heap.size, 0, none⟩) 8 8)) (w.alloc (.cells #[.int .i64 m0, .int .i64 m1, .int .i64 m2, .int .i64 m3, .int .i64 m4, .int .i64 m5, .int .i64 m6, .int .i64 m7] 3))) : o.wp Try.prog a w K Q := by
  unfold Oper.wp execOp
  simp only [ho, List.map_toArray, List.map_cons, List.map_nil, h0, h1, h2, h3, h4, h5, h6, h7]
  go_simp
  exact hK
end
theorem row_cells (w : World) (xs : List Int) (cs : Array Value) (hcs : cs = (xs.map fun x => Value.int .i64 x).toArray) (t : TypeId) (j : Nat) (x : Int) (h : xs[j]? = some x) : (w.alloc (.cells cs t)).cell? ⟨w.heap.size, j, none⟩ = some (.int .i64 x) := by
  rw [hcs, cell_of_row _ w.heap.size j _ t (0, 0) (heap_alloc_new w _)]
  simp [h]
end Go.Proofs.Ytegpaocoepcemaa.K
