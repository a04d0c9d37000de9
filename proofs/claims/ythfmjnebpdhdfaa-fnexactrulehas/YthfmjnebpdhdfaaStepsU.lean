/-
  Single operations of a region, each by what it leaves: moves, sums, loads of one cell, a slice of two bytes.
-/
import Derived.Test.YthfmjnebpdhdfaaFourReg
import Derived.Test.YthfmjnebpdhdfaaFourHead
namespace Go.Proofs.Ythfmjnebpdhdfaa
set_option maxRecDepth 100000
open Go.RowKit

section
variable {o : Oper} {a : Act} {w : World} {K : Act → World → Prop} {Q : Exit → Act → World → Prop}
theorem u_move (x : Operand) (v : Value) (ho : o.op = .move x) (hx : a.eval x = v) (hK : K (a.put o.dst v) w) : o.wp Try.prog a w K Q := by
  unfold Oper.wp execOp
  simp only [ho, hx]
  go_simp
  exact hK
theorem u_assign (x : Operand) (v : Value) (ho : o.op = .assign x) (hx : a.eval x = v) (hK : K (a.put o.dst v) w) : o.wp Try.prog a w K Q := by
  unfold Oper.wp execOp
  simp only [ho, hx]
  go_simp
  exact hK
theorem u_lenB (x : Operand) (A : Option Addr) (n c : Nat) (ho : o.op = .call { callee := .builtin .len, args := #[x], argTypes := #[43] }) (hx : a.eval x = .slice A n c) (hK : K (a.put o.dst (.int .i64 (n : Int))) w) : o.wp Try.prog a w K Q := by
  unfold Oper.wp execOp
  simp only [ho, resolve, invoke, builtin, List.map_toArray, List.map_cons, List.map_nil, hx]
  go_simp
  exact hK
theorem u_add (x y : Operand) (m n : Int) (ho : o.op = .binOp .add 3 x y 3) (hx : a.eval x = .int .i64 m) (hy : a.eval y = .int .i64 n) (h0 : -4611686018427387904 ≤ m) (h1 : m ≤ 4611686018427387904) (h2 : -4611686018427387904 < n) (h3 : n < 4611686018427387904) (hK : K (a.put o.dst (.int .i64 (m + n))) w) : o.wp Try.prog a w K Q := by
  unfold Oper.wp execOp
  simp only [ho, hx, hy]
  go_simp
  rw [show IntKind.i64.wrap (m + n) = m + n by rw [IntKind.wrap_i64]; omega]
  exact hK
theorem u_sub (x y : Operand) (m n : Int) (ho : o.op = .binOp .sub 3 x y 3) (hx : a.eval x = .int .i64 m) (hy : a.eval y = .int .i64 n) (h0 : -4611686018427387904 ≤ m) (h1 : m ≤ 4611686018427387904) (h2 : -4611686018427387904 < n) (h3 : n < 4611686018427387904) (hK : K (a.put o.dst (.int .i64 (m - n))) w) : o.wp Try.prog a w K Q := by
  unfold Oper.wp execOp
  simp only [ho, hx, hy]
  go_simp
  rw [show IntKind.i64.wrap (m - n) = m - n by rw [IntKind.wrap_i64]; omega]
  exact hK
theorem u_byte (x : Operand) (m : Int) (ho : o.op = .convert 3 5 x) (hx : a.eval x = .int .i64 m) (h0 : 0 ≤ m) (h1 : m ≤ 255) (hK : K (a.put o.dst (.int .u8 m)) w) : o.wp Try.prog a w K Q := by
  unfold Oper.wp execOp
  simp only [ho, hx]
  go_simp
  rw [show IntKind.u8.wrap m = m by rw [IntKind.wrap_u8]; omega]
  exact hK
theorem u_int (x : Operand) (g j : Nat) (v : Value) (ho : o.op = .load 3 x) (hx : a.eval x = .pointer (some ⟨g, j, none⟩)) (hc : w.cell? ⟨g, j, none⟩ = some v) (hK : K (a.put o.dst v) w) : o.wp Try.prog a w K Q := by
  unfold Oper.wp execOp
  simp only [ho, hx]
  go_simp
  exact hK
theorem u_bytes (x : Operand) (g j : Nat) (v : Value) (ho : o.op = .load 43 x) (hx : a.eval x = .pointer (some ⟨g, j, none⟩)) (hc : w.cell? ⟨g, j, none⟩ = some v) (hK : K (a.put o.dst v) w) : o.wp Try.prog a w K Q := by
  unfold Oper.wp execOp
  simp only [ho, hx]
  go_simp
  exact hK
theorem u_two (x y : Operand) (m n : Int) (ho : o.op = .buildSlice 43 2 #[(0, x), (1, y)]) (hx : a.eval x = .int .u8 m) (hy : a.eval y = .int .u8 n) (hm : 0 ≤ m ∧ m < 256) (hn : 0 ≤ n ∧ n < 256)
    (hK : ∀ v w', (∃ A c, v = .slice A 2 c ∧ RB w' w'.heap.size A [byteOf m, byteOf n]) → Below w.heap.size w w' → K (a.put o.dst v) w') : o.wp Try.prog a w K Q := by
  unfold Oper.wp execOp
  simp only [ho, List.map_toArray, List.map_cons, List.map_nil, hx, hy]
  go_simp
  exact hK _ _ ⟨_, _, rfl, by have := rb_twos w m n hm hn; simpa using this⟩ (Joins.below_alloc1 w _)
end
end Go.Proofs.Ythfmjnebpdhdfaa
