/-
  Single operations on rules and rows of rules, each by what it leaves.
-/
import Derived.Test.YthfmjnebpdhdfaaRuRow
import Derived.Test.YthfmjnebpdhdfaaRegFacts
namespace Go.Proofs.Ythfmjnebpdhdfaa
set_option maxRecDepth 100000
open Go.RowKit

section
variable {o : Oper} {a : Act} {w : World} {K : Act → World → Prop} {Q : Exit → Act → World → Prop}
theorem r_move (x : Operand) (v : Value) (ho : o.op = .move x) (hx : a.eval x = v) (hK : K (a.put o.dst v) w) : o.wp Try.prog a w K Q := by
  unfold Oper.wp execOp
  simp only [ho, hx]
  go_simp
  exact hK
theorem r_idx (x y : Operand) (g of n c k : Nat) (ho : o.op = .indexAddr 54 x y) (hx : a.eval x = .slice (some ⟨g, of, none⟩) n c) (hy : a.eval y = .int .i64 (k : Int)) (hk : k < n) (hK : K (a.put o.dst (.pointer (some ⟨g, of + k * 21, none⟩))) w) : o.wp Try.prog a w K Q := by
  unfold Oper.wp execOp
  simp only [ho, hx, hy]
  go_simp
  exact hK
theorem r_load (x : Operand) (g of : Nat) (r : Ru) (ho : o.op = .load 33 x) (hx : a.eval x = .pointer (some ⟨g, of, none⟩)) (hc : w.rangeAt g of r.cells) (hK : K (a.put o.dst (.agg #[.int .i64 r.prio, .int .i64 r.src.base.k, .int .i64 r.src.base.a, .int .i64 r.src.base.b, .int .i64 r.src.base.c, .int .i64 r.src.base.d, .int .i64 r.src.len, .int .i64 r.dst.base.k, .int .i64 r.dst.base.a, .int .i64 r.dst.base.b, .int .i64 r.dst.base.c, .int .i64 r.dst.base.d, .int .i64 r.dst.len, .int .i64 r.proto, .int .i64 r.slo, .int .i64 r.shi, .int .i64 r.dlo, .int .i64 r.dhi, .int .i64 r.tenant, .int .i64 r.weight, .int .i64 r.chain])) w) : o.wp Try.prog a w K Q :=
  wp_load_mid 33 x ho g of hx r.cells _ hc Try.underlying33 rfl info_rule hK
theorem r_loadL (x : Operand) (g of : Nat) (r : Ru) (ho : o.op = .load 27 x) (hx : a.eval x = .pointer (some ⟨g, of, none⟩)) (hc : w.rangeAt g of r.cells) (hK : K (a.put o.dst (.agg #[.int .i64 r.prio, .int .i64 r.src.base.k, .int .i64 r.src.base.a, .int .i64 r.src.base.b, .int .i64 r.src.base.c, .int .i64 r.src.base.d, .int .i64 r.src.len, .int .i64 r.dst.base.k, .int .i64 r.dst.base.a, .int .i64 r.dst.base.b, .int .i64 r.dst.base.c, .int .i64 r.dst.base.d, .int .i64 r.dst.len, .int .i64 r.proto, .int .i64 r.slo, .int .i64 r.shi, .int .i64 r.dlo, .int .i64 r.dhi, .int .i64 r.tenant, .int .i64 r.weight, .int .i64 r.chain])) w) : o.wp Try.prog a w K Q :=
  wp_load_mid 27 x ho g of hx r.cells _ hc Try.underlying27 rfl info_lrule hK
theorem u_eqRule (x y : Operand) (x0 x1 : Value) (ts : Array TypeId) (ho : o.op = .call { callee := .value (.func 78), args := #[x, y], argTypes := ts }) (h0 : a.eval x = x0) (h1 : a.eval y = x1)
    (h : Calls Try.prog 78 #[x0, x1] w fun e w' => ∃ v, e = .returned v ∧ K (a.put o.dst v) w') : o.wp Try.prog a w K Q := by
  unfold Oper.wp execOp
  simp only [ho, resolve, List.map_toArray, List.map_cons, List.map_nil, h0, h1, show ∀ f, a.eval (.func f) = .func (.func f) #[] #[] from fun _ => rfl]
  go_simp
  exact h.mono fun e w' ⟨u, he, hk⟩ => by subst he; exact hk
theorem u_toRule (x : Operand) (x0 : Value) (ts : Array TypeId) (ho : o.op = .call { callee := .value (.func 17), args := #[x], argTypes := ts }) (h0 : a.eval x = x0)
    (h : Calls Try.prog 17 #[x0] w fun e w' => ∃ v, e = .returned v ∧ K (a.put o.dst v) w') : o.wp Try.prog a w K Q := by
  unfold Oper.wp execOp
  simp only [ho, resolve, List.map_toArray, List.map_cons, List.map_nil, h0, show ∀ f, a.eval (.func f) = .func (.func f) #[] #[] from fun _ => rfl]
  go_simp
  exact h.mono fun e w' ⟨u, he, hk⟩ => by subst he; exact hk
end
end Go.Proofs.Ythfmjnebpdhdfaa
