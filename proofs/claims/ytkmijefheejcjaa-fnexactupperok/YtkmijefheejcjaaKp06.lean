/-
  Single operations of a region: the fields of an upper layer, and calls of the methods of the formats through an interface.
-/
import Derived.Test.YtkmijefheejcjaaKp04
import Derived.Test.YtkmijefheejcjaaKp05
import Derived.Handy
namespace Go.Proofs.Ytkmijefheejcjaa
set_option maxRecDepth 100000
open Go.RowKit

section
variable {o : Oper} {a : Act} {w : World} {K : Act → World → Prop} {Q : Exit → Act → World → Prop}
theorem u_boolc (x : Operand) (g j : Nat) (v : Value) (ho : o.op = .load 4 x) (hx : a.eval x = .pointer (some ⟨g, j, none⟩)) (hc : w.cell? ⟨g, j, none⟩ = some v) (hK : K (a.put o.dst v) w) : o.wp Try.prog a w K Q := by
  unfold Oper.wp execOp
  simp only [ho, hx]
  go_simp
  exact hK
theorem u_fldU0 (x : Operand) (g : Nat) (ho : o.op = .fieldAddr 38 x 0) (hx : a.eval x = .pointer (some ⟨g, 0, none⟩)) (hK : K (a.put o.dst (.pointer (some ⟨g, 0, none⟩))) w) : o.wp Try.prog a w K Q := by
  unfold Oper.wp execOp
  simp only [ho, hx]
  go_simp
  exact hK
theorem u_fldU1 (x : Operand) (g : Nat) (ho : o.op = .fieldAddr 38 x 1) (hx : a.eval x = .pointer (some ⟨g, 0, none⟩)) (hK : K (a.put o.dst (.pointer (some ⟨g, 1, none⟩))) w) : o.wp Try.prog a w K Q := by
  unfold Oper.wp execOp
  simp only [ho, hx]
  go_simp
  exact hK
theorem u_fldU2 (x : Operand) (g : Nat) (ho : o.op = .fieldAddr 38 x 2) (hx : a.eval x = .pointer (some ⟨g, 0, none⟩)) (hK : K (a.put o.dst (.pointer (some ⟨g, 2, none⟩))) w) : o.wp Try.prog a w K Q := by
  unfold Oper.wp execOp
  simp only [ho, hx]
  go_simp
  exact hK
theorem u_fldU3 (x : Operand) (g : Nat) (ho : o.op = .fieldAddr 38 x 3) (hx : a.eval x = .pointer (some ⟨g, 0, none⟩)) (hK : K (a.put o.dst (.pointer (some ⟨g, 3, none⟩))) w) : o.wp Try.prog a w K Q := by
  unfold Oper.wp execOp
  simp only [ho, hx]
  go_simp
  exact hK
theorem u_fldU4 (x : Operand) (g : Nat) (ho : o.op = .fieldAddr 38 x 4) (hx : a.eval x = .pointer (some ⟨g, 0, none⟩)) (hK : K (a.put o.dst (.pointer (some ⟨g, 4, none⟩))) w) : o.wp Try.prog a w K Q := by
  unfold Oper.wp execOp
  simp only [ho, hx]
  go_simp
  exact hK
theorem u_fldU5 (x : Operand) (g : Nat) (ho : o.op = .fieldAddr 38 x 5) (hx : a.eval x = .pointer (some ⟨g, 0, none⟩)) (hK : K (a.put o.dst (.pointer (some ⟨g, 5, none⟩))) w) : o.wp Try.prog a w K Q := by
  unfold Oper.wp execOp
  simp only [ho, hx]
  go_simp
  exact hK
theorem u_fldU6 (x : Operand) (g : Nat) (ho : o.op = .fieldAddr 38 x 6) (hx : a.eval x = .pointer (some ⟨g, 0, none⟩)) (hK : K (a.put o.dst (.pointer (some ⟨g, 6, none⟩))) w) : o.wp Try.prog a w K Q := by
  unfold Oper.wp execOp
  simp only [ho, hx]
  go_simp
  exact hK
theorem u_fldU7 (x : Operand) (g : Nat) (ho : o.op = .fieldAddr 38 x 7) (hx : a.eval x = .pointer (some ⟨g, 0, none⟩)) (hK : K (a.put o.dst (.pointer (some ⟨g, 7, none⟩))) w) : o.wp Try.prog a w K Q := by
  unfold Oper.wp execOp
  simp only [ho, hx]
  go_simp
  exact hK
theorem u_fldU8 (x : Operand) (g : Nat) (ho : o.op = .fieldAddr 38 x 8) (hx : a.eval x = .pointer (some ⟨g, 0, none⟩)) (hK : K (a.put o.dst (.pointer (some ⟨g, 8, none⟩))) w) : o.wp Try.prog a w K Q := by
  unfold Oper.wp execOp
  simp only [ho, hx]
  go_simp
  exact hK
theorem u_fldU9 (x : Operand) (g : Nat) (ho : o.op = .fieldAddr 38 x 9) (hx : a.eval x = .pointer (some ⟨g, 0, none⟩)) (hK : K (a.put o.dst (.pointer (some ⟨g, 9, none⟩))) w) : o.wp Try.prog a w K Q := by
  unfold Oper.wp execOp
  simp only [ho, hx]
  go_simp
  exact hK
theorem u_fldU10 (x : Operand) (g : Nat) (ho : o.op = .fieldAddr 38 x 10) (hx : a.eval x = .pointer (some ⟨g, 0, none⟩)) (hK : K (a.put o.dst (.pointer (some ⟨g, 10, none⟩))) w) : o.wp Try.prog a w K Q := by
  unfold Oper.wp execOp
  simp only [ho, hx]
  go_simp
  exact hK
theorem u_fldU11 (x : Operand) (g : Nat) (ho : o.op = .fieldAddr 38 x 11) (hx : a.eval x = .pointer (some ⟨g, 0, none⟩)) (hK : K (a.put o.dst (.pointer (some ⟨g, 11, none⟩))) w) : o.wp Try.prog a w K Q := by
  unfold Oper.wp execOp
  simp only [ho, hx]
  go_simp
  exact hK
theorem u_fldU12 (x : Operand) (g : Nat) (ho : o.op = .fieldAddr 38 x 12) (hx : a.eval x = .pointer (some ⟨g, 0, none⟩)) (hK : K (a.put o.dst (.pointer (some ⟨g, 12, none⟩))) w) : o.wp Try.prog a w K Q := by
  unfold Oper.wp execOp
  simp only [ho, hx]
  go_simp
  exact hK
theorem u_fldU13 (x : Operand) (g : Nat) (ho : o.op = .fieldAddr 38 x 13) (hx : a.eval x = .pointer (some ⟨g, 0, none⟩)) (hK : K (a.put o.dst (.pointer (some ⟨g, 13, none⟩))) w) : o.wp Try.prog a w K Q := by
  unfold Oper.wp execOp
  simp only [ho, hx]
  go_simp
  exact hK
theorem u_other_headSize (x : Operand) (name : String) (v : Value) (ts : Array TypeId) (ho : o.op = .call { callee := .invoke x name, args := #[], argTypes := ts }) (hx : a.eval x = .iface 125 v) (hm : ∀ k, (method (k + 1) 125 v name).run Try.prog w = .ok (166, v) w)
    (h : Calls Try.prog 166 #[v] w fun e w' => ∃ r, e = .returned r ∧ K (a.put o.dst r) w') : o.wp Try.prog a w K Q := by
  unfold Oper.wp execOp
  simp only [ho, resolve, List.map_toArray, List.map_nil, hx]
  go_simp
  exact h.mono fun e w' ⟨u, he, hk⟩ => by subst he; exact hk
theorem u_other_unused (x : Operand) (name : String) (v : Value) (ts : Array TypeId) (ho : o.op = .call { callee := .invoke x name, args := #[], argTypes := ts }) (hx : a.eval x = .iface 125 v) (hm : ∀ k, (method (k + 1) 125 v name).run Try.prog w = .ok (167, v) w)
    (h : Calls Try.prog 167 #[v] w fun e w' => ∃ r, e = .returned r ∧ K (a.put o.dst r) w') : o.wp Try.prog a w K Q := by
  unfold Oper.wp execOp
  simp only [ho, resolve, List.map_toArray, List.map_nil, hx]
  go_simp
  exact h.mono fun e w' ⟨u, he, hk⟩ => by subst he; exact hk
theorem u_other_fieldsOk (x y : Operand) (name : String) (v u : Value) (ts : Array TypeId) (ho : o.op = .call { callee := .invoke x name, args := #[y], argTypes := ts }) (hx : a.eval x = .iface 125 v) (hy : a.eval y = u) (hm : ∀ k, (method (k + 1) 125 v name).run Try.prog w = .ok (165, v) w)
    (h : Calls Try.prog 165 #[v, u] w fun e w' => ∃ r, e = .returned r ∧ K (a.put o.dst r) w') : o.wp Try.prog a w K Q := by
  unfold Oper.wp execOp
  simp only [ho, resolve, List.map_toArray, List.map_cons, List.map_nil, hx, hy]
  go_simp
  exact h.mono fun e w' ⟨u, he, hk⟩ => by subst he; exact hk
theorem u_fld_tcp (x : Operand) (g : Nat) (ho : o.op = .fieldAddr 119 x 0) (hx : a.eval x = .pointer (some ⟨g, 0, none⟩)) (hK : K (a.put o.dst (.pointer (some ⟨g, 0, none⟩))) w) : o.wp Try.prog a w K Q := by
  unfold Oper.wp execOp
  simp only [ho, hx]
  go_simp
  exact hK
theorem u_tcp_headSize (x : Operand) (name : String) (v : Value) (ts : Array TypeId) (ho : o.op = .call { callee := .invoke x name, args := #[], argTypes := ts }) (hx : a.eval x = .iface 119 v) (hm : ∀ k, (method (k + 1) 119 v name).run Try.prog w = .ok (137, v) w)
    (h : Calls Try.prog 137 #[v] w fun e w' => ∃ r, e = .returned r ∧ K (a.put o.dst r) w') : o.wp Try.prog a w K Q := by
  unfold Oper.wp execOp
  simp only [ho, resolve, List.map_toArray, List.map_nil, hx]
  go_simp
  exact h.mono fun e w' ⟨u, he, hk⟩ => by subst he; exact hk
theorem u_tcp_unused (x : Operand) (name : String) (v : Value) (ts : Array TypeId) (ho : o.op = .call { callee := .invoke x name, args := #[], argTypes := ts }) (hx : a.eval x = .iface 119 v) (hm : ∀ k, (method (k + 1) 119 v name).run Try.prog w = .ok (157, v) w)
    (h : Calls Try.prog 157 #[v] w fun e w' => ∃ r, e = .returned r ∧ K (a.put o.dst r) w') : o.wp Try.prog a w K Q := by
  unfold Oper.wp execOp
  simp only [ho, resolve, List.map_toArray, List.map_nil, hx]
  go_simp
  exact h.mono fun e w' ⟨u, he, hk⟩ => by subst he; exact hk
theorem u_tcp_fieldsOk (x y : Operand) (name : String) (v u : Value) (ts : Array TypeId) (ho : o.op = .call { callee := .invoke x name, args := #[y], argTypes := ts }) (hx : a.eval x = .iface 119 v) (hy : a.eval y = u) (hm : ∀ k, (method (k + 1) 119 v name).run Try.prog w = .ok (156, v) w)
    (h : Calls Try.prog 156 #[v, u] w fun e w' => ∃ r, e = .returned r ∧ K (a.put o.dst r) w') : o.wp Try.prog a w K Q := by
  unfold Oper.wp execOp
  simp only [ho, resolve, List.map_toArray, List.map_cons, List.map_nil, hx, hy]
  go_simp
  exact h.mono fun e w' ⟨u, he, hk⟩ => by subst he; exact hk
theorem u_fld_udp (x : Operand) (g : Nat) (ho : o.op = .fieldAddr 121 x 0) (hx : a.eval x = .pointer (some ⟨g, 0, none⟩)) (hK : K (a.put o.dst (.pointer (some ⟨g, 0, none⟩))) w) : o.wp Try.prog a w K Q := by
  unfold Oper.wp execOp
  simp only [ho, hx]
  go_simp
  exact hK
theorem u_udp_headSize (x : Operand) (name : String) (v : Value) (ts : Array TypeId) (ho : o.op = .call { callee := .invoke x name, args := #[], argTypes := ts }) (hx : a.eval x = .iface 121 v) (hm : ∀ k, (method (k + 1) 121 v name).run Try.prog w = .ok (160, v) w)
    (h : Calls Try.prog 160 #[v] w fun e w' => ∃ r, e = .returned r ∧ K (a.put o.dst r) w') : o.wp Try.prog a w K Q := by
  unfold Oper.wp execOp
  simp only [ho, resolve, List.map_toArray, List.map_nil, hx]
  go_simp
  exact h.mono fun e w' ⟨u, he, hk⟩ => by subst he; exact hk
theorem u_udp_unused (x : Operand) (name : String) (v : Value) (ts : Array TypeId) (ho : o.op = .call { callee := .invoke x name, args := #[], argTypes := ts }) (hx : a.eval x = .iface 121 v) (hm : ∀ k, (method (k + 1) 121 v name).run Try.prog w = .ok (161, v) w)
    (h : Calls Try.prog 161 #[v] w fun e w' => ∃ r, e = .returned r ∧ K (a.put o.dst r) w') : o.wp Try.prog a w K Q := by
  unfold Oper.wp execOp
  simp only [ho, resolve, List.map_toArray, List.map_nil, hx]
  go_simp
  exact h.mono fun e w' ⟨u, he, hk⟩ => by subst he; exact hk
theorem u_udp_fieldsOk (x y : Operand) (name : String) (v u : Value) (ts : Array TypeId) (ho : o.op = .call { callee := .invoke x name, args := #[y], argTypes := ts }) (hx : a.eval x = .iface 121 v) (hy : a.eval y = u) (hm : ∀ k, (method (k + 1) 121 v name).run Try.prog w = .ok (159, v) w)
    (h : Calls Try.prog 159 #[v, u] w fun e w' => ∃ r, e = .returned r ∧ K (a.put o.dst r) w') : o.wp Try.prog a w K Q := by
  unfold Oper.wp execOp
  simp only [ho, resolve, List.map_toArray, List.map_cons, List.map_nil, hx, hy]
  go_simp
  exact h.mono fun e w' ⟨u, he, hk⟩ => by subst he; exact hk
theorem u_fld_icmp (x : Operand) (g : Nat) (ho : o.op = .fieldAddr 123 x 0) (hx : a.eval x = .pointer (some ⟨g, 0, none⟩)) (hK : K (a.put o.dst (.pointer (some ⟨g, 0, none⟩))) w) : o.wp Try.prog a w K Q := by
  unfold Oper.wp execOp
  simp only [ho, hx]
  go_simp
  exact hK
theorem u_icmp_headSize (x : Operand) (name : String) (v : Value) (ts : Array TypeId) (ho : o.op = .call { callee := .invoke x name, args := #[], argTypes := ts }) (hx : a.eval x = .iface 123 v) (hm : ∀ k, (method (k + 1) 123 v name).run Try.prog w = .ok (163, v) w)
    (h : Calls Try.prog 163 #[v] w fun e w' => ∃ r, e = .returned r ∧ K (a.put o.dst r) w') : o.wp Try.prog a w K Q := by
  unfold Oper.wp execOp
  simp only [ho, resolve, List.map_toArray, List.map_nil, hx]
  go_simp
  exact h.mono fun e w' ⟨u, he, hk⟩ => by subst he; exact hk
theorem u_icmp_unused (x : Operand) (name : String) (v : Value) (ts : Array TypeId) (ho : o.op = .call { callee := .invoke x name, args := #[], argTypes := ts }) (hx : a.eval x = .iface 123 v) (hm : ∀ k, (method (k + 1) 123 v name).run Try.prog w = .ok (164, v) w)
    (h : Calls Try.prog 164 #[v] w fun e w' => ∃ r, e = .returned r ∧ K (a.put o.dst r) w') : o.wp Try.prog a w K Q := by
  unfold Oper.wp execOp
  simp only [ho, resolve, List.map_toArray, List.map_nil, hx]
  go_simp
  exact h.mono fun e w' ⟨u, he, hk⟩ => by subst he; exact hk
theorem u_icmp_fieldsOk (x y : Operand) (name : String) (v u : Value) (ts : Array TypeId) (ho : o.op = .call { callee := .invoke x name, args := #[y], argTypes := ts }) (hx : a.eval x = .iface 123 v) (hy : a.eval y = u) (hm : ∀ k, (method (k + 1) 123 v name).run Try.prog w = .ok (162, v) w)
    (h : Calls Try.prog 162 #[v, u] w fun e w' => ∃ r, e = .returned r ∧ K (a.put o.dst r) w') : o.wp Try.prog a w K Q := by
  unfold Oper.wp execOp
  simp only [ho, resolve, List.map_toArray, List.map_cons, List.map_nil, hx, hy]
  go_simp
  exact h.mono fun e w' ⟨u, he, hk⟩ => by subst he; exact hk
end
end Go.Proofs.Ytkmijefheejcjaa
