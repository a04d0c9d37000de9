/-
  What the laws on tables share: loads of boxed tables, what a new copy is, single operations of regions.
-/
import Derived.Test.YtmfkpiclpkeemaaGG
import Derived.Test.YtmfkpiclpkeemaaGA
import Derived.Test.YtmfkpiclpkeemaaFkTo
namespace Go.Proofs.Ytmfkpiclpkeemaa
set_option maxRecDepth 100000
open Go.RowKit

theorem info_tbL : (Try.prog.info? 47).map (·.size) = some 2 := by kernel_rfl
theorem loadTb {ops : Array Oper} {rest : List Oper} {o : Oper} {a : Act} {w : World} {Q : Exit → Act → World → Prop} (hgd : o.guard = none) (x : Operand) (ho : o.op = .load 40 x) (g : Nat) (hx : a.eval x = .pointer (some ⟨g, 0, none⟩)) {t : TypeId} {v0 v1 : Value}
    (hg : w.heap[g]? = some (.cells #[v0, v1] t (0, 0))) (h : wpList Try.prog ops Q rest (a.put o.dst (.agg #[v0, v1])) w) : wpList Try.prog ops Q (o :: rest) a w :=
  wpList_load_row hgd 40 x ho g hx t _ (0, 0) _ hg Try.underlying40 rfl info_tb h
theorem loadTbL {ops : Array Oper} {rest : List Oper} {o : Oper} {a : Act} {w : World} {Q : Exit → Act → World → Prop} (hgd : o.guard = none) (x : Operand) (ho : o.op = .load 47 x) (g : Nat) (hx : a.eval x = .pointer (some ⟨g, 0, none⟩)) {t : TypeId} {v0 v1 : Value}
    (hg : w.heap[g]? = some (.cells #[v0, v1] t (0, 0))) (h : wpList Try.prog ops Q rest (a.put o.dst (.agg #[v0, v1])) w) : wpList Try.prog ops Q (o :: rest) a w :=
  wpList_load_row hgd 47 x ho g hx t _ (0, 0) _ hg Try.underlying47 rfl info_tbL h
/-- A table that reads as the cells cs. -/
def TP (s : Int) (n : Nat) (cs : List Ce) (w : World) (v : Value) : Prop := ∃ g, v = .agg #[.int .i64 s, .slice (some ⟨g, 0, none⟩) n n] ∧ RV w w.heap.size (some ⟨g, 0, none⟩) (fl Ce.cells cs)
theorem TP.on {s : Int} {n : Nat} {cs : List Ce} (w w' : World) (v : Value) (hb : Below w.heap.size w w') (h : TP s n cs w v) : TP s n cs w' v := by
  obtain ⟨g, e, r⟩ := h
  exact ⟨g, e, r.on hb⟩
theorem toTabP (s : Int) (A : Option Addr) (n c : Nat) (cs : List Ce) (w : World) (hr : RV w w.heap.size A (fl Ce.cells cs)) (hl : cs.length = n) (hn : n ≤ 1048576) :
    Calls Try.prog 29 #[.agg #[.int .i64 s, .slice A n c]] w fun e w' => ∃ v, e = .returned v ∧ TP s n cs w' v ∧ Below w.heap.size w w' :=
  (toTabC s A n c cs w hr hl hn).mono fun _ _ ⟨g, he, ho, hb⟩ => ⟨_, he, ⟨g, rfl, RV.of_own ho⟩, hb⟩

section
variable {o : Oper} {a : Act} {w : World} {K : Act → World → Prop} {Q : Exit → Act → World → Prop}
theorem r_tabL (x : Operand) (g : Nat) (v0 v1 : Value) (ho : o.op = .load 47 x) (hx : a.eval x = .pointer (some ⟨g, 0, none⟩)) {t : TypeId} (hg : w.heap[g]? = some (.cells #[v0, v1] t (0, 0))) (hK : K (a.put o.dst (.agg #[v0, v1])) w) : o.wp Try.prog a w K Q :=
  wp_load_row 47 x ho g hx t _ (0, 0) _ hg Try.underlying47 rfl info_tbL hK
theorem r_fkL (x : Operand) (g : Nat) (r : Fk) (ho : o.op = .load 27 x) (hx : a.eval x = .pointer (some ⟨g, 0, none⟩)) {t : TypeId} (hg : w.heap[g]? = some (.cells #[.int .i64 r.tenant, .int .i64 r.key.src.k, .int .i64 r.key.src.a, .int .i64 r.key.src.b, .int .i64 r.key.src.c, .int .i64 r.key.src.d, .int .i64 r.key.dst.k, .int .i64 r.key.dst.a, .int .i64 r.key.dst.b, .int .i64 r.key.dst.c, .int .i64 r.key.dst.d, .int .i64 r.key.proto, .int .i64 r.key.sport, .int .i64 r.key.dport] t (0, 0))) (hK : K (a.put o.dst (.agg #[.int .i64 r.tenant, .int .i64 r.key.src.k, .int .i64 r.key.src.a, .int .i64 r.key.src.b, .int .i64 r.key.src.c, .int .i64 r.key.src.d, .int .i64 r.key.dst.k, .int .i64 r.key.dst.a, .int .i64 r.key.dst.b, .int .i64 r.key.dst.c, .int .i64 r.key.dst.d, .int .i64 r.key.proto, .int .i64 r.key.sport, .int .i64 r.key.dport])) w) : o.wp Try.prog a w K Q :=
  wp_load_row 27 x ho g hx t _ (0, 0) _ hg Try.underlying27 rfl info_lfk hK
theorem t_as (x : Operand) (v : Value) (ho : o.op = .assign x) (hx : a.eval x = v) (hK : K (a.put o.dst v) w) : o.wp Try.prog a w K Q := by
  unfold Oper.wp execOp
  simp only [ho, hx]
  go_simp
  exact hK
theorem t_ex0 (x : Operand) (v0 v1 : Value) (ho : o.op = .extract x 0) (hx : a.eval x = .tuple #[v0, v1]) (hK : K (a.put o.dst v0) w) : o.wp Try.prog a w K Q := by
  unfold Oper.wp execOp
  simp only [ho, hx]
  go_simp
  exact hK
theorem t_ex1 (x : Operand) (v0 v1 : Value) (ho : o.op = .extract x 1) (hx : a.eval x = .tuple #[v0, v1]) (hK : K (a.put o.dst v1) w) : o.wp Try.prog a w K Q := by
  unfold Oper.wp execOp
  simp only [ho, hx]
  go_simp
  exact hK
theorem u_toTab (x : Operand) (x0 : Value) (ts : Array TypeId) (ho : o.op = .call { callee := .value (.func 29), args := #[x], argTypes := ts }) (h0 : a.eval x = x0)
    (h : Calls Try.prog 29 #[x0] w fun e w' => ∃ v, e = .returned v ∧ K (a.put o.dst v) w') : o.wp Try.prog a w K Q := by
  unfold Oper.wp execOp
  simp only [ho, resolve, List.map_toArray, List.map_cons, List.map_nil, h0, show ∀ f, a.eval (.func f) = .func (.func f) #[] #[] from fun _ => rfl]
  go_simp
  exact h.mono fun e w' ⟨u, he, hk⟩ => by subst he; exact hk
theorem u_toFk (x : Operand) (x0 : Value) (ts : Array TypeId) (ho : o.op = .call { callee := .value (.func 18), args := #[x], argTypes := ts }) (h0 : a.eval x = x0)
    (h : Calls Try.prog 18 #[x0] w fun e w' => ∃ v, e = .returned v ∧ K (a.put o.dst v) w') : o.wp Try.prog a w K Q := by
  unfold Oper.wp execOp
  simp only [ho, resolve, List.map_toArray, List.map_cons, List.map_nil, h0, show ∀ f, a.eval (.func f) = .func (.func f) #[] #[] from fun _ => rfl]
  go_simp
  exact h.mono fun e w' ⟨u, he, hk⟩ => by subst he; exact hk
theorem u_eqTab (x y : Operand) (x0 x1 : Value) (ts : Array TypeId) (ho : o.op = .call { callee := .value (.func 24), args := #[x, y], argTypes := ts }) (h0 : a.eval x = x0) (h1 : a.eval y = x1)
    (h : Calls Try.prog 24 #[x0, x1] w fun e w' => ∃ v, e = .returned v ∧ K (a.put o.dst v) w') : o.wp Try.prog a w K Q := by
  unfold Oper.wp execOp
  simp only [ho, resolve, List.map_toArray, List.map_cons, List.map_nil, h0, h1, show ∀ f, a.eval (.func f) = .func (.func f) #[] #[] from fun _ => rfl]
  go_simp
  exact h.mono fun e w' ⟨u, he, hk⟩ => by subst he; exact hk
end
end Go.Proofs.Ytmfkpiclpkeemaa
