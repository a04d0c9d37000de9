/-
  Whole loads and stores of a struct, alone or within a row.
-/
import Derived.Test.YtmfkpiclpkeemaaFkLib
import Derived.Test.YtmfkpiclpkeemaaCells19
import Derived.Deep.WholeRow
namespace Go.Proofs.Ytmfkpiclpkeemaa
set_option maxRecDepth 100000
open Go.RowKit

theorem info_fk : (Try.prog.info? 33).map (·.size) = some 14 := by kernel_rfl
theorem info_lfk : (Try.prog.info? 27).map (·.size) = some 14 := by kernel_rfl
theorem info_fkP : (Try.prog.info? 33).map (fun i => (i.zero, i.size, i.bytes)) = some (some (.agg #[.int .i64 0, .int .i64 0, .int .i64 0, .int .i64 0, .int .i64 0, .int .i64 0, .int .i64 0, .int .i64 0, .int .i64 0, .int .i64 0, .int .i64 0, .int .i64 0, .int .i64 0, .int .i64 0]), 14, 112) := by kernel_rfl
theorem setRowB_fk {w0 w : World} {g : Nat} (hb : Below w0.heap.size w0 w) (hg : w0.heap.size ≤ g) (cs : Array Value) : Below w0.heap.size w0 (w.setRow g cs) :=
  bgrown hb (row := some g) ⟨rfl, rfl, rfl, by simp, fun k _ hk => setRow_other w g k cs (fun e => hk (by rw [e]))⟩ (fun k hk => by cases hk; exact hg)
theorem loadFk {ops : Array Oper} {rest : List Oper} {o : Oper} {a : Act} {w : World} {Q : Exit → Act → World → Prop} (hgd : o.guard = none) (x : Operand) (ho : o.op = .load 33 x) (g : Nat) (hx : a.eval x = .pointer (some ⟨g, 0, none⟩)) {t : TypeId} {v0 v1 v2 v3 v4 v5 v6 v7 v8 v9 v10 v11 v12 v13 : Value}
    (hg : w.heap[g]? = some (.cells #[v0, v1, v2, v3, v4, v5, v6, v7, v8, v9, v10, v11, v12, v13] t (0, 0))) (h : wpList Try.prog ops Q rest (a.put o.dst (.agg #[v0, v1, v2, v3, v4, v5, v6, v7, v8, v9, v10, v11, v12, v13])) w) : wpList Try.prog ops Q (o :: rest) a w :=
  wpList_load_row hgd 33 x ho g hx t _ (0, 0) _ hg Try.underlying33 rfl info_fk h
theorem loadAtFk {ops : Array Oper} {rest : List Oper} {o : Oper} {a : Act} {w : World} {Q : Exit → Act → World → Prop} (hgd : o.guard = none) (x : Operand) (ho : o.op = .load 33 x) (g off : Nat) (hx : a.eval x = .pointer (some ⟨g, off, none⟩)) (r : Fk)
    (hc : w.rangeAt g off r.cells) (h : wpList Try.prog ops Q rest (a.put o.dst (.agg #[.int .i64 r.tenant, .int .i64 r.key.src.k, .int .i64 r.key.src.a, .int .i64 r.key.src.b, .int .i64 r.key.src.c, .int .i64 r.key.src.d, .int .i64 r.key.dst.k, .int .i64 r.key.dst.a, .int .i64 r.key.dst.b, .int .i64 r.key.dst.c, .int .i64 r.key.dst.d, .int .i64 r.key.proto, .int .i64 r.key.sport, .int .i64 r.key.dport])) w) : wpList Try.prog ops Q (o :: rest) a w :=
  wpList_load_mid hgd 33 x ho g off hx r.cells _ hc Try.underlying33 rfl info_fk h
theorem loadLFk {ops : Array Oper} {rest : List Oper} {o : Oper} {a : Act} {w : World} {Q : Exit → Act → World → Prop} (hgd : o.guard = none) (x : Operand) (ho : o.op = .load 27 x) (g : Nat) (hx : a.eval x = .pointer (some ⟨g, 0, none⟩)) {t : TypeId} {v0 v1 v2 v3 v4 v5 v6 v7 v8 v9 v10 v11 v12 v13 : Value}
    (hg : w.heap[g]? = some (.cells #[v0, v1, v2, v3, v4, v5, v6, v7, v8, v9, v10, v11, v12, v13] t (0, 0))) (h : wpList Try.prog ops Q rest (a.put o.dst (.agg #[v0, v1, v2, v3, v4, v5, v6, v7, v8, v9, v10, v11, v12, v13])) w) : wpList Try.prog ops Q (o :: rest) a w :=
  wpList_load_row hgd 27 x ho g hx t _ (0, 0) _ hg Try.underlying27 rfl info_lfk h
theorem loadLAtFk {ops : Array Oper} {rest : List Oper} {o : Oper} {a : Act} {w : World} {Q : Exit → Act → World → Prop} (hgd : o.guard = none) (x : Operand) (ho : o.op = .load 27 x) (g off : Nat) (hx : a.eval x = .pointer (some ⟨g, off, none⟩)) (r : Fk)
    (hc : w.rangeAt g off r.cells) (h : wpList Try.prog ops Q rest (a.put o.dst (.agg #[.int .i64 r.tenant, .int .i64 r.key.src.k, .int .i64 r.key.src.a, .int .i64 r.key.src.b, .int .i64 r.key.src.c, .int .i64 r.key.src.d, .int .i64 r.key.dst.k, .int .i64 r.key.dst.a, .int .i64 r.key.dst.b, .int .i64 r.key.dst.c, .int .i64 r.key.dst.d, .int .i64 r.key.proto, .int .i64 r.key.sport, .int .i64 r.key.dport])) w) : wpList Try.prog ops Q (o :: rest) a w :=
  wpList_load_mid hgd 27 x ho g off hx r.cells _ hc Try.underlying27 rfl info_lfk h
theorem storeFk {ops : Array Oper} {rest : List Oper} {o : Oper} {a : Act} {w : World} {Q : Exit → Act → World → Prop} (hgd : o.guard = none) (x y : Operand) (ho : o.op = .store 33 x y) (g : Nat) {n0 : Int} {n1 : Int} {n2 : Int} {n3 : Int} {n4 : Int} {n5 : Int} {n6 : Int} {n7 : Int} {n8 : Int} {n9 : Int} {n10 : Int} {n11 : Int} {n12 : Int} {n13 : Int} (hx : a.eval x = .pointer (some ⟨g, 0, none⟩)) (hy : a.eval y = .agg #[.int .i64 n0, .int .i64 n1, .int .i64 n2, .int .i64 n3, .int .i64 n4, .int .i64 n5, .int .i64 n6, .int .i64 n7, .int .i64 n8, .int .i64 n9, .int .i64 n10, .int .i64 n11, .int .i64 n12, .int .i64 n13]) {t : TypeId} {u0 u1 u2 u3 u4 u5 u6 u7 u8 u9 u10 u11 u12 u13 : Value}
    (hg : w.heap[g]? = some (.cells #[u0, u1, u2, u3, u4, u5, u6, u7, u8, u9, u10, u11, u12, u13] t (0, 0))) (h : wpList Try.prog ops Q rest (a.put o.dst undef) (w.setRow g #[.int .i64 n0, .int .i64 n1, .int .i64 n2, .int .i64 n3, .int .i64 n4, .int .i64 n5, .int .i64 n6, .int .i64 n7, .int .i64 n8, .int .i64 n9, .int .i64 n10, .int .i64 n11, .int .i64 n12, .int .i64 n13])) : wpList Try.prog ops Q (o :: rest) a w :=
  wpList_store_row hgd 33 x y ho g _ hx hy t _ hg info_fk rfl (by simp [Value.oneCell']) h
theorem storeAtFk {ops : Array Oper} {rest : List Oper} {o : Oper} {a : Act} {w : World} {Q : Exit → Act → World → Prop} (hgd : o.guard = none) (x y : Operand) (ho : o.op = .store 33 x y) (g off : Nat) (r : Fk) (hx : a.eval x = .pointer (some ⟨g, off, none⟩)) (hy : a.eval y = .agg #[.int .i64 r.tenant, .int .i64 r.key.src.k, .int .i64 r.key.src.a, .int .i64 r.key.src.b, .int .i64 r.key.src.c, .int .i64 r.key.src.d, .int .i64 r.key.dst.k, .int .i64 r.key.dst.a, .int .i64 r.key.dst.b, .int .i64 r.key.dst.c, .int .i64 r.key.dst.d, .int .i64 r.key.proto, .int .i64 r.key.sport, .int .i64 r.key.dport])
    (ht : w.there g off 14) (h : wpList Try.prog ops Q rest (a.put o.dst undef) (w.setCells g off r.cells)) : wpList Try.prog ops Q (o :: rest) a w :=
  wpList_store_mid hgd 33 x y ho g off #[.int .i64 r.tenant, .int .i64 r.key.src.k, .int .i64 r.key.src.a, .int .i64 r.key.src.b, .int .i64 r.key.src.c, .int .i64 r.key.src.d, .int .i64 r.key.dst.k, .int .i64 r.key.dst.a, .int .i64 r.key.dst.b, .int .i64 r.key.dst.c, .int .i64 r.key.dst.d, .int .i64 r.key.proto, .int .i64 r.key.sport, .int .i64 r.key.dport] hx hy ht info_fk (by simp [Value.oneCell']) h
theorem resFk {fn : Func} {p : Tmp} (h : fn.results = #[.cell p 33]) (tmps : Array Value) (w : World) (g : Nat) {t : TypeId} {v0 v1 v2 v3 v4 v5 v6 v7 v8 v9 v10 v11 v12 v13 : Value} (hp : tmps.getD p undef = .pointer (some ⟨g, 0, none⟩)) (hg : w.heap[g]? = some (.cells #[v0, v1, v2, v3, v4, v5, v6, v7, v8, v9, v10, v11, v12, v13] t (0, 0))) :
    (results fn tmps).run Try.prog w = .ok (.agg #[v0, v1, v2, v3, v4, v5, v6, v7, v8, v9, v10, v11, v12, v13]) w :=
  results_cell_row h tmps w g t _ (0, 0) _ hp hg Try.underlying33 rfl info_fk
theorem storeNewFk {ops : Array Oper} {rest : List Oper} {o : Oper} {a : Act} {w : World} {Q : Exit → Act → World → Prop} (hgd : o.guard = none) (x y : Operand) (ho : o.op = .store 33 x y) {n0 : Int} {n1 : Int} {n2 : Int} {n3 : Int} {n4 : Int} {n5 : Int} {n6 : Int} {n7 : Int} {n8 : Int} {n9 : Int} {n10 : Int} {n11 : Int} {n12 : Int} {n13 : Int} (hx : a.eval x = .pointer (some ⟨w.heap.size, 0, none⟩)) (hy : a.eval y = .agg #[.int .i64 n0, .int .i64 n1, .int .i64 n2, .int .i64 n3, .int .i64 n4, .int .i64 n5, .int .i64 n6, .int .i64 n7, .int .i64 n8, .int .i64 n9, .int .i64 n10, .int .i64 n11, .int .i64 n12, .int .i64 n13])
    (h : wpList Try.prog ops Q rest (a.put o.dst undef) (w.alloc (.cells #[.int .i64 n0, .int .i64 n1, .int .i64 n2, .int .i64 n3, .int .i64 n4, .int .i64 n5, .int .i64 n6, .int .i64 n7, .int .i64 n8, .int .i64 n9, .int .i64 n10, .int .i64 n11, .int .i64 n12, .int .i64 n13] 33))) : wpList Try.prog ops Q (o :: rest) a (w.alloc (.cells #[.int .i64 0, .int .i64 0, .int .i64 0, .int .i64 0, .int .i64 0, .int .i64 0, .int .i64 0, .int .i64 0, .int .i64 0, .int .i64 0, .int .i64 0, .int .i64 0, .int .i64 0, .int .i64 0] 33)) := by
  refine storeFk hgd x y ho w.heap.size hx hy (K.new w _) ?_
  rw [World.setRow_alloc_new]
  exact h

section
variable {o : Oper} {a : Act} {w : World} {K : Act → World → Prop} {Q : Exit → Act → World → Prop}
theorem move_fk (x : Operand) (v : Value) (ho : o.op = .move x) (hx : a.eval x = v) (hK : K (a.put o.dst v) w) : o.wp Try.prog a w K Q := by
  unfold Oper.wp execOp
  simp only [ho, hx]
  go_simp
  exact hK

theorem idx_fk (x y : Operand) (g of n c k : Nat) (ho : o.op = .indexAddr 56 x y) (hx : a.eval x = .slice (some ⟨g, of, none⟩) n c) (hy : a.eval y = .int .i64 (k : Int)) (hk : k < n) (hK : K (a.put o.dst (.pointer (some ⟨g, of + k * 14, none⟩))) w) : o.wp Try.prog a w K Q := by
  unfold Oper.wp execOp
  simp only [ho, hx, hy]
  go_simp
  exact hK
theorem ld_fk (x : Operand) (g of : Nat) (r : Fk) (ho : o.op = .load 33 x) (hx : a.eval x = .pointer (some ⟨g, of, none⟩)) (hc : w.rangeAt g of r.cells) (hK : K (a.put o.dst (.agg #[.int .i64 r.tenant, .int .i64 r.key.src.k, .int .i64 r.key.src.a, .int .i64 r.key.src.b, .int .i64 r.key.src.c, .int .i64 r.key.src.d, .int .i64 r.key.dst.k, .int .i64 r.key.dst.a, .int .i64 r.key.dst.b, .int .i64 r.key.dst.c, .int .i64 r.key.dst.d, .int .i64 r.key.proto, .int .i64 r.key.sport, .int .i64 r.key.dport])) w) : o.wp Try.prog a w K Q :=
  wp_load_mid 33 x ho g of hx r.cells _ hc Try.underlying33 rfl info_fk hK

theorem ceq_fk (x y : Operand) (x0 x1 : Value) (ts : Array TypeId) (ho : o.op = .call { callee := .value (.func 80), args := #[x, y], argTypes := ts }) (h0 : a.eval x = x0) (h1 : a.eval y = x1)
    (h : Calls Try.prog 80 #[x0, x1] w fun e w' => ∃ v, e = .returned v ∧ K (a.put o.dst v) w') : o.wp Try.prog a w K Q := by
  unfold Oper.wp execOp
  simp only [ho, resolve, List.map_toArray, List.map_cons, List.map_nil, h0, h1, show ∀ f, a.eval (.func f) = .func (.func f) #[] #[] from fun _ => rfl]
  go_simp
  exact h.mono fun e w' ⟨u, he, hk⟩ => by subst he; exact hk
theorem cto_fk (x : Operand) (x0 : Value) (ts : Array TypeId) (ho : o.op = .call { callee := .value (.func 18), args := #[x], argTypes := ts }) (h0 : a.eval x = x0)
    (h : Calls Try.prog 18 #[x0] w fun e w' => ∃ v, e = .returned v ∧ K (a.put o.dst v) w') : o.wp Try.prog a w K Q := by
  unfold Oper.wp execOp
  simp only [ho, resolve, List.map_toArray, List.map_cons, List.map_nil, h0, show ∀ f, a.eval (.func f) = .func (.func f) #[] #[] from fun _ => rfl]
  go_simp
  exact h.mono fun e w' ⟨u, he, hk⟩ => by subst he; exact hk

end
end Go.Proofs.Ytmfkpiclpkeemaa
