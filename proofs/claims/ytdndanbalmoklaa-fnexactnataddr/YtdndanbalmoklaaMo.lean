/-
  Whole loads and stores of a struct, alone or within a row.
-/
import Derived.Test.YtdndanbalmoklaaMoLib
import Derived.Test.YtdndanbalmoklaaCells19
import Derived.Deep.WholeRow
namespace Go.Proofs.Ytdndanbalmoklaa
set_option maxRecDepth 100000
open Go.RowKit

theorem info_mo : (Try.prog.info? 33).map (·.size) = some 17 := by kernel_rfl
theorem info_lmo : (Try.prog.info? 27).map (·.size) = some 17 := by kernel_rfl
theorem info_moP : (Try.prog.info? 33).map (fun i => (i.zero, i.size, i.bytes)) = some (some (.agg #[.int .i64 0, .int .i64 0, .int .i64 0, .int .i64 0, .int .i64 0, .int .i64 0, .int .i64 0, .int .i64 0, .int .i64 0, .int .i64 0, .int .i64 0, .int .i64 0, .int .i64 0, .int .i64 0, .int .i64 0, .int .i64 0, .int .i64 0]), 17, 136) := by kernel_rfl
theorem setRowB_mo {w0 w : World} {g : Nat} (hb : Below w0.heap.size w0 w) (hg : w0.heap.size ≤ g) (cs : Array Value) : Below w0.heap.size w0 (w.setRow g cs) :=
  bgrown hb (row := some g) ⟨rfl, rfl, rfl, by simp, fun k _ hk => setRow_other w g k cs (fun e => hk (by rw [e]))⟩ (fun k hk => by cases hk; exact hg)
theorem loadMo {ops : Array Oper} {rest : List Oper} {o : Oper} {a : Act} {w : World} {Q : Exit → Act → World → Prop} (hgd : o.guard = none) (x : Operand) (ho : o.op = .load 33 x) (g : Nat) (hx : a.eval x = .pointer (some ⟨g, 0, none⟩)) {t : TypeId} {v0 v1 v2 v3 v4 v5 v6 v7 v8 v9 v10 v11 v12 v13 v14 v15 v16 : Value}
    (hg : w.heap[g]? = some (.cells #[v0, v1, v2, v3, v4, v5, v6, v7, v8, v9, v10, v11, v12, v13, v14, v15, v16] t (0, 0))) (h : wpList Try.prog ops Q rest (a.put o.dst (.agg #[v0, v1, v2, v3, v4, v5, v6, v7, v8, v9, v10, v11, v12, v13, v14, v15, v16])) w) : wpList Try.prog ops Q (o :: rest) a w :=
  wpList_load_row hgd 33 x ho g hx t _ (0, 0) _ hg Try.underlying33 rfl info_mo h
theorem loadAtMo {ops : Array Oper} {rest : List Oper} {o : Oper} {a : Act} {w : World} {Q : Exit → Act → World → Prop} (hgd : o.guard = none) (x : Operand) (ho : o.op = .load 33 x) (g off : Nat) (hx : a.eval x = .pointer (some ⟨g, off, none⟩)) (r : Mo)
    (hc : w.rangeAt g off r.cells) (h : wpList Try.prog ops Q rest (a.put o.dst (.agg #[.int .i64 r.kind, .int .i64 r.frm.base.k, .int .i64 r.frm.base.a, .int .i64 r.frm.base.b, .int .i64 r.frm.base.c, .int .i64 r.frm.base.d, .int .i64 r.frm.len, .int .i64 r.to.base.k, .int .i64 r.to.base.a, .int .i64 r.to.base.b, .int .i64 r.to.base.c, .int .i64 r.to.base.d, .int .i64 r.to.len, .int .i64 r.proto, .int .i64 r.lo, .int .i64 r.hi, .int .i64 r.n])) w) : wpList Try.prog ops Q (o :: rest) a w :=
  wpList_load_mid hgd 33 x ho g off hx r.cells _ hc Try.underlying33 rfl info_mo h
theorem loadLMo {ops : Array Oper} {rest : List Oper} {o : Oper} {a : Act} {w : World} {Q : Exit → Act → World → Prop} (hgd : o.guard = none) (x : Operand) (ho : o.op = .load 27 x) (g : Nat) (hx : a.eval x = .pointer (some ⟨g, 0, none⟩)) {t : TypeId} {v0 v1 v2 v3 v4 v5 v6 v7 v8 v9 v10 v11 v12 v13 v14 v15 v16 : Value}
    (hg : w.heap[g]? = some (.cells #[v0, v1, v2, v3, v4, v5, v6, v7, v8, v9, v10, v11, v12, v13, v14, v15, v16] t (0, 0))) (h : wpList Try.prog ops Q rest (a.put o.dst (.agg #[v0, v1, v2, v3, v4, v5, v6, v7, v8, v9, v10, v11, v12, v13, v14, v15, v16])) w) : wpList Try.prog ops Q (o :: rest) a w :=
  wpList_load_row hgd 27 x ho g hx t _ (0, 0) _ hg Try.underlying27 rfl info_lmo h
theorem loadLAtMo {ops : Array Oper} {rest : List Oper} {o : Oper} {a : Act} {w : World} {Q : Exit → Act → World → Prop} (hgd : o.guard = none) (x : Operand) (ho : o.op = .load 27 x) (g off : Nat) (hx : a.eval x = .pointer (some ⟨g, off, none⟩)) (r : Mo)
    (hc : w.rangeAt g off r.cells) (h : wpList Try.prog ops Q rest (a.put o.dst (.agg #[.int .i64 r.kind, .int .i64 r.frm.base.k, .int .i64 r.frm.base.a, .int .i64 r.frm.base.b, .int .i64 r.frm.base.c, .int .i64 r.frm.base.d, .int .i64 r.frm.len, .int .i64 r.to.base.k, .int .i64 r.to.base.a, .int .i64 r.to.base.b, .int .i64 r.to.base.c, .int .i64 r.to.base.d, .int .i64 r.to.len, .int .i64 r.proto, .int .i64 r.lo, .int .i64 r.hi, .int .i64 r.n])) w) : wpList Try.prog ops Q (o :: rest) a w :=
  wpList_load_mid hgd 27 x ho g off hx r.cells _ hc Try.underlying27 rfl info_lmo h
theorem storeMo {ops : Array Oper} {rest : List Oper} {o : Oper} {a : Act} {w : World} {Q : Exit → Act → World → Prop} (hgd : o.guard = none) (x y : Operand) (ho : o.op = .store 33 x y) (g : Nat) {n0 : Int} {n1 : Int} {n2 : Int} {n3 : Int} {n4 : Int} {n5 : Int} {n6 : Int} {n7 : Int} {n8 : Int} {n9 : Int} {n10 : Int} {n11 : Int} {n12 : Int} {n13 : Int} {n14 : Int} {n15 : Int} {n16 : Int} (hx : a.eval x = .pointer (some ⟨g, 0, none⟩)) (hy : a.eval y = .agg #[.int .i64 n0, .int .i64 n1, .int .i64 n2, .int .i64 n3, .int .i64 n4, .int .i64 n5, .int .i64 n6, .int .i64 n7, .int .i64 n8, .int .i64 n9, .int .i64 n10, .int .i64 n11, .int .i64 n12, .int .i64 n13, .int .i64 n14, .int .i64 n15, .int .i64 n16]) {t : TypeId} {u0 u1 u2 u3 u4 u5 u6 u7 u8 u9 u10 u11 u12 u13 u14 u15 u16 : Value}
    (hg : w.heap[g]? = some (.cells #[u0, u1, u2, u3, u4, u5, u6, u7, u8, u9, u10, u11, u12, u13, u14, u15, u16] t (0, 0))) (h : wpList Try.prog ops Q rest (a.put o.dst undef) (w.setRow g #[.int .i64 n0, .int .i64 n1, .int .i64 n2, .int .i64 n3, .int .i64 n4, .int .i64 n5, .int .i64 n6, .int .i64 n7, .int .i64 n8, .int .i64 n9, .int .i64 n10, .int .i64 n11, .int .i64 n12, .int .i64 n13, .int .i64 n14, .int .i64 n15, .int .i64 n16])) : wpList Try.prog ops Q (o :: rest) a w :=
  wpList_store_row hgd 33 x y ho g _ hx hy t _ hg info_mo rfl (by simp [Value.oneCell']) h
theorem storeAtMo {ops : Array Oper} {rest : List Oper} {o : Oper} {a : Act} {w : World} {Q : Exit → Act → World → Prop} (hgd : o.guard = none) (x y : Operand) (ho : o.op = .store 33 x y) (g off : Nat) (r : Mo) (hx : a.eval x = .pointer (some ⟨g, off, none⟩)) (hy : a.eval y = .agg #[.int .i64 r.kind, .int .i64 r.frm.base.k, .int .i64 r.frm.base.a, .int .i64 r.frm.base.b, .int .i64 r.frm.base.c, .int .i64 r.frm.base.d, .int .i64 r.frm.len, .int .i64 r.to.base.k, .int .i64 r.to.base.a, .int .i64 r.to.base.b, .int .i64 r.to.base.c, .int .i64 r.to.base.d, .int .i64 r.to.len, .int .i64 r.proto, .int .i64 r.lo, .int .i64 r.hi, .int .i64 r.n])
    (ht : w.there g off 17) (h : wpList Try.prog ops Q rest (a.put o.dst undef) (w.setCells g off r.cells)) : wpList Try.prog ops Q (o :: rest) a w :=
  wpList_store_mid hgd 33 x y ho g off #[.int .i64 r.kind, .int .i64 r.frm.base.k, .int .i64 r.frm.base.a, .int .i64 r.frm.base.b, .int .i64 r.frm.base.c, .int .i64 r.frm.base.d, .int .i64 r.frm.len, .int .i64 r.to.base.k, .int .i64 r.to.base.a, .int .i64 r.to.base.b, .int .i64 r.to.base.c, .int .i64 r.to.base.d, .int .i64 r.to.len, .int .i64 r.proto, .int .i64 r.lo, .int .i64 r.hi, .int .i64 r.n] hx hy ht info_mo (by simp [Value.oneCell']) h
theorem resMo {fn : Func} {p : Tmp} (h : fn.results = #[.cell p 33]) (tmps : Array Value) (w : World) (g : Nat) {t : TypeId} {v0 v1 v2 v3 v4 v5 v6 v7 v8 v9 v10 v11 v12 v13 v14 v15 v16 : Value} (hp : tmps.getD p undef = .pointer (some ⟨g, 0, none⟩)) (hg : w.heap[g]? = some (.cells #[v0, v1, v2, v3, v4, v5, v6, v7, v8, v9, v10, v11, v12, v13, v14, v15, v16] t (0, 0))) :
    (results fn tmps).run Try.prog w = .ok (.agg #[v0, v1, v2, v3, v4, v5, v6, v7, v8, v9, v10, v11, v12, v13, v14, v15, v16]) w :=
  results_cell_row h tmps w g t _ (0, 0) _ hp hg Try.underlying33 rfl info_mo
theorem storeNewMo {ops : Array Oper} {rest : List Oper} {o : Oper} {a : Act} {w : World} {Q : Exit → Act → World → Prop} (hgd : o.guard = none) (x y : Operand) (ho : o.op = .store 33 x y) {n0 : Int} {n1 : Int} {n2 : Int} {n3 : Int} {n4 : Int} {n5 : Int} {n6 : Int} {n7 : Int} {n8 : Int} {n9 : Int} {n10 : Int} {n11 : Int} {n12 : Int} {n13 : Int} {n14 : Int} {n15 : Int} {n16 : Int} (hx : a.eval x = .pointer (some ⟨w.heap.size, 0, none⟩)) (hy : a.eval y = .agg #[.int .i64 n0, .int .i64 n1, .int .i64 n2, .int .i64 n3, .int .i64 n4, .int .i64 n5, .int .i64 n6, .int .i64 n7, .int .i64 n8, .int .i64 n9, .int .i64 n10, .int .i64 n11, .int .i64 n12, .int .i64 n13, .int .i64 n14, .int .i64 n15, .int .i64 n16])
    (h : wpList Try.prog ops Q rest (a.put o.dst undef) (w.alloc (.cells #[.int .i64 n0, .int .i64 n1, .int .i64 n2, .int .i64 n3, .int .i64 n4, .int .i64 n5, .int .i64 n6, .int .i64 n7, .int .i64 n8, .int .i64 n9, .int .i64 n10, .int .i64 n11, .int .i64 n12, .int .i64 n13, .int .i64 n14, .int .i64 n15, .int .i64 n16] 33))) : wpList Try.prog ops Q (o :: rest) a (w.alloc (.cells #[.int .i64 0, .int .i64 0, .int .i64 0, .int .i64 0, .int .i64 0, .int .i64 0, .int .i64 0, .int .i64 0, .int .i64 0, .int .i64 0, .int .i64 0, .int .i64 0, .int .i64 0, .int .i64 0, .int .i64 0, .int .i64 0, .int .i64 0] 33)) := by
  refine storeMo hgd x y ho w.heap.size hx hy (K.new w _) ?_
  rw [World.setRow_alloc_new]
  exact h

section
variable {o : Oper} {a : Act} {w : World} {K : Act → World → Prop} {Q : Exit → Act → World → Prop}
theorem move_mo (x : Operand) (v : Value) (ho : o.op = .move x) (hx : a.eval x = v) (hK : K (a.put o.dst v) w) : o.wp Try.prog a w K Q := by
  unfold Oper.wp execOp
  simp only [ho, hx]
  go_simp
  exact hK

theorem idx_mo (x y : Operand) (g of n c k : Nat) (ho : o.op = .indexAddr 39 x y) (hx : a.eval x = .slice (some ⟨g, of, none⟩) n c) (hy : a.eval y = .int .i64 (k : Int)) (hk : k < n) (hK : K (a.put o.dst (.pointer (some ⟨g, of + k * 17, none⟩))) w) : o.wp Try.prog a w K Q := by
  unfold Oper.wp execOp
  simp only [ho, hx, hy]
  go_simp
  exact hK
theorem ld_mo (x : Operand) (g of : Nat) (r : Mo) (ho : o.op = .load 33 x) (hx : a.eval x = .pointer (some ⟨g, of, none⟩)) (hc : w.rangeAt g of r.cells) (hK : K (a.put o.dst (.agg #[.int .i64 r.kind, .int .i64 r.frm.base.k, .int .i64 r.frm.base.a, .int .i64 r.frm.base.b, .int .i64 r.frm.base.c, .int .i64 r.frm.base.d, .int .i64 r.frm.len, .int .i64 r.to.base.k, .int .i64 r.to.base.a, .int .i64 r.to.base.b, .int .i64 r.to.base.c, .int .i64 r.to.base.d, .int .i64 r.to.len, .int .i64 r.proto, .int .i64 r.lo, .int .i64 r.hi, .int .i64 r.n])) w) : o.wp Try.prog a w K Q :=
  wp_load_mid 33 x ho g of hx r.cells _ hc Try.underlying33 rfl info_mo hK

theorem ceq_mo (x y : Operand) (x0 x1 : Value) (ts : Array TypeId) (ho : o.op = .call { callee := .value (.func 79), args := #[x, y], argTypes := ts }) (h0 : a.eval x = x0) (h1 : a.eval y = x1)
    (h : Calls Try.prog 79 #[x0, x1] w fun e w' => ∃ v, e = .returned v ∧ K (a.put o.dst v) w') : o.wp Try.prog a w K Q := by
  unfold Oper.wp execOp
  simp only [ho, resolve, List.map_toArray, List.map_cons, List.map_nil, h0, h1, show ∀ f, a.eval (.func f) = .func (.func f) #[] #[] from fun _ => rfl]
  go_simp
  exact h.mono fun e w' ⟨u, he, hk⟩ => by subst he; exact hk
theorem cto_mo (x : Operand) (x0 : Value) (ts : Array TypeId) (ho : o.op = .call { callee := .value (.func 16), args := #[x], argTypes := ts }) (h0 : a.eval x = x0)
    (h : Calls Try.prog 16 #[x0] w fun e w' => ∃ v, e = .returned v ∧ K (a.put o.dst v) w') : o.wp Try.prog a w K Q := by
  unfold Oper.wp execOp
  simp only [ho, resolve, List.map_toArray, List.map_cons, List.map_nil, h0, show ∀ f, a.eval (.func f) = .func (.func f) #[] #[] from fun _ => rfl]
  go_simp
  exact h.mono fun e w' ⟨u, he, hk⟩ => by subst he; exact hk

end
end Go.Proofs.Ytdndanbalmoklaa
