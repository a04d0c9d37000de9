/-
  Whole loads and stores of a struct, alone or within a row.
-/
import Derived.Test.YtmfkpiclpkeemaaCeLib
import Derived.Test.YtmfkpiclpkeemaaCells19
import Derived.Deep.WholeRow
namespace Go.Proofs.Ytmfkpiclpkeemaa
set_option maxRecDepth 100000
open Go.RowKit

theorem info_ce : (Try.prog.info? 93).map (·.size) = some 16 := by kernel_rfl
theorem info_lce : (Try.prog.info? 132).map (·.size) = some 16 := by kernel_rfl
theorem info_ceP : (Try.prog.info? 93).map (fun i => (i.zero, i.size, i.bytes)) = some (some (.agg #[.bool false, .int .i64 0, .int .i64 0, .int .i64 0, .int .i64 0, .int .i64 0, .int .i64 0, .int .i64 0, .int .i64 0, .int .i64 0, .int .i64 0, .int .i64 0, .int .i64 0, .int .i64 0, .int .i64 0, .int .i64 0]), 16, 128) := by kernel_rfl
theorem setRowB_ce {w0 w : World} {g : Nat} (hb : Below w0.heap.size w0 w) (hg : w0.heap.size ≤ g) (cs : Array Value) : Below w0.heap.size w0 (w.setRow g cs) :=
  bgrown hb (row := some g) ⟨rfl, rfl, rfl, by simp, fun k _ hk => setRow_other w g k cs (fun e => hk (by rw [e]))⟩ (fun k hk => by cases hk; exact hg)
theorem loadCe {ops : Array Oper} {rest : List Oper} {o : Oper} {a : Act} {w : World} {Q : Exit → Act → World → Prop} (hgd : o.guard = none) (x : Operand) (ho : o.op = .load 93 x) (g : Nat) (hx : a.eval x = .pointer (some ⟨g, 0, none⟩)) {t : TypeId} {v0 v1 v2 v3 v4 v5 v6 v7 v8 v9 v10 v11 v12 v13 v14 v15 : Value}
    (hg : w.heap[g]? = some (.cells #[v0, v1, v2, v3, v4, v5, v6, v7, v8, v9, v10, v11, v12, v13, v14, v15] t (0, 0))) (h : wpList Try.prog ops Q rest (a.put o.dst (.agg #[v0, v1, v2, v3, v4, v5, v6, v7, v8, v9, v10, v11, v12, v13, v14, v15])) w) : wpList Try.prog ops Q (o :: rest) a w :=
  wpList_load_row hgd 93 x ho g hx t _ (0, 0) _ hg Try.underlying93 rfl info_ce h
theorem loadAtCe {ops : Array Oper} {rest : List Oper} {o : Oper} {a : Act} {w : World} {Q : Exit → Act → World → Prop} (hgd : o.guard = none) (x : Operand) (ho : o.op = .load 93 x) (g off : Nat) (hx : a.eval x = .pointer (some ⟨g, off, none⟩)) (r : Ce)
    (hc : w.rangeAt g off r.cells) (h : wpList Try.prog ops Q rest (a.put o.dst (.agg #[.bool r.used, .int .i64 r.key.tenant, .int .i64 r.key.key.src.k, .int .i64 r.key.key.src.a, .int .i64 r.key.key.src.b, .int .i64 r.key.key.src.c, .int .i64 r.key.key.src.d, .int .i64 r.key.key.dst.k, .int .i64 r.key.key.dst.a, .int .i64 r.key.key.dst.b, .int .i64 r.key.key.dst.c, .int .i64 r.key.key.dst.d, .int .i64 r.key.key.proto, .int .i64 r.key.key.sport, .int .i64 r.key.key.dport, .int .i64 r.num])) w) : wpList Try.prog ops Q (o :: rest) a w :=
  wpList_load_mid hgd 93 x ho g off hx r.cells _ hc Try.underlying93 rfl info_ce h
theorem loadLCe {ops : Array Oper} {rest : List Oper} {o : Oper} {a : Act} {w : World} {Q : Exit → Act → World → Prop} (hgd : o.guard = none) (x : Operand) (ho : o.op = .load 132 x) (g : Nat) (hx : a.eval x = .pointer (some ⟨g, 0, none⟩)) {t : TypeId} {v0 v1 v2 v3 v4 v5 v6 v7 v8 v9 v10 v11 v12 v13 v14 v15 : Value}
    (hg : w.heap[g]? = some (.cells #[v0, v1, v2, v3, v4, v5, v6, v7, v8, v9, v10, v11, v12, v13, v14, v15] t (0, 0))) (h : wpList Try.prog ops Q rest (a.put o.dst (.agg #[v0, v1, v2, v3, v4, v5, v6, v7, v8, v9, v10, v11, v12, v13, v14, v15])) w) : wpList Try.prog ops Q (o :: rest) a w :=
  wpList_load_row hgd 132 x ho g hx t _ (0, 0) _ hg Try.underlying132 rfl info_lce h
theorem loadLAtCe {ops : Array Oper} {rest : List Oper} {o : Oper} {a : Act} {w : World} {Q : Exit → Act → World → Prop} (hgd : o.guard = none) (x : Operand) (ho : o.op = .load 132 x) (g off : Nat) (hx : a.eval x = .pointer (some ⟨g, off, none⟩)) (r : Ce)
    (hc : w.rangeAt g off r.cells) (h : wpList Try.prog ops Q rest (a.put o.dst (.agg #[.bool r.used, .int .i64 r.key.tenant, .int .i64 r.key.key.src.k, .int .i64 r.key.key.src.a, .int .i64 r.key.key.src.b, .int .i64 r.key.key.src.c, .int .i64 r.key.key.src.d, .int .i64 r.key.key.dst.k, .int .i64 r.key.key.dst.a, .int .i64 r.key.key.dst.b, .int .i64 r.key.key.dst.c, .int .i64 r.key.key.dst.d, .int .i64 r.key.key.proto, .int .i64 r.key.key.sport, .int .i64 r.key.key.dport, .int .i64 r.num])) w) : wpList Try.prog ops Q (o :: rest) a w :=
  wpList_load_mid hgd 132 x ho g off hx r.cells _ hc Try.underlying132 rfl info_lce h
theorem storeCe {ops : Array Oper} {rest : List Oper} {o : Oper} {a : Act} {w : World} {Q : Exit → Act → World → Prop} (hgd : o.guard = none) (x y : Operand) (ho : o.op = .store 93 x y) (g : Nat) {n0 : Bool} {n1 : Int} {n2 : Int} {n3 : Int} {n4 : Int} {n5 : Int} {n6 : Int} {n7 : Int} {n8 : Int} {n9 : Int} {n10 : Int} {n11 : Int} {n12 : Int} {n13 : Int} {n14 : Int} {n15 : Int} (hx : a.eval x = .pointer (some ⟨g, 0, none⟩)) (hy : a.eval y = .agg #[.bool n0, .int .i64 n1, .int .i64 n2, .int .i64 n3, .int .i64 n4, .int .i64 n5, .int .i64 n6, .int .i64 n7, .int .i64 n8, .int .i64 n9, .int .i64 n10, .int .i64 n11, .int .i64 n12, .int .i64 n13, .int .i64 n14, .int .i64 n15]) {t : TypeId} {u0 u1 u2 u3 u4 u5 u6 u7 u8 u9 u10 u11 u12 u13 u14 u15 : Value}
    (hg : w.heap[g]? = some (.cells #[u0, u1, u2, u3, u4, u5, u6, u7, u8, u9, u10, u11, u12, u13, u14, u15] t (0, 0))) (h : wpList Try.prog ops Q rest (a.put o.dst undef) (w.setRow g #[.bool n0, .int .i64 n1, .int .i64 n2, .int .i64 n3, .int .i64 n4, .int .i64 n5, .int .i64 n6, .int .i64 n7, .int .i64 n8, .int .i64 n9, .int .i64 n10, .int .i64 n11, .int .i64 n12, .int .i64 n13, .int .i64 n14, .int .i64 n15])) : wpList Try.prog ops Q (o :: rest) a w :=
  wpList_store_row hgd 93 x y ho g _ hx hy t _ hg info_ce rfl (by simp [Value.oneCell']) h
theorem storeAtCe {ops : Array Oper} {rest : List Oper} {o : Oper} {a : Act} {w : World} {Q : Exit → Act → World → Prop} (hgd : o.guard = none) (x y : Operand) (ho : o.op = .store 93 x y) (g off : Nat) (r : Ce) (hx : a.eval x = .pointer (some ⟨g, off, none⟩)) (hy : a.eval y = .agg #[.bool r.used, .int .i64 r.key.tenant, .int .i64 r.key.key.src.k, .int .i64 r.key.key.src.a, .int .i64 r.key.key.src.b, .int .i64 r.key.key.src.c, .int .i64 r.key.key.src.d, .int .i64 r.key.key.dst.k, .int .i64 r.key.key.dst.a, .int .i64 r.key.key.dst.b, .int .i64 r.key.key.dst.c, .int .i64 r.key.key.dst.d, .int .i64 r.key.key.proto, .int .i64 r.key.key.sport, .int .i64 r.key.key.dport, .int .i64 r.num])
    (ht : w.there g off 16) (h : wpList Try.prog ops Q rest (a.put o.dst undef) (w.setCells g off r.cells)) : wpList Try.prog ops Q (o :: rest) a w :=
  wpList_store_mid hgd 93 x y ho g off #[.bool r.used, .int .i64 r.key.tenant, .int .i64 r.key.key.src.k, .int .i64 r.key.key.src.a, .int .i64 r.key.key.src.b, .int .i64 r.key.key.src.c, .int .i64 r.key.key.src.d, .int .i64 r.key.key.dst.k, .int .i64 r.key.key.dst.a, .int .i64 r.key.key.dst.b, .int .i64 r.key.key.dst.c, .int .i64 r.key.key.dst.d, .int .i64 r.key.key.proto, .int .i64 r.key.key.sport, .int .i64 r.key.key.dport, .int .i64 r.num] hx hy ht info_ce (by simp [Value.oneCell']) h
theorem resCe {fn : Func} {p : Tmp} (h : fn.results = #[.cell p 93]) (tmps : Array Value) (w : World) (g : Nat) {t : TypeId} {v0 v1 v2 v3 v4 v5 v6 v7 v8 v9 v10 v11 v12 v13 v14 v15 : Value} (hp : tmps.getD p undef = .pointer (some ⟨g, 0, none⟩)) (hg : w.heap[g]? = some (.cells #[v0, v1, v2, v3, v4, v5, v6, v7, v8, v9, v10, v11, v12, v13, v14, v15] t (0, 0))) :
    (results fn tmps).run Try.prog w = .ok (.agg #[v0, v1, v2, v3, v4, v5, v6, v7, v8, v9, v10, v11, v12, v13, v14, v15]) w :=
  results_cell_row h tmps w g t _ (0, 0) _ hp hg Try.underlying93 rfl info_ce
theorem storeNewCe {ops : Array Oper} {rest : List Oper} {o : Oper} {a : Act} {w : World} {Q : Exit → Act → World → Prop} (hgd : o.guard = none) (x y : Operand) (ho : o.op = .store 93 x y) {n0 : Bool} {n1 : Int} {n2 : Int} {n3 : Int} {n4 : Int} {n5 : Int} {n6 : Int} {n7 : Int} {n8 : Int} {n9 : Int} {n10 : Int} {n11 : Int} {n12 : Int} {n13 : Int} {n14 : Int} {n15 : Int} (hx : a.eval x = .pointer (some ⟨w.heap.size, 0, none⟩)) (hy : a.eval y = .agg #[.bool n0, .int .i64 n1, .int .i64 n2, .int .i64 n3, .int .i64 n4, .int .i64 n5, .int .i64 n6, .int .i64 n7, .int .i64 n8, .int .i64 n9, .int .i64 n10, .int .i64 n11, .int .i64 n12, .int .i64 n13, .int .i64 n14, .int .i64 n15])
    (h : wpList Try.prog ops Q rest (a.put o.dst undef) (w.alloc (.cells #[.bool n0, .int .i64 n1, .int .i64 n2, .int .i64 n3, .int .i64 n4, .int .i64 n5, .int .i64 n6, .int .i64 n7, .int .i64 n8, .int .i64 n9, .int .i64 n10, .int .i64 n11, .int .i64 n12, .int .i64 n13, .int .i64 n14, .int .i64 n15] 93))) : wpList Try.prog ops Q (o :: rest) a (w.alloc (.cells #[.bool false, .int .i64 0, .int .i64 0, .int .i64 0, .int .i64 0, .int .i64 0, .int .i64 0, .int .i64 0, .int .i64 0, .int .i64 0, .int .i64 0, .int .i64 0, .int .i64 0, .int .i64 0, .int .i64 0, .int .i64 0] 93)) := by
  refine storeCe hgd x y ho w.heap.size hx hy (K.new w _) ?_
  rw [World.setRow_alloc_new]
  exact h

section
variable {o : Oper} {a : Act} {w : World} {K : Act → World → Prop} {Q : Exit → Act → World → Prop}
theorem move_ce (x : Operand) (v : Value) (ho : o.op = .move x) (hx : a.eval x = v) (hK : K (a.put o.dst v) w) : o.wp Try.prog a w K Q := by
  unfold Oper.wp execOp
  simp only [ho, hx]
  go_simp
  exact hK

theorem idx_ce (x y : Operand) (g of n c k : Nat) (ho : o.op = .indexAddr 38 x y) (hx : a.eval x = .slice (some ⟨g, of, none⟩) n c) (hy : a.eval y = .int .i64 (k : Int)) (hk : k < n) (hK : K (a.put o.dst (.pointer (some ⟨g, of + k * 16, none⟩))) w) : o.wp Try.prog a w K Q := by
  unfold Oper.wp execOp
  simp only [ho, hx, hy]
  go_simp
  exact hK
theorem ld_ce (x : Operand) (g of : Nat) (r : Ce) (ho : o.op = .load 93 x) (hx : a.eval x = .pointer (some ⟨g, of, none⟩)) (hc : w.rangeAt g of r.cells) (hK : K (a.put o.dst (.agg #[.bool r.used, .int .i64 r.key.tenant, .int .i64 r.key.key.src.k, .int .i64 r.key.key.src.a, .int .i64 r.key.key.src.b, .int .i64 r.key.key.src.c, .int .i64 r.key.key.src.d, .int .i64 r.key.key.dst.k, .int .i64 r.key.key.dst.a, .int .i64 r.key.key.dst.b, .int .i64 r.key.key.dst.c, .int .i64 r.key.key.dst.d, .int .i64 r.key.key.proto, .int .i64 r.key.key.sport, .int .i64 r.key.key.dport, .int .i64 r.num])) w) : o.wp Try.prog a w K Q :=
  wp_load_mid 93 x ho g of hx r.cells _ hc Try.underlying93 rfl info_ce hK

theorem ceq_ce (x y : Operand) (x0 x1 : Value) (ts : Array TypeId) (ho : o.op = .call { callee := .value (.func 109), args := #[x, y], argTypes := ts }) (h0 : a.eval x = x0) (h1 : a.eval y = x1)
    (h : Calls Try.prog 109 #[x0, x1] w fun e w' => ∃ v, e = .returned v ∧ K (a.put o.dst v) w') : o.wp Try.prog a w K Q := by
  unfold Oper.wp execOp
  simp only [ho, resolve, List.map_toArray, List.map_cons, List.map_nil, h0, h1, show ∀ f, a.eval (.func f) = .func (.func f) #[] #[] from fun _ => rfl]
  go_simp
  exact h.mono fun e w' ⟨u, he, hk⟩ => by subst he; exact hk
theorem cto_ce (x : Operand) (x0 : Value) (ts : Array TypeId) (ho : o.op = .call { callee := .value (.func 110), args := #[x], argTypes := ts }) (h0 : a.eval x = x0)
    (h : Calls Try.prog 110 #[x0] w fun e w' => ∃ v, e = .returned v ∧ K (a.put o.dst v) w') : o.wp Try.prog a w K Q := by
  unfold Oper.wp execOp
  simp only [ho, resolve, List.map_toArray, List.map_cons, List.map_nil, h0, show ∀ f, a.eval (.func f) = .func (.func f) #[] #[] from fun _ => rfl]
  go_simp
  exact h.mono fun e w' ⟨u, he, hk⟩ => by subst he; exact hk

end
end Go.Proofs.Ytmfkpiclpkeemaa
