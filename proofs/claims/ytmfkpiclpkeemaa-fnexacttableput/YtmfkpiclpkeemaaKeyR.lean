/-
  Stream keys once more, with fewer texts behind them: whole loads and stores; KeyOk and Turned in the program and in the model.
-/
import Derived.Test.YtmfkpiclpkeemaaKeyLib
import Derived.Test.YtmfkpiclpkeemaaWit
import Derived.Test.YtmfkpiclpkeemaaAddr
import Derived.Test.YtmfkpiclpkeemaaCells19
namespace Go.Proofs.Ytmfkpiclpkeemaa
set_option maxRecDepth 100000
open Go.RowKit

theorem info_addrP : (Try.prog.info? 29).map (·.size) = some 5 := by kernel_rfl
theorem info_laddrP : (Try.prog.info? 23).map (·.size) = some 5 := by kernel_rfl
theorem loadA {ops : Array Oper} {rest : List Oper} {o : Oper} {a : Act} {w : World} {Q : Exit → Act → World → Prop} (hgd : o.guard = none) (x : Operand) (ho : o.op = .load 29 x) (g : Nat) (hx : a.eval x = .pointer (some ⟨g, 0, none⟩)) {t : TypeId} {v0 v1 v2 v3 v4 : Value}
    (hg : w.heap[g]? = some (.cells #[v0, v1, v2, v3, v4] t (0, 0))) (h : wpList Try.prog ops Q rest (a.put o.dst (.agg #[v0, v1, v2, v3, v4])) w) : wpList Try.prog ops Q (o :: rest) a w :=
  wpList_load_row hgd 29 x ho g hx t _ (0, 0) _ hg Try.underlying29 rfl info_addrP h
theorem implOkB (x : Ad) (b : Bool) (h : x.ok = b) (w : World) : Calls Try.prog 125 #[.agg #[.int .i64 x.k, .int .i64 x.a, .int .i64 x.b, .int .i64 x.c, .int .i64 x.d]] w fun e w' => e = .returned (.bool b) ∧ Below w.heap.size w w' := h ▸ implAddrOk x w
theorem specOkB (x : Ad) (b : Bool) (h : x.ok = b) (w : World) : Calls Try.prog 124 #[.agg #[.int .i64 x.k, .int .i64 x.a, .int .i64 x.b, .int .i64 x.c, .int .i64 x.d]] w fun e w' => e = .returned (.bool b) ∧ Below w.heap.size w w' := h ▸ specAddrOk x w

set_option maxHeartbeats 2000000 in
theorem pairI (x y : Ad) (w : World) : Calls Try.prog 102 #[.agg #[.int .i64 x.k, .int .i64 x.a, .int .i64 x.b, .int .i64 x.c, .int .i64 x.d], .agg #[.int .i64 y.k, .int .i64 y.a, .int .i64 y.b, .int .i64 y.c, .int .i64 y.d]] w fun e w' => e = .returned (.bool (pairA x y)) ∧ Below w.heap.size w w' := by
  have q0 : Hid (((w.alloc (.cells #[.int .i64 x.k, .int .i64 x.a, .int .i64 x.b, .int .i64 x.c, .int .i64 x.d] 29)).alloc (.cells #[.int .i64 y.k, .int .i64 y.a, .int .i64 y.b, .int .i64 y.c, .int .i64 y.d] 29)).heap[w.heap.size]? = some (.cells #[.int .i64 x.k, .int .i64 x.a, .int .i64 x.b, .int .i64 x.c, .int .i64 x.d] 29)) := Lib.hid (by repeat (first | exact K.newAt (by first | rfl | (simp; done)) | refine K.oldAt (by first | (simp; done) | (simp; omega)) ?_))
  have q1 : Hid (((w.alloc (.cells #[.int .i64 x.k, .int .i64 x.a, .int .i64 x.b, .int .i64 x.c, .int .i64 x.d] 29)).alloc (.cells #[.int .i64 y.k, .int .i64 y.a, .int .i64 y.b, .int .i64 y.c, .int .i64 y.d] 29)).heap[w.heap.size + 1]? = some (.cells #[.int .i64 y.k, .int .i64 y.a, .int .i64 y.b, .int .i64 y.c, .int .i64 y.d] 29)) := Lib.hid (by repeat (first | exact K.newAt (by first | rfl | (simp; done)) | refine K.oldAt (by first | (simp; done) | (simp; omega)) ?_))
  cases hx : x.ok with
  | false =>
    have HX := Lib.hid hx
    have HR := Lib.hid (show pairA x y = false by simp [pairA, hx])
    clear hx
    go_enter Try.func102, Try.ntmps102
    go_wp2_with (with_reducible refine loadA rfl _ rfl w.heap.size rfl q0.out ?_)
    refine Calls.mono (implOkB x false HX.out _) ?_
    rintro e w1 ⟨rfl, b1⟩
    have B1 := Lib.hid (bthen (Joins.below_alloc2 w _ _) b1)
    clear b1
    go_wp2
    go_ret
    exact ⟨ret_bool HR.out.symm, B1.out⟩
  | true =>
    cases hy : y.ok with
    | false =>
      have HX := Lib.hid hx
      have HY := Lib.hid hy
      have HR := Lib.hid (show pairA x y = false by simp [pairA, hy])
      clear hx hy
      go_enter Try.func102, Try.ntmps102
      go_wp2_with (with_reducible refine loadA rfl _ rfl w.heap.size rfl q0.out ?_)
      refine Calls.mono (implOkB x true HX.out _) ?_
      rintro e w1 ⟨rfl, b1⟩
      have B1 := Lib.hid (bthen (Joins.below_alloc2 w _ _) b1)
      have q2 := Lib.hid (K.below b1 q1.out)
      clear b1
      have c := K.row5 q2.out
      obtain ⟨c0, c1, c2, c3, c4⟩ := c
      go_wp2_with fail
      refine Calls.mono (implOkB y false HY.out _) ?_
      rintro e w2 ⟨rfl, b2⟩
      have B2 := Lib.hid (bthen B1.out b2)
      clear b2 c0 c1 c2 c3 c4
      go_wp2
      go_ret
      exact ⟨ret_bool HR.out.symm, B2.out⟩
    | true =>
      have HX := Lib.hid hx
      have HY := Lib.hid hy
      have HR := Lib.hid (show pairA x y = decide (x.k = y.k) by simp [pairA, hx, hy])
      clear hx hy
      go_enter Try.func102, Try.ntmps102
      go_wp2_with (with_reducible refine loadA rfl _ rfl w.heap.size rfl q0.out ?_)
      refine Calls.mono (implOkB x true HX.out _) ?_
      rintro e w1 ⟨rfl, b1⟩
      have B1 := Lib.hid (bthen (Joins.below_alloc2 w _ _) b1)
      have q2 := Lib.hid (K.below b1 q1.out)
      have p2 := Lib.hid (K.below b1 q0.out)
      clear b1
      obtain ⟨c0, c1, c2, c3, c4⟩ := K.row5 q2.out
      go_wp2_with fail
      refine Calls.mono (implOkB y true HY.out _) ?_
      rintro e w2 ⟨rfl, b2⟩
      have B2 := Lib.hid (bthen B1.out b2)
      have d0 := K.cell (K.below b2 q2.out) 0 _ rfl
      have d1 := K.cell (K.below b2 p2.out) 0 _ rfl
      clear b2 c0 c1 c2 c3 c4
      go_wp2
      go_ret
      exact ⟨ret_bool (by rw [HR.out]; rfl), B2.out⟩

set_option maxHeartbeats 2000000 in
theorem pairS (x y : Ad) (w : World) : Calls Try.prog 98 #[.agg #[.int .i64 x.k, .int .i64 x.a, .int .i64 x.b, .int .i64 x.c, .int .i64 x.d], .agg #[.int .i64 y.k, .int .i64 y.a, .int .i64 y.b, .int .i64 y.c, .int .i64 y.d]] w fun e w' => e = .returned (.bool (pairA x y)) ∧ Below w.heap.size w w' := by
  have q0 : Hid (((w.alloc (.cells #[.int .i64 x.k, .int .i64 x.a, .int .i64 x.b, .int .i64 x.c, .int .i64 x.d] 29)).alloc (.cells #[.int .i64 y.k, .int .i64 y.a, .int .i64 y.b, .int .i64 y.c, .int .i64 y.d] 29)).heap[w.heap.size]? = some (.cells #[.int .i64 x.k, .int .i64 x.a, .int .i64 x.b, .int .i64 x.c, .int .i64 x.d] 29)) := Lib.hid (by repeat (first | exact K.newAt (by first | rfl | (simp; done)) | refine K.oldAt (by first | (simp; done) | (simp; omega)) ?_))
  have q1 : Hid (((w.alloc (.cells #[.int .i64 x.k, .int .i64 x.a, .int .i64 x.b, .int .i64 x.c, .int .i64 x.d] 29)).alloc (.cells #[.int .i64 y.k, .int .i64 y.a, .int .i64 y.b, .int .i64 y.c, .int .i64 y.d] 29)).heap[w.heap.size + 1]? = some (.cells #[.int .i64 y.k, .int .i64 y.a, .int .i64 y.b, .int .i64 y.c, .int .i64 y.d] 29)) := Lib.hid (by repeat (first | exact K.newAt (by first | rfl | (simp; done)) | refine K.oldAt (by first | (simp; done) | (simp; omega)) ?_))
  cases hx : x.ok with
  | false =>
    have HX := Lib.hid hx
    have HR := Lib.hid (show pairA x y = false by simp [pairA, hx])
    clear hx
    go_enter Try.func98, Try.ntmps98
    go_wp2_with (with_reducible refine loadA rfl _ rfl w.heap.size rfl q0.out ?_)
    refine Calls.mono (specOkB x false HX.out _) ?_
    rintro e w1 ⟨rfl, b1⟩
    have B1 := Lib.hid (bthen (Joins.below_alloc2 w _ _) b1)
    clear b1
    go_wp2
    go_ret
    exact ⟨ret_bool HR.out.symm, B1.out⟩
  | true =>
    cases hy : y.ok with
    | false =>
      have HX := Lib.hid hx
      have HY := Lib.hid hy
      have HR := Lib.hid (show pairA x y = false by simp [pairA, hy])
      clear hx hy
      go_enter Try.func98, Try.ntmps98
      go_wp2_with (with_reducible refine loadA rfl _ rfl w.heap.size rfl q0.out ?_)
      refine Calls.mono (specOkB x true HX.out _) ?_
      rintro e w1 ⟨rfl, b1⟩
      have B1 := Lib.hid (bthen (Joins.below_alloc2 w _ _) b1)
      have q2 := Lib.hid (K.below b1 q1.out)
      clear b1
      have c := K.row5 q2.out
      obtain ⟨c0, c1, c2, c3, c4⟩ := c
      go_wp2_with fail
      refine Calls.mono (specOkB y false HY.out _) ?_
      rintro e w2 ⟨rfl, b2⟩
      have B2 := Lib.hid (bthen B1.out b2)
      clear b2 c0 c1 c2 c3 c4
      go_wp2
      go_ret
      exact ⟨ret_bool HR.out.symm, B2.out⟩
    | true =>
      have HX := Lib.hid hx
      have HY := Lib.hid hy
      have HR := Lib.hid (show pairA x y = decide (x.k = y.k) by simp [pairA, hx, hy])
      clear hx hy
      go_enter Try.func98, Try.ntmps98
      go_wp2_with (with_reducible refine loadA rfl _ rfl w.heap.size rfl q0.out ?_)
      refine Calls.mono (specOkB x true HX.out _) ?_
      rintro e w1 ⟨rfl, b1⟩
      have B1 := Lib.hid (bthen (Joins.below_alloc2 w _ _) b1)
      have q2 := Lib.hid (K.below b1 q1.out)
      have p2 := Lib.hid (K.below b1 q0.out)
      clear b1
      obtain ⟨c0, c1, c2, c3, c4⟩ := K.row5 q2.out
      go_wp2_with fail
      refine Calls.mono (specOkB y true HY.out _) ?_
      rintro e w2 ⟨rfl, b2⟩
      have B2 := Lib.hid (bthen B1.out b2)
      have d0 := K.cell (K.below b2 q2.out) 0 _ rfl
      have d1 := K.cell (K.below b2 p2.out) 0 _ rfl
      clear b2 c0 c1 c2 c3 c4
      go_wp2
      go_ret
      exact ⟨ret_bool (by rw [HR.out]; rfl), B2.out⟩
theorem pairIB (x y : Ad) (b : Bool) (h : pairA x y = b) (w : World) : Calls Try.prog 102 #[.agg #[.int .i64 x.k, .int .i64 x.a, .int .i64 x.b, .int .i64 x.c, .int .i64 x.d], .agg #[.int .i64 y.k, .int .i64 y.a, .int .i64 y.b, .int .i64 y.c, .int .i64 y.d]] w fun e w' => e = .returned (.bool b) ∧ Below w.heap.size w w' := h ▸ pairI x y w
theorem pairSB (x y : Ad) (b : Bool) (h : pairA x y = b) (w : World) : Calls Try.prog 98 #[.agg #[.int .i64 x.k, .int .i64 x.a, .int .i64 x.b, .int .i64 x.c, .int .i64 x.d], .agg #[.int .i64 y.k, .int .i64 y.a, .int .i64 y.b, .int .i64 y.c, .int .i64 y.d]] w fun e w' => e = .returned (.bool b) ∧ Below w.heap.size w w' := h ▸ pairS x y w
theorem withinR (n hi : Int) (b : Bool) (w : World) (h : upTo n hi = b) : Calls Try.prog 63 #[.int .i64 n, .int .i64 0, .int .i64 hi] w fun e w' => e = .returned (.bool b) ∧ Below w.heap.size w w' := ruleW 0 n hi b h w
theorem inSR (n hi : Int) (b : Bool) (w : World) (h : upTo n hi = b) : Calls Try.prog 99 #[.int .i64 n, .int .i64 hi] w fun e w' => e = .returned (.bool b) ∧ Below w.heap.size w w' := by
  subst h
  go_enter Try.func99, Try.ntmps99
  go_wp2
  all_goals (go_ret; exact ⟨ret_bool (by first | (simp [upTo, *]; done) | (simp [upTo, *]; omega)), by go_grown⟩)

theorem info_key : (Try.prog.info? 31).map (·.size) = some 13 := by kernel_rfl
theorem info_lkey : (Try.prog.info? 25).map (·.size) = some 13 := by kernel_rfl
theorem loadK {ops : Array Oper} {rest : List Oper} {o : Oper} {a : Act} {w : World} {Q : Exit → Act → World → Prop} (hgd : o.guard = none) (x : Operand) (ho : o.op = .load 31 x) (g : Nat) (hx : a.eval x = .pointer (some ⟨g, 0, none⟩)) {t : TypeId} {v0 v1 v2 v3 v4 v5 v6 v7 v8 v9 v10 v11 v12 : Value}
    (hg : w.heap[g]? = some (.cells #[v0, v1, v2, v3, v4, v5, v6, v7, v8, v9, v10, v11, v12] t (0, 0))) (h : wpList Try.prog ops Q rest (a.put o.dst (.agg #[v0, v1, v2, v3, v4, v5, v6, v7, v8, v9, v10, v11, v12])) w) : wpList Try.prog ops Q (o :: rest) a w :=
  wpList_load_row hgd 31 x ho g hx t _ (0, 0) _ hg Try.underlying31 rfl info_key h
theorem loadKL {ops : Array Oper} {rest : List Oper} {o : Oper} {a : Act} {w : World} {Q : Exit → Act → World → Prop} (hgd : o.guard = none) (x : Operand) (ho : o.op = .load 25 x) (g : Nat) (hx : a.eval x = .pointer (some ⟨g, 0, none⟩)) {t : TypeId} {v0 v1 v2 v3 v4 v5 v6 v7 v8 v9 v10 v11 v12 : Value}
    (hg : w.heap[g]? = some (.cells #[v0, v1, v2, v3, v4, v5, v6, v7, v8, v9, v10, v11, v12] t (0, 0))) (h : wpList Try.prog ops Q rest (a.put o.dst (.agg #[v0, v1, v2, v3, v4, v5, v6, v7, v8, v9, v10, v11, v12])) w) : wpList Try.prog ops Q (o :: rest) a w :=
  wpList_load_row hgd 25 x ho g hx t _ (0, 0) _ hg Try.underlying25 rfl info_lkey h
theorem storeK {ops : Array Oper} {rest : List Oper} {o : Oper} {a : Act} {w : World} {Q : Exit → Act → World → Prop} (hgd : o.guard = none) (x y : Operand) (ho : o.op = .store 31 x y) (g : Nat) {n0 n1 n2 n3 n4 n5 n6 n7 n8 n9 n10 n11 n12 : Int} (hx : a.eval x = .pointer (some ⟨g, 0, none⟩)) (hy : a.eval y = .agg #[.int .i64 n0, .int .i64 n1, .int .i64 n2, .int .i64 n3, .int .i64 n4, .int .i64 n5, .int .i64 n6, .int .i64 n7, .int .i64 n8, .int .i64 n9, .int .i64 n10, .int .i64 n11, .int .i64 n12]) {t : TypeId} {u0 u1 u2 u3 u4 u5 u6 u7 u8 u9 u10 u11 u12 : Value}
    (hg : w.heap[g]? = some (.cells #[u0, u1, u2, u3, u4, u5, u6, u7, u8, u9, u10, u11, u12] t (0, 0))) (h : wpList Try.prog ops Q rest (a.put o.dst undef) (w.setRow g #[.int .i64 n0, .int .i64 n1, .int .i64 n2, .int .i64 n3, .int .i64 n4, .int .i64 n5, .int .i64 n6, .int .i64 n7, .int .i64 n8, .int .i64 n9, .int .i64 n10, .int .i64 n11, .int .i64 n12])) : wpList Try.prog ops Q (o :: rest) a w :=
  wpList_store_row hgd 31 x y ho g _ hx hy t _ hg info_key rfl (by simp [Value.oneCell']) h
theorem resK {fn : Func} {p : Tmp} (h : fn.results = #[.cell p 31]) (tmps : Array Value) (w : World) (g : Nat) {t : TypeId} {v0 v1 v2 v3 v4 v5 v6 v7 v8 v9 v10 v11 v12 : Value} (hp : tmps.getD p undef = .pointer (some ⟨g, 0, none⟩)) (hg : w.heap[g]? = some (.cells #[v0, v1, v2, v3, v4, v5, v6, v7, v8, v9, v10, v11, v12] t (0, 0))) :
    (results fn tmps).run Try.prog w = .ok (.agg #[v0, v1, v2, v3, v4, v5, v6, v7, v8, v9, v10, v11, v12]) w :=
  results_cell_row h tmps w g t _ (0, 0) _ hp hg Try.underlying31 rfl info_key

set_option maxHeartbeats 1000000 in
theorem toKeyC (x : Ky) (w : World) : Calls Try.prog 62 #[.agg #[.int .i64 x.src.k, .int .i64 x.src.a, .int .i64 x.src.b, .int .i64 x.src.c, .int .i64 x.src.d, .int .i64 x.dst.k, .int .i64 x.dst.a, .int .i64 x.dst.b, .int .i64 x.dst.c, .int .i64 x.dst.d, .int .i64 x.proto, .int .i64 x.sport, .int .i64 x.dport]] w fun e w' => e = .returned (.agg #[.int .i64 x.src.k, .int .i64 x.src.a, .int .i64 x.src.b, .int .i64 x.src.c, .int .i64 x.src.d, .int .i64 x.dst.k, .int .i64 x.dst.a, .int .i64 x.dst.b, .int .i64 x.dst.c, .int .i64 x.dst.d, .int .i64 x.proto, .int .i64 x.sport, .int .i64 x.dport]) ∧ Below w.heap.size w w' := by
  go_enter Try.func62, Try.ntmps62
  go_wp2
  go_returns
  exact ⟨rfl, by go_grown⟩

set_option maxHeartbeats 1000000 in
theorem eqKeyC (x : Ky) (w : World) : Calls Try.prog 111 #[.agg #[.int .i64 x.src.k, .int .i64 x.src.a, .int .i64 x.src.b, .int .i64 x.src.c, .int .i64 x.src.d, .int .i64 x.dst.k, .int .i64 x.dst.a, .int .i64 x.dst.b, .int .i64 x.dst.c, .int .i64 x.dst.d, .int .i64 x.proto, .int .i64 x.sport, .int .i64 x.dport], .agg #[.int .i64 x.src.k, .int .i64 x.src.a, .int .i64 x.src.b, .int .i64 x.src.c, .int .i64 x.src.d, .int .i64 x.dst.k, .int .i64 x.dst.a, .int .i64 x.dst.b, .int .i64 x.dst.c, .int .i64 x.dst.d, .int .i64 x.proto, .int .i64 x.sport, .int .i64 x.dport]] w fun e w' => e = .returned (.bool true) ∧ Below w.heap.size w w' := by
  go_enter Try.func111, Try.ntmps111
  go_wp2
  go_returns
  exact ⟨rfl, by go_grown⟩

set_option maxHeartbeats 2000000 in
theorem keyOkS (x : Ky) (w : World) : Calls Try.prog 61 #[.agg #[.int .i64 x.src.k, .int .i64 x.src.a, .int .i64 x.src.b, .int .i64 x.src.c, .int .i64 x.src.d, .int .i64 x.dst.k, .int .i64 x.dst.a, .int .i64 x.dst.b, .int .i64 x.dst.c, .int .i64 x.dst.d, .int .i64 x.proto, .int .i64 x.sport, .int .i64 x.dport]] w fun e w' => e = .returned (.bool x.ok) ∧ Below w.heap.size w w' := by
  have q0 := Lib.hid (K.new w (.cells #[.int .i64 x.src.k, .int .i64 x.src.a, .int .i64 x.src.b, .int .i64 x.src.c, .int .i64 x.src.d, .int .i64 x.dst.k, .int .i64 x.dst.a, .int .i64 x.dst.b, .int .i64 x.dst.c, .int .i64 x.dst.d, .int .i64 x.proto, .int .i64 x.sport, .int .i64 x.dport] 31))
  cases h1 : pairA x.src x.dst with
  | false =>
    have HR := Lib.hid (Ky.no1 h1)
    have H1 := Lib.hid h1
    clear h1
    go_enter Try.func61, Try.ntmps61
    go_wp2_with fail
    refine Calls.mono (pairSB x.src x.dst false H1.out _) ?_
    rintro e w1 ⟨rfl, b1⟩
    have B1 := Lib.hid (bthen (Joins.below_alloc1 w _) b1)
    clear b1
    go_wp2
    go_ret
    exact ⟨ret_bool HR.out.symm, B1.out⟩
  | true =>
    cases h2 : upTo x.proto 255 with
    | false =>
      have HR := Lib.hid (Ky.no2 h2)
      have H1 := Lib.hid h1
      have H2 := Lib.hid h2
      clear h1 h2
      go_enter Try.func61, Try.ntmps61
      go_wp2_with fail
      refine Calls.mono (pairSB x.src x.dst true H1.out _) ?_
      rintro e w1 ⟨rfl, b1⟩
      have B1 := Lib.hid (bthen (Joins.below_alloc1 w _) b1)
      have q1 := Lib.hid (K.below b1 q0.out)
      have c10 := K.cell q1.out 10 _ rfl
      clear b1
      go_wp2_with fail
      refine Calls.mono (inSR x.proto 255 false _ H2.out) ?_
      rintro e w2 ⟨rfl, b2⟩
      have B2 := Lib.hid (bthen B1.out b2)
      clear b2 c10
      go_wp2
      go_ret
      exact ⟨ret_bool HR.out.symm, B2.out⟩
    | true =>
      cases h3 : upTo x.sport 65535 with
      | false =>
        have HR := Lib.hid (Ky.no3 h3)
        have H1 := Lib.hid h1
        have H2 := Lib.hid h2
        have H3 := Lib.hid h3
        clear h1 h2 h3
        go_enter Try.func61, Try.ntmps61
        go_wp2_with fail
        refine Calls.mono (pairSB x.src x.dst true H1.out _) ?_
        rintro e w1 ⟨rfl, b1⟩
        have B1 := Lib.hid (bthen (Joins.below_alloc1 w _) b1)
        have q1 := Lib.hid (K.below b1 q0.out)
        have c10 := K.cell q1.out 10 _ rfl
        clear b1
        go_wp2_with fail
        refine Calls.mono (inSR x.proto 255 true _ H2.out) ?_
        rintro e w2 ⟨rfl, b2⟩
        have B2 := Lib.hid (bthen B1.out b2)
        have q2 := Lib.hid (K.below b2 q1.out)
        have c11 := K.cell q2.out 11 _ rfl
        clear b2 c10
        go_wp2_with fail
        refine Calls.mono (inSR x.sport 65535 false _ H3.out) ?_
        rintro e w3 ⟨rfl, b3⟩
        have B3 := Lib.hid (bthen B2.out b3)
        clear b3 c11
        go_wp2
        go_ret
        exact ⟨ret_bool HR.out.symm, B3.out⟩
      | true =>
        obtain ⟨b, h4⟩ : ∃ b, upTo x.dport 65535 = b := ⟨_, rfl⟩
        have HR := Lib.hid ((Ky.yes h1 h2 h3).trans h4)
        have H1 := Lib.hid h1
        have H2 := Lib.hid h2
        have H3 := Lib.hid h3
        have H4 := Lib.hid h4
        clear h1 h2 h3 h4
        go_enter Try.func61, Try.ntmps61
        go_wp2_with fail
        refine Calls.mono (pairSB x.src x.dst true H1.out _) ?_
        rintro e w1 ⟨rfl, b1⟩
        have B1 := Lib.hid (bthen (Joins.below_alloc1 w _) b1)
        have q1 := Lib.hid (K.below b1 q0.out)
        have c10 := K.cell q1.out 10 _ rfl
        clear b1
        go_wp2_with fail
        refine Calls.mono (inSR x.proto 255 true _ H2.out) ?_
        rintro e w2 ⟨rfl, b2⟩
        have B2 := Lib.hid (bthen B1.out b2)
        have q2 := Lib.hid (K.below b2 q1.out)
        have c11 := K.cell q2.out 11 _ rfl
        clear b2 c10
        go_wp2_with fail
        refine Calls.mono (inSR x.sport 65535 true _ H3.out) ?_
        rintro e w3 ⟨rfl, b3⟩
        have B3 := Lib.hid (bthen B2.out b3)
        have q3 := Lib.hid (K.below b3 q2.out)
        have c12 := K.cell q3.out 12 _ rfl
        clear b3 c11
        go_wp2_with fail
        refine Calls.mono (inSR x.dport 65535 b _ H4.out) ?_
        rintro e w4 ⟨rfl, b4⟩
        have B4 := Lib.hid (bthen B3.out b4)
        clear b4 c12
        go_wp2
        go_ret
        exact ⟨ret_bool HR.out.symm, B4.out⟩

set_option maxHeartbeats 2000000 in
theorem keyOkI (x : Ky) (w : World) : Calls Try.prog 64 #[.agg #[.int .i64 x.src.k, .int .i64 x.src.a, .int .i64 x.src.b, .int .i64 x.src.c, .int .i64 x.src.d, .int .i64 x.dst.k, .int .i64 x.dst.a, .int .i64 x.dst.b, .int .i64 x.dst.c, .int .i64 x.dst.d, .int .i64 x.proto, .int .i64 x.sport, .int .i64 x.dport]] w fun e w' => e = .returned (.bool x.ok) ∧ Below w.heap.size w w' := by
  have q0 := Lib.hid (K.new w (.cells #[.int .i64 x.src.k, .int .i64 x.src.a, .int .i64 x.src.b, .int .i64 x.src.c, .int .i64 x.src.d, .int .i64 x.dst.k, .int .i64 x.dst.a, .int .i64 x.dst.b, .int .i64 x.dst.c, .int .i64 x.dst.d, .int .i64 x.proto, .int .i64 x.sport, .int .i64 x.dport] 31))
  cases h1 : pairA x.src x.dst with
  | false =>
    have HR := Lib.hid (Ky.no1 h1)
    have H1 := Lib.hid h1
    clear h1
    go_enter Try.func64, Try.ntmps64
    go_wp2_with fail
    refine Calls.mono (pairIB x.src x.dst false H1.out _) ?_
    rintro e w1 ⟨rfl, b1⟩
    have B1 := Lib.hid (bthen (Joins.below_alloc1 w _) b1)
    clear b1
    go_wp2
    go_ret
    exact ⟨ret_bool HR.out.symm, B1.out⟩
  | true =>
    cases h2 : upTo x.proto 255 with
    | false =>
      have HR := Lib.hid (Ky.no2 h2)
      have H1 := Lib.hid h1
      have H2 := Lib.hid h2
      clear h1 h2
      go_enter Try.func64, Try.ntmps64
      go_wp2_with fail
      refine Calls.mono (pairIB x.src x.dst true H1.out _) ?_
      rintro e w1 ⟨rfl, b1⟩
      have B1 := Lib.hid (bthen (Joins.below_alloc1 w _) b1)
      have q1 := Lib.hid (K.below b1 q0.out)
      have c10 := K.cell q1.out 10 _ rfl
      clear b1
      go_wp2_with fail
      refine Calls.mono (protoR x.proto false _ H2.out) ?_
      rintro e w2 ⟨rfl, b2⟩
      have B2 := Lib.hid (bthen B1.out b2)
      clear b2 c10
      go_wp2
      go_ret
      exact ⟨ret_bool HR.out.symm, B2.out⟩
    | true =>
      cases h3 : upTo x.sport 65535 with
      | false =>
        have HR := Lib.hid (Ky.no3 h3)
        have H1 := Lib.hid h1
        have H2 := Lib.hid h2
        have H3 := Lib.hid h3
        clear h1 h2 h3
        go_enter Try.func64, Try.ntmps64
        go_wp2_with fail
        refine Calls.mono (pairIB x.src x.dst true H1.out _) ?_
        rintro e w1 ⟨rfl, b1⟩
        have B1 := Lib.hid (bthen (Joins.below_alloc1 w _) b1)
        have q1 := Lib.hid (K.below b1 q0.out)
        have c10 := K.cell q1.out 10 _ rfl
        clear b1
        go_wp2_with fail
        refine Calls.mono (protoR x.proto true _ H2.out) ?_
        rintro e w2 ⟨rfl, b2⟩
        have B2 := Lib.hid (bthen B1.out b2)
        have q2 := Lib.hid (K.below b2 q1.out)
        have c11 := K.cell q2.out 11 _ rfl
        clear b2 c10
        go_wp2_with fail
        refine Calls.mono (withinR x.sport 65535 false _ H3.out) ?_
        rintro e w3 ⟨rfl, b3⟩
        have B3 := Lib.hid (bthen B2.out b3)
        clear b3 c11
        go_wp2
        go_ret
        exact ⟨ret_bool HR.out.symm, B3.out⟩
      | true =>
        obtain ⟨b, h4⟩ : ∃ b, upTo x.dport 65535 = b := ⟨_, rfl⟩
        have HR := Lib.hid ((Ky.yes h1 h2 h3).trans h4)
        have H1 := Lib.hid h1
        have H2 := Lib.hid h2
        have H3 := Lib.hid h3
        have H4 := Lib.hid h4
        clear h1 h2 h3 h4
        go_enter Try.func64, Try.ntmps64
        go_wp2_with fail
        refine Calls.mono (pairIB x.src x.dst true H1.out _) ?_
        rintro e w1 ⟨rfl, b1⟩
        have B1 := Lib.hid (bthen (Joins.below_alloc1 w _) b1)
        have q1 := Lib.hid (K.below b1 q0.out)
        have c10 := K.cell q1.out 10 _ rfl
        clear b1
        go_wp2_with fail
        refine Calls.mono (protoR x.proto true _ H2.out) ?_
        rintro e w2 ⟨rfl, b2⟩
        have B2 := Lib.hid (bthen B1.out b2)
        have q2 := Lib.hid (K.below b2 q1.out)
        have c11 := K.cell q2.out 11 _ rfl
        clear b2 c10
        go_wp2_with fail
        refine Calls.mono (withinR x.sport 65535 true _ H3.out) ?_
        rintro e w3 ⟨rfl, b3⟩
        have B3 := Lib.hid (bthen B2.out b3)
        have q3 := Lib.hid (K.below b3 q2.out)
        have c12 := K.cell q3.out 12 _ rfl
        clear b3 c11
        go_wp2_with fail
        refine Calls.mono (withinR x.dport 65535 b _ H4.out) ?_
        rintro e w4 ⟨rfl, b4⟩
        have B4 := Lib.hid (bthen B3.out b4)
        clear b4 c12
        go_wp2
        go_ret
        exact ⟨ret_bool HR.out.symm, B4.out⟩

theorem keyOkSB (x : Ky) (b : Bool) (h : x.ok = b) (w : World) : Calls Try.prog 61 #[.agg #[.int .i64 x.src.k, .int .i64 x.src.a, .int .i64 x.src.b, .int .i64 x.src.c, .int .i64 x.src.d, .int .i64 x.dst.k, .int .i64 x.dst.a, .int .i64 x.dst.b, .int .i64 x.dst.c, .int .i64 x.dst.d, .int .i64 x.proto, .int .i64 x.sport, .int .i64 x.dport]] w fun e w' => e = .returned (.bool b) ∧ Below w.heap.size w w' := h ▸ keyOkS x w
theorem keyOkIB (x : Ky) (b : Bool) (h : x.ok = b) (w : World) : Calls Try.prog 64 #[.agg #[.int .i64 x.src.k, .int .i64 x.src.a, .int .i64 x.src.b, .int .i64 x.src.c, .int .i64 x.src.d, .int .i64 x.dst.k, .int .i64 x.dst.a, .int .i64 x.dst.b, .int .i64 x.dst.c, .int .i64 x.dst.d, .int .i64 x.proto, .int .i64 x.sport, .int .i64 x.dport]] w fun e w' => e = .returned (.bool b) ∧ Below w.heap.size w w' := h ▸ keyOkI x w



end Go.Proofs.Ytmfkpiclpkeemaa
