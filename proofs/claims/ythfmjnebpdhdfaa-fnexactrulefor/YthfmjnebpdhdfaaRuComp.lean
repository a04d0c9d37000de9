/-
  The conditions of a compiled rule, each a function value over the rule; matches, which asks them one after the other.
-/
import Derived.Test.YthfmjnebpdhdfaaRuleOkI
import Derived.Test.YthfmjnebpdhdfaaPfxHas
import Derived.Test.YthfmjnebpdhdfaaKeyLib
namespace Go.Proofs.Ythfmjnebpdhdfaa
set_option maxRecDepth 100000
open Go.RowKit


theorem hasIB (p : Pf) (y : Ad) (b : Bool) (h : p.has y = b) (w : World) : Calls Try.prog 112 #[.agg #[.int .i64 p.base.k, .int .i64 p.base.a, .int .i64 p.base.b, .int .i64 p.base.c, .int .i64 p.base.d, .int .i64 p.len], .agg #[.int .i64 y.k, .int .i64 y.a, .int .i64 y.b, .int .i64 y.c, .int .i64 y.d]] w fun e w' => e = .returned (.bool b) ∧ Below w.heap.size w w' := h ▸ implPrefixHas p y w

set_option maxHeartbeats 400000 in
theorem comp1 (x : Ru) (y : Ad) (b : Bool) (h : x.src.has y = b) (g : Nat) (w : World) (hg : w.heap[g]? = some (.cells #[.int .i64 x.prio, .int .i64 x.src.base.k, .int .i64 x.src.base.a, .int .i64 x.src.base.b, .int .i64 x.src.base.c, .int .i64 x.src.base.d, .int .i64 x.src.len, .int .i64 x.dst.base.k, .int .i64 x.dst.base.a, .int .i64 x.dst.base.b, .int .i64 x.dst.base.c, .int .i64 x.dst.base.d, .int .i64 x.dst.len, .int .i64 x.proto, .int .i64 x.slo, .int .i64 x.shi, .int .i64 x.dlo, .int .i64 x.dhi, .int .i64 x.tenant, .int .i64 x.weight, .int .i64 x.chain] 33 (0, 0))) : Calls Try.prog 111 #[.agg #[.int .i64 y.k, .int .i64 y.a, .int .i64 y.b, .int .i64 y.c, .int .i64 y.d], .pointer (some ⟨g, 0, none⟩)] w fun e w' => e = .returned (.bool b) ∧ Below w.heap.size w w' := by
  have q := Lib.hid (K.old hg (.cells #[.int .i64 y.k, .int .i64 y.a, .int .i64 y.b, .int .i64 y.c, .int .i64 y.d] 29))
  have H := Lib.hid h
  clear h hg
  have c1 := K.cell q.out 1 _ rfl
  have c2 := K.cell q.out 2 _ rfl
  have c3 := K.cell q.out 3 _ rfl
  have c4 := K.cell q.out 4 _ rfl
  have c5 := K.cell q.out 5 _ rfl
  have c6 := K.cell q.out 6 _ rfl
  go_enter Try.func111, Try.ntmps111
  go_wp2_with fail
  refine Calls.mono (hasIB x.src y b H.out _) ?_
  rintro e w1 ⟨rfl, b1⟩
  have B1 := Lib.hid (bthen (Joins.below_alloc1 w _) b1)
  clear b1
  go_wp2
  go_ret
  exact ⟨rfl, B1.out⟩

set_option maxHeartbeats 400000 in
theorem comp2 (x : Ru) (y : Ad) (b : Bool) (h : x.dst.has y = b) (g : Nat) (w : World) (hg : w.heap[g]? = some (.cells #[.int .i64 x.prio, .int .i64 x.src.base.k, .int .i64 x.src.base.a, .int .i64 x.src.base.b, .int .i64 x.src.base.c, .int .i64 x.src.base.d, .int .i64 x.src.len, .int .i64 x.dst.base.k, .int .i64 x.dst.base.a, .int .i64 x.dst.base.b, .int .i64 x.dst.base.c, .int .i64 x.dst.base.d, .int .i64 x.dst.len, .int .i64 x.proto, .int .i64 x.slo, .int .i64 x.shi, .int .i64 x.dlo, .int .i64 x.dhi, .int .i64 x.tenant, .int .i64 x.weight, .int .i64 x.chain] 33 (0, 0))) : Calls Try.prog 113 #[.agg #[.int .i64 y.k, .int .i64 y.a, .int .i64 y.b, .int .i64 y.c, .int .i64 y.d], .pointer (some ⟨g, 0, none⟩)] w fun e w' => e = .returned (.bool b) ∧ Below w.heap.size w w' := by
  have q := Lib.hid (K.old hg (.cells #[.int .i64 y.k, .int .i64 y.a, .int .i64 y.b, .int .i64 y.c, .int .i64 y.d] 29))
  have H := Lib.hid h
  clear h hg
  have c7 := K.cell q.out 7 _ rfl
  have c8 := K.cell q.out 8 _ rfl
  have c9 := K.cell q.out 9 _ rfl
  have c10 := K.cell q.out 10 _ rfl
  have c11 := K.cell q.out 11 _ rfl
  have c12 := K.cell q.out 12 _ rfl
  go_enter Try.func113, Try.ntmps113
  go_wp2_with fail
  refine Calls.mono (hasIB x.dst y b H.out _) ?_
  rintro e w1 ⟨rfl, b1⟩
  have B1 := Lib.hid (bthen (Joins.below_alloc1 w _) b1)
  clear b1
  go_wp2
  go_ret
  exact ⟨rfl, B1.out⟩

set_option maxHeartbeats 400000 in
theorem comp3 (x : Ru) (n : Int) (b : Bool) (h : (x.proto == -1 || x.proto == n) = b) (g : Nat) (w : World) (hg : w.heap[g]? = some (.cells #[.int .i64 x.prio, .int .i64 x.src.base.k, .int .i64 x.src.base.a, .int .i64 x.src.base.b, .int .i64 x.src.base.c, .int .i64 x.src.base.d, .int .i64 x.src.len, .int .i64 x.dst.base.k, .int .i64 x.dst.base.a, .int .i64 x.dst.base.b, .int .i64 x.dst.base.c, .int .i64 x.dst.base.d, .int .i64 x.dst.len, .int .i64 x.proto, .int .i64 x.slo, .int .i64 x.shi, .int .i64 x.dlo, .int .i64 x.dhi, .int .i64 x.tenant, .int .i64 x.weight, .int .i64 x.chain] 33 (0, 0))) : Calls Try.prog 114 #[.int .i64 n, .pointer (some ⟨g, 0, none⟩)] w fun e w' => e = .returned (.bool b) ∧ Below w.heap.size w w' := by
  subst h
  have c13 := K.cell hg 13 _ rfl
  clear hg
  go_enter Try.func114, Try.ntmps114
  go_wp2
  all_goals (go_ret; exact ⟨ret_bool (by simp [*]), by go_grown⟩)

set_option maxHeartbeats 400000 in
theorem comp4 (x : Ru) (n : Int) (b : Bool) (h : btw x.slo n x.shi = b) (g : Nat) (w : World) (hg : w.heap[g]? = some (.cells #[.int .i64 x.prio, .int .i64 x.src.base.k, .int .i64 x.src.base.a, .int .i64 x.src.base.b, .int .i64 x.src.base.c, .int .i64 x.src.base.d, .int .i64 x.src.len, .int .i64 x.dst.base.k, .int .i64 x.dst.base.a, .int .i64 x.dst.base.b, .int .i64 x.dst.base.c, .int .i64 x.dst.base.d, .int .i64 x.dst.len, .int .i64 x.proto, .int .i64 x.slo, .int .i64 x.shi, .int .i64 x.dlo, .int .i64 x.dhi, .int .i64 x.tenant, .int .i64 x.weight, .int .i64 x.chain] 33 (0, 0))) : Calls Try.prog 115 #[.int .i64 n, .pointer (some ⟨g, 0, none⟩)] w fun e w' => e = .returned (.bool b) ∧ Below w.heap.size w w' := by
  have H := Lib.hid h
  have c14 := K.cell hg 14 _ rfl
  have c15 := K.cell hg 15 _ rfl
  clear hg h
  go_enter Try.func115, Try.ntmps115
  go_wp2_with fail
  refine Calls.mono (ruleW x.slo n x.shi b H.out _) ?_
  rintro e w1 ⟨rfl, b1⟩
  go_wp2
  go_ret
  exact ⟨rfl, b1⟩

set_option maxHeartbeats 400000 in
theorem comp5 (x : Ru) (n : Int) (b : Bool) (h : btw x.dlo n x.dhi = b) (g : Nat) (w : World) (hg : w.heap[g]? = some (.cells #[.int .i64 x.prio, .int .i64 x.src.base.k, .int .i64 x.src.base.a, .int .i64 x.src.base.b, .int .i64 x.src.base.c, .int .i64 x.src.base.d, .int .i64 x.src.len, .int .i64 x.dst.base.k, .int .i64 x.dst.base.a, .int .i64 x.dst.base.b, .int .i64 x.dst.base.c, .int .i64 x.dst.base.d, .int .i64 x.dst.len, .int .i64 x.proto, .int .i64 x.slo, .int .i64 x.shi, .int .i64 x.dlo, .int .i64 x.dhi, .int .i64 x.tenant, .int .i64 x.weight, .int .i64 x.chain] 33 (0, 0))) : Calls Try.prog 116 #[.int .i64 n, .pointer (some ⟨g, 0, none⟩)] w fun e w' => e = .returned (.bool b) ∧ Below w.heap.size w w' := by
  have H := Lib.hid h
  have c16 := K.cell hg 16 _ rfl
  have c17 := K.cell hg 17 _ rfl
  clear hg h
  go_enter Try.func116, Try.ntmps116
  go_wp2_with fail
  refine Calls.mono (ruleW x.dlo n x.dhi b H.out _) ?_
  rintro e w1 ⟨rfl, b1⟩
  go_wp2
  go_ret
  exact ⟨rfl, b1⟩

theorem info_comp : (Try.prog.info? 96).map (·.size) = some 5 := by kernel_rfl
theorem storeClo {ops : Array Oper} {rest : List Oper} {o : Oper} {a : Act} {w : World} {Q : Exit → Act → World → Prop} {old : Array Value} (hs : old.size = 5) (hgd : o.guard = none) (x y : Operand) (ho : o.op = .store 96 x y) (g b : Nat) (hb : w.heap.size = b) (hx : a.eval x = .pointer (some ⟨b, 0, none⟩)) (hy : a.eval y = .agg #[.func (.func 111) #[] #[.pointer (some ⟨g, 0, none⟩)], .func (.func 113) #[] #[.pointer (some ⟨g, 0, none⟩)], .func (.func 114) #[] #[.pointer (some ⟨g, 0, none⟩)], .func (.func 115) #[] #[.pointer (some ⟨g, 0, none⟩)], .func (.func 116) #[] #[.pointer (some ⟨g, 0, none⟩)]])
    (h : wpList Try.prog ops Q rest (a.put o.dst undef) (w.alloc (.cells #[.func (.func 111) #[] #[.pointer (some ⟨g, 0, none⟩)], .func (.func 113) #[] #[.pointer (some ⟨g, 0, none⟩)], .func (.func 114) #[] #[.pointer (some ⟨g, 0, none⟩)], .func (.func 115) #[] #[.pointer (some ⟨g, 0, none⟩)], .func (.func 116) #[] #[.pointer (some ⟨g, 0, none⟩)]] 96))) : wpList Try.prog ops Q (o :: rest) a (w.alloc (.cells old 96)) := by
  subst hb
  refine wpList_store_row hgd 96 x y ho w.heap.size _ hx hy _ _ (K.new w _) info_comp hs (by simp [Value.oneCell']) ?_
  rw [World.setRow_alloc_new]
  exact h

set_option maxHeartbeats 1000000 in
theorem compiledC (x : Ru) (w : World) : Calls Try.prog 68 #[.agg #[.int .i64 x.prio, .int .i64 x.src.base.k, .int .i64 x.src.base.a, .int .i64 x.src.base.b, .int .i64 x.src.base.c, .int .i64 x.src.base.d, .int .i64 x.src.len, .int .i64 x.dst.base.k, .int .i64 x.dst.base.a, .int .i64 x.dst.base.b, .int .i64 x.dst.base.c, .int .i64 x.dst.base.d, .int .i64 x.dst.len, .int .i64 x.proto, .int .i64 x.slo, .int .i64 x.shi, .int .i64 x.dlo, .int .i64 x.dhi, .int .i64 x.tenant, .int .i64 x.weight, .int .i64 x.chain]] w fun e w' => ∃ g, e = .returned (.agg #[.func (.func 111) #[] #[.pointer (some ⟨g, 0, none⟩)], .func (.func 113) #[] #[.pointer (some ⟨g, 0, none⟩)], .func (.func 114) #[] #[.pointer (some ⟨g, 0, none⟩)], .func (.func 115) #[] #[.pointer (some ⟨g, 0, none⟩)], .func (.func 116) #[] #[.pointer (some ⟨g, 0, none⟩)]]) ∧ w'.heap[g]? = some (.cells #[.int .i64 x.prio, .int .i64 x.src.base.k, .int .i64 x.src.base.a, .int .i64 x.src.base.b, .int .i64 x.src.base.c, .int .i64 x.src.base.d, .int .i64 x.src.len, .int .i64 x.dst.base.k, .int .i64 x.dst.base.a, .int .i64 x.dst.base.b, .int .i64 x.dst.base.c, .int .i64 x.dst.base.d, .int .i64 x.dst.len, .int .i64 x.proto, .int .i64 x.slo, .int .i64 x.shi, .int .i64 x.dlo, .int .i64 x.dhi, .int .i64 x.tenant, .int .i64 x.weight, .int .i64 x.chain] 33 (0, 0)) ∧ Below w.heap.size w w' := by
  go_enter Try.func68, Try.ntmps68
  go_wp2_with (with_reducible refine storeClo rfl rfl _ _ rfl w.heap.size (w.heap.size + 1) (by simp) rfl rfl ?_)
  (try simp only [Exit.inBlock, Exit.then])
  refine bodyPost_ret (v := .agg #[.func (.func 111) #[] #[.pointer (some ⟨w.heap.size, 0, none⟩)], .func (.func 113) #[] #[.pointer (some ⟨w.heap.size, 0, none⟩)], .func (.func 114) #[] #[.pointer (some ⟨w.heap.size, 0, none⟩)], .func (.func 115) #[] #[.pointer (some ⟨w.heap.size, 0, none⟩)], .func (.func 116) #[] #[.pointer (some ⟨w.heap.size, 0, none⟩)]]) ?_ rfl ⟨w.heap.size, rfl, K.oldAt (by simp) (K.newAt rfl), by go_grown⟩
  exact results_cell_row Try.results68 _ _ (w.heap.size + 1) 96 _ (0, 0) _ rfl (K.newAt (by simp)) Try.underlying96 rfl info_comp

set_option maxHeartbeats 2000000 in
theorem match_0 (x : Ru) (k : Ky) (g : Nat) (w : World) (hg : w.heap[g]? = some (.cells #[.int .i64 x.prio, .int .i64 x.src.base.k, .int .i64 x.src.base.a, .int .i64 x.src.base.b, .int .i64 x.src.base.c, .int .i64 x.src.base.d, .int .i64 x.src.len, .int .i64 x.dst.base.k, .int .i64 x.dst.base.a, .int .i64 x.dst.base.b, .int .i64 x.dst.base.c, .int .i64 x.dst.base.d, .int .i64 x.dst.len, .int .i64 x.proto, .int .i64 x.slo, .int .i64 x.shi, .int .i64 x.dlo, .int .i64 x.dhi, .int .i64 x.tenant, .int .i64 x.weight, .int .i64 x.chain] 33 (0, 0))) (h0 : x.src.has k.src = false) : Calls Try.prog 69 #[.agg #[.func (.func 111) #[] #[.pointer (some ⟨g, 0, none⟩)], .func (.func 113) #[] #[.pointer (some ⟨g, 0, none⟩)], .func (.func 114) #[] #[.pointer (some ⟨g, 0, none⟩)], .func (.func 115) #[] #[.pointer (some ⟨g, 0, none⟩)], .func (.func 116) #[] #[.pointer (some ⟨g, 0, none⟩)]], .agg #[.int .i64 k.src.k, .int .i64 k.src.a, .int .i64 k.src.b, .int .i64 k.src.c, .int .i64 k.src.d, .int .i64 k.dst.k, .int .i64 k.dst.a, .int .i64 k.dst.b, .int .i64 k.dst.c, .int .i64 k.dst.d, .int .i64 k.proto, .int .i64 k.sport, .int .i64 k.dport]] w fun e w' => e = .returned (.bool false) ∧ Below w.heap.size w w' := by
  have q0 : Hid (((w.alloc (.cells #[.func (.func 111) #[] #[.pointer (some ⟨g, 0, none⟩)], .func (.func 113) #[] #[.pointer (some ⟨g, 0, none⟩)], .func (.func 114) #[] #[.pointer (some ⟨g, 0, none⟩)], .func (.func 115) #[] #[.pointer (some ⟨g, 0, none⟩)], .func (.func 116) #[] #[.pointer (some ⟨g, 0, none⟩)]] 96)).alloc (.cells #[.int .i64 k.src.k, .int .i64 k.src.a, .int .i64 k.src.b, .int .i64 k.src.c, .int .i64 k.src.d, .int .i64 k.dst.k, .int .i64 k.dst.a, .int .i64 k.dst.b, .int .i64 k.dst.c, .int .i64 k.dst.d, .int .i64 k.proto, .int .i64 k.sport, .int .i64 k.dport] 40)).heap[w.heap.size]? = some (.cells #[.func (.func 111) #[] #[.pointer (some ⟨g, 0, none⟩)], .func (.func 113) #[] #[.pointer (some ⟨g, 0, none⟩)], .func (.func 114) #[] #[.pointer (some ⟨g, 0, none⟩)], .func (.func 115) #[] #[.pointer (some ⟨g, 0, none⟩)], .func (.func 116) #[] #[.pointer (some ⟨g, 0, none⟩)]] 96 (0, 0))) := Lib.hid (by repeat (first | exact K.newAt (by first | rfl | (simp; done)) | refine K.oldAt (by first | (simp; done) | (simp; omega)) ?_))
  have s0 : Hid (((w.alloc (.cells #[.func (.func 111) #[] #[.pointer (some ⟨g, 0, none⟩)], .func (.func 113) #[] #[.pointer (some ⟨g, 0, none⟩)], .func (.func 114) #[] #[.pointer (some ⟨g, 0, none⟩)], .func (.func 115) #[] #[.pointer (some ⟨g, 0, none⟩)], .func (.func 116) #[] #[.pointer (some ⟨g, 0, none⟩)]] 96)).alloc (.cells #[.int .i64 k.src.k, .int .i64 k.src.a, .int .i64 k.src.b, .int .i64 k.src.c, .int .i64 k.src.d, .int .i64 k.dst.k, .int .i64 k.dst.a, .int .i64 k.dst.b, .int .i64 k.dst.c, .int .i64 k.dst.d, .int .i64 k.proto, .int .i64 k.sport, .int .i64 k.dport] 40)).heap[w.heap.size + 1]? = some (.cells #[.int .i64 k.src.k, .int .i64 k.src.a, .int .i64 k.src.b, .int .i64 k.src.c, .int .i64 k.src.d, .int .i64 k.dst.k, .int .i64 k.dst.a, .int .i64 k.dst.b, .int .i64 k.dst.c, .int .i64 k.dst.d, .int .i64 k.proto, .int .i64 k.sport, .int .i64 k.dport] 40 (0, 0))) := Lib.hid (by repeat (first | exact K.newAt (by first | rfl | (simp; done)) | refine K.oldAt (by first | (simp; done) | (simp; omega)) ?_))
  have p0 : Hid (((w.alloc (.cells #[.func (.func 111) #[] #[.pointer (some ⟨g, 0, none⟩)], .func (.func 113) #[] #[.pointer (some ⟨g, 0, none⟩)], .func (.func 114) #[] #[.pointer (some ⟨g, 0, none⟩)], .func (.func 115) #[] #[.pointer (some ⟨g, 0, none⟩)], .func (.func 116) #[] #[.pointer (some ⟨g, 0, none⟩)]] 96)).alloc (.cells #[.int .i64 k.src.k, .int .i64 k.src.a, .int .i64 k.src.b, .int .i64 k.src.c, .int .i64 k.src.d, .int .i64 k.dst.k, .int .i64 k.dst.a, .int .i64 k.dst.b, .int .i64 k.dst.c, .int .i64 k.dst.d, .int .i64 k.proto, .int .i64 k.sport, .int .i64 k.dport] 40)).heap[g]? = some (.cells #[.int .i64 x.prio, .int .i64 x.src.base.k, .int .i64 x.src.base.a, .int .i64 x.src.base.b, .int .i64 x.src.base.c, .int .i64 x.src.base.d, .int .i64 x.src.len, .int .i64 x.dst.base.k, .int .i64 x.dst.base.a, .int .i64 x.dst.base.b, .int .i64 x.dst.base.c, .int .i64 x.dst.base.d, .int .i64 x.dst.len, .int .i64 x.proto, .int .i64 x.slo, .int .i64 x.shi, .int .i64 x.dlo, .int .i64 x.dhi, .int .i64 x.tenant, .int .i64 x.weight, .int .i64 x.chain] 33 (0, 0))) := Lib.hid (K.old (K.old hg _) _)
  have H0 := Lib.hid h0
  clear hg h0
  go_enter Try.func69, Try.ntmps69
  go_wp2_with fail
  refine Calls.mono (comp1 x k.src false H0.out g _ p0.out) ?_
  rintro e w1 ⟨rfl, b1⟩
  have B1 := Lib.hid (bthen (Joins.below_alloc2 w _ _) b1)
  clear b1 
  go_wp2
  go_ret
  exact ⟨rfl, B1.out⟩

set_option maxHeartbeats 2000000 in
theorem match_1 (x : Ru) (k : Ky) (g : Nat) (w : World) (hg : w.heap[g]? = some (.cells #[.int .i64 x.prio, .int .i64 x.src.base.k, .int .i64 x.src.base.a, .int .i64 x.src.base.b, .int .i64 x.src.base.c, .int .i64 x.src.base.d, .int .i64 x.src.len, .int .i64 x.dst.base.k, .int .i64 x.dst.base.a, .int .i64 x.dst.base.b, .int .i64 x.dst.base.c, .int .i64 x.dst.base.d, .int .i64 x.dst.len, .int .i64 x.proto, .int .i64 x.slo, .int .i64 x.shi, .int .i64 x.dlo, .int .i64 x.dhi, .int .i64 x.tenant, .int .i64 x.weight, .int .i64 x.chain] 33 (0, 0))) (h0 : x.src.has k.src = true) (h1 : x.dst.has k.dst = false) : Calls Try.prog 69 #[.agg #[.func (.func 111) #[] #[.pointer (some ⟨g, 0, none⟩)], .func (.func 113) #[] #[.pointer (some ⟨g, 0, none⟩)], .func (.func 114) #[] #[.pointer (some ⟨g, 0, none⟩)], .func (.func 115) #[] #[.pointer (some ⟨g, 0, none⟩)], .func (.func 116) #[] #[.pointer (some ⟨g, 0, none⟩)]], .agg #[.int .i64 k.src.k, .int .i64 k.src.a, .int .i64 k.src.b, .int .i64 k.src.c, .int .i64 k.src.d, .int .i64 k.dst.k, .int .i64 k.dst.a, .int .i64 k.dst.b, .int .i64 k.dst.c, .int .i64 k.dst.d, .int .i64 k.proto, .int .i64 k.sport, .int .i64 k.dport]] w fun e w' => e = .returned (.bool false) ∧ Below w.heap.size w w' := by
  have q0 : Hid (((w.alloc (.cells #[.func (.func 111) #[] #[.pointer (some ⟨g, 0, none⟩)], .func (.func 113) #[] #[.pointer (some ⟨g, 0, none⟩)], .func (.func 114) #[] #[.pointer (some ⟨g, 0, none⟩)], .func (.func 115) #[] #[.pointer (some ⟨g, 0, none⟩)], .func (.func 116) #[] #[.pointer (some ⟨g, 0, none⟩)]] 96)).alloc (.cells #[.int .i64 k.src.k, .int .i64 k.src.a, .int .i64 k.src.b, .int .i64 k.src.c, .int .i64 k.src.d, .int .i64 k.dst.k, .int .i64 k.dst.a, .int .i64 k.dst.b, .int .i64 k.dst.c, .int .i64 k.dst.d, .int .i64 k.proto, .int .i64 k.sport, .int .i64 k.dport] 40)).heap[w.heap.size]? = some (.cells #[.func (.func 111) #[] #[.pointer (some ⟨g, 0, none⟩)], .func (.func 113) #[] #[.pointer (some ⟨g, 0, none⟩)], .func (.func 114) #[] #[.pointer (some ⟨g, 0, none⟩)], .func (.func 115) #[] #[.pointer (some ⟨g, 0, none⟩)], .func (.func 116) #[] #[.pointer (some ⟨g, 0, none⟩)]] 96 (0, 0))) := Lib.hid (by repeat (first | exact K.newAt (by first | rfl | (simp; done)) | refine K.oldAt (by first | (simp; done) | (simp; omega)) ?_))
  have s0 : Hid (((w.alloc (.cells #[.func (.func 111) #[] #[.pointer (some ⟨g, 0, none⟩)], .func (.func 113) #[] #[.pointer (some ⟨g, 0, none⟩)], .func (.func 114) #[] #[.pointer (some ⟨g, 0, none⟩)], .func (.func 115) #[] #[.pointer (some ⟨g, 0, none⟩)], .func (.func 116) #[] #[.pointer (some ⟨g, 0, none⟩)]] 96)).alloc (.cells #[.int .i64 k.src.k, .int .i64 k.src.a, .int .i64 k.src.b, .int .i64 k.src.c, .int .i64 k.src.d, .int .i64 k.dst.k, .int .i64 k.dst.a, .int .i64 k.dst.b, .int .i64 k.dst.c, .int .i64 k.dst.d, .int .i64 k.proto, .int .i64 k.sport, .int .i64 k.dport] 40)).heap[w.heap.size + 1]? = some (.cells #[.int .i64 k.src.k, .int .i64 k.src.a, .int .i64 k.src.b, .int .i64 k.src.c, .int .i64 k.src.d, .int .i64 k.dst.k, .int .i64 k.dst.a, .int .i64 k.dst.b, .int .i64 k.dst.c, .int .i64 k.dst.d, .int .i64 k.proto, .int .i64 k.sport, .int .i64 k.dport] 40 (0, 0))) := Lib.hid (by repeat (first | exact K.newAt (by first | rfl | (simp; done)) | refine K.oldAt (by first | (simp; done) | (simp; omega)) ?_))
  have p0 : Hid (((w.alloc (.cells #[.func (.func 111) #[] #[.pointer (some ⟨g, 0, none⟩)], .func (.func 113) #[] #[.pointer (some ⟨g, 0, none⟩)], .func (.func 114) #[] #[.pointer (some ⟨g, 0, none⟩)], .func (.func 115) #[] #[.pointer (some ⟨g, 0, none⟩)], .func (.func 116) #[] #[.pointer (some ⟨g, 0, none⟩)]] 96)).alloc (.cells #[.int .i64 k.src.k, .int .i64 k.src.a, .int .i64 k.src.b, .int .i64 k.src.c, .int .i64 k.src.d, .int .i64 k.dst.k, .int .i64 k.dst.a, .int .i64 k.dst.b, .int .i64 k.dst.c, .int .i64 k.dst.d, .int .i64 k.proto, .int .i64 k.sport, .int .i64 k.dport] 40)).heap[g]? = some (.cells #[.int .i64 x.prio, .int .i64 x.src.base.k, .int .i64 x.src.base.a, .int .i64 x.src.base.b, .int .i64 x.src.base.c, .int .i64 x.src.base.d, .int .i64 x.src.len, .int .i64 x.dst.base.k, .int .i64 x.dst.base.a, .int .i64 x.dst.base.b, .int .i64 x.dst.base.c, .int .i64 x.dst.base.d, .int .i64 x.dst.len, .int .i64 x.proto, .int .i64 x.slo, .int .i64 x.shi, .int .i64 x.dlo, .int .i64 x.dhi, .int .i64 x.tenant, .int .i64 x.weight, .int .i64 x.chain] 33 (0, 0))) := Lib.hid (K.old (K.old hg _) _)
  have H0 := Lib.hid h0
  have H1 := Lib.hid h1
  clear hg h0 h1
  go_enter Try.func69, Try.ntmps69
  go_wp2_with fail
  refine Calls.mono (comp1 x k.src true H0.out g _ p0.out) ?_
  rintro e w1 ⟨rfl, b1⟩
  have B1 := Lib.hid (bthen (Joins.below_alloc2 w _ _) b1)
  have q1 := Lib.hid (K.below b1 q0.out)
  have s1 := Lib.hid (K.below b1 s0.out)
  have p1 := Lib.hid (K.below b1 p0.out)
  have cq1 := K.cell q1.out 1 _ rfl
  have cs5 := K.cell s1.out 5 _ rfl
  have cs6 := K.cell s1.out 6 _ rfl
  have cs7 := K.cell s1.out 7 _ rfl
  have cs8 := K.cell s1.out 8 _ rfl
  have cs9 := K.cell s1.out 9 _ rfl
  clear b1 
  go_wp2_with fail
  refine Calls.mono (comp2 x k.dst false H1.out g _ p1.out) ?_
  rintro e w2 ⟨rfl, b2⟩
  have B2 := Lib.hid (bthen B1.out b2)
  clear b2 cq1 cs5 cs6 cs7 cs8 cs9
  go_wp2
  go_ret
  exact ⟨rfl, B2.out⟩

set_option maxHeartbeats 2000000 in
theorem match_2 (x : Ru) (k : Ky) (g : Nat) (w : World) (hg : w.heap[g]? = some (.cells #[.int .i64 x.prio, .int .i64 x.src.base.k, .int .i64 x.src.base.a, .int .i64 x.src.base.b, .int .i64 x.src.base.c, .int .i64 x.src.base.d, .int .i64 x.src.len, .int .i64 x.dst.base.k, .int .i64 x.dst.base.a, .int .i64 x.dst.base.b, .int .i64 x.dst.base.c, .int .i64 x.dst.base.d, .int .i64 x.dst.len, .int .i64 x.proto, .int .i64 x.slo, .int .i64 x.shi, .int .i64 x.dlo, .int .i64 x.dhi, .int .i64 x.tenant, .int .i64 x.weight, .int .i64 x.chain] 33 (0, 0))) (h0 : x.src.has k.src = true) (h1 : x.dst.has k.dst = true) (h2 : (x.proto == -1 || x.proto == k.proto) = false) : Calls Try.prog 69 #[.agg #[.func (.func 111) #[] #[.pointer (some ⟨g, 0, none⟩)], .func (.func 113) #[] #[.pointer (some ⟨g, 0, none⟩)], .func (.func 114) #[] #[.pointer (some ⟨g, 0, none⟩)], .func (.func 115) #[] #[.pointer (some ⟨g, 0, none⟩)], .func (.func 116) #[] #[.pointer (some ⟨g, 0, none⟩)]], .agg #[.int .i64 k.src.k, .int .i64 k.src.a, .int .i64 k.src.b, .int .i64 k.src.c, .int .i64 k.src.d, .int .i64 k.dst.k, .int .i64 k.dst.a, .int .i64 k.dst.b, .int .i64 k.dst.c, .int .i64 k.dst.d, .int .i64 k.proto, .int .i64 k.sport, .int .i64 k.dport]] w fun e w' => e = .returned (.bool false) ∧ Below w.heap.size w w' := by
  have q0 : Hid (((w.alloc (.cells #[.func (.func 111) #[] #[.pointer (some ⟨g, 0, none⟩)], .func (.func 113) #[] #[.pointer (some ⟨g, 0, none⟩)], .func (.func 114) #[] #[.pointer (some ⟨g, 0, none⟩)], .func (.func 115) #[] #[.pointer (some ⟨g, 0, none⟩)], .func (.func 116) #[] #[.pointer (some ⟨g, 0, none⟩)]] 96)).alloc (.cells #[.int .i64 k.src.k, .int .i64 k.src.a, .int .i64 k.src.b, .int .i64 k.src.c, .int .i64 k.src.d, .int .i64 k.dst.k, .int .i64 k.dst.a, .int .i64 k.dst.b, .int .i64 k.dst.c, .int .i64 k.dst.d, .int .i64 k.proto, .int .i64 k.sport, .int .i64 k.dport] 40)).heap[w.heap.size]? = some (.cells #[.func (.func 111) #[] #[.pointer (some ⟨g, 0, none⟩)], .func (.func 113) #[] #[.pointer (some ⟨g, 0, none⟩)], .func (.func 114) #[] #[.pointer (some ⟨g, 0, none⟩)], .func (.func 115) #[] #[.pointer (some ⟨g, 0, none⟩)], .func (.func 116) #[] #[.pointer (some ⟨g, 0, none⟩)]] 96 (0, 0))) := Lib.hid (by repeat (first | exact K.newAt (by first | rfl | (simp; done)) | refine K.oldAt (by first | (simp; done) | (simp; omega)) ?_))
  have s0 : Hid (((w.alloc (.cells #[.func (.func 111) #[] #[.pointer (some ⟨g, 0, none⟩)], .func (.func 113) #[] #[.pointer (some ⟨g, 0, none⟩)], .func (.func 114) #[] #[.pointer (some ⟨g, 0, none⟩)], .func (.func 115) #[] #[.pointer (some ⟨g, 0, none⟩)], .func (.func 116) #[] #[.pointer (some ⟨g, 0, none⟩)]] 96)).alloc (.cells #[.int .i64 k.src.k, .int .i64 k.src.a, .int .i64 k.src.b, .int .i64 k.src.c, .int .i64 k.src.d, .int .i64 k.dst.k, .int .i64 k.dst.a, .int .i64 k.dst.b, .int .i64 k.dst.c, .int .i64 k.dst.d, .int .i64 k.proto, .int .i64 k.sport, .int .i64 k.dport] 40)).heap[w.heap.size + 1]? = some (.cells #[.int .i64 k.src.k, .int .i64 k.src.a, .int .i64 k.src.b, .int .i64 k.src.c, .int .i64 k.src.d, .int .i64 k.dst.k, .int .i64 k.dst.a, .int .i64 k.dst.b, .int .i64 k.dst.c, .int .i64 k.dst.d, .int .i64 k.proto, .int .i64 k.sport, .int .i64 k.dport] 40 (0, 0))) := Lib.hid (by repeat (first | exact K.newAt (by first | rfl | (simp; done)) | refine K.oldAt (by first | (simp; done) | (simp; omega)) ?_))
  have p0 : Hid (((w.alloc (.cells #[.func (.func 111) #[] #[.pointer (some ⟨g, 0, none⟩)], .func (.func 113) #[] #[.pointer (some ⟨g, 0, none⟩)], .func (.func 114) #[] #[.pointer (some ⟨g, 0, none⟩)], .func (.func 115) #[] #[.pointer (some ⟨g, 0, none⟩)], .func (.func 116) #[] #[.pointer (some ⟨g, 0, none⟩)]] 96)).alloc (.cells #[.int .i64 k.src.k, .int .i64 k.src.a, .int .i64 k.src.b, .int .i64 k.src.c, .int .i64 k.src.d, .int .i64 k.dst.k, .int .i64 k.dst.a, .int .i64 k.dst.b, .int .i64 k.dst.c, .int .i64 k.dst.d, .int .i64 k.proto, .int .i64 k.sport, .int .i64 k.dport] 40)).heap[g]? = some (.cells #[.int .i64 x.prio, .int .i64 x.src.base.k, .int .i64 x.src.base.a, .int .i64 x.src.base.b, .int .i64 x.src.base.c, .int .i64 x.src.base.d, .int .i64 x.src.len, .int .i64 x.dst.base.k, .int .i64 x.dst.base.a, .int .i64 x.dst.base.b, .int .i64 x.dst.base.c, .int .i64 x.dst.base.d, .int .i64 x.dst.len, .int .i64 x.proto, .int .i64 x.slo, .int .i64 x.shi, .int .i64 x.dlo, .int .i64 x.dhi, .int .i64 x.tenant, .int .i64 x.weight, .int .i64 x.chain] 33 (0, 0))) := Lib.hid (K.old (K.old hg _) _)
  have H0 := Lib.hid h0
  have H1 := Lib.hid h1
  have H2 := Lib.hid h2
  clear hg h0 h1 h2
  go_enter Try.func69, Try.ntmps69
  go_wp2_with fail
  refine Calls.mono (comp1 x k.src true H0.out g _ p0.out) ?_
  rintro e w1 ⟨rfl, b1⟩
  have B1 := Lib.hid (bthen (Joins.below_alloc2 w _ _) b1)
  have q1 := Lib.hid (K.below b1 q0.out)
  have s1 := Lib.hid (K.below b1 s0.out)
  have p1 := Lib.hid (K.below b1 p0.out)
  have cq1 := K.cell q1.out 1 _ rfl
  have cs5 := K.cell s1.out 5 _ rfl
  have cs6 := K.cell s1.out 6 _ rfl
  have cs7 := K.cell s1.out 7 _ rfl
  have cs8 := K.cell s1.out 8 _ rfl
  have cs9 := K.cell s1.out 9 _ rfl
  clear b1 
  go_wp2_with fail
  refine Calls.mono (comp2 x k.dst true H1.out g _ p1.out) ?_
  rintro e w2 ⟨rfl, b2⟩
  have B2 := Lib.hid (bthen B1.out b2)
  have q2 := Lib.hid (K.below b2 q1.out)
  have s2 := Lib.hid (K.below b2 s1.out)
  have p2 := Lib.hid (K.below b2 p1.out)
  have cq2 := K.cell q2.out 2 _ rfl
  have cs10 := K.cell s2.out 10 _ rfl
  clear b2 cq1 cs5 cs6 cs7 cs8 cs9
  go_wp2_with fail
  refine Calls.mono (comp3 x k.proto false H2.out g _ p2.out) ?_
  rintro e w3 ⟨rfl, b3⟩
  have B3 := Lib.hid (bthen B2.out b3)
  clear b3 cq2 cs10
  go_wp2
  go_ret
  exact ⟨rfl, B3.out⟩

set_option maxHeartbeats 2000000 in
theorem match_3 (x : Ru) (k : Ky) (g : Nat) (w : World) (hg : w.heap[g]? = some (.cells #[.int .i64 x.prio, .int .i64 x.src.base.k, .int .i64 x.src.base.a, .int .i64 x.src.base.b, .int .i64 x.src.base.c, .int .i64 x.src.base.d, .int .i64 x.src.len, .int .i64 x.dst.base.k, .int .i64 x.dst.base.a, .int .i64 x.dst.base.b, .int .i64 x.dst.base.c, .int .i64 x.dst.base.d, .int .i64 x.dst.len, .int .i64 x.proto, .int .i64 x.slo, .int .i64 x.shi, .int .i64 x.dlo, .int .i64 x.dhi, .int .i64 x.tenant, .int .i64 x.weight, .int .i64 x.chain] 33 (0, 0))) (h0 : x.src.has k.src = true) (h1 : x.dst.has k.dst = true) (h2 : (x.proto == -1 || x.proto == k.proto) = true) (h3 : btw x.slo k.sport x.shi = false) : Calls Try.prog 69 #[.agg #[.func (.func 111) #[] #[.pointer (some ⟨g, 0, none⟩)], .func (.func 113) #[] #[.pointer (some ⟨g, 0, none⟩)], .func (.func 114) #[] #[.pointer (some ⟨g, 0, none⟩)], .func (.func 115) #[] #[.pointer (some ⟨g, 0, none⟩)], .func (.func 116) #[] #[.pointer (some ⟨g, 0, none⟩)]], .agg #[.int .i64 k.src.k, .int .i64 k.src.a, .int .i64 k.src.b, .int .i64 k.src.c, .int .i64 k.src.d, .int .i64 k.dst.k, .int .i64 k.dst.a, .int .i64 k.dst.b, .int .i64 k.dst.c, .int .i64 k.dst.d, .int .i64 k.proto, .int .i64 k.sport, .int .i64 k.dport]] w fun e w' => e = .returned (.bool false) ∧ Below w.heap.size w w' := by
  have q0 : Hid (((w.alloc (.cells #[.func (.func 111) #[] #[.pointer (some ⟨g, 0, none⟩)], .func (.func 113) #[] #[.pointer (some ⟨g, 0, none⟩)], .func (.func 114) #[] #[.pointer (some ⟨g, 0, none⟩)], .func (.func 115) #[] #[.pointer (some ⟨g, 0, none⟩)], .func (.func 116) #[] #[.pointer (some ⟨g, 0, none⟩)]] 96)).alloc (.cells #[.int .i64 k.src.k, .int .i64 k.src.a, .int .i64 k.src.b, .int .i64 k.src.c, .int .i64 k.src.d, .int .i64 k.dst.k, .int .i64 k.dst.a, .int .i64 k.dst.b, .int .i64 k.dst.c, .int .i64 k.dst.d, .int .i64 k.proto, .int .i64 k.sport, .int .i64 k.dport] 40)).heap[w.heap.size]? = some (.cells #[.func (.func 111) #[] #[.pointer (some ⟨g, 0, none⟩)], .func (.func 113) #[] #[.pointer (some ⟨g, 0, none⟩)], .func (.func 114) #[] #[.pointer (some ⟨g, 0, none⟩)], .func (.func 115) #[] #[.pointer (some ⟨g, 0, none⟩)], .func (.func 116) #[] #[.pointer (some ⟨g, 0, none⟩)]] 96 (0, 0))) := Lib.hid (by repeat (first | exact K.newAt (by first | rfl | (simp; done)) | refine K.oldAt (by first | (simp; done) | (simp; omega)) ?_))
  have s0 : Hid (((w.alloc (.cells #[.func (.func 111) #[] #[.pointer (some ⟨g, 0, none⟩)], .func (.func 113) #[] #[.pointer (some ⟨g, 0, none⟩)], .func (.func 114) #[] #[.pointer (some ⟨g, 0, none⟩)], .func (.func 115) #[] #[.pointer (some ⟨g, 0, none⟩)], .func (.func 116) #[] #[.pointer (some ⟨g, 0, none⟩)]] 96)).alloc (.cells #[.int .i64 k.src.k, .int .i64 k.src.a, .int .i64 k.src.b, .int .i64 k.src.c, .int .i64 k.src.d, .int .i64 k.dst.k, .int .i64 k.dst.a, .int .i64 k.dst.b, .int .i64 k.dst.c, .int .i64 k.dst.d, .int .i64 k.proto, .int .i64 k.sport, .int .i64 k.dport] 40)).heap[w.heap.size + 1]? = some (.cells #[.int .i64 k.src.k, .int .i64 k.src.a, .int .i64 k.src.b, .int .i64 k.src.c, .int .i64 k.src.d, .int .i64 k.dst.k, .int .i64 k.dst.a, .int .i64 k.dst.b, .int .i64 k.dst.c, .int .i64 k.dst.d, .int .i64 k.proto, .int .i64 k.sport, .int .i64 k.dport] 40 (0, 0))) := Lib.hid (by repeat (first | exact K.newAt (by first | rfl | (simp; done)) | refine K.oldAt (by first | (simp; done) | (simp; omega)) ?_))
  have p0 : Hid (((w.alloc (.cells #[.func (.func 111) #[] #[.pointer (some ⟨g, 0, none⟩)], .func (.func 113) #[] #[.pointer (some ⟨g, 0, none⟩)], .func (.func 114) #[] #[.pointer (some ⟨g, 0, none⟩)], .func (.func 115) #[] #[.pointer (some ⟨g, 0, none⟩)], .func (.func 116) #[] #[.pointer (some ⟨g, 0, none⟩)]] 96)).alloc (.cells #[.int .i64 k.src.k, .int .i64 k.src.a, .int .i64 k.src.b, .int .i64 k.src.c, .int .i64 k.src.d, .int .i64 k.dst.k, .int .i64 k.dst.a, .int .i64 k.dst.b, .int .i64 k.dst.c, .int .i64 k.dst.d, .int .i64 k.proto, .int .i64 k.sport, .int .i64 k.dport] 40)).heap[g]? = some (.cells #[.int .i64 x.prio, .int .i64 x.src.base.k, .int .i64 x.src.base.a, .int .i64 x.src.base.b, .int .i64 x.src.base.c, .int .i64 x.src.base.d, .int .i64 x.src.len, .int .i64 x.dst.base.k, .int .i64 x.dst.base.a, .int .i64 x.dst.base.b, .int .i64 x.dst.base.c, .int .i64 x.dst.base.d, .int .i64 x.dst.len, .int .i64 x.proto, .int .i64 x.slo, .int .i64 x.shi, .int .i64 x.dlo, .int .i64 x.dhi, .int .i64 x.tenant, .int .i64 x.weight, .int .i64 x.chain] 33 (0, 0))) := Lib.hid (K.old (K.old hg _) _)
  have H0 := Lib.hid h0
  have H1 := Lib.hid h1
  have H2 := Lib.hid h2
  have H3 := Lib.hid h3
  clear hg h0 h1 h2 h3
  go_enter Try.func69, Try.ntmps69
  go_wp2_with fail
  refine Calls.mono (comp1 x k.src true H0.out g _ p0.out) ?_
  rintro e w1 ⟨rfl, b1⟩
  have B1 := Lib.hid (bthen (Joins.below_alloc2 w _ _) b1)
  have q1 := Lib.hid (K.below b1 q0.out)
  have s1 := Lib.hid (K.below b1 s0.out)
  have p1 := Lib.hid (K.below b1 p0.out)
  have cq1 := K.cell q1.out 1 _ rfl
  have cs5 := K.cell s1.out 5 _ rfl
  have cs6 := K.cell s1.out 6 _ rfl
  have cs7 := K.cell s1.out 7 _ rfl
  have cs8 := K.cell s1.out 8 _ rfl
  have cs9 := K.cell s1.out 9 _ rfl
  clear b1 
  go_wp2_with fail
  refine Calls.mono (comp2 x k.dst true H1.out g _ p1.out) ?_
  rintro e w2 ⟨rfl, b2⟩
  have B2 := Lib.hid (bthen B1.out b2)
  have q2 := Lib.hid (K.below b2 q1.out)
  have s2 := Lib.hid (K.below b2 s1.out)
  have p2 := Lib.hid (K.below b2 p1.out)
  have cq2 := K.cell q2.out 2 _ rfl
  have cs10 := K.cell s2.out 10 _ rfl
  clear b2 cq1 cs5 cs6 cs7 cs8 cs9
  go_wp2_with fail
  refine Calls.mono (comp3 x k.proto true H2.out g _ p2.out) ?_
  rintro e w3 ⟨rfl, b3⟩
  have B3 := Lib.hid (bthen B2.out b3)
  have q3 := Lib.hid (K.below b3 q2.out)
  have s3 := Lib.hid (K.below b3 s2.out)
  have p3 := Lib.hid (K.below b3 p2.out)
  have cq3 := K.cell q3.out 3 _ rfl
  have cs11 := K.cell s3.out 11 _ rfl
  clear b3 cq2 cs10
  go_wp2_with fail
  refine Calls.mono (comp4 x k.sport false H3.out g _ p3.out) ?_
  rintro e w4 ⟨rfl, b4⟩
  have B4 := Lib.hid (bthen B3.out b4)
  clear b4 cq3 cs11
  go_wp2
  go_ret
  exact ⟨rfl, B4.out⟩

set_option maxHeartbeats 2000000 in
theorem match_4 (x : Ru) (k : Ky) (g : Nat) (w : World) (hg : w.heap[g]? = some (.cells #[.int .i64 x.prio, .int .i64 x.src.base.k, .int .i64 x.src.base.a, .int .i64 x.src.base.b, .int .i64 x.src.base.c, .int .i64 x.src.base.d, .int .i64 x.src.len, .int .i64 x.dst.base.k, .int .i64 x.dst.base.a, .int .i64 x.dst.base.b, .int .i64 x.dst.base.c, .int .i64 x.dst.base.d, .int .i64 x.dst.len, .int .i64 x.proto, .int .i64 x.slo, .int .i64 x.shi, .int .i64 x.dlo, .int .i64 x.dhi, .int .i64 x.tenant, .int .i64 x.weight, .int .i64 x.chain] 33 (0, 0))) (h0 : x.src.has k.src = true) (h1 : x.dst.has k.dst = true) (h2 : (x.proto == -1 || x.proto == k.proto) = true) (h3 : btw x.slo k.sport x.shi = true) (h4 : btw x.dlo k.dport x.dhi = false) : Calls Try.prog 69 #[.agg #[.func (.func 111) #[] #[.pointer (some ⟨g, 0, none⟩)], .func (.func 113) #[] #[.pointer (some ⟨g, 0, none⟩)], .func (.func 114) #[] #[.pointer (some ⟨g, 0, none⟩)], .func (.func 115) #[] #[.pointer (some ⟨g, 0, none⟩)], .func (.func 116) #[] #[.pointer (some ⟨g, 0, none⟩)]], .agg #[.int .i64 k.src.k, .int .i64 k.src.a, .int .i64 k.src.b, .int .i64 k.src.c, .int .i64 k.src.d, .int .i64 k.dst.k, .int .i64 k.dst.a, .int .i64 k.dst.b, .int .i64 k.dst.c, .int .i64 k.dst.d, .int .i64 k.proto, .int .i64 k.sport, .int .i64 k.dport]] w fun e w' => e = .returned (.bool false) ∧ Below w.heap.size w w' := by
  have q0 : Hid (((w.alloc (.cells #[.func (.func 111) #[] #[.pointer (some ⟨g, 0, none⟩)], .func (.func 113) #[] #[.pointer (some ⟨g, 0, none⟩)], .func (.func 114) #[] #[.pointer (some ⟨g, 0, none⟩)], .func (.func 115) #[] #[.pointer (some ⟨g, 0, none⟩)], .func (.func 116) #[] #[.pointer (some ⟨g, 0, none⟩)]] 96)).alloc (.cells #[.int .i64 k.src.k, .int .i64 k.src.a, .int .i64 k.src.b, .int .i64 k.src.c, .int .i64 k.src.d, .int .i64 k.dst.k, .int .i64 k.dst.a, .int .i64 k.dst.b, .int .i64 k.dst.c, .int .i64 k.dst.d, .int .i64 k.proto, .int .i64 k.sport, .int .i64 k.dport] 40)).heap[w.heap.size]? = some (.cells #[.func (.func 111) #[] #[.pointer (some ⟨g, 0, none⟩)], .func (.func 113) #[] #[.pointer (some ⟨g, 0, none⟩)], .func (.func 114) #[] #[.pointer (some ⟨g, 0, none⟩)], .func (.func 115) #[] #[.pointer (some ⟨g, 0, none⟩)], .func (.func 116) #[] #[.pointer (some ⟨g, 0, none⟩)]] 96 (0, 0))) := Lib.hid (by repeat (first | exact K.newAt (by first | rfl | (simp; done)) | refine K.oldAt (by first | (simp; done) | (simp; omega)) ?_))
  have s0 : Hid (((w.alloc (.cells #[.func (.func 111) #[] #[.pointer (some ⟨g, 0, none⟩)], .func (.func 113) #[] #[.pointer (some ⟨g, 0, none⟩)], .func (.func 114) #[] #[.pointer (some ⟨g, 0, none⟩)], .func (.func 115) #[] #[.pointer (some ⟨g, 0, none⟩)], .func (.func 116) #[] #[.pointer (some ⟨g, 0, none⟩)]] 96)).alloc (.cells #[.int .i64 k.src.k, .int .i64 k.src.a, .int .i64 k.src.b, .int .i64 k.src.c, .int .i64 k.src.d, .int .i64 k.dst.k, .int .i64 k.dst.a, .int .i64 k.dst.b, .int .i64 k.dst.c, .int .i64 k.dst.d, .int .i64 k.proto, .int .i64 k.sport, .int .i64 k.dport] 40)).heap[w.heap.size + 1]? = some (.cells #[.int .i64 k.src.k, .int .i64 k.src.a, .int .i64 k.src.b, .int .i64 k.src.c, .int .i64 k.src.d, .int .i64 k.dst.k, .int .i64 k.dst.a, .int .i64 k.dst.b, .int .i64 k.dst.c, .int .i64 k.dst.d, .int .i64 k.proto, .int .i64 k.sport, .int .i64 k.dport] 40 (0, 0))) := Lib.hid (by repeat (first | exact K.newAt (by first | rfl | (simp; done)) | refine K.oldAt (by first | (simp; done) | (simp; omega)) ?_))
  have p0 : Hid (((w.alloc (.cells #[.func (.func 111) #[] #[.pointer (some ⟨g, 0, none⟩)], .func (.func 113) #[] #[.pointer (some ⟨g, 0, none⟩)], .func (.func 114) #[] #[.pointer (some ⟨g, 0, none⟩)], .func (.func 115) #[] #[.pointer (some ⟨g, 0, none⟩)], .func (.func 116) #[] #[.pointer (some ⟨g, 0, none⟩)]] 96)).alloc (.cells #[.int .i64 k.src.k, .int .i64 k.src.a, .int .i64 k.src.b, .int .i64 k.src.c, .int .i64 k.src.d, .int .i64 k.dst.k, .int .i64 k.dst.a, .int .i64 k.dst.b, .int .i64 k.dst.c, .int .i64 k.dst.d, .int .i64 k.proto, .int .i64 k.sport, .int .i64 k.dport] 40)).heap[g]? = some (.cells #[.int .i64 x.prio, .int .i64 x.src.base.k, .int .i64 x.src.base.a, .int .i64 x.src.base.b, .int .i64 x.src.base.c, .int .i64 x.src.base.d, .int .i64 x.src.len, .int .i64 x.dst.base.k, .int .i64 x.dst.base.a, .int .i64 x.dst.base.b, .int .i64 x.dst.base.c, .int .i64 x.dst.base.d, .int .i64 x.dst.len, .int .i64 x.proto, .int .i64 x.slo, .int .i64 x.shi, .int .i64 x.dlo, .int .i64 x.dhi, .int .i64 x.tenant, .int .i64 x.weight, .int .i64 x.chain] 33 (0, 0))) := Lib.hid (K.old (K.old hg _) _)
  have H0 := Lib.hid h0
  have H1 := Lib.hid h1
  have H2 := Lib.hid h2
  have H3 := Lib.hid h3
  have H4 := Lib.hid h4
  clear hg h0 h1 h2 h3 h4
  go_enter Try.func69, Try.ntmps69
  go_wp2_with fail
  refine Calls.mono (comp1 x k.src true H0.out g _ p0.out) ?_
  rintro e w1 ⟨rfl, b1⟩
  have B1 := Lib.hid (bthen (Joins.below_alloc2 w _ _) b1)
  have q1 := Lib.hid (K.below b1 q0.out)
  have s1 := Lib.hid (K.below b1 s0.out)
  have p1 := Lib.hid (K.below b1 p0.out)
  have cq1 := K.cell q1.out 1 _ rfl
  have cs5 := K.cell s1.out 5 _ rfl
  have cs6 := K.cell s1.out 6 _ rfl
  have cs7 := K.cell s1.out 7 _ rfl
  have cs8 := K.cell s1.out 8 _ rfl
  have cs9 := K.cell s1.out 9 _ rfl
  clear b1 
  go_wp2_with fail
  refine Calls.mono (comp2 x k.dst true H1.out g _ p1.out) ?_
  rintro e w2 ⟨rfl, b2⟩
  have B2 := Lib.hid (bthen B1.out b2)
  have q2 := Lib.hid (K.below b2 q1.out)
  have s2 := Lib.hid (K.below b2 s1.out)
  have p2 := Lib.hid (K.below b2 p1.out)
  have cq2 := K.cell q2.out 2 _ rfl
  have cs10 := K.cell s2.out 10 _ rfl
  clear b2 cq1 cs5 cs6 cs7 cs8 cs9
  go_wp2_with fail
  refine Calls.mono (comp3 x k.proto true H2.out g _ p2.out) ?_
  rintro e w3 ⟨rfl, b3⟩
  have B3 := Lib.hid (bthen B2.out b3)
  have q3 := Lib.hid (K.below b3 q2.out)
  have s3 := Lib.hid (K.below b3 s2.out)
  have p3 := Lib.hid (K.below b3 p2.out)
  have cq3 := K.cell q3.out 3 _ rfl
  have cs11 := K.cell s3.out 11 _ rfl
  clear b3 cq2 cs10
  go_wp2_with fail
  refine Calls.mono (comp4 x k.sport true H3.out g _ p3.out) ?_
  rintro e w4 ⟨rfl, b4⟩
  have B4 := Lib.hid (bthen B3.out b4)
  have q4 := Lib.hid (K.below b4 q3.out)
  have s4 := Lib.hid (K.below b4 s3.out)
  have p4 := Lib.hid (K.below b4 p3.out)
  have cq4 := K.cell q4.out 4 _ rfl
  have cs12 := K.cell s4.out 12 _ rfl
  clear b4 cq3 cs11
  go_wp2_with fail
  refine Calls.mono (comp5 x k.dport false H4.out g _ p4.out) ?_
  rintro e w5 ⟨rfl, b5⟩
  have B5 := Lib.hid (bthen B4.out b5)
  clear b5 cq4 cs12
  go_wp2
  go_ret
  exact ⟨rfl, B5.out⟩

set_option maxHeartbeats 2000000 in
theorem match_5 (x : Ru) (k : Ky) (g : Nat) (w : World) (hg : w.heap[g]? = some (.cells #[.int .i64 x.prio, .int .i64 x.src.base.k, .int .i64 x.src.base.a, .int .i64 x.src.base.b, .int .i64 x.src.base.c, .int .i64 x.src.base.d, .int .i64 x.src.len, .int .i64 x.dst.base.k, .int .i64 x.dst.base.a, .int .i64 x.dst.base.b, .int .i64 x.dst.base.c, .int .i64 x.dst.base.d, .int .i64 x.dst.len, .int .i64 x.proto, .int .i64 x.slo, .int .i64 x.shi, .int .i64 x.dlo, .int .i64 x.dhi, .int .i64 x.tenant, .int .i64 x.weight, .int .i64 x.chain] 33 (0, 0))) (h0 : x.src.has k.src = true) (h1 : x.dst.has k.dst = true) (h2 : (x.proto == -1 || x.proto == k.proto) = true) (h3 : btw x.slo k.sport x.shi = true) (h4 : btw x.dlo k.dport x.dhi = true) : Calls Try.prog 69 #[.agg #[.func (.func 111) #[] #[.pointer (some ⟨g, 0, none⟩)], .func (.func 113) #[] #[.pointer (some ⟨g, 0, none⟩)], .func (.func 114) #[] #[.pointer (some ⟨g, 0, none⟩)], .func (.func 115) #[] #[.pointer (some ⟨g, 0, none⟩)], .func (.func 116) #[] #[.pointer (some ⟨g, 0, none⟩)]], .agg #[.int .i64 k.src.k, .int .i64 k.src.a, .int .i64 k.src.b, .int .i64 k.src.c, .int .i64 k.src.d, .int .i64 k.dst.k, .int .i64 k.dst.a, .int .i64 k.dst.b, .int .i64 k.dst.c, .int .i64 k.dst.d, .int .i64 k.proto, .int .i64 k.sport, .int .i64 k.dport]] w fun e w' => e = .returned (.bool true) ∧ Below w.heap.size w w' := by
  have q0 : Hid (((w.alloc (.cells #[.func (.func 111) #[] #[.pointer (some ⟨g, 0, none⟩)], .func (.func 113) #[] #[.pointer (some ⟨g, 0, none⟩)], .func (.func 114) #[] #[.pointer (some ⟨g, 0, none⟩)], .func (.func 115) #[] #[.pointer (some ⟨g, 0, none⟩)], .func (.func 116) #[] #[.pointer (some ⟨g, 0, none⟩)]] 96)).alloc (.cells #[.int .i64 k.src.k, .int .i64 k.src.a, .int .i64 k.src.b, .int .i64 k.src.c, .int .i64 k.src.d, .int .i64 k.dst.k, .int .i64 k.dst.a, .int .i64 k.dst.b, .int .i64 k.dst.c, .int .i64 k.dst.d, .int .i64 k.proto, .int .i64 k.sport, .int .i64 k.dport] 40)).heap[w.heap.size]? = some (.cells #[.func (.func 111) #[] #[.pointer (some ⟨g, 0, none⟩)], .func (.func 113) #[] #[.pointer (some ⟨g, 0, none⟩)], .func (.func 114) #[] #[.pointer (some ⟨g, 0, none⟩)], .func (.func 115) #[] #[.pointer (some ⟨g, 0, none⟩)], .func (.func 116) #[] #[.pointer (some ⟨g, 0, none⟩)]] 96 (0, 0))) := Lib.hid (by repeat (first | exact K.newAt (by first | rfl | (simp; done)) | refine K.oldAt (by first | (simp; done) | (simp; omega)) ?_))
  have s0 : Hid (((w.alloc (.cells #[.func (.func 111) #[] #[.pointer (some ⟨g, 0, none⟩)], .func (.func 113) #[] #[.pointer (some ⟨g, 0, none⟩)], .func (.func 114) #[] #[.pointer (some ⟨g, 0, none⟩)], .func (.func 115) #[] #[.pointer (some ⟨g, 0, none⟩)], .func (.func 116) #[] #[.pointer (some ⟨g, 0, none⟩)]] 96)).alloc (.cells #[.int .i64 k.src.k, .int .i64 k.src.a, .int .i64 k.src.b, .int .i64 k.src.c, .int .i64 k.src.d, .int .i64 k.dst.k, .int .i64 k.dst.a, .int .i64 k.dst.b, .int .i64 k.dst.c, .int .i64 k.dst.d, .int .i64 k.proto, .int .i64 k.sport, .int .i64 k.dport] 40)).heap[w.heap.size + 1]? = some (.cells #[.int .i64 k.src.k, .int .i64 k.src.a, .int .i64 k.src.b, .int .i64 k.src.c, .int .i64 k.src.d, .int .i64 k.dst.k, .int .i64 k.dst.a, .int .i64 k.dst.b, .int .i64 k.dst.c, .int .i64 k.dst.d, .int .i64 k.proto, .int .i64 k.sport, .int .i64 k.dport] 40 (0, 0))) := Lib.hid (by repeat (first | exact K.newAt (by first | rfl | (simp; done)) | refine K.oldAt (by first | (simp; done) | (simp; omega)) ?_))
  have p0 : Hid (((w.alloc (.cells #[.func (.func 111) #[] #[.pointer (some ⟨g, 0, none⟩)], .func (.func 113) #[] #[.pointer (some ⟨g, 0, none⟩)], .func (.func 114) #[] #[.pointer (some ⟨g, 0, none⟩)], .func (.func 115) #[] #[.pointer (some ⟨g, 0, none⟩)], .func (.func 116) #[] #[.pointer (some ⟨g, 0, none⟩)]] 96)).alloc (.cells #[.int .i64 k.src.k, .int .i64 k.src.a, .int .i64 k.src.b, .int .i64 k.src.c, .int .i64 k.src.d, .int .i64 k.dst.k, .int .i64 k.dst.a, .int .i64 k.dst.b, .int .i64 k.dst.c, .int .i64 k.dst.d, .int .i64 k.proto, .int .i64 k.sport, .int .i64 k.dport] 40)).heap[g]? = some (.cells #[.int .i64 x.prio, .int .i64 x.src.base.k, .int .i64 x.src.base.a, .int .i64 x.src.base.b, .int .i64 x.src.base.c, .int .i64 x.src.base.d, .int .i64 x.src.len, .int .i64 x.dst.base.k, .int .i64 x.dst.base.a, .int .i64 x.dst.base.b, .int .i64 x.dst.base.c, .int .i64 x.dst.base.d, .int .i64 x.dst.len, .int .i64 x.proto, .int .i64 x.slo, .int .i64 x.shi, .int .i64 x.dlo, .int .i64 x.dhi, .int .i64 x.tenant, .int .i64 x.weight, .int .i64 x.chain] 33 (0, 0))) := Lib.hid (K.old (K.old hg _) _)
  have H0 := Lib.hid h0
  have H1 := Lib.hid h1
  have H2 := Lib.hid h2
  have H3 := Lib.hid h3
  have H4 := Lib.hid h4
  clear hg h0 h1 h2 h3 h4
  go_enter Try.func69, Try.ntmps69
  go_wp2_with fail
  refine Calls.mono (comp1 x k.src true H0.out g _ p0.out) ?_
  rintro e w1 ⟨rfl, b1⟩
  have B1 := Lib.hid (bthen (Joins.below_alloc2 w _ _) b1)
  have q1 := Lib.hid (K.below b1 q0.out)
  have s1 := Lib.hid (K.below b1 s0.out)
  have p1 := Lib.hid (K.below b1 p0.out)
  have cq1 := K.cell q1.out 1 _ rfl
  have cs5 := K.cell s1.out 5 _ rfl
  have cs6 := K.cell s1.out 6 _ rfl
  have cs7 := K.cell s1.out 7 _ rfl
  have cs8 := K.cell s1.out 8 _ rfl
  have cs9 := K.cell s1.out 9 _ rfl
  clear b1 
  go_wp2_with fail
  refine Calls.mono (comp2 x k.dst true H1.out g _ p1.out) ?_
  rintro e w2 ⟨rfl, b2⟩
  have B2 := Lib.hid (bthen B1.out b2)
  have q2 := Lib.hid (K.below b2 q1.out)
  have s2 := Lib.hid (K.below b2 s1.out)
  have p2 := Lib.hid (K.below b2 p1.out)
  have cq2 := K.cell q2.out 2 _ rfl
  have cs10 := K.cell s2.out 10 _ rfl
  clear b2 cq1 cs5 cs6 cs7 cs8 cs9
  go_wp2_with fail
  refine Calls.mono (comp3 x k.proto true H2.out g _ p2.out) ?_
  rintro e w3 ⟨rfl, b3⟩
  have B3 := Lib.hid (bthen B2.out b3)
  have q3 := Lib.hid (K.below b3 q2.out)
  have s3 := Lib.hid (K.below b3 s2.out)
  have p3 := Lib.hid (K.below b3 p2.out)
  have cq3 := K.cell q3.out 3 _ rfl
  have cs11 := K.cell s3.out 11 _ rfl
  clear b3 cq2 cs10
  go_wp2_with fail
  refine Calls.mono (comp4 x k.sport true H3.out g _ p3.out) ?_
  rintro e w4 ⟨rfl, b4⟩
  have B4 := Lib.hid (bthen B3.out b4)
  have q4 := Lib.hid (K.below b4 q3.out)
  have s4 := Lib.hid (K.below b4 s3.out)
  have p4 := Lib.hid (K.below b4 p3.out)
  have cq4 := K.cell q4.out 4 _ rfl
  have cs12 := K.cell s4.out 12 _ rfl
  clear b4 cq3 cs11
  go_wp2_with fail
  refine Calls.mono (comp5 x k.dport true H4.out g _ p4.out) ?_
  rintro e w5 ⟨rfl, b5⟩
  have B5 := Lib.hid (bthen B4.out b5)
  clear b5 cq4 cs12
  go_wp2
  go_ret
  exact ⟨rfl, B5.out⟩

theorem matchC (x : Ru) (k : Ky) (g : Nat) (w : World) (hg : w.heap[g]? = some (.cells #[.int .i64 x.prio, .int .i64 x.src.base.k, .int .i64 x.src.base.a, .int .i64 x.src.base.b, .int .i64 x.src.base.c, .int .i64 x.src.base.d, .int .i64 x.src.len, .int .i64 x.dst.base.k, .int .i64 x.dst.base.a, .int .i64 x.dst.base.b, .int .i64 x.dst.base.c, .int .i64 x.dst.base.d, .int .i64 x.dst.len, .int .i64 x.proto, .int .i64 x.slo, .int .i64 x.shi, .int .i64 x.dlo, .int .i64 x.dhi, .int .i64 x.tenant, .int .i64 x.weight, .int .i64 x.chain] 33 (0, 0))) : Calls Try.prog 69 #[.agg #[.func (.func 111) #[] #[.pointer (some ⟨g, 0, none⟩)], .func (.func 113) #[] #[.pointer (some ⟨g, 0, none⟩)], .func (.func 114) #[] #[.pointer (some ⟨g, 0, none⟩)], .func (.func 115) #[] #[.pointer (some ⟨g, 0, none⟩)], .func (.func 116) #[] #[.pointer (some ⟨g, 0, none⟩)]], .agg #[.int .i64 k.src.k, .int .i64 k.src.a, .int .i64 k.src.b, .int .i64 k.src.c, .int .i64 k.src.d, .int .i64 k.dst.k, .int .i64 k.dst.a, .int .i64 k.dst.b, .int .i64 k.dst.c, .int .i64 k.dst.d, .int .i64 k.proto, .int .i64 k.sport, .int .i64 k.dport]] w fun e w' => e = .returned (.bool (x.hits k)) ∧ Below w.heap.size w w' := by
  cases h0 : x.src.has k.src with
  | false =>
    rw [show x.hits k = false by simp only [Ru.hits, h0, Bool.false_and]]
    exact match_0 x k g w hg  h0
  | true =>
    cases h1 : x.dst.has k.dst with
    | false =>
      rw [show x.hits k = false by simp only [Ru.hits, h1, Bool.and_false, Bool.false_and]]
      exact match_1 x k g w hg h0 h1
    | true =>
      cases h2 : (x.proto == -1 || x.proto == k.proto) with
      | false =>
        rw [show x.hits k = false by simp only [Ru.hits, h2, Bool.and_false, Bool.false_and]]
        exact match_2 x k g w hg h0 h1 h2
      | true =>
        cases h3 : btw x.slo k.sport x.shi with
        | false =>
          rw [show x.hits k = false by simp only [Ru.hits, h3, Bool.and_false, Bool.false_and]]
          exact match_3 x k g w hg h0 h1 h2 h3
        | true =>
          cases h4 : btw x.dlo k.dport x.dhi with
          | false =>
            rw [show x.hits k = false by simp only [Ru.hits, h4, Bool.and_false]]
            exact match_4 x k g w hg h0 h1 h2 h3 h4
          | true =>
            rw [show x.hits k = true by simp only [Ru.hits, h0, h1, h2, h3, h4, Bool.and_self]]
            exact match_5 x k g w hg h0 h1 h2 h3 h4
end Go.Proofs.Ythfmjnebpdhdfaa
