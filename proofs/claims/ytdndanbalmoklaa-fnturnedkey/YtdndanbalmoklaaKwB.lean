/-
  The conditions of a compiled rule, each a function value over the rule; matches, which asks them one after the other. RuleHas in the program.
-/
import Derived.Test.YtdndanbalmoklaaRuleOkI
import Derived.Test.YtdndanbalmoklaaPfxHas
import Derived.Test.YtdndanbalmoklaaKeyLib
import Derived.Test.YtdndanbalmoklaaKeyR
import Derived.Test.YtdndanbalmoklaaRegGuard
namespace Go.Proofs.Ytdndanbalmoklaa
set_option maxRecDepth 100000
open Go.RowKit


theorem hasIB (p : Pf) (y : Ad) (b : Bool) (h : p.has y = b) (w : World) : Calls Try.prog 84 #[.agg #[.int .i64 p.base.k, .int .i64 p.base.a, .int .i64 p.base.b, .int .i64 p.base.c, .int .i64 p.base.d, .int .i64 p.len], .agg #[.int .i64 y.k, .int .i64 y.a, .int .i64 y.b, .int .i64 y.c, .int .i64 y.d]] w fun e w' => e = .returned (.bool b) ∧ Below w.heap.size w w' := h ▸ implPrefixHas p y w

set_option maxHeartbeats 400000 in
theorem comp1 (x : Ru) (y : Ad) (b : Bool) (h : x.src.has y = b) (g : Nat) (w : World) (hg : w.heap[g]? = some (.cells #[.int .i64 x.prio, .int .i64 x.src.base.k, .int .i64 x.src.base.a, .int .i64 x.src.base.b, .int .i64 x.src.base.c, .int .i64 x.src.base.d, .int .i64 x.src.len, .int .i64 x.dst.base.k, .int .i64 x.dst.base.a, .int .i64 x.dst.base.b, .int .i64 x.dst.base.c, .int .i64 x.dst.base.d, .int .i64 x.dst.len, .int .i64 x.proto, .int .i64 x.slo, .int .i64 x.shi, .int .i64 x.dlo, .int .i64 x.dhi, .int .i64 x.tenant, .int .i64 x.weight, .int .i64 x.chain] 53 (0, 0))) : Calls Try.prog 141 #[.agg #[.int .i64 y.k, .int .i64 y.a, .int .i64 y.b, .int .i64 y.c, .int .i64 y.d], .pointer (some ⟨g, 0, none⟩)] w fun e w' => e = .returned (.bool b) ∧ Below w.heap.size w w' := by
  have q := Lib.hid (K.old hg (.cells #[.int .i64 y.k, .int .i64 y.a, .int .i64 y.b, .int .i64 y.c, .int .i64 y.d] 29))
  have H := Lib.hid h
  clear h hg
  have c1 := K.cell q.out 1 _ rfl
  have c2 := K.cell q.out 2 _ rfl
  have c3 := K.cell q.out 3 _ rfl
  have c4 := K.cell q.out 4 _ rfl
  have c5 := K.cell q.out 5 _ rfl
  have c6 := K.cell q.out 6 _ rfl
  go_enter Try.func141, Try.ntmps141
  go_wp2_with fail
  refine Calls.mono (hasIB x.src y b H.out _) ?_
  rintro e w1 ⟨rfl, b1⟩
  have B1 := Lib.hid (bthen (Joins.below_alloc1 w _) b1)
  clear b1
  go_wp2
  go_ret
  exact ⟨rfl, B1.out⟩

set_option maxHeartbeats 400000 in
theorem comp2 (x : Ru) (y : Ad) (b : Bool) (h : x.dst.has y = b) (g : Nat) (w : World) (hg : w.heap[g]? = some (.cells #[.int .i64 x.prio, .int .i64 x.src.base.k, .int .i64 x.src.base.a, .int .i64 x.src.base.b, .int .i64 x.src.base.c, .int .i64 x.src.base.d, .int .i64 x.src.len, .int .i64 x.dst.base.k, .int .i64 x.dst.base.a, .int .i64 x.dst.base.b, .int .i64 x.dst.base.c, .int .i64 x.dst.base.d, .int .i64 x.dst.len, .int .i64 x.proto, .int .i64 x.slo, .int .i64 x.shi, .int .i64 x.dlo, .int .i64 x.dhi, .int .i64 x.tenant, .int .i64 x.weight, .int .i64 x.chain] 53 (0, 0))) : Calls Try.prog 142 #[.agg #[.int .i64 y.k, .int .i64 y.a, .int .i64 y.b, .int .i64 y.c, .int .i64 y.d], .pointer (some ⟨g, 0, none⟩)] w fun e w' => e = .returned (.bool b) ∧ Below w.heap.size w w' := by
  have q := Lib.hid (K.old hg (.cells #[.int .i64 y.k, .int .i64 y.a, .int .i64 y.b, .int .i64 y.c, .int .i64 y.d] 29))
  have H := Lib.hid h
  clear h hg
  have c7 := K.cell q.out 7 _ rfl
  have c8 := K.cell q.out 8 _ rfl
  have c9 := K.cell q.out 9 _ rfl
  have c10 := K.cell q.out 10 _ rfl
  have c11 := K.cell q.out 11 _ rfl
  have c12 := K.cell q.out 12 _ rfl
  go_enter Try.func142, Try.ntmps142
  go_wp2_with fail
  refine Calls.mono (hasIB x.dst y b H.out _) ?_
  rintro e w1 ⟨rfl, b1⟩
  have B1 := Lib.hid (bthen (Joins.below_alloc1 w _) b1)
  clear b1
  go_wp2
  go_ret
  exact ⟨rfl, B1.out⟩

set_option maxHeartbeats 400000 in
theorem comp3 (x : Ru) (n : Int) (b : Bool) (h : (x.proto == -1 || x.proto == n) = b) (g : Nat) (w : World) (hg : w.heap[g]? = some (.cells #[.int .i64 x.prio, .int .i64 x.src.base.k, .int .i64 x.src.base.a, .int .i64 x.src.base.b, .int .i64 x.src.base.c, .int .i64 x.src.base.d, .int .i64 x.src.len, .int .i64 x.dst.base.k, .int .i64 x.dst.base.a, .int .i64 x.dst.base.b, .int .i64 x.dst.base.c, .int .i64 x.dst.base.d, .int .i64 x.dst.len, .int .i64 x.proto, .int .i64 x.slo, .int .i64 x.shi, .int .i64 x.dlo, .int .i64 x.dhi, .int .i64 x.tenant, .int .i64 x.weight, .int .i64 x.chain] 53 (0, 0))) : Calls Try.prog 143 #[.int .i64 n, .pointer (some ⟨g, 0, none⟩)] w fun e w' => e = .returned (.bool b) ∧ Below w.heap.size w w' := by
  subst h
  have c13 := K.cell hg 13 _ rfl
  clear hg
  go_enter Try.func143, Try.ntmps143
  go_wp2
  all_goals (go_ret; exact ⟨ret_bool (by simp [*]), by go_grown⟩)

set_option maxHeartbeats 400000 in
theorem comp4 (x : Ru) (n : Int) (b : Bool) (h : btw x.slo n x.shi = b) (g : Nat) (w : World) (hg : w.heap[g]? = some (.cells #[.int .i64 x.prio, .int .i64 x.src.base.k, .int .i64 x.src.base.a, .int .i64 x.src.base.b, .int .i64 x.src.base.c, .int .i64 x.src.base.d, .int .i64 x.src.len, .int .i64 x.dst.base.k, .int .i64 x.dst.base.a, .int .i64 x.dst.base.b, .int .i64 x.dst.base.c, .int .i64 x.dst.base.d, .int .i64 x.dst.len, .int .i64 x.proto, .int .i64 x.slo, .int .i64 x.shi, .int .i64 x.dlo, .int .i64 x.dhi, .int .i64 x.tenant, .int .i64 x.weight, .int .i64 x.chain] 53 (0, 0))) : Calls Try.prog 144 #[.int .i64 n, .pointer (some ⟨g, 0, none⟩)] w fun e w' => e = .returned (.bool b) ∧ Below w.heap.size w w' := by
  have H := Lib.hid h
  have c14 := K.cell hg 14 _ rfl
  have c15 := K.cell hg 15 _ rfl
  clear hg h
  go_enter Try.func144, Try.ntmps144
  go_wp2_with fail
  refine Calls.mono (ruleW x.slo n x.shi b H.out _) ?_
  rintro e w1 ⟨rfl, b1⟩
  go_wp2
  go_ret
  exact ⟨rfl, b1⟩

set_option maxHeartbeats 400000 in
theorem comp5 (x : Ru) (n : Int) (b : Bool) (h : btw x.dlo n x.dhi = b) (g : Nat) (w : World) (hg : w.heap[g]? = some (.cells #[.int .i64 x.prio, .int .i64 x.src.base.k, .int .i64 x.src.base.a, .int .i64 x.src.base.b, .int .i64 x.src.base.c, .int .i64 x.src.base.d, .int .i64 x.src.len, .int .i64 x.dst.base.k, .int .i64 x.dst.base.a, .int .i64 x.dst.base.b, .int .i64 x.dst.base.c, .int .i64 x.dst.base.d, .int .i64 x.dst.len, .int .i64 x.proto, .int .i64 x.slo, .int .i64 x.shi, .int .i64 x.dlo, .int .i64 x.dhi, .int .i64 x.tenant, .int .i64 x.weight, .int .i64 x.chain] 53 (0, 0))) : Calls Try.prog 145 #[.int .i64 n, .pointer (some ⟨g, 0, none⟩)] w fun e w' => e = .returned (.bool b) ∧ Below w.heap.size w w' := by
  have H := Lib.hid h
  have c16 := K.cell hg 16 _ rfl
  have c17 := K.cell hg 17 _ rfl
  clear hg h
  go_enter Try.func145, Try.ntmps145
  go_wp2_with fail
  refine Calls.mono (ruleW x.dlo n x.dhi b H.out _) ?_
  rintro e w1 ⟨rfl, b1⟩
  go_wp2
  go_ret
  exact ⟨rfl, b1⟩

theorem info_comp : (Try.prog.info? 120).map (·.size) = some 5 := by kernel_rfl
theorem storeClo {ops : Array Oper} {rest : List Oper} {o : Oper} {a : Act} {w : World} {Q : Exit → Act → World → Prop} {old : Array Value} (hs : old.size = 5) (hgd : o.guard = none) (x y : Operand) (ho : o.op = .store 120 x y) (g b : Nat) (hb : w.heap.size = b) (hx : a.eval x = .pointer (some ⟨b, 0, none⟩)) (hy : a.eval y = .agg #[.func (.func 141) #[] #[.pointer (some ⟨g, 0, none⟩)], .func (.func 142) #[] #[.pointer (some ⟨g, 0, none⟩)], .func (.func 143) #[] #[.pointer (some ⟨g, 0, none⟩)], .func (.func 144) #[] #[.pointer (some ⟨g, 0, none⟩)], .func (.func 145) #[] #[.pointer (some ⟨g, 0, none⟩)]])
    (h : wpList Try.prog ops Q rest (a.put o.dst undef) (w.alloc (.cells #[.func (.func 141) #[] #[.pointer (some ⟨g, 0, none⟩)], .func (.func 142) #[] #[.pointer (some ⟨g, 0, none⟩)], .func (.func 143) #[] #[.pointer (some ⟨g, 0, none⟩)], .func (.func 144) #[] #[.pointer (some ⟨g, 0, none⟩)], .func (.func 145) #[] #[.pointer (some ⟨g, 0, none⟩)]] 120))) : wpList Try.prog ops Q (o :: rest) a (w.alloc (.cells old 120)) := by
  subst hb
  refine wpList_store_row hgd 120 x y ho w.heap.size _ hx hy _ _ (K.new w _) info_comp hs (by simp [Value.oneCell']) ?_
  rw [World.setRow_alloc_new]
  exact h

set_option maxHeartbeats 1000000 in
theorem compiledC (x : Ru) (w : World) : Calls Try.prog 93 #[.agg #[.int .i64 x.prio, .int .i64 x.src.base.k, .int .i64 x.src.base.a, .int .i64 x.src.base.b, .int .i64 x.src.base.c, .int .i64 x.src.base.d, .int .i64 x.src.len, .int .i64 x.dst.base.k, .int .i64 x.dst.base.a, .int .i64 x.dst.base.b, .int .i64 x.dst.base.c, .int .i64 x.dst.base.d, .int .i64 x.dst.len, .int .i64 x.proto, .int .i64 x.slo, .int .i64 x.shi, .int .i64 x.dlo, .int .i64 x.dhi, .int .i64 x.tenant, .int .i64 x.weight, .int .i64 x.chain]] w fun e w' => ∃ g, e = .returned (.agg #[.func (.func 141) #[] #[.pointer (some ⟨g, 0, none⟩)], .func (.func 142) #[] #[.pointer (some ⟨g, 0, none⟩)], .func (.func 143) #[] #[.pointer (some ⟨g, 0, none⟩)], .func (.func 144) #[] #[.pointer (some ⟨g, 0, none⟩)], .func (.func 145) #[] #[.pointer (some ⟨g, 0, none⟩)]]) ∧ w'.heap[g]? = some (.cells #[.int .i64 x.prio, .int .i64 x.src.base.k, .int .i64 x.src.base.a, .int .i64 x.src.base.b, .int .i64 x.src.base.c, .int .i64 x.src.base.d, .int .i64 x.src.len, .int .i64 x.dst.base.k, .int .i64 x.dst.base.a, .int .i64 x.dst.base.b, .int .i64 x.dst.base.c, .int .i64 x.dst.base.d, .int .i64 x.dst.len, .int .i64 x.proto, .int .i64 x.slo, .int .i64 x.shi, .int .i64 x.dlo, .int .i64 x.dhi, .int .i64 x.tenant, .int .i64 x.weight, .int .i64 x.chain] 53 (0, 0)) ∧ Below w.heap.size w w' := by
  go_enter Try.func93, Try.ntmps93
  go_wp2_with (with_reducible refine storeClo rfl rfl _ _ rfl w.heap.size (w.heap.size + 1) (by simp) rfl rfl ?_)
  (try simp only [Exit.inBlock, Exit.then])
  refine bodyPost_ret (v := .agg #[.func (.func 141) #[] #[.pointer (some ⟨w.heap.size, 0, none⟩)], .func (.func 142) #[] #[.pointer (some ⟨w.heap.size, 0, none⟩)], .func (.func 143) #[] #[.pointer (some ⟨w.heap.size, 0, none⟩)], .func (.func 144) #[] #[.pointer (some ⟨w.heap.size, 0, none⟩)], .func (.func 145) #[] #[.pointer (some ⟨w.heap.size, 0, none⟩)]]) ?_ rfl ⟨w.heap.size, rfl, K.oldAt (by simp) (K.newAt rfl), by go_grown⟩
  exact results_cell_row Try.results93 _ _ (w.heap.size + 1) 120 _ (0, 0) _ rfl (K.newAt (by simp)) Try.underlying120 rfl info_comp

set_option maxHeartbeats 2000000 in
theorem match_0 (x : Ru) (k : Ky) (g : Nat) (w : World) (hg : w.heap[g]? = some (.cells #[.int .i64 x.prio, .int .i64 x.src.base.k, .int .i64 x.src.base.a, .int .i64 x.src.base.b, .int .i64 x.src.base.c, .int .i64 x.src.base.d, .int .i64 x.src.len, .int .i64 x.dst.base.k, .int .i64 x.dst.base.a, .int .i64 x.dst.base.b, .int .i64 x.dst.base.c, .int .i64 x.dst.base.d, .int .i64 x.dst.len, .int .i64 x.proto, .int .i64 x.slo, .int .i64 x.shi, .int .i64 x.dlo, .int .i64 x.dhi, .int .i64 x.tenant, .int .i64 x.weight, .int .i64 x.chain] 53 (0, 0))) (h0 : x.src.has k.src = false) : Calls Try.prog 94 #[.agg #[.func (.func 141) #[] #[.pointer (some ⟨g, 0, none⟩)], .func (.func 142) #[] #[.pointer (some ⟨g, 0, none⟩)], .func (.func 143) #[] #[.pointer (some ⟨g, 0, none⟩)], .func (.func 144) #[] #[.pointer (some ⟨g, 0, none⟩)], .func (.func 145) #[] #[.pointer (some ⟨g, 0, none⟩)]], .agg #[.int .i64 k.src.k, .int .i64 k.src.a, .int .i64 k.src.b, .int .i64 k.src.c, .int .i64 k.src.d, .int .i64 k.dst.k, .int .i64 k.dst.a, .int .i64 k.dst.b, .int .i64 k.dst.c, .int .i64 k.dst.d, .int .i64 k.proto, .int .i64 k.sport, .int .i64 k.dport]] w fun e w' => e = .returned (.bool false) ∧ Below w.heap.size w w' := by
  have q0 : Hid (((w.alloc (.cells #[.func (.func 141) #[] #[.pointer (some ⟨g, 0, none⟩)], .func (.func 142) #[] #[.pointer (some ⟨g, 0, none⟩)], .func (.func 143) #[] #[.pointer (some ⟨g, 0, none⟩)], .func (.func 144) #[] #[.pointer (some ⟨g, 0, none⟩)], .func (.func 145) #[] #[.pointer (some ⟨g, 0, none⟩)]] 120)).alloc (.cells #[.int .i64 k.src.k, .int .i64 k.src.a, .int .i64 k.src.b, .int .i64 k.src.c, .int .i64 k.src.d, .int .i64 k.dst.k, .int .i64 k.dst.a, .int .i64 k.dst.b, .int .i64 k.dst.c, .int .i64 k.dst.d, .int .i64 k.proto, .int .i64 k.sport, .int .i64 k.dport] 55)).heap[w.heap.size]? = some (.cells #[.func (.func 141) #[] #[.pointer (some ⟨g, 0, none⟩)], .func (.func 142) #[] #[.pointer (some ⟨g, 0, none⟩)], .func (.func 143) #[] #[.pointer (some ⟨g, 0, none⟩)], .func (.func 144) #[] #[.pointer (some ⟨g, 0, none⟩)], .func (.func 145) #[] #[.pointer (some ⟨g, 0, none⟩)]] 120 (0, 0))) := Lib.hid (by repeat (first | exact K.newAt (by first | rfl | (simp; done)) | refine K.oldAt (by first | (simp; done) | (simp; omega)) ?_))
  have s0 : Hid (((w.alloc (.cells #[.func (.func 141) #[] #[.pointer (some ⟨g, 0, none⟩)], .func (.func 142) #[] #[.pointer (some ⟨g, 0, none⟩)], .func (.func 143) #[] #[.pointer (some ⟨g, 0, none⟩)], .func (.func 144) #[] #[.pointer (some ⟨g, 0, none⟩)], .func (.func 145) #[] #[.pointer (some ⟨g, 0, none⟩)]] 120)).alloc (.cells #[.int .i64 k.src.k, .int .i64 k.src.a, .int .i64 k.src.b, .int .i64 k.src.c, .int .i64 k.src.d, .int .i64 k.dst.k, .int .i64 k.dst.a, .int .i64 k.dst.b, .int .i64 k.dst.c, .int .i64 k.dst.d, .int .i64 k.proto, .int .i64 k.sport, .int .i64 k.dport] 55)).heap[w.heap.size + 1]? = some (.cells #[.int .i64 k.src.k, .int .i64 k.src.a, .int .i64 k.src.b, .int .i64 k.src.c, .int .i64 k.src.d, .int .i64 k.dst.k, .int .i64 k.dst.a, .int .i64 k.dst.b, .int .i64 k.dst.c, .int .i64 k.dst.d, .int .i64 k.proto, .int .i64 k.sport, .int .i64 k.dport] 55 (0, 0))) := Lib.hid (by repeat (first | exact K.newAt (by first | rfl | (simp; done)) | refine K.oldAt (by first | (simp; done) | (simp; omega)) ?_))
  have p0 : Hid (((w.alloc (.cells #[.func (.func 141) #[] #[.pointer (some ⟨g, 0, none⟩)], .func (.func 142) #[] #[.pointer (some ⟨g, 0, none⟩)], .func (.func 143) #[] #[.pointer (some ⟨g, 0, none⟩)], .func (.func 144) #[] #[.pointer (some ⟨g, 0, none⟩)], .func (.func 145) #[] #[.pointer (some ⟨g, 0, none⟩)]] 120)).alloc (.cells #[.int .i64 k.src.k, .int .i64 k.src.a, .int .i64 k.src.b, .int .i64 k.src.c, .int .i64 k.src.d, .int .i64 k.dst.k, .int .i64 k.dst.a, .int .i64 k.dst.b, .int .i64 k.dst.c, .int .i64 k.dst.d, .int .i64 k.proto, .int .i64 k.sport, .int .i64 k.dport] 55)).heap[g]? = some (.cells #[.int .i64 x.prio, .int .i64 x.src.base.k, .int .i64 x.src.base.a, .int .i64 x.src.base.b, .int .i64 x.src.base.c, .int .i64 x.src.base.d, .int .i64 x.src.len, .int .i64 x.dst.base.k, .int .i64 x.dst.base.a, .int .i64 x.dst.base.b, .int .i64 x.dst.base.c, .int .i64 x.dst.base.d, .int .i64 x.dst.len, .int .i64 x.proto, .int .i64 x.slo, .int .i64 x.shi, .int .i64 x.dlo, .int .i64 x.dhi, .int .i64 x.tenant, .int .i64 x.weight, .int .i64 x.chain] 53 (0, 0))) := Lib.hid (K.old (K.old hg _) _)
  have H0 := Lib.hid h0
  clear hg h0
  go_enter Try.func94, Try.ntmps94
  go_wp2_with fail
  refine Calls.mono (comp1 x k.src false H0.out g _ p0.out) ?_
  rintro e w1 ⟨rfl, b1⟩
  have B1 := Lib.hid (bthen (Joins.below_alloc2 w _ _) b1)
  clear b1 
  go_wp2
  go_ret
  exact ⟨rfl, B1.out⟩

set_option maxHeartbeats 2000000 in
theorem match_1 (x : Ru) (k : Ky) (g : Nat) (w : World) (hg : w.heap[g]? = some (.cells #[.int .i64 x.prio, .int .i64 x.src.base.k, .int .i64 x.src.base.a, .int .i64 x.src.base.b, .int .i64 x.src.base.c, .int .i64 x.src.base.d, .int .i64 x.src.len, .int .i64 x.dst.base.k, .int .i64 x.dst.base.a, .int .i64 x.dst.base.b, .int .i64 x.dst.base.c, .int .i64 x.dst.base.d, .int .i64 x.dst.len, .int .i64 x.proto, .int .i64 x.slo, .int .i64 x.shi, .int .i64 x.dlo, .int .i64 x.dhi, .int .i64 x.tenant, .int .i64 x.weight, .int .i64 x.chain] 53 (0, 0))) (h0 : x.src.has k.src = true) (h1 : x.dst.has k.dst = false) : Calls Try.prog 94 #[.agg #[.func (.func 141) #[] #[.pointer (some ⟨g, 0, none⟩)], .func (.func 142) #[] #[.pointer (some ⟨g, 0, none⟩)], .func (.func 143) #[] #[.pointer (some ⟨g, 0, none⟩)], .func (.func 144) #[] #[.pointer (some ⟨g, 0, none⟩)], .func (.func 145) #[] #[.pointer (some ⟨g, 0, none⟩)]], .agg #[.int .i64 k.src.k, .int .i64 k.src.a, .int .i64 k.src.b, .int .i64 k.src.c, .int .i64 k.src.d, .int .i64 k.dst.k, .int .i64 k.dst.a, .int .i64 k.dst.b, .int .i64 k.dst.c, .int .i64 k.dst.d, .int .i64 k.proto, .int .i64 k.sport, .int .i64 k.dport]] w fun e w' => e = .returned (.bool false) ∧ Below w.heap.size w w' := by
  have q0 : Hid (((w.alloc (.cells #[.func (.func 141) #[] #[.pointer (some ⟨g, 0, none⟩)], .func (.func 142) #[] #[.pointer (some ⟨g, 0, none⟩)], .func (.func 143) #[] #[.pointer (some ⟨g, 0, none⟩)], .func (.func 144) #[] #[.pointer (some ⟨g, 0, none⟩)], .func (.func 145) #[] #[.pointer (some ⟨g, 0, none⟩)]] 120)).alloc (.cells #[.int .i64 k.src.k, .int .i64 k.src.a, .int .i64 k.src.b, .int .i64 k.src.c, .int .i64 k.src.d, .int .i64 k.dst.k, .int .i64 k.dst.a, .int .i64 k.dst.b, .int .i64 k.dst.c, .int .i64 k.dst.d, .int .i64 k.proto, .int .i64 k.sport, .int .i64 k.dport] 55)).heap[w.heap.size]? = some (.cells #[.func (.func 141) #[] #[.pointer (some ⟨g, 0, none⟩)], .func (.func 142) #[] #[.pointer (some ⟨g, 0, none⟩)], .func (.func 143) #[] #[.pointer (some ⟨g, 0, none⟩)], .func (.func 144) #[] #[.pointer (some ⟨g, 0, none⟩)], .func (.func 145) #[] #[.pointer (some ⟨g, 0, none⟩)]] 120 (0, 0))) := Lib.hid (by repeat (first | exact K.newAt (by first | rfl | (simp; done)) | refine K.oldAt (by first | (simp; done) | (simp; omega)) ?_))
  have s0 : Hid (((w.alloc (.cells #[.func (.func 141) #[] #[.pointer (some ⟨g, 0, none⟩)], .func (.func 142) #[] #[.pointer (some ⟨g, 0, none⟩)], .func (.func 143) #[] #[.pointer (some ⟨g, 0, none⟩)], .func (.func 144) #[] #[.pointer (some ⟨g, 0, none⟩)], .func (.func 145) #[] #[.pointer (some ⟨g, 0, none⟩)]] 120)).alloc (.cells #[.int .i64 k.src.k, .int .i64 k.src.a, .int .i64 k.src.b, .int .i64 k.src.c, .int .i64 k.src.d, .int .i64 k.dst.k, .int .i64 k.dst.a, .int .i64 k.dst.b, .int .i64 k.dst.c, .int .i64 k.dst.d, .int .i64 k.proto, .int .i64 k.sport, .int .i64 k.dport] 55)).heap[w.heap.size + 1]? = some (.cells #[.int .i64 k.src.k, .int .i64 k.src.a, .int .i64 k.src.b, .int .i64 k.src.c, .int .i64 k.src.d, .int .i64 k.dst.k, .int .i64 k.dst.a, .int .i64 k.dst.b, .int .i64 k.dst.c, .int .i64 k.dst.d, .int .i64 k.proto, .int .i64 k.sport, .int .i64 k.dport] 55 (0, 0))) := Lib.hid (by repeat (first | exact K.newAt (by first | rfl | (simp; done)) | refine K.oldAt (by first | (simp; done) | (simp; omega)) ?_))
  have p0 : Hid (((w.alloc (.cells #[.func (.func 141) #[] #[.pointer (some ⟨g, 0, none⟩)], .func (.func 142) #[] #[.pointer (some ⟨g, 0, none⟩)], .func (.func 143) #[] #[.pointer (some ⟨g, 0, none⟩)], .func (.func 144) #[] #[.pointer (some ⟨g, 0, none⟩)], .func (.func 145) #[] #[.pointer (some ⟨g, 0, none⟩)]] 120)).alloc (.cells #[.int .i64 k.src.k, .int .i64 k.src.a, .int .i64 k.src.b, .int .i64 k.src.c, .int .i64 k.src.d, .int .i64 k.dst.k, .int .i64 k.dst.a, .int .i64 k.dst.b, .int .i64 k.dst.c, .int .i64 k.dst.d, .int .i64 k.proto, .int .i64 k.sport, .int .i64 k.dport] 55)).heap[g]? = some (.cells #[.int .i64 x.prio, .int .i64 x.src.base.k, .int .i64 x.src.base.a, .int .i64 x.src.base.b, .int .i64 x.src.base.c, .int .i64 x.src.base.d, .int .i64 x.src.len, .int .i64 x.dst.base.k, .int .i64 x.dst.base.a, .int .i64 x.dst.base.b, .int .i64 x.dst.base.c, .int .i64 x.dst.base.d, .int .i64 x.dst.len, .int .i64 x.proto, .int .i64 x.slo, .int .i64 x.shi, .int .i64 x.dlo, .int .i64 x.dhi, .int .i64 x.tenant, .int .i64 x.weight, .int .i64 x.chain] 53 (0, 0))) := Lib.hid (K.old (K.old hg _) _)
  have H0 := Lib.hid h0
  have H1 := Lib.hid h1
  clear hg h0 h1
  go_enter Try.func94, Try.ntmps94
  go_wp2_with fail
  refine Calls.mono (comp1 x k.src true H0.out g _ p0.out) ?_
  rintro e w1 ⟨rfl, b1⟩
  have B1 := Lib.hid (bthen (Joins.below_alloc2 w _ _) b1)
  have q1 := Lib.hid (K.below b1 q0.out)
  have s1 := Lib.hid (K.below b1 s0.out)
  have p1 := Lib.hid (K.below b1 p0.out)
  have cq1 := K.cell q1.out 1 _ rfl
  have cs5 := K.cell s1.out 5 _ rfl
  have cs6 := K.cell s1.out 6 _ rfl
  have cs7 := K.cell s1.out 7 _ rfl
  have cs8 := K.cell s1.out 8 _ rfl
  have cs9 := K.cell s1.out 9 _ rfl
  clear b1 
  go_wp2_with fail
  refine Calls.mono (comp2 x k.dst false H1.out g _ p1.out) ?_
  rintro e w2 ⟨rfl, b2⟩
  have B2 := Lib.hid (bthen B1.out b2)
  clear b2 cq1 cs5 cs6 cs7 cs8 cs9
  go_wp2
  go_ret
  exact ⟨rfl, B2.out⟩

set_option maxHeartbeats 2000000 in
theorem match_2 (x : Ru) (k : Ky) (g : Nat) (w : World) (hg : w.heap[g]? = some (.cells #[.int .i64 x.prio, .int .i64 x.src.base.k, .int .i64 x.src.base.a, .int .i64 x.src.base.b, .int .i64 x.src.base.c, .int .i64 x.src.base.d, .int .i64 x.src.len, .int .i64 x.dst.base.k, .int .i64 x.dst.base.a, .int .i64 x.dst.base.b, .int .i64 x.dst.base.c, .int .i64 x.dst.base.d, .int .i64 x.dst.len, .int .i64 x.proto, .int .i64 x.slo, .int .i64 x.shi, .int .i64 x.dlo, .int .i64 x.dhi, .int .i64 x.tenant, .int .i64 x.weight, .int .i64 x.chain] 53 (0, 0))) (h0 : x.src.has k.src = true) (h1 : x.dst.has k.dst = true) (h2 : (x.proto == -1 || x.proto == k.proto) = false) : Calls Try.prog 94 #[.agg #[.func (.func 141) #[] #[.pointer (some ⟨g, 0, none⟩)], .func (.func 142) #[] #[.pointer (some ⟨g, 0, none⟩)], .func (.func 143) #[] #[.pointer (some ⟨g, 0, none⟩)], .func (.func 144) #[] #[.pointer (some ⟨g, 0, none⟩)], .func (.func 145) #[] #[.pointer (some ⟨g, 0, none⟩)]], .agg #[.int .i64 k.src.k, .int .i64 k.src.a, .int .i64 k.src.b, .int .i64 k.src.c, .int .i64 k.src.d, .int .i64 k.dst.k, .int .i64 k.dst.a, .int .i64 k.dst.b, .int .i64 k.dst.c, .int .i64 k.dst.d, .int .i64 k.proto, .int .i64 k.sport, .int .i64 k.dport]] w fun e w' => e = .returned (.bool false) ∧ Below w.heap.size w w' := by
  have q0 : Hid (((w.alloc (.cells #[.func (.func 141) #[] #[.pointer (some ⟨g, 0, none⟩)], .func (.func 142) #[] #[.pointer (some ⟨g, 0, none⟩)], .func (.func 143) #[] #[.pointer (some ⟨g, 0, none⟩)], .func (.func 144) #[] #[.pointer (some ⟨g, 0, none⟩)], .func (.func 145) #[] #[.pointer (some ⟨g, 0, none⟩)]] 120)).alloc (.cells #[.int .i64 k.src.k, .int .i64 k.src.a, .int .i64 k.src.b, .int .i64 k.src.c, .int .i64 k.src.d, .int .i64 k.dst.k, .int .i64 k.dst.a, .int .i64 k.dst.b, .int .i64 k.dst.c, .int .i64 k.dst.d, .int .i64 k.proto, .int .i64 k.sport, .int .i64 k.dport] 55)).heap[w.heap.size]? = some (.cells #[.func (.func 141) #[] #[.pointer (some ⟨g, 0, none⟩)], .func (.func 142) #[] #[.pointer (some ⟨g, 0, none⟩)], .func (.func 143) #[] #[.pointer (some ⟨g, 0, none⟩)], .func (.func 144) #[] #[.pointer (some ⟨g, 0, none⟩)], .func (.func 145) #[] #[.pointer (some ⟨g, 0, none⟩)]] 120 (0, 0))) := Lib.hid (by repeat (first | exact K.newAt (by first | rfl | (simp; done)) | refine K.oldAt (by first | (simp; done) | (simp; omega)) ?_))
  have s0 : Hid (((w.alloc (.cells #[.func (.func 141) #[] #[.pointer (some ⟨g, 0, none⟩)], .func (.func 142) #[] #[.pointer (some ⟨g, 0, none⟩)], .func (.func 143) #[] #[.pointer (some ⟨g, 0, none⟩)], .func (.func 144) #[] #[.pointer (some ⟨g, 0, none⟩)], .func (.func 145) #[] #[.pointer (some ⟨g, 0, none⟩)]] 120)).alloc (.cells #[.int .i64 k.src.k, .int .i64 k.src.a, .int .i64 k.src.b, .int .i64 k.src.c, .int .i64 k.src.d, .int .i64 k.dst.k, .int .i64 k.dst.a, .int .i64 k.dst.b, .int .i64 k.dst.c, .int .i64 k.dst.d, .int .i64 k.proto, .int .i64 k.sport, .int .i64 k.dport] 55)).heap[w.heap.size + 1]? = some (.cells #[.int .i64 k.src.k, .int .i64 k.src.a, .int .i64 k.src.b, .int .i64 k.src.c, .int .i64 k.src.d, .int .i64 k.dst.k, .int .i64 k.dst.a, .int .i64 k.dst.b, .int .i64 k.dst.c, .int .i64 k.dst.d, .int .i64 k.proto, .int .i64 k.sport, .int .i64 k.dport] 55 (0, 0))) := Lib.hid (by repeat (first | exact K.newAt (by first | rfl | (simp; done)) | refine K.oldAt (by first | (simp; done) | (simp; omega)) ?_))
  have p0 : Hid (((w.alloc (.cells #[.func (.func 141) #[] #[.pointer (some ⟨g, 0, none⟩)], .func (.func 142) #[] #[.pointer (some ⟨g, 0, none⟩)], .func (.func 143) #[] #[.pointer (some ⟨g, 0, none⟩)], .func (.func 144) #[] #[.pointer (some ⟨g, 0, none⟩)], .func (.func 145) #[] #[.pointer (some ⟨g, 0, none⟩)]] 120)).alloc (.cells #[.int .i64 k.src.k, .int .i64 k.src.a, .int .i64 k.src.b, .int .i64 k.src.c, .int .i64 k.src.d, .int .i64 k.dst.k, .int .i64 k.dst.a, .int .i64 k.dst.b, .int .i64 k.dst.c, .int .i64 k.dst.d, .int .i64 k.proto, .int .i64 k.sport, .int .i64 k.dport] 55)).heap[g]? = some (.cells #[.int .i64 x.prio, .int .i64 x.src.base.k, .int .i64 x.src.base.a, .int .i64 x.src.base.b, .int .i64 x.src.base.c, .int .i64 x.src.base.d, .int .i64 x.src.len, .int .i64 x.dst.base.k, .int .i64 x.dst.base.a, .int .i64 x.dst.base.b, .int .i64 x.dst.base.c, .int .i64 x.dst.base.d, .int .i64 x.dst.len, .int .i64 x.proto, .int .i64 x.slo, .int .i64 x.shi, .int .i64 x.dlo, .int .i64 x.dhi, .int .i64 x.tenant, .int .i64 x.weight, .int .i64 x.chain] 53 (0, 0))) := Lib.hid (K.old (K.old hg _) _)
  have H0 := Lib.hid h0
  have H1 := Lib.hid h1
  have H2 := Lib.hid h2
  clear hg h0 h1 h2
  go_enter Try.func94, Try.ntmps94
  go_wp2_with fail
  refine Calls.mono (comp1 x k.src true H0.out g _ p0.out) ?_
  rintro e w1 ⟨rfl, b1⟩
  have B1 := Lib.hid (bthen (Joins.below_alloc2 w _ _) b1)
  have q1 := Lib.hid (K.below b1 q0.out)
  have s1 := Lib.hid (K.below b1 s0.out)
  have p1 := Lib.hid (K.below b1 p0.out)
  have cq1 := K.cell q1.out 1 _ rfl
  have cs5 := K.cell s1.out 5 _ rfl
  have cs6 := K.cell s1.out 6 _ rfl
  have cs7 := K.cell s1.out 7 _ rfl
  have cs8 := K.cell s1.out 8 _ rfl
  have cs9 := K.cell s1.out 9 _ rfl
  clear b1 
  go_wp2_with fail
  refine Calls.mono (comp2 x k.dst true H1.out g _ p1.out) ?_
  rintro e w2 ⟨rfl, b2⟩
  have B2 := Lib.hid (bthen B1.out b2)
  have q2 := Lib.hid (K.below b2 q1.out)
  have s2 := Lib.hid (K.below b2 s1.out)
  have p2 := Lib.hid (K.below b2 p1.out)
  have cq2 := K.cell q2.out 2 _ rfl
  have cs10 := K.cell s2.out 10 _ rfl
  clear b2 cq1 cs5 cs6 cs7 cs8 cs9
  go_wp2_with fail
  refine Calls.mono (comp3 x k.proto false H2.out g _ p2.out) ?_
  rintro e w3 ⟨rfl, b3⟩
  have B3 := Lib.hid (bthen B2.out b3)
  clear b3 cq2 cs10
  go_wp2
  go_ret
  exact ⟨rfl, B3.out⟩

set_option maxHeartbeats 2000000 in
theorem match_3 (x : Ru) (k : Ky) (g : Nat) (w : World) (hg : w.heap[g]? = some (.cells #[.int .i64 x.prio, .int .i64 x.src.base.k, .int .i64 x.src.base.a, .int .i64 x.src.base.b, .int .i64 x.src.base.c, .int .i64 x.src.base.d, .int .i64 x.src.len, .int .i64 x.dst.base.k, .int .i64 x.dst.base.a, .int .i64 x.dst.base.b, .int .i64 x.dst.base.c, .int .i64 x.dst.base.d, .int .i64 x.dst.len, .int .i64 x.proto, .int .i64 x.slo, .int .i64 x.shi, .int .i64 x.dlo, .int .i64 x.dhi, .int .i64 x.tenant, .int .i64 x.weight, .int .i64 x.chain] 53 (0, 0))) (h0 : x.src.has k.src = true) (h1 : x.dst.has k.dst = true) (h2 : (x.proto == -1 || x.proto == k.proto) = true) (h3 : btw x.slo k.sport x.shi = false) : Calls Try.prog 94 #[.agg #[.func (.func 141) #[] #[.pointer (some ⟨g, 0, none⟩)], .func (.func 142) #[] #[.pointer (some ⟨g, 0, none⟩)], .func (.func 143) #[] #[.pointer (some ⟨g, 0, none⟩)], .func (.func 144) #[] #[.pointer (some ⟨g, 0, none⟩)], .func (.func 145) #[] #[.pointer (some ⟨g, 0, none⟩)]], .agg #[.int .i64 k.src.k, .int .i64 k.src.a, .int .i64 k.src.b, .int .i64 k.src.c, .int .i64 k.src.d, .int .i64 k.dst.k, .int .i64 k.dst.a, .int .i64 k.dst.b, .int .i64 k.dst.c, .int .i64 k.dst.d, .int .i64 k.proto, .int .i64 k.sport, .int .i64 k.dport]] w fun e w' => e = .returned (.bool false) ∧ Below w.heap.size w w' := by
  have q0 : Hid (((w.alloc (.cells #[.func (.func 141) #[] #[.pointer (some ⟨g, 0, none⟩)], .func (.func 142) #[] #[.pointer (some ⟨g, 0, none⟩)], .func (.func 143) #[] #[.pointer (some ⟨g, 0, none⟩)], .func (.func 144) #[] #[.pointer (some ⟨g, 0, none⟩)], .func (.func 145) #[] #[.pointer (some ⟨g, 0, none⟩)]] 120)).alloc (.cells #[.int .i64 k.src.k, .int .i64 k.src.a, .int .i64 k.src.b, .int .i64 k.src.c, .int .i64 k.src.d, .int .i64 k.dst.k, .int .i64 k.dst.a, .int .i64 k.dst.b, .int .i64 k.dst.c, .int .i64 k.dst.d, .int .i64 k.proto, .int .i64 k.sport, .int .i64 k.dport] 55)).heap[w.heap.size]? = some (.cells #[.func (.func 141) #[] #[.pointer (some ⟨g, 0, none⟩)], .func (.func 142) #[] #[.pointer (some ⟨g, 0, none⟩)], .func (.func 143) #[] #[.pointer (some ⟨g, 0, none⟩)], .func (.func 144) #[] #[.pointer (some ⟨g, 0, none⟩)], .func (.func 145) #[] #[.pointer (some ⟨g, 0, none⟩)]] 120 (0, 0))) := Lib.hid (by repeat (first | exact K.newAt (by first | rfl | (simp; done)) | refine K.oldAt (by first | (simp; done) | (simp; omega)) ?_))
  have s0 : Hid (((w.alloc (.cells #[.func (.func 141) #[] #[.pointer (some ⟨g, 0, none⟩)], .func (.func 142) #[] #[.pointer (some ⟨g, 0, none⟩)], .func (.func 143) #[] #[.pointer (some ⟨g, 0, none⟩)], .func (.func 144) #[] #[.pointer (some ⟨g, 0, none⟩)], .func (.func 145) #[] #[.pointer (some ⟨g, 0, none⟩)]] 120)).alloc (.cells #[.int .i64 k.src.k, .int .i64 k.src.a, .int .i64 k.src.b, .int .i64 k.src.c, .int .i64 k.src.d, .int .i64 k.dst.k, .int .i64 k.dst.a, .int .i64 k.dst.b, .int .i64 k.dst.c, .int .i64 k.dst.d, .int .i64 k.proto, .int .i64 k.sport, .int .i64 k.dport] 55)).heap[w.heap.size + 1]? = some (.cells #[.int .i64 k.src.k, .int .i64 k.src.a, .int .i64 k.src.b, .int .i64 k.src.c, .int .i64 k.src.d, .int .i64 k.dst.k, .int .i64 k.dst.a, .int .i64 k.dst.b, .int .i64 k.dst.c, .int .i64 k.dst.d, .int .i64 k.proto, .int .i64 k.sport, .int .i64 k.dport] 55 (0, 0))) := Lib.hid (by repeat (first | exact K.newAt (by first | rfl | (simp; done)) | refine K.oldAt (by first | (simp; done) | (simp; omega)) ?_))
  have p0 : Hid (((w.alloc (.cells #[.func (.func 141) #[] #[.pointer (some ⟨g, 0, none⟩)], .func (.func 142) #[] #[.pointer (some ⟨g, 0, none⟩)], .func (.func 143) #[] #[.pointer (some ⟨g, 0, none⟩)], .func (.func 144) #[] #[.pointer (some ⟨g, 0, none⟩)], .func (.func 145) #[] #[.pointer (some ⟨g, 0, none⟩)]] 120)).alloc (.cells #[.int .i64 k.src.k, .int .i64 k.src.a, .int .i64 k.src.b, .int .i64 k.src.c, .int .i64 k.src.d, .int .i64 k.dst.k, .int .i64 k.dst.a, .int .i64 k.dst.b, .int .i64 k.dst.c, .int .i64 k.dst.d, .int .i64 k.proto, .int .i64 k.sport, .int .i64 k.dport] 55)).heap[g]? = some (.cells #[.int .i64 x.prio, .int .i64 x.src.base.k, .int .i64 x.src.base.a, .int .i64 x.src.base.b, .int .i64 x.src.base.c, .int .i64 x.src.base.d, .int .i64 x.src.len, .int .i64 x.dst.base.k, .int .i64 x.dst.base.a, .int .i64 x.dst.base.b, .int .i64 x.dst.base.c, .int .i64 x.dst.base.d, .int .i64 x.dst.len, .int .i64 x.proto, .int .i64 x.slo, .int .i64 x.shi, .int .i64 x.dlo, .int .i64 x.dhi, .int .i64 x.tenant, .int .i64 x.weight, .int .i64 x.chain] 53 (0, 0))) := Lib.hid (K.old (K.old hg _) _)
  have H0 := Lib.hid h0
  have H1 := Lib.hid h1
  have H2 := Lib.hid h2
  have H3 := Lib.hid h3
  clear hg h0 h1 h2 h3
  go_enter Try.func94, Try.ntmps94
  go_wp2_with fail
  refine Calls.mono (comp1 x k.src true H0.out g _ p0.out) ?_
  rintro e w1 ⟨rfl, b1⟩
  have B1 := Lib.hid (bthen (Joins.below_alloc2 w _ _) b1)
  have q1 := Lib.hid (K.below b1 q0.out)
  have s1 := Lib.hid (K.below b1 s0.out)
  have p1 := Lib.hid (K.below b1 p0.out)
  have cq1 := K.cell q1.out 1 _ rfl
  have cs5 := K.cell s1.out 5 _ rfl
  have cs6 := K.cell s1.out 6 _ rfl
  have cs7 := K.cell s1.out 7 _ rfl
  have cs8 := K.cell s1.out 8 _ rfl
  have cs9 := K.cell s1.out 9 _ rfl
  clear b1 
  go_wp2_with fail
  refine Calls.mono (comp2 x k.dst true H1.out g _ p1.out) ?_
  rintro e w2 ⟨rfl, b2⟩
  have B2 := Lib.hid (bthen B1.out b2)
  have q2 := Lib.hid (K.below b2 q1.out)
  have s2 := Lib.hid (K.below b2 s1.out)
  have p2 := Lib.hid (K.below b2 p1.out)
  have cq2 := K.cell q2.out 2 _ rfl
  have cs10 := K.cell s2.out 10 _ rfl
  clear b2 cq1 cs5 cs6 cs7 cs8 cs9
  go_wp2_with fail
  refine Calls.mono (comp3 x k.proto true H2.out g _ p2.out) ?_
  rintro e w3 ⟨rfl, b3⟩
  have B3 := Lib.hid (bthen B2.out b3)
  have q3 := Lib.hid (K.below b3 q2.out)
  have s3 := Lib.hid (K.below b3 s2.out)
  have p3 := Lib.hid (K.below b3 p2.out)
  have cq3 := K.cell q3.out 3 _ rfl
  have cs11 := K.cell s3.out 11 _ rfl
  clear b3 cq2 cs10
  go_wp2_with fail
  refine Calls.mono (comp4 x k.sport false H3.out g _ p3.out) ?_
  rintro e w4 ⟨rfl, b4⟩
  have B4 := Lib.hid (bthen B3.out b4)
  clear b4 cq3 cs11
  go_wp2
  go_ret
  exact ⟨rfl, B4.out⟩

set_option maxHeartbeats 2000000 in
theorem match_4 (x : Ru) (k : Ky) (g : Nat) (w : World) (hg : w.heap[g]? = some (.cells #[.int .i64 x.prio, .int .i64 x.src.base.k, .int .i64 x.src.base.a, .int .i64 x.src.base.b, .int .i64 x.src.base.c, .int .i64 x.src.base.d, .int .i64 x.src.len, .int .i64 x.dst.base.k, .int .i64 x.dst.base.a, .int .i64 x.dst.base.b, .int .i64 x.dst.base.c, .int .i64 x.dst.base.d, .int .i64 x.dst.len, .int .i64 x.proto, .int .i64 x.slo, .int .i64 x.shi, .int .i64 x.dlo, .int .i64 x.dhi, .int .i64 x.tenant, .int .i64 x.weight, .int .i64 x.chain] 53 (0, 0))) (h0 : x.src.has k.src = true) (h1 : x.dst.has k.dst = true) (h2 : (x.proto == -1 || x.proto == k.proto) = true) (h3 : btw x.slo k.sport x.shi = true) (h4 : btw x.dlo k.dport x.dhi = false) : Calls Try.prog 94 #[.agg #[.func (.func 141) #[] #[.pointer (some ⟨g, 0, none⟩)], .func (.func 142) #[] #[.pointer (some ⟨g, 0, none⟩)], .func (.func 143) #[] #[.pointer (some ⟨g, 0, none⟩)], .func (.func 144) #[] #[.pointer (some ⟨g, 0, none⟩)], .func (.func 145) #[] #[.pointer (some ⟨g, 0, none⟩)]], .agg #[.int .i64 k.src.k, .int .i64 k.src.a, .int .i64 k.src.b, .int .i64 k.src.c, .int .i64 k.src.d, .int .i64 k.dst.k, .int .i64 k.dst.a, .int .i64 k.dst.b, .int .i64 k.dst.c, .int .i64 k.dst.d, .int .i64 k.proto, .int .i64 k.sport, .int .i64 k.dport]] w fun e w' => e = .returned (.bool false) ∧ Below w.heap.size w w' := by
  have q0 : Hid (((w.alloc (.cells #[.func (.func 141) #[] #[.pointer (some ⟨g, 0, none⟩)], .func (.func 142) #[] #[.pointer (some ⟨g, 0, none⟩)], .func (.func 143) #[] #[.pointer (some ⟨g, 0, none⟩)], .func (.func 144) #[] #[.pointer (some ⟨g, 0, none⟩)], .func (.func 145) #[] #[.pointer (some ⟨g, 0, none⟩)]] 120)).alloc (.cells #[.int .i64 k.src.k, .int .i64 k.src.a, .int .i64 k.src.b, .int .i64 k.src.c, .int .i64 k.src.d, .int .i64 k.dst.k, .int .i64 k.dst.a, .int .i64 k.dst.b, .int .i64 k.dst.c, .int .i64 k.dst.d, .int .i64 k.proto, .int .i64 k.sport, .int .i64 k.dport] 55)).heap[w.heap.size]? = some (.cells #[.func (.func 141) #[] #[.pointer (some ⟨g, 0, none⟩)], .func (.func 142) #[] #[.pointer (some ⟨g, 0, none⟩)], .func (.func 143) #[] #[.pointer (some ⟨g, 0, none⟩)], .func (.func 144) #[] #[.pointer (some ⟨g, 0, none⟩)], .func (.func 145) #[] #[.pointer (some ⟨g, 0, none⟩)]] 120 (0, 0))) := Lib.hid (by repeat (first | exact K.newAt (by first | rfl | (simp; done)) | refine K.oldAt (by first | (simp; done) | (simp; omega)) ?_))
  have s0 : Hid (((w.alloc (.cells #[.func (.func 141) #[] #[.pointer (some ⟨g, 0, none⟩)], .func (.func 142) #[] #[.pointer (some ⟨g, 0, none⟩)], .func (.func 143) #[] #[.pointer (some ⟨g, 0, none⟩)], .func (.func 144) #[] #[.pointer (some ⟨g, 0, none⟩)], .func (.func 145) #[] #[.pointer (some ⟨g, 0, none⟩)]] 120)).alloc (.cells #[.int .i64 k.src.k, .int .i64 k.src.a, .int .i64 k.src.b, .int .i64 k.src.c, .int .i64 k.src.d, .int .i64 k.dst.k, .int .i64 k.dst.a, .int .i64 k.dst.b, .int .i64 k.dst.c, .int .i64 k.dst.d, .int .i64 k.proto, .int .i64 k.sport, .int .i64 k.dport] 55)).heap[w.heap.size + 1]? = some (.cells #[.int .i64 k.src.k, .int .i64 k.src.a, .int .i64 k.src.b, .int .i64 k.src.c, .int .i64 k.src.d, .int .i64 k.dst.k, .int .i64 k.dst.a, .int .i64 k.dst.b, .int .i64 k.dst.c, .int .i64 k.dst.d, .int .i64 k.proto, .int .i64 k.sport, .int .i64 k.dport] 55 (0, 0))) := Lib.hid (by repeat (first | exact K.newAt (by first | rfl | (simp; done)) | refine K.oldAt (by first | (simp; done) | (simp; omega)) ?_))
  have p0 : Hid (((w.alloc (.cells #[.func (.func 141) #[] #[.pointer (some ⟨g, 0, none⟩)], .func (.func 142) #[] #[.pointer (some ⟨g, 0, none⟩)], .func (.func 143) #[] #[.pointer (some ⟨g, 0, none⟩)], .func (.func 144) #[] #[.pointer (some ⟨g, 0, none⟩)], .func (.func 145) #[] #[.pointer (some ⟨g, 0, none⟩)]] 120)).alloc (.cells #[.int .i64 k.src.k, .int .i64 k.src.a, .int .i64 k.src.b, .int .i64 k.src.c, .int .i64 k.src.d, .int .i64 k.dst.k, .int .i64 k.dst.a, .int .i64 k.dst.b, .int .i64 k.dst.c, .int .i64 k.dst.d, .int .i64 k.proto, .int .i64 k.sport, .int .i64 k.dport] 55)).heap[g]? = some (.cells #[.int .i64 x.prio, .int .i64 x.src.base.k, .int .i64 x.src.base.a, .int .i64 x.src.base.b, .int .i64 x.src.base.c, .int .i64 x.src.base.d, .int .i64 x.src.len, .int .i64 x.dst.base.k, .int .i64 x.dst.base.a, .int .i64 x.dst.base.b, .int .i64 x.dst.base.c, .int .i64 x.dst.base.d, .int .i64 x.dst.len, .int .i64 x.proto, .int .i64 x.slo, .int .i64 x.shi, .int .i64 x.dlo, .int .i64 x.dhi, .int .i64 x.tenant, .int .i64 x.weight, .int .i64 x.chain] 53 (0, 0))) := Lib.hid (K.old (K.old hg _) _)
  have H0 := Lib.hid h0
  have H1 := Lib.hid h1
  have H2 := Lib.hid h2
  have H3 := Lib.hid h3
  have H4 := Lib.hid h4
  clear hg h0 h1 h2 h3 h4
  go_enter Try.func94, Try.ntmps94
  go_wp2_with fail
  refine Calls.mono (comp1 x k.src true H0.out g _ p0.out) ?_
  rintro e w1 ⟨rfl, b1⟩
  have B1 := Lib.hid (bthen (Joins.below_alloc2 w _ _) b1)
  have q1 := Lib.hid (K.below b1 q0.out)
  have s1 := Lib.hid (K.below b1 s0.out)
  have p1 := Lib.hid (K.below b1 p0.out)
  have cq1 := K.cell q1.out 1 _ rfl
  have cs5 := K.cell s1.out 5 _ rfl
  have cs6 := K.cell s1.out 6 _ rfl
  have cs7 := K.cell s1.out 7 _ rfl
  have cs8 := K.cell s1.out 8 _ rfl
  have cs9 := K.cell s1.out 9 _ rfl
  clear b1 
  go_wp2_with fail
  refine Calls.mono (comp2 x k.dst true H1.out g _ p1.out) ?_
  rintro e w2 ⟨rfl, b2⟩
  have B2 := Lib.hid (bthen B1.out b2)
  have q2 := Lib.hid (K.below b2 q1.out)
  have s2 := Lib.hid (K.below b2 s1.out)
  have p2 := Lib.hid (K.below b2 p1.out)
  have cq2 := K.cell q2.out 2 _ rfl
  have cs10 := K.cell s2.out 10 _ rfl
  clear b2 cq1 cs5 cs6 cs7 cs8 cs9
  go_wp2_with fail
  refine Calls.mono (comp3 x k.proto true H2.out g _ p2.out) ?_
  rintro e w3 ⟨rfl, b3⟩
  have B3 := Lib.hid (bthen B2.out b3)
  have q3 := Lib.hid (K.below b3 q2.out)
  have s3 := Lib.hid (K.below b3 s2.out)
  have p3 := Lib.hid (K.below b3 p2.out)
  have cq3 := K.cell q3.out 3 _ rfl
  have cs11 := K.cell s3.out 11 _ rfl
  clear b3 cq2 cs10
  go_wp2_with fail
  refine Calls.mono (comp4 x k.sport true H3.out g _ p3.out) ?_
  rintro e w4 ⟨rfl, b4⟩
  have B4 := Lib.hid (bthen B3.out b4)
  have q4 := Lib.hid (K.below b4 q3.out)
  have s4 := Lib.hid (K.below b4 s3.out)
  have p4 := Lib.hid (K.below b4 p3.out)
  have cq4 := K.cell q4.out 4 _ rfl
  have cs12 := K.cell s4.out 12 _ rfl
  clear b4 cq3 cs11
  go_wp2_with fail
  refine Calls.mono (comp5 x k.dport false H4.out g _ p4.out) ?_
  rintro e w5 ⟨rfl, b5⟩
  have B5 := Lib.hid (bthen B4.out b5)
  clear b5 cq4 cs12
  go_wp2
  go_ret
  exact ⟨rfl, B5.out⟩

set_option maxHeartbeats 2000000 in
theorem match_5 (x : Ru) (k : Ky) (g : Nat) (w : World) (hg : w.heap[g]? = some (.cells #[.int .i64 x.prio, .int .i64 x.src.base.k, .int .i64 x.src.base.a, .int .i64 x.src.base.b, .int .i64 x.src.base.c, .int .i64 x.src.base.d, .int .i64 x.src.len, .int .i64 x.dst.base.k, .int .i64 x.dst.base.a, .int .i64 x.dst.base.b, .int .i64 x.dst.base.c, .int .i64 x.dst.base.d, .int .i64 x.dst.len, .int .i64 x.proto, .int .i64 x.slo, .int .i64 x.shi, .int .i64 x.dlo, .int .i64 x.dhi, .int .i64 x.tenant, .int .i64 x.weight, .int .i64 x.chain] 53 (0, 0))) (h0 : x.src.has k.src = true) (h1 : x.dst.has k.dst = true) (h2 : (x.proto == -1 || x.proto == k.proto) = true) (h3 : btw x.slo k.sport x.shi = true) (h4 : btw x.dlo k.dport x.dhi = true) : Calls Try.prog 94 #[.agg #[.func (.func 141) #[] #[.pointer (some ⟨g, 0, none⟩)], .func (.func 142) #[] #[.pointer (some ⟨g, 0, none⟩)], .func (.func 143) #[] #[.pointer (some ⟨g, 0, none⟩)], .func (.func 144) #[] #[.pointer (some ⟨g, 0, none⟩)], .func (.func 145) #[] #[.pointer (some ⟨g, 0, none⟩)]], .agg #[.int .i64 k.src.k, .int .i64 k.src.a, .int .i64 k.src.b, .int .i64 k.src.c, .int .i64 k.src.d, .int .i64 k.dst.k, .int .i64 k.dst.a, .int .i64 k.dst.b, .int .i64 k.dst.c, .int .i64 k.dst.d, .int .i64 k.proto, .int .i64 k.sport, .int .i64 k.dport]] w fun e w' => e = .returned (.bool true) ∧ Below w.heap.size w w' := by
  have q0 : Hid (((w.alloc (.cells #[.func (.func 141) #[] #[.pointer (some ⟨g, 0, none⟩)], .func (.func 142) #[] #[.pointer (some ⟨g, 0, none⟩)], .func (.func 143) #[] #[.pointer (some ⟨g, 0, none⟩)], .func (.func 144) #[] #[.pointer (some ⟨g, 0, none⟩)], .func (.func 145) #[] #[.pointer (some ⟨g, 0, none⟩)]] 120)).alloc (.cells #[.int .i64 k.src.k, .int .i64 k.src.a, .int .i64 k.src.b, .int .i64 k.src.c, .int .i64 k.src.d, .int .i64 k.dst.k, .int .i64 k.dst.a, .int .i64 k.dst.b, .int .i64 k.dst.c, .int .i64 k.dst.d, .int .i64 k.proto, .int .i64 k.sport, .int .i64 k.dport] 55)).heap[w.heap.size]? = some (.cells #[.func (.func 141) #[] #[.pointer (some ⟨g, 0, none⟩)], .func (.func 142) #[] #[.pointer (some ⟨g, 0, none⟩)], .func (.func 143) #[] #[.pointer (some ⟨g, 0, none⟩)], .func (.func 144) #[] #[.pointer (some ⟨g, 0, none⟩)], .func (.func 145) #[] #[.pointer (some ⟨g, 0, none⟩)]] 120 (0, 0))) := Lib.hid (by repeat (first | exact K.newAt (by first | rfl | (simp; done)) | refine K.oldAt (by first | (simp; done) | (simp; omega)) ?_))
  have s0 : Hid (((w.alloc (.cells #[.func (.func 141) #[] #[.pointer (some ⟨g, 0, none⟩)], .func (.func 142) #[] #[.pointer (some ⟨g, 0, none⟩)], .func (.func 143) #[] #[.pointer (some ⟨g, 0, none⟩)], .func (.func 144) #[] #[.pointer (some ⟨g, 0, none⟩)], .func (.func 145) #[] #[.pointer (some ⟨g, 0, none⟩)]] 120)).alloc (.cells #[.int .i64 k.src.k, .int .i64 k.src.a, .int .i64 k.src.b, .int .i64 k.src.c, .int .i64 k.src.d, .int .i64 k.dst.k, .int .i64 k.dst.a, .int .i64 k.dst.b, .int .i64 k.dst.c, .int .i64 k.dst.d, .int .i64 k.proto, .int .i64 k.sport, .int .i64 k.dport] 55)).heap[w.heap.size + 1]? = some (.cells #[.int .i64 k.src.k, .int .i64 k.src.a, .int .i64 k.src.b, .int .i64 k.src.c, .int .i64 k.src.d, .int .i64 k.dst.k, .int .i64 k.dst.a, .int .i64 k.dst.b, .int .i64 k.dst.c, .int .i64 k.dst.d, .int .i64 k.proto, .int .i64 k.sport, .int .i64 k.dport] 55 (0, 0))) := Lib.hid (by repeat (first | exact K.newAt (by first | rfl | (simp; done)) | refine K.oldAt (by first | (simp; done) | (simp; omega)) ?_))
  have p0 : Hid (((w.alloc (.cells #[.func (.func 141) #[] #[.pointer (some ⟨g, 0, none⟩)], .func (.func 142) #[] #[.pointer (some ⟨g, 0, none⟩)], .func (.func 143) #[] #[.pointer (some ⟨g, 0, none⟩)], .func (.func 144) #[] #[.pointer (some ⟨g, 0, none⟩)], .func (.func 145) #[] #[.pointer (some ⟨g, 0, none⟩)]] 120)).alloc (.cells #[.int .i64 k.src.k, .int .i64 k.src.a, .int .i64 k.src.b, .int .i64 k.src.c, .int .i64 k.src.d, .int .i64 k.dst.k, .int .i64 k.dst.a, .int .i64 k.dst.b, .int .i64 k.dst.c, .int .i64 k.dst.d, .int .i64 k.proto, .int .i64 k.sport, .int .i64 k.dport] 55)).heap[g]? = some (.cells #[.int .i64 x.prio, .int .i64 x.src.base.k, .int .i64 x.src.base.a, .int .i64 x.src.base.b, .int .i64 x.src.base.c, .int .i64 x.src.base.d, .int .i64 x.src.len, .int .i64 x.dst.base.k, .int .i64 x.dst.base.a, .int .i64 x.dst.base.b, .int .i64 x.dst.base.c, .int .i64 x.dst.base.d, .int .i64 x.dst.len, .int .i64 x.proto, .int .i64 x.slo, .int .i64 x.shi, .int .i64 x.dlo, .int .i64 x.dhi, .int .i64 x.tenant, .int .i64 x.weight, .int .i64 x.chain] 53 (0, 0))) := Lib.hid (K.old (K.old hg _) _)
  have H0 := Lib.hid h0
  have H1 := Lib.hid h1
  have H2 := Lib.hid h2
  have H3 := Lib.hid h3
  have H4 := Lib.hid h4
  clear hg h0 h1 h2 h3 h4
  go_enter Try.func94, Try.ntmps94
  go_wp2_with fail
  refine Calls.mono (comp1 x k.src true H0.out g _ p0.out) ?_
  rintro e w1 ⟨rfl, b1⟩
  have B1 := Lib.hid (bthen (Joins.below_alloc2 w _ _) b1)
  have q1 := Lib.hid (K.below b1 q0.out)
  have s1 := Lib.hid (K.below b1 s0.out)
  have p1 := Lib.hid (K.below b1 p0.out)
  have cq1 := K.cell q1.out 1 _ rfl
  have cs5 := K.cell s1.out 5 _ rfl
  have cs6 := K.cell s1.out 6 _ rfl
  have cs7 := K.cell s1.out 7 _ rfl
  have cs8 := K.cell s1.out 8 _ rfl
  have cs9 := K.cell s1.out 9 _ rfl
  clear b1 
  go_wp2_with fail
  refine Calls.mono (comp2 x k.dst true H1.out g _ p1.out) ?_
  rintro e w2 ⟨rfl, b2⟩
  have B2 := Lib.hid (bthen B1.out b2)
  have q2 := Lib.hid (K.below b2 q1.out)
  have s2 := Lib.hid (K.below b2 s1.out)
  have p2 := Lib.hid (K.below b2 p1.out)
  have cq2 := K.cell q2.out 2 _ rfl
  have cs10 := K.cell s2.out 10 _ rfl
  clear b2 cq1 cs5 cs6 cs7 cs8 cs9
  go_wp2_with fail
  refine Calls.mono (comp3 x k.proto true H2.out g _ p2.out) ?_
  rintro e w3 ⟨rfl, b3⟩
  have B3 := Lib.hid (bthen B2.out b3)
  have q3 := Lib.hid (K.below b3 q2.out)
  have s3 := Lib.hid (K.below b3 s2.out)
  have p3 := Lib.hid (K.below b3 p2.out)
  have cq3 := K.cell q3.out 3 _ rfl
  have cs11 := K.cell s3.out 11 _ rfl
  clear b3 cq2 cs10
  go_wp2_with fail
  refine Calls.mono (comp4 x k.sport true H3.out g _ p3.out) ?_
  rintro e w4 ⟨rfl, b4⟩
  have B4 := Lib.hid (bthen B3.out b4)
  have q4 := Lib.hid (K.below b4 q3.out)
  have s4 := Lib.hid (K.below b4 s3.out)
  have p4 := Lib.hid (K.below b4 p3.out)
  have cq4 := K.cell q4.out 4 _ rfl
  have cs12 := K.cell s4.out 12 _ rfl
  clear b4 cq3 cs11
  go_wp2_with fail
  refine Calls.mono (comp5 x k.dport true H4.out g _ p4.out) ?_
  rintro e w5 ⟨rfl, b5⟩
  have B5 := Lib.hid (bthen B4.out b5)
  clear b5 cq4 cs12
  go_wp2
  go_ret
  exact ⟨rfl, B5.out⟩

theorem matchC (x : Ru) (k : Ky) (g : Nat) (w : World) (hg : w.heap[g]? = some (.cells #[.int .i64 x.prio, .int .i64 x.src.base.k, .int .i64 x.src.base.a, .int .i64 x.src.base.b, .int .i64 x.src.base.c, .int .i64 x.src.base.d, .int .i64 x.src.len, .int .i64 x.dst.base.k, .int .i64 x.dst.base.a, .int .i64 x.dst.base.b, .int .i64 x.dst.base.c, .int .i64 x.dst.base.d, .int .i64 x.dst.len, .int .i64 x.proto, .int .i64 x.slo, .int .i64 x.shi, .int .i64 x.dlo, .int .i64 x.dhi, .int .i64 x.tenant, .int .i64 x.weight, .int .i64 x.chain] 53 (0, 0))) : Calls Try.prog 94 #[.agg #[.func (.func 141) #[] #[.pointer (some ⟨g, 0, none⟩)], .func (.func 142) #[] #[.pointer (some ⟨g, 0, none⟩)], .func (.func 143) #[] #[.pointer (some ⟨g, 0, none⟩)], .func (.func 144) #[] #[.pointer (some ⟨g, 0, none⟩)], .func (.func 145) #[] #[.pointer (some ⟨g, 0, none⟩)]], .agg #[.int .i64 k.src.k, .int .i64 k.src.a, .int .i64 k.src.b, .int .i64 k.src.c, .int .i64 k.src.d, .int .i64 k.dst.k, .int .i64 k.dst.a, .int .i64 k.dst.b, .int .i64 k.dst.c, .int .i64 k.dst.d, .int .i64 k.proto, .int .i64 k.sport, .int .i64 k.dport]] w fun e w' => e = .returned (.bool (x.hits k)) ∧ Below w.heap.size w w' := by
  cases h0 : x.src.has k.src with
  | false =>
    rw [show x.hits k = false by simp only [Ru.hits, h0, Bool.false_and]]
    exact match_0 x k g w hg  h0
  | true =>
    cases h1 : x.dst.has k.dst with
    | false =>
      rw [show x.hits k = false by simp only [Ru.hits, h1, Bool.and_false, Bool.false_and]]
      exact match_1 x k g w hg h0 h1
    | true =>
      cases h2 : (x.proto == -1 || x.proto == k.proto) with
      | false =>
        rw [show x.hits k = false by simp only [Ru.hits, h2, Bool.and_false, Bool.false_and]]
        exact match_2 x k g w hg h0 h1 h2
      | true =>
        cases h3 : btw x.slo k.sport x.shi with
        | false =>
          rw [show x.hits k = false by simp only [Ru.hits, h3, Bool.and_false, Bool.false_and]]
          exact match_3 x k g w hg h0 h1 h2 h3
        | true =>
          cases h4 : btw x.dlo k.dport x.dhi with
          | false =>
            rw [show x.hits k = false by simp only [Ru.hits, h4, Bool.and_false]]
            exact match_4 x k g w hg h0 h1 h2 h3 h4
          | true =>
            rw [show x.hits k = true by simp only [Ru.hits, h0, h1, h2, h3, h4, Bool.and_self]]
            exact match_5 x k g w hg h0 h1 h2 h3 h4
end Go.Proofs.Ytdndanbalmoklaa

namespace Go.Proofs.Ytdndanbalmoklaa
set_option maxRecDepth 100000
open Go.RowKit


section
variable {o : Oper} {a : Act} {w : World} {K : Act → World → Prop} {Q : Exit → Act → World → Prop}
theorem r_move (x : Operand) (v : Value) (ho : o.op = .move x) (hx : a.eval x = v) (hK : K (a.put o.dst v) w) : o.wp Try.prog a w K Q := by
  unfold Oper.wp execOp
  simp only [ho, hx]
  go_simp
  exact hK
theorem r_pick (x y : Operand) (t : Nat) (b : Bool) (v : Value) (ho : o.op = .pick (.tmp t) x y) (hc : a.eval (.tmp t) = .bool b) (hv : (if b then a.eval x else a.eval y) = v) (hK : K (a.put o.dst v) w) : o.wp Try.prog a w K Q := by
  cases b with
  | false =>
    have hw : a.eval y = v := hv
    unfold Oper.wp execOp
    simp only [ho, hc, hw]
    go_simp
    exact hK
  | true =>
    have hw : a.eval x = v := hv
    unfold Oper.wp execOp
    simp only [ho, hc, hw]
    go_simp
    exact hK
theorem r_row (x : Operand) (g : Nat) (r : Ru) (ho : o.op = .load 53 x) (hx : a.eval x = .pointer (some ⟨g, 0, none⟩)) {t : TypeId} (hg : w.heap[g]? = some (.cells #[.int .i64 r.prio, .int .i64 r.src.base.k, .int .i64 r.src.base.a, .int .i64 r.src.base.b, .int .i64 r.src.base.c, .int .i64 r.src.base.d, .int .i64 r.src.len, .int .i64 r.dst.base.k, .int .i64 r.dst.base.a, .int .i64 r.dst.base.b, .int .i64 r.dst.base.c, .int .i64 r.dst.base.d, .int .i64 r.dst.len, .int .i64 r.proto, .int .i64 r.slo, .int .i64 r.shi, .int .i64 r.dlo, .int .i64 r.dhi, .int .i64 r.tenant, .int .i64 r.weight, .int .i64 r.chain] t (0, 0))) (hK : K (a.put o.dst (.agg #[.int .i64 r.prio, .int .i64 r.src.base.k, .int .i64 r.src.base.a, .int .i64 r.src.base.b, .int .i64 r.src.base.c, .int .i64 r.src.base.d, .int .i64 r.src.len, .int .i64 r.dst.base.k, .int .i64 r.dst.base.a, .int .i64 r.dst.base.b, .int .i64 r.dst.base.c, .int .i64 r.dst.base.d, .int .i64 r.dst.len, .int .i64 r.proto, .int .i64 r.slo, .int .i64 r.shi, .int .i64 r.dlo, .int .i64 r.dhi, .int .i64 r.tenant, .int .i64 r.weight, .int .i64 r.chain])) w) : o.wp Try.prog a w K Q :=
  wp_load_row 53 x ho g hx t _ (0, 0) _ hg Try.underlying53 rfl info_rule hK
theorem r_rowL (x : Operand) (g : Nat) (r : Ru) (ho : o.op = .load 83 x) (hx : a.eval x = .pointer (some ⟨g, 0, none⟩)) {t : TypeId} (hg : w.heap[g]? = some (.cells #[.int .i64 r.prio, .int .i64 r.src.base.k, .int .i64 r.src.base.a, .int .i64 r.src.base.b, .int .i64 r.src.base.c, .int .i64 r.src.base.d, .int .i64 r.src.len, .int .i64 r.dst.base.k, .int .i64 r.dst.base.a, .int .i64 r.dst.base.b, .int .i64 r.dst.base.c, .int .i64 r.dst.base.d, .int .i64 r.dst.len, .int .i64 r.proto, .int .i64 r.slo, .int .i64 r.shi, .int .i64 r.dlo, .int .i64 r.dhi, .int .i64 r.tenant, .int .i64 r.weight, .int .i64 r.chain] t (0, 0))) (hK : K (a.put o.dst (.agg #[.int .i64 r.prio, .int .i64 r.src.base.k, .int .i64 r.src.base.a, .int .i64 r.src.base.b, .int .i64 r.src.base.c, .int .i64 r.src.base.d, .int .i64 r.src.len, .int .i64 r.dst.base.k, .int .i64 r.dst.base.a, .int .i64 r.dst.base.b, .int .i64 r.dst.base.c, .int .i64 r.dst.base.d, .int .i64 r.dst.len, .int .i64 r.proto, .int .i64 r.slo, .int .i64 r.shi, .int .i64 r.dlo, .int .i64 r.dhi, .int .i64 r.tenant, .int .i64 r.weight, .int .i64 r.chain])) w) : o.wp Try.prog a w K Q :=
  wp_load_row 83 x ho g hx t _ (0, 0) _ hg Try.underlying83 rfl info_lrule hK
theorem r_key (x : Operand) (g : Nat) (r : Ky) (ho : o.op = .load 55 x) (hx : a.eval x = .pointer (some ⟨g, 0, none⟩)) {t : TypeId} (hg : w.heap[g]? = some (.cells #[.int .i64 r.src.k, .int .i64 r.src.a, .int .i64 r.src.b, .int .i64 r.src.c, .int .i64 r.src.d, .int .i64 r.dst.k, .int .i64 r.dst.a, .int .i64 r.dst.b, .int .i64 r.dst.c, .int .i64 r.dst.d, .int .i64 r.proto, .int .i64 r.sport, .int .i64 r.dport] t (0, 0))) (hK : K (a.put o.dst (.agg #[.int .i64 r.src.k, .int .i64 r.src.a, .int .i64 r.src.b, .int .i64 r.src.c, .int .i64 r.src.d, .int .i64 r.dst.k, .int .i64 r.dst.a, .int .i64 r.dst.b, .int .i64 r.dst.c, .int .i64 r.dst.d, .int .i64 r.proto, .int .i64 r.sport, .int .i64 r.dport])) w) : o.wp Try.prog a w K Q :=
  wp_load_row 55 x ho g hx t _ (0, 0) _ hg Try.underlying55 rfl info_key hK
theorem u_okRI (x : Operand) (x0 : Value) (ts : Array TypeId) (ho : o.op = .call { callee := .value (.func 92), args := #[x], argTypes := ts }) (h0 : a.eval x = x0)
    (h : Calls Try.prog 92 #[x0] w fun e w' => ∃ v, e = .returned v ∧ K (a.put o.dst v) w') : o.wp Try.prog a w K Q := by
  unfold Oper.wp execOp
  simp only [ho, resolve, List.map_toArray, List.map_cons, List.map_nil, h0, show ∀ f, a.eval (.func f) = .func (.func f) #[] #[] from fun _ => rfl]
  go_simp
  exact h.mono fun e w' ⟨u, he, hk⟩ => by subst he; exact hk
theorem u_okKI (x : Operand) (x0 : Value) (ts : Array TypeId) (ho : o.op = .call { callee := .value (.func 91), args := #[x], argTypes := ts }) (h0 : a.eval x = x0)
    (h : Calls Try.prog 91 #[x0] w fun e w' => ∃ v, e = .returned v ∧ K (a.put o.dst v) w') : o.wp Try.prog a w K Q := by
  unfold Oper.wp execOp
  simp only [ho, resolve, List.map_toArray, List.map_cons, List.map_nil, h0, show ∀ f, a.eval (.func f) = .func (.func f) #[] #[] from fun _ => rfl]
  go_simp
  exact h.mono fun e w' ⟨u, he, hk⟩ => by subst he; exact hk
theorem u_compI (x : Operand) (x0 : Value) (ts : Array TypeId) (ho : o.op = .call { callee := .value (.func 93), args := #[x], argTypes := ts }) (h0 : a.eval x = x0)
    (h : Calls Try.prog 93 #[x0] w fun e w' => ∃ v, e = .returned v ∧ K (a.put o.dst v) w') : o.wp Try.prog a w K Q := by
  unfold Oper.wp execOp
  simp only [ho, resolve, List.map_toArray, List.map_cons, List.map_nil, h0, show ∀ f, a.eval (.func f) = .func (.func f) #[] #[] from fun _ => rfl]
  go_simp
  exact h.mono fun e w' ⟨u, he, hk⟩ => by subst he; exact hk
theorem u_matchI (x y : Operand) (x0 x1 : Value) (ts : Array TypeId) (ho : o.op = .call { callee := .value (.func 94), args := #[x, y], argTypes := ts }) (h0 : a.eval x = x0) (h1 : a.eval y = x1)
    (h : Calls Try.prog 94 #[x0, x1] w fun e w' => ∃ v, e = .returned v ∧ K (a.put o.dst v) w') : o.wp Try.prog a w K Q := by
  unfold Oper.wp execOp
  simp only [ho, resolve, List.map_toArray, List.map_cons, List.map_nil, h0, h1, show ∀ f, a.eval (.func f) = .func (.func f) #[] #[] from fun _ => rfl]
  go_simp
  exact h.mono fun e w' ⟨u, he, hk⟩ => by subst he; exact hk
end

set_option maxHeartbeats 4000000 in
theorem ruleHasI_no (x : Ru) (k : Ky) (w : World) (h1 : x.ok = false) : Calls Try.prog 36 #[.agg #[.int .i64 x.prio, .int .i64 x.src.base.k, .int .i64 x.src.base.a, .int .i64 x.src.base.b, .int .i64 x.src.base.c, .int .i64 x.src.base.d, .int .i64 x.src.len, .int .i64 x.dst.base.k, .int .i64 x.dst.base.a, .int .i64 x.dst.base.b, .int .i64 x.dst.base.c, .int .i64 x.dst.base.d, .int .i64 x.dst.len, .int .i64 x.proto, .int .i64 x.slo, .int .i64 x.shi, .int .i64 x.dlo, .int .i64 x.dhi, .int .i64 x.tenant, .int .i64 x.weight, .int .i64 x.chain], .agg #[.int .i64 k.src.k, .int .i64 k.src.a, .int .i64 k.src.b, .int .i64 k.src.c, .int .i64 k.src.d, .int .i64 k.dst.k, .int .i64 k.dst.a, .int .i64 k.dst.b, .int .i64 k.dst.c, .int .i64 k.dst.d, .int .i64 k.proto, .int .i64 k.sport, .int .i64 k.dport]] w fun e w' => e = .returned (.bool false) ∧ Below w.heap.size w w' := by
  have q0 : Hid (((w.alloc (.cells #[.int .i64 x.prio, .int .i64 x.src.base.k, .int .i64 x.src.base.a, .int .i64 x.src.base.b, .int .i64 x.src.base.c, .int .i64 x.src.base.d, .int .i64 x.src.len, .int .i64 x.dst.base.k, .int .i64 x.dst.base.a, .int .i64 x.dst.base.b, .int .i64 x.dst.base.c, .int .i64 x.dst.base.d, .int .i64 x.dst.len, .int .i64 x.proto, .int .i64 x.slo, .int .i64 x.shi, .int .i64 x.dlo, .int .i64 x.dhi, .int .i64 x.tenant, .int .i64 x.weight, .int .i64 x.chain] 53)).alloc (.cells #[.int .i64 k.src.k, .int .i64 k.src.a, .int .i64 k.src.b, .int .i64 k.src.c, .int .i64 k.src.d, .int .i64 k.dst.k, .int .i64 k.dst.a, .int .i64 k.dst.b, .int .i64 k.dst.c, .int .i64 k.dst.d, .int .i64 k.proto, .int .i64 k.sport, .int .i64 k.dport] 55)).heap[w.heap.size]? = some (.cells #[.int .i64 x.prio, .int .i64 x.src.base.k, .int .i64 x.src.base.a, .int .i64 x.src.base.b, .int .i64 x.src.base.c, .int .i64 x.src.base.d, .int .i64 x.src.len, .int .i64 x.dst.base.k, .int .i64 x.dst.base.a, .int .i64 x.dst.base.b, .int .i64 x.dst.base.c, .int .i64 x.dst.base.d, .int .i64 x.dst.len, .int .i64 x.proto, .int .i64 x.slo, .int .i64 x.shi, .int .i64 x.dlo, .int .i64 x.dhi, .int .i64 x.tenant, .int .i64 x.weight, .int .i64 x.chain] 53 (0, 0))) := Lib.hid (by repeat (first | exact K.newAt (by first | rfl | (simp; done)) | refine K.oldAt (by first | (simp; done) | (simp; omega)) ?_))
  have s0 : Hid (((w.alloc (.cells #[.int .i64 x.prio, .int .i64 x.src.base.k, .int .i64 x.src.base.a, .int .i64 x.src.base.b, .int .i64 x.src.base.c, .int .i64 x.src.base.d, .int .i64 x.src.len, .int .i64 x.dst.base.k, .int .i64 x.dst.base.a, .int .i64 x.dst.base.b, .int .i64 x.dst.base.c, .int .i64 x.dst.base.d, .int .i64 x.dst.len, .int .i64 x.proto, .int .i64 x.slo, .int .i64 x.shi, .int .i64 x.dlo, .int .i64 x.dhi, .int .i64 x.tenant, .int .i64 x.weight, .int .i64 x.chain] 53)).alloc (.cells #[.int .i64 k.src.k, .int .i64 k.src.a, .int .i64 k.src.b, .int .i64 k.src.c, .int .i64 k.src.d, .int .i64 k.dst.k, .int .i64 k.dst.a, .int .i64 k.dst.b, .int .i64 k.dst.c, .int .i64 k.dst.d, .int .i64 k.proto, .int .i64 k.sport, .int .i64 k.dport] 55)).heap[w.heap.size + 1]? = some (.cells #[.int .i64 k.src.k, .int .i64 k.src.a, .int .i64 k.src.b, .int .i64 k.src.c, .int .i64 k.src.d, .int .i64 k.dst.k, .int .i64 k.dst.a, .int .i64 k.dst.b, .int .i64 k.dst.c, .int .i64 k.dst.d, .int .i64 k.proto, .int .i64 k.sport, .int .i64 k.dport] 55 (0, 0))) := Lib.hid (by repeat (first | exact K.newAt (by first | rfl | (simp; done)) | refine K.oldAt (by first | (simp; done) | (simp; omega)) ?_))
  have H1 := Lib.hid h1
  clear h1
  go_enter Try.func36, Try.ntmps36
  go_wp2_with fail
  refine wp_region_guards (by kernel_rfl) 12 17 [(0, 5), (1, 6), (2, 7), (3, 8), (4, 9), (5, 10), (6, 11), (7, 12), (8, 13), (9, 14), (10, 15), (11, 16)] _ ([.val (.agg #[.int .i64 x.prio, .int .i64 x.src.base.k, .int .i64 x.src.base.a, .int .i64 x.src.base.b, .int .i64 x.src.base.c, .int .i64 x.src.base.d, .int .i64 x.src.len, .int .i64 x.dst.base.k, .int .i64 x.dst.base.a, .int .i64 x.dst.base.b, .int .i64 x.dst.base.c, .int .i64 x.dst.base.d, .int .i64 x.dst.len, .int .i64 x.proto, .int .i64 x.slo, .int .i64 x.shi, .int .i64 x.dlo, .int .i64 x.dhi, .int .i64 x.tenant, .int .i64 x.weight, .int .i64 x.chain]), .bit false, .bit false, .skip, .skip, .bit false, .bit false, .skip, .skip, .skip, .skip, .val (.bool false)]) (by kernel_rfl) (by kernel_rfl) (by kernel_rfl) rfl rfl ?_ ?_
  · intro j o hj ho hr a' v K' hx hnd hB hK
    match j, hj, ho, hr with
    | 0, _, ho, _ =>
      obtain rfl := Option.some.inj ho
      have h0 : a'.eval (.tmp 2) = .pointer (some ⟨w.heap.size, 0, none⟩) := (hx 2 (by decide)).trans rfl
      exact r_row _ _ x rfl h0 (K.below hB q0.out) (hK _ _ rfl (Below.refl _ _))
    | 1, _, ho, _ =>
      obtain rfl := Option.some.inj ho
      have h0 : a'.eval (.tmp 5) = .agg #[.int .i64 x.prio, .int .i64 x.src.base.k, .int .i64 x.src.base.a, .int .i64 x.src.base.b, .int .i64 x.src.base.c, .int .i64 x.src.base.d, .int .i64 x.src.len, .int .i64 x.dst.base.k, .int .i64 x.dst.base.a, .int .i64 x.dst.base.b, .int .i64 x.dst.base.c, .int .i64 x.dst.base.d, .int .i64 x.dst.len, .int .i64 x.proto, .int .i64 x.slo, .int .i64 x.shi, .int .i64 x.dlo, .int .i64 x.dhi, .int .i64 x.tenant, .int .i64 x.weight, .int .i64 x.chain] := (gds_of hnd 0 5 (by kernel_rfl) :)
      refine u_okRI _ _ _ rfl h0 (Calls.mono (ruleOkIB x false H1.out _) ?_)
      rintro e' v' ⟨rfl, b6⟩
      exact ⟨_, rfl, hK _ _ rfl b6⟩
    | 2, _, ho, _ =>
      obtain rfl := Option.some.inj ho
      have h0 : a'.eval (.tmp 6) = .bool false := (gds_of hnd 1 6 (by kernel_rfl) :)
      exact r_move _ _ rfl h0 (hK _ _ rfl (Below.refl _ _))
    | 3, _, ho, hr =>
      obtain rfl := Option.some.inj ho
      exact Bool.noConfusion (show false = true from hr)
    | 4, _, ho, hr =>
      obtain rfl := Option.some.inj ho
      exact Bool.noConfusion (show false = true from hr)
    | 5, _, ho, _ =>
      obtain rfl := Option.some.inj ho
      have h0 : a'.eval (.tmp 7) = .bool false := (gds_of hnd 2 7 (by kernel_rfl) :)
      exact r_pick _ _ _ false _ rfl h0 rfl (hK _ _ rfl (Below.refl _ _))
    | 6, _, ho, _ =>
      obtain rfl := Option.some.inj ho
      have h0 : a'.eval (.tmp 10) = .bool false := (gds_of hnd 5 10 (by kernel_rfl) :)
      exact r_move _ _ rfl h0 (hK _ _ rfl (Below.refl _ _))
    | 7, _, ho, hr =>
      obtain rfl := Option.some.inj ho
      exact Bool.noConfusion (show false = true from hr)
    | 8, _, ho, hr =>
      obtain rfl := Option.some.inj ho
      exact Bool.noConfusion (show false = true from hr)
    | 9, _, ho, hr =>
      obtain rfl := Option.some.inj ho
      exact Bool.noConfusion (show false = true from hr)
    | 10, _, ho, hr =>
      obtain rfl := Option.some.inj ho
      exact Bool.noConfusion (show false = true from hr)
    | 11, _, ho, _ =>
      obtain rfl := Option.some.inj ho
      have h0 : a'.eval (.tmp 11) = .bool false := (gds_of hnd 6 11 (by kernel_rfl) :)
      exact r_pick _ _ _ false _ rfl h0 rfl (hK _ _ rfl (Below.refl _ _))
    | j + 12, hj, _, _ => omega
  · intro f v hf hB
    have e0 : f 0 = (.agg #[.int .i64 x.prio, .int .i64 x.src.base.k, .int .i64 x.src.base.a, .int .i64 x.src.base.b, .int .i64 x.src.base.c, .int .i64 x.src.base.d, .int .i64 x.src.len, .int .i64 x.dst.base.k, .int .i64 x.dst.base.a, .int .i64 x.dst.base.b, .int .i64 x.dst.base.c, .int .i64 x.dst.base.d, .int .i64 x.dst.len, .int .i64 x.proto, .int .i64 x.slo, .int .i64 x.shi, .int .i64 x.dlo, .int .i64 x.dhi, .int .i64 x.tenant, .int .i64 x.weight, .int .i64 x.chain]) := hf (0, 5) (by decide)
    have e1 : f 1 = (.bool false) := hf (1, 6) (by decide)
    have e2 : f 2 = (.bool false) := hf (2, 7) (by decide)
    have e3 : f 3 = undef := hf (3, 8) (by decide)
    have e4 : f 4 = undef := hf (4, 9) (by decide)
    have e5 : f 5 = (.bool false) := hf (5, 10) (by decide)
    have e6 : f 6 = (.bool false) := hf (6, 11) (by decide)
    have e7 : f 7 = undef := hf (7, 12) (by decide)
    have e8 : f 8 = undef := hf (8, 13) (by decide)
    have e9 : f 9 = undef := hf (9, 14) (by decide)
    have e10 : f 10 = undef := hf (10, 15) (by decide)
    have e11 : f 11 = (.bool false) := hf (11, 16) (by decide)
    simp only [List.foldl_cons, List.foldl_nil, List.drop_succ_cons, List.drop_zero, e0, e1, e2, e3, e4, e5, e6, e7, e8, e9, e10, e11]
    clear e0 e1 e2 e3 e4 e5 e6 e7 e8 e9 e10 e11 hf
    go_simp
    have B1 := Lib.hid (bthen (Joins.below_alloc2 w _ _) hB)
    clear hB
    go_wp2
    go_ret
    exact ⟨rfl, B1.out⟩

set_option maxHeartbeats 4000000 in
theorem ruleHasI_key (x : Ru) (k : Ky) (w : World) (h1 : x.ok = true) (h2 : k.ok = false) : Calls Try.prog 36 #[.agg #[.int .i64 x.prio, .int .i64 x.src.base.k, .int .i64 x.src.base.a, .int .i64 x.src.base.b, .int .i64 x.src.base.c, .int .i64 x.src.base.d, .int .i64 x.src.len, .int .i64 x.dst.base.k, .int .i64 x.dst.base.a, .int .i64 x.dst.base.b, .int .i64 x.dst.base.c, .int .i64 x.dst.base.d, .int .i64 x.dst.len, .int .i64 x.proto, .int .i64 x.slo, .int .i64 x.shi, .int .i64 x.dlo, .int .i64 x.dhi, .int .i64 x.tenant, .int .i64 x.weight, .int .i64 x.chain], .agg #[.int .i64 k.src.k, .int .i64 k.src.a, .int .i64 k.src.b, .int .i64 k.src.c, .int .i64 k.src.d, .int .i64 k.dst.k, .int .i64 k.dst.a, .int .i64 k.dst.b, .int .i64 k.dst.c, .int .i64 k.dst.d, .int .i64 k.proto, .int .i64 k.sport, .int .i64 k.dport]] w fun e w' => e = .returned (.bool false) ∧ Below w.heap.size w w' := by
  have q0 : Hid (((w.alloc (.cells #[.int .i64 x.prio, .int .i64 x.src.base.k, .int .i64 x.src.base.a, .int .i64 x.src.base.b, .int .i64 x.src.base.c, .int .i64 x.src.base.d, .int .i64 x.src.len, .int .i64 x.dst.base.k, .int .i64 x.dst.base.a, .int .i64 x.dst.base.b, .int .i64 x.dst.base.c, .int .i64 x.dst.base.d, .int .i64 x.dst.len, .int .i64 x.proto, .int .i64 x.slo, .int .i64 x.shi, .int .i64 x.dlo, .int .i64 x.dhi, .int .i64 x.tenant, .int .i64 x.weight, .int .i64 x.chain] 53)).alloc (.cells #[.int .i64 k.src.k, .int .i64 k.src.a, .int .i64 k.src.b, .int .i64 k.src.c, .int .i64 k.src.d, .int .i64 k.dst.k, .int .i64 k.dst.a, .int .i64 k.dst.b, .int .i64 k.dst.c, .int .i64 k.dst.d, .int .i64 k.proto, .int .i64 k.sport, .int .i64 k.dport] 55)).heap[w.heap.size]? = some (.cells #[.int .i64 x.prio, .int .i64 x.src.base.k, .int .i64 x.src.base.a, .int .i64 x.src.base.b, .int .i64 x.src.base.c, .int .i64 x.src.base.d, .int .i64 x.src.len, .int .i64 x.dst.base.k, .int .i64 x.dst.base.a, .int .i64 x.dst.base.b, .int .i64 x.dst.base.c, .int .i64 x.dst.base.d, .int .i64 x.dst.len, .int .i64 x.proto, .int .i64 x.slo, .int .i64 x.shi, .int .i64 x.dlo, .int .i64 x.dhi, .int .i64 x.tenant, .int .i64 x.weight, .int .i64 x.chain] 53 (0, 0))) := Lib.hid (by repeat (first | exact K.newAt (by first | rfl | (simp; done)) | refine K.oldAt (by first | (simp; done) | (simp; omega)) ?_))
  have s0 : Hid (((w.alloc (.cells #[.int .i64 x.prio, .int .i64 x.src.base.k, .int .i64 x.src.base.a, .int .i64 x.src.base.b, .int .i64 x.src.base.c, .int .i64 x.src.base.d, .int .i64 x.src.len, .int .i64 x.dst.base.k, .int .i64 x.dst.base.a, .int .i64 x.dst.base.b, .int .i64 x.dst.base.c, .int .i64 x.dst.base.d, .int .i64 x.dst.len, .int .i64 x.proto, .int .i64 x.slo, .int .i64 x.shi, .int .i64 x.dlo, .int .i64 x.dhi, .int .i64 x.tenant, .int .i64 x.weight, .int .i64 x.chain] 53)).alloc (.cells #[.int .i64 k.src.k, .int .i64 k.src.a, .int .i64 k.src.b, .int .i64 k.src.c, .int .i64 k.src.d, .int .i64 k.dst.k, .int .i64 k.dst.a, .int .i64 k.dst.b, .int .i64 k.dst.c, .int .i64 k.dst.d, .int .i64 k.proto, .int .i64 k.sport, .int .i64 k.dport] 55)).heap[w.heap.size + 1]? = some (.cells #[.int .i64 k.src.k, .int .i64 k.src.a, .int .i64 k.src.b, .int .i64 k.src.c, .int .i64 k.src.d, .int .i64 k.dst.k, .int .i64 k.dst.a, .int .i64 k.dst.b, .int .i64 k.dst.c, .int .i64 k.dst.d, .int .i64 k.proto, .int .i64 k.sport, .int .i64 k.dport] 55 (0, 0))) := Lib.hid (by repeat (first | exact K.newAt (by first | rfl | (simp; done)) | refine K.oldAt (by first | (simp; done) | (simp; omega)) ?_))
  have H1 := Lib.hid h1
  have H2 := Lib.hid h2
  clear h1 h2
  go_enter Try.func36, Try.ntmps36
  go_wp2_with fail
  refine wp_region_guards (by kernel_rfl) 12 17 [(0, 5), (1, 6), (2, 7), (3, 8), (4, 9), (5, 10), (6, 11), (7, 12), (8, 13), (9, 14), (10, 15), (11, 16)] _ ([.val (.agg #[.int .i64 x.prio, .int .i64 x.src.base.k, .int .i64 x.src.base.a, .int .i64 x.src.base.b, .int .i64 x.src.base.c, .int .i64 x.src.base.d, .int .i64 x.src.len, .int .i64 x.dst.base.k, .int .i64 x.dst.base.a, .int .i64 x.dst.base.b, .int .i64 x.dst.base.c, .int .i64 x.dst.base.d, .int .i64 x.dst.len, .int .i64 x.proto, .int .i64 x.slo, .int .i64 x.shi, .int .i64 x.dlo, .int .i64 x.dhi, .int .i64 x.tenant, .int .i64 x.weight, .int .i64 x.chain]), .bit true, .bit true, .val (.agg #[.int .i64 k.src.k, .int .i64 k.src.a, .int .i64 k.src.b, .int .i64 k.src.c, .int .i64 k.src.d, .int .i64 k.dst.k, .int .i64 k.dst.a, .int .i64 k.dst.b, .int .i64 k.dst.c, .int .i64 k.dst.d, .int .i64 k.proto, .int .i64 k.sport, .int .i64 k.dport]), .bit false, .bit false, .bit false, .skip, .skip, .skip, .skip, .val (.bool false)]) (by kernel_rfl) (by kernel_rfl) (by kernel_rfl) rfl rfl ?_ ?_
  · intro j o hj ho hr a' v K' hx hnd hB hK
    match j, hj, ho, hr with
    | 0, _, ho, _ =>
      obtain rfl := Option.some.inj ho
      have h0 : a'.eval (.tmp 2) = .pointer (some ⟨w.heap.size, 0, none⟩) := (hx 2 (by decide)).trans rfl
      exact r_row _ _ x rfl h0 (K.below hB q0.out) (hK _ _ rfl (Below.refl _ _))
    | 1, _, ho, _ =>
      obtain rfl := Option.some.inj ho
      have h0 : a'.eval (.tmp 5) = .agg #[.int .i64 x.prio, .int .i64 x.src.base.k, .int .i64 x.src.base.a, .int .i64 x.src.base.b, .int .i64 x.src.base.c, .int .i64 x.src.base.d, .int .i64 x.src.len, .int .i64 x.dst.base.k, .int .i64 x.dst.base.a, .int .i64 x.dst.base.b, .int .i64 x.dst.base.c, .int .i64 x.dst.base.d, .int .i64 x.dst.len, .int .i64 x.proto, .int .i64 x.slo, .int .i64 x.shi, .int .i64 x.dlo, .int .i64 x.dhi, .int .i64 x.tenant, .int .i64 x.weight, .int .i64 x.chain] := (gds_of hnd 0 5 (by kernel_rfl) :)
      refine u_okRI _ _ _ rfl h0 (Calls.mono (ruleOkIB x true H1.out _) ?_)
      rintro e' v' ⟨rfl, b6⟩
      exact ⟨_, rfl, hK _ _ rfl b6⟩
    | 2, _, ho, _ =>
      obtain rfl := Option.some.inj ho
      have h0 : a'.eval (.tmp 6) = .bool true := (gds_of hnd 1 6 (by kernel_rfl) :)
      exact r_move _ _ rfl h0 (hK _ _ rfl (Below.refl _ _))
    | 3, _, ho, _ =>
      obtain rfl := Option.some.inj ho
      have h0 : a'.eval (.tmp 3) = .pointer (some ⟨w.heap.size + 1, 0, none⟩) := (hx 3 (by decide)).trans rfl
      exact r_key _ _ k rfl h0 (K.below hB s0.out) (hK _ _ rfl (Below.refl _ _))
    | 4, _, ho, _ =>
      obtain rfl := Option.some.inj ho
      have h0 : a'.eval (.tmp 8) = .agg #[.int .i64 k.src.k, .int .i64 k.src.a, .int .i64 k.src.b, .int .i64 k.src.c, .int .i64 k.src.d, .int .i64 k.dst.k, .int .i64 k.dst.a, .int .i64 k.dst.b, .int .i64 k.dst.c, .int .i64 k.dst.d, .int .i64 k.proto, .int .i64 k.sport, .int .i64 k.dport] := (gds_of hnd 3 8 (by kernel_rfl) :)
      refine u_okKI _ _ _ rfl h0 (Calls.mono (keyOkIB k false H2.out _) ?_)
      rintro e' v' ⟨rfl, b6⟩
      exact ⟨_, rfl, hK _ _ rfl b6⟩
    | 5, _, ho, _ =>
      obtain rfl := Option.some.inj ho
      have h0 : a'.eval (.tmp 7) = .bool true := (gds_of hnd 2 7 (by kernel_rfl) :)
      have h1 : a'.eval (.tmp 9) = .bool false := (gds_of hnd 4 9 (by kernel_rfl) :)
      exact r_pick _ _ _ true _ rfl h0 h1 (hK _ _ rfl (Below.refl _ _))
    | 6, _, ho, _ =>
      obtain rfl := Option.some.inj ho
      have h0 : a'.eval (.tmp 10) = .bool false := (gds_of hnd 5 10 (by kernel_rfl) :)
      exact r_move _ _ rfl h0 (hK _ _ rfl (Below.refl _ _))
    | 7, _, ho, hr =>
      obtain rfl := Option.some.inj ho
      exact Bool.noConfusion (show false = true from hr)
    | 8, _, ho, hr =>
      obtain rfl := Option.some.inj ho
      exact Bool.noConfusion (show false = true from hr)
    | 9, _, ho, hr =>
      obtain rfl := Option.some.inj ho
      exact Bool.noConfusion (show false = true from hr)
    | 10, _, ho, hr =>
      obtain rfl := Option.some.inj ho
      exact Bool.noConfusion (show false = true from hr)
    | 11, _, ho, _ =>
      obtain rfl := Option.some.inj ho
      have h0 : a'.eval (.tmp 11) = .bool false := (gds_of hnd 6 11 (by kernel_rfl) :)
      exact r_pick _ _ _ false _ rfl h0 rfl (hK _ _ rfl (Below.refl _ _))
    | j + 12, hj, _, _ => omega
  · intro f v hf hB
    have e0 : f 0 = (.agg #[.int .i64 x.prio, .int .i64 x.src.base.k, .int .i64 x.src.base.a, .int .i64 x.src.base.b, .int .i64 x.src.base.c, .int .i64 x.src.base.d, .int .i64 x.src.len, .int .i64 x.dst.base.k, .int .i64 x.dst.base.a, .int .i64 x.dst.base.b, .int .i64 x.dst.base.c, .int .i64 x.dst.base.d, .int .i64 x.dst.len, .int .i64 x.proto, .int .i64 x.slo, .int .i64 x.shi, .int .i64 x.dlo, .int .i64 x.dhi, .int .i64 x.tenant, .int .i64 x.weight, .int .i64 x.chain]) := hf (0, 5) (by decide)
    have e1 : f 1 = (.bool true) := hf (1, 6) (by decide)
    have e2 : f 2 = (.bool true) := hf (2, 7) (by decide)
    have e3 : f 3 = (.agg #[.int .i64 k.src.k, .int .i64 k.src.a, .int .i64 k.src.b, .int .i64 k.src.c, .int .i64 k.src.d, .int .i64 k.dst.k, .int .i64 k.dst.a, .int .i64 k.dst.b, .int .i64 k.dst.c, .int .i64 k.dst.d, .int .i64 k.proto, .int .i64 k.sport, .int .i64 k.dport]) := hf (3, 8) (by decide)
    have e4 : f 4 = (.bool false) := hf (4, 9) (by decide)
    have e5 : f 5 = (.bool false) := hf (5, 10) (by decide)
    have e6 : f 6 = (.bool false) := hf (6, 11) (by decide)
    have e7 : f 7 = undef := hf (7, 12) (by decide)
    have e8 : f 8 = undef := hf (8, 13) (by decide)
    have e9 : f 9 = undef := hf (9, 14) (by decide)
    have e10 : f 10 = undef := hf (10, 15) (by decide)
    have e11 : f 11 = (.bool false) := hf (11, 16) (by decide)
    simp only [List.foldl_cons, List.foldl_nil, List.drop_succ_cons, List.drop_zero, e0, e1, e2, e3, e4, e5, e6, e7, e8, e9, e10, e11]
    clear e0 e1 e2 e3 e4 e5 e6 e7 e8 e9 e10 e11 hf
    go_simp
    have B1 := Lib.hid (bthen (Joins.below_alloc2 w _ _) hB)
    clear hB
    go_wp2
    go_ret
    exact ⟨rfl, B1.out⟩

set_option maxHeartbeats 4000000 in
theorem ruleHasI_yes (x : Ru) (k : Ky) (w : World) (h1 : x.ok = true) (h2 : k.ok = true) : Calls Try.prog 36 #[.agg #[.int .i64 x.prio, .int .i64 x.src.base.k, .int .i64 x.src.base.a, .int .i64 x.src.base.b, .int .i64 x.src.base.c, .int .i64 x.src.base.d, .int .i64 x.src.len, .int .i64 x.dst.base.k, .int .i64 x.dst.base.a, .int .i64 x.dst.base.b, .int .i64 x.dst.base.c, .int .i64 x.dst.base.d, .int .i64 x.dst.len, .int .i64 x.proto, .int .i64 x.slo, .int .i64 x.shi, .int .i64 x.dlo, .int .i64 x.dhi, .int .i64 x.tenant, .int .i64 x.weight, .int .i64 x.chain], .agg #[.int .i64 k.src.k, .int .i64 k.src.a, .int .i64 k.src.b, .int .i64 k.src.c, .int .i64 k.src.d, .int .i64 k.dst.k, .int .i64 k.dst.a, .int .i64 k.dst.b, .int .i64 k.dst.c, .int .i64 k.dst.d, .int .i64 k.proto, .int .i64 k.sport, .int .i64 k.dport]] w fun e w' => e = .returned (.bool (x.hits k)) ∧ Below w.heap.size w w' := by
  have q0 : Hid (((w.alloc (.cells #[.int .i64 x.prio, .int .i64 x.src.base.k, .int .i64 x.src.base.a, .int .i64 x.src.base.b, .int .i64 x.src.base.c, .int .i64 x.src.base.d, .int .i64 x.src.len, .int .i64 x.dst.base.k, .int .i64 x.dst.base.a, .int .i64 x.dst.base.b, .int .i64 x.dst.base.c, .int .i64 x.dst.base.d, .int .i64 x.dst.len, .int .i64 x.proto, .int .i64 x.slo, .int .i64 x.shi, .int .i64 x.dlo, .int .i64 x.dhi, .int .i64 x.tenant, .int .i64 x.weight, .int .i64 x.chain] 53)).alloc (.cells #[.int .i64 k.src.k, .int .i64 k.src.a, .int .i64 k.src.b, .int .i64 k.src.c, .int .i64 k.src.d, .int .i64 k.dst.k, .int .i64 k.dst.a, .int .i64 k.dst.b, .int .i64 k.dst.c, .int .i64 k.dst.d, .int .i64 k.proto, .int .i64 k.sport, .int .i64 k.dport] 55)).heap[w.heap.size]? = some (.cells #[.int .i64 x.prio, .int .i64 x.src.base.k, .int .i64 x.src.base.a, .int .i64 x.src.base.b, .int .i64 x.src.base.c, .int .i64 x.src.base.d, .int .i64 x.src.len, .int .i64 x.dst.base.k, .int .i64 x.dst.base.a, .int .i64 x.dst.base.b, .int .i64 x.dst.base.c, .int .i64 x.dst.base.d, .int .i64 x.dst.len, .int .i64 x.proto, .int .i64 x.slo, .int .i64 x.shi, .int .i64 x.dlo, .int .i64 x.dhi, .int .i64 x.tenant, .int .i64 x.weight, .int .i64 x.chain] 53 (0, 0))) := Lib.hid (by repeat (first | exact K.newAt (by first | rfl | (simp; done)) | refine K.oldAt (by first | (simp; done) | (simp; omega)) ?_))
  have s0 : Hid (((w.alloc (.cells #[.int .i64 x.prio, .int .i64 x.src.base.k, .int .i64 x.src.base.a, .int .i64 x.src.base.b, .int .i64 x.src.base.c, .int .i64 x.src.base.d, .int .i64 x.src.len, .int .i64 x.dst.base.k, .int .i64 x.dst.base.a, .int .i64 x.dst.base.b, .int .i64 x.dst.base.c, .int .i64 x.dst.base.d, .int .i64 x.dst.len, .int .i64 x.proto, .int .i64 x.slo, .int .i64 x.shi, .int .i64 x.dlo, .int .i64 x.dhi, .int .i64 x.tenant, .int .i64 x.weight, .int .i64 x.chain] 53)).alloc (.cells #[.int .i64 k.src.k, .int .i64 k.src.a, .int .i64 k.src.b, .int .i64 k.src.c, .int .i64 k.src.d, .int .i64 k.dst.k, .int .i64 k.dst.a, .int .i64 k.dst.b, .int .i64 k.dst.c, .int .i64 k.dst.d, .int .i64 k.proto, .int .i64 k.sport, .int .i64 k.dport] 55)).heap[w.heap.size + 1]? = some (.cells #[.int .i64 k.src.k, .int .i64 k.src.a, .int .i64 k.src.b, .int .i64 k.src.c, .int .i64 k.src.d, .int .i64 k.dst.k, .int .i64 k.dst.a, .int .i64 k.dst.b, .int .i64 k.dst.c, .int .i64 k.dst.d, .int .i64 k.proto, .int .i64 k.sport, .int .i64 k.dport] 55 (0, 0))) := Lib.hid (by repeat (first | exact K.newAt (by first | rfl | (simp; done)) | refine K.oldAt (by first | (simp; done) | (simp; omega)) ?_))
  have H1 := Lib.hid h1
  have H2 := Lib.hid h2
  clear h1 h2
  go_enter Try.func36, Try.ntmps36
  go_wp2_with fail
  refine wp_region_guards (by kernel_rfl) 12 17 [(0, 5), (1, 6), (2, 7), (3, 8), (4, 9), (5, 10), (6, 11), (7, 12), (8, 13), (9, 14), (10, 15), (11, 16)] _ ([.val (.agg #[.int .i64 x.prio, .int .i64 x.src.base.k, .int .i64 x.src.base.a, .int .i64 x.src.base.b, .int .i64 x.src.base.c, .int .i64 x.src.base.d, .int .i64 x.src.len, .int .i64 x.dst.base.k, .int .i64 x.dst.base.a, .int .i64 x.dst.base.b, .int .i64 x.dst.base.c, .int .i64 x.dst.base.d, .int .i64 x.dst.len, .int .i64 x.proto, .int .i64 x.slo, .int .i64 x.shi, .int .i64 x.dlo, .int .i64 x.dhi, .int .i64 x.tenant, .int .i64 x.weight, .int .i64 x.chain]), .bit true, .bit true, .val (.agg #[.int .i64 k.src.k, .int .i64 k.src.a, .int .i64 k.src.b, .int .i64 k.src.c, .int .i64 k.src.d, .int .i64 k.dst.k, .int .i64 k.dst.a, .int .i64 k.dst.b, .int .i64 k.dst.c, .int .i64 k.dst.d, .int .i64 k.proto, .int .i64 k.sport, .int .i64 k.dport]), .bit true, .bit true, .bit true, .val (.agg #[.int .i64 x.prio, .int .i64 x.src.base.k, .int .i64 x.src.base.a, .int .i64 x.src.base.b, .int .i64 x.src.base.c, .int .i64 x.src.base.d, .int .i64 x.src.len, .int .i64 x.dst.base.k, .int .i64 x.dst.base.a, .int .i64 x.dst.base.b, .int .i64 x.dst.base.c, .int .i64 x.dst.base.d, .int .i64 x.dst.len, .int .i64 x.proto, .int .i64 x.slo, .int .i64 x.shi, .int .i64 x.dlo, .int .i64 x.dhi, .int .i64 x.tenant, .int .i64 x.weight, .int .i64 x.chain]), (.pr (fun w v => ∃ g, v = .agg #[.func (.func 141) #[] #[.pointer (some ⟨g, 0, none⟩)], .func (.func 142) #[] #[.pointer (some ⟨g, 0, none⟩)], .func (.func 143) #[] #[.pointer (some ⟨g, 0, none⟩)], .func (.func 144) #[] #[.pointer (some ⟨g, 0, none⟩)], .func (.func 145) #[] #[.pointer (some ⟨g, 0, none⟩)]] ∧ w.heap[g]? = some (.cells #[.int .i64 x.prio, .int .i64 x.src.base.k, .int .i64 x.src.base.a, .int .i64 x.src.base.b, .int .i64 x.src.base.c, .int .i64 x.src.base.d, .int .i64 x.src.len, .int .i64 x.dst.base.k, .int .i64 x.dst.base.a, .int .i64 x.dst.base.b, .int .i64 x.dst.base.c, .int .i64 x.dst.base.d, .int .i64 x.dst.len, .int .i64 x.proto, .int .i64 x.slo, .int .i64 x.shi, .int .i64 x.dlo, .int .i64 x.dhi, .int .i64 x.tenant, .int .i64 x.weight, .int .i64 x.chain] 53 (0, 0))) (fun _ _ _ hb ⟨g, e, h⟩ => ⟨g, e, K.below hb h⟩)), .val (.agg #[.int .i64 k.src.k, .int .i64 k.src.a, .int .i64 k.src.b, .int .i64 k.src.c, .int .i64 k.src.d, .int .i64 k.dst.k, .int .i64 k.dst.a, .int .i64 k.dst.b, .int .i64 k.dst.c, .int .i64 k.dst.d, .int .i64 k.proto, .int .i64 k.sport, .int .i64 k.dport]), .val (.bool (x.hits k)), .val (.bool (x.hits k))]) (by kernel_rfl) (by kernel_rfl) (by kernel_rfl) rfl rfl ?_ ?_
  · intro j o hj ho hr a' v K' hx hnd hB hK
    match j, hj, ho, hr with
    | 0, _, ho, _ =>
      obtain rfl := Option.some.inj ho
      have h0 : a'.eval (.tmp 2) = .pointer (some ⟨w.heap.size, 0, none⟩) := (hx 2 (by decide)).trans rfl
      exact r_row _ _ x rfl h0 (K.below hB q0.out) (hK _ _ rfl (Below.refl _ _))
    | 1, _, ho, _ =>
      obtain rfl := Option.some.inj ho
      have h0 : a'.eval (.tmp 5) = .agg #[.int .i64 x.prio, .int .i64 x.src.base.k, .int .i64 x.src.base.a, .int .i64 x.src.base.b, .int .i64 x.src.base.c, .int .i64 x.src.base.d, .int .i64 x.src.len, .int .i64 x.dst.base.k, .int .i64 x.dst.base.a, .int .i64 x.dst.base.b, .int .i64 x.dst.base.c, .int .i64 x.dst.base.d, .int .i64 x.dst.len, .int .i64 x.proto, .int .i64 x.slo, .int .i64 x.shi, .int .i64 x.dlo, .int .i64 x.dhi, .int .i64 x.tenant, .int .i64 x.weight, .int .i64 x.chain] := (gds_of hnd 0 5 (by kernel_rfl) :)
      refine u_okRI _ _ _ rfl h0 (Calls.mono (ruleOkIB x true H1.out _) ?_)
      rintro e' v' ⟨rfl, b6⟩
      exact ⟨_, rfl, hK _ _ rfl b6⟩
    | 2, _, ho, _ =>
      obtain rfl := Option.some.inj ho
      have h0 : a'.eval (.tmp 6) = .bool true := (gds_of hnd 1 6 (by kernel_rfl) :)
      exact r_move _ _ rfl h0 (hK _ _ rfl (Below.refl _ _))
    | 3, _, ho, _ =>
      obtain rfl := Option.some.inj ho
      have h0 : a'.eval (.tmp 3) = .pointer (some ⟨w.heap.size + 1, 0, none⟩) := (hx 3 (by decide)).trans rfl
      exact r_key _ _ k rfl h0 (K.below hB s0.out) (hK _ _ rfl (Below.refl _ _))
    | 4, _, ho, _ =>
      obtain rfl := Option.some.inj ho
      have h0 : a'.eval (.tmp 8) = .agg #[.int .i64 k.src.k, .int .i64 k.src.a, .int .i64 k.src.b, .int .i64 k.src.c, .int .i64 k.src.d, .int .i64 k.dst.k, .int .i64 k.dst.a, .int .i64 k.dst.b, .int .i64 k.dst.c, .int .i64 k.dst.d, .int .i64 k.proto, .int .i64 k.sport, .int .i64 k.dport] := (gds_of hnd 3 8 (by kernel_rfl) :)
      refine u_okKI _ _ _ rfl h0 (Calls.mono (keyOkIB k true H2.out _) ?_)
      rintro e' v' ⟨rfl, b6⟩
      exact ⟨_, rfl, hK _ _ rfl b6⟩
    | 5, _, ho, _ =>
      obtain rfl := Option.some.inj ho
      have h0 : a'.eval (.tmp 7) = .bool true := (gds_of hnd 2 7 (by kernel_rfl) :)
      have h1 : a'.eval (.tmp 9) = .bool true := (gds_of hnd 4 9 (by kernel_rfl) :)
      exact r_pick _ _ _ true _ rfl h0 h1 (hK _ _ rfl (Below.refl _ _))
    | 6, _, ho, _ =>
      obtain rfl := Option.some.inj ho
      have h0 : a'.eval (.tmp 10) = .bool true := (gds_of hnd 5 10 (by kernel_rfl) :)
      exact r_move _ _ rfl h0 (hK _ _ rfl (Below.refl _ _))
    | 7, _, ho, _ =>
      obtain rfl := Option.some.inj ho
      have h0 : a'.eval (.tmp 2) = .pointer (some ⟨w.heap.size, 0, none⟩) := (hx 2 (by decide)).trans rfl
      exact r_row _ _ x rfl h0 (K.below hB q0.out) (hK _ _ rfl (Below.refl _ _))
    | 8, _, ho, _ =>
      obtain rfl := Option.some.inj ho
      have h0 : a'.eval (.tmp 12) = .agg #[.int .i64 x.prio, .int .i64 x.src.base.k, .int .i64 x.src.base.a, .int .i64 x.src.base.b, .int .i64 x.src.base.c, .int .i64 x.src.base.d, .int .i64 x.src.len, .int .i64 x.dst.base.k, .int .i64 x.dst.base.a, .int .i64 x.dst.base.b, .int .i64 x.dst.base.c, .int .i64 x.dst.base.d, .int .i64 x.dst.len, .int .i64 x.proto, .int .i64 x.slo, .int .i64 x.shi, .int .i64 x.dlo, .int .i64 x.dhi, .int .i64 x.tenant, .int .i64 x.weight, .int .i64 x.chain] := (gds_of hnd 7 12 (by kernel_rfl) :)
      refine u_compI _ _ _ rfl h0 (Calls.mono (compiledC x _) ?_)
      rintro e' v' ⟨g, rfl, hg, b6⟩
      exact ⟨_, rfl, hK _ _ ⟨g, rfl, hg⟩ b6⟩
    | 9, _, ho, _ =>
      obtain rfl := Option.some.inj ho
      have h0 : a'.eval (.tmp 3) = .pointer (some ⟨w.heap.size + 1, 0, none⟩) := (hx 3 (by decide)).trans rfl
      exact r_key _ _ k rfl h0 (K.below hB s0.out) (hK _ _ rfl (Below.refl _ _))
    | 10, _, ho, _ =>
      obtain rfl := Option.some.inj ho
      obtain ⟨g, h0, hg⟩ := (gds_of hnd 8 13 (by kernel_rfl) :)
      have h1 : a'.eval (.tmp 14) = .agg #[.int .i64 k.src.k, .int .i64 k.src.a, .int .i64 k.src.b, .int .i64 k.src.c, .int .i64 k.src.d, .int .i64 k.dst.k, .int .i64 k.dst.a, .int .i64 k.dst.b, .int .i64 k.dst.c, .int .i64 k.dst.d, .int .i64 k.proto, .int .i64 k.sport, .int .i64 k.dport] := (gds_of hnd 9 14 (by kernel_rfl) :)
      refine u_matchI _ _ _ _ _ rfl h0 h1 (Calls.mono (matchC x k g _ hg) ?_)
      rintro e' v' ⟨rfl, b6⟩
      exact ⟨_, rfl, hK _ _ rfl b6⟩
    | 11, _, ho, _ =>
      obtain rfl := Option.some.inj ho
      have h0 : a'.eval (.tmp 11) = .bool true := (gds_of hnd 6 11 (by kernel_rfl) :)
      have h1 : a'.eval (.tmp 15) = .bool (x.hits k) := (gds_of hnd 10 15 (by kernel_rfl) :)
      exact r_pick _ _ _ true _ rfl h0 h1 (hK _ _ rfl (Below.refl _ _))
    | j + 12, hj, _, _ => omega
  · intro f v hf hB
    have e0 : f 0 = (.agg #[.int .i64 x.prio, .int .i64 x.src.base.k, .int .i64 x.src.base.a, .int .i64 x.src.base.b, .int .i64 x.src.base.c, .int .i64 x.src.base.d, .int .i64 x.src.len, .int .i64 x.dst.base.k, .int .i64 x.dst.base.a, .int .i64 x.dst.base.b, .int .i64 x.dst.base.c, .int .i64 x.dst.base.d, .int .i64 x.dst.len, .int .i64 x.proto, .int .i64 x.slo, .int .i64 x.shi, .int .i64 x.dlo, .int .i64 x.dhi, .int .i64 x.tenant, .int .i64 x.weight, .int .i64 x.chain]) := hf (0, 5) (by decide)
    have e1 : f 1 = (.bool true) := hf (1, 6) (by decide)
    have e2 : f 2 = (.bool true) := hf (2, 7) (by decide)
    have e3 : f 3 = (.agg #[.int .i64 k.src.k, .int .i64 k.src.a, .int .i64 k.src.b, .int .i64 k.src.c, .int .i64 k.src.d, .int .i64 k.dst.k, .int .i64 k.dst.a, .int .i64 k.dst.b, .int .i64 k.dst.c, .int .i64 k.dst.d, .int .i64 k.proto, .int .i64 k.sport, .int .i64 k.dport]) := hf (3, 8) (by decide)
    have e4 : f 4 = (.bool true) := hf (4, 9) (by decide)
    have e5 : f 5 = (.bool true) := hf (5, 10) (by decide)
    have e6 : f 6 = (.bool true) := hf (6, 11) (by decide)
    have e7 : f 7 = (.agg #[.int .i64 x.prio, .int .i64 x.src.base.k, .int .i64 x.src.base.a, .int .i64 x.src.base.b, .int .i64 x.src.base.c, .int .i64 x.src.base.d, .int .i64 x.src.len, .int .i64 x.dst.base.k, .int .i64 x.dst.base.a, .int .i64 x.dst.base.b, .int .i64 x.dst.base.c, .int .i64 x.dst.base.d, .int .i64 x.dst.len, .int .i64 x.proto, .int .i64 x.slo, .int .i64 x.shi, .int .i64 x.dlo, .int .i64 x.dhi, .int .i64 x.tenant, .int .i64 x.weight, .int .i64 x.chain]) := hf (7, 12) (by decide)
    have e9 : f 9 = (.agg #[.int .i64 k.src.k, .int .i64 k.src.a, .int .i64 k.src.b, .int .i64 k.src.c, .int .i64 k.src.d, .int .i64 k.dst.k, .int .i64 k.dst.a, .int .i64 k.dst.b, .int .i64 k.dst.c, .int .i64 k.dst.d, .int .i64 k.proto, .int .i64 k.sport, .int .i64 k.dport]) := hf (9, 14) (by decide)
    have e10 : f 10 = (.bool (x.hits k)) := hf (10, 15) (by decide)
    have e11 : f 11 = (.bool (x.hits k)) := hf (11, 16) (by decide)
    simp only [List.foldl_cons, List.foldl_nil, List.drop_succ_cons, List.drop_zero, e0, e1, e2, e3, e4, e5, e6, e7, e9, e10, e11]
    clear e0 e1 e2 e3 e4 e5 e6 e7 e9 e10 e11 hf
    go_simp
    have B1 := Lib.hid (bthen (Joins.below_alloc2 w _ _) hB)
    clear hB
    go_wp2
    go_ret
    exact ⟨rfl, B1.out⟩

theorem ruleHasI (x : Ru) (k : Ky) (w : World) : Calls Try.prog 36 #[.agg #[.int .i64 x.prio, .int .i64 x.src.base.k, .int .i64 x.src.base.a, .int .i64 x.src.base.b, .int .i64 x.src.base.c, .int .i64 x.src.base.d, .int .i64 x.src.len, .int .i64 x.dst.base.k, .int .i64 x.dst.base.a, .int .i64 x.dst.base.b, .int .i64 x.dst.base.c, .int .i64 x.dst.base.d, .int .i64 x.dst.len, .int .i64 x.proto, .int .i64 x.slo, .int .i64 x.shi, .int .i64 x.dlo, .int .i64 x.dhi, .int .i64 x.tenant, .int .i64 x.weight, .int .i64 x.chain], .agg #[.int .i64 k.src.k, .int .i64 k.src.a, .int .i64 k.src.b, .int .i64 k.src.c, .int .i64 k.src.d, .int .i64 k.dst.k, .int .i64 k.dst.a, .int .i64 k.dst.b, .int .i64 k.dst.c, .int .i64 k.dst.d, .int .i64 k.proto, .int .i64 k.sport, .int .i64 k.dport]] w fun e w' => e = .returned (.bool (x.has k)) ∧ Below w.heap.size w w' := by
  cases h1 : x.ok with
  | false =>
    rw [show x.has k = false by simp [Ru.has, h1]]
    exact ruleHasI_no x k w h1
  | true =>
    cases h2 : k.ok with
    | false =>
      rw [show x.has k = false by simp [Ru.has, h2]]
      exact ruleHasI_key x k w h1 h2
    | true =>
      rw [show x.has k = x.hits k by simp [Ru.has, h1, h2]]
      exact ruleHasI_yes x k w h1 h2
theorem ruleHasIB (x : Ru) (k : Ky) (b : Bool) (h : x.has k = b) (w : World) : Calls Try.prog 36 #[.agg #[.int .i64 x.prio, .int .i64 x.src.base.k, .int .i64 x.src.base.a, .int .i64 x.src.base.b, .int .i64 x.src.base.c, .int .i64 x.src.base.d, .int .i64 x.src.len, .int .i64 x.dst.base.k, .int .i64 x.dst.base.a, .int .i64 x.dst.base.b, .int .i64 x.dst.base.c, .int .i64 x.dst.base.d, .int .i64 x.dst.len, .int .i64 x.proto, .int .i64 x.slo, .int .i64 x.shi, .int .i64 x.dlo, .int .i64 x.dhi, .int .i64 x.tenant, .int .i64 x.weight, .int .i64 x.chain], .agg #[.int .i64 k.src.k, .int .i64 k.src.a, .int .i64 k.src.b, .int .i64 k.src.c, .int .i64 k.src.d, .int .i64 k.dst.k, .int .i64 k.dst.a, .int .i64 k.dst.b, .int .i64 k.dst.c, .int .i64 k.dst.d, .int .i64 k.proto, .int .i64 k.sport, .int .i64 k.dport]] w fun e w' => e = .returned (.bool b) ∧ Below w.heap.size w w' := h ▸ ruleHasI x k w
end Go.Proofs.Ytdndanbalmoklaa
