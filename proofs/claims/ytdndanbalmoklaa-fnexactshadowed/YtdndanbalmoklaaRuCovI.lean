/-
  RuleCovers in the program.
-/
import Derived.Test.YtdndanbalmoklaaRuleOkI
import Derived.Test.YtdndanbalmoklaaPfxIn
namespace Go.Proofs.Ytdndanbalmoklaa
set_option maxRecDepth 100000
open Go.RowKit


theorem innIB (p q : Pf) (b : Bool) (h : p.inn q = b) (w : World) : Calls Try.prog 147 #[.agg #[.int .i64 p.base.k, .int .i64 p.base.a, .int .i64 p.base.b, .int .i64 p.base.c, .int .i64 p.base.d, .int .i64 p.len], .agg #[.int .i64 q.base.k, .int .i64 q.base.a, .int .i64 q.base.b, .int .i64 q.base.c, .int .i64 q.base.d, .int .i64 q.len]] w fun e w' => e = .returned (.bool b) ∧ Below w.heap.size w w' := h ▸ implPrefixIn p q w

theorem covEnd {x y : Ru} (h0 : x.ok = true) (h1 : y.ok = true) (h2 : y.src.inn x.src = true) (h3 : y.dst.inn x.dst = true) : x.covers y = ((x.proto == -1 || x.proto == y.proto) && (decide (x.slo ≤ y.slo) && (decide (y.shi ≤ x.shi) && (decide (x.dlo ≤ y.dlo) && decide (y.dhi ≤ x.dhi))))) := by
  simp [Ru.covers, h0, h1, h2, h3, Bool.and_assoc]

set_option maxHeartbeats 4000000 in
theorem ruleCovI_0 (x y : Ru) (w : World) (h0 : x.ok = false) : Calls Try.prog 102 #[.agg #[.int .i64 x.prio, .int .i64 x.src.base.k, .int .i64 x.src.base.a, .int .i64 x.src.base.b, .int .i64 x.src.base.c, .int .i64 x.src.base.d, .int .i64 x.src.len, .int .i64 x.dst.base.k, .int .i64 x.dst.base.a, .int .i64 x.dst.base.b, .int .i64 x.dst.base.c, .int .i64 x.dst.base.d, .int .i64 x.dst.len, .int .i64 x.proto, .int .i64 x.slo, .int .i64 x.shi, .int .i64 x.dlo, .int .i64 x.dhi, .int .i64 x.tenant, .int .i64 x.weight, .int .i64 x.chain], .agg #[.int .i64 y.prio, .int .i64 y.src.base.k, .int .i64 y.src.base.a, .int .i64 y.src.base.b, .int .i64 y.src.base.c, .int .i64 y.src.base.d, .int .i64 y.src.len, .int .i64 y.dst.base.k, .int .i64 y.dst.base.a, .int .i64 y.dst.base.b, .int .i64 y.dst.base.c, .int .i64 y.dst.base.d, .int .i64 y.dst.len, .int .i64 y.proto, .int .i64 y.slo, .int .i64 y.shi, .int .i64 y.dlo, .int .i64 y.dhi, .int .i64 y.tenant, .int .i64 y.weight, .int .i64 y.chain]] w fun e w' => e = .returned (.bool false) ∧ Below w.heap.size w w' := by
  have q0 : Hid (((w.alloc (.cells #[.int .i64 x.prio, .int .i64 x.src.base.k, .int .i64 x.src.base.a, .int .i64 x.src.base.b, .int .i64 x.src.base.c, .int .i64 x.src.base.d, .int .i64 x.src.len, .int .i64 x.dst.base.k, .int .i64 x.dst.base.a, .int .i64 x.dst.base.b, .int .i64 x.dst.base.c, .int .i64 x.dst.base.d, .int .i64 x.dst.len, .int .i64 x.proto, .int .i64 x.slo, .int .i64 x.shi, .int .i64 x.dlo, .int .i64 x.dhi, .int .i64 x.tenant, .int .i64 x.weight, .int .i64 x.chain] 53)).alloc (.cells #[.int .i64 y.prio, .int .i64 y.src.base.k, .int .i64 y.src.base.a, .int .i64 y.src.base.b, .int .i64 y.src.base.c, .int .i64 y.src.base.d, .int .i64 y.src.len, .int .i64 y.dst.base.k, .int .i64 y.dst.base.a, .int .i64 y.dst.base.b, .int .i64 y.dst.base.c, .int .i64 y.dst.base.d, .int .i64 y.dst.len, .int .i64 y.proto, .int .i64 y.slo, .int .i64 y.shi, .int .i64 y.dlo, .int .i64 y.dhi, .int .i64 y.tenant, .int .i64 y.weight, .int .i64 y.chain] 53)).heap[w.heap.size]? = some (.cells #[.int .i64 x.prio, .int .i64 x.src.base.k, .int .i64 x.src.base.a, .int .i64 x.src.base.b, .int .i64 x.src.base.c, .int .i64 x.src.base.d, .int .i64 x.src.len, .int .i64 x.dst.base.k, .int .i64 x.dst.base.a, .int .i64 x.dst.base.b, .int .i64 x.dst.base.c, .int .i64 x.dst.base.d, .int .i64 x.dst.len, .int .i64 x.proto, .int .i64 x.slo, .int .i64 x.shi, .int .i64 x.dlo, .int .i64 x.dhi, .int .i64 x.tenant, .int .i64 x.weight, .int .i64 x.chain] 53 (0, 0))) := Lib.hid (by repeat (first | exact K.newAt (by first | rfl | (simp; done)) | refine K.oldAt (by first | (simp; done) | (simp; omega)) ?_))
  have s0 : Hid (((w.alloc (.cells #[.int .i64 x.prio, .int .i64 x.src.base.k, .int .i64 x.src.base.a, .int .i64 x.src.base.b, .int .i64 x.src.base.c, .int .i64 x.src.base.d, .int .i64 x.src.len, .int .i64 x.dst.base.k, .int .i64 x.dst.base.a, .int .i64 x.dst.base.b, .int .i64 x.dst.base.c, .int .i64 x.dst.base.d, .int .i64 x.dst.len, .int .i64 x.proto, .int .i64 x.slo, .int .i64 x.shi, .int .i64 x.dlo, .int .i64 x.dhi, .int .i64 x.tenant, .int .i64 x.weight, .int .i64 x.chain] 53)).alloc (.cells #[.int .i64 y.prio, .int .i64 y.src.base.k, .int .i64 y.src.base.a, .int .i64 y.src.base.b, .int .i64 y.src.base.c, .int .i64 y.src.base.d, .int .i64 y.src.len, .int .i64 y.dst.base.k, .int .i64 y.dst.base.a, .int .i64 y.dst.base.b, .int .i64 y.dst.base.c, .int .i64 y.dst.base.d, .int .i64 y.dst.len, .int .i64 y.proto, .int .i64 y.slo, .int .i64 y.shi, .int .i64 y.dlo, .int .i64 y.dhi, .int .i64 y.tenant, .int .i64 y.weight, .int .i64 y.chain] 53)).heap[w.heap.size + 1]? = some (.cells #[.int .i64 y.prio, .int .i64 y.src.base.k, .int .i64 y.src.base.a, .int .i64 y.src.base.b, .int .i64 y.src.base.c, .int .i64 y.src.base.d, .int .i64 y.src.len, .int .i64 y.dst.base.k, .int .i64 y.dst.base.a, .int .i64 y.dst.base.b, .int .i64 y.dst.base.c, .int .i64 y.dst.base.d, .int .i64 y.dst.len, .int .i64 y.proto, .int .i64 y.slo, .int .i64 y.shi, .int .i64 y.dlo, .int .i64 y.dhi, .int .i64 y.tenant, .int .i64 y.weight, .int .i64 y.chain] 53 (0, 0))) := Lib.hid (by repeat (first | exact K.newAt (by first | rfl | (simp; done)) | refine K.oldAt (by first | (simp; done) | (simp; omega)) ?_))
  have H0 := Lib.hid h0
  clear h0
  go_enter Try.func102, Try.ntmps102
  go_wp2_with (with_reducible refine loadR rfl _ rfl w.heap.size rfl q0.out ?_)
  refine Calls.mono (ruleOkIB x false H0.out _) ?_
  rintro e w1 ⟨rfl, b1⟩
  have B1 := Lib.hid (bthen (Joins.below_alloc2 w _ _) b1)
  clear b1 
  go_wp2
  go_ret
  exact ⟨rfl, B1.out⟩

set_option maxHeartbeats 4000000 in
theorem ruleCovI_1 (x y : Ru) (w : World) (h0 : x.ok = true) (h1 : y.ok = false) : Calls Try.prog 102 #[.agg #[.int .i64 x.prio, .int .i64 x.src.base.k, .int .i64 x.src.base.a, .int .i64 x.src.base.b, .int .i64 x.src.base.c, .int .i64 x.src.base.d, .int .i64 x.src.len, .int .i64 x.dst.base.k, .int .i64 x.dst.base.a, .int .i64 x.dst.base.b, .int .i64 x.dst.base.c, .int .i64 x.dst.base.d, .int .i64 x.dst.len, .int .i64 x.proto, .int .i64 x.slo, .int .i64 x.shi, .int .i64 x.dlo, .int .i64 x.dhi, .int .i64 x.tenant, .int .i64 x.weight, .int .i64 x.chain], .agg #[.int .i64 y.prio, .int .i64 y.src.base.k, .int .i64 y.src.base.a, .int .i64 y.src.base.b, .int .i64 y.src.base.c, .int .i64 y.src.base.d, .int .i64 y.src.len, .int .i64 y.dst.base.k, .int .i64 y.dst.base.a, .int .i64 y.dst.base.b, .int .i64 y.dst.base.c, .int .i64 y.dst.base.d, .int .i64 y.dst.len, .int .i64 y.proto, .int .i64 y.slo, .int .i64 y.shi, .int .i64 y.dlo, .int .i64 y.dhi, .int .i64 y.tenant, .int .i64 y.weight, .int .i64 y.chain]] w fun e w' => e = .returned (.bool false) ∧ Below w.heap.size w w' := by
  have q0 : Hid (((w.alloc (.cells #[.int .i64 x.prio, .int .i64 x.src.base.k, .int .i64 x.src.base.a, .int .i64 x.src.base.b, .int .i64 x.src.base.c, .int .i64 x.src.base.d, .int .i64 x.src.len, .int .i64 x.dst.base.k, .int .i64 x.dst.base.a, .int .i64 x.dst.base.b, .int .i64 x.dst.base.c, .int .i64 x.dst.base.d, .int .i64 x.dst.len, .int .i64 x.proto, .int .i64 x.slo, .int .i64 x.shi, .int .i64 x.dlo, .int .i64 x.dhi, .int .i64 x.tenant, .int .i64 x.weight, .int .i64 x.chain] 53)).alloc (.cells #[.int .i64 y.prio, .int .i64 y.src.base.k, .int .i64 y.src.base.a, .int .i64 y.src.base.b, .int .i64 y.src.base.c, .int .i64 y.src.base.d, .int .i64 y.src.len, .int .i64 y.dst.base.k, .int .i64 y.dst.base.a, .int .i64 y.dst.base.b, .int .i64 y.dst.base.c, .int .i64 y.dst.base.d, .int .i64 y.dst.len, .int .i64 y.proto, .int .i64 y.slo, .int .i64 y.shi, .int .i64 y.dlo, .int .i64 y.dhi, .int .i64 y.tenant, .int .i64 y.weight, .int .i64 y.chain] 53)).heap[w.heap.size]? = some (.cells #[.int .i64 x.prio, .int .i64 x.src.base.k, .int .i64 x.src.base.a, .int .i64 x.src.base.b, .int .i64 x.src.base.c, .int .i64 x.src.base.d, .int .i64 x.src.len, .int .i64 x.dst.base.k, .int .i64 x.dst.base.a, .int .i64 x.dst.base.b, .int .i64 x.dst.base.c, .int .i64 x.dst.base.d, .int .i64 x.dst.len, .int .i64 x.proto, .int .i64 x.slo, .int .i64 x.shi, .int .i64 x.dlo, .int .i64 x.dhi, .int .i64 x.tenant, .int .i64 x.weight, .int .i64 x.chain] 53 (0, 0))) := Lib.hid (by repeat (first | exact K.newAt (by first | rfl | (simp; done)) | refine K.oldAt (by first | (simp; done) | (simp; omega)) ?_))
  have s0 : Hid (((w.alloc (.cells #[.int .i64 x.prio, .int .i64 x.src.base.k, .int .i64 x.src.base.a, .int .i64 x.src.base.b, .int .i64 x.src.base.c, .int .i64 x.src.base.d, .int .i64 x.src.len, .int .i64 x.dst.base.k, .int .i64 x.dst.base.a, .int .i64 x.dst.base.b, .int .i64 x.dst.base.c, .int .i64 x.dst.base.d, .int .i64 x.dst.len, .int .i64 x.proto, .int .i64 x.slo, .int .i64 x.shi, .int .i64 x.dlo, .int .i64 x.dhi, .int .i64 x.tenant, .int .i64 x.weight, .int .i64 x.chain] 53)).alloc (.cells #[.int .i64 y.prio, .int .i64 y.src.base.k, .int .i64 y.src.base.a, .int .i64 y.src.base.b, .int .i64 y.src.base.c, .int .i64 y.src.base.d, .int .i64 y.src.len, .int .i64 y.dst.base.k, .int .i64 y.dst.base.a, .int .i64 y.dst.base.b, .int .i64 y.dst.base.c, .int .i64 y.dst.base.d, .int .i64 y.dst.len, .int .i64 y.proto, .int .i64 y.slo, .int .i64 y.shi, .int .i64 y.dlo, .int .i64 y.dhi, .int .i64 y.tenant, .int .i64 y.weight, .int .i64 y.chain] 53)).heap[w.heap.size + 1]? = some (.cells #[.int .i64 y.prio, .int .i64 y.src.base.k, .int .i64 y.src.base.a, .int .i64 y.src.base.b, .int .i64 y.src.base.c, .int .i64 y.src.base.d, .int .i64 y.src.len, .int .i64 y.dst.base.k, .int .i64 y.dst.base.a, .int .i64 y.dst.base.b, .int .i64 y.dst.base.c, .int .i64 y.dst.base.d, .int .i64 y.dst.len, .int .i64 y.proto, .int .i64 y.slo, .int .i64 y.shi, .int .i64 y.dlo, .int .i64 y.dhi, .int .i64 y.tenant, .int .i64 y.weight, .int .i64 y.chain] 53 (0, 0))) := Lib.hid (by repeat (first | exact K.newAt (by first | rfl | (simp; done)) | refine K.oldAt (by first | (simp; done) | (simp; omega)) ?_))
  have H0 := Lib.hid h0
  have H1 := Lib.hid h1
  clear h0 h1
  go_enter Try.func102, Try.ntmps102
  go_wp2_with (with_reducible refine loadR rfl _ rfl w.heap.size rfl q0.out ?_)
  refine Calls.mono (ruleOkIB x true H0.out _) ?_
  rintro e w1 ⟨rfl, b1⟩
  have B1 := Lib.hid (bthen (Joins.below_alloc2 w _ _) b1)
  have q1 := Lib.hid (K.below b1 q0.out)
  have s1 := Lib.hid (K.below b1 s0.out)
  clear b1 
  go_wp2_with (refine loadRGd _ rfl (w.heap.size + 1) rfl (by rfl) s1.out ?_)
  refine Calls.mono (ruleOkIB y false H1.out _) ?_
  rintro e w2 ⟨rfl, b2⟩
  have B2 := Lib.hid (bthen B1.out b2)
  clear b2 
  go_wp2
  go_ret
  exact ⟨rfl, B2.out⟩

set_option maxHeartbeats 4000000 in
theorem ruleCovI_2 (x y : Ru) (w : World) (h0 : x.ok = true) (h1 : y.ok = true) (h2 : y.src.inn x.src = false) : Calls Try.prog 102 #[.agg #[.int .i64 x.prio, .int .i64 x.src.base.k, .int .i64 x.src.base.a, .int .i64 x.src.base.b, .int .i64 x.src.base.c, .int .i64 x.src.base.d, .int .i64 x.src.len, .int .i64 x.dst.base.k, .int .i64 x.dst.base.a, .int .i64 x.dst.base.b, .int .i64 x.dst.base.c, .int .i64 x.dst.base.d, .int .i64 x.dst.len, .int .i64 x.proto, .int .i64 x.slo, .int .i64 x.shi, .int .i64 x.dlo, .int .i64 x.dhi, .int .i64 x.tenant, .int .i64 x.weight, .int .i64 x.chain], .agg #[.int .i64 y.prio, .int .i64 y.src.base.k, .int .i64 y.src.base.a, .int .i64 y.src.base.b, .int .i64 y.src.base.c, .int .i64 y.src.base.d, .int .i64 y.src.len, .int .i64 y.dst.base.k, .int .i64 y.dst.base.a, .int .i64 y.dst.base.b, .int .i64 y.dst.base.c, .int .i64 y.dst.base.d, .int .i64 y.dst.len, .int .i64 y.proto, .int .i64 y.slo, .int .i64 y.shi, .int .i64 y.dlo, .int .i64 y.dhi, .int .i64 y.tenant, .int .i64 y.weight, .int .i64 y.chain]] w fun e w' => e = .returned (.bool false) ∧ Below w.heap.size w w' := by
  have q0 : Hid (((w.alloc (.cells #[.int .i64 x.prio, .int .i64 x.src.base.k, .int .i64 x.src.base.a, .int .i64 x.src.base.b, .int .i64 x.src.base.c, .int .i64 x.src.base.d, .int .i64 x.src.len, .int .i64 x.dst.base.k, .int .i64 x.dst.base.a, .int .i64 x.dst.base.b, .int .i64 x.dst.base.c, .int .i64 x.dst.base.d, .int .i64 x.dst.len, .int .i64 x.proto, .int .i64 x.slo, .int .i64 x.shi, .int .i64 x.dlo, .int .i64 x.dhi, .int .i64 x.tenant, .int .i64 x.weight, .int .i64 x.chain] 53)).alloc (.cells #[.int .i64 y.prio, .int .i64 y.src.base.k, .int .i64 y.src.base.a, .int .i64 y.src.base.b, .int .i64 y.src.base.c, .int .i64 y.src.base.d, .int .i64 y.src.len, .int .i64 y.dst.base.k, .int .i64 y.dst.base.a, .int .i64 y.dst.base.b, .int .i64 y.dst.base.c, .int .i64 y.dst.base.d, .int .i64 y.dst.len, .int .i64 y.proto, .int .i64 y.slo, .int .i64 y.shi, .int .i64 y.dlo, .int .i64 y.dhi, .int .i64 y.tenant, .int .i64 y.weight, .int .i64 y.chain] 53)).heap[w.heap.size]? = some (.cells #[.int .i64 x.prio, .int .i64 x.src.base.k, .int .i64 x.src.base.a, .int .i64 x.src.base.b, .int .i64 x.src.base.c, .int .i64 x.src.base.d, .int .i64 x.src.len, .int .i64 x.dst.base.k, .int .i64 x.dst.base.a, .int .i64 x.dst.base.b, .int .i64 x.dst.base.c, .int .i64 x.dst.base.d, .int .i64 x.dst.len, .int .i64 x.proto, .int .i64 x.slo, .int .i64 x.shi, .int .i64 x.dlo, .int .i64 x.dhi, .int .i64 x.tenant, .int .i64 x.weight, .int .i64 x.chain] 53 (0, 0))) := Lib.hid (by repeat (first | exact K.newAt (by first | rfl | (simp; done)) | refine K.oldAt (by first | (simp; done) | (simp; omega)) ?_))
  have s0 : Hid (((w.alloc (.cells #[.int .i64 x.prio, .int .i64 x.src.base.k, .int .i64 x.src.base.a, .int .i64 x.src.base.b, .int .i64 x.src.base.c, .int .i64 x.src.base.d, .int .i64 x.src.len, .int .i64 x.dst.base.k, .int .i64 x.dst.base.a, .int .i64 x.dst.base.b, .int .i64 x.dst.base.c, .int .i64 x.dst.base.d, .int .i64 x.dst.len, .int .i64 x.proto, .int .i64 x.slo, .int .i64 x.shi, .int .i64 x.dlo, .int .i64 x.dhi, .int .i64 x.tenant, .int .i64 x.weight, .int .i64 x.chain] 53)).alloc (.cells #[.int .i64 y.prio, .int .i64 y.src.base.k, .int .i64 y.src.base.a, .int .i64 y.src.base.b, .int .i64 y.src.base.c, .int .i64 y.src.base.d, .int .i64 y.src.len, .int .i64 y.dst.base.k, .int .i64 y.dst.base.a, .int .i64 y.dst.base.b, .int .i64 y.dst.base.c, .int .i64 y.dst.base.d, .int .i64 y.dst.len, .int .i64 y.proto, .int .i64 y.slo, .int .i64 y.shi, .int .i64 y.dlo, .int .i64 y.dhi, .int .i64 y.tenant, .int .i64 y.weight, .int .i64 y.chain] 53)).heap[w.heap.size + 1]? = some (.cells #[.int .i64 y.prio, .int .i64 y.src.base.k, .int .i64 y.src.base.a, .int .i64 y.src.base.b, .int .i64 y.src.base.c, .int .i64 y.src.base.d, .int .i64 y.src.len, .int .i64 y.dst.base.k, .int .i64 y.dst.base.a, .int .i64 y.dst.base.b, .int .i64 y.dst.base.c, .int .i64 y.dst.base.d, .int .i64 y.dst.len, .int .i64 y.proto, .int .i64 y.slo, .int .i64 y.shi, .int .i64 y.dlo, .int .i64 y.dhi, .int .i64 y.tenant, .int .i64 y.weight, .int .i64 y.chain] 53 (0, 0))) := Lib.hid (by repeat (first | exact K.newAt (by first | rfl | (simp; done)) | refine K.oldAt (by first | (simp; done) | (simp; omega)) ?_))
  have H0 := Lib.hid h0
  have H1 := Lib.hid h1
  have H2 := Lib.hid h2
  clear h0 h1 h2
  go_enter Try.func102, Try.ntmps102
  go_wp2_with (with_reducible refine loadR rfl _ rfl w.heap.size rfl q0.out ?_)
  refine Calls.mono (ruleOkIB x true H0.out _) ?_
  rintro e w1 ⟨rfl, b1⟩
  have B1 := Lib.hid (bthen (Joins.below_alloc2 w _ _) b1)
  have q1 := Lib.hid (K.below b1 q0.out)
  have s1 := Lib.hid (K.below b1 s0.out)
  clear b1 
  go_wp2_with (refine loadRGd _ rfl (w.heap.size + 1) rfl (by rfl) s1.out ?_)
  refine Calls.mono (ruleOkIB y true H1.out _) ?_
  rintro e w2 ⟨rfl, b2⟩
  have B2 := Lib.hid (bthen B1.out b2)
  have q2 := Lib.hid (K.below b2 q1.out)
  have s2 := Lib.hid (K.below b2 s1.out)
  have cq1 := K.cell q2.out 1 _ rfl
  have cq2 := K.cell q2.out 2 _ rfl
  have cq3 := K.cell q2.out 3 _ rfl
  have cq4 := K.cell q2.out 4 _ rfl
  have cq5 := K.cell q2.out 5 _ rfl
  have cq6 := K.cell q2.out 6 _ rfl
  have cs1 := K.cell s2.out 1 _ rfl
  have cs2 := K.cell s2.out 2 _ rfl
  have cs3 := K.cell s2.out 3 _ rfl
  have cs4 := K.cell s2.out 4 _ rfl
  have cs5 := K.cell s2.out 5 _ rfl
  have cs6 := K.cell s2.out 6 _ rfl
  clear b2 
  go_wp2_with fail
  refine Calls.mono (innIB y.src x.src false H2.out _) ?_
  rintro e w3 ⟨rfl, b3⟩
  have B3 := Lib.hid (bthen B2.out b3)
  clear b3 cq1 cq2 cq3 cq4 cq5 cq6 cs1 cs2 cs3 cs4 cs5 cs6
  go_wp2
  go_ret
  exact ⟨rfl, B3.out⟩

set_option maxHeartbeats 4000000 in
theorem ruleCovI_3 (x y : Ru) (w : World) (h0 : x.ok = true) (h1 : y.ok = true) (h2 : y.src.inn x.src = true) (h3 : y.dst.inn x.dst = false) : Calls Try.prog 102 #[.agg #[.int .i64 x.prio, .int .i64 x.src.base.k, .int .i64 x.src.base.a, .int .i64 x.src.base.b, .int .i64 x.src.base.c, .int .i64 x.src.base.d, .int .i64 x.src.len, .int .i64 x.dst.base.k, .int .i64 x.dst.base.a, .int .i64 x.dst.base.b, .int .i64 x.dst.base.c, .int .i64 x.dst.base.d, .int .i64 x.dst.len, .int .i64 x.proto, .int .i64 x.slo, .int .i64 x.shi, .int .i64 x.dlo, .int .i64 x.dhi, .int .i64 x.tenant, .int .i64 x.weight, .int .i64 x.chain], .agg #[.int .i64 y.prio, .int .i64 y.src.base.k, .int .i64 y.src.base.a, .int .i64 y.src.base.b, .int .i64 y.src.base.c, .int .i64 y.src.base.d, .int .i64 y.src.len, .int .i64 y.dst.base.k, .int .i64 y.dst.base.a, .int .i64 y.dst.base.b, .int .i64 y.dst.base.c, .int .i64 y.dst.base.d, .int .i64 y.dst.len, .int .i64 y.proto, .int .i64 y.slo, .int .i64 y.shi, .int .i64 y.dlo, .int .i64 y.dhi, .int .i64 y.tenant, .int .i64 y.weight, .int .i64 y.chain]] w fun e w' => e = .returned (.bool false) ∧ Below w.heap.size w w' := by
  have q0 : Hid (((w.alloc (.cells #[.int .i64 x.prio, .int .i64 x.src.base.k, .int .i64 x.src.base.a, .int .i64 x.src.base.b, .int .i64 x.src.base.c, .int .i64 x.src.base.d, .int .i64 x.src.len, .int .i64 x.dst.base.k, .int .i64 x.dst.base.a, .int .i64 x.dst.base.b, .int .i64 x.dst.base.c, .int .i64 x.dst.base.d, .int .i64 x.dst.len, .int .i64 x.proto, .int .i64 x.slo, .int .i64 x.shi, .int .i64 x.dlo, .int .i64 x.dhi, .int .i64 x.tenant, .int .i64 x.weight, .int .i64 x.chain] 53)).alloc (.cells #[.int .i64 y.prio, .int .i64 y.src.base.k, .int .i64 y.src.base.a, .int .i64 y.src.base.b, .int .i64 y.src.base.c, .int .i64 y.src.base.d, .int .i64 y.src.len, .int .i64 y.dst.base.k, .int .i64 y.dst.base.a, .int .i64 y.dst.base.b, .int .i64 y.dst.base.c, .int .i64 y.dst.base.d, .int .i64 y.dst.len, .int .i64 y.proto, .int .i64 y.slo, .int .i64 y.shi, .int .i64 y.dlo, .int .i64 y.dhi, .int .i64 y.tenant, .int .i64 y.weight, .int .i64 y.chain] 53)).heap[w.heap.size]? = some (.cells #[.int .i64 x.prio, .int .i64 x.src.base.k, .int .i64 x.src.base.a, .int .i64 x.src.base.b, .int .i64 x.src.base.c, .int .i64 x.src.base.d, .int .i64 x.src.len, .int .i64 x.dst.base.k, .int .i64 x.dst.base.a, .int .i64 x.dst.base.b, .int .i64 x.dst.base.c, .int .i64 x.dst.base.d, .int .i64 x.dst.len, .int .i64 x.proto, .int .i64 x.slo, .int .i64 x.shi, .int .i64 x.dlo, .int .i64 x.dhi, .int .i64 x.tenant, .int .i64 x.weight, .int .i64 x.chain] 53 (0, 0))) := Lib.hid (by repeat (first | exact K.newAt (by first | rfl | (simp; done)) | refine K.oldAt (by first | (simp; done) | (simp; omega)) ?_))
  have s0 : Hid (((w.alloc (.cells #[.int .i64 x.prio, .int .i64 x.src.base.k, .int .i64 x.src.base.a, .int .i64 x.src.base.b, .int .i64 x.src.base.c, .int .i64 x.src.base.d, .int .i64 x.src.len, .int .i64 x.dst.base.k, .int .i64 x.dst.base.a, .int .i64 x.dst.base.b, .int .i64 x.dst.base.c, .int .i64 x.dst.base.d, .int .i64 x.dst.len, .int .i64 x.proto, .int .i64 x.slo, .int .i64 x.shi, .int .i64 x.dlo, .int .i64 x.dhi, .int .i64 x.tenant, .int .i64 x.weight, .int .i64 x.chain] 53)).alloc (.cells #[.int .i64 y.prio, .int .i64 y.src.base.k, .int .i64 y.src.base.a, .int .i64 y.src.base.b, .int .i64 y.src.base.c, .int .i64 y.src.base.d, .int .i64 y.src.len, .int .i64 y.dst.base.k, .int .i64 y.dst.base.a, .int .i64 y.dst.base.b, .int .i64 y.dst.base.c, .int .i64 y.dst.base.d, .int .i64 y.dst.len, .int .i64 y.proto, .int .i64 y.slo, .int .i64 y.shi, .int .i64 y.dlo, .int .i64 y.dhi, .int .i64 y.tenant, .int .i64 y.weight, .int .i64 y.chain] 53)).heap[w.heap.size + 1]? = some (.cells #[.int .i64 y.prio, .int .i64 y.src.base.k, .int .i64 y.src.base.a, .int .i64 y.src.base.b, .int .i64 y.src.base.c, .int .i64 y.src.base.d, .int .i64 y.src.len, .int .i64 y.dst.base.k, .int .i64 y.dst.base.a, .int .i64 y.dst.base.b, .int .i64 y.dst.base.c, .int .i64 y.dst.base.d, .int .i64 y.dst.len, .int .i64 y.proto, .int .i64 y.slo, .int .i64 y.shi, .int .i64 y.dlo, .int .i64 y.dhi, .int .i64 y.tenant, .int .i64 y.weight, .int .i64 y.chain] 53 (0, 0))) := Lib.hid (by repeat (first | exact K.newAt (by first | rfl | (simp; done)) | refine K.oldAt (by first | (simp; done) | (simp; omega)) ?_))
  have H0 := Lib.hid h0
  have H1 := Lib.hid h1
  have H2 := Lib.hid h2
  have H3 := Lib.hid h3
  clear h0 h1 h2 h3
  go_enter Try.func102, Try.ntmps102
  go_wp2_with (with_reducible refine loadR rfl _ rfl w.heap.size rfl q0.out ?_)
  refine Calls.mono (ruleOkIB x true H0.out _) ?_
  rintro e w1 ⟨rfl, b1⟩
  have B1 := Lib.hid (bthen (Joins.below_alloc2 w _ _) b1)
  have q1 := Lib.hid (K.below b1 q0.out)
  have s1 := Lib.hid (K.below b1 s0.out)
  clear b1 
  go_wp2_with (refine loadRGd _ rfl (w.heap.size + 1) rfl (by rfl) s1.out ?_)
  refine Calls.mono (ruleOkIB y true H1.out _) ?_
  rintro e w2 ⟨rfl, b2⟩
  have B2 := Lib.hid (bthen B1.out b2)
  have q2 := Lib.hid (K.below b2 q1.out)
  have s2 := Lib.hid (K.below b2 s1.out)
  have cq1 := K.cell q2.out 1 _ rfl
  have cq2 := K.cell q2.out 2 _ rfl
  have cq3 := K.cell q2.out 3 _ rfl
  have cq4 := K.cell q2.out 4 _ rfl
  have cq5 := K.cell q2.out 5 _ rfl
  have cq6 := K.cell q2.out 6 _ rfl
  have cs1 := K.cell s2.out 1 _ rfl
  have cs2 := K.cell s2.out 2 _ rfl
  have cs3 := K.cell s2.out 3 _ rfl
  have cs4 := K.cell s2.out 4 _ rfl
  have cs5 := K.cell s2.out 5 _ rfl
  have cs6 := K.cell s2.out 6 _ rfl
  clear b2 
  go_wp2_with fail
  refine Calls.mono (innIB y.src x.src true H2.out _) ?_
  rintro e w3 ⟨rfl, b3⟩
  have B3 := Lib.hid (bthen B2.out b3)
  have q3 := Lib.hid (K.below b3 q2.out)
  have s3 := Lib.hid (K.below b3 s2.out)
  have cq7 := K.cell q3.out 7 _ rfl
  have cq8 := K.cell q3.out 8 _ rfl
  have cq9 := K.cell q3.out 9 _ rfl
  have cq10 := K.cell q3.out 10 _ rfl
  have cq11 := K.cell q3.out 11 _ rfl
  have cq12 := K.cell q3.out 12 _ rfl
  have cs7 := K.cell s3.out 7 _ rfl
  have cs8 := K.cell s3.out 8 _ rfl
  have cs9 := K.cell s3.out 9 _ rfl
  have cs10 := K.cell s3.out 10 _ rfl
  have cs11 := K.cell s3.out 11 _ rfl
  have cs12 := K.cell s3.out 12 _ rfl
  clear b3 cq1 cq2 cq3 cq4 cq5 cq6 cs1 cs2 cs3 cs4 cs5 cs6
  go_wp2_with fail
  refine Calls.mono (innIB y.dst x.dst false H3.out _) ?_
  rintro e w4 ⟨rfl, b4⟩
  have B4 := Lib.hid (bthen B3.out b4)
  clear b4 cq7 cq8 cq9 cq10 cq11 cq12 cs7 cs8 cs9 cs10 cs11 cs12
  go_wp2
  go_ret
  exact ⟨rfl, B4.out⟩

set_option maxHeartbeats 4000000 in
theorem ruleCovI_4 (x y : Ru) (w : World) (h0 : x.ok = true) (h1 : y.ok = true) (h2 : y.src.inn x.src = true) (h3 : y.dst.inn x.dst = true) : Calls Try.prog 102 #[.agg #[.int .i64 x.prio, .int .i64 x.src.base.k, .int .i64 x.src.base.a, .int .i64 x.src.base.b, .int .i64 x.src.base.c, .int .i64 x.src.base.d, .int .i64 x.src.len, .int .i64 x.dst.base.k, .int .i64 x.dst.base.a, .int .i64 x.dst.base.b, .int .i64 x.dst.base.c, .int .i64 x.dst.base.d, .int .i64 x.dst.len, .int .i64 x.proto, .int .i64 x.slo, .int .i64 x.shi, .int .i64 x.dlo, .int .i64 x.dhi, .int .i64 x.tenant, .int .i64 x.weight, .int .i64 x.chain], .agg #[.int .i64 y.prio, .int .i64 y.src.base.k, .int .i64 y.src.base.a, .int .i64 y.src.base.b, .int .i64 y.src.base.c, .int .i64 y.src.base.d, .int .i64 y.src.len, .int .i64 y.dst.base.k, .int .i64 y.dst.base.a, .int .i64 y.dst.base.b, .int .i64 y.dst.base.c, .int .i64 y.dst.base.d, .int .i64 y.dst.len, .int .i64 y.proto, .int .i64 y.slo, .int .i64 y.shi, .int .i64 y.dlo, .int .i64 y.dhi, .int .i64 y.tenant, .int .i64 y.weight, .int .i64 y.chain]] w fun e w' => e = .returned (.bool (x.covers y)) ∧ Below w.heap.size w w' := by
  have q0 : Hid (((w.alloc (.cells #[.int .i64 x.prio, .int .i64 x.src.base.k, .int .i64 x.src.base.a, .int .i64 x.src.base.b, .int .i64 x.src.base.c, .int .i64 x.src.base.d, .int .i64 x.src.len, .int .i64 x.dst.base.k, .int .i64 x.dst.base.a, .int .i64 x.dst.base.b, .int .i64 x.dst.base.c, .int .i64 x.dst.base.d, .int .i64 x.dst.len, .int .i64 x.proto, .int .i64 x.slo, .int .i64 x.shi, .int .i64 x.dlo, .int .i64 x.dhi, .int .i64 x.tenant, .int .i64 x.weight, .int .i64 x.chain] 53)).alloc (.cells #[.int .i64 y.prio, .int .i64 y.src.base.k, .int .i64 y.src.base.a, .int .i64 y.src.base.b, .int .i64 y.src.base.c, .int .i64 y.src.base.d, .int .i64 y.src.len, .int .i64 y.dst.base.k, .int .i64 y.dst.base.a, .int .i64 y.dst.base.b, .int .i64 y.dst.base.c, .int .i64 y.dst.base.d, .int .i64 y.dst.len, .int .i64 y.proto, .int .i64 y.slo, .int .i64 y.shi, .int .i64 y.dlo, .int .i64 y.dhi, .int .i64 y.tenant, .int .i64 y.weight, .int .i64 y.chain] 53)).heap[w.heap.size]? = some (.cells #[.int .i64 x.prio, .int .i64 x.src.base.k, .int .i64 x.src.base.a, .int .i64 x.src.base.b, .int .i64 x.src.base.c, .int .i64 x.src.base.d, .int .i64 x.src.len, .int .i64 x.dst.base.k, .int .i64 x.dst.base.a, .int .i64 x.dst.base.b, .int .i64 x.dst.base.c, .int .i64 x.dst.base.d, .int .i64 x.dst.len, .int .i64 x.proto, .int .i64 x.slo, .int .i64 x.shi, .int .i64 x.dlo, .int .i64 x.dhi, .int .i64 x.tenant, .int .i64 x.weight, .int .i64 x.chain] 53 (0, 0))) := Lib.hid (by repeat (first | exact K.newAt (by first | rfl | (simp; done)) | refine K.oldAt (by first | (simp; done) | (simp; omega)) ?_))
  have s0 : Hid (((w.alloc (.cells #[.int .i64 x.prio, .int .i64 x.src.base.k, .int .i64 x.src.base.a, .int .i64 x.src.base.b, .int .i64 x.src.base.c, .int .i64 x.src.base.d, .int .i64 x.src.len, .int .i64 x.dst.base.k, .int .i64 x.dst.base.a, .int .i64 x.dst.base.b, .int .i64 x.dst.base.c, .int .i64 x.dst.base.d, .int .i64 x.dst.len, .int .i64 x.proto, .int .i64 x.slo, .int .i64 x.shi, .int .i64 x.dlo, .int .i64 x.dhi, .int .i64 x.tenant, .int .i64 x.weight, .int .i64 x.chain] 53)).alloc (.cells #[.int .i64 y.prio, .int .i64 y.src.base.k, .int .i64 y.src.base.a, .int .i64 y.src.base.b, .int .i64 y.src.base.c, .int .i64 y.src.base.d, .int .i64 y.src.len, .int .i64 y.dst.base.k, .int .i64 y.dst.base.a, .int .i64 y.dst.base.b, .int .i64 y.dst.base.c, .int .i64 y.dst.base.d, .int .i64 y.dst.len, .int .i64 y.proto, .int .i64 y.slo, .int .i64 y.shi, .int .i64 y.dlo, .int .i64 y.dhi, .int .i64 y.tenant, .int .i64 y.weight, .int .i64 y.chain] 53)).heap[w.heap.size + 1]? = some (.cells #[.int .i64 y.prio, .int .i64 y.src.base.k, .int .i64 y.src.base.a, .int .i64 y.src.base.b, .int .i64 y.src.base.c, .int .i64 y.src.base.d, .int .i64 y.src.len, .int .i64 y.dst.base.k, .int .i64 y.dst.base.a, .int .i64 y.dst.base.b, .int .i64 y.dst.base.c, .int .i64 y.dst.base.d, .int .i64 y.dst.len, .int .i64 y.proto, .int .i64 y.slo, .int .i64 y.shi, .int .i64 y.dlo, .int .i64 y.dhi, .int .i64 y.tenant, .int .i64 y.weight, .int .i64 y.chain] 53 (0, 0))) := Lib.hid (by repeat (first | exact K.newAt (by first | rfl | (simp; done)) | refine K.oldAt (by first | (simp; done) | (simp; omega)) ?_))
  have HE := Lib.hid (covEnd h0 h1 h2 h3)
  have H0 := Lib.hid h0
  have H1 := Lib.hid h1
  have H2 := Lib.hid h2
  have H3 := Lib.hid h3
  clear h0 h1 h2 h3
  go_enter Try.func102, Try.ntmps102
  go_wp2_with (with_reducible refine loadR rfl _ rfl w.heap.size rfl q0.out ?_)
  refine Calls.mono (ruleOkIB x true H0.out _) ?_
  rintro e w1 ⟨rfl, b1⟩
  have B1 := Lib.hid (bthen (Joins.below_alloc2 w _ _) b1)
  have q1 := Lib.hid (K.below b1 q0.out)
  have s1 := Lib.hid (K.below b1 s0.out)
  clear b1 
  go_wp2_with (refine loadRGd _ rfl (w.heap.size + 1) rfl (by rfl) s1.out ?_)
  refine Calls.mono (ruleOkIB y true H1.out _) ?_
  rintro e w2 ⟨rfl, b2⟩
  have B2 := Lib.hid (bthen B1.out b2)
  have q2 := Lib.hid (K.below b2 q1.out)
  have s2 := Lib.hid (K.below b2 s1.out)
  have cq1 := K.cell q2.out 1 _ rfl
  have cq2 := K.cell q2.out 2 _ rfl
  have cq3 := K.cell q2.out 3 _ rfl
  have cq4 := K.cell q2.out 4 _ rfl
  have cq5 := K.cell q2.out 5 _ rfl
  have cq6 := K.cell q2.out 6 _ rfl
  have cs1 := K.cell s2.out 1 _ rfl
  have cs2 := K.cell s2.out 2 _ rfl
  have cs3 := K.cell s2.out 3 _ rfl
  have cs4 := K.cell s2.out 4 _ rfl
  have cs5 := K.cell s2.out 5 _ rfl
  have cs6 := K.cell s2.out 6 _ rfl
  clear b2 
  go_wp2_with fail
  refine Calls.mono (innIB y.src x.src true H2.out _) ?_
  rintro e w3 ⟨rfl, b3⟩
  have B3 := Lib.hid (bthen B2.out b3)
  have q3 := Lib.hid (K.below b3 q2.out)
  have s3 := Lib.hid (K.below b3 s2.out)
  have cq7 := K.cell q3.out 7 _ rfl
  have cq8 := K.cell q3.out 8 _ rfl
  have cq9 := K.cell q3.out 9 _ rfl
  have cq10 := K.cell q3.out 10 _ rfl
  have cq11 := K.cell q3.out 11 _ rfl
  have cq12 := K.cell q3.out 12 _ rfl
  have cs7 := K.cell s3.out 7 _ rfl
  have cs8 := K.cell s3.out 8 _ rfl
  have cs9 := K.cell s3.out 9 _ rfl
  have cs10 := K.cell s3.out 10 _ rfl
  have cs11 := K.cell s3.out 11 _ rfl
  have cs12 := K.cell s3.out 12 _ rfl
  clear b3 cq1 cq2 cq3 cq4 cq5 cq6 cs1 cs2 cs3 cs4 cs5 cs6
  go_wp2_with fail
  refine Calls.mono (innIB y.dst x.dst true H3.out _) ?_
  rintro e w4 ⟨rfl, b4⟩
  have B4 := Lib.hid (bthen B3.out b4)
  have q4 := Lib.hid (K.below b4 q3.out)
  have s4 := Lib.hid (K.below b4 s3.out)
  have cq13 := K.cell q4.out 13 _ rfl
  have cq14 := K.cell q4.out 14 _ rfl
  have cq15 := K.cell q4.out 15 _ rfl
  have cq16 := K.cell q4.out 16 _ rfl
  have cq17 := K.cell q4.out 17 _ rfl
  have cs13 := K.cell s4.out 13 _ rfl
  have cs14 := K.cell s4.out 14 _ rfl
  have cs15 := K.cell s4.out 15 _ rfl
  have cs16 := K.cell s4.out 16 _ rfl
  have cs17 := K.cell s4.out 17 _ rfl
  clear b4 cq7 cq8 cq9 cq10 cq11 cq12 cs7 cs8 cs9 cs10 cs11 cs12
  go_wp2
  all_goals (go_ret; exact ⟨ret_bool (HE.out.symm ▸ (by first | (simp [*]; done) | (simp; omega) | (try simp only [bne_iff_ne, ne_eq, bne_eq_false_iff_eq] at *; first | (simp [*]; done) | (simp; omega) | (simp [*]; omega)))), B4.out⟩)

theorem ruleCovI (x y : Ru) (w : World) : Calls Try.prog 102 #[.agg #[.int .i64 x.prio, .int .i64 x.src.base.k, .int .i64 x.src.base.a, .int .i64 x.src.base.b, .int .i64 x.src.base.c, .int .i64 x.src.base.d, .int .i64 x.src.len, .int .i64 x.dst.base.k, .int .i64 x.dst.base.a, .int .i64 x.dst.base.b, .int .i64 x.dst.base.c, .int .i64 x.dst.base.d, .int .i64 x.dst.len, .int .i64 x.proto, .int .i64 x.slo, .int .i64 x.shi, .int .i64 x.dlo, .int .i64 x.dhi, .int .i64 x.tenant, .int .i64 x.weight, .int .i64 x.chain], .agg #[.int .i64 y.prio, .int .i64 y.src.base.k, .int .i64 y.src.base.a, .int .i64 y.src.base.b, .int .i64 y.src.base.c, .int .i64 y.src.base.d, .int .i64 y.src.len, .int .i64 y.dst.base.k, .int .i64 y.dst.base.a, .int .i64 y.dst.base.b, .int .i64 y.dst.base.c, .int .i64 y.dst.base.d, .int .i64 y.dst.len, .int .i64 y.proto, .int .i64 y.slo, .int .i64 y.shi, .int .i64 y.dlo, .int .i64 y.dhi, .int .i64 y.tenant, .int .i64 y.weight, .int .i64 y.chain]] w fun e w' => e = .returned (.bool (x.covers y)) ∧ Below w.heap.size w w' := by
  cases h0 : x.ok with
  | false =>
    have e : (x.covers y) = false := by simp [Ru.covers, h0]
    rw [e]
    exact ruleCovI_0 x y w  h0
  | true =>
    cases h1 : y.ok with
    | false =>
      have e : (x.covers y) = false := by simp [Ru.covers, h1]
      rw [e]
      exact ruleCovI_1 x y w h0 h1
    | true =>
      cases h2 : y.src.inn x.src with
      | false =>
        have e : (x.covers y) = false := by simp [Ru.covers, h2]
        rw [e]
        exact ruleCovI_2 x y w h0 h1 h2
      | true =>
        cases h3 : y.dst.inn x.dst with
        | false =>
          have e : (x.covers y) = false := by simp [Ru.covers, h3]
          rw [e]
          exact ruleCovI_3 x y w h0 h1 h2 h3
        | true =>
          exact ruleCovI_4 x y w h0 h1 h2 h3

theorem ruleCovIB (x y : Ru) (b : Bool) (h : x.covers y = b) (w : World) : Calls Try.prog 102 #[.agg #[.int .i64 x.prio, .int .i64 x.src.base.k, .int .i64 x.src.base.a, .int .i64 x.src.base.b, .int .i64 x.src.base.c, .int .i64 x.src.base.d, .int .i64 x.src.len, .int .i64 x.dst.base.k, .int .i64 x.dst.base.a, .int .i64 x.dst.base.b, .int .i64 x.dst.base.c, .int .i64 x.dst.base.d, .int .i64 x.dst.len, .int .i64 x.proto, .int .i64 x.slo, .int .i64 x.shi, .int .i64 x.dlo, .int .i64 x.dhi, .int .i64 x.tenant, .int .i64 x.weight, .int .i64 x.chain], .agg #[.int .i64 y.prio, .int .i64 y.src.base.k, .int .i64 y.src.base.a, .int .i64 y.src.base.b, .int .i64 y.src.base.c, .int .i64 y.src.base.d, .int .i64 y.src.len, .int .i64 y.dst.base.k, .int .i64 y.dst.base.a, .int .i64 y.dst.base.b, .int .i64 y.dst.base.c, .int .i64 y.dst.base.d, .int .i64 y.dst.len, .int .i64 y.proto, .int .i64 y.slo, .int .i64 y.shi, .int .i64 y.dlo, .int .i64 y.dhi, .int .i64 y.tenant, .int .i64 y.weight, .int .i64 y.chain]] w fun e w' => e = .returned (.bool b) ∧ Below w.heap.size w w' := h ▸ ruleCovI x y w
end Go.Proofs.Ytdndanbalmoklaa
