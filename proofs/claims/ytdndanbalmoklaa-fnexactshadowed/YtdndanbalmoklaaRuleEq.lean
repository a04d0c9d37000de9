/-
  The laws own helpers on rules: toRule, eqRule.
-/
import Derived.Test.YtdndanbalmoklaaRule
import Derived.Deep.Cut
namespace Go.Proofs.Ytdndanbalmoklaa
set_option maxRecDepth 100000
open Go.RowKit

set_option maxHeartbeats 400000 in
theorem eqRuleC (x : Ru) (w : World) : Calls Try.prog 109 #[.agg #[.int .i64 x.prio, .int .i64 x.src.base.k, .int .i64 x.src.base.a, .int .i64 x.src.base.b, .int .i64 x.src.base.c, .int .i64 x.src.base.d, .int .i64 x.src.len, .int .i64 x.dst.base.k, .int .i64 x.dst.base.a, .int .i64 x.dst.base.b, .int .i64 x.dst.base.c, .int .i64 x.dst.base.d, .int .i64 x.dst.len, .int .i64 x.proto, .int .i64 x.slo, .int .i64 x.shi, .int .i64 x.dlo, .int .i64 x.dhi, .int .i64 x.tenant, .int .i64 x.weight, .int .i64 x.chain], .agg #[.int .i64 x.prio, .int .i64 x.src.base.k, .int .i64 x.src.base.a, .int .i64 x.src.base.b, .int .i64 x.src.base.c, .int .i64 x.src.base.d, .int .i64 x.src.len, .int .i64 x.dst.base.k, .int .i64 x.dst.base.a, .int .i64 x.dst.base.b, .int .i64 x.dst.base.c, .int .i64 x.dst.base.d, .int .i64 x.dst.len, .int .i64 x.proto, .int .i64 x.slo, .int .i64 x.shi, .int .i64 x.dlo, .int .i64 x.dhi, .int .i64 x.tenant, .int .i64 x.weight, .int .i64 x.chain]] w fun e w' => e = .returned (.bool true) ∧ Below w.heap.size w w' := by
  go_enter Try.func109, Try.ntmps109
  go_wp2_with fail
  refine Calls.mono (eqPrefixC x.src _) ?_
  rintro e w1 ⟨rfl, b1⟩
  have q1 := Lib.hid (K.on b1 (g := w.heap.size) (by first | (simp; done) | (simp; omega)) (o := .cells #[.int .i64 x.prio, .int .i64 x.src.base.k, .int .i64 x.src.base.a, .int .i64 x.src.base.b, .int .i64 x.src.base.c, .int .i64 x.src.base.d, .int .i64 x.src.len, .int .i64 x.dst.base.k, .int .i64 x.dst.base.a, .int .i64 x.dst.base.b, .int .i64 x.dst.base.c, .int .i64 x.dst.base.d, .int .i64 x.dst.len, .int .i64 x.proto, .int .i64 x.slo, .int .i64 x.shi, .int .i64 x.dlo, .int .i64 x.dhi, .int .i64 x.tenant, .int .i64 x.weight, .int .i64 x.chain] 53) (K.oldAt (by first | (simp; done) | (simp; omega)) (K.newAt rfl)))
  have s1 := Lib.hid (K.on b1 (g := w.heap.size + 1) (by first | (simp; done) | (simp; omega)) (o := .cells #[.int .i64 x.prio, .int .i64 x.src.base.k, .int .i64 x.src.base.a, .int .i64 x.src.base.b, .int .i64 x.src.base.c, .int .i64 x.src.base.d, .int .i64 x.src.len, .int .i64 x.dst.base.k, .int .i64 x.dst.base.a, .int .i64 x.dst.base.b, .int .i64 x.dst.base.c, .int .i64 x.dst.base.d, .int .i64 x.dst.len, .int .i64 x.proto, .int .i64 x.slo, .int .i64 x.shi, .int .i64 x.dlo, .int .i64 x.dhi, .int .i64 x.tenant, .int .i64 x.weight, .int .i64 x.chain] 53) (K.newAt (by simp)))
  have B1 := Lib.hid (bthen (Joins.below_alloc2 w _ _) b1)
  clear b1
  have c7 := K.cell q1.out 7 _ rfl
  have d7 := K.cell s1.out 7 _ rfl
  have c8 := K.cell q1.out 8 _ rfl
  have d8 := K.cell s1.out 8 _ rfl
  have c9 := K.cell q1.out 9 _ rfl
  have d9 := K.cell s1.out 9 _ rfl
  have c10 := K.cell q1.out 10 _ rfl
  have d10 := K.cell s1.out 10 _ rfl
  have c11 := K.cell q1.out 11 _ rfl
  have d11 := K.cell s1.out 11 _ rfl
  have c12 := K.cell q1.out 12 _ rfl
  have d12 := K.cell s1.out 12 _ rfl
  go_wp2_with fail
  refine Calls.mono (eqPrefixC x.dst _) ?_
  rintro e w2 ⟨rfl, b2⟩
  have q2 := Lib.hid (K.below b2 q1.out)
  have s2 := Lib.hid (K.below b2 s1.out)
  have B2 := Lib.hid (bthen B1.out b2)
  clear b2 c7 d7 c8 d8 c9 d9 c10 d10 c11 d11 c12 d12
  have c13 := K.cell q2.out 13 _ rfl
  have d13 := K.cell s2.out 13 _ rfl
  have c14 := K.cell q2.out 14 _ rfl
  have d14 := K.cell s2.out 14 _ rfl
  have c15 := K.cell q2.out 15 _ rfl
  have d15 := K.cell s2.out 15 _ rfl
  have c16 := K.cell q2.out 16 _ rfl
  have d16 := K.cell s2.out 16 _ rfl
  have c17 := K.cell q2.out 17 _ rfl
  have d17 := K.cell s2.out 17 _ rfl
  have c18 := K.cell q2.out 18 _ rfl
  have d18 := K.cell s2.out 18 _ rfl
  have c19 := K.cell q2.out 19 _ rfl
  have d19 := K.cell s2.out 19 _ rfl
  have c20 := K.cell q2.out 20 _ rfl
  have d20 := K.cell s2.out 20 _ rfl
  go_wp2
  go_ret
  exact ⟨rfl, B2.out⟩
end Go.Proofs.Ytdndanbalmoklaa
