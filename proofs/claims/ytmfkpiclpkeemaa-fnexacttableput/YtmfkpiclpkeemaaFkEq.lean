/-
  The laws' own comparison of two structs.
-/
import Derived.Test.YtmfkpiclpkeemaaFk
import Derived.Test.YtmfkpiclpkeemaaKeyR
import Derived.Deep.Cut
namespace Go.Proofs.Ytmfkpiclpkeemaa
set_option maxRecDepth 100000
open Go.RowKit

set_option maxHeartbeats 1000000 in
theorem eqFlowKeyC (x : Fk) (w : World) : Calls Try.prog 80 #[.agg #[.int .i64 x.tenant, .int .i64 x.key.src.k, .int .i64 x.key.src.a, .int .i64 x.key.src.b, .int .i64 x.key.src.c, .int .i64 x.key.src.d, .int .i64 x.key.dst.k, .int .i64 x.key.dst.a, .int .i64 x.key.dst.b, .int .i64 x.key.dst.c, .int .i64 x.key.dst.d, .int .i64 x.key.proto, .int .i64 x.key.sport, .int .i64 x.key.dport], .agg #[.int .i64 x.tenant, .int .i64 x.key.src.k, .int .i64 x.key.src.a, .int .i64 x.key.src.b, .int .i64 x.key.src.c, .int .i64 x.key.src.d, .int .i64 x.key.dst.k, .int .i64 x.key.dst.a, .int .i64 x.key.dst.b, .int .i64 x.key.dst.c, .int .i64 x.key.dst.d, .int .i64 x.key.proto, .int .i64 x.key.sport, .int .i64 x.key.dport]] w fun e w' => e = .returned (.bool true) ∧ Below w.heap.size w w' := by
  go_enter Try.func80, Try.ntmps80
  go_wp2_with fail
  refine Calls.mono (eqKeyC x.key _) ?_
  rintro e w1 ⟨rfl, b1⟩
  have q1 := Lib.hid (K.on b1 (g := w.heap.size) (by first | (simp; done) | (simp; omega)) (o := .cells #[.int .i64 x.tenant, .int .i64 x.key.src.k, .int .i64 x.key.src.a, .int .i64 x.key.src.b, .int .i64 x.key.src.c, .int .i64 x.key.src.d, .int .i64 x.key.dst.k, .int .i64 x.key.dst.a, .int .i64 x.key.dst.b, .int .i64 x.key.dst.c, .int .i64 x.key.dst.d, .int .i64 x.key.proto, .int .i64 x.key.sport, .int .i64 x.key.dport] 33) (K.oldAt (by first | (simp; done) | (simp; omega)) (K.newAt rfl)))
  have s1 := Lib.hid (K.on b1 (g := w.heap.size + 1) (by first | (simp; done) | (simp; omega)) (o := .cells #[.int .i64 x.tenant, .int .i64 x.key.src.k, .int .i64 x.key.src.a, .int .i64 x.key.src.b, .int .i64 x.key.src.c, .int .i64 x.key.src.d, .int .i64 x.key.dst.k, .int .i64 x.key.dst.a, .int .i64 x.key.dst.b, .int .i64 x.key.dst.c, .int .i64 x.key.dst.d, .int .i64 x.key.proto, .int .i64 x.key.sport, .int .i64 x.key.dport] 33) (K.newAt (by simp)))
  have B1 := Lib.hid (bthen (Joins.below_alloc2 w _ _) b1)
  clear b1
  go_wp2
  go_ret
  exact ⟨rfl, B1.out⟩
end Go.Proofs.Ytmfkpiclpkeemaa
