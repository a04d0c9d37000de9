/-
  The laws' own copy of a struct. The laws' own copies of lists of structs. The laws' own comparison of two structs. The laws' own comparison of lists of structs. The laws' own marks on a list of structs: set, and looked for. The laws' own helpers on tables: a size, a copy, a comparison, a marking, a look at the marks.
-/
import Derived.Test.YtmfkpiclpkeemaaCe
import Derived.Test.YtmfkpiclpkeemaaFkTo
import Derived.Deep.Cut
import Derived.Test.YtmfkpiclpkeemaaFkEq
import Derived.Test.YtmfkpiclpkeemaaRegFacts
import Derived.IntWalk
import Derived.Test.YtmfkpiclpkeemaaTabLib
namespace Go.Proofs.Ytmfkpiclpkeemaa
set_option maxRecDepth 100000
open Go.RowKit

set_option maxHeartbeats 1000000 in
theorem toCellC (x : Ce) (w : World) : Calls Try.prog 110 #[.agg #[.bool x.used, .int .i64 x.key.tenant, .int .i64 x.key.key.src.k, .int .i64 x.key.key.src.a, .int .i64 x.key.key.src.b, .int .i64 x.key.key.src.c, .int .i64 x.key.key.src.d, .int .i64 x.key.key.dst.k, .int .i64 x.key.key.dst.a, .int .i64 x.key.key.dst.b, .int .i64 x.key.key.dst.c, .int .i64 x.key.key.dst.d, .int .i64 x.key.key.proto, .int .i64 x.key.key.sport, .int .i64 x.key.key.dport, .int .i64 x.num]] w fun e w' => e = .returned (.agg #[.bool x.used, .int .i64 x.key.tenant, .int .i64 x.key.key.src.k, .int .i64 x.key.key.src.a, .int .i64 x.key.key.src.b, .int .i64 x.key.key.src.c, .int .i64 x.key.key.src.d, .int .i64 x.key.key.dst.k, .int .i64 x.key.key.dst.a, .int .i64 x.key.key.dst.b, .int .i64 x.key.key.dst.c, .int .i64 x.key.key.dst.d, .int .i64 x.key.key.proto, .int .i64 x.key.key.sport, .int .i64 x.key.key.dport, .int .i64 x.num]) ∧ Below w.heap.size w w' := by
  go_enter Try.func110, Try.ntmps110
  go_upto_region 2 with fail
  have q0 : Hid ((((w.alloc (.cells #[.bool x.used, .int .i64 x.key.tenant, .int .i64 x.key.key.src.k, .int .i64 x.key.key.src.a, .int .i64 x.key.key.src.b, .int .i64 x.key.key.src.c, .int .i64 x.key.key.src.d, .int .i64 x.key.key.dst.k, .int .i64 x.key.key.dst.a, .int .i64 x.key.key.dst.b, .int .i64 x.key.key.dst.c, .int .i64 x.key.key.dst.d, .int .i64 x.key.key.proto, .int .i64 x.key.key.sport, .int .i64 x.key.key.dport, .int .i64 x.num] 132)).alloc (.cells #[.bool false, .int .i64 0, .int .i64 0, .int .i64 0, .int .i64 0, .int .i64 0, .int .i64 0, .int .i64 0, .int .i64 0, .int .i64 0, .int .i64 0, .int .i64 0, .int .i64 0, .int .i64 0, .int .i64 0, .int .i64 0] 93)).alloc (.cells #[.bool false, .int .i64 0, .int .i64 0, .int .i64 0, .int .i64 0, .int .i64 0, .int .i64 0, .int .i64 0, .int .i64 0, .int .i64 0, .int .i64 0, .int .i64 0, .int .i64 0, .int .i64 0, .int .i64 0, .int .i64 0] 93)).heap[w.heap.size]? = some (.cells #[.bool x.used, .int .i64 x.key.tenant, .int .i64 x.key.key.src.k, .int .i64 x.key.key.src.a, .int .i64 x.key.key.src.b, .int .i64 x.key.key.src.c, .int .i64 x.key.key.src.d, .int .i64 x.key.key.dst.k, .int .i64 x.key.key.dst.a, .int .i64 x.key.key.dst.b, .int .i64 x.key.key.dst.c, .int .i64 x.key.key.dst.d, .int .i64 x.key.key.proto, .int .i64 x.key.key.sport, .int .i64 x.key.key.dport, .int .i64 x.num] 132 (0, 0))) := Lib.hid (K.oldAt (by first | (simp; done) | (simp; omega)) (K.oldAt (by first | (simp; done) | (simp; omega)) (K.new w _)))
  have z0 : Hid ((((w.alloc (.cells #[.bool x.used, .int .i64 x.key.tenant, .int .i64 x.key.key.src.k, .int .i64 x.key.key.src.a, .int .i64 x.key.key.src.b, .int .i64 x.key.key.src.c, .int .i64 x.key.key.src.d, .int .i64 x.key.key.dst.k, .int .i64 x.key.key.dst.a, .int .i64 x.key.key.dst.b, .int .i64 x.key.key.dst.c, .int .i64 x.key.key.dst.d, .int .i64 x.key.key.proto, .int .i64 x.key.key.sport, .int .i64 x.key.key.dport, .int .i64 x.num] 132)).alloc (.cells #[.bool false, .int .i64 0, .int .i64 0, .int .i64 0, .int .i64 0, .int .i64 0, .int .i64 0, .int .i64 0, .int .i64 0, .int .i64 0, .int .i64 0, .int .i64 0, .int .i64 0, .int .i64 0, .int .i64 0, .int .i64 0] 93)).alloc (.cells #[.bool false, .int .i64 0, .int .i64 0, .int .i64 0, .int .i64 0, .int .i64 0, .int .i64 0, .int .i64 0, .int .i64 0, .int .i64 0, .int .i64 0, .int .i64 0, .int .i64 0, .int .i64 0, .int .i64 0, .int .i64 0] 93)).heap[w.heap.size + 1]? = some (.cells #[.bool false, .int .i64 0, .int .i64 0, .int .i64 0, .int .i64 0, .int .i64 0, .int .i64 0, .int .i64 0, .int .i64 0, .int .i64 0, .int .i64 0, .int .i64 0, .int .i64 0, .int .i64 0, .int .i64 0, .int .i64 0] 93 (0, 0))) := Lib.hid (K.oldAt (by first | (simp; done) | (simp; omega)) (K.newAt (by simp)))
  have u0 : Hid ((((w.alloc (.cells #[.bool x.used, .int .i64 x.key.tenant, .int .i64 x.key.key.src.k, .int .i64 x.key.key.src.a, .int .i64 x.key.key.src.b, .int .i64 x.key.key.src.c, .int .i64 x.key.key.src.d, .int .i64 x.key.key.dst.k, .int .i64 x.key.key.dst.a, .int .i64 x.key.key.dst.b, .int .i64 x.key.key.dst.c, .int .i64 x.key.key.dst.d, .int .i64 x.key.key.proto, .int .i64 x.key.key.sport, .int .i64 x.key.key.dport, .int .i64 x.num] 132)).alloc (.cells #[.bool false, .int .i64 0, .int .i64 0, .int .i64 0, .int .i64 0, .int .i64 0, .int .i64 0, .int .i64 0, .int .i64 0, .int .i64 0, .int .i64 0, .int .i64 0, .int .i64 0, .int .i64 0, .int .i64 0, .int .i64 0] 93)).alloc (.cells #[.bool false, .int .i64 0, .int .i64 0, .int .i64 0, .int .i64 0, .int .i64 0, .int .i64 0, .int .i64 0, .int .i64 0, .int .i64 0, .int .i64 0, .int .i64 0, .int .i64 0, .int .i64 0, .int .i64 0, .int .i64 0] 93)).heap[w.heap.size + 1 + 1]? = some (.cells #[.bool false, .int .i64 0, .int .i64 0, .int .i64 0, .int .i64 0, .int .i64 0, .int .i64 0, .int .i64 0, .int .i64 0, .int .i64 0, .int .i64 0, .int .i64 0, .int .i64 0, .int .i64 0, .int .i64 0, .int .i64 0] 93 (0, 0))) := Lib.hid (K.newAt (by simp))
  have B0 : Hid (Below w.heap.size w (((w.alloc (.cells #[.bool x.used, .int .i64 x.key.tenant, .int .i64 x.key.key.src.k, .int .i64 x.key.key.src.a, .int .i64 x.key.key.src.b, .int .i64 x.key.key.src.c, .int .i64 x.key.key.src.d, .int .i64 x.key.key.dst.k, .int .i64 x.key.key.dst.a, .int .i64 x.key.key.dst.b, .int .i64 x.key.key.dst.c, .int .i64 x.key.key.dst.d, .int .i64 x.key.key.proto, .int .i64 x.key.key.sport, .int .i64 x.key.key.dport, .int .i64 x.num] 132)).alloc (.cells #[.bool false, .int .i64 0, .int .i64 0, .int .i64 0, .int .i64 0, .int .i64 0, .int .i64 0, .int .i64 0, .int .i64 0, .int .i64 0, .int .i64 0, .int .i64 0, .int .i64 0, .int .i64 0, .int .i64 0, .int .i64 0] 93)).alloc (.cells #[.bool false, .int .i64 0, .int .i64 0, .int .i64 0, .int .i64 0, .int .i64 0, .int .i64 0, .int .i64 0, .int .i64 0, .int .i64 0, .int .i64 0, .int .i64 0, .int .i64 0, .int .i64 0, .int .i64 0, .int .i64 0] 93))) := Lib.hid (by go_grown)
  generalize ((w.alloc (.cells #[.bool x.used, .int .i64 x.key.tenant, .int .i64 x.key.key.src.k, .int .i64 x.key.key.src.a, .int .i64 x.key.key.src.b, .int .i64 x.key.key.src.c, .int .i64 x.key.key.src.d, .int .i64 x.key.key.dst.k, .int .i64 x.key.key.dst.a, .int .i64 x.key.key.dst.b, .int .i64 x.key.key.dst.c, .int .i64 x.key.key.dst.d, .int .i64 x.key.key.proto, .int .i64 x.key.key.sport, .int .i64 x.key.key.dport, .int .i64 x.num] 132)).alloc (.cells #[.bool false, .int .i64 0, .int .i64 0, .int .i64 0, .int .i64 0, .int .i64 0, .int .i64 0, .int .i64 0, .int .i64 0, .int .i64 0, .int .i64 0, .int .i64 0, .int .i64 0, .int .i64 0, .int .i64 0, .int .i64 0] 93)).alloc (.cells #[.bool false, .int .i64 0, .int .i64 0, .int .i64 0, .int .i64 0, .int .i64 0, .int .i64 0, .int .i64 0, .int .i64 0, .int .i64 0, .int .i64 0, .int .i64 0, .int .i64 0, .int .i64 0, .int .i64 0, .int .i64 0] 93) = w0 at q0 z0 u0 B0 ⊢
  have c := K.cell q0.out 0 _ rfl
  have d := K.cell u0.out 0 _ rfl
  have f := frozen_of_row _ _ 0 _ _ u0.out
  go_upto_region 3 with fail
  have q1 : Hid ((w0.setCell ⟨w.heap.size + 1 + 1, 0, none⟩ (.bool x.used)).heap[w.heap.size]? = some (.cells #[.bool x.used, .int .i64 x.key.tenant, .int .i64 x.key.key.src.k, .int .i64 x.key.key.src.a, .int .i64 x.key.key.src.b, .int .i64 x.key.key.src.c, .int .i64 x.key.key.src.d, .int .i64 x.key.key.dst.k, .int .i64 x.key.key.dst.a, .int .i64 x.key.key.dst.b, .int .i64 x.key.key.dst.c, .int .i64 x.key.key.dst.d, .int .i64 x.key.key.proto, .int .i64 x.key.key.sport, .int .i64 x.key.key.dport, .int .i64 x.num] 132 (0, 0))) := Lib.hid (K.other q0.out (w.heap.size + 1 + 1) 0 (.bool x.used) (by omega))
  have z1 : Hid ((w0.setCell ⟨w.heap.size + 1 + 1, 0, none⟩ (.bool x.used)).heap[w.heap.size + 1]? = some (.cells #[.bool false, .int .i64 0, .int .i64 0, .int .i64 0, .int .i64 0, .int .i64 0, .int .i64 0, .int .i64 0, .int .i64 0, .int .i64 0, .int .i64 0, .int .i64 0, .int .i64 0, .int .i64 0, .int .i64 0, .int .i64 0] 93 (0, 0))) := Lib.hid (K.other z0.out (w.heap.size + 1 + 1) 0 (.bool x.used) (by omega))
  have u1 : Hid ((w0.setCell ⟨w.heap.size + 1 + 1, 0, none⟩ (.bool x.used)).heap[w.heap.size + 1 + 1]? = some (.cells #[.bool x.used, .int .i64 0, .int .i64 0, .int .i64 0, .int .i64 0, .int .i64 0, .int .i64 0, .int .i64 0, .int .i64 0, .int .i64 0, .int .i64 0, .int .i64 0, .int .i64 0, .int .i64 0, .int .i64 0, .int .i64 0] 93 (0, 0))) := Lib.hid (K.set u0.out 0 (.bool x.used))
  have B1 : Hid (Below w.heap.size w (w0.setCell ⟨w.heap.size + 1 + 1, 0, none⟩ (.bool x.used))) := Lib.hid (Below.setCell B0.out (p := ⟨w.heap.size + 1 + 1, 0, none⟩) (by simp; omega) (.bool x.used))
  clear c d f q0 z0 u0 B0
  generalize w0.setCell ⟨w.heap.size + 1 + 1, 0, none⟩ (.bool x.used) = w1 at q1 z1 u1 B1 ⊢
  have c1 := K.cell q1.out 1 _ rfl
  have c2 := K.cell q1.out 2 _ rfl
  have c3 := K.cell q1.out 3 _ rfl
  have c4 := K.cell q1.out 4 _ rfl
  have c5 := K.cell q1.out 5 _ rfl
  have c6 := K.cell q1.out 6 _ rfl
  have c7 := K.cell q1.out 7 _ rfl
  have c8 := K.cell q1.out 8 _ rfl
  have c9 := K.cell q1.out 9 _ rfl
  have c10 := K.cell q1.out 10 _ rfl
  have c11 := K.cell q1.out 11 _ rfl
  have c12 := K.cell q1.out 12 _ rfl
  have c13 := K.cell q1.out 13 _ rfl
  have c14 := K.cell q1.out 14 _ rfl
  go_wp2_with fail
  refine Calls.mono (toFlowKeyC x.key _) ?_
  rintro e w2 ⟨rfl, b2⟩
  have q2 := Lib.hid (K.below b2 q1.out)
  have z2 := Lib.hid (K.below b2 z1.out)
  have u2 := Lib.hid (K.below b2 u1.out)
  have B2 := Lib.hid (bthen B1.out b2)
  have Z2 : Hid (w.heap.size + 1 + 1 < w2.heap.size) := Lib.hid (K.lt u2.out)
  clear b2 q1 z1 u1 B1 c1 c2 c3 c4 c5 c6 c7 c8 c9 c10 c11 c12 c13 c14
  have d1 := K.cell u2.out 1 _ rfl
  have f1 := frozen_of_row _ _ 1 _ _ u2.out
  have d2 := K.cell u2.out 2 _ rfl
  have f2 := frozen_of_row _ _ 2 _ _ u2.out
  have d3 := K.cell u2.out 3 _ rfl
  have f3 := frozen_of_row _ _ 3 _ _ u2.out
  have d4 := K.cell u2.out 4 _ rfl
  have f4 := frozen_of_row _ _ 4 _ _ u2.out
  have d5 := K.cell u2.out 5 _ rfl
  have f5 := frozen_of_row _ _ 5 _ _ u2.out
  have d6 := K.cell u2.out 6 _ rfl
  have f6 := frozen_of_row _ _ 6 _ _ u2.out
  have d7 := K.cell u2.out 7 _ rfl
  have f7 := frozen_of_row _ _ 7 _ _ u2.out
  have d8 := K.cell u2.out 8 _ rfl
  have f8 := frozen_of_row _ _ 8 _ _ u2.out
  have d9 := K.cell u2.out 9 _ rfl
  have f9 := frozen_of_row _ _ 9 _ _ u2.out
  have d10 := K.cell u2.out 10 _ rfl
  have f10 := frozen_of_row _ _ 10 _ _ u2.out
  have d11 := K.cell u2.out 11 _ rfl
  have f11 := frozen_of_row _ _ 11 _ _ u2.out
  have d12 := K.cell u2.out 12 _ rfl
  have f12 := frozen_of_row _ _ 12 _ _ u2.out
  have d13 := K.cell u2.out 13 _ rfl
  have f13 := frozen_of_row _ _ 13 _ _ u2.out
  have d14 := K.cell u2.out 14 _ rfl
  have f14 := frozen_of_row _ _ 14 _ _ u2.out
  go_upto_region 4 with fail
  have q2_1 : Hid ((w2.setCell ⟨w.heap.size + 1 + 1, 1, none⟩ (.int .i64 x.key.tenant)).heap[w.heap.size]? = some (.cells #[.bool x.used, .int .i64 x.key.tenant, .int .i64 x.key.key.src.k, .int .i64 x.key.key.src.a, .int .i64 x.key.key.src.b, .int .i64 x.key.key.src.c, .int .i64 x.key.key.src.d, .int .i64 x.key.key.dst.k, .int .i64 x.key.key.dst.a, .int .i64 x.key.key.dst.b, .int .i64 x.key.key.dst.c, .int .i64 x.key.key.dst.d, .int .i64 x.key.key.proto, .int .i64 x.key.key.sport, .int .i64 x.key.key.dport, .int .i64 x.num] 132 (0, 0))) := Lib.hid (K.other q2.out (w.heap.size + 1 + 1) 1 (.int .i64 x.key.tenant) (by omega))
  have z2_1 : Hid ((w2.setCell ⟨w.heap.size + 1 + 1, 1, none⟩ (.int .i64 x.key.tenant)).heap[w.heap.size + 1]? = some (.cells #[.bool false, .int .i64 0, .int .i64 0, .int .i64 0, .int .i64 0, .int .i64 0, .int .i64 0, .int .i64 0, .int .i64 0, .int .i64 0, .int .i64 0, .int .i64 0, .int .i64 0, .int .i64 0, .int .i64 0, .int .i64 0] 93 (0, 0))) := Lib.hid (K.other z2.out (w.heap.size + 1 + 1) 1 (.int .i64 x.key.tenant) (by omega))
  have u2_1 : Hid ((w2.setCell ⟨w.heap.size + 1 + 1, 1, none⟩ (.int .i64 x.key.tenant)).heap[w.heap.size + 1 + 1]? = some (.cells #[.bool x.used, .int .i64 x.key.tenant, .int .i64 0, .int .i64 0, .int .i64 0, .int .i64 0, .int .i64 0, .int .i64 0, .int .i64 0, .int .i64 0, .int .i64 0, .int .i64 0, .int .i64 0, .int .i64 0, .int .i64 0, .int .i64 0] 93 (0, 0))) := Lib.hid (K.set u2.out 1 (.int .i64 x.key.tenant))
  have B2_1 : Hid (Below w.heap.size w (w2.setCell ⟨w.heap.size + 1 + 1, 1, none⟩ (.int .i64 x.key.tenant))) := Lib.hid (Below.setCell B2.out (p := ⟨w.heap.size + 1 + 1, 1, none⟩) (by simp; omega) (.int .i64 x.key.tenant))
  clear q2 z2 u2 B2
  have q2_2 : Hid (((w2.setCell ⟨w.heap.size + 1 + 1, 1, none⟩ (.int .i64 x.key.tenant)).setCell ⟨w.heap.size + 1 + 1, 2, none⟩ (.int .i64 x.key.key.src.k)).heap[w.heap.size]? = some (.cells #[.bool x.used, .int .i64 x.key.tenant, .int .i64 x.key.key.src.k, .int .i64 x.key.key.src.a, .int .i64 x.key.key.src.b, .int .i64 x.key.key.src.c, .int .i64 x.key.key.src.d, .int .i64 x.key.key.dst.k, .int .i64 x.key.key.dst.a, .int .i64 x.key.key.dst.b, .int .i64 x.key.key.dst.c, .int .i64 x.key.key.dst.d, .int .i64 x.key.key.proto, .int .i64 x.key.key.sport, .int .i64 x.key.key.dport, .int .i64 x.num] 132 (0, 0))) := Lib.hid (K.other q2_1.out (w.heap.size + 1 + 1) 2 (.int .i64 x.key.key.src.k) (by omega))
  have z2_2 : Hid (((w2.setCell ⟨w.heap.size + 1 + 1, 1, none⟩ (.int .i64 x.key.tenant)).setCell ⟨w.heap.size + 1 + 1, 2, none⟩ (.int .i64 x.key.key.src.k)).heap[w.heap.size + 1]? = some (.cells #[.bool false, .int .i64 0, .int .i64 0, .int .i64 0, .int .i64 0, .int .i64 0, .int .i64 0, .int .i64 0, .int .i64 0, .int .i64 0, .int .i64 0, .int .i64 0, .int .i64 0, .int .i64 0, .int .i64 0, .int .i64 0] 93 (0, 0))) := Lib.hid (K.other z2_1.out (w.heap.size + 1 + 1) 2 (.int .i64 x.key.key.src.k) (by omega))
  have u2_2 : Hid (((w2.setCell ⟨w.heap.size + 1 + 1, 1, none⟩ (.int .i64 x.key.tenant)).setCell ⟨w.heap.size + 1 + 1, 2, none⟩ (.int .i64 x.key.key.src.k)).heap[w.heap.size + 1 + 1]? = some (.cells #[.bool x.used, .int .i64 x.key.tenant, .int .i64 x.key.key.src.k, .int .i64 0, .int .i64 0, .int .i64 0, .int .i64 0, .int .i64 0, .int .i64 0, .int .i64 0, .int .i64 0, .int .i64 0, .int .i64 0, .int .i64 0, .int .i64 0, .int .i64 0] 93 (0, 0))) := Lib.hid (K.set u2_1.out 2 (.int .i64 x.key.key.src.k))
  have B2_2 : Hid (Below w.heap.size w ((w2.setCell ⟨w.heap.size + 1 + 1, 1, none⟩ (.int .i64 x.key.tenant)).setCell ⟨w.heap.size + 1 + 1, 2, none⟩ (.int .i64 x.key.key.src.k))) := Lib.hid (Below.setCell B2_1.out (p := ⟨w.heap.size + 1 + 1, 2, none⟩) (by simp; omega) (.int .i64 x.key.key.src.k))
  clear q2_1 z2_1 u2_1 B2_1
  have q2_3 : Hid ((((w2.setCell ⟨w.heap.size + 1 + 1, 1, none⟩ (.int .i64 x.key.tenant)).setCell ⟨w.heap.size + 1 + 1, 2, none⟩ (.int .i64 x.key.key.src.k)).setCell ⟨w.heap.size + 1 + 1, 3, none⟩ (.int .i64 x.key.key.src.a)).heap[w.heap.size]? = some (.cells #[.bool x.used, .int .i64 x.key.tenant, .int .i64 x.key.key.src.k, .int .i64 x.key.key.src.a, .int .i64 x.key.key.src.b, .int .i64 x.key.key.src.c, .int .i64 x.key.key.src.d, .int .i64 x.key.key.dst.k, .int .i64 x.key.key.dst.a, .int .i64 x.key.key.dst.b, .int .i64 x.key.key.dst.c, .int .i64 x.key.key.dst.d, .int .i64 x.key.key.proto, .int .i64 x.key.key.sport, .int .i64 x.key.key.dport, .int .i64 x.num] 132 (0, 0))) := Lib.hid (K.other q2_2.out (w.heap.size + 1 + 1) 3 (.int .i64 x.key.key.src.a) (by omega))
  have z2_3 : Hid ((((w2.setCell ⟨w.heap.size + 1 + 1, 1, none⟩ (.int .i64 x.key.tenant)).setCell ⟨w.heap.size + 1 + 1, 2, none⟩ (.int .i64 x.key.key.src.k)).setCell ⟨w.heap.size + 1 + 1, 3, none⟩ (.int .i64 x.key.key.src.a)).heap[w.heap.size + 1]? = some (.cells #[.bool false, .int .i64 0, .int .i64 0, .int .i64 0, .int .i64 0, .int .i64 0, .int .i64 0, .int .i64 0, .int .i64 0, .int .i64 0, .int .i64 0, .int .i64 0, .int .i64 0, .int .i64 0, .int .i64 0, .int .i64 0] 93 (0, 0))) := Lib.hid (K.other z2_2.out (w.heap.size + 1 + 1) 3 (.int .i64 x.key.key.src.a) (by omega))
  have u2_3 : Hid ((((w2.setCell ⟨w.heap.size + 1 + 1, 1, none⟩ (.int .i64 x.key.tenant)).setCell ⟨w.heap.size + 1 + 1, 2, none⟩ (.int .i64 x.key.key.src.k)).setCell ⟨w.heap.size + 1 + 1, 3, none⟩ (.int .i64 x.key.key.src.a)).heap[w.heap.size + 1 + 1]? = some (.cells #[.bool x.used, .int .i64 x.key.tenant, .int .i64 x.key.key.src.k, .int .i64 x.key.key.src.a, .int .i64 0, .int .i64 0, .int .i64 0, .int .i64 0, .int .i64 0, .int .i64 0, .int .i64 0, .int .i64 0, .int .i64 0, .int .i64 0, .int .i64 0, .int .i64 0] 93 (0, 0))) := Lib.hid (K.set u2_2.out 3 (.int .i64 x.key.key.src.a))
  have B2_3 : Hid (Below w.heap.size w (((w2.setCell ⟨w.heap.size + 1 + 1, 1, none⟩ (.int .i64 x.key.tenant)).setCell ⟨w.heap.size + 1 + 1, 2, none⟩ (.int .i64 x.key.key.src.k)).setCell ⟨w.heap.size + 1 + 1, 3, none⟩ (.int .i64 x.key.key.src.a))) := Lib.hid (Below.setCell B2_2.out (p := ⟨w.heap.size + 1 + 1, 3, none⟩) (by simp; omega) (.int .i64 x.key.key.src.a))
  clear q2_2 z2_2 u2_2 B2_2
  have q2_4 : Hid (((((w2.setCell ⟨w.heap.size + 1 + 1, 1, none⟩ (.int .i64 x.key.tenant)).setCell ⟨w.heap.size + 1 + 1, 2, none⟩ (.int .i64 x.key.key.src.k)).setCell ⟨w.heap.size + 1 + 1, 3, none⟩ (.int .i64 x.key.key.src.a)).setCell ⟨w.heap.size + 1 + 1, 4, none⟩ (.int .i64 x.key.key.src.b)).heap[w.heap.size]? = some (.cells #[.bool x.used, .int .i64 x.key.tenant, .int .i64 x.key.key.src.k, .int .i64 x.key.key.src.a, .int .i64 x.key.key.src.b, .int .i64 x.key.key.src.c, .int .i64 x.key.key.src.d, .int .i64 x.key.key.dst.k, .int .i64 x.key.key.dst.a, .int .i64 x.key.key.dst.b, .int .i64 x.key.key.dst.c, .int .i64 x.key.key.dst.d, .int .i64 x.key.key.proto, .int .i64 x.key.key.sport, .int .i64 x.key.key.dport, .int .i64 x.num] 132 (0, 0))) := Lib.hid (K.other q2_3.out (w.heap.size + 1 + 1) 4 (.int .i64 x.key.key.src.b) (by omega))
  have z2_4 : Hid (((((w2.setCell ⟨w.heap.size + 1 + 1, 1, none⟩ (.int .i64 x.key.tenant)).setCell ⟨w.heap.size + 1 + 1, 2, none⟩ (.int .i64 x.key.key.src.k)).setCell ⟨w.heap.size + 1 + 1, 3, none⟩ (.int .i64 x.key.key.src.a)).setCell ⟨w.heap.size + 1 + 1, 4, none⟩ (.int .i64 x.key.key.src.b)).heap[w.heap.size + 1]? = some (.cells #[.bool false, .int .i64 0, .int .i64 0, .int .i64 0, .int .i64 0, .int .i64 0, .int .i64 0, .int .i64 0, .int .i64 0, .int .i64 0, .int .i64 0, .int .i64 0, .int .i64 0, .int .i64 0, .int .i64 0, .int .i64 0] 93 (0, 0))) := Lib.hid (K.other z2_3.out (w.heap.size + 1 + 1) 4 (.int .i64 x.key.key.src.b) (by omega))
  have u2_4 : Hid (((((w2.setCell ⟨w.heap.size + 1 + 1, 1, none⟩ (.int .i64 x.key.tenant)).setCell ⟨w.heap.size + 1 + 1, 2, none⟩ (.int .i64 x.key.key.src.k)).setCell ⟨w.heap.size + 1 + 1, 3, none⟩ (.int .i64 x.key.key.src.a)).setCell ⟨w.heap.size + 1 + 1, 4, none⟩ (.int .i64 x.key.key.src.b)).heap[w.heap.size + 1 + 1]? = some (.cells #[.bool x.used, .int .i64 x.key.tenant, .int .i64 x.key.key.src.k, .int .i64 x.key.key.src.a, .int .i64 x.key.key.src.b, .int .i64 0, .int .i64 0, .int .i64 0, .int .i64 0, .int .i64 0, .int .i64 0, .int .i64 0, .int .i64 0, .int .i64 0, .int .i64 0, .int .i64 0] 93 (0, 0))) := Lib.hid (K.set u2_3.out 4 (.int .i64 x.key.key.src.b))
  have B2_4 : Hid (Below w.heap.size w ((((w2.setCell ⟨w.heap.size + 1 + 1, 1, none⟩ (.int .i64 x.key.tenant)).setCell ⟨w.heap.size + 1 + 1, 2, none⟩ (.int .i64 x.key.key.src.k)).setCell ⟨w.heap.size + 1 + 1, 3, none⟩ (.int .i64 x.key.key.src.a)).setCell ⟨w.heap.size + 1 + 1, 4, none⟩ (.int .i64 x.key.key.src.b))) := Lib.hid (Below.setCell B2_3.out (p := ⟨w.heap.size + 1 + 1, 4, none⟩) (by simp; omega) (.int .i64 x.key.key.src.b))
  clear q2_3 z2_3 u2_3 B2_3
  have q2_5 : Hid ((((((w2.setCell ⟨w.heap.size + 1 + 1, 1, none⟩ (.int .i64 x.key.tenant)).setCell ⟨w.heap.size + 1 + 1, 2, none⟩ (.int .i64 x.key.key.src.k)).setCell ⟨w.heap.size + 1 + 1, 3, none⟩ (.int .i64 x.key.key.src.a)).setCell ⟨w.heap.size + 1 + 1, 4, none⟩ (.int .i64 x.key.key.src.b)).setCell ⟨w.heap.size + 1 + 1, 5, none⟩ (.int .i64 x.key.key.src.c)).heap[w.heap.size]? = some (.cells #[.bool x.used, .int .i64 x.key.tenant, .int .i64 x.key.key.src.k, .int .i64 x.key.key.src.a, .int .i64 x.key.key.src.b, .int .i64 x.key.key.src.c, .int .i64 x.key.key.src.d, .int .i64 x.key.key.dst.k, .int .i64 x.key.key.dst.a, .int .i64 x.key.key.dst.b, .int .i64 x.key.key.dst.c, .int .i64 x.key.key.dst.d, .int .i64 x.key.key.proto, .int .i64 x.key.key.sport, .int .i64 x.key.key.dport, .int .i64 x.num] 132 (0, 0))) := Lib.hid (K.other q2_4.out (w.heap.size + 1 + 1) 5 (.int .i64 x.key.key.src.c) (by omega))
  have z2_5 : Hid ((((((w2.setCell ⟨w.heap.size + 1 + 1, 1, none⟩ (.int .i64 x.key.tenant)).setCell ⟨w.heap.size + 1 + 1, 2, none⟩ (.int .i64 x.key.key.src.k)).setCell ⟨w.heap.size + 1 + 1, 3, none⟩ (.int .i64 x.key.key.src.a)).setCell ⟨w.heap.size + 1 + 1, 4, none⟩ (.int .i64 x.key.key.src.b)).setCell ⟨w.heap.size + 1 + 1, 5, none⟩ (.int .i64 x.key.key.src.c)).heap[w.heap.size + 1]? = some (.cells #[.bool false, .int .i64 0, .int .i64 0, .int .i64 0, .int .i64 0, .int .i64 0, .int .i64 0, .int .i64 0, .int .i64 0, .int .i64 0, .int .i64 0, .int .i64 0, .int .i64 0, .int .i64 0, .int .i64 0, .int .i64 0] 93 (0, 0))) := Lib.hid (K.other z2_4.out (w.heap.size + 1 + 1) 5 (.int .i64 x.key.key.src.c) (by omega))
  have u2_5 : Hid ((((((w2.setCell ⟨w.heap.size + 1 + 1, 1, none⟩ (.int .i64 x.key.tenant)).setCell ⟨w.heap.size + 1 + 1, 2, none⟩ (.int .i64 x.key.key.src.k)).setCell ⟨w.heap.size + 1 + 1, 3, none⟩ (.int .i64 x.key.key.src.a)).setCell ⟨w.heap.size + 1 + 1, 4, none⟩ (.int .i64 x.key.key.src.b)).setCell ⟨w.heap.size + 1 + 1, 5, none⟩ (.int .i64 x.key.key.src.c)).heap[w.heap.size + 1 + 1]? = some (.cells #[.bool x.used, .int .i64 x.key.tenant, .int .i64 x.key.key.src.k, .int .i64 x.key.key.src.a, .int .i64 x.key.key.src.b, .int .i64 x.key.key.src.c, .int .i64 0, .int .i64 0, .int .i64 0, .int .i64 0, .int .i64 0, .int .i64 0, .int .i64 0, .int .i64 0, .int .i64 0, .int .i64 0] 93 (0, 0))) := Lib.hid (K.set u2_4.out 5 (.int .i64 x.key.key.src.c))
  have B2_5 : Hid (Below w.heap.size w (((((w2.setCell ⟨w.heap.size + 1 + 1, 1, none⟩ (.int .i64 x.key.tenant)).setCell ⟨w.heap.size + 1 + 1, 2, none⟩ (.int .i64 x.key.key.src.k)).setCell ⟨w.heap.size + 1 + 1, 3, none⟩ (.int .i64 x.key.key.src.a)).setCell ⟨w.heap.size + 1 + 1, 4, none⟩ (.int .i64 x.key.key.src.b)).setCell ⟨w.heap.size + 1 + 1, 5, none⟩ (.int .i64 x.key.key.src.c))) := Lib.hid (Below.setCell B2_4.out (p := ⟨w.heap.size + 1 + 1, 5, none⟩) (by simp; omega) (.int .i64 x.key.key.src.c))
  clear q2_4 z2_4 u2_4 B2_4
  have q2_6 : Hid (((((((w2.setCell ⟨w.heap.size + 1 + 1, 1, none⟩ (.int .i64 x.key.tenant)).setCell ⟨w.heap.size + 1 + 1, 2, none⟩ (.int .i64 x.key.key.src.k)).setCell ⟨w.heap.size + 1 + 1, 3, none⟩ (.int .i64 x.key.key.src.a)).setCell ⟨w.heap.size + 1 + 1, 4, none⟩ (.int .i64 x.key.key.src.b)).setCell ⟨w.heap.size + 1 + 1, 5, none⟩ (.int .i64 x.key.key.src.c)).setCell ⟨w.heap.size + 1 + 1, 6, none⟩ (.int .i64 x.key.key.src.d)).heap[w.heap.size]? = some (.cells #[.bool x.used, .int .i64 x.key.tenant, .int .i64 x.key.key.src.k, .int .i64 x.key.key.src.a, .int .i64 x.key.key.src.b, .int .i64 x.key.key.src.c, .int .i64 x.key.key.src.d, .int .i64 x.key.key.dst.k, .int .i64 x.key.key.dst.a, .int .i64 x.key.key.dst.b, .int .i64 x.key.key.dst.c, .int .i64 x.key.key.dst.d, .int .i64 x.key.key.proto, .int .i64 x.key.key.sport, .int .i64 x.key.key.dport, .int .i64 x.num] 132 (0, 0))) := Lib.hid (K.other q2_5.out (w.heap.size + 1 + 1) 6 (.int .i64 x.key.key.src.d) (by omega))
  have z2_6 : Hid (((((((w2.setCell ⟨w.heap.size + 1 + 1, 1, none⟩ (.int .i64 x.key.tenant)).setCell ⟨w.heap.size + 1 + 1, 2, none⟩ (.int .i64 x.key.key.src.k)).setCell ⟨w.heap.size + 1 + 1, 3, none⟩ (.int .i64 x.key.key.src.a)).setCell ⟨w.heap.size + 1 + 1, 4, none⟩ (.int .i64 x.key.key.src.b)).setCell ⟨w.heap.size + 1 + 1, 5, none⟩ (.int .i64 x.key.key.src.c)).setCell ⟨w.heap.size + 1 + 1, 6, none⟩ (.int .i64 x.key.key.src.d)).heap[w.heap.size + 1]? = some (.cells #[.bool false, .int .i64 0, .int .i64 0, .int .i64 0, .int .i64 0, .int .i64 0, .int .i64 0, .int .i64 0, .int .i64 0, .int .i64 0, .int .i64 0, .int .i64 0, .int .i64 0, .int .i64 0, .int .i64 0, .int .i64 0] 93 (0, 0))) := Lib.hid (K.other z2_5.out (w.heap.size + 1 + 1) 6 (.int .i64 x.key.key.src.d) (by omega))
  have u2_6 : Hid (((((((w2.setCell ⟨w.heap.size + 1 + 1, 1, none⟩ (.int .i64 x.key.tenant)).setCell ⟨w.heap.size + 1 + 1, 2, none⟩ (.int .i64 x.key.key.src.k)).setCell ⟨w.heap.size + 1 + 1, 3, none⟩ (.int .i64 x.key.key.src.a)).setCell ⟨w.heap.size + 1 + 1, 4, none⟩ (.int .i64 x.key.key.src.b)).setCell ⟨w.heap.size + 1 + 1, 5, none⟩ (.int .i64 x.key.key.src.c)).setCell ⟨w.heap.size + 1 + 1, 6, none⟩ (.int .i64 x.key.key.src.d)).heap[w.heap.size + 1 + 1]? = some (.cells #[.bool x.used, .int .i64 x.key.tenant, .int .i64 x.key.key.src.k, .int .i64 x.key.key.src.a, .int .i64 x.key.key.src.b, .int .i64 x.key.key.src.c, .int .i64 x.key.key.src.d, .int .i64 0, .int .i64 0, .int .i64 0, .int .i64 0, .int .i64 0, .int .i64 0, .int .i64 0, .int .i64 0, .int .i64 0] 93 (0, 0))) := Lib.hid (K.set u2_5.out 6 (.int .i64 x.key.key.src.d))
  have B2_6 : Hid (Below w.heap.size w ((((((w2.setCell ⟨w.heap.size + 1 + 1, 1, none⟩ (.int .i64 x.key.tenant)).setCell ⟨w.heap.size + 1 + 1, 2, none⟩ (.int .i64 x.key.key.src.k)).setCell ⟨w.heap.size + 1 + 1, 3, none⟩ (.int .i64 x.key.key.src.a)).setCell ⟨w.heap.size + 1 + 1, 4, none⟩ (.int .i64 x.key.key.src.b)).setCell ⟨w.heap.size + 1 + 1, 5, none⟩ (.int .i64 x.key.key.src.c)).setCell ⟨w.heap.size + 1 + 1, 6, none⟩ (.int .i64 x.key.key.src.d))) := Lib.hid (Below.setCell B2_5.out (p := ⟨w.heap.size + 1 + 1, 6, none⟩) (by simp; omega) (.int .i64 x.key.key.src.d))
  clear q2_5 z2_5 u2_5 B2_5
  have q2_7 : Hid ((((((((w2.setCell ⟨w.heap.size + 1 + 1, 1, none⟩ (.int .i64 x.key.tenant)).setCell ⟨w.heap.size + 1 + 1, 2, none⟩ (.int .i64 x.key.key.src.k)).setCell ⟨w.heap.size + 1 + 1, 3, none⟩ (.int .i64 x.key.key.src.a)).setCell ⟨w.heap.size + 1 + 1, 4, none⟩ (.int .i64 x.key.key.src.b)).setCell ⟨w.heap.size + 1 + 1, 5, none⟩ (.int .i64 x.key.key.src.c)).setCell ⟨w.heap.size + 1 + 1, 6, none⟩ (.int .i64 x.key.key.src.d)).setCell ⟨w.heap.size + 1 + 1, 7, none⟩ (.int .i64 x.key.key.dst.k)).heap[w.heap.size]? = some (.cells #[.bool x.used, .int .i64 x.key.tenant, .int .i64 x.key.key.src.k, .int .i64 x.key.key.src.a, .int .i64 x.key.key.src.b, .int .i64 x.key.key.src.c, .int .i64 x.key.key.src.d, .int .i64 x.key.key.dst.k, .int .i64 x.key.key.dst.a, .int .i64 x.key.key.dst.b, .int .i64 x.key.key.dst.c, .int .i64 x.key.key.dst.d, .int .i64 x.key.key.proto, .int .i64 x.key.key.sport, .int .i64 x.key.key.dport, .int .i64 x.num] 132 (0, 0))) := Lib.hid (K.other q2_6.out (w.heap.size + 1 + 1) 7 (.int .i64 x.key.key.dst.k) (by omega))
  have z2_7 : Hid ((((((((w2.setCell ⟨w.heap.size + 1 + 1, 1, none⟩ (.int .i64 x.key.tenant)).setCell ⟨w.heap.size + 1 + 1, 2, none⟩ (.int .i64 x.key.key.src.k)).setCell ⟨w.heap.size + 1 + 1, 3, none⟩ (.int .i64 x.key.key.src.a)).setCell ⟨w.heap.size + 1 + 1, 4, none⟩ (.int .i64 x.key.key.src.b)).setCell ⟨w.heap.size + 1 + 1, 5, none⟩ (.int .i64 x.key.key.src.c)).setCell ⟨w.heap.size + 1 + 1, 6, none⟩ (.int .i64 x.key.key.src.d)).setCell ⟨w.heap.size + 1 + 1, 7, none⟩ (.int .i64 x.key.key.dst.k)).heap[w.heap.size + 1]? = some (.cells #[.bool false, .int .i64 0, .int .i64 0, .int .i64 0, .int .i64 0, .int .i64 0, .int .i64 0, .int .i64 0, .int .i64 0, .int .i64 0, .int .i64 0, .int .i64 0, .int .i64 0, .int .i64 0, .int .i64 0, .int .i64 0] 93 (0, 0))) := Lib.hid (K.other z2_6.out (w.heap.size + 1 + 1) 7 (.int .i64 x.key.key.dst.k) (by omega))
  have u2_7 : Hid ((((((((w2.setCell ⟨w.heap.size + 1 + 1, 1, none⟩ (.int .i64 x.key.tenant)).setCell ⟨w.heap.size + 1 + 1, 2, none⟩ (.int .i64 x.key.key.src.k)).setCell ⟨w.heap.size + 1 + 1, 3, none⟩ (.int .i64 x.key.key.src.a)).setCell ⟨w.heap.size + 1 + 1, 4, none⟩ (.int .i64 x.key.key.src.b)).setCell ⟨w.heap.size + 1 + 1, 5, none⟩ (.int .i64 x.key.key.src.c)).setCell ⟨w.heap.size + 1 + 1, 6, none⟩ (.int .i64 x.key.key.src.d)).setCell ⟨w.heap.size + 1 + 1, 7, none⟩ (.int .i64 x.key.key.dst.k)).heap[w.heap.size + 1 + 1]? = some (.cells #[.bool x.used, .int .i64 x.key.tenant, .int .i64 x.key.key.src.k, .int .i64 x.key.key.src.a, .int .i64 x.key.key.src.b, .int .i64 x.key.key.src.c, .int .i64 x.key.key.src.d, .int .i64 x.key.key.dst.k, .int .i64 0, .int .i64 0, .int .i64 0, .int .i64 0, .int .i64 0, .int .i64 0, .int .i64 0, .int .i64 0] 93 (0, 0))) := Lib.hid (K.set u2_6.out 7 (.int .i64 x.key.key.dst.k))
  have B2_7 : Hid (Below w.heap.size w (((((((w2.setCell ⟨w.heap.size + 1 + 1, 1, none⟩ (.int .i64 x.key.tenant)).setCell ⟨w.heap.size + 1 + 1, 2, none⟩ (.int .i64 x.key.key.src.k)).setCell ⟨w.heap.size + 1 + 1, 3, none⟩ (.int .i64 x.key.key.src.a)).setCell ⟨w.heap.size + 1 + 1, 4, none⟩ (.int .i64 x.key.key.src.b)).setCell ⟨w.heap.size + 1 + 1, 5, none⟩ (.int .i64 x.key.key.src.c)).setCell ⟨w.heap.size + 1 + 1, 6, none⟩ (.int .i64 x.key.key.src.d)).setCell ⟨w.heap.size + 1 + 1, 7, none⟩ (.int .i64 x.key.key.dst.k))) := Lib.hid (Below.setCell B2_6.out (p := ⟨w.heap.size + 1 + 1, 7, none⟩) (by simp; omega) (.int .i64 x.key.key.dst.k))
  clear q2_6 z2_6 u2_6 B2_6
  have q2_8 : Hid (((((((((w2.setCell ⟨w.heap.size + 1 + 1, 1, none⟩ (.int .i64 x.key.tenant)).setCell ⟨w.heap.size + 1 + 1, 2, none⟩ (.int .i64 x.key.key.src.k)).setCell ⟨w.heap.size + 1 + 1, 3, none⟩ (.int .i64 x.key.key.src.a)).setCell ⟨w.heap.size + 1 + 1, 4, none⟩ (.int .i64 x.key.key.src.b)).setCell ⟨w.heap.size + 1 + 1, 5, none⟩ (.int .i64 x.key.key.src.c)).setCell ⟨w.heap.size + 1 + 1, 6, none⟩ (.int .i64 x.key.key.src.d)).setCell ⟨w.heap.size + 1 + 1, 7, none⟩ (.int .i64 x.key.key.dst.k)).setCell ⟨w.heap.size + 1 + 1, 8, none⟩ (.int .i64 x.key.key.dst.a)).heap[w.heap.size]? = some (.cells #[.bool x.used, .int .i64 x.key.tenant, .int .i64 x.key.key.src.k, .int .i64 x.key.key.src.a, .int .i64 x.key.key.src.b, .int .i64 x.key.key.src.c, .int .i64 x.key.key.src.d, .int .i64 x.key.key.dst.k, .int .i64 x.key.key.dst.a, .int .i64 x.key.key.dst.b, .int .i64 x.key.key.dst.c, .int .i64 x.key.key.dst.d, .int .i64 x.key.key.proto, .int .i64 x.key.key.sport, .int .i64 x.key.key.dport, .int .i64 x.num] 132 (0, 0))) := Lib.hid (K.other q2_7.out (w.heap.size + 1 + 1) 8 (.int .i64 x.key.key.dst.a) (by omega))
  have z2_8 : Hid (((((((((w2.setCell ⟨w.heap.size + 1 + 1, 1, none⟩ (.int .i64 x.key.tenant)).setCell ⟨w.heap.size + 1 + 1, 2, none⟩ (.int .i64 x.key.key.src.k)).setCell ⟨w.heap.size + 1 + 1, 3, none⟩ (.int .i64 x.key.key.src.a)).setCell ⟨w.heap.size + 1 + 1, 4, none⟩ (.int .i64 x.key.key.src.b)).setCell ⟨w.heap.size + 1 + 1, 5, none⟩ (.int .i64 x.key.key.src.c)).setCell ⟨w.heap.size + 1 + 1, 6, none⟩ (.int .i64 x.key.key.src.d)).setCell ⟨w.heap.size + 1 + 1, 7, none⟩ (.int .i64 x.key.key.dst.k)).setCell ⟨w.heap.size + 1 + 1, 8, none⟩ (.int .i64 x.key.key.dst.a)).heap[w.heap.size + 1]? = some (.cells #[.bool false, .int .i64 0, .int .i64 0, .int .i64 0, .int .i64 0, .int .i64 0, .int .i64 0, .int .i64 0, .int .i64 0, .int .i64 0, .int .i64 0, .int .i64 0, .int .i64 0, .int .i64 0, .int .i64 0, .int .i64 0] 93 (0, 0))) := Lib.hid (K.other z2_7.out (w.heap.size + 1 + 1) 8 (.int .i64 x.key.key.dst.a) (by omega))
  have u2_8 : Hid (((((((((w2.setCell ⟨w.heap.size + 1 + 1, 1, none⟩ (.int .i64 x.key.tenant)).setCell ⟨w.heap.size + 1 + 1, 2, none⟩ (.int .i64 x.key.key.src.k)).setCell ⟨w.heap.size + 1 + 1, 3, none⟩ (.int .i64 x.key.key.src.a)).setCell ⟨w.heap.size + 1 + 1, 4, none⟩ (.int .i64 x.key.key.src.b)).setCell ⟨w.heap.size + 1 + 1, 5, none⟩ (.int .i64 x.key.key.src.c)).setCell ⟨w.heap.size + 1 + 1, 6, none⟩ (.int .i64 x.key.key.src.d)).setCell ⟨w.heap.size + 1 + 1, 7, none⟩ (.int .i64 x.key.key.dst.k)).setCell ⟨w.heap.size + 1 + 1, 8, none⟩ (.int .i64 x.key.key.dst.a)).heap[w.heap.size + 1 + 1]? = some (.cells #[.bool x.used, .int .i64 x.key.tenant, .int .i64 x.key.key.src.k, .int .i64 x.key.key.src.a, .int .i64 x.key.key.src.b, .int .i64 x.key.key.src.c, .int .i64 x.key.key.src.d, .int .i64 x.key.key.dst.k, .int .i64 x.key.key.dst.a, .int .i64 0, .int .i64 0, .int .i64 0, .int .i64 0, .int .i64 0, .int .i64 0, .int .i64 0] 93 (0, 0))) := Lib.hid (K.set u2_7.out 8 (.int .i64 x.key.key.dst.a))
  have B2_8 : Hid (Below w.heap.size w ((((((((w2.setCell ⟨w.heap.size + 1 + 1, 1, none⟩ (.int .i64 x.key.tenant)).setCell ⟨w.heap.size + 1 + 1, 2, none⟩ (.int .i64 x.key.key.src.k)).setCell ⟨w.heap.size + 1 + 1, 3, none⟩ (.int .i64 x.key.key.src.a)).setCell ⟨w.heap.size + 1 + 1, 4, none⟩ (.int .i64 x.key.key.src.b)).setCell ⟨w.heap.size + 1 + 1, 5, none⟩ (.int .i64 x.key.key.src.c)).setCell ⟨w.heap.size + 1 + 1, 6, none⟩ (.int .i64 x.key.key.src.d)).setCell ⟨w.heap.size + 1 + 1, 7, none⟩ (.int .i64 x.key.key.dst.k)).setCell ⟨w.heap.size + 1 + 1, 8, none⟩ (.int .i64 x.key.key.dst.a))) := Lib.hid (Below.setCell B2_7.out (p := ⟨w.heap.size + 1 + 1, 8, none⟩) (by simp; omega) (.int .i64 x.key.key.dst.a))
  clear q2_7 z2_7 u2_7 B2_7
  have q2_9 : Hid ((((((((((w2.setCell ⟨w.heap.size + 1 + 1, 1, none⟩ (.int .i64 x.key.tenant)).setCell ⟨w.heap.size + 1 + 1, 2, none⟩ (.int .i64 x.key.key.src.k)).setCell ⟨w.heap.size + 1 + 1, 3, none⟩ (.int .i64 x.key.key.src.a)).setCell ⟨w.heap.size + 1 + 1, 4, none⟩ (.int .i64 x.key.key.src.b)).setCell ⟨w.heap.size + 1 + 1, 5, none⟩ (.int .i64 x.key.key.src.c)).setCell ⟨w.heap.size + 1 + 1, 6, none⟩ (.int .i64 x.key.key.src.d)).setCell ⟨w.heap.size + 1 + 1, 7, none⟩ (.int .i64 x.key.key.dst.k)).setCell ⟨w.heap.size + 1 + 1, 8, none⟩ (.int .i64 x.key.key.dst.a)).setCell ⟨w.heap.size + 1 + 1, 9, none⟩ (.int .i64 x.key.key.dst.b)).heap[w.heap.size]? = some (.cells #[.bool x.used, .int .i64 x.key.tenant, .int .i64 x.key.key.src.k, .int .i64 x.key.key.src.a, .int .i64 x.key.key.src.b, .int .i64 x.key.key.src.c, .int .i64 x.key.key.src.d, .int .i64 x.key.key.dst.k, .int .i64 x.key.key.dst.a, .int .i64 x.key.key.dst.b, .int .i64 x.key.key.dst.c, .int .i64 x.key.key.dst.d, .int .i64 x.key.key.proto, .int .i64 x.key.key.sport, .int .i64 x.key.key.dport, .int .i64 x.num] 132 (0, 0))) := Lib.hid (K.other q2_8.out (w.heap.size + 1 + 1) 9 (.int .i64 x.key.key.dst.b) (by omega))
  have z2_9 : Hid ((((((((((w2.setCell ⟨w.heap.size + 1 + 1, 1, none⟩ (.int .i64 x.key.tenant)).setCell ⟨w.heap.size + 1 + 1, 2, none⟩ (.int .i64 x.key.key.src.k)).setCell ⟨w.heap.size + 1 + 1, 3, none⟩ (.int .i64 x.key.key.src.a)).setCell ⟨w.heap.size + 1 + 1, 4, none⟩ (.int .i64 x.key.key.src.b)).setCell ⟨w.heap.size + 1 + 1, 5, none⟩ (.int .i64 x.key.key.src.c)).setCell ⟨w.heap.size + 1 + 1, 6, none⟩ (.int .i64 x.key.key.src.d)).setCell ⟨w.heap.size + 1 + 1, 7, none⟩ (.int .i64 x.key.key.dst.k)).setCell ⟨w.heap.size + 1 + 1, 8, none⟩ (.int .i64 x.key.key.dst.a)).setCell ⟨w.heap.size + 1 + 1, 9, none⟩ (.int .i64 x.key.key.dst.b)).heap[w.heap.size + 1]? = some (.cells #[.bool false, .int .i64 0, .int .i64 0, .int .i64 0, .int .i64 0, .int .i64 0, .int .i64 0, .int .i64 0, .int .i64 0, .int .i64 0, .int .i64 0, .int .i64 0, .int .i64 0, .int .i64 0, .int .i64 0, .int .i64 0] 93 (0, 0))) := Lib.hid (K.other z2_8.out (w.heap.size + 1 + 1) 9 (.int .i64 x.key.key.dst.b) (by omega))
  have u2_9 : Hid ((((((((((w2.setCell ⟨w.heap.size + 1 + 1, 1, none⟩ (.int .i64 x.key.tenant)).setCell ⟨w.heap.size + 1 + 1, 2, none⟩ (.int .i64 x.key.key.src.k)).setCell ⟨w.heap.size + 1 + 1, 3, none⟩ (.int .i64 x.key.key.src.a)).setCell ⟨w.heap.size + 1 + 1, 4, none⟩ (.int .i64 x.key.key.src.b)).setCell ⟨w.heap.size + 1 + 1, 5, none⟩ (.int .i64 x.key.key.src.c)).setCell ⟨w.heap.size + 1 + 1, 6, none⟩ (.int .i64 x.key.key.src.d)).setCell ⟨w.heap.size + 1 + 1, 7, none⟩ (.int .i64 x.key.key.dst.k)).setCell ⟨w.heap.size + 1 + 1, 8, none⟩ (.int .i64 x.key.key.dst.a)).setCell ⟨w.heap.size + 1 + 1, 9, none⟩ (.int .i64 x.key.key.dst.b)).heap[w.heap.size + 1 + 1]? = some (.cells #[.bool x.used, .int .i64 x.key.tenant, .int .i64 x.key.key.src.k, .int .i64 x.key.key.src.a, .int .i64 x.key.key.src.b, .int .i64 x.key.key.src.c, .int .i64 x.key.key.src.d, .int .i64 x.key.key.dst.k, .int .i64 x.key.key.dst.a, .int .i64 x.key.key.dst.b, .int .i64 0, .int .i64 0, .int .i64 0, .int .i64 0, .int .i64 0, .int .i64 0] 93 (0, 0))) := Lib.hid (K.set u2_8.out 9 (.int .i64 x.key.key.dst.b))
  have B2_9 : Hid (Below w.heap.size w (((((((((w2.setCell ⟨w.heap.size + 1 + 1, 1, none⟩ (.int .i64 x.key.tenant)).setCell ⟨w.heap.size + 1 + 1, 2, none⟩ (.int .i64 x.key.key.src.k)).setCell ⟨w.heap.size + 1 + 1, 3, none⟩ (.int .i64 x.key.key.src.a)).setCell ⟨w.heap.size + 1 + 1, 4, none⟩ (.int .i64 x.key.key.src.b)).setCell ⟨w.heap.size + 1 + 1, 5, none⟩ (.int .i64 x.key.key.src.c)).setCell ⟨w.heap.size + 1 + 1, 6, none⟩ (.int .i64 x.key.key.src.d)).setCell ⟨w.heap.size + 1 + 1, 7, none⟩ (.int .i64 x.key.key.dst.k)).setCell ⟨w.heap.size + 1 + 1, 8, none⟩ (.int .i64 x.key.key.dst.a)).setCell ⟨w.heap.size + 1 + 1, 9, none⟩ (.int .i64 x.key.key.dst.b))) := Lib.hid (Below.setCell B2_8.out (p := ⟨w.heap.size + 1 + 1, 9, none⟩) (by simp; omega) (.int .i64 x.key.key.dst.b))
  clear q2_8 z2_8 u2_8 B2_8
  have q2_10 : Hid (((((((((((w2.setCell ⟨w.heap.size + 1 + 1, 1, none⟩ (.int .i64 x.key.tenant)).setCell ⟨w.heap.size + 1 + 1, 2, none⟩ (.int .i64 x.key.key.src.k)).setCell ⟨w.heap.size + 1 + 1, 3, none⟩ (.int .i64 x.key.key.src.a)).setCell ⟨w.heap.size + 1 + 1, 4, none⟩ (.int .i64 x.key.key.src.b)).setCell ⟨w.heap.size + 1 + 1, 5, none⟩ (.int .i64 x.key.key.src.c)).setCell ⟨w.heap.size + 1 + 1, 6, none⟩ (.int .i64 x.key.key.src.d)).setCell ⟨w.heap.size + 1 + 1, 7, none⟩ (.int .i64 x.key.key.dst.k)).setCell ⟨w.heap.size + 1 + 1, 8, none⟩ (.int .i64 x.key.key.dst.a)).setCell ⟨w.heap.size + 1 + 1, 9, none⟩ (.int .i64 x.key.key.dst.b)).setCell ⟨w.heap.size + 1 + 1, 10, none⟩ (.int .i64 x.key.key.dst.c)).heap[w.heap.size]? = some (.cells #[.bool x.used, .int .i64 x.key.tenant, .int .i64 x.key.key.src.k, .int .i64 x.key.key.src.a, .int .i64 x.key.key.src.b, .int .i64 x.key.key.src.c, .int .i64 x.key.key.src.d, .int .i64 x.key.key.dst.k, .int .i64 x.key.key.dst.a, .int .i64 x.key.key.dst.b, .int .i64 x.key.key.dst.c, .int .i64 x.key.key.dst.d, .int .i64 x.key.key.proto, .int .i64 x.key.key.sport, .int .i64 x.key.key.dport, .int .i64 x.num] 132 (0, 0))) := Lib.hid (K.other q2_9.out (w.heap.size + 1 + 1) 10 (.int .i64 x.key.key.dst.c) (by omega))
  have z2_10 : Hid (((((((((((w2.setCell ⟨w.heap.size + 1 + 1, 1, none⟩ (.int .i64 x.key.tenant)).setCell ⟨w.heap.size + 1 + 1, 2, none⟩ (.int .i64 x.key.key.src.k)).setCell ⟨w.heap.size + 1 + 1, 3, none⟩ (.int .i64 x.key.key.src.a)).setCell ⟨w.heap.size + 1 + 1, 4, none⟩ (.int .i64 x.key.key.src.b)).setCell ⟨w.heap.size + 1 + 1, 5, none⟩ (.int .i64 x.key.key.src.c)).setCell ⟨w.heap.size + 1 + 1, 6, none⟩ (.int .i64 x.key.key.src.d)).setCell ⟨w.heap.size + 1 + 1, 7, none⟩ (.int .i64 x.key.key.dst.k)).setCell ⟨w.heap.size + 1 + 1, 8, none⟩ (.int .i64 x.key.key.dst.a)).setCell ⟨w.heap.size + 1 + 1, 9, none⟩ (.int .i64 x.key.key.dst.b)).setCell ⟨w.heap.size + 1 + 1, 10, none⟩ (.int .i64 x.key.key.dst.c)).heap[w.heap.size + 1]? = some (.cells #[.bool false, .int .i64 0, .int .i64 0, .int .i64 0, .int .i64 0, .int .i64 0, .int .i64 0, .int .i64 0, .int .i64 0, .int .i64 0, .int .i64 0, .int .i64 0, .int .i64 0, .int .i64 0, .int .i64 0, .int .i64 0] 93 (0, 0))) := Lib.hid (K.other z2_9.out (w.heap.size + 1 + 1) 10 (.int .i64 x.key.key.dst.c) (by omega))
  have u2_10 : Hid (((((((((((w2.setCell ⟨w.heap.size + 1 + 1, 1, none⟩ (.int .i64 x.key.tenant)).setCell ⟨w.heap.size + 1 + 1, 2, none⟩ (.int .i64 x.key.key.src.k)).setCell ⟨w.heap.size + 1 + 1, 3, none⟩ (.int .i64 x.key.key.src.a)).setCell ⟨w.heap.size + 1 + 1, 4, none⟩ (.int .i64 x.key.key.src.b)).setCell ⟨w.heap.size + 1 + 1, 5, none⟩ (.int .i64 x.key.key.src.c)).setCell ⟨w.heap.size + 1 + 1, 6, none⟩ (.int .i64 x.key.key.src.d)).setCell ⟨w.heap.size + 1 + 1, 7, none⟩ (.int .i64 x.key.key.dst.k)).setCell ⟨w.heap.size + 1 + 1, 8, none⟩ (.int .i64 x.key.key.dst.a)).setCell ⟨w.heap.size + 1 + 1, 9, none⟩ (.int .i64 x.key.key.dst.b)).setCell ⟨w.heap.size + 1 + 1, 10, none⟩ (.int .i64 x.key.key.dst.c)).heap[w.heap.size + 1 + 1]? = some (.cells #[.bool x.used, .int .i64 x.key.tenant, .int .i64 x.key.key.src.k, .int .i64 x.key.key.src.a, .int .i64 x.key.key.src.b, .int .i64 x.key.key.src.c, .int .i64 x.key.key.src.d, .int .i64 x.key.key.dst.k, .int .i64 x.key.key.dst.a, .int .i64 x.key.key.dst.b, .int .i64 x.key.key.dst.c, .int .i64 0, .int .i64 0, .int .i64 0, .int .i64 0, .int .i64 0] 93 (0, 0))) := Lib.hid (K.set u2_9.out 10 (.int .i64 x.key.key.dst.c))
  have B2_10 : Hid (Below w.heap.size w ((((((((((w2.setCell ⟨w.heap.size + 1 + 1, 1, none⟩ (.int .i64 x.key.tenant)).setCell ⟨w.heap.size + 1 + 1, 2, none⟩ (.int .i64 x.key.key.src.k)).setCell ⟨w.heap.size + 1 + 1, 3, none⟩ (.int .i64 x.key.key.src.a)).setCell ⟨w.heap.size + 1 + 1, 4, none⟩ (.int .i64 x.key.key.src.b)).setCell ⟨w.heap.size + 1 + 1, 5, none⟩ (.int .i64 x.key.key.src.c)).setCell ⟨w.heap.size + 1 + 1, 6, none⟩ (.int .i64 x.key.key.src.d)).setCell ⟨w.heap.size + 1 + 1, 7, none⟩ (.int .i64 x.key.key.dst.k)).setCell ⟨w.heap.size + 1 + 1, 8, none⟩ (.int .i64 x.key.key.dst.a)).setCell ⟨w.heap.size + 1 + 1, 9, none⟩ (.int .i64 x.key.key.dst.b)).setCell ⟨w.heap.size + 1 + 1, 10, none⟩ (.int .i64 x.key.key.dst.c))) := Lib.hid (Below.setCell B2_9.out (p := ⟨w.heap.size + 1 + 1, 10, none⟩) (by simp; omega) (.int .i64 x.key.key.dst.c))
  clear q2_9 z2_9 u2_9 B2_9
  have q2_11 : Hid ((((((((((((w2.setCell ⟨w.heap.size + 1 + 1, 1, none⟩ (.int .i64 x.key.tenant)).setCell ⟨w.heap.size + 1 + 1, 2, none⟩ (.int .i64 x.key.key.src.k)).setCell ⟨w.heap.size + 1 + 1, 3, none⟩ (.int .i64 x.key.key.src.a)).setCell ⟨w.heap.size + 1 + 1, 4, none⟩ (.int .i64 x.key.key.src.b)).setCell ⟨w.heap.size + 1 + 1, 5, none⟩ (.int .i64 x.key.key.src.c)).setCell ⟨w.heap.size + 1 + 1, 6, none⟩ (.int .i64 x.key.key.src.d)).setCell ⟨w.heap.size + 1 + 1, 7, none⟩ (.int .i64 x.key.key.dst.k)).setCell ⟨w.heap.size + 1 + 1, 8, none⟩ (.int .i64 x.key.key.dst.a)).setCell ⟨w.heap.size + 1 + 1, 9, none⟩ (.int .i64 x.key.key.dst.b)).setCell ⟨w.heap.size + 1 + 1, 10, none⟩ (.int .i64 x.key.key.dst.c)).setCell ⟨w.heap.size + 1 + 1, 11, none⟩ (.int .i64 x.key.key.dst.d)).heap[w.heap.size]? = some (.cells #[.bool x.used, .int .i64 x.key.tenant, .int .i64 x.key.key.src.k, .int .i64 x.key.key.src.a, .int .i64 x.key.key.src.b, .int .i64 x.key.key.src.c, .int .i64 x.key.key.src.d, .int .i64 x.key.key.dst.k, .int .i64 x.key.key.dst.a, .int .i64 x.key.key.dst.b, .int .i64 x.key.key.dst.c, .int .i64 x.key.key.dst.d, .int .i64 x.key.key.proto, .int .i64 x.key.key.sport, .int .i64 x.key.key.dport, .int .i64 x.num] 132 (0, 0))) := Lib.hid (K.other q2_10.out (w.heap.size + 1 + 1) 11 (.int .i64 x.key.key.dst.d) (by omega))
  have z2_11 : Hid ((((((((((((w2.setCell ⟨w.heap.size + 1 + 1, 1, none⟩ (.int .i64 x.key.tenant)).setCell ⟨w.heap.size + 1 + 1, 2, none⟩ (.int .i64 x.key.key.src.k)).setCell ⟨w.heap.size + 1 + 1, 3, none⟩ (.int .i64 x.key.key.src.a)).setCell ⟨w.heap.size + 1 + 1, 4, none⟩ (.int .i64 x.key.key.src.b)).setCell ⟨w.heap.size + 1 + 1, 5, none⟩ (.int .i64 x.key.key.src.c)).setCell ⟨w.heap.size + 1 + 1, 6, none⟩ (.int .i64 x.key.key.src.d)).setCell ⟨w.heap.size + 1 + 1, 7, none⟩ (.int .i64 x.key.key.dst.k)).setCell ⟨w.heap.size + 1 + 1, 8, none⟩ (.int .i64 x.key.key.dst.a)).setCell ⟨w.heap.size + 1 + 1, 9, none⟩ (.int .i64 x.key.key.dst.b)).setCell ⟨w.heap.size + 1 + 1, 10, none⟩ (.int .i64 x.key.key.dst.c)).setCell ⟨w.heap.size + 1 + 1, 11, none⟩ (.int .i64 x.key.key.dst.d)).heap[w.heap.size + 1]? = some (.cells #[.bool false, .int .i64 0, .int .i64 0, .int .i64 0, .int .i64 0, .int .i64 0, .int .i64 0, .int .i64 0, .int .i64 0, .int .i64 0, .int .i64 0, .int .i64 0, .int .i64 0, .int .i64 0, .int .i64 0, .int .i64 0] 93 (0, 0))) := Lib.hid (K.other z2_10.out (w.heap.size + 1 + 1) 11 (.int .i64 x.key.key.dst.d) (by omega))
  have u2_11 : Hid ((((((((((((w2.setCell ⟨w.heap.size + 1 + 1, 1, none⟩ (.int .i64 x.key.tenant)).setCell ⟨w.heap.size + 1 + 1, 2, none⟩ (.int .i64 x.key.key.src.k)).setCell ⟨w.heap.size + 1 + 1, 3, none⟩ (.int .i64 x.key.key.src.a)).setCell ⟨w.heap.size + 1 + 1, 4, none⟩ (.int .i64 x.key.key.src.b)).setCell ⟨w.heap.size + 1 + 1, 5, none⟩ (.int .i64 x.key.key.src.c)).setCell ⟨w.heap.size + 1 + 1, 6, none⟩ (.int .i64 x.key.key.src.d)).setCell ⟨w.heap.size + 1 + 1, 7, none⟩ (.int .i64 x.key.key.dst.k)).setCell ⟨w.heap.size + 1 + 1, 8, none⟩ (.int .i64 x.key.key.dst.a)).setCell ⟨w.heap.size + 1 + 1, 9, none⟩ (.int .i64 x.key.key.dst.b)).setCell ⟨w.heap.size + 1 + 1, 10, none⟩ (.int .i64 x.key.key.dst.c)).setCell ⟨w.heap.size + 1 + 1, 11, none⟩ (.int .i64 x.key.key.dst.d)).heap[w.heap.size + 1 + 1]? = some (.cells #[.bool x.used, .int .i64 x.key.tenant, .int .i64 x.key.key.src.k, .int .i64 x.key.key.src.a, .int .i64 x.key.key.src.b, .int .i64 x.key.key.src.c, .int .i64 x.key.key.src.d, .int .i64 x.key.key.dst.k, .int .i64 x.key.key.dst.a, .int .i64 x.key.key.dst.b, .int .i64 x.key.key.dst.c, .int .i64 x.key.key.dst.d, .int .i64 0, .int .i64 0, .int .i64 0, .int .i64 0] 93 (0, 0))) := Lib.hid (K.set u2_10.out 11 (.int .i64 x.key.key.dst.d))
  have B2_11 : Hid (Below w.heap.size w (((((((((((w2.setCell ⟨w.heap.size + 1 + 1, 1, none⟩ (.int .i64 x.key.tenant)).setCell ⟨w.heap.size + 1 + 1, 2, none⟩ (.int .i64 x.key.key.src.k)).setCell ⟨w.heap.size + 1 + 1, 3, none⟩ (.int .i64 x.key.key.src.a)).setCell ⟨w.heap.size + 1 + 1, 4, none⟩ (.int .i64 x.key.key.src.b)).setCell ⟨w.heap.size + 1 + 1, 5, none⟩ (.int .i64 x.key.key.src.c)).setCell ⟨w.heap.size + 1 + 1, 6, none⟩ (.int .i64 x.key.key.src.d)).setCell ⟨w.heap.size + 1 + 1, 7, none⟩ (.int .i64 x.key.key.dst.k)).setCell ⟨w.heap.size + 1 + 1, 8, none⟩ (.int .i64 x.key.key.dst.a)).setCell ⟨w.heap.size + 1 + 1, 9, none⟩ (.int .i64 x.key.key.dst.b)).setCell ⟨w.heap.size + 1 + 1, 10, none⟩ (.int .i64 x.key.key.dst.c)).setCell ⟨w.heap.size + 1 + 1, 11, none⟩ (.int .i64 x.key.key.dst.d))) := Lib.hid (Below.setCell B2_10.out (p := ⟨w.heap.size + 1 + 1, 11, none⟩) (by simp; omega) (.int .i64 x.key.key.dst.d))
  clear q2_10 z2_10 u2_10 B2_10
  have q2_12 : Hid (((((((((((((w2.setCell ⟨w.heap.size + 1 + 1, 1, none⟩ (.int .i64 x.key.tenant)).setCell ⟨w.heap.size + 1 + 1, 2, none⟩ (.int .i64 x.key.key.src.k)).setCell ⟨w.heap.size + 1 + 1, 3, none⟩ (.int .i64 x.key.key.src.a)).setCell ⟨w.heap.size + 1 + 1, 4, none⟩ (.int .i64 x.key.key.src.b)).setCell ⟨w.heap.size + 1 + 1, 5, none⟩ (.int .i64 x.key.key.src.c)).setCell ⟨w.heap.size + 1 + 1, 6, none⟩ (.int .i64 x.key.key.src.d)).setCell ⟨w.heap.size + 1 + 1, 7, none⟩ (.int .i64 x.key.key.dst.k)).setCell ⟨w.heap.size + 1 + 1, 8, none⟩ (.int .i64 x.key.key.dst.a)).setCell ⟨w.heap.size + 1 + 1, 9, none⟩ (.int .i64 x.key.key.dst.b)).setCell ⟨w.heap.size + 1 + 1, 10, none⟩ (.int .i64 x.key.key.dst.c)).setCell ⟨w.heap.size + 1 + 1, 11, none⟩ (.int .i64 x.key.key.dst.d)).setCell ⟨w.heap.size + 1 + 1, 12, none⟩ (.int .i64 x.key.key.proto)).heap[w.heap.size]? = some (.cells #[.bool x.used, .int .i64 x.key.tenant, .int .i64 x.key.key.src.k, .int .i64 x.key.key.src.a, .int .i64 x.key.key.src.b, .int .i64 x.key.key.src.c, .int .i64 x.key.key.src.d, .int .i64 x.key.key.dst.k, .int .i64 x.key.key.dst.a, .int .i64 x.key.key.dst.b, .int .i64 x.key.key.dst.c, .int .i64 x.key.key.dst.d, .int .i64 x.key.key.proto, .int .i64 x.key.key.sport, .int .i64 x.key.key.dport, .int .i64 x.num] 132 (0, 0))) := Lib.hid (K.other q2_11.out (w.heap.size + 1 + 1) 12 (.int .i64 x.key.key.proto) (by omega))
  have z2_12 : Hid (((((((((((((w2.setCell ⟨w.heap.size + 1 + 1, 1, none⟩ (.int .i64 x.key.tenant)).setCell ⟨w.heap.size + 1 + 1, 2, none⟩ (.int .i64 x.key.key.src.k)).setCell ⟨w.heap.size + 1 + 1, 3, none⟩ (.int .i64 x.key.key.src.a)).setCell ⟨w.heap.size + 1 + 1, 4, none⟩ (.int .i64 x.key.key.src.b)).setCell ⟨w.heap.size + 1 + 1, 5, none⟩ (.int .i64 x.key.key.src.c)).setCell ⟨w.heap.size + 1 + 1, 6, none⟩ (.int .i64 x.key.key.src.d)).setCell ⟨w.heap.size + 1 + 1, 7, none⟩ (.int .i64 x.key.key.dst.k)).setCell ⟨w.heap.size + 1 + 1, 8, none⟩ (.int .i64 x.key.key.dst.a)).setCell ⟨w.heap.size + 1 + 1, 9, none⟩ (.int .i64 x.key.key.dst.b)).setCell ⟨w.heap.size + 1 + 1, 10, none⟩ (.int .i64 x.key.key.dst.c)).setCell ⟨w.heap.size + 1 + 1, 11, none⟩ (.int .i64 x.key.key.dst.d)).setCell ⟨w.heap.size + 1 + 1, 12, none⟩ (.int .i64 x.key.key.proto)).heap[w.heap.size + 1]? = some (.cells #[.bool false, .int .i64 0, .int .i64 0, .int .i64 0, .int .i64 0, .int .i64 0, .int .i64 0, .int .i64 0, .int .i64 0, .int .i64 0, .int .i64 0, .int .i64 0, .int .i64 0, .int .i64 0, .int .i64 0, .int .i64 0] 93 (0, 0))) := Lib.hid (K.other z2_11.out (w.heap.size + 1 + 1) 12 (.int .i64 x.key.key.proto) (by omega))
  have u2_12 : Hid (((((((((((((w2.setCell ⟨w.heap.size + 1 + 1, 1, none⟩ (.int .i64 x.key.tenant)).setCell ⟨w.heap.size + 1 + 1, 2, none⟩ (.int .i64 x.key.key.src.k)).setCell ⟨w.heap.size + 1 + 1, 3, none⟩ (.int .i64 x.key.key.src.a)).setCell ⟨w.heap.size + 1 + 1, 4, none⟩ (.int .i64 x.key.key.src.b)).setCell ⟨w.heap.size + 1 + 1, 5, none⟩ (.int .i64 x.key.key.src.c)).setCell ⟨w.heap.size + 1 + 1, 6, none⟩ (.int .i64 x.key.key.src.d)).setCell ⟨w.heap.size + 1 + 1, 7, none⟩ (.int .i64 x.key.key.dst.k)).setCell ⟨w.heap.size + 1 + 1, 8, none⟩ (.int .i64 x.key.key.dst.a)).setCell ⟨w.heap.size + 1 + 1, 9, none⟩ (.int .i64 x.key.key.dst.b)).setCell ⟨w.heap.size + 1 + 1, 10, none⟩ (.int .i64 x.key.key.dst.c)).setCell ⟨w.heap.size + 1 + 1, 11, none⟩ (.int .i64 x.key.key.dst.d)).setCell ⟨w.heap.size + 1 + 1, 12, none⟩ (.int .i64 x.key.key.proto)).heap[w.heap.size + 1 + 1]? = some (.cells #[.bool x.used, .int .i64 x.key.tenant, .int .i64 x.key.key.src.k, .int .i64 x.key.key.src.a, .int .i64 x.key.key.src.b, .int .i64 x.key.key.src.c, .int .i64 x.key.key.src.d, .int .i64 x.key.key.dst.k, .int .i64 x.key.key.dst.a, .int .i64 x.key.key.dst.b, .int .i64 x.key.key.dst.c, .int .i64 x.key.key.dst.d, .int .i64 x.key.key.proto, .int .i64 0, .int .i64 0, .int .i64 0] 93 (0, 0))) := Lib.hid (K.set u2_11.out 12 (.int .i64 x.key.key.proto))
  have B2_12 : Hid (Below w.heap.size w ((((((((((((w2.setCell ⟨w.heap.size + 1 + 1, 1, none⟩ (.int .i64 x.key.tenant)).setCell ⟨w.heap.size + 1 + 1, 2, none⟩ (.int .i64 x.key.key.src.k)).setCell ⟨w.heap.size + 1 + 1, 3, none⟩ (.int .i64 x.key.key.src.a)).setCell ⟨w.heap.size + 1 + 1, 4, none⟩ (.int .i64 x.key.key.src.b)).setCell ⟨w.heap.size + 1 + 1, 5, none⟩ (.int .i64 x.key.key.src.c)).setCell ⟨w.heap.size + 1 + 1, 6, none⟩ (.int .i64 x.key.key.src.d)).setCell ⟨w.heap.size + 1 + 1, 7, none⟩ (.int .i64 x.key.key.dst.k)).setCell ⟨w.heap.size + 1 + 1, 8, none⟩ (.int .i64 x.key.key.dst.a)).setCell ⟨w.heap.size + 1 + 1, 9, none⟩ (.int .i64 x.key.key.dst.b)).setCell ⟨w.heap.size + 1 + 1, 10, none⟩ (.int .i64 x.key.key.dst.c)).setCell ⟨w.heap.size + 1 + 1, 11, none⟩ (.int .i64 x.key.key.dst.d)).setCell ⟨w.heap.size + 1 + 1, 12, none⟩ (.int .i64 x.key.key.proto))) := Lib.hid (Below.setCell B2_11.out (p := ⟨w.heap.size + 1 + 1, 12, none⟩) (by simp; omega) (.int .i64 x.key.key.proto))
  clear q2_11 z2_11 u2_11 B2_11
  have q2_13 : Hid ((((((((((((((w2.setCell ⟨w.heap.size + 1 + 1, 1, none⟩ (.int .i64 x.key.tenant)).setCell ⟨w.heap.size + 1 + 1, 2, none⟩ (.int .i64 x.key.key.src.k)).setCell ⟨w.heap.size + 1 + 1, 3, none⟩ (.int .i64 x.key.key.src.a)).setCell ⟨w.heap.size + 1 + 1, 4, none⟩ (.int .i64 x.key.key.src.b)).setCell ⟨w.heap.size + 1 + 1, 5, none⟩ (.int .i64 x.key.key.src.c)).setCell ⟨w.heap.size + 1 + 1, 6, none⟩ (.int .i64 x.key.key.src.d)).setCell ⟨w.heap.size + 1 + 1, 7, none⟩ (.int .i64 x.key.key.dst.k)).setCell ⟨w.heap.size + 1 + 1, 8, none⟩ (.int .i64 x.key.key.dst.a)).setCell ⟨w.heap.size + 1 + 1, 9, none⟩ (.int .i64 x.key.key.dst.b)).setCell ⟨w.heap.size + 1 + 1, 10, none⟩ (.int .i64 x.key.key.dst.c)).setCell ⟨w.heap.size + 1 + 1, 11, none⟩ (.int .i64 x.key.key.dst.d)).setCell ⟨w.heap.size + 1 + 1, 12, none⟩ (.int .i64 x.key.key.proto)).setCell ⟨w.heap.size + 1 + 1, 13, none⟩ (.int .i64 x.key.key.sport)).heap[w.heap.size]? = some (.cells #[.bool x.used, .int .i64 x.key.tenant, .int .i64 x.key.key.src.k, .int .i64 x.key.key.src.a, .int .i64 x.key.key.src.b, .int .i64 x.key.key.src.c, .int .i64 x.key.key.src.d, .int .i64 x.key.key.dst.k, .int .i64 x.key.key.dst.a, .int .i64 x.key.key.dst.b, .int .i64 x.key.key.dst.c, .int .i64 x.key.key.dst.d, .int .i64 x.key.key.proto, .int .i64 x.key.key.sport, .int .i64 x.key.key.dport, .int .i64 x.num] 132 (0, 0))) := Lib.hid (K.other q2_12.out (w.heap.size + 1 + 1) 13 (.int .i64 x.key.key.sport) (by omega))
  have z2_13 : Hid ((((((((((((((w2.setCell ⟨w.heap.size + 1 + 1, 1, none⟩ (.int .i64 x.key.tenant)).setCell ⟨w.heap.size + 1 + 1, 2, none⟩ (.int .i64 x.key.key.src.k)).setCell ⟨w.heap.size + 1 + 1, 3, none⟩ (.int .i64 x.key.key.src.a)).setCell ⟨w.heap.size + 1 + 1, 4, none⟩ (.int .i64 x.key.key.src.b)).setCell ⟨w.heap.size + 1 + 1, 5, none⟩ (.int .i64 x.key.key.src.c)).setCell ⟨w.heap.size + 1 + 1, 6, none⟩ (.int .i64 x.key.key.src.d)).setCell ⟨w.heap.size + 1 + 1, 7, none⟩ (.int .i64 x.key.key.dst.k)).setCell ⟨w.heap.size + 1 + 1, 8, none⟩ (.int .i64 x.key.key.dst.a)).setCell ⟨w.heap.size + 1 + 1, 9, none⟩ (.int .i64 x.key.key.dst.b)).setCell ⟨w.heap.size + 1 + 1, 10, none⟩ (.int .i64 x.key.key.dst.c)).setCell ⟨w.heap.size + 1 + 1, 11, none⟩ (.int .i64 x.key.key.dst.d)).setCell ⟨w.heap.size + 1 + 1, 12, none⟩ (.int .i64 x.key.key.proto)).setCell ⟨w.heap.size + 1 + 1, 13, none⟩ (.int .i64 x.key.key.sport)).heap[w.heap.size + 1]? = some (.cells #[.bool false, .int .i64 0, .int .i64 0, .int .i64 0, .int .i64 0, .int .i64 0, .int .i64 0, .int .i64 0, .int .i64 0, .int .i64 0, .int .i64 0, .int .i64 0, .int .i64 0, .int .i64 0, .int .i64 0, .int .i64 0] 93 (0, 0))) := Lib.hid (K.other z2_12.out (w.heap.size + 1 + 1) 13 (.int .i64 x.key.key.sport) (by omega))
  have u2_13 : Hid ((((((((((((((w2.setCell ⟨w.heap.size + 1 + 1, 1, none⟩ (.int .i64 x.key.tenant)).setCell ⟨w.heap.size + 1 + 1, 2, none⟩ (.int .i64 x.key.key.src.k)).setCell ⟨w.heap.size + 1 + 1, 3, none⟩ (.int .i64 x.key.key.src.a)).setCell ⟨w.heap.size + 1 + 1, 4, none⟩ (.int .i64 x.key.key.src.b)).setCell ⟨w.heap.size + 1 + 1, 5, none⟩ (.int .i64 x.key.key.src.c)).setCell ⟨w.heap.size + 1 + 1, 6, none⟩ (.int .i64 x.key.key.src.d)).setCell ⟨w.heap.size + 1 + 1, 7, none⟩ (.int .i64 x.key.key.dst.k)).setCell ⟨w.heap.size + 1 + 1, 8, none⟩ (.int .i64 x.key.key.dst.a)).setCell ⟨w.heap.size + 1 + 1, 9, none⟩ (.int .i64 x.key.key.dst.b)).setCell ⟨w.heap.size + 1 + 1, 10, none⟩ (.int .i64 x.key.key.dst.c)).setCell ⟨w.heap.size + 1 + 1, 11, none⟩ (.int .i64 x.key.key.dst.d)).setCell ⟨w.heap.size + 1 + 1, 12, none⟩ (.int .i64 x.key.key.proto)).setCell ⟨w.heap.size + 1 + 1, 13, none⟩ (.int .i64 x.key.key.sport)).heap[w.heap.size + 1 + 1]? = some (.cells #[.bool x.used, .int .i64 x.key.tenant, .int .i64 x.key.key.src.k, .int .i64 x.key.key.src.a, .int .i64 x.key.key.src.b, .int .i64 x.key.key.src.c, .int .i64 x.key.key.src.d, .int .i64 x.key.key.dst.k, .int .i64 x.key.key.dst.a, .int .i64 x.key.key.dst.b, .int .i64 x.key.key.dst.c, .int .i64 x.key.key.dst.d, .int .i64 x.key.key.proto, .int .i64 x.key.key.sport, .int .i64 0, .int .i64 0] 93 (0, 0))) := Lib.hid (K.set u2_12.out 13 (.int .i64 x.key.key.sport))
  have B2_13 : Hid (Below w.heap.size w (((((((((((((w2.setCell ⟨w.heap.size + 1 + 1, 1, none⟩ (.int .i64 x.key.tenant)).setCell ⟨w.heap.size + 1 + 1, 2, none⟩ (.int .i64 x.key.key.src.k)).setCell ⟨w.heap.size + 1 + 1, 3, none⟩ (.int .i64 x.key.key.src.a)).setCell ⟨w.heap.size + 1 + 1, 4, none⟩ (.int .i64 x.key.key.src.b)).setCell ⟨w.heap.size + 1 + 1, 5, none⟩ (.int .i64 x.key.key.src.c)).setCell ⟨w.heap.size + 1 + 1, 6, none⟩ (.int .i64 x.key.key.src.d)).setCell ⟨w.heap.size + 1 + 1, 7, none⟩ (.int .i64 x.key.key.dst.k)).setCell ⟨w.heap.size + 1 + 1, 8, none⟩ (.int .i64 x.key.key.dst.a)).setCell ⟨w.heap.size + 1 + 1, 9, none⟩ (.int .i64 x.key.key.dst.b)).setCell ⟨w.heap.size + 1 + 1, 10, none⟩ (.int .i64 x.key.key.dst.c)).setCell ⟨w.heap.size + 1 + 1, 11, none⟩ (.int .i64 x.key.key.dst.d)).setCell ⟨w.heap.size + 1 + 1, 12, none⟩ (.int .i64 x.key.key.proto)).setCell ⟨w.heap.size + 1 + 1, 13, none⟩ (.int .i64 x.key.key.sport))) := Lib.hid (Below.setCell B2_12.out (p := ⟨w.heap.size + 1 + 1, 13, none⟩) (by simp; omega) (.int .i64 x.key.key.sport))
  clear q2_12 z2_12 u2_12 B2_12
  have q2_14 : Hid (((((((((((((((w2.setCell ⟨w.heap.size + 1 + 1, 1, none⟩ (.int .i64 x.key.tenant)).setCell ⟨w.heap.size + 1 + 1, 2, none⟩ (.int .i64 x.key.key.src.k)).setCell ⟨w.heap.size + 1 + 1, 3, none⟩ (.int .i64 x.key.key.src.a)).setCell ⟨w.heap.size + 1 + 1, 4, none⟩ (.int .i64 x.key.key.src.b)).setCell ⟨w.heap.size + 1 + 1, 5, none⟩ (.int .i64 x.key.key.src.c)).setCell ⟨w.heap.size + 1 + 1, 6, none⟩ (.int .i64 x.key.key.src.d)).setCell ⟨w.heap.size + 1 + 1, 7, none⟩ (.int .i64 x.key.key.dst.k)).setCell ⟨w.heap.size + 1 + 1, 8, none⟩ (.int .i64 x.key.key.dst.a)).setCell ⟨w.heap.size + 1 + 1, 9, none⟩ (.int .i64 x.key.key.dst.b)).setCell ⟨w.heap.size + 1 + 1, 10, none⟩ (.int .i64 x.key.key.dst.c)).setCell ⟨w.heap.size + 1 + 1, 11, none⟩ (.int .i64 x.key.key.dst.d)).setCell ⟨w.heap.size + 1 + 1, 12, none⟩ (.int .i64 x.key.key.proto)).setCell ⟨w.heap.size + 1 + 1, 13, none⟩ (.int .i64 x.key.key.sport)).setCell ⟨w.heap.size + 1 + 1, 14, none⟩ (.int .i64 x.key.key.dport)).heap[w.heap.size]? = some (.cells #[.bool x.used, .int .i64 x.key.tenant, .int .i64 x.key.key.src.k, .int .i64 x.key.key.src.a, .int .i64 x.key.key.src.b, .int .i64 x.key.key.src.c, .int .i64 x.key.key.src.d, .int .i64 x.key.key.dst.k, .int .i64 x.key.key.dst.a, .int .i64 x.key.key.dst.b, .int .i64 x.key.key.dst.c, .int .i64 x.key.key.dst.d, .int .i64 x.key.key.proto, .int .i64 x.key.key.sport, .int .i64 x.key.key.dport, .int .i64 x.num] 132 (0, 0))) := Lib.hid (K.other q2_13.out (w.heap.size + 1 + 1) 14 (.int .i64 x.key.key.dport) (by omega))
  have z2_14 : Hid (((((((((((((((w2.setCell ⟨w.heap.size + 1 + 1, 1, none⟩ (.int .i64 x.key.tenant)).setCell ⟨w.heap.size + 1 + 1, 2, none⟩ (.int .i64 x.key.key.src.k)).setCell ⟨w.heap.size + 1 + 1, 3, none⟩ (.int .i64 x.key.key.src.a)).setCell ⟨w.heap.size + 1 + 1, 4, none⟩ (.int .i64 x.key.key.src.b)).setCell ⟨w.heap.size + 1 + 1, 5, none⟩ (.int .i64 x.key.key.src.c)).setCell ⟨w.heap.size + 1 + 1, 6, none⟩ (.int .i64 x.key.key.src.d)).setCell ⟨w.heap.size + 1 + 1, 7, none⟩ (.int .i64 x.key.key.dst.k)).setCell ⟨w.heap.size + 1 + 1, 8, none⟩ (.int .i64 x.key.key.dst.a)).setCell ⟨w.heap.size + 1 + 1, 9, none⟩ (.int .i64 x.key.key.dst.b)).setCell ⟨w.heap.size + 1 + 1, 10, none⟩ (.int .i64 x.key.key.dst.c)).setCell ⟨w.heap.size + 1 + 1, 11, none⟩ (.int .i64 x.key.key.dst.d)).setCell ⟨w.heap.size + 1 + 1, 12, none⟩ (.int .i64 x.key.key.proto)).setCell ⟨w.heap.size + 1 + 1, 13, none⟩ (.int .i64 x.key.key.sport)).setCell ⟨w.heap.size + 1 + 1, 14, none⟩ (.int .i64 x.key.key.dport)).heap[w.heap.size + 1]? = some (.cells #[.bool false, .int .i64 0, .int .i64 0, .int .i64 0, .int .i64 0, .int .i64 0, .int .i64 0, .int .i64 0, .int .i64 0, .int .i64 0, .int .i64 0, .int .i64 0, .int .i64 0, .int .i64 0, .int .i64 0, .int .i64 0] 93 (0, 0))) := Lib.hid (K.other z2_13.out (w.heap.size + 1 + 1) 14 (.int .i64 x.key.key.dport) (by omega))
  have u2_14 : Hid (((((((((((((((w2.setCell ⟨w.heap.size + 1 + 1, 1, none⟩ (.int .i64 x.key.tenant)).setCell ⟨w.heap.size + 1 + 1, 2, none⟩ (.int .i64 x.key.key.src.k)).setCell ⟨w.heap.size + 1 + 1, 3, none⟩ (.int .i64 x.key.key.src.a)).setCell ⟨w.heap.size + 1 + 1, 4, none⟩ (.int .i64 x.key.key.src.b)).setCell ⟨w.heap.size + 1 + 1, 5, none⟩ (.int .i64 x.key.key.src.c)).setCell ⟨w.heap.size + 1 + 1, 6, none⟩ (.int .i64 x.key.key.src.d)).setCell ⟨w.heap.size + 1 + 1, 7, none⟩ (.int .i64 x.key.key.dst.k)).setCell ⟨w.heap.size + 1 + 1, 8, none⟩ (.int .i64 x.key.key.dst.a)).setCell ⟨w.heap.size + 1 + 1, 9, none⟩ (.int .i64 x.key.key.dst.b)).setCell ⟨w.heap.size + 1 + 1, 10, none⟩ (.int .i64 x.key.key.dst.c)).setCell ⟨w.heap.size + 1 + 1, 11, none⟩ (.int .i64 x.key.key.dst.d)).setCell ⟨w.heap.size + 1 + 1, 12, none⟩ (.int .i64 x.key.key.proto)).setCell ⟨w.heap.size + 1 + 1, 13, none⟩ (.int .i64 x.key.key.sport)).setCell ⟨w.heap.size + 1 + 1, 14, none⟩ (.int .i64 x.key.key.dport)).heap[w.heap.size + 1 + 1]? = some (.cells #[.bool x.used, .int .i64 x.key.tenant, .int .i64 x.key.key.src.k, .int .i64 x.key.key.src.a, .int .i64 x.key.key.src.b, .int .i64 x.key.key.src.c, .int .i64 x.key.key.src.d, .int .i64 x.key.key.dst.k, .int .i64 x.key.key.dst.a, .int .i64 x.key.key.dst.b, .int .i64 x.key.key.dst.c, .int .i64 x.key.key.dst.d, .int .i64 x.key.key.proto, .int .i64 x.key.key.sport, .int .i64 x.key.key.dport, .int .i64 0] 93 (0, 0))) := Lib.hid (K.set u2_13.out 14 (.int .i64 x.key.key.dport))
  have B2_14 : Hid (Below w.heap.size w ((((((((((((((w2.setCell ⟨w.heap.size + 1 + 1, 1, none⟩ (.int .i64 x.key.tenant)).setCell ⟨w.heap.size + 1 + 1, 2, none⟩ (.int .i64 x.key.key.src.k)).setCell ⟨w.heap.size + 1 + 1, 3, none⟩ (.int .i64 x.key.key.src.a)).setCell ⟨w.heap.size + 1 + 1, 4, none⟩ (.int .i64 x.key.key.src.b)).setCell ⟨w.heap.size + 1 + 1, 5, none⟩ (.int .i64 x.key.key.src.c)).setCell ⟨w.heap.size + 1 + 1, 6, none⟩ (.int .i64 x.key.key.src.d)).setCell ⟨w.heap.size + 1 + 1, 7, none⟩ (.int .i64 x.key.key.dst.k)).setCell ⟨w.heap.size + 1 + 1, 8, none⟩ (.int .i64 x.key.key.dst.a)).setCell ⟨w.heap.size + 1 + 1, 9, none⟩ (.int .i64 x.key.key.dst.b)).setCell ⟨w.heap.size + 1 + 1, 10, none⟩ (.int .i64 x.key.key.dst.c)).setCell ⟨w.heap.size + 1 + 1, 11, none⟩ (.int .i64 x.key.key.dst.d)).setCell ⟨w.heap.size + 1 + 1, 12, none⟩ (.int .i64 x.key.key.proto)).setCell ⟨w.heap.size + 1 + 1, 13, none⟩ (.int .i64 x.key.key.sport)).setCell ⟨w.heap.size + 1 + 1, 14, none⟩ (.int .i64 x.key.key.dport))) := Lib.hid (Below.setCell B2_13.out (p := ⟨w.heap.size + 1 + 1, 14, none⟩) (by simp; omega) (.int .i64 x.key.key.dport))
  clear q2_13 z2_13 u2_13 B2_13
  clear Z2 d1 f1 d2 f2 d3 f3 d4 f4 d5 f5 d6 f6 d7 f7 d8 f8 d9 f9 d10 f10 d11 f11 d12 f12 d13 f13 d14 f14
  generalize (((((((((((((w2.setCell ⟨w.heap.size + 1 + 1, 1, none⟩ (.int .i64 x.key.tenant)).setCell ⟨w.heap.size + 1 + 1, 2, none⟩ (.int .i64 x.key.key.src.k)).setCell ⟨w.heap.size + 1 + 1, 3, none⟩ (.int .i64 x.key.key.src.a)).setCell ⟨w.heap.size + 1 + 1, 4, none⟩ (.int .i64 x.key.key.src.b)).setCell ⟨w.heap.size + 1 + 1, 5, none⟩ (.int .i64 x.key.key.src.c)).setCell ⟨w.heap.size + 1 + 1, 6, none⟩ (.int .i64 x.key.key.src.d)).setCell ⟨w.heap.size + 1 + 1, 7, none⟩ (.int .i64 x.key.key.dst.k)).setCell ⟨w.heap.size + 1 + 1, 8, none⟩ (.int .i64 x.key.key.dst.a)).setCell ⟨w.heap.size + 1 + 1, 9, none⟩ (.int .i64 x.key.key.dst.b)).setCell ⟨w.heap.size + 1 + 1, 10, none⟩ (.int .i64 x.key.key.dst.c)).setCell ⟨w.heap.size + 1 + 1, 11, none⟩ (.int .i64 x.key.key.dst.d)).setCell ⟨w.heap.size + 1 + 1, 12, none⟩ (.int .i64 x.key.key.proto)).setCell ⟨w.heap.size + 1 + 1, 13, none⟩ (.int .i64 x.key.key.sport)).setCell ⟨w.heap.size + 1 + 1, 14, none⟩ (.int .i64 x.key.key.dport) = w3 at q2_14 z2_14 u2_14 B2_14 ⊢
  have q3 := q2_14
  clear q2_14
  have z3 := z2_14
  clear z2_14
  have u3 := u2_14
  clear u2_14
  have B3 := B2_14
  clear B2_14
  have c := K.cell q3.out 15 _ rfl
  have d := K.cell u3.out 15 _ rfl
  have f := frozen_of_row _ _ 15 _ _ u3.out
  go_upto_region 5 with fail
  have q4 : Hid ((w3.setCell ⟨w.heap.size + 1 + 1, 15, none⟩ (.int .i64 x.num)).heap[w.heap.size]? = some (.cells #[.bool x.used, .int .i64 x.key.tenant, .int .i64 x.key.key.src.k, .int .i64 x.key.key.src.a, .int .i64 x.key.key.src.b, .int .i64 x.key.key.src.c, .int .i64 x.key.key.src.d, .int .i64 x.key.key.dst.k, .int .i64 x.key.key.dst.a, .int .i64 x.key.key.dst.b, .int .i64 x.key.key.dst.c, .int .i64 x.key.key.dst.d, .int .i64 x.key.key.proto, .int .i64 x.key.key.sport, .int .i64 x.key.key.dport, .int .i64 x.num] 132 (0, 0))) := Lib.hid (K.other q3.out (w.heap.size + 1 + 1) 15 (.int .i64 x.num) (by omega))
  have z4 : Hid ((w3.setCell ⟨w.heap.size + 1 + 1, 15, none⟩ (.int .i64 x.num)).heap[w.heap.size + 1]? = some (.cells #[.bool false, .int .i64 0, .int .i64 0, .int .i64 0, .int .i64 0, .int .i64 0, .int .i64 0, .int .i64 0, .int .i64 0, .int .i64 0, .int .i64 0, .int .i64 0, .int .i64 0, .int .i64 0, .int .i64 0, .int .i64 0] 93 (0, 0))) := Lib.hid (K.other z3.out (w.heap.size + 1 + 1) 15 (.int .i64 x.num) (by omega))
  have u4 : Hid ((w3.setCell ⟨w.heap.size + 1 + 1, 15, none⟩ (.int .i64 x.num)).heap[w.heap.size + 1 + 1]? = some (.cells #[.bool x.used, .int .i64 x.key.tenant, .int .i64 x.key.key.src.k, .int .i64 x.key.key.src.a, .int .i64 x.key.key.src.b, .int .i64 x.key.key.src.c, .int .i64 x.key.key.src.d, .int .i64 x.key.key.dst.k, .int .i64 x.key.key.dst.a, .int .i64 x.key.key.dst.b, .int .i64 x.key.key.dst.c, .int .i64 x.key.key.dst.d, .int .i64 x.key.key.proto, .int .i64 x.key.key.sport, .int .i64 x.key.key.dport, .int .i64 x.num] 93 (0, 0))) := Lib.hid (K.set u3.out 15 (.int .i64 x.num))
  have B4 : Hid (Below w.heap.size w (w3.setCell ⟨w.heap.size + 1 + 1, 15, none⟩ (.int .i64 x.num))) := Lib.hid (Below.setCell B3.out (p := ⟨w.heap.size + 1 + 1, 15, none⟩) (by simp; omega) (.int .i64 x.num))
  clear c d f q3 z3 u3 B3
  generalize w3.setCell ⟨w.heap.size + 1 + 1, 15, none⟩ (.int .i64 x.num) = w4 at q4 z4 u4 B4 ⊢
  go_wp2_with (first | (with_reducible refine loadCe rfl _ rfl (w.heap.size + 1 + 1) rfl u4.out ?_) | (with_reducible refine storeCe rfl _ _ rfl (w.heap.size + 1) rfl rfl z4.out ?_))
  (try simp only [Exit.inBlock, Exit.then])
  refine bodyPost_ret (v := .agg #[.bool x.used, .int .i64 x.key.tenant, .int .i64 x.key.key.src.k, .int .i64 x.key.key.src.a, .int .i64 x.key.key.src.b, .int .i64 x.key.key.src.c, .int .i64 x.key.key.src.d, .int .i64 x.key.key.dst.k, .int .i64 x.key.key.dst.a, .int .i64 x.key.key.dst.b, .int .i64 x.key.key.dst.c, .int .i64 x.key.key.dst.d, .int .i64 x.key.key.proto, .int .i64 x.key.key.sport, .int .i64 x.key.key.dport, .int .i64 x.num]) ?_ rfl ⟨rfl, ?_⟩
  · exact resCe Try.results110 _ _ (w.heap.size + 1) rfl (setRow_heap _ _ _ _ _ _ z4.out)
  · exact setRowB_ce B4.out (by omega) _
end Go.Proofs.Ytmfkpiclpkeemaa

namespace Go.Proofs.Ytmfkpiclpkeemaa
set_option maxRecDepth 100000
open Go.RowKit

set_option maxHeartbeats 400000 in
theorem szCellS_C (A : Option Addr) (n c : Nat) (l : Int) (w : World) (h0 : 0 ≤ l) (hl : l ≤ 1048576) (hn : n ≤ maxLen) : Calls Try.prog 71 #[.slice A n c, .int .i64 l] w fun e w' => ∃ r : Int, e = .returned (.int .i64 r) ∧ (r < 0 ∨ (0 ≤ r ∧ r = l - n)) ∧ w = w' := by
  unfold maxLen at hn
  by_cases h : l < n
  · go_enter Try.func71, Try.ntmps71
    have e : IntKind.i64.wrap (l - n) = l - n := by rw [IntKind.wrap_i64]; omega
    go_wp2
    all_goals (go_ret; first | exact ⟨_, rfl, by omega, rfl⟩ | exact ⟨_, rfl, .inl (by omega), rfl⟩)
  · go_enter Try.func71, Try.ntmps71
    have e : IntKind.i64.wrap (l - n) = l - n := by rw [IntKind.wrap_i64]; omega
    go_wp2
    all_goals (go_ret; exact ⟨_, rfl, by omega, rfl⟩)

set_option maxHeartbeats 1000000 in
theorem toCellS_C (A : Option Addr) (n c : Nat) (rs : List Ce) (w : World) (hx : RV w w.heap.size A (fl Ce.cells rs)) (hl : rs.length = n) (hn : n ≤ 1048576) :
    Calls Try.prog 75 #[.slice A n c] w fun e w' => ∃ g, e = .returned (.slice (some ⟨g, 0, none⟩) n n) ∧ w'.ownsRow w.heap.size 93 16 (.slice (some ⟨g, 0, none⟩) n n) n (fl Ce.cells rs) ∧ Below w.heap.size w w' := by
  obtain ⟨i0, hi0, hz0, hz1, hz2⟩ := info_parts info_ceP
  have HX := Lib.hid hx
  have HL := Lib.hid hl
  clear hx hl
  go_enter Try.func75, Try.ntmps75
  go_wp2_with (at_make; refine wpList_make_full _ rfl _ _ 38 rfl w.heap.size 93 i0 (.agg #[.bool false, .int .i64 0, .int .i64 0, .int .i64 0, .int .i64 0, .int .i64 0, .int .i64 0, .int .i64 0, .int .i64 0, .int .i64 0, .int .i64 0, .int .i64 0, .int .i64 0, .int .i64 0, .int .i64 0, .int .i64 0]) 16 Try.underlying38 hi0 hz0 hz1 _ _ _ _ n rfl rfl rfl rfl (by rw [hz2]; omega) (by unfold maxLen; omega) (Nat.le_refl _) ?_; intro w1 hown hgrow)
  have hown0 : Hid (w1.ownsRow w.heap.size 93 16 (.slice (some ⟨w.heap.size, 0, none⟩) n n) n (fl Ce.cells (rs.take 0 ++ List.replicate (n - 0) Ce.zero))) := by
    rw [List.take_zero, List.nil_append, Nat.sub_zero, ← zeros_flat Ce.cells_length (by omega) Ce.zero #[.bool false, .int .i64 0, .int .i64 0, .int .i64 0, .int .i64 0, .int .i64 0, .int .i64 0, .int .i64 0, .int .i64 0, .int .i64 0, .int .i64 0, .int .i64 0, .int .i64 0, .int .i64 0, .int .i64 0, .int .i64 0] rfl n]
    exact Lib.hid hown
  have hb1 : Hid (Below w.heap.size w w1) := Lib.hid ((Below.refl _ _).grown hgrow (Nat.le_refl _) (by simp))
  clear hown hgrow
  go_loopw [4] (fun i wr => ∃ (k : Nat), k ≤ n ∧ i = .int .i64 k ∧ Hid (wr.ownsRow w.heap.size 93 16 (.slice (some ⟨w.heap.size, 0, none⟩) n n) n (fl Ce.cells (rs.take k ++ List.replicate (n - k) Ce.zero))) ∧ Hid (Below w.heap.size w wr)) (fun i _ => n - (intOf i).toNat)
  case atStart => exact ⟨0, Nat.zero_le _, rfl, hown0, hb1⟩
  case round =>
    obtain ⟨k, hk, rfl, hown, hb⟩ := hrel
    clear hown0 hb1
    by_cases hlt : k < n
    · have hk2 : k < rs.length := by rw [HL.out]; exact hlt
      obtain ⟨g, o, rfl, hg, hc0⟩ := HX.out.flat Ce.cells_length (by omega) hk2
      have hc := Lib.hid (show wr.rangeAt g (o + k * 16) rs[k].cells from fun j v hv => (hb.out.cell (p := ⟨g, o + k * 16 + j, none⟩) hg).trans (hc0 j v hv))
      have hT := Lib.hid (show rs.take (k + 1) = rs.take k ++ [rs[k]] from take_snoc rs k hk2)
      have hTl := Lib.hid (show (rs.take k).length = k by simp; omega)
      clear hc0
      generalize rs[k] = y at *
      have hG := Lib.hid hg
      clear hg
      go_wp2_with (with_reducible refine loadLAtCe rfl _ rfl g (o + k * 16) rfl y hc.out ?_)
      refine (toCellC y _).mono ?_
      rintro e w2 ⟨rfl, b2⟩
      have R0 := own_below hown.out b2
      have HT := Lib.hid (there_of_own R0 (k * 16) 16 (by omega))
      have R1 := own_putCells y.cells _ (k * 16) _ R0
      rw [show n - k = (n - (k + 1)) + 1 by omega, List.replicate_succ, set_flat Ce.cells_length _ _ _ y k hTl.out] at R1
      have R2 := Lib.hid R1
      have B2 := Lib.hid (bgrown (bthen hb.out b2) (grown_putCells w.heap.size y.cells w2 (k * 16)) (fun j hj => by cases hj; exact Nat.le_refl _))
      clear R0 R1 b2
      go_wp2_with (with_reducible refine storeAtCe rfl _ _ rfl w.heap.size (k * 16) y rfl rfl HT.out ?_)
      go_roundw
      case rel =>
        refine ⟨k + 1, by omega, by go_num, Lib.hid ?_, B2⟩
        rw [hT.out, List.append_assoc]
        exact R2.out
      case measure => simp [intOf]; omega
    · obtain rfl : k = n := by omega
      go_wp2
      go_ret
      have ho := hown.out
      rw [List.take_of_length_le (by rw [HL.out]; exact Nat.le_refl _), Nat.sub_self, List.replicate_zero, List.append_nil] at ho
      exact ⟨_, rfl, ho, hb.out⟩
end Go.Proofs.Ytmfkpiclpkeemaa

namespace Go.Proofs.Ytmfkpiclpkeemaa
set_option maxRecDepth 100000
open Go.RowKit

set_option maxHeartbeats 1000000 in
theorem eqCellC (x : Ce) (w : World) : Calls Try.prog 109 #[.agg #[.bool x.used, .int .i64 x.key.tenant, .int .i64 x.key.key.src.k, .int .i64 x.key.key.src.a, .int .i64 x.key.key.src.b, .int .i64 x.key.key.src.c, .int .i64 x.key.key.src.d, .int .i64 x.key.key.dst.k, .int .i64 x.key.key.dst.a, .int .i64 x.key.key.dst.b, .int .i64 x.key.key.dst.c, .int .i64 x.key.key.dst.d, .int .i64 x.key.key.proto, .int .i64 x.key.key.sport, .int .i64 x.key.key.dport, .int .i64 x.num], .agg #[.bool x.used, .int .i64 x.key.tenant, .int .i64 x.key.key.src.k, .int .i64 x.key.key.src.a, .int .i64 x.key.key.src.b, .int .i64 x.key.key.src.c, .int .i64 x.key.key.src.d, .int .i64 x.key.key.dst.k, .int .i64 x.key.key.dst.a, .int .i64 x.key.key.dst.b, .int .i64 x.key.key.dst.c, .int .i64 x.key.key.dst.d, .int .i64 x.key.key.proto, .int .i64 x.key.key.sport, .int .i64 x.key.key.dport, .int .i64 x.num]] w fun e w' => e = .returned (.bool true) ∧ Below w.heap.size w w' := by
  go_enter Try.func109, Try.ntmps109
  go_wp2_with fail
  refine Calls.mono (eqFlowKeyC x.key _) ?_
  rintro e w1 ⟨rfl, b1⟩
  have q1 := Lib.hid (K.on b1 (g := w.heap.size) (by first | (simp; done) | (simp; omega)) (o := .cells #[.bool x.used, .int .i64 x.key.tenant, .int .i64 x.key.key.src.k, .int .i64 x.key.key.src.a, .int .i64 x.key.key.src.b, .int .i64 x.key.key.src.c, .int .i64 x.key.key.src.d, .int .i64 x.key.key.dst.k, .int .i64 x.key.key.dst.a, .int .i64 x.key.key.dst.b, .int .i64 x.key.key.dst.c, .int .i64 x.key.key.dst.d, .int .i64 x.key.key.proto, .int .i64 x.key.key.sport, .int .i64 x.key.key.dport, .int .i64 x.num] 93) (K.oldAt (by first | (simp; done) | (simp; omega)) (K.newAt rfl)))
  have s1 := Lib.hid (K.on b1 (g := w.heap.size + 1) (by first | (simp; done) | (simp; omega)) (o := .cells #[.bool x.used, .int .i64 x.key.tenant, .int .i64 x.key.key.src.k, .int .i64 x.key.key.src.a, .int .i64 x.key.key.src.b, .int .i64 x.key.key.src.c, .int .i64 x.key.key.src.d, .int .i64 x.key.key.dst.k, .int .i64 x.key.key.dst.a, .int .i64 x.key.key.dst.b, .int .i64 x.key.key.dst.c, .int .i64 x.key.key.dst.d, .int .i64 x.key.key.proto, .int .i64 x.key.key.sport, .int .i64 x.key.key.dport, .int .i64 x.num] 93) (K.newAt (by simp)))
  have B1 := Lib.hid (bthen (Joins.below_alloc2 w _ _) b1)
  clear b1
  have c15 := K.cell q1.out 15 _ rfl
  have d15 := K.cell s1.out 15 _ rfl
  go_wp2
  go_ret
  exact ⟨rfl, B1.out⟩
end Go.Proofs.Ytmfkpiclpkeemaa

namespace Go.Proofs.Ytmfkpiclpkeemaa
set_option maxRecDepth 100000
open Go.RowKit

set_option maxHeartbeats 1000000 in
theorem eqCellS_C (A D : Option Addr) (n c d : Nat) (rs : List Ce) (w : World) (hx : RV w w.heap.size A (fl Ce.cells rs)) (hy : RV w w.heap.size D (fl Ce.cells rs)) (hl : rs.length = n) (hn : n ≤ 1048576) :
    Calls Try.prog 68 #[.slice A n c, .slice D n d] w fun e w' => e = .returned (.bool true) ∧ Below w.heap.size w w' := by
  have HX := Lib.hid hx
  have HY := Lib.hid hy
  have HL := Lib.hid hl
  clear hx hy hl
  go_enter Try.func68, Try.ntmps68
  go_wp2
  go_loopw [5] (fun i wr => ∃ k : Nat, k ≤ n ∧ i = .int .i64 k ∧ Below w.heap.size w wr) (fun i _ => n - (intOf i).toNat)
  case atStart => exact ⟨0, Nat.zero_le _, rfl, Below.refl _ _⟩
  case round =>
    obtain ⟨k, hk, rfl, hb⟩ := hrel
    by_cases hlt : k < n
    · have hk1 : k < rs.length := by rw [HL.out]; exact hlt
      obtain ⟨g, o, rfl, hg, hc0⟩ := HX.out.flat Ce.cells_length (by omega) hk1
      obtain ⟨g', o', rfl, hg', hd0⟩ := HY.out.flat Ce.cells_length (by omega) hk1
      have hcc := Lib.hid (fun (v : World) (hv : Below wr.heap.size wr v) => (show v.rangeAt g (o + k * 16) rs[k].cells from fun j u hu => ((bthen hb hv).cell (p := ⟨g, o + k * 16 + j, none⟩) hg).trans (hc0 j u hu)))
      have hdd := Lib.hid (fun (v : World) (hv : Below wr.heap.size wr v) => (show v.rangeAt g' (o' + k * 16) rs[k].cells from fun j u hu => ((bthen hb hv).cell (p := ⟨g', o' + k * 16 + j, none⟩) hg').trans (hd0 j u hu)))
      clear hc0 hd0 hg hg'
      generalize rs[k] = y at *
      have HB := Lib.hid hb
      clear hb
      go_wp2_with fail
      refine wp_region_facts (by kernel_rfl) 9 27 [(0, 17), (1, 18), (2, 19), (3, 20), (4, 21), (5, 22), (6, 23), (7, 24), (8, 25)] _ ([.val (.slice (some ⟨g, o, none⟩) n c), .val (.int .i64 (k : Int)), .val (.pointer (some ⟨g, o + k * 16, none⟩)), .val (.agg #[.bool y.used, .int .i64 y.key.tenant, .int .i64 y.key.key.src.k, .int .i64 y.key.key.src.a, .int .i64 y.key.key.src.b, .int .i64 y.key.key.src.c, .int .i64 y.key.key.src.d, .int .i64 y.key.key.dst.k, .int .i64 y.key.key.dst.a, .int .i64 y.key.key.dst.b, .int .i64 y.key.key.dst.c, .int .i64 y.key.key.dst.d, .int .i64 y.key.key.proto, .int .i64 y.key.key.sport, .int .i64 y.key.key.dport, .int .i64 y.num]), .val (.slice (some ⟨g', o', none⟩) n d), .val (.int .i64 (k : Int)), .val (.pointer (some ⟨g', o' + k * 16, none⟩)), .val (.agg #[.bool y.used, .int .i64 y.key.tenant, .int .i64 y.key.key.src.k, .int .i64 y.key.key.src.a, .int .i64 y.key.key.src.b, .int .i64 y.key.key.src.c, .int .i64 y.key.key.src.d, .int .i64 y.key.key.dst.k, .int .i64 y.key.key.dst.a, .int .i64 y.key.key.dst.b, .int .i64 y.key.key.dst.c, .int .i64 y.key.key.dst.d, .int .i64 y.key.key.proto, .int .i64 y.key.key.sport, .int .i64 y.key.key.dport, .int .i64 y.num]), .val (.bool true)]) (by kernel_rfl) (by kernel_rfl) rfl rfl ?_ ?_
      · intro j o hj ho a' v K' hx hnd hB hK
        match j, hj, ho with
        | 0, _, ho =>
          obtain rfl := Option.some.inj ho
          have h0 : a'.eval (.tmp 0) = .slice (some ⟨g, o, none⟩) n c := (hx 0 (by decide)).trans rfl
          exact move_ce _ _ rfl h0 (hK _ _ rfl (Below.refl _ _))
        | 1, _, ho =>
          obtain rfl := Option.some.inj ho
          have h0 : a'.eval (.tmp 5) = .int .i64 (k : Int) := (hx 5 (by decide)).trans rfl
          exact move_ce _ _ rfl h0 (hK _ _ rfl (Below.refl _ _))
        | 2, _, ho =>
          obtain rfl := Option.some.inj ho
          have h0 : a'.eval (.tmp 17) = .slice (some ⟨g, o, none⟩) n c := (fact_of hnd 0 17 (by kernel_rfl) :)
          have h1 : a'.eval (.tmp 18) = .int .i64 (k : Int) := (fact_of hnd 1 18 (by kernel_rfl) :)
          exact idx_ce _ _ _ _ _ _ _ rfl h0 h1 hlt (hK _ _ rfl (Below.refl _ _))
        | 3, _, ho =>
          obtain rfl := Option.some.inj ho
          have h0 : a'.eval (.tmp 19) = .pointer (some ⟨g, o + k * 16, none⟩) := (fact_of hnd 2 19 (by kernel_rfl) :)
          exact ld_ce _ _ _ y rfl h0 (hcc.out _ hB) (hK _ _ rfl (Below.refl _ _))
        | 4, _, ho =>
          obtain rfl := Option.some.inj ho
          have h0 : a'.eval (.tmp 1) = .slice (some ⟨g', o', none⟩) n d := (hx 1 (by decide)).trans rfl
          exact move_ce _ _ rfl h0 (hK _ _ rfl (Below.refl _ _))
        | 5, _, ho =>
          obtain rfl := Option.some.inj ho
          have h0 : a'.eval (.tmp 5) = .int .i64 (k : Int) := (hx 5 (by decide)).trans rfl
          exact move_ce _ _ rfl h0 (hK _ _ rfl (Below.refl _ _))
        | 6, _, ho =>
          obtain rfl := Option.some.inj ho
          have h0 : a'.eval (.tmp 21) = .slice (some ⟨g', o', none⟩) n d := (fact_of hnd 4 21 (by kernel_rfl) :)
          have h1 : a'.eval (.tmp 22) = .int .i64 (k : Int) := (fact_of hnd 5 22 (by kernel_rfl) :)
          exact idx_ce _ _ _ _ _ _ _ rfl h0 h1 hlt (hK _ _ rfl (Below.refl _ _))
        | 7, _, ho =>
          obtain rfl := Option.some.inj ho
          have h0 : a'.eval (.tmp 23) = .pointer (some ⟨g', o' + k * 16, none⟩) := (fact_of hnd 6 23 (by kernel_rfl) :)
          exact ld_ce _ _ _ y rfl h0 (hdd.out _ hB) (hK _ _ rfl (Below.refl _ _))
        | 8, _, ho =>
          obtain rfl := Option.some.inj ho
          have h0 : a'.eval (.tmp 20) = .agg #[.bool y.used, .int .i64 y.key.tenant, .int .i64 y.key.key.src.k, .int .i64 y.key.key.src.a, .int .i64 y.key.key.src.b, .int .i64 y.key.key.src.c, .int .i64 y.key.key.src.d, .int .i64 y.key.key.dst.k, .int .i64 y.key.key.dst.a, .int .i64 y.key.key.dst.b, .int .i64 y.key.key.dst.c, .int .i64 y.key.key.dst.d, .int .i64 y.key.key.proto, .int .i64 y.key.key.sport, .int .i64 y.key.key.dport, .int .i64 y.num] := (fact_of hnd 3 20 (by kernel_rfl) :)
          have h1 : a'.eval (.tmp 24) = .agg #[.bool y.used, .int .i64 y.key.tenant, .int .i64 y.key.key.src.k, .int .i64 y.key.key.src.a, .int .i64 y.key.key.src.b, .int .i64 y.key.key.src.c, .int .i64 y.key.key.src.d, .int .i64 y.key.key.dst.k, .int .i64 y.key.key.dst.a, .int .i64 y.key.key.dst.b, .int .i64 y.key.key.dst.c, .int .i64 y.key.key.dst.d, .int .i64 y.key.key.proto, .int .i64 y.key.key.sport, .int .i64 y.key.key.dport, .int .i64 y.num] := (fact_of hnd 7 24 (by kernel_rfl) :)
          refine ceq_ce _ _ _ _ _ rfl h0 h1 (Calls.mono (eqCellC y _) ?_)
          rintro e' v' ⟨rfl, b6⟩
          exact ⟨_, rfl, hK _ _ rfl b6⟩
        | j + 9, hj, _ => omega
      · intro f v hf hB
        have e0 : f 0 = (.slice (some ⟨g, o, none⟩) n c) := hf (0, 17) (by decide)
        have e1 : f 1 = (.int .i64 (k : Int)) := hf (1, 18) (by decide)
        have e2 : f 2 = (.pointer (some ⟨g, o + k * 16, none⟩)) := hf (2, 19) (by decide)
        have e3 : f 3 = (.agg #[.bool y.used, .int .i64 y.key.tenant, .int .i64 y.key.key.src.k, .int .i64 y.key.key.src.a, .int .i64 y.key.key.src.b, .int .i64 y.key.key.src.c, .int .i64 y.key.key.src.d, .int .i64 y.key.key.dst.k, .int .i64 y.key.key.dst.a, .int .i64 y.key.key.dst.b, .int .i64 y.key.key.dst.c, .int .i64 y.key.key.dst.d, .int .i64 y.key.key.proto, .int .i64 y.key.key.sport, .int .i64 y.key.key.dport, .int .i64 y.num]) := hf (3, 20) (by decide)
        have e4 : f 4 = (.slice (some ⟨g', o', none⟩) n d) := hf (4, 21) (by decide)
        have e5 : f 5 = (.int .i64 (k : Int)) := hf (5, 22) (by decide)
        have e6 : f 6 = (.pointer (some ⟨g', o' + k * 16, none⟩)) := hf (6, 23) (by decide)
        have e7 : f 7 = (.agg #[.bool y.used, .int .i64 y.key.tenant, .int .i64 y.key.key.src.k, .int .i64 y.key.key.src.a, .int .i64 y.key.key.src.b, .int .i64 y.key.key.src.c, .int .i64 y.key.key.src.d, .int .i64 y.key.key.dst.k, .int .i64 y.key.key.dst.a, .int .i64 y.key.key.dst.b, .int .i64 y.key.key.dst.c, .int .i64 y.key.key.dst.d, .int .i64 y.key.key.proto, .int .i64 y.key.key.sport, .int .i64 y.key.key.dport, .int .i64 y.num]) := hf (7, 24) (by decide)
        have e8 : f 8 = (.bool true) := hf (8, 25) (by decide)
        simp only [List.foldl_cons, List.foldl_nil, List.drop_succ_cons, List.drop_zero, e0, e1, e2, e3, e4, e5, e6, e7, e8]
        clear e0 e1 e2 e3 e4 e5 e6 e7 e8 hf
        go_simp
        have B2 := Lib.hid (bthen HB.out hB)
        clear hB
        go_wp2
        go_roundw
        case rel => exact ⟨k + 1, by omega, by go_num, B2.out⟩
        case measure => simp [intOf]; omega
    · go_wp2
      go_ret
      exact ⟨rfl, hb⟩
end Go.Proofs.Ytmfkpiclpkeemaa

namespace Go.Proofs.Ytmfkpiclpkeemaa
set_option maxRecDepth 100000
open Go.RowKit

def Ce.kinds : List Bool := [true, false, false, false, false, false, false, false, false, false, false, false, false, false, false, false]
theorem Ce.kinds_length : Ce.kinds.length = 16 := rfl

set_option maxHeartbeats 400000 in
theorem markCellS_0 (A : Option Addr) (c : Nat) (k : Int) (w : World) : Calls Try.prog 69 #[.slice A 0 c, .int .i64 k] w fun e w' => e = .returned (.int .i64 k) ∧ w = w' := by
  go_enter Try.func69, Try.ntmps69
  go_wp2
  go_loop [1, 5] (fun q i => q = .int .i64 k ∧ i = .int .i64 (0 : Int)) (fun _ i => 0)
  case atStart => exact ⟨rfl, rfl⟩
  case round =>
    obtain ⟨rfl, rfl⟩ := hrel
    go_wp2
    go_ret
    exact ⟨rfl, rfl⟩

set_option maxHeartbeats 2000000 in
theorem markCellS_C {base g cap n : Nat} {xs : List Value} (k0 : Int) (w : World) (hown : w.ownsRow base 93 16 (.slice (some ⟨g, 0, none⟩) n cap) n xs) (h0 : 0 ≤ k0) (h1 : k0 ≤ 1000000000) (hn : n ≤ 1048576) :
    Calls Try.prog 69 #[.slice (some ⟨g, 0, none⟩) n cap, .int .i64 k0] w fun e w' => e = .returned (.int .i64 (k0 + n * 16)) ∧ w'.ownsRow base 93 16 (.slice (some ⟨g, 0, none⟩) n cap) n (marksN Ce.kinds n k0) ∧ w.grownBy w' (some g) := by
  have O0 := Lib.hid hown
  have HL : Hid (xs.length = n * 16) := Lib.hid hown.1
  clear hown
  go_enter Try.func69, Try.ntmps69
  go_wp2
  go_loopw [1, 5] (fun q i wr => ∃ j : Nat, j ≤ n ∧ i = .int .i64 j ∧ q = .int .i64 (k0 + j * 16) ∧ Hid (wr.ownsRow base 93 16 (.slice (some ⟨g, 0, none⟩) n cap) n (marksN Ce.kinds j k0 ++ xs.drop (j * 16))) ∧ Hid (w.grownBy wr (some g))) (fun _ i _ => n - (intOf i).toNat)
  case atStart => exact ⟨0, Nat.zero_le _, rfl, by go_num, Lib.hid (by simpa [marksN] using O0.out), Lib.hid (grown_refl _ _)⟩
  case round =>
    obtain ⟨j, hj, rfl, rfl, P0, G0⟩ := hrel
    clear O0
    by_cases hlt : j < n
    · obtain ⟨K0, hK⟩ : ∃ K : Int, K = k0 + j * 16 := ⟨_, rfl⟩
      rw [← hK]
      have HK := Lib.hid hK
      have lo0 : 0 ≤ K0 := by omega
      have hi0 : K0 ≤ 4000000000 := by omega
      clear hK
      obtain ⟨x0, hx⟩ : ∃ l, l = marksN Ce.kinds j k0 ++ xs.drop (j * 16) := ⟨_, rfl⟩
      rw [← hx] at P0
      have HX := Lib.hid hx
      clear hx
      obtain ⟨u0, c0⟩ := cell_of_own P0.out (j * 16) (by omega)
      have f0 := P0.out.frozenAt (j * 16)
      go_upto_region 5 with fail
      have P1 := Lib.hid (P0.out.stored (j * 16) (.bool (decide (K0 % 3 = 0)))).1
      have G1 := Lib.hid (grownBy_trans G0.out (grown_setCell1 _ g (j * 16) (.bool (decide (K0 % 3 = 0)))))
      clear c0 f0 P0 G0
      generalize wr.setCell ⟨g, j * 16, none⟩ (.bool (decide (K0 % 3 = 0))) = w1 at P1 G1 ⊢
      go_upto_region 6 with fail
      generalize hK1 : K0 + 1 = K1
      have lo1 : 0 ≤ K1 := by omega
      have hi1 : K1 ≤ 4000000000 + 1 := by omega
      have HK1 := Lib.hid hK1
      clear hK1 lo0 hi0
      obtain ⟨u1, c1⟩ := cell_of_own P1.out (j * 16 + 1) (by omega)
      have f1 := P1.out.frozenAt (j * 16 + 1)
      go_upto_region 7 with fail
      have P2 := Lib.hid (P1.out.stored (j * 16 + 1) (.int .i64 K1)).1
      have G2 := Lib.hid (grownBy_trans G1.out (grown_setCell1 _ g (j * 16 + 1) (.int .i64 K1)))
      clear c1 f1 P1 G1
      generalize w1.setCell ⟨g, j * 16 + 1, none⟩ (.int .i64 K1) = w2 at P2 G2 ⊢
      go_upto_region 8 with fail
      generalize hK2 : K1 + 1 = K2
      have lo2 : 0 ≤ K2 := by omega
      have hi2 : K2 ≤ 4000000000 + 2 := by omega
      have HK2 := Lib.hid hK2
      clear hK2 lo1 hi1
      obtain ⟨u2, c2⟩ := cell_of_own P2.out (j * 16 + 2) (by omega)
      have f2 := P2.out.frozenAt (j * 16 + 2)
      go_upto_region 9 with fail
      have P3 := Lib.hid (P2.out.stored (j * 16 + 2) (.int .i64 K2)).1
      have G3 := Lib.hid (grownBy_trans G2.out (grown_setCell1 _ g (j * 16 + 2) (.int .i64 K2)))
      clear c2 f2 P2 G2
      generalize w2.setCell ⟨g, j * 16 + 2, none⟩ (.int .i64 K2) = w3 at P3 G3 ⊢
      go_upto_region 10 with fail
      generalize hK3 : K2 + 1 = K3
      have lo3 : 0 ≤ K3 := by omega
      have hi3 : K3 ≤ 4000000000 + 3 := by omega
      have HK3 := Lib.hid hK3
      clear hK3 lo2 hi2
      obtain ⟨u3, c3⟩ := cell_of_own P3.out (j * 16 + 3) (by omega)
      have f3 := P3.out.frozenAt (j * 16 + 3)
      go_upto_region 11 with fail
      have P4 := Lib.hid (P3.out.stored (j * 16 + 3) (.int .i64 K3)).1
      have G4 := Lib.hid (grownBy_trans G3.out (grown_setCell1 _ g (j * 16 + 3) (.int .i64 K3)))
      clear c3 f3 P3 G3
      generalize w3.setCell ⟨g, j * 16 + 3, none⟩ (.int .i64 K3) = w4 at P4 G4 ⊢
      go_upto_region 12 with fail
      generalize hK4 : K3 + 1 = K4
      have lo4 : 0 ≤ K4 := by omega
      have hi4 : K4 ≤ 4000000000 + 4 := by omega
      have HK4 := Lib.hid hK4
      clear hK4 lo3 hi3
      obtain ⟨u4, c4⟩ := cell_of_own P4.out (j * 16 + 4) (by omega)
      have f4 := P4.out.frozenAt (j * 16 + 4)
      go_upto_region 13 with fail
      have P5 := Lib.hid (P4.out.stored (j * 16 + 4) (.int .i64 K4)).1
      have G5 := Lib.hid (grownBy_trans G4.out (grown_setCell1 _ g (j * 16 + 4) (.int .i64 K4)))
      clear c4 f4 P4 G4
      generalize w4.setCell ⟨g, j * 16 + 4, none⟩ (.int .i64 K4) = w5 at P5 G5 ⊢
      go_upto_region 14 with fail
      generalize hK5 : K4 + 1 = K5
      have lo5 : 0 ≤ K5 := by omega
      have hi5 : K5 ≤ 4000000000 + 5 := by omega
      have HK5 := Lib.hid hK5
      clear hK5 lo4 hi4
      obtain ⟨u5, c5⟩ := cell_of_own P5.out (j * 16 + 5) (by omega)
      have f5 := P5.out.frozenAt (j * 16 + 5)
      go_upto_region 15 with fail
      have P6 := Lib.hid (P5.out.stored (j * 16 + 5) (.int .i64 K5)).1
      have G6 := Lib.hid (grownBy_trans G5.out (grown_setCell1 _ g (j * 16 + 5) (.int .i64 K5)))
      clear c5 f5 P5 G5
      generalize w5.setCell ⟨g, j * 16 + 5, none⟩ (.int .i64 K5) = w6 at P6 G6 ⊢
      go_upto_region 16 with fail
      generalize hK6 : K5 + 1 = K6
      have lo6 : 0 ≤ K6 := by omega
      have hi6 : K6 ≤ 4000000000 + 6 := by omega
      have HK6 := Lib.hid hK6
      clear hK6 lo5 hi5
      obtain ⟨u6, c6⟩ := cell_of_own P6.out (j * 16 + 6) (by omega)
      have f6 := P6.out.frozenAt (j * 16 + 6)
      go_upto_region 17 with fail
      have P7 := Lib.hid (P6.out.stored (j * 16 + 6) (.int .i64 K6)).1
      have G7 := Lib.hid (grownBy_trans G6.out (grown_setCell1 _ g (j * 16 + 6) (.int .i64 K6)))
      clear c6 f6 P6 G6
      generalize w6.setCell ⟨g, j * 16 + 6, none⟩ (.int .i64 K6) = w7 at P7 G7 ⊢
      go_upto_region 18 with fail
      generalize hK7 : K6 + 1 = K7
      have lo7 : 0 ≤ K7 := by omega
      have hi7 : K7 ≤ 4000000000 + 7 := by omega
      have HK7 := Lib.hid hK7
      clear hK7 lo6 hi6
      obtain ⟨u7, c7⟩ := cell_of_own P7.out (j * 16 + 7) (by omega)
      have f7 := P7.out.frozenAt (j * 16 + 7)
      go_upto_region 19 with fail
      have P8 := Lib.hid (P7.out.stored (j * 16 + 7) (.int .i64 K7)).1
      have G8 := Lib.hid (grownBy_trans G7.out (grown_setCell1 _ g (j * 16 + 7) (.int .i64 K7)))
      clear c7 f7 P7 G7
      generalize w7.setCell ⟨g, j * 16 + 7, none⟩ (.int .i64 K7) = w8 at P8 G8 ⊢
      go_upto_region 20 with fail
      generalize hK8 : K7 + 1 = K8
      have lo8 : 0 ≤ K8 := by omega
      have hi8 : K8 ≤ 4000000000 + 8 := by omega
      have HK8 := Lib.hid hK8
      clear hK8 lo7 hi7
      obtain ⟨u8, c8⟩ := cell_of_own P8.out (j * 16 + 8) (by omega)
      have f8 := P8.out.frozenAt (j * 16 + 8)
      go_upto_region 21 with fail
      have P9 := Lib.hid (P8.out.stored (j * 16 + 8) (.int .i64 K8)).1
      have G9 := Lib.hid (grownBy_trans G8.out (grown_setCell1 _ g (j * 16 + 8) (.int .i64 K8)))
      clear c8 f8 P8 G8
      generalize w8.setCell ⟨g, j * 16 + 8, none⟩ (.int .i64 K8) = w9 at P9 G9 ⊢
      go_upto_region 22 with fail
      generalize hK9 : K8 + 1 = K9
      have lo9 : 0 ≤ K9 := by omega
      have hi9 : K9 ≤ 4000000000 + 9 := by omega
      have HK9 := Lib.hid hK9
      clear hK9 lo8 hi8
      obtain ⟨u9, c9⟩ := cell_of_own P9.out (j * 16 + 9) (by omega)
      have f9 := P9.out.frozenAt (j * 16 + 9)
      go_upto_region 23 with fail
      have P10 := Lib.hid (P9.out.stored (j * 16 + 9) (.int .i64 K9)).1
      have G10 := Lib.hid (grownBy_trans G9.out (grown_setCell1 _ g (j * 16 + 9) (.int .i64 K9)))
      clear c9 f9 P9 G9
      generalize w9.setCell ⟨g, j * 16 + 9, none⟩ (.int .i64 K9) = w10 at P10 G10 ⊢
      go_upto_region 24 with fail
      generalize hK10 : K9 + 1 = K10
      have lo10 : 0 ≤ K10 := by omega
      have hi10 : K10 ≤ 4000000000 + 10 := by omega
      have HK10 := Lib.hid hK10
      clear hK10 lo9 hi9
      obtain ⟨u10, c10⟩ := cell_of_own P10.out (j * 16 + 10) (by omega)
      have f10 := P10.out.frozenAt (j * 16 + 10)
      go_upto_region 25 with fail
      have P11 := Lib.hid (P10.out.stored (j * 16 + 10) (.int .i64 K10)).1
      have G11 := Lib.hid (grownBy_trans G10.out (grown_setCell1 _ g (j * 16 + 10) (.int .i64 K10)))
      clear c10 f10 P10 G10
      generalize w10.setCell ⟨g, j * 16 + 10, none⟩ (.int .i64 K10) = w11 at P11 G11 ⊢
      go_upto_region 26 with fail
      generalize hK11 : K10 + 1 = K11
      have lo11 : 0 ≤ K11 := by omega
      have hi11 : K11 ≤ 4000000000 + 11 := by omega
      have HK11 := Lib.hid hK11
      clear hK11 lo10 hi10
      obtain ⟨u11, c11⟩ := cell_of_own P11.out (j * 16 + 11) (by omega)
      have f11 := P11.out.frozenAt (j * 16 + 11)
      go_upto_region 27 with fail
      have P12 := Lib.hid (P11.out.stored (j * 16 + 11) (.int .i64 K11)).1
      have G12 := Lib.hid (grownBy_trans G11.out (grown_setCell1 _ g (j * 16 + 11) (.int .i64 K11)))
      clear c11 f11 P11 G11
      generalize w11.setCell ⟨g, j * 16 + 11, none⟩ (.int .i64 K11) = w12 at P12 G12 ⊢
      go_upto_region 28 with fail
      generalize hK12 : K11 + 1 = K12
      have lo12 : 0 ≤ K12 := by omega
      have hi12 : K12 ≤ 4000000000 + 12 := by omega
      have HK12 := Lib.hid hK12
      clear hK12 lo11 hi11
      obtain ⟨u12, c12⟩ := cell_of_own P12.out (j * 16 + 12) (by omega)
      have f12 := P12.out.frozenAt (j * 16 + 12)
      go_upto_region 29 with fail
      have P13 := Lib.hid (P12.out.stored (j * 16 + 12) (.int .i64 K12)).1
      have G13 := Lib.hid (grownBy_trans G12.out (grown_setCell1 _ g (j * 16 + 12) (.int .i64 K12)))
      clear c12 f12 P12 G12
      generalize w12.setCell ⟨g, j * 16 + 12, none⟩ (.int .i64 K12) = w13 at P13 G13 ⊢
      go_upto_region 30 with fail
      generalize hK13 : K12 + 1 = K13
      have lo13 : 0 ≤ K13 := by omega
      have hi13 : K13 ≤ 4000000000 + 13 := by omega
      have HK13 := Lib.hid hK13
      clear hK13 lo12 hi12
      obtain ⟨u13, c13⟩ := cell_of_own P13.out (j * 16 + 13) (by omega)
      have f13 := P13.out.frozenAt (j * 16 + 13)
      go_upto_region 31 with fail
      have P14 := Lib.hid (P13.out.stored (j * 16 + 13) (.int .i64 K13)).1
      have G14 := Lib.hid (grownBy_trans G13.out (grown_setCell1 _ g (j * 16 + 13) (.int .i64 K13)))
      clear c13 f13 P13 G13
      generalize w13.setCell ⟨g, j * 16 + 13, none⟩ (.int .i64 K13) = w14 at P14 G14 ⊢
      go_upto_region 32 with fail
      generalize hK14 : K13 + 1 = K14
      have lo14 : 0 ≤ K14 := by omega
      have hi14 : K14 ≤ 4000000000 + 14 := by omega
      have HK14 := Lib.hid hK14
      clear hK14 lo13 hi13
      obtain ⟨u14, c14⟩ := cell_of_own P14.out (j * 16 + 14) (by omega)
      have f14 := P14.out.frozenAt (j * 16 + 14)
      go_upto_region 33 with fail
      have P15 := Lib.hid (P14.out.stored (j * 16 + 14) (.int .i64 K14)).1
      have G15 := Lib.hid (grownBy_trans G14.out (grown_setCell1 _ g (j * 16 + 14) (.int .i64 K14)))
      clear c14 f14 P14 G14
      generalize w14.setCell ⟨g, j * 16 + 14, none⟩ (.int .i64 K14) = w15 at P15 G15 ⊢
      go_upto_region 34 with fail
      generalize hK15 : K14 + 1 = K15
      have lo15 : 0 ≤ K15 := by omega
      have hi15 : K15 ≤ 4000000000 + 15 := by omega
      have HK15 := Lib.hid hK15
      clear hK15 lo14 hi14
      obtain ⟨u15, c15⟩ := cell_of_own P15.out (j * 16 + 15) (by omega)
      have f15 := P15.out.frozenAt (j * 16 + 15)
      go_upto_region 35 with fail
      have P16 := Lib.hid (P15.out.stored (j * 16 + 15) (.int .i64 K15)).1
      have G16 := Lib.hid (grownBy_trans G15.out (grown_setCell1 _ g (j * 16 + 15) (.int .i64 K15)))
      clear c15 f15 P15 G15
      generalize w15.setCell ⟨g, j * 16 + 15, none⟩ (.int .i64 K15) = w16 at P16 G16 ⊢
      go_wp2
      go_roundw
      case rel =>
        have R := P16.out
        have E := HK.out
        have e1 := HK1.out
        have e2 := HK2.out
        have e3 := HK3.out
        have e4 := HK4.out
        have e5 := HK5.out
        have e6 := HK6.out
        have e7 := HK7.out
        have e8 := HK8.out
        have e9 := HK9.out
        have e10 := HK10.out
        have e11 := HK11.out
        have e12 := HK12.out
        have e13 := HK13.out
        have e14 := HK14.out
        have e15 := HK15.out
        refine ⟨j + 1, by omega, by go_num, ret_eq (by omega), Lib.hid ?_, G16⟩
        subst e1
        subst e2
        subst e3
        subst e4
        subst e5
        subst e6
        subst e7
        subst e8
        subst e9
        subst e10
        subst e11
        subst e12
        subst e13
        subst e14
        subst e15
        subst E
        rw [HX.out] at R
        refine mark_next HL.out rfl hlt ?_
        exact R
      case measure => simp [intOf]; omega
    · obtain rfl : j = n := by omega
      go_wp2
      go_ret
      have R := P0.out
      rw [List.drop_eq_nil_of_le (by rw [HL.out]; exact Nat.le_refl _), List.append_nil] at R
      exact ⟨rfl, R, G0.out⟩

set_option maxHeartbeats 400000 in
theorem markCellS_any {base n c : Nat} {A : Option Addr} {xs : List Value} (k0 : Int) (w : World) (hown : w.ownsRow base 93 16 (.slice A n c) n xs) (h0 : 0 ≤ k0) (h1 : k0 ≤ 1000000000) (hn : n ≤ 1048576) :
    Calls Try.prog 69 #[.slice A n c, .int .i64 k0] w fun e w' => e = .returned (.int .i64 (k0 + n * 16)) ∧ w'.ownsRow base 93 16 (.slice A n c) n (marksN Ce.kinds n k0) ∧ w.grownBy w' (Value.slice A n c).ownBlock := by
  rcases hown.2 with ⟨hv, hz⟩ | ⟨g, cap, cur, hv, _⟩
  · injection hv with hA hn0 hc0
    subst hA hc0 hz
    exact (markCellS_0 none 0 k0 w).mono fun _ _ ⟨he, hw⟩ => ⟨he.trans (by simp), hw ▸ ⟨rfl, .inl ⟨rfl, rfl⟩⟩, hw ▸ grown_refl _ _⟩
  · injection hv with hA hn0 hc0
    subst hA hc0
    exact markCellS_C k0 w hown h0 h1 hn

set_option maxHeartbeats 2000000 in
theorem heldCellS_C (A : Option Addr) (n c : Nat) (k0 : Int) (w : World) (hr : RV w w.heap.size A (marksN Ce.kinds n k0)) (h0 : 0 ≤ k0) (h1 : k0 ≤ 1000000000) (hn : n ≤ 1048576) :
    Calls Try.prog 70 #[.slice A n c, .int .i64 k0] w fun e w' => e = .returned (.int .i64 (k0 + n * 16)) ∧ w = w' := by
  have HR := Lib.hid hr
  clear hr
  go_enter Try.func70, Try.ntmps70
  go_wp2
  go_loop [1, 5] (fun q i => ∃ j : Nat, j ≤ n ∧ i = .int .i64 j ∧ q = .int .i64 (k0 + j * 16)) (fun _ i => n - (intOf i).toNat)
  case atStart => exact ⟨0, Nat.zero_le _, rfl, by go_num⟩
  case round =>
    obtain ⟨j, hj, rfl, rfl⟩ := hrel
    by_cases hlt : j < n
    · obtain ⟨g, o, rfl, hg, hc⟩ := HR.out.marks (by rw [Ce.kinds_length]; omega) hlt
      rw [Ce.kinds_length] at hc
      obtain ⟨K0, hK⟩ : ∃ K : Int, K = k0 + j * 16 := ⟨_, rfl⟩
      rw [show k0 + (j : Int) * ((16 : Nat) : Int) = K0 from hK.symm] at hc
      rw [← hK]
      have HK := Lib.hid hK
      have lo0 : 0 ≤ K0 := by omega
      have hi0 : K0 ≤ 4000000000 := by omega
      clear hK hg
      have c0 : w.cell? ⟨g, o + j * 16, none⟩ = some (.bool (decide (K0 % 3 = 0))) := hc 0 _ rfl
      have c1 : w.cell? ⟨g, o + j * 16 + 1, none⟩ = some (.int .i64 (K0 + 1)) := hc 1 _ rfl
      have c2 : w.cell? ⟨g, o + j * 16 + 2, none⟩ = some (.int .i64 (K0 + 1 + 1)) := hc 2 _ rfl
      have c3 : w.cell? ⟨g, o + j * 16 + 3, none⟩ = some (.int .i64 (K0 + 1 + 1 + 1)) := hc 3 _ rfl
      have c4 : w.cell? ⟨g, o + j * 16 + 4, none⟩ = some (.int .i64 (K0 + 1 + 1 + 1 + 1)) := hc 4 _ rfl
      have c5 : w.cell? ⟨g, o + j * 16 + 5, none⟩ = some (.int .i64 (K0 + 1 + 1 + 1 + 1 + 1)) := hc 5 _ rfl
      have c6 : w.cell? ⟨g, o + j * 16 + 6, none⟩ = some (.int .i64 (K0 + 1 + 1 + 1 + 1 + 1 + 1)) := hc 6 _ rfl
      have c7 : w.cell? ⟨g, o + j * 16 + 7, none⟩ = some (.int .i64 (K0 + 1 + 1 + 1 + 1 + 1 + 1 + 1)) := hc 7 _ rfl
      have c8 : w.cell? ⟨g, o + j * 16 + 8, none⟩ = some (.int .i64 (K0 + 1 + 1 + 1 + 1 + 1 + 1 + 1 + 1)) := hc 8 _ rfl
      have c9 : w.cell? ⟨g, o + j * 16 + 9, none⟩ = some (.int .i64 (K0 + 1 + 1 + 1 + 1 + 1 + 1 + 1 + 1 + 1)) := hc 9 _ rfl
      have c10 : w.cell? ⟨g, o + j * 16 + 10, none⟩ = some (.int .i64 (K0 + 1 + 1 + 1 + 1 + 1 + 1 + 1 + 1 + 1 + 1)) := hc 10 _ rfl
      have c11 : w.cell? ⟨g, o + j * 16 + 11, none⟩ = some (.int .i64 (K0 + 1 + 1 + 1 + 1 + 1 + 1 + 1 + 1 + 1 + 1 + 1)) := hc 11 _ rfl
      have c12 : w.cell? ⟨g, o + j * 16 + 12, none⟩ = some (.int .i64 (K0 + 1 + 1 + 1 + 1 + 1 + 1 + 1 + 1 + 1 + 1 + 1 + 1)) := hc 12 _ rfl
      have c13 : w.cell? ⟨g, o + j * 16 + 13, none⟩ = some (.int .i64 (K0 + 1 + 1 + 1 + 1 + 1 + 1 + 1 + 1 + 1 + 1 + 1 + 1 + 1)) := hc 13 _ rfl
      have c14 : w.cell? ⟨g, o + j * 16 + 14, none⟩ = some (.int .i64 (K0 + 1 + 1 + 1 + 1 + 1 + 1 + 1 + 1 + 1 + 1 + 1 + 1 + 1 + 1)) := hc 14 _ rfl
      have c15 : w.cell? ⟨g, o + j * 16 + 15, none⟩ = some (.int .i64 (K0 + 1 + 1 + 1 + 1 + 1 + 1 + 1 + 1 + 1 + 1 + 1 + 1 + 1 + 1 + 1)) := hc 15 _ rfl
      clear hc
      obtain ⟨b0, hb0⟩ : ∃ b, decide (K0 % 3 = 0) = b := ⟨_, rfl⟩
      rw [hb0] at c0
      have hd0 : (K0 % 3 == 0) = b0 := by rw [← hb0]; first | rfl | exact beq_eq_decide | simp
      go_upto_region 7 with fail
      generalize hK1 : K0 + 1 = K1 at *
      have lo1 : 0 ≤ K1 := by omega
      have hi1 : K1 ≤ 4000000000 + 1 := by omega
      have HK1 := Lib.hid hK1
      clear hK1 lo0 hi0 c0
      go_upto_region 10 with fail
      generalize hK2 : K1 + 1 = K2 at *
      have lo2 : 0 ≤ K2 := by omega
      have hi2 : K2 ≤ 4000000000 + 2 := by omega
      have HK2 := Lib.hid hK2
      clear hK2 lo1 hi1 c1
      go_upto_region 13 with fail
      generalize hK3 : K2 + 1 = K3 at *
      have lo3 : 0 ≤ K3 := by omega
      have hi3 : K3 ≤ 4000000000 + 3 := by omega
      have HK3 := Lib.hid hK3
      clear hK3 lo2 hi2 c2
      go_upto_region 16 with fail
      generalize hK4 : K3 + 1 = K4 at *
      have lo4 : 0 ≤ K4 := by omega
      have hi4 : K4 ≤ 4000000000 + 4 := by omega
      have HK4 := Lib.hid hK4
      clear hK4 lo3 hi3 c3
      go_upto_region 19 with fail
      generalize hK5 : K4 + 1 = K5 at *
      have lo5 : 0 ≤ K5 := by omega
      have hi5 : K5 ≤ 4000000000 + 5 := by omega
      have HK5 := Lib.hid hK5
      clear hK5 lo4 hi4 c4
      go_upto_region 22 with fail
      generalize hK6 : K5 + 1 = K6 at *
      have lo6 : 0 ≤ K6 := by omega
      have hi6 : K6 ≤ 4000000000 + 6 := by omega
      have HK6 := Lib.hid hK6
      clear hK6 lo5 hi5 c5
      go_upto_region 25 with fail
      generalize hK7 : K6 + 1 = K7 at *
      have lo7 : 0 ≤ K7 := by omega
      have hi7 : K7 ≤ 4000000000 + 7 := by omega
      have HK7 := Lib.hid hK7
      clear hK7 lo6 hi6 c6
      go_upto_region 28 with fail
      generalize hK8 : K7 + 1 = K8 at *
      have lo8 : 0 ≤ K8 := by omega
      have hi8 : K8 ≤ 4000000000 + 8 := by omega
      have HK8 := Lib.hid hK8
      clear hK8 lo7 hi7 c7
      go_upto_region 31 with fail
      generalize hK9 : K8 + 1 = K9 at *
      have lo9 : 0 ≤ K9 := by omega
      have hi9 : K9 ≤ 4000000000 + 9 := by omega
      have HK9 := Lib.hid hK9
      clear hK9 lo8 hi8 c8
      go_upto_region 34 with fail
      generalize hK10 : K9 + 1 = K10 at *
      have lo10 : 0 ≤ K10 := by omega
      have hi10 : K10 ≤ 4000000000 + 10 := by omega
      have HK10 := Lib.hid hK10
      clear hK10 lo9 hi9 c9
      go_upto_region 37 with fail
      generalize hK11 : K10 + 1 = K11 at *
      have lo11 : 0 ≤ K11 := by omega
      have hi11 : K11 ≤ 4000000000 + 11 := by omega
      have HK11 := Lib.hid hK11
      clear hK11 lo10 hi10 c10
      go_upto_region 40 with fail
      generalize hK12 : K11 + 1 = K12 at *
      have lo12 : 0 ≤ K12 := by omega
      have hi12 : K12 ≤ 4000000000 + 12 := by omega
      have HK12 := Lib.hid hK12
      clear hK12 lo11 hi11 c11
      go_upto_region 43 with fail
      generalize hK13 : K12 + 1 = K13 at *
      have lo13 : 0 ≤ K13 := by omega
      have hi13 : K13 ≤ 4000000000 + 13 := by omega
      have HK13 := Lib.hid hK13
      clear hK13 lo12 hi12 c12
      go_upto_region 46 with fail
      generalize hK14 : K13 + 1 = K14 at *
      have lo14 : 0 ≤ K14 := by omega
      have hi14 : K14 ≤ 4000000000 + 14 := by omega
      have HK14 := Lib.hid hK14
      clear hK14 lo13 hi13 c13
      go_upto_region 49 with fail
      generalize hK15 : K14 + 1 = K15 at *
      have lo15 : 0 ≤ K15 := by omega
      have hi15 : K15 ≤ 4000000000 + 15 := by omega
      have HK15 := Lib.hid hK15
      clear hK15 lo14 hi14 c14
      go_wp2
      go_round
      case rel =>
        have E := HK.out
        have e1 := HK1.out
        have e2 := HK2.out
        have e3 := HK3.out
        have e4 := HK4.out
        have e5 := HK5.out
        have e6 := HK6.out
        have e7 := HK7.out
        have e8 := HK8.out
        have e9 := HK9.out
        have e10 := HK10.out
        have e11 := HK11.out
        have e12 := HK12.out
        have e13 := HK13.out
        have e14 := HK14.out
        have e15 := HK15.out
        exact ⟨j + 1, by omega, by go_num, ret_eq (by omega)⟩
      case measure => simp [intOf]; omega
    · obtain rfl : j = n := by omega
      go_wp2
      go_ret
      exact ⟨rfl, rfl⟩
end Go.Proofs.Ytmfkpiclpkeemaa

namespace Go.Proofs.Ytmfkpiclpkeemaa
set_option maxRecDepth 100000
open Go.RowKit

theorem own_setT {w : World} {base : Nat} {e : TypeId} {size n : Nat} {v : Value} {xs : List Value} (h : w.ownsRow base e size v n xs) (g j : Nat) (u : Value) (hg : g < base) : (w.setCell ⟨g, j, none⟩ u).ownsRow base e size v n xs :=
  own_grown h (grownBy_set w g j u) (fun k hk => by have := (h.lt k hk).1; simp; omega)

theorem info_tab : (Try.prog.info? 40).map (·.size) = some 2 := by kernel_rfl

set_option maxHeartbeats 400000 in
theorem szTabC (s : Int) (A : Option Addr) (n c : Nat) (l : Int) (w : World) (h0 : 0 ≤ l) (hl : l ≤ 1048576) (hn : n ≤ maxLen) :
    Calls Try.prog 27 #[.agg #[.int .i64 s, .slice A n c], .int .i64 l] w fun e w' => ∃ r : Int, e = .returned (.int .i64 r) ∧ (r < 0 ∨ (0 ≤ r ∧ r = l - n)) ∧ Below w.heap.size w w' := by
  go_enter Try.func27, Try.ntmps27
  go_wp2_with fail
  refine Calls.mono (szCellS_C A n c l _ h0 hl hn) ?_
  rintro e w1 ⟨r, rfl, hr, rfl⟩
  by_cases h : r < 0
  · clear hr
    go_wp2
    go_ret
    exact ⟨_, rfl, .inl (by omega), by go_grown⟩
  · go_wp2
    go_ret
    exact ⟨_, rfl, .inr (by omega), by go_grown⟩

set_option maxHeartbeats 1000000 in
theorem toTabC (s : Int) (A : Option Addr) (n c : Nat) (rs : List Ce) (w : World) (hr : RV w w.heap.size A (fl Ce.cells rs)) (hl : rs.length = n) (hn : n ≤ 1048576) :
    Calls Try.prog 29 #[.agg #[.int .i64 s, .slice A n c]] w fun e w' => ∃ g, e = .returned (.agg #[.int .i64 s, .slice (some ⟨g, 0, none⟩) n n]) ∧ w'.ownsRow w.heap.size 93 16 (.slice (some ⟨g, 0, none⟩) n n) n (fl Ce.cells rs) ∧ Below w.heap.size w w' := by
  have HL := Lib.hid hl
  have hr3 : ∀ o1 o2 o3, RV (((w.alloc o1).alloc o2).alloc o3) (((w.alloc o1).alloc o2).alloc o3).heap.size A (fl Ce.cells rs) := fun o1 o2 o3 => (hr.below (Joins.below_alloc3 w o1 o2 o3)).more (by simp; omega)
  have HR := Lib.hid hr3
  clear hl hr hr3
  go_enter Try.func29, Try.ntmps29
  go_wp2_with fail
  refine (toCellS_C A n c rs _ (HR.out _ _ _) HL.out hn).mono ?_
  rintro e w1 ⟨g1, rfl, o1, b1⟩
  have q2 := Lib.hid (K.on b1 (g := w.heap.size + 1) (by simp) (K.old (by have := K.new (w.alloc (.cells #[.int .i64 s, .slice A n c] 47)) (.cells #[.int .i64 0, .slice none 0 0] 40); simpa using this) _))
  have q3 := Lib.hid (K.on b1 (g := w.heap.size + 1 + 1) (by simp) (by have := K.new ((w.alloc (.cells #[.int .i64 s, .slice A n c] 47)).alloc (.cells #[.int .i64 0, .slice none 0 0] 40)) (.cells #[.int .i64 s, .slice none 0 0] 40); simpa using this))
  have B1 := Lib.hid (bthen (Joins.below_alloc3 w _ _ _) b1)
  have O1 := Lib.hid (own_base o1 (show w.heap.size + 3 ≤ _ by simp))
  clear o1 b1
  obtain ⟨⟨c0, c1⟩, f0, f1⟩ := K.row2 q2.out
  obtain ⟨⟨d0, d1⟩, g0, g1'⟩ := K.row2 q3.out
  go_wp2
  (try simp only [Exit.inBlock, Exit.then])
  refine bodyPost_ret (v := .agg #[.int .i64 s, .slice (some ⟨g1, 0, none⟩) n n]) ?_ rfl ⟨g1, rfl, own_base (own_setT (own_setT (own_setT O1.out _ 1 _ (by omega)) _ 0 _ (by omega)) _ 1 _ (by omega)) (by omega), ?_⟩
  · refine K.resCell Try.results29 _ _ _ (w.heap.size + 1) _ ?_ (run_loadVar_row _ _ 40 40 _ (0, 0) _ (K.set (K.set (K.other q2.out _ _ _ (by omega)) 0 _) 1 _) Try.underlying40 rfl info_tab)
    rfl
  · have := B1.out
    go_grown

set_option maxHeartbeats 1000000 in
theorem eqTabC (s : Int) (A D : Option Addr) (n c d : Nat) (rs : List Ce) (w : World) (hx : RV w w.heap.size A (fl Ce.cells rs)) (hy : RV w w.heap.size D (fl Ce.cells rs)) (hl : rs.length = n) (hn : n ≤ 1048576) :
    Calls Try.prog 24 #[.agg #[.int .i64 s, .slice A n c], .agg #[.int .i64 s, .slice D n d]] w fun e w' => e = .returned (.bool true) ∧ Below w.heap.size w w' := by
  have HL := Lib.hid hl
  have hx2 : ∀ o1 o2, RV ((w.alloc o1).alloc o2) ((w.alloc o1).alloc o2).heap.size A (fl Ce.cells rs) := fun o1 o2 => (hx.below (Joins.below_alloc2 w o1 o2)).more (by simp; omega)
  have hy2 : ∀ o1 o2, RV ((w.alloc o1).alloc o2) ((w.alloc o1).alloc o2).heap.size D (fl Ce.cells rs) := fun o1 o2 => (hy.below (Joins.below_alloc2 w o1 o2)).more (by simp; omega)
  have HX := Lib.hid hx2
  have HY := Lib.hid hy2
  clear hl hx hy hx2 hy2
  go_enter Try.func24, Try.ntmps24
  go_wp2_with fail
  refine (eqCellS_C A D n c d rs _ (HX.out _ _) (HY.out _ _) HL.out hn).mono ?_
  rintro e w1 ⟨rfl, b1⟩
  go_wp2
  go_ret
  exact ⟨rfl, bthen (Joins.below_alloc2 w _ _) b1⟩

set_option maxHeartbeats 1000000 in
theorem markTabC (s : Int) (A : Option Addr) (n c base : Nat) (xs : List Value) (k : Int) (w : World) (hown : w.ownsRow base 93 16 (.slice A n c) n xs) (hn : n ≤ 1048576) (h0 : 0 ≤ k) (hk : k ≤ 1000000000) :
    Calls Try.prog 25 #[.agg #[.int .i64 s, .slice A n c], .int .i64 k] w fun e w' => e = .returned (.int .i64 (k + n * 16)) ∧
      w'.ownsRow base 93 16 (.slice A n c) n (marksN Ce.kinds n k) ∧ w.grownBy w' (Value.slice A n c).ownBlock := by
  have HO := Lib.hid (fun o : Obj => hown.alloc o)
  clear hown
  go_enter Try.func25, Try.ntmps25
  go_wp2_with fail
  refine (markCellS_any k _ (HO.out _) h0 hk hn).mono ?_
  rintro e w1 ⟨rfl, o1, g1⟩
  have g2 := Lib.hid (grownBy_trans (only_new (K.refl w _) _) g1)
  clear g1
  go_wp2
  go_ret
  exact ⟨rfl, o1, g2.out⟩

set_option maxHeartbeats 1000000 in
theorem heldTabC (s : Int) (A : Option Addr) (n c : Nat) (k : Int) (w : World) (hr : RV w w.heap.size A (marksN Ce.kinds n k)) (hn : n ≤ 1048576) (h0 : 0 ≤ k) (hk : k ≤ 1000000000) :
    Calls Try.prog 26 #[.agg #[.int .i64 s, .slice A n c], .int .i64 k] w fun e w' => e = .returned (.int .i64 (k + n * 16)) ∧ Below w.heap.size w w' := by
  have HR := Lib.hid (fun o : Obj => (hr.below (Joins.below_alloc1 w o)).more (show w.heap.size ≤ (w.alloc o).heap.size by simp))
  clear hr
  go_enter Try.func26, Try.ntmps26
  go_wp2_with fail
  refine (heldCellS_C A n c k _ (HR.out _) h0 hk hn).mono ?_
  rintro e w1 ⟨rfl, rfl⟩
  have hk9 : ¬ (k + (n : Int) * 16 < 0) := by omega
  go_wp2
  go_ret
  exact ⟨rfl, Joins.below_alloc1 w _⟩
end Go.Proofs.Ytmfkpiclpkeemaa
