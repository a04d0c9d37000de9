/-
  The laws' own copy of a struct. The laws' own copies of lists of structs.
-/
import Derived.Test.YtdndanbalmoklaaMo
import Derived.Test.YtdndanbalmoklaaAddr
import Derived.Deep.Cut
namespace Go.Proofs.Ytdndanbalmoklaa
set_option maxRecDepth 100000
open Go.RowKit

set_option maxHeartbeats 1000000 in
theorem toModuleC (x : Mo) (w : World) : Calls Try.prog 16 #[.agg #[.int .i64 x.kind, .int .i64 x.frm.base.k, .int .i64 x.frm.base.a, .int .i64 x.frm.base.b, .int .i64 x.frm.base.c, .int .i64 x.frm.base.d, .int .i64 x.frm.len, .int .i64 x.to.base.k, .int .i64 x.to.base.a, .int .i64 x.to.base.b, .int .i64 x.to.base.c, .int .i64 x.to.base.d, .int .i64 x.to.len, .int .i64 x.proto, .int .i64 x.lo, .int .i64 x.hi, .int .i64 x.n]] w fun e w' => e = .returned (.agg #[.int .i64 x.kind, .int .i64 x.frm.base.k, .int .i64 x.frm.base.a, .int .i64 x.frm.base.b, .int .i64 x.frm.base.c, .int .i64 x.frm.base.d, .int .i64 x.frm.len, .int .i64 x.to.base.k, .int .i64 x.to.base.a, .int .i64 x.to.base.b, .int .i64 x.to.base.c, .int .i64 x.to.base.d, .int .i64 x.to.len, .int .i64 x.proto, .int .i64 x.lo, .int .i64 x.hi, .int .i64 x.n]) ∧ Below w.heap.size w w' := by
  go_enter Try.func16, Try.ntmps16
  go_upto_region 2 with fail
  have q0 : Hid ((((w.alloc (.cells #[.int .i64 x.kind, .int .i64 x.frm.base.k, .int .i64 x.frm.base.a, .int .i64 x.frm.base.b, .int .i64 x.frm.base.c, .int .i64 x.frm.base.d, .int .i64 x.frm.len, .int .i64 x.to.base.k, .int .i64 x.to.base.a, .int .i64 x.to.base.b, .int .i64 x.to.base.c, .int .i64 x.to.base.d, .int .i64 x.to.len, .int .i64 x.proto, .int .i64 x.lo, .int .i64 x.hi, .int .i64 x.n] 27)).alloc (.cells #[.int .i64 0, .int .i64 0, .int .i64 0, .int .i64 0, .int .i64 0, .int .i64 0, .int .i64 0, .int .i64 0, .int .i64 0, .int .i64 0, .int .i64 0, .int .i64 0, .int .i64 0, .int .i64 0, .int .i64 0, .int .i64 0, .int .i64 0] 33)).alloc (.cells #[.int .i64 0, .int .i64 0, .int .i64 0, .int .i64 0, .int .i64 0, .int .i64 0, .int .i64 0, .int .i64 0, .int .i64 0, .int .i64 0, .int .i64 0, .int .i64 0, .int .i64 0, .int .i64 0, .int .i64 0, .int .i64 0, .int .i64 0] 33)).heap[w.heap.size]? = some (.cells #[.int .i64 x.kind, .int .i64 x.frm.base.k, .int .i64 x.frm.base.a, .int .i64 x.frm.base.b, .int .i64 x.frm.base.c, .int .i64 x.frm.base.d, .int .i64 x.frm.len, .int .i64 x.to.base.k, .int .i64 x.to.base.a, .int .i64 x.to.base.b, .int .i64 x.to.base.c, .int .i64 x.to.base.d, .int .i64 x.to.len, .int .i64 x.proto, .int .i64 x.lo, .int .i64 x.hi, .int .i64 x.n] 27 (0, 0))) := Lib.hid (K.oldAt (by first | (simp; done) | (simp; omega)) (K.oldAt (by first | (simp; done) | (simp; omega)) (K.new w _)))
  have z0 : Hid ((((w.alloc (.cells #[.int .i64 x.kind, .int .i64 x.frm.base.k, .int .i64 x.frm.base.a, .int .i64 x.frm.base.b, .int .i64 x.frm.base.c, .int .i64 x.frm.base.d, .int .i64 x.frm.len, .int .i64 x.to.base.k, .int .i64 x.to.base.a, .int .i64 x.to.base.b, .int .i64 x.to.base.c, .int .i64 x.to.base.d, .int .i64 x.to.len, .int .i64 x.proto, .int .i64 x.lo, .int .i64 x.hi, .int .i64 x.n] 27)).alloc (.cells #[.int .i64 0, .int .i64 0, .int .i64 0, .int .i64 0, .int .i64 0, .int .i64 0, .int .i64 0, .int .i64 0, .int .i64 0, .int .i64 0, .int .i64 0, .int .i64 0, .int .i64 0, .int .i64 0, .int .i64 0, .int .i64 0, .int .i64 0] 33)).alloc (.cells #[.int .i64 0, .int .i64 0, .int .i64 0, .int .i64 0, .int .i64 0, .int .i64 0, .int .i64 0, .int .i64 0, .int .i64 0, .int .i64 0, .int .i64 0, .int .i64 0, .int .i64 0, .int .i64 0, .int .i64 0, .int .i64 0, .int .i64 0] 33)).heap[w.heap.size + 1]? = some (.cells #[.int .i64 0, .int .i64 0, .int .i64 0, .int .i64 0, .int .i64 0, .int .i64 0, .int .i64 0, .int .i64 0, .int .i64 0, .int .i64 0, .int .i64 0, .int .i64 0, .int .i64 0, .int .i64 0, .int .i64 0, .int .i64 0, .int .i64 0] 33 (0, 0))) := Lib.hid (K.oldAt (by first | (simp; done) | (simp; omega)) (K.newAt (by simp)))
  have u0 : Hid ((((w.alloc (.cells #[.int .i64 x.kind, .int .i64 x.frm.base.k, .int .i64 x.frm.base.a, .int .i64 x.frm.base.b, .int .i64 x.frm.base.c, .int .i64 x.frm.base.d, .int .i64 x.frm.len, .int .i64 x.to.base.k, .int .i64 x.to.base.a, .int .i64 x.to.base.b, .int .i64 x.to.base.c, .int .i64 x.to.base.d, .int .i64 x.to.len, .int .i64 x.proto, .int .i64 x.lo, .int .i64 x.hi, .int .i64 x.n] 27)).alloc (.cells #[.int .i64 0, .int .i64 0, .int .i64 0, .int .i64 0, .int .i64 0, .int .i64 0, .int .i64 0, .int .i64 0, .int .i64 0, .int .i64 0, .int .i64 0, .int .i64 0, .int .i64 0, .int .i64 0, .int .i64 0, .int .i64 0, .int .i64 0] 33)).alloc (.cells #[.int .i64 0, .int .i64 0, .int .i64 0, .int .i64 0, .int .i64 0, .int .i64 0, .int .i64 0, .int .i64 0, .int .i64 0, .int .i64 0, .int .i64 0, .int .i64 0, .int .i64 0, .int .i64 0, .int .i64 0, .int .i64 0, .int .i64 0] 33)).heap[w.heap.size + 1 + 1]? = some (.cells #[.int .i64 0, .int .i64 0, .int .i64 0, .int .i64 0, .int .i64 0, .int .i64 0, .int .i64 0, .int .i64 0, .int .i64 0, .int .i64 0, .int .i64 0, .int .i64 0, .int .i64 0, .int .i64 0, .int .i64 0, .int .i64 0, .int .i64 0] 33 (0, 0))) := Lib.hid (K.newAt (by simp))
  have B0 : Hid (Below w.heap.size w (((w.alloc (.cells #[.int .i64 x.kind, .int .i64 x.frm.base.k, .int .i64 x.frm.base.a, .int .i64 x.frm.base.b, .int .i64 x.frm.base.c, .int .i64 x.frm.base.d, .int .i64 x.frm.len, .int .i64 x.to.base.k, .int .i64 x.to.base.a, .int .i64 x.to.base.b, .int .i64 x.to.base.c, .int .i64 x.to.base.d, .int .i64 x.to.len, .int .i64 x.proto, .int .i64 x.lo, .int .i64 x.hi, .int .i64 x.n] 27)).alloc (.cells #[.int .i64 0, .int .i64 0, .int .i64 0, .int .i64 0, .int .i64 0, .int .i64 0, .int .i64 0, .int .i64 0, .int .i64 0, .int .i64 0, .int .i64 0, .int .i64 0, .int .i64 0, .int .i64 0, .int .i64 0, .int .i64 0, .int .i64 0] 33)).alloc (.cells #[.int .i64 0, .int .i64 0, .int .i64 0, .int .i64 0, .int .i64 0, .int .i64 0, .int .i64 0, .int .i64 0, .int .i64 0, .int .i64 0, .int .i64 0, .int .i64 0, .int .i64 0, .int .i64 0, .int .i64 0, .int .i64 0, .int .i64 0] 33))) := Lib.hid (by go_grown)
  generalize ((w.alloc (.cells #[.int .i64 x.kind, .int .i64 x.frm.base.k, .int .i64 x.frm.base.a, .int .i64 x.frm.base.b, .int .i64 x.frm.base.c, .int .i64 x.frm.base.d, .int .i64 x.frm.len, .int .i64 x.to.base.k, .int .i64 x.to.base.a, .int .i64 x.to.base.b, .int .i64 x.to.base.c, .int .i64 x.to.base.d, .int .i64 x.to.len, .int .i64 x.proto, .int .i64 x.lo, .int .i64 x.hi, .int .i64 x.n] 27)).alloc (.cells #[.int .i64 0, .int .i64 0, .int .i64 0, .int .i64 0, .int .i64 0, .int .i64 0, .int .i64 0, .int .i64 0, .int .i64 0, .int .i64 0, .int .i64 0, .int .i64 0, .int .i64 0, .int .i64 0, .int .i64 0, .int .i64 0, .int .i64 0] 33)).alloc (.cells #[.int .i64 0, .int .i64 0, .int .i64 0, .int .i64 0, .int .i64 0, .int .i64 0, .int .i64 0, .int .i64 0, .int .i64 0, .int .i64 0, .int .i64 0, .int .i64 0, .int .i64 0, .int .i64 0, .int .i64 0, .int .i64 0, .int .i64 0] 33) = w0 at q0 z0 u0 B0 ⊢
  have c := K.cell q0.out 0 _ rfl
  have d := K.cell u0.out 0 _ rfl
  have f := frozen_of_row _ _ 0 _ _ u0.out
  go_upto_region 3 with fail
  have q1 : Hid ((w0.setCell ⟨w.heap.size + 1 + 1, 0, none⟩ (.int .i64 x.kind)).heap[w.heap.size]? = some (.cells #[.int .i64 x.kind, .int .i64 x.frm.base.k, .int .i64 x.frm.base.a, .int .i64 x.frm.base.b, .int .i64 x.frm.base.c, .int .i64 x.frm.base.d, .int .i64 x.frm.len, .int .i64 x.to.base.k, .int .i64 x.to.base.a, .int .i64 x.to.base.b, .int .i64 x.to.base.c, .int .i64 x.to.base.d, .int .i64 x.to.len, .int .i64 x.proto, .int .i64 x.lo, .int .i64 x.hi, .int .i64 x.n] 27 (0, 0))) := Lib.hid (K.other q0.out (w.heap.size + 1 + 1) 0 (.int .i64 x.kind) (by omega))
  have z1 : Hid ((w0.setCell ⟨w.heap.size + 1 + 1, 0, none⟩ (.int .i64 x.kind)).heap[w.heap.size + 1]? = some (.cells #[.int .i64 0, .int .i64 0, .int .i64 0, .int .i64 0, .int .i64 0, .int .i64 0, .int .i64 0, .int .i64 0, .int .i64 0, .int .i64 0, .int .i64 0, .int .i64 0, .int .i64 0, .int .i64 0, .int .i64 0, .int .i64 0, .int .i64 0] 33 (0, 0))) := Lib.hid (K.other z0.out (w.heap.size + 1 + 1) 0 (.int .i64 x.kind) (by omega))
  have u1 : Hid ((w0.setCell ⟨w.heap.size + 1 + 1, 0, none⟩ (.int .i64 x.kind)).heap[w.heap.size + 1 + 1]? = some (.cells #[.int .i64 x.kind, .int .i64 0, .int .i64 0, .int .i64 0, .int .i64 0, .int .i64 0, .int .i64 0, .int .i64 0, .int .i64 0, .int .i64 0, .int .i64 0, .int .i64 0, .int .i64 0, .int .i64 0, .int .i64 0, .int .i64 0, .int .i64 0] 33 (0, 0))) := Lib.hid (K.set u0.out 0 (.int .i64 x.kind))
  have B1 : Hid (Below w.heap.size w (w0.setCell ⟨w.heap.size + 1 + 1, 0, none⟩ (.int .i64 x.kind))) := Lib.hid (Below.setCell B0.out (p := ⟨w.heap.size + 1 + 1, 0, none⟩) (by simp; omega) (.int .i64 x.kind))
  clear c d f q0 z0 u0 B0
  generalize w0.setCell ⟨w.heap.size + 1 + 1, 0, none⟩ (.int .i64 x.kind) = w1 at q1 z1 u1 B1 ⊢
  have c1 := K.cell q1.out 1 _ rfl
  have c2 := K.cell q1.out 2 _ rfl
  have c3 := K.cell q1.out 3 _ rfl
  have c4 := K.cell q1.out 4 _ rfl
  have c5 := K.cell q1.out 5 _ rfl
  have c6 := K.cell q1.out 6 _ rfl
  go_wp2_with fail
  refine Calls.mono (toPrefixC x.frm _) ?_
  rintro e w2 ⟨rfl, b2⟩
  have q2 := Lib.hid (K.below b2 q1.out)
  have z2 := Lib.hid (K.below b2 z1.out)
  have u2 := Lib.hid (K.below b2 u1.out)
  have B2 := Lib.hid (bthen B1.out b2)
  have Z2 : Hid (w.heap.size + 1 + 1 < w2.heap.size) := Lib.hid (K.lt u2.out)
  clear b2 q1 z1 u1 B1 c1 c2 c3 c4 c5 c6
  have d1 := K.cell u2.out 1 _ rfl
  have f1 := frozen_of_row _ _ 1 _ _ u2.out
  have d2 := K.cell u2.out 2 _ rfl
  have f2 := frozen_of_row _ _ 2 _ _ u2.out
  have d3 := K.cell u2.out 3 _ rfl
  have f3 := frozen_of_row _ _ 3 _ _ u2.out
  have d4 := K.cell u2.out 4 _ rfl
  have f4 := frozen_of_row _ _ 4 _ _ u2.out
  have d5 := K.cell u2.out 5 _ rfl
  have f5 := frozen_of_row _ _ 5 _ _ u2.out
  have d6 := K.cell u2.out 6 _ rfl
  have f6 := frozen_of_row _ _ 6 _ _ u2.out
  go_upto_region 4 with fail
  have q2_1 : Hid ((w2.setCell ⟨w.heap.size + 1 + 1, 1, none⟩ (.int .i64 x.frm.base.k)).heap[w.heap.size]? = some (.cells #[.int .i64 x.kind, .int .i64 x.frm.base.k, .int .i64 x.frm.base.a, .int .i64 x.frm.base.b, .int .i64 x.frm.base.c, .int .i64 x.frm.base.d, .int .i64 x.frm.len, .int .i64 x.to.base.k, .int .i64 x.to.base.a, .int .i64 x.to.base.b, .int .i64 x.to.base.c, .int .i64 x.to.base.d, .int .i64 x.to.len, .int .i64 x.proto, .int .i64 x.lo, .int .i64 x.hi, .int .i64 x.n] 27 (0, 0))) := Lib.hid (K.other q2.out (w.heap.size + 1 + 1) 1 (.int .i64 x.frm.base.k) (by omega))
  have z2_1 : Hid ((w2.setCell ⟨w.heap.size + 1 + 1, 1, none⟩ (.int .i64 x.frm.base.k)).heap[w.heap.size + 1]? = some (.cells #[.int .i64 0, .int .i64 0, .int .i64 0, .int .i64 0, .int .i64 0, .int .i64 0, .int .i64 0, .int .i64 0, .int .i64 0, .int .i64 0, .int .i64 0, .int .i64 0, .int .i64 0, .int .i64 0, .int .i64 0, .int .i64 0, .int .i64 0] 33 (0, 0))) := Lib.hid (K.other z2.out (w.heap.size + 1 + 1) 1 (.int .i64 x.frm.base.k) (by omega))
  have u2_1 : Hid ((w2.setCell ⟨w.heap.size + 1 + 1, 1, none⟩ (.int .i64 x.frm.base.k)).heap[w.heap.size + 1 + 1]? = some (.cells #[.int .i64 x.kind, .int .i64 x.frm.base.k, .int .i64 0, .int .i64 0, .int .i64 0, .int .i64 0, .int .i64 0, .int .i64 0, .int .i64 0, .int .i64 0, .int .i64 0, .int .i64 0, .int .i64 0, .int .i64 0, .int .i64 0, .int .i64 0, .int .i64 0] 33 (0, 0))) := Lib.hid (K.set u2.out 1 (.int .i64 x.frm.base.k))
  have B2_1 : Hid (Below w.heap.size w (w2.setCell ⟨w.heap.size + 1 + 1, 1, none⟩ (.int .i64 x.frm.base.k))) := Lib.hid (Below.setCell B2.out (p := ⟨w.heap.size + 1 + 1, 1, none⟩) (by simp; omega) (.int .i64 x.frm.base.k))
  clear q2 z2 u2 B2
  have q2_2 : Hid (((w2.setCell ⟨w.heap.size + 1 + 1, 1, none⟩ (.int .i64 x.frm.base.k)).setCell ⟨w.heap.size + 1 + 1, 2, none⟩ (.int .i64 x.frm.base.a)).heap[w.heap.size]? = some (.cells #[.int .i64 x.kind, .int .i64 x.frm.base.k, .int .i64 x.frm.base.a, .int .i64 x.frm.base.b, .int .i64 x.frm.base.c, .int .i64 x.frm.base.d, .int .i64 x.frm.len, .int .i64 x.to.base.k, .int .i64 x.to.base.a, .int .i64 x.to.base.b, .int .i64 x.to.base.c, .int .i64 x.to.base.d, .int .i64 x.to.len, .int .i64 x.proto, .int .i64 x.lo, .int .i64 x.hi, .int .i64 x.n] 27 (0, 0))) := Lib.hid (K.other q2_1.out (w.heap.size + 1 + 1) 2 (.int .i64 x.frm.base.a) (by omega))
  have z2_2 : Hid (((w2.setCell ⟨w.heap.size + 1 + 1, 1, none⟩ (.int .i64 x.frm.base.k)).setCell ⟨w.heap.size + 1 + 1, 2, none⟩ (.int .i64 x.frm.base.a)).heap[w.heap.size + 1]? = some (.cells #[.int .i64 0, .int .i64 0, .int .i64 0, .int .i64 0, .int .i64 0, .int .i64 0, .int .i64 0, .int .i64 0, .int .i64 0, .int .i64 0, .int .i64 0, .int .i64 0, .int .i64 0, .int .i64 0, .int .i64 0, .int .i64 0, .int .i64 0] 33 (0, 0))) := Lib.hid (K.other z2_1.out (w.heap.size + 1 + 1) 2 (.int .i64 x.frm.base.a) (by omega))
  have u2_2 : Hid (((w2.setCell ⟨w.heap.size + 1 + 1, 1, none⟩ (.int .i64 x.frm.base.k)).setCell ⟨w.heap.size + 1 + 1, 2, none⟩ (.int .i64 x.frm.base.a)).heap[w.heap.size + 1 + 1]? = some (.cells #[.int .i64 x.kind, .int .i64 x.frm.base.k, .int .i64 x.frm.base.a, .int .i64 0, .int .i64 0, .int .i64 0, .int .i64 0, .int .i64 0, .int .i64 0, .int .i64 0, .int .i64 0, .int .i64 0, .int .i64 0, .int .i64 0, .int .i64 0, .int .i64 0, .int .i64 0] 33 (0, 0))) := Lib.hid (K.set u2_1.out 2 (.int .i64 x.frm.base.a))
  have B2_2 : Hid (Below w.heap.size w ((w2.setCell ⟨w.heap.size + 1 + 1, 1, none⟩ (.int .i64 x.frm.base.k)).setCell ⟨w.heap.size + 1 + 1, 2, none⟩ (.int .i64 x.frm.base.a))) := Lib.hid (Below.setCell B2_1.out (p := ⟨w.heap.size + 1 + 1, 2, none⟩) (by simp; omega) (.int .i64 x.frm.base.a))
  clear q2_1 z2_1 u2_1 B2_1
  have q2_3 : Hid ((((w2.setCell ⟨w.heap.size + 1 + 1, 1, none⟩ (.int .i64 x.frm.base.k)).setCell ⟨w.heap.size + 1 + 1, 2, none⟩ (.int .i64 x.frm.base.a)).setCell ⟨w.heap.size + 1 + 1, 3, none⟩ (.int .i64 x.frm.base.b)).heap[w.heap.size]? = some (.cells #[.int .i64 x.kind, .int .i64 x.frm.base.k, .int .i64 x.frm.base.a, .int .i64 x.frm.base.b, .int .i64 x.frm.base.c, .int .i64 x.frm.base.d, .int .i64 x.frm.len, .int .i64 x.to.base.k, .int .i64 x.to.base.a, .int .i64 x.to.base.b, .int .i64 x.to.base.c, .int .i64 x.to.base.d, .int .i64 x.to.len, .int .i64 x.proto, .int .i64 x.lo, .int .i64 x.hi, .int .i64 x.n] 27 (0, 0))) := Lib.hid (K.other q2_2.out (w.heap.size + 1 + 1) 3 (.int .i64 x.frm.base.b) (by omega))
  have z2_3 : Hid ((((w2.setCell ⟨w.heap.size + 1 + 1, 1, none⟩ (.int .i64 x.frm.base.k)).setCell ⟨w.heap.size + 1 + 1, 2, none⟩ (.int .i64 x.frm.base.a)).setCell ⟨w.heap.size + 1 + 1, 3, none⟩ (.int .i64 x.frm.base.b)).heap[w.heap.size + 1]? = some (.cells #[.int .i64 0, .int .i64 0, .int .i64 0, .int .i64 0, .int .i64 0, .int .i64 0, .int .i64 0, .int .i64 0, .int .i64 0, .int .i64 0, .int .i64 0, .int .i64 0, .int .i64 0, .int .i64 0, .int .i64 0, .int .i64 0, .int .i64 0] 33 (0, 0))) := Lib.hid (K.other z2_2.out (w.heap.size + 1 + 1) 3 (.int .i64 x.frm.base.b) (by omega))
  have u2_3 : Hid ((((w2.setCell ⟨w.heap.size + 1 + 1, 1, none⟩ (.int .i64 x.frm.base.k)).setCell ⟨w.heap.size + 1 + 1, 2, none⟩ (.int .i64 x.frm.base.a)).setCell ⟨w.heap.size + 1 + 1, 3, none⟩ (.int .i64 x.frm.base.b)).heap[w.heap.size + 1 + 1]? = some (.cells #[.int .i64 x.kind, .int .i64 x.frm.base.k, .int .i64 x.frm.base.a, .int .i64 x.frm.base.b, .int .i64 0, .int .i64 0, .int .i64 0, .int .i64 0, .int .i64 0, .int .i64 0, .int .i64 0, .int .i64 0, .int .i64 0, .int .i64 0, .int .i64 0, .int .i64 0, .int .i64 0] 33 (0, 0))) := Lib.hid (K.set u2_2.out 3 (.int .i64 x.frm.base.b))
  have B2_3 : Hid (Below w.heap.size w (((w2.setCell ⟨w.heap.size + 1 + 1, 1, none⟩ (.int .i64 x.frm.base.k)).setCell ⟨w.heap.size + 1 + 1, 2, none⟩ (.int .i64 x.frm.base.a)).setCell ⟨w.heap.size + 1 + 1, 3, none⟩ (.int .i64 x.frm.base.b))) := Lib.hid (Below.setCell B2_2.out (p := ⟨w.heap.size + 1 + 1, 3, none⟩) (by simp; omega) (.int .i64 x.frm.base.b))
  clear q2_2 z2_2 u2_2 B2_2
  have q2_4 : Hid (((((w2.setCell ⟨w.heap.size + 1 + 1, 1, none⟩ (.int .i64 x.frm.base.k)).setCell ⟨w.heap.size + 1 + 1, 2, none⟩ (.int .i64 x.frm.base.a)).setCell ⟨w.heap.size + 1 + 1, 3, none⟩ (.int .i64 x.frm.base.b)).setCell ⟨w.heap.size + 1 + 1, 4, none⟩ (.int .i64 x.frm.base.c)).heap[w.heap.size]? = some (.cells #[.int .i64 x.kind, .int .i64 x.frm.base.k, .int .i64 x.frm.base.a, .int .i64 x.frm.base.b, .int .i64 x.frm.base.c, .int .i64 x.frm.base.d, .int .i64 x.frm.len, .int .i64 x.to.base.k, .int .i64 x.to.base.a, .int .i64 x.to.base.b, .int .i64 x.to.base.c, .int .i64 x.to.base.d, .int .i64 x.to.len, .int .i64 x.proto, .int .i64 x.lo, .int .i64 x.hi, .int .i64 x.n] 27 (0, 0))) := Lib.hid (K.other q2_3.out (w.heap.size + 1 + 1) 4 (.int .i64 x.frm.base.c) (by omega))
  have z2_4 : Hid (((((w2.setCell ⟨w.heap.size + 1 + 1, 1, none⟩ (.int .i64 x.frm.base.k)).setCell ⟨w.heap.size + 1 + 1, 2, none⟩ (.int .i64 x.frm.base.a)).setCell ⟨w.heap.size + 1 + 1, 3, none⟩ (.int .i64 x.frm.base.b)).setCell ⟨w.heap.size + 1 + 1, 4, none⟩ (.int .i64 x.frm.base.c)).heap[w.heap.size + 1]? = some (.cells #[.int .i64 0, .int .i64 0, .int .i64 0, .int .i64 0, .int .i64 0, .int .i64 0, .int .i64 0, .int .i64 0, .int .i64 0, .int .i64 0, .int .i64 0, .int .i64 0, .int .i64 0, .int .i64 0, .int .i64 0, .int .i64 0, .int .i64 0] 33 (0, 0))) := Lib.hid (K.other z2_3.out (w.heap.size + 1 + 1) 4 (.int .i64 x.frm.base.c) (by omega))
  have u2_4 : Hid (((((w2.setCell ⟨w.heap.size + 1 + 1, 1, none⟩ (.int .i64 x.frm.base.k)).setCell ⟨w.heap.size + 1 + 1, 2, none⟩ (.int .i64 x.frm.base.a)).setCell ⟨w.heap.size + 1 + 1, 3, none⟩ (.int .i64 x.frm.base.b)).setCell ⟨w.heap.size + 1 + 1, 4, none⟩ (.int .i64 x.frm.base.c)).heap[w.heap.size + 1 + 1]? = some (.cells #[.int .i64 x.kind, .int .i64 x.frm.base.k, .int .i64 x.frm.base.a, .int .i64 x.frm.base.b, .int .i64 x.frm.base.c, .int .i64 0, .int .i64 0, .int .i64 0, .int .i64 0, .int .i64 0, .int .i64 0, .int .i64 0, .int .i64 0, .int .i64 0, .int .i64 0, .int .i64 0, .int .i64 0] 33 (0, 0))) := Lib.hid (K.set u2_3.out 4 (.int .i64 x.frm.base.c))
  have B2_4 : Hid (Below w.heap.size w ((((w2.setCell ⟨w.heap.size + 1 + 1, 1, none⟩ (.int .i64 x.frm.base.k)).setCell ⟨w.heap.size + 1 + 1, 2, none⟩ (.int .i64 x.frm.base.a)).setCell ⟨w.heap.size + 1 + 1, 3, none⟩ (.int .i64 x.frm.base.b)).setCell ⟨w.heap.size + 1 + 1, 4, none⟩ (.int .i64 x.frm.base.c))) := Lib.hid (Below.setCell B2_3.out (p := ⟨w.heap.size + 1 + 1, 4, none⟩) (by simp; omega) (.int .i64 x.frm.base.c))
  clear q2_3 z2_3 u2_3 B2_3
  have q2_5 : Hid ((((((w2.setCell ⟨w.heap.size + 1 + 1, 1, none⟩ (.int .i64 x.frm.base.k)).setCell ⟨w.heap.size + 1 + 1, 2, none⟩ (.int .i64 x.frm.base.a)).setCell ⟨w.heap.size + 1 + 1, 3, none⟩ (.int .i64 x.frm.base.b)).setCell ⟨w.heap.size + 1 + 1, 4, none⟩ (.int .i64 x.frm.base.c)).setCell ⟨w.heap.size + 1 + 1, 5, none⟩ (.int .i64 x.frm.base.d)).heap[w.heap.size]? = some (.cells #[.int .i64 x.kind, .int .i64 x.frm.base.k, .int .i64 x.frm.base.a, .int .i64 x.frm.base.b, .int .i64 x.frm.base.c, .int .i64 x.frm.base.d, .int .i64 x.frm.len, .int .i64 x.to.base.k, .int .i64 x.to.base.a, .int .i64 x.to.base.b, .int .i64 x.to.base.c, .int .i64 x.to.base.d, .int .i64 x.to.len, .int .i64 x.proto, .int .i64 x.lo, .int .i64 x.hi, .int .i64 x.n] 27 (0, 0))) := Lib.hid (K.other q2_4.out (w.heap.size + 1 + 1) 5 (.int .i64 x.frm.base.d) (by omega))
  have z2_5 : Hid ((((((w2.setCell ⟨w.heap.size + 1 + 1, 1, none⟩ (.int .i64 x.frm.base.k)).setCell ⟨w.heap.size + 1 + 1, 2, none⟩ (.int .i64 x.frm.base.a)).setCell ⟨w.heap.size + 1 + 1, 3, none⟩ (.int .i64 x.frm.base.b)).setCell ⟨w.heap.size + 1 + 1, 4, none⟩ (.int .i64 x.frm.base.c)).setCell ⟨w.heap.size + 1 + 1, 5, none⟩ (.int .i64 x.frm.base.d)).heap[w.heap.size + 1]? = some (.cells #[.int .i64 0, .int .i64 0, .int .i64 0, .int .i64 0, .int .i64 0, .int .i64 0, .int .i64 0, .int .i64 0, .int .i64 0, .int .i64 0, .int .i64 0, .int .i64 0, .int .i64 0, .int .i64 0, .int .i64 0, .int .i64 0, .int .i64 0] 33 (0, 0))) := Lib.hid (K.other z2_4.out (w.heap.size + 1 + 1) 5 (.int .i64 x.frm.base.d) (by omega))
  have u2_5 : Hid ((((((w2.setCell ⟨w.heap.size + 1 + 1, 1, none⟩ (.int .i64 x.frm.base.k)).setCell ⟨w.heap.size + 1 + 1, 2, none⟩ (.int .i64 x.frm.base.a)).setCell ⟨w.heap.size + 1 + 1, 3, none⟩ (.int .i64 x.frm.base.b)).setCell ⟨w.heap.size + 1 + 1, 4, none⟩ (.int .i64 x.frm.base.c)).setCell ⟨w.heap.size + 1 + 1, 5, none⟩ (.int .i64 x.frm.base.d)).heap[w.heap.size + 1 + 1]? = some (.cells #[.int .i64 x.kind, .int .i64 x.frm.base.k, .int .i64 x.frm.base.a, .int .i64 x.frm.base.b, .int .i64 x.frm.base.c, .int .i64 x.frm.base.d, .int .i64 0, .int .i64 0, .int .i64 0, .int .i64 0, .int .i64 0, .int .i64 0, .int .i64 0, .int .i64 0, .int .i64 0, .int .i64 0, .int .i64 0] 33 (0, 0))) := Lib.hid (K.set u2_4.out 5 (.int .i64 x.frm.base.d))
  have B2_5 : Hid (Below w.heap.size w (((((w2.setCell ⟨w.heap.size + 1 + 1, 1, none⟩ (.int .i64 x.frm.base.k)).setCell ⟨w.heap.size + 1 + 1, 2, none⟩ (.int .i64 x.frm.base.a)).setCell ⟨w.heap.size + 1 + 1, 3, none⟩ (.int .i64 x.frm.base.b)).setCell ⟨w.heap.size + 1 + 1, 4, none⟩ (.int .i64 x.frm.base.c)).setCell ⟨w.heap.size + 1 + 1, 5, none⟩ (.int .i64 x.frm.base.d))) := Lib.hid (Below.setCell B2_4.out (p := ⟨w.heap.size + 1 + 1, 5, none⟩) (by simp; omega) (.int .i64 x.frm.base.d))
  clear q2_4 z2_4 u2_4 B2_4
  have q2_6 : Hid (((((((w2.setCell ⟨w.heap.size + 1 + 1, 1, none⟩ (.int .i64 x.frm.base.k)).setCell ⟨w.heap.size + 1 + 1, 2, none⟩ (.int .i64 x.frm.base.a)).setCell ⟨w.heap.size + 1 + 1, 3, none⟩ (.int .i64 x.frm.base.b)).setCell ⟨w.heap.size + 1 + 1, 4, none⟩ (.int .i64 x.frm.base.c)).setCell ⟨w.heap.size + 1 + 1, 5, none⟩ (.int .i64 x.frm.base.d)).setCell ⟨w.heap.size + 1 + 1, 6, none⟩ (.int .i64 x.frm.len)).heap[w.heap.size]? = some (.cells #[.int .i64 x.kind, .int .i64 x.frm.base.k, .int .i64 x.frm.base.a, .int .i64 x.frm.base.b, .int .i64 x.frm.base.c, .int .i64 x.frm.base.d, .int .i64 x.frm.len, .int .i64 x.to.base.k, .int .i64 x.to.base.a, .int .i64 x.to.base.b, .int .i64 x.to.base.c, .int .i64 x.to.base.d, .int .i64 x.to.len, .int .i64 x.proto, .int .i64 x.lo, .int .i64 x.hi, .int .i64 x.n] 27 (0, 0))) := Lib.hid (K.other q2_5.out (w.heap.size + 1 + 1) 6 (.int .i64 x.frm.len) (by omega))
  have z2_6 : Hid (((((((w2.setCell ⟨w.heap.size + 1 + 1, 1, none⟩ (.int .i64 x.frm.base.k)).setCell ⟨w.heap.size + 1 + 1, 2, none⟩ (.int .i64 x.frm.base.a)).setCell ⟨w.heap.size + 1 + 1, 3, none⟩ (.int .i64 x.frm.base.b)).setCell ⟨w.heap.size + 1 + 1, 4, none⟩ (.int .i64 x.frm.base.c)).setCell ⟨w.heap.size + 1 + 1, 5, none⟩ (.int .i64 x.frm.base.d)).setCell ⟨w.heap.size + 1 + 1, 6, none⟩ (.int .i64 x.frm.len)).heap[w.heap.size + 1]? = some (.cells #[.int .i64 0, .int .i64 0, .int .i64 0, .int .i64 0, .int .i64 0, .int .i64 0, .int .i64 0, .int .i64 0, .int .i64 0, .int .i64 0, .int .i64 0, .int .i64 0, .int .i64 0, .int .i64 0, .int .i64 0, .int .i64 0, .int .i64 0] 33 (0, 0))) := Lib.hid (K.other z2_5.out (w.heap.size + 1 + 1) 6 (.int .i64 x.frm.len) (by omega))
  have u2_6 : Hid (((((((w2.setCell ⟨w.heap.size + 1 + 1, 1, none⟩ (.int .i64 x.frm.base.k)).setCell ⟨w.heap.size + 1 + 1, 2, none⟩ (.int .i64 x.frm.base.a)).setCell ⟨w.heap.size + 1 + 1, 3, none⟩ (.int .i64 x.frm.base.b)).setCell ⟨w.heap.size + 1 + 1, 4, none⟩ (.int .i64 x.frm.base.c)).setCell ⟨w.heap.size + 1 + 1, 5, none⟩ (.int .i64 x.frm.base.d)).setCell ⟨w.heap.size + 1 + 1, 6, none⟩ (.int .i64 x.frm.len)).heap[w.heap.size + 1 + 1]? = some (.cells #[.int .i64 x.kind, .int .i64 x.frm.base.k, .int .i64 x.frm.base.a, .int .i64 x.frm.base.b, .int .i64 x.frm.base.c, .int .i64 x.frm.base.d, .int .i64 x.frm.len, .int .i64 0, .int .i64 0, .int .i64 0, .int .i64 0, .int .i64 0, .int .i64 0, .int .i64 0, .int .i64 0, .int .i64 0, .int .i64 0] 33 (0, 0))) := Lib.hid (K.set u2_5.out 6 (.int .i64 x.frm.len))
  have B2_6 : Hid (Below w.heap.size w ((((((w2.setCell ⟨w.heap.size + 1 + 1, 1, none⟩ (.int .i64 x.frm.base.k)).setCell ⟨w.heap.size + 1 + 1, 2, none⟩ (.int .i64 x.frm.base.a)).setCell ⟨w.heap.size + 1 + 1, 3, none⟩ (.int .i64 x.frm.base.b)).setCell ⟨w.heap.size + 1 + 1, 4, none⟩ (.int .i64 x.frm.base.c)).setCell ⟨w.heap.size + 1 + 1, 5, none⟩ (.int .i64 x.frm.base.d)).setCell ⟨w.heap.size + 1 + 1, 6, none⟩ (.int .i64 x.frm.len))) := Lib.hid (Below.setCell B2_5.out (p := ⟨w.heap.size + 1 + 1, 6, none⟩) (by simp; omega) (.int .i64 x.frm.len))
  clear q2_5 z2_5 u2_5 B2_5
  clear Z2 d1 f1 d2 f2 d3 f3 d4 f4 d5 f5 d6 f6
  generalize (((((w2.setCell ⟨w.heap.size + 1 + 1, 1, none⟩ (.int .i64 x.frm.base.k)).setCell ⟨w.heap.size + 1 + 1, 2, none⟩ (.int .i64 x.frm.base.a)).setCell ⟨w.heap.size + 1 + 1, 3, none⟩ (.int .i64 x.frm.base.b)).setCell ⟨w.heap.size + 1 + 1, 4, none⟩ (.int .i64 x.frm.base.c)).setCell ⟨w.heap.size + 1 + 1, 5, none⟩ (.int .i64 x.frm.base.d)).setCell ⟨w.heap.size + 1 + 1, 6, none⟩ (.int .i64 x.frm.len) = w3 at q2_6 z2_6 u2_6 B2_6 ⊢
  have q3 := q2_6
  clear q2_6
  have z3 := z2_6
  clear z2_6
  have u3 := u2_6
  clear u2_6
  have B3 := B2_6
  clear B2_6
  have c7 := K.cell q3.out 7 _ rfl
  have c8 := K.cell q3.out 8 _ rfl
  have c9 := K.cell q3.out 9 _ rfl
  have c10 := K.cell q3.out 10 _ rfl
  have c11 := K.cell q3.out 11 _ rfl
  have c12 := K.cell q3.out 12 _ rfl
  go_wp2_with fail
  refine Calls.mono (toPrefixC x.to _) ?_
  rintro e w4 ⟨rfl, b4⟩
  have q4 := Lib.hid (K.below b4 q3.out)
  have z4 := Lib.hid (K.below b4 z3.out)
  have u4 := Lib.hid (K.below b4 u3.out)
  have B4 := Lib.hid (bthen B3.out b4)
  have Z4 : Hid (w.heap.size + 1 + 1 < w4.heap.size) := Lib.hid (K.lt u4.out)
  clear b4 q3 z3 u3 B3 c7 c8 c9 c10 c11 c12
  have d7 := K.cell u4.out 7 _ rfl
  have f7 := frozen_of_row _ _ 7 _ _ u4.out
  have d8 := K.cell u4.out 8 _ rfl
  have f8 := frozen_of_row _ _ 8 _ _ u4.out
  have d9 := K.cell u4.out 9 _ rfl
  have f9 := frozen_of_row _ _ 9 _ _ u4.out
  have d10 := K.cell u4.out 10 _ rfl
  have f10 := frozen_of_row _ _ 10 _ _ u4.out
  have d11 := K.cell u4.out 11 _ rfl
  have f11 := frozen_of_row _ _ 11 _ _ u4.out
  have d12 := K.cell u4.out 12 _ rfl
  have f12 := frozen_of_row _ _ 12 _ _ u4.out
  go_upto_region 5 with fail
  have q4_7 : Hid ((w4.setCell ⟨w.heap.size + 1 + 1, 7, none⟩ (.int .i64 x.to.base.k)).heap[w.heap.size]? = some (.cells #[.int .i64 x.kind, .int .i64 x.frm.base.k, .int .i64 x.frm.base.a, .int .i64 x.frm.base.b, .int .i64 x.frm.base.c, .int .i64 x.frm.base.d, .int .i64 x.frm.len, .int .i64 x.to.base.k, .int .i64 x.to.base.a, .int .i64 x.to.base.b, .int .i64 x.to.base.c, .int .i64 x.to.base.d, .int .i64 x.to.len, .int .i64 x.proto, .int .i64 x.lo, .int .i64 x.hi, .int .i64 x.n] 27 (0, 0))) := Lib.hid (K.other q4.out (w.heap.size + 1 + 1) 7 (.int .i64 x.to.base.k) (by omega))
  have z4_7 : Hid ((w4.setCell ⟨w.heap.size + 1 + 1, 7, none⟩ (.int .i64 x.to.base.k)).heap[w.heap.size + 1]? = some (.cells #[.int .i64 0, .int .i64 0, .int .i64 0, .int .i64 0, .int .i64 0, .int .i64 0, .int .i64 0, .int .i64 0, .int .i64 0, .int .i64 0, .int .i64 0, .int .i64 0, .int .i64 0, .int .i64 0, .int .i64 0, .int .i64 0, .int .i64 0] 33 (0, 0))) := Lib.hid (K.other z4.out (w.heap.size + 1 + 1) 7 (.int .i64 x.to.base.k) (by omega))
  have u4_7 : Hid ((w4.setCell ⟨w.heap.size + 1 + 1, 7, none⟩ (.int .i64 x.to.base.k)).heap[w.heap.size + 1 + 1]? = some (.cells #[.int .i64 x.kind, .int .i64 x.frm.base.k, .int .i64 x.frm.base.a, .int .i64 x.frm.base.b, .int .i64 x.frm.base.c, .int .i64 x.frm.base.d, .int .i64 x.frm.len, .int .i64 x.to.base.k, .int .i64 0, .int .i64 0, .int .i64 0, .int .i64 0, .int .i64 0, .int .i64 0, .int .i64 0, .int .i64 0, .int .i64 0] 33 (0, 0))) := Lib.hid (K.set u4.out 7 (.int .i64 x.to.base.k))
  have B4_7 : Hid (Below w.heap.size w (w4.setCell ⟨w.heap.size + 1 + 1, 7, none⟩ (.int .i64 x.to.base.k))) := Lib.hid (Below.setCell B4.out (p := ⟨w.heap.size + 1 + 1, 7, none⟩) (by simp; omega) (.int .i64 x.to.base.k))
  clear q4 z4 u4 B4
  have q4_8 : Hid (((w4.setCell ⟨w.heap.size + 1 + 1, 7, none⟩ (.int .i64 x.to.base.k)).setCell ⟨w.heap.size + 1 + 1, 8, none⟩ (.int .i64 x.to.base.a)).heap[w.heap.size]? = some (.cells #[.int .i64 x.kind, .int .i64 x.frm.base.k, .int .i64 x.frm.base.a, .int .i64 x.frm.base.b, .int .i64 x.frm.base.c, .int .i64 x.frm.base.d, .int .i64 x.frm.len, .int .i64 x.to.base.k, .int .i64 x.to.base.a, .int .i64 x.to.base.b, .int .i64 x.to.base.c, .int .i64 x.to.base.d, .int .i64 x.to.len, .int .i64 x.proto, .int .i64 x.lo, .int .i64 x.hi, .int .i64 x.n] 27 (0, 0))) := Lib.hid (K.other q4_7.out (w.heap.size + 1 + 1) 8 (.int .i64 x.to.base.a) (by omega))
  have z4_8 : Hid (((w4.setCell ⟨w.heap.size + 1 + 1, 7, none⟩ (.int .i64 x.to.base.k)).setCell ⟨w.heap.size + 1 + 1, 8, none⟩ (.int .i64 x.to.base.a)).heap[w.heap.size + 1]? = some (.cells #[.int .i64 0, .int .i64 0, .int .i64 0, .int .i64 0, .int .i64 0, .int .i64 0, .int .i64 0, .int .i64 0, .int .i64 0, .int .i64 0, .int .i64 0, .int .i64 0, .int .i64 0, .int .i64 0, .int .i64 0, .int .i64 0, .int .i64 0] 33 (0, 0))) := Lib.hid (K.other z4_7.out (w.heap.size + 1 + 1) 8 (.int .i64 x.to.base.a) (by omega))
  have u4_8 : Hid (((w4.setCell ⟨w.heap.size + 1 + 1, 7, none⟩ (.int .i64 x.to.base.k)).setCell ⟨w.heap.size + 1 + 1, 8, none⟩ (.int .i64 x.to.base.a)).heap[w.heap.size + 1 + 1]? = some (.cells #[.int .i64 x.kind, .int .i64 x.frm.base.k, .int .i64 x.frm.base.a, .int .i64 x.frm.base.b, .int .i64 x.frm.base.c, .int .i64 x.frm.base.d, .int .i64 x.frm.len, .int .i64 x.to.base.k, .int .i64 x.to.base.a, .int .i64 0, .int .i64 0, .int .i64 0, .int .i64 0, .int .i64 0, .int .i64 0, .int .i64 0, .int .i64 0] 33 (0, 0))) := Lib.hid (K.set u4_7.out 8 (.int .i64 x.to.base.a))
  have B4_8 : Hid (Below w.heap.size w ((w4.setCell ⟨w.heap.size + 1 + 1, 7, none⟩ (.int .i64 x.to.base.k)).setCell ⟨w.heap.size + 1 + 1, 8, none⟩ (.int .i64 x.to.base.a))) := Lib.hid (Below.setCell B4_7.out (p := ⟨w.heap.size + 1 + 1, 8, none⟩) (by simp; omega) (.int .i64 x.to.base.a))
  clear q4_7 z4_7 u4_7 B4_7
  have q4_9 : Hid ((((w4.setCell ⟨w.heap.size + 1 + 1, 7, none⟩ (.int .i64 x.to.base.k)).setCell ⟨w.heap.size + 1 + 1, 8, none⟩ (.int .i64 x.to.base.a)).setCell ⟨w.heap.size + 1 + 1, 9, none⟩ (.int .i64 x.to.base.b)).heap[w.heap.size]? = some (.cells #[.int .i64 x.kind, .int .i64 x.frm.base.k, .int .i64 x.frm.base.a, .int .i64 x.frm.base.b, .int .i64 x.frm.base.c, .int .i64 x.frm.base.d, .int .i64 x.frm.len, .int .i64 x.to.base.k, .int .i64 x.to.base.a, .int .i64 x.to.base.b, .int .i64 x.to.base.c, .int .i64 x.to.base.d, .int .i64 x.to.len, .int .i64 x.proto, .int .i64 x.lo, .int .i64 x.hi, .int .i64 x.n] 27 (0, 0))) := Lib.hid (K.other q4_8.out (w.heap.size + 1 + 1) 9 (.int .i64 x.to.base.b) (by omega))
  have z4_9 : Hid ((((w4.setCell ⟨w.heap.size + 1 + 1, 7, none⟩ (.int .i64 x.to.base.k)).setCell ⟨w.heap.size + 1 + 1, 8, none⟩ (.int .i64 x.to.base.a)).setCell ⟨w.heap.size + 1 + 1, 9, none⟩ (.int .i64 x.to.base.b)).heap[w.heap.size + 1]? = some (.cells #[.int .i64 0, .int .i64 0, .int .i64 0, .int .i64 0, .int .i64 0, .int .i64 0, .int .i64 0, .int .i64 0, .int .i64 0, .int .i64 0, .int .i64 0, .int .i64 0, .int .i64 0, .int .i64 0, .int .i64 0, .int .i64 0, .int .i64 0] 33 (0, 0))) := Lib.hid (K.other z4_8.out (w.heap.size + 1 + 1) 9 (.int .i64 x.to.base.b) (by omega))
  have u4_9 : Hid ((((w4.setCell ⟨w.heap.size + 1 + 1, 7, none⟩ (.int .i64 x.to.base.k)).setCell ⟨w.heap.size + 1 + 1, 8, none⟩ (.int .i64 x.to.base.a)).setCell ⟨w.heap.size + 1 + 1, 9, none⟩ (.int .i64 x.to.base.b)).heap[w.heap.size + 1 + 1]? = some (.cells #[.int .i64 x.kind, .int .i64 x.frm.base.k, .int .i64 x.frm.base.a, .int .i64 x.frm.base.b, .int .i64 x.frm.base.c, .int .i64 x.frm.base.d, .int .i64 x.frm.len, .int .i64 x.to.base.k, .int .i64 x.to.base.a, .int .i64 x.to.base.b, .int .i64 0, .int .i64 0, .int .i64 0, .int .i64 0, .int .i64 0, .int .i64 0, .int .i64 0] 33 (0, 0))) := Lib.hid (K.set u4_8.out 9 (.int .i64 x.to.base.b))
  have B4_9 : Hid (Below w.heap.size w (((w4.setCell ⟨w.heap.size + 1 + 1, 7, none⟩ (.int .i64 x.to.base.k)).setCell ⟨w.heap.size + 1 + 1, 8, none⟩ (.int .i64 x.to.base.a)).setCell ⟨w.heap.size + 1 + 1, 9, none⟩ (.int .i64 x.to.base.b))) := Lib.hid (Below.setCell B4_8.out (p := ⟨w.heap.size + 1 + 1, 9, none⟩) (by simp; omega) (.int .i64 x.to.base.b))
  clear q4_8 z4_8 u4_8 B4_8
  have q4_10 : Hid (((((w4.setCell ⟨w.heap.size + 1 + 1, 7, none⟩ (.int .i64 x.to.base.k)).setCell ⟨w.heap.size + 1 + 1, 8, none⟩ (.int .i64 x.to.base.a)).setCell ⟨w.heap.size + 1 + 1, 9, none⟩ (.int .i64 x.to.base.b)).setCell ⟨w.heap.size + 1 + 1, 10, none⟩ (.int .i64 x.to.base.c)).heap[w.heap.size]? = some (.cells #[.int .i64 x.kind, .int .i64 x.frm.base.k, .int .i64 x.frm.base.a, .int .i64 x.frm.base.b, .int .i64 x.frm.base.c, .int .i64 x.frm.base.d, .int .i64 x.frm.len, .int .i64 x.to.base.k, .int .i64 x.to.base.a, .int .i64 x.to.base.b, .int .i64 x.to.base.c, .int .i64 x.to.base.d, .int .i64 x.to.len, .int .i64 x.proto, .int .i64 x.lo, .int .i64 x.hi, .int .i64 x.n] 27 (0, 0))) := Lib.hid (K.other q4_9.out (w.heap.size + 1 + 1) 10 (.int .i64 x.to.base.c) (by omega))
  have z4_10 : Hid (((((w4.setCell ⟨w.heap.size + 1 + 1, 7, none⟩ (.int .i64 x.to.base.k)).setCell ⟨w.heap.size + 1 + 1, 8, none⟩ (.int .i64 x.to.base.a)).setCell ⟨w.heap.size + 1 + 1, 9, none⟩ (.int .i64 x.to.base.b)).setCell ⟨w.heap.size + 1 + 1, 10, none⟩ (.int .i64 x.to.base.c)).heap[w.heap.size + 1]? = some (.cells #[.int .i64 0, .int .i64 0, .int .i64 0, .int .i64 0, .int .i64 0, .int .i64 0, .int .i64 0, .int .i64 0, .int .i64 0, .int .i64 0, .int .i64 0, .int .i64 0, .int .i64 0, .int .i64 0, .int .i64 0, .int .i64 0, .int .i64 0] 33 (0, 0))) := Lib.hid (K.other z4_9.out (w.heap.size + 1 + 1) 10 (.int .i64 x.to.base.c) (by omega))
  have u4_10 : Hid (((((w4.setCell ⟨w.heap.size + 1 + 1, 7, none⟩ (.int .i64 x.to.base.k)).setCell ⟨w.heap.size + 1 + 1, 8, none⟩ (.int .i64 x.to.base.a)).setCell ⟨w.heap.size + 1 + 1, 9, none⟩ (.int .i64 x.to.base.b)).setCell ⟨w.heap.size + 1 + 1, 10, none⟩ (.int .i64 x.to.base.c)).heap[w.heap.size + 1 + 1]? = some (.cells #[.int .i64 x.kind, .int .i64 x.frm.base.k, .int .i64 x.frm.base.a, .int .i64 x.frm.base.b, .int .i64 x.frm.base.c, .int .i64 x.frm.base.d, .int .i64 x.frm.len, .int .i64 x.to.base.k, .int .i64 x.to.base.a, .int .i64 x.to.base.b, .int .i64 x.to.base.c, .int .i64 0, .int .i64 0, .int .i64 0, .int .i64 0, .int .i64 0, .int .i64 0] 33 (0, 0))) := Lib.hid (K.set u4_9.out 10 (.int .i64 x.to.base.c))
  have B4_10 : Hid (Below w.heap.size w ((((w4.setCell ⟨w.heap.size + 1 + 1, 7, none⟩ (.int .i64 x.to.base.k)).setCell ⟨w.heap.size + 1 + 1, 8, none⟩ (.int .i64 x.to.base.a)).setCell ⟨w.heap.size + 1 + 1, 9, none⟩ (.int .i64 x.to.base.b)).setCell ⟨w.heap.size + 1 + 1, 10, none⟩ (.int .i64 x.to.base.c))) := Lib.hid (Below.setCell B4_9.out (p := ⟨w.heap.size + 1 + 1, 10, none⟩) (by simp; omega) (.int .i64 x.to.base.c))
  clear q4_9 z4_9 u4_9 B4_9
  have q4_11 : Hid ((((((w4.setCell ⟨w.heap.size + 1 + 1, 7, none⟩ (.int .i64 x.to.base.k)).setCell ⟨w.heap.size + 1 + 1, 8, none⟩ (.int .i64 x.to.base.a)).setCell ⟨w.heap.size + 1 + 1, 9, none⟩ (.int .i64 x.to.base.b)).setCell ⟨w.heap.size + 1 + 1, 10, none⟩ (.int .i64 x.to.base.c)).setCell ⟨w.heap.size + 1 + 1, 11, none⟩ (.int .i64 x.to.base.d)).heap[w.heap.size]? = some (.cells #[.int .i64 x.kind, .int .i64 x.frm.base.k, .int .i64 x.frm.base.a, .int .i64 x.frm.base.b, .int .i64 x.frm.base.c, .int .i64 x.frm.base.d, .int .i64 x.frm.len, .int .i64 x.to.base.k, .int .i64 x.to.base.a, .int .i64 x.to.base.b, .int .i64 x.to.base.c, .int .i64 x.to.base.d, .int .i64 x.to.len, .int .i64 x.proto, .int .i64 x.lo, .int .i64 x.hi, .int .i64 x.n] 27 (0, 0))) := Lib.hid (K.other q4_10.out (w.heap.size + 1 + 1) 11 (.int .i64 x.to.base.d) (by omega))
  have z4_11 : Hid ((((((w4.setCell ⟨w.heap.size + 1 + 1, 7, none⟩ (.int .i64 x.to.base.k)).setCell ⟨w.heap.size + 1 + 1, 8, none⟩ (.int .i64 x.to.base.a)).setCell ⟨w.heap.size + 1 + 1, 9, none⟩ (.int .i64 x.to.base.b)).setCell ⟨w.heap.size + 1 + 1, 10, none⟩ (.int .i64 x.to.base.c)).setCell ⟨w.heap.size + 1 + 1, 11, none⟩ (.int .i64 x.to.base.d)).heap[w.heap.size + 1]? = some (.cells #[.int .i64 0, .int .i64 0, .int .i64 0, .int .i64 0, .int .i64 0, .int .i64 0, .int .i64 0, .int .i64 0, .int .i64 0, .int .i64 0, .int .i64 0, .int .i64 0, .int .i64 0, .int .i64 0, .int .i64 0, .int .i64 0, .int .i64 0] 33 (0, 0))) := Lib.hid (K.other z4_10.out (w.heap.size + 1 + 1) 11 (.int .i64 x.to.base.d) (by omega))
  have u4_11 : Hid ((((((w4.setCell ⟨w.heap.size + 1 + 1, 7, none⟩ (.int .i64 x.to.base.k)).setCell ⟨w.heap.size + 1 + 1, 8, none⟩ (.int .i64 x.to.base.a)).setCell ⟨w.heap.size + 1 + 1, 9, none⟩ (.int .i64 x.to.base.b)).setCell ⟨w.heap.size + 1 + 1, 10, none⟩ (.int .i64 x.to.base.c)).setCell ⟨w.heap.size + 1 + 1, 11, none⟩ (.int .i64 x.to.base.d)).heap[w.heap.size + 1 + 1]? = some (.cells #[.int .i64 x.kind, .int .i64 x.frm.base.k, .int .i64 x.frm.base.a, .int .i64 x.frm.base.b, .int .i64 x.frm.base.c, .int .i64 x.frm.base.d, .int .i64 x.frm.len, .int .i64 x.to.base.k, .int .i64 x.to.base.a, .int .i64 x.to.base.b, .int .i64 x.to.base.c, .int .i64 x.to.base.d, .int .i64 0, .int .i64 0, .int .i64 0, .int .i64 0, .int .i64 0] 33 (0, 0))) := Lib.hid (K.set u4_10.out 11 (.int .i64 x.to.base.d))
  have B4_11 : Hid (Below w.heap.size w (((((w4.setCell ⟨w.heap.size + 1 + 1, 7, none⟩ (.int .i64 x.to.base.k)).setCell ⟨w.heap.size + 1 + 1, 8, none⟩ (.int .i64 x.to.base.a)).setCell ⟨w.heap.size + 1 + 1, 9, none⟩ (.int .i64 x.to.base.b)).setCell ⟨w.heap.size + 1 + 1, 10, none⟩ (.int .i64 x.to.base.c)).setCell ⟨w.heap.size + 1 + 1, 11, none⟩ (.int .i64 x.to.base.d))) := Lib.hid (Below.setCell B4_10.out (p := ⟨w.heap.size + 1 + 1, 11, none⟩) (by simp; omega) (.int .i64 x.to.base.d))
  clear q4_10 z4_10 u4_10 B4_10
  have q4_12 : Hid (((((((w4.setCell ⟨w.heap.size + 1 + 1, 7, none⟩ (.int .i64 x.to.base.k)).setCell ⟨w.heap.size + 1 + 1, 8, none⟩ (.int .i64 x.to.base.a)).setCell ⟨w.heap.size + 1 + 1, 9, none⟩ (.int .i64 x.to.base.b)).setCell ⟨w.heap.size + 1 + 1, 10, none⟩ (.int .i64 x.to.base.c)).setCell ⟨w.heap.size + 1 + 1, 11, none⟩ (.int .i64 x.to.base.d)).setCell ⟨w.heap.size + 1 + 1, 12, none⟩ (.int .i64 x.to.len)).heap[w.heap.size]? = some (.cells #[.int .i64 x.kind, .int .i64 x.frm.base.k, .int .i64 x.frm.base.a, .int .i64 x.frm.base.b, .int .i64 x.frm.base.c, .int .i64 x.frm.base.d, .int .i64 x.frm.len, .int .i64 x.to.base.k, .int .i64 x.to.base.a, .int .i64 x.to.base.b, .int .i64 x.to.base.c, .int .i64 x.to.base.d, .int .i64 x.to.len, .int .i64 x.proto, .int .i64 x.lo, .int .i64 x.hi, .int .i64 x.n] 27 (0, 0))) := Lib.hid (K.other q4_11.out (w.heap.size + 1 + 1) 12 (.int .i64 x.to.len) (by omega))
  have z4_12 : Hid (((((((w4.setCell ⟨w.heap.size + 1 + 1, 7, none⟩ (.int .i64 x.to.base.k)).setCell ⟨w.heap.size + 1 + 1, 8, none⟩ (.int .i64 x.to.base.a)).setCell ⟨w.heap.size + 1 + 1, 9, none⟩ (.int .i64 x.to.base.b)).setCell ⟨w.heap.size + 1 + 1, 10, none⟩ (.int .i64 x.to.base.c)).setCell ⟨w.heap.size + 1 + 1, 11, none⟩ (.int .i64 x.to.base.d)).setCell ⟨w.heap.size + 1 + 1, 12, none⟩ (.int .i64 x.to.len)).heap[w.heap.size + 1]? = some (.cells #[.int .i64 0, .int .i64 0, .int .i64 0, .int .i64 0, .int .i64 0, .int .i64 0, .int .i64 0, .int .i64 0, .int .i64 0, .int .i64 0, .int .i64 0, .int .i64 0, .int .i64 0, .int .i64 0, .int .i64 0, .int .i64 0, .int .i64 0] 33 (0, 0))) := Lib.hid (K.other z4_11.out (w.heap.size + 1 + 1) 12 (.int .i64 x.to.len) (by omega))
  have u4_12 : Hid (((((((w4.setCell ⟨w.heap.size + 1 + 1, 7, none⟩ (.int .i64 x.to.base.k)).setCell ⟨w.heap.size + 1 + 1, 8, none⟩ (.int .i64 x.to.base.a)).setCell ⟨w.heap.size + 1 + 1, 9, none⟩ (.int .i64 x.to.base.b)).setCell ⟨w.heap.size + 1 + 1, 10, none⟩ (.int .i64 x.to.base.c)).setCell ⟨w.heap.size + 1 + 1, 11, none⟩ (.int .i64 x.to.base.d)).setCell ⟨w.heap.size + 1 + 1, 12, none⟩ (.int .i64 x.to.len)).heap[w.heap.size + 1 + 1]? = some (.cells #[.int .i64 x.kind, .int .i64 x.frm.base.k, .int .i64 x.frm.base.a, .int .i64 x.frm.base.b, .int .i64 x.frm.base.c, .int .i64 x.frm.base.d, .int .i64 x.frm.len, .int .i64 x.to.base.k, .int .i64 x.to.base.a, .int .i64 x.to.base.b, .int .i64 x.to.base.c, .int .i64 x.to.base.d, .int .i64 x.to.len, .int .i64 0, .int .i64 0, .int .i64 0, .int .i64 0] 33 (0, 0))) := Lib.hid (K.set u4_11.out 12 (.int .i64 x.to.len))
  have B4_12 : Hid (Below w.heap.size w ((((((w4.setCell ⟨w.heap.size + 1 + 1, 7, none⟩ (.int .i64 x.to.base.k)).setCell ⟨w.heap.size + 1 + 1, 8, none⟩ (.int .i64 x.to.base.a)).setCell ⟨w.heap.size + 1 + 1, 9, none⟩ (.int .i64 x.to.base.b)).setCell ⟨w.heap.size + 1 + 1, 10, none⟩ (.int .i64 x.to.base.c)).setCell ⟨w.heap.size + 1 + 1, 11, none⟩ (.int .i64 x.to.base.d)).setCell ⟨w.heap.size + 1 + 1, 12, none⟩ (.int .i64 x.to.len))) := Lib.hid (Below.setCell B4_11.out (p := ⟨w.heap.size + 1 + 1, 12, none⟩) (by simp; omega) (.int .i64 x.to.len))
  clear q4_11 z4_11 u4_11 B4_11
  clear Z4 d7 f7 d8 f8 d9 f9 d10 f10 d11 f11 d12 f12
  generalize (((((w4.setCell ⟨w.heap.size + 1 + 1, 7, none⟩ (.int .i64 x.to.base.k)).setCell ⟨w.heap.size + 1 + 1, 8, none⟩ (.int .i64 x.to.base.a)).setCell ⟨w.heap.size + 1 + 1, 9, none⟩ (.int .i64 x.to.base.b)).setCell ⟨w.heap.size + 1 + 1, 10, none⟩ (.int .i64 x.to.base.c)).setCell ⟨w.heap.size + 1 + 1, 11, none⟩ (.int .i64 x.to.base.d)).setCell ⟨w.heap.size + 1 + 1, 12, none⟩ (.int .i64 x.to.len) = w5 at q4_12 z4_12 u4_12 B4_12 ⊢
  have q5 := q4_12
  clear q4_12
  have z5 := z4_12
  clear z4_12
  have u5 := u4_12
  clear u4_12
  have B5 := B4_12
  clear B4_12
  have c := K.cell q5.out 13 _ rfl
  have d := K.cell u5.out 13 _ rfl
  have f := frozen_of_row _ _ 13 _ _ u5.out
  go_upto_region 6 with fail
  have q6 : Hid ((w5.setCell ⟨w.heap.size + 1 + 1, 13, none⟩ (.int .i64 x.proto)).heap[w.heap.size]? = some (.cells #[.int .i64 x.kind, .int .i64 x.frm.base.k, .int .i64 x.frm.base.a, .int .i64 x.frm.base.b, .int .i64 x.frm.base.c, .int .i64 x.frm.base.d, .int .i64 x.frm.len, .int .i64 x.to.base.k, .int .i64 x.to.base.a, .int .i64 x.to.base.b, .int .i64 x.to.base.c, .int .i64 x.to.base.d, .int .i64 x.to.len, .int .i64 x.proto, .int .i64 x.lo, .int .i64 x.hi, .int .i64 x.n] 27 (0, 0))) := Lib.hid (K.other q5.out (w.heap.size + 1 + 1) 13 (.int .i64 x.proto) (by omega))
  have z6 : Hid ((w5.setCell ⟨w.heap.size + 1 + 1, 13, none⟩ (.int .i64 x.proto)).heap[w.heap.size + 1]? = some (.cells #[.int .i64 0, .int .i64 0, .int .i64 0, .int .i64 0, .int .i64 0, .int .i64 0, .int .i64 0, .int .i64 0, .int .i64 0, .int .i64 0, .int .i64 0, .int .i64 0, .int .i64 0, .int .i64 0, .int .i64 0, .int .i64 0, .int .i64 0] 33 (0, 0))) := Lib.hid (K.other z5.out (w.heap.size + 1 + 1) 13 (.int .i64 x.proto) (by omega))
  have u6 : Hid ((w5.setCell ⟨w.heap.size + 1 + 1, 13, none⟩ (.int .i64 x.proto)).heap[w.heap.size + 1 + 1]? = some (.cells #[.int .i64 x.kind, .int .i64 x.frm.base.k, .int .i64 x.frm.base.a, .int .i64 x.frm.base.b, .int .i64 x.frm.base.c, .int .i64 x.frm.base.d, .int .i64 x.frm.len, .int .i64 x.to.base.k, .int .i64 x.to.base.a, .int .i64 x.to.base.b, .int .i64 x.to.base.c, .int .i64 x.to.base.d, .int .i64 x.to.len, .int .i64 x.proto, .int .i64 0, .int .i64 0, .int .i64 0] 33 (0, 0))) := Lib.hid (K.set u5.out 13 (.int .i64 x.proto))
  have B6 : Hid (Below w.heap.size w (w5.setCell ⟨w.heap.size + 1 + 1, 13, none⟩ (.int .i64 x.proto))) := Lib.hid (Below.setCell B5.out (p := ⟨w.heap.size + 1 + 1, 13, none⟩) (by simp; omega) (.int .i64 x.proto))
  clear c d f q5 z5 u5 B5
  generalize w5.setCell ⟨w.heap.size + 1 + 1, 13, none⟩ (.int .i64 x.proto) = w6 at q6 z6 u6 B6 ⊢
  have c := K.cell q6.out 14 _ rfl
  have d := K.cell u6.out 14 _ rfl
  have f := frozen_of_row _ _ 14 _ _ u6.out
  go_upto_region 7 with fail
  have q7 : Hid ((w6.setCell ⟨w.heap.size + 1 + 1, 14, none⟩ (.int .i64 x.lo)).heap[w.heap.size]? = some (.cells #[.int .i64 x.kind, .int .i64 x.frm.base.k, .int .i64 x.frm.base.a, .int .i64 x.frm.base.b, .int .i64 x.frm.base.c, .int .i64 x.frm.base.d, .int .i64 x.frm.len, .int .i64 x.to.base.k, .int .i64 x.to.base.a, .int .i64 x.to.base.b, .int .i64 x.to.base.c, .int .i64 x.to.base.d, .int .i64 x.to.len, .int .i64 x.proto, .int .i64 x.lo, .int .i64 x.hi, .int .i64 x.n] 27 (0, 0))) := Lib.hid (K.other q6.out (w.heap.size + 1 + 1) 14 (.int .i64 x.lo) (by omega))
  have z7 : Hid ((w6.setCell ⟨w.heap.size + 1 + 1, 14, none⟩ (.int .i64 x.lo)).heap[w.heap.size + 1]? = some (.cells #[.int .i64 0, .int .i64 0, .int .i64 0, .int .i64 0, .int .i64 0, .int .i64 0, .int .i64 0, .int .i64 0, .int .i64 0, .int .i64 0, .int .i64 0, .int .i64 0, .int .i64 0, .int .i64 0, .int .i64 0, .int .i64 0, .int .i64 0] 33 (0, 0))) := Lib.hid (K.other z6.out (w.heap.size + 1 + 1) 14 (.int .i64 x.lo) (by omega))
  have u7 : Hid ((w6.setCell ⟨w.heap.size + 1 + 1, 14, none⟩ (.int .i64 x.lo)).heap[w.heap.size + 1 + 1]? = some (.cells #[.int .i64 x.kind, .int .i64 x.frm.base.k, .int .i64 x.frm.base.a, .int .i64 x.frm.base.b, .int .i64 x.frm.base.c, .int .i64 x.frm.base.d, .int .i64 x.frm.len, .int .i64 x.to.base.k, .int .i64 x.to.base.a, .int .i64 x.to.base.b, .int .i64 x.to.base.c, .int .i64 x.to.base.d, .int .i64 x.to.len, .int .i64 x.proto, .int .i64 x.lo, .int .i64 0, .int .i64 0] 33 (0, 0))) := Lib.hid (K.set u6.out 14 (.int .i64 x.lo))
  have B7 : Hid (Below w.heap.size w (w6.setCell ⟨w.heap.size + 1 + 1, 14, none⟩ (.int .i64 x.lo))) := Lib.hid (Below.setCell B6.out (p := ⟨w.heap.size + 1 + 1, 14, none⟩) (by simp; omega) (.int .i64 x.lo))
  clear c d f q6 z6 u6 B6
  generalize w6.setCell ⟨w.heap.size + 1 + 1, 14, none⟩ (.int .i64 x.lo) = w7 at q7 z7 u7 B7 ⊢
  have c := K.cell q7.out 15 _ rfl
  have d := K.cell u7.out 15 _ rfl
  have f := frozen_of_row _ _ 15 _ _ u7.out
  go_upto_region 8 with fail
  have q8 : Hid ((w7.setCell ⟨w.heap.size + 1 + 1, 15, none⟩ (.int .i64 x.hi)).heap[w.heap.size]? = some (.cells #[.int .i64 x.kind, .int .i64 x.frm.base.k, .int .i64 x.frm.base.a, .int .i64 x.frm.base.b, .int .i64 x.frm.base.c, .int .i64 x.frm.base.d, .int .i64 x.frm.len, .int .i64 x.to.base.k, .int .i64 x.to.base.a, .int .i64 x.to.base.b, .int .i64 x.to.base.c, .int .i64 x.to.base.d, .int .i64 x.to.len, .int .i64 x.proto, .int .i64 x.lo, .int .i64 x.hi, .int .i64 x.n] 27 (0, 0))) := Lib.hid (K.other q7.out (w.heap.size + 1 + 1) 15 (.int .i64 x.hi) (by omega))
  have z8 : Hid ((w7.setCell ⟨w.heap.size + 1 + 1, 15, none⟩ (.int .i64 x.hi)).heap[w.heap.size + 1]? = some (.cells #[.int .i64 0, .int .i64 0, .int .i64 0, .int .i64 0, .int .i64 0, .int .i64 0, .int .i64 0, .int .i64 0, .int .i64 0, .int .i64 0, .int .i64 0, .int .i64 0, .int .i64 0, .int .i64 0, .int .i64 0, .int .i64 0, .int .i64 0] 33 (0, 0))) := Lib.hid (K.other z7.out (w.heap.size + 1 + 1) 15 (.int .i64 x.hi) (by omega))
  have u8 : Hid ((w7.setCell ⟨w.heap.size + 1 + 1, 15, none⟩ (.int .i64 x.hi)).heap[w.heap.size + 1 + 1]? = some (.cells #[.int .i64 x.kind, .int .i64 x.frm.base.k, .int .i64 x.frm.base.a, .int .i64 x.frm.base.b, .int .i64 x.frm.base.c, .int .i64 x.frm.base.d, .int .i64 x.frm.len, .int .i64 x.to.base.k, .int .i64 x.to.base.a, .int .i64 x.to.base.b, .int .i64 x.to.base.c, .int .i64 x.to.base.d, .int .i64 x.to.len, .int .i64 x.proto, .int .i64 x.lo, .int .i64 x.hi, .int .i64 0] 33 (0, 0))) := Lib.hid (K.set u7.out 15 (.int .i64 x.hi))
  have B8 : Hid (Below w.heap.size w (w7.setCell ⟨w.heap.size + 1 + 1, 15, none⟩ (.int .i64 x.hi))) := Lib.hid (Below.setCell B7.out (p := ⟨w.heap.size + 1 + 1, 15, none⟩) (by simp; omega) (.int .i64 x.hi))
  clear c d f q7 z7 u7 B7
  generalize w7.setCell ⟨w.heap.size + 1 + 1, 15, none⟩ (.int .i64 x.hi) = w8 at q8 z8 u8 B8 ⊢
  have c := K.cell q8.out 16 _ rfl
  have d := K.cell u8.out 16 _ rfl
  have f := frozen_of_row _ _ 16 _ _ u8.out
  go_upto_region 9 with fail
  have q9 : Hid ((w8.setCell ⟨w.heap.size + 1 + 1, 16, none⟩ (.int .i64 x.n)).heap[w.heap.size]? = some (.cells #[.int .i64 x.kind, .int .i64 x.frm.base.k, .int .i64 x.frm.base.a, .int .i64 x.frm.base.b, .int .i64 x.frm.base.c, .int .i64 x.frm.base.d, .int .i64 x.frm.len, .int .i64 x.to.base.k, .int .i64 x.to.base.a, .int .i64 x.to.base.b, .int .i64 x.to.base.c, .int .i64 x.to.base.d, .int .i64 x.to.len, .int .i64 x.proto, .int .i64 x.lo, .int .i64 x.hi, .int .i64 x.n] 27 (0, 0))) := Lib.hid (K.other q8.out (w.heap.size + 1 + 1) 16 (.int .i64 x.n) (by omega))
  have z9 : Hid ((w8.setCell ⟨w.heap.size + 1 + 1, 16, none⟩ (.int .i64 x.n)).heap[w.heap.size + 1]? = some (.cells #[.int .i64 0, .int .i64 0, .int .i64 0, .int .i64 0, .int .i64 0, .int .i64 0, .int .i64 0, .int .i64 0, .int .i64 0, .int .i64 0, .int .i64 0, .int .i64 0, .int .i64 0, .int .i64 0, .int .i64 0, .int .i64 0, .int .i64 0] 33 (0, 0))) := Lib.hid (K.other z8.out (w.heap.size + 1 + 1) 16 (.int .i64 x.n) (by omega))
  have u9 : Hid ((w8.setCell ⟨w.heap.size + 1 + 1, 16, none⟩ (.int .i64 x.n)).heap[w.heap.size + 1 + 1]? = some (.cells #[.int .i64 x.kind, .int .i64 x.frm.base.k, .int .i64 x.frm.base.a, .int .i64 x.frm.base.b, .int .i64 x.frm.base.c, .int .i64 x.frm.base.d, .int .i64 x.frm.len, .int .i64 x.to.base.k, .int .i64 x.to.base.a, .int .i64 x.to.base.b, .int .i64 x.to.base.c, .int .i64 x.to.base.d, .int .i64 x.to.len, .int .i64 x.proto, .int .i64 x.lo, .int .i64 x.hi, .int .i64 x.n] 33 (0, 0))) := Lib.hid (K.set u8.out 16 (.int .i64 x.n))
  have B9 : Hid (Below w.heap.size w (w8.setCell ⟨w.heap.size + 1 + 1, 16, none⟩ (.int .i64 x.n))) := Lib.hid (Below.setCell B8.out (p := ⟨w.heap.size + 1 + 1, 16, none⟩) (by simp; omega) (.int .i64 x.n))
  clear c d f q8 z8 u8 B8
  generalize w8.setCell ⟨w.heap.size + 1 + 1, 16, none⟩ (.int .i64 x.n) = w9 at q9 z9 u9 B9 ⊢
  go_wp2_with (first | (with_reducible refine loadMo rfl _ rfl (w.heap.size + 1 + 1) rfl u9.out ?_) | (with_reducible refine storeMo rfl _ _ rfl (w.heap.size + 1) rfl rfl z9.out ?_))
  (try simp only [Exit.inBlock, Exit.then])
  refine bodyPost_ret (v := .agg #[.int .i64 x.kind, .int .i64 x.frm.base.k, .int .i64 x.frm.base.a, .int .i64 x.frm.base.b, .int .i64 x.frm.base.c, .int .i64 x.frm.base.d, .int .i64 x.frm.len, .int .i64 x.to.base.k, .int .i64 x.to.base.a, .int .i64 x.to.base.b, .int .i64 x.to.base.c, .int .i64 x.to.base.d, .int .i64 x.to.len, .int .i64 x.proto, .int .i64 x.lo, .int .i64 x.hi, .int .i64 x.n]) ?_ rfl ⟨rfl, ?_⟩
  · exact resMo Try.results16 _ _ (w.heap.size + 1) rfl (setRow_heap _ _ _ _ _ _ z9.out)
  · exact setRowB_mo B9.out (by omega) _
end Go.Proofs.Ytdndanbalmoklaa

namespace Go.Proofs.Ytdndanbalmoklaa
set_option maxRecDepth 100000
open Go.RowKit

set_option maxHeartbeats 400000 in
theorem szModuleS_C (A : Option Addr) (n c : Nat) (l : Int) (w : World) (h0 : 0 ≤ l) (hl : l ≤ 1048576) (hn : n ≤ maxLen) : Calls Try.prog 18 #[.slice A n c, .int .i64 l] w fun e w' => ∃ r : Int, e = .returned (.int .i64 r) ∧ (r < 0 ∨ (0 ≤ r ∧ r = l - n)) ∧ w = w' := by
  unfold maxLen at hn
  by_cases h : l < n
  · go_enter Try.func18, Try.ntmps18
    have e : IntKind.i64.wrap (l - n) = l - n := by rw [IntKind.wrap_i64]; omega
    go_wp2
    all_goals (go_ret; first | exact ⟨_, rfl, by omega, rfl⟩ | exact ⟨_, rfl, .inl (by omega), rfl⟩)
  · go_enter Try.func18, Try.ntmps18
    have e : IntKind.i64.wrap (l - n) = l - n := by rw [IntKind.wrap_i64]; omega
    go_wp2
    all_goals (go_ret; exact ⟨_, rfl, by omega, rfl⟩)

set_option maxHeartbeats 1000000 in
theorem toModuleS_C (A : Option Addr) (n c : Nat) (rs : List Mo) (w : World) (hx : RV w w.heap.size A (fl Mo.cells rs)) (hl : rs.length = n) (hn : n ≤ 1048576) :
    Calls Try.prog 20 #[.slice A n c] w fun e w' => ∃ g, e = .returned (.slice (some ⟨g, 0, none⟩) n n) ∧ w'.ownsRow w.heap.size 33 17 (.slice (some ⟨g, 0, none⟩) n n) n (fl Mo.cells rs) ∧ Below w.heap.size w w' := by
  obtain ⟨i0, hi0, hz0, hz1, hz2⟩ := info_parts info_moP
  have HX := Lib.hid hx
  have HL := Lib.hid hl
  clear hx hl
  go_enter Try.func20, Try.ntmps20
  go_wp2_with (at_make; refine wpList_make_full _ rfl _ _ 39 rfl w.heap.size 33 i0 (.agg #[.int .i64 0, .int .i64 0, .int .i64 0, .int .i64 0, .int .i64 0, .int .i64 0, .int .i64 0, .int .i64 0, .int .i64 0, .int .i64 0, .int .i64 0, .int .i64 0, .int .i64 0, .int .i64 0, .int .i64 0, .int .i64 0, .int .i64 0]) 17 Try.underlying39 hi0 hz0 hz1 _ _ _ _ n rfl rfl rfl rfl (by rw [hz2]; omega) (by unfold maxLen; omega) (Nat.le_refl _) ?_; intro w1 hown hgrow)
  have hown0 : Hid (w1.ownsRow w.heap.size 33 17 (.slice (some ⟨w.heap.size, 0, none⟩) n n) n (fl Mo.cells (rs.take 0 ++ List.replicate (n - 0) Mo.zero))) := by
    rw [List.take_zero, List.nil_append, Nat.sub_zero, ← zeros_flat Mo.cells_length (by omega) Mo.zero #[.int .i64 0, .int .i64 0, .int .i64 0, .int .i64 0, .int .i64 0, .int .i64 0, .int .i64 0, .int .i64 0, .int .i64 0, .int .i64 0, .int .i64 0, .int .i64 0, .int .i64 0, .int .i64 0, .int .i64 0, .int .i64 0, .int .i64 0] rfl n]
    exact Lib.hid hown
  have hb1 : Hid (Below w.heap.size w w1) := Lib.hid ((Below.refl _ _).grown hgrow (Nat.le_refl _) (by simp))
  clear hown hgrow
  go_loopw [4] (fun i wr => ∃ (k : Nat), k ≤ n ∧ i = .int .i64 k ∧ Hid (wr.ownsRow w.heap.size 33 17 (.slice (some ⟨w.heap.size, 0, none⟩) n n) n (fl Mo.cells (rs.take k ++ List.replicate (n - k) Mo.zero))) ∧ Hid (Below w.heap.size w wr)) (fun i _ => n - (intOf i).toNat)
  case atStart => exact ⟨0, Nat.zero_le _, rfl, hown0, hb1⟩
  case round =>
    obtain ⟨k, hk, rfl, hown, hb⟩ := hrel
    clear hown0 hb1
    by_cases hlt : k < n
    · have hk2 : k < rs.length := by rw [HL.out]; exact hlt
      obtain ⟨g, o, rfl, hg, hc0⟩ := HX.out.flat Mo.cells_length (by omega) hk2
      have hc := Lib.hid (show wr.rangeAt g (o + k * 17) rs[k].cells from fun j v hv => (hb.out.cell (p := ⟨g, o + k * 17 + j, none⟩) hg).trans (hc0 j v hv))
      have hT := Lib.hid (show rs.take (k + 1) = rs.take k ++ [rs[k]] from take_snoc rs k hk2)
      have hTl := Lib.hid (show (rs.take k).length = k by simp; omega)
      clear hc0
      generalize rs[k] = y at *
      have hG := Lib.hid hg
      clear hg
      go_wp2_with (with_reducible refine loadLAtMo rfl _ rfl g (o + k * 17) rfl y hc.out ?_)
      refine (toModuleC y _).mono ?_
      rintro e w2 ⟨rfl, b2⟩
      have R0 := own_below hown.out b2
      have HT := Lib.hid (there_of_own R0 (k * 17) 17 (by omega))
      have R1 := own_putCells y.cells _ (k * 17) _ R0
      rw [show n - k = (n - (k + 1)) + 1 by omega, List.replicate_succ, set_flat Mo.cells_length _ _ _ y k hTl.out] at R1
      have R2 := Lib.hid R1
      have B2 := Lib.hid (bgrown (bthen hb.out b2) (grown_putCells w.heap.size y.cells w2 (k * 17)) (fun j hj => by cases hj; exact Nat.le_refl _))
      clear R0 R1 b2
      go_wp2_with (with_reducible refine storeAtMo rfl _ _ rfl w.heap.size (k * 17) y rfl rfl HT.out ?_)
      go_roundw
      case rel =>
        refine ⟨k + 1, by omega, by go_num, Lib.hid ?_, B2⟩
        rw [hT.out, List.append_assoc]
        exact R2.out
      case measure => simp [intOf]; omega
    · obtain rfl : k = n := by omega
      go_wp2
      go_ret
      have ho := hown.out
      rw [List.take_of_length_le (by rw [HL.out]; exact Nat.le_refl _), Nat.sub_self, List.replicate_zero, List.append_nil] at ho
      exact ⟨_, rfl, ho, hb.out⟩
end Go.Proofs.Ytdndanbalmoklaa
