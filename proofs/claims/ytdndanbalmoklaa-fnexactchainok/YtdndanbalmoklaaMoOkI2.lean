/-
  ModuleOk in the program: modules of the other kinds.
-/
import Derived.Test.YtdndanbalmoklaaMoOkI0
namespace Go.Proofs.Ytdndanbalmoklaa
set_option maxRecDepth 100000
open Go.RowKit

set_option maxHeartbeats 2000000 in
theorem moOkI_2a (m : Mo) (w : World) (k1 : (m.kind == 1) = false) (k2 : (m.kind == 2) = true) (h1 : twins m.frm m.to = false) : Calls Try.prog 17 #[.agg #[.int .i64 m.kind, .int .i64 m.frm.base.k, .int .i64 m.frm.base.a, .int .i64 m.frm.base.b, .int .i64 m.frm.base.c, .int .i64 m.frm.base.d, .int .i64 m.frm.len, .int .i64 m.to.base.k, .int .i64 m.to.base.a, .int .i64 m.to.base.b, .int .i64 m.to.base.c, .int .i64 m.to.base.d, .int .i64 m.to.len, .int .i64 m.proto, .int .i64 m.lo, .int .i64 m.hi, .int .i64 m.n]] w fun e w' => e = .returned (.bool false) ∧ Below w.heap.size w w' := by
  have q0 := Lib.hid (K.new w (.cells #[.int .i64 m.kind, .int .i64 m.frm.base.k, .int .i64 m.frm.base.a, .int .i64 m.frm.base.b, .int .i64 m.frm.base.c, .int .i64 m.frm.base.d, .int .i64 m.frm.len, .int .i64 m.to.base.k, .int .i64 m.to.base.a, .int .i64 m.to.base.b, .int .i64 m.to.base.c, .int .i64 m.to.base.d, .int .i64 m.to.len, .int .i64 m.proto, .int .i64 m.lo, .int .i64 m.hi, .int .i64 m.n] 33))
  have H1 := Lib.hid h1
  clear h1
  go_enter Try.func17, Try.ntmps17
  go_wp2_with fail
  refine Calls.mono (natIB m.frm m.to false H1.out _) ?_
  rintro e w1 ⟨rfl, b1⟩
  have B1 := Lib.hid (bthen (Joins.below_alloc1 w _) b1)
  clear b1 
  go_wp2
  go_ret
  exact ⟨rfl, B1.out⟩

set_option maxHeartbeats 2000000 in
theorem moOkI_2b (m : Mo) (w : World) (k1 : (m.kind == 1) = false) (k2 : (m.kind == 2) = true) (h1 : twins m.frm m.to = true) : Calls Try.prog 17 #[.agg #[.int .i64 m.kind, .int .i64 m.frm.base.k, .int .i64 m.frm.base.a, .int .i64 m.frm.base.b, .int .i64 m.frm.base.c, .int .i64 m.frm.base.d, .int .i64 m.frm.len, .int .i64 m.to.base.k, .int .i64 m.to.base.a, .int .i64 m.to.base.b, .int .i64 m.to.base.c, .int .i64 m.to.base.d, .int .i64 m.to.len, .int .i64 m.proto, .int .i64 m.lo, .int .i64 m.hi, .int .i64 m.n]] w fun e w' => e = .returned (.bool (m.bare && m.n == 0)) ∧ Below w.heap.size w w' := by
  have q0 := Lib.hid (K.new w (.cells #[.int .i64 m.kind, .int .i64 m.frm.base.k, .int .i64 m.frm.base.a, .int .i64 m.frm.base.b, .int .i64 m.frm.base.c, .int .i64 m.frm.base.d, .int .i64 m.frm.len, .int .i64 m.to.base.k, .int .i64 m.to.base.a, .int .i64 m.to.base.b, .int .i64 m.to.base.c, .int .i64 m.to.base.d, .int .i64 m.to.len, .int .i64 m.proto, .int .i64 m.lo, .int .i64 m.hi, .int .i64 m.n] 33))
  have H1 := Lib.hid h1
  clear h1
  go_enter Try.func17, Try.ntmps17
  go_wp2_with fail
  refine Calls.mono (natIB m.frm m.to true H1.out _) ?_
  rintro e w1 ⟨rfl, b1⟩
  have B1 := Lib.hid (bthen (Joins.below_alloc1 w _) b1)
  have q1 := Lib.hid (K.below b1 q0.out)
  clear b1 
  have c0 := K.cell q1.out 0 _ rfl
  have c1 := K.cell q1.out 1 _ rfl
  have c2 := K.cell q1.out 2 _ rfl
  have c3 := K.cell q1.out 3 _ rfl
  have c4 := K.cell q1.out 4 _ rfl
  have c5 := K.cell q1.out 5 _ rfl
  have c6 := K.cell q1.out 6 _ rfl
  have c7 := K.cell q1.out 7 _ rfl
  have c8 := K.cell q1.out 8 _ rfl
  have c9 := K.cell q1.out 9 _ rfl
  have c10 := K.cell q1.out 10 _ rfl
  have c11 := K.cell q1.out 11 _ rfl
  have c12 := K.cell q1.out 12 _ rfl
  have c13 := K.cell q1.out 13 _ rfl
  have c14 := K.cell q1.out 14 _ rfl
  have c15 := K.cell q1.out 15 _ rfl
  have c16 := K.cell q1.out 16 _ rfl
  have hq := eq_mo2 m
  go_wp2
  all_goals (go_ret; exact ⟨rfl, B1.out⟩)

set_option maxHeartbeats 2000000 in
theorem moOkI_3a (m : Mo) (w : World) (k1 : (m.kind == 1) = false) (k2 : (m.kind == 2) = false) (k3 : (m.kind == 3) = true) (h1 : twins m.frm m.to = false) : Calls Try.prog 17 #[.agg #[.int .i64 m.kind, .int .i64 m.frm.base.k, .int .i64 m.frm.base.a, .int .i64 m.frm.base.b, .int .i64 m.frm.base.c, .int .i64 m.frm.base.d, .int .i64 m.frm.len, .int .i64 m.to.base.k, .int .i64 m.to.base.a, .int .i64 m.to.base.b, .int .i64 m.to.base.c, .int .i64 m.to.base.d, .int .i64 m.to.len, .int .i64 m.proto, .int .i64 m.lo, .int .i64 m.hi, .int .i64 m.n]] w fun e w' => e = .returned (.bool false) ∧ Below w.heap.size w w' := by
  have q0 := Lib.hid (K.new w (.cells #[.int .i64 m.kind, .int .i64 m.frm.base.k, .int .i64 m.frm.base.a, .int .i64 m.frm.base.b, .int .i64 m.frm.base.c, .int .i64 m.frm.base.d, .int .i64 m.frm.len, .int .i64 m.to.base.k, .int .i64 m.to.base.a, .int .i64 m.to.base.b, .int .i64 m.to.base.c, .int .i64 m.to.base.d, .int .i64 m.to.len, .int .i64 m.proto, .int .i64 m.lo, .int .i64 m.hi, .int .i64 m.n] 33))
  have H1 := Lib.hid h1
  clear h1
  go_enter Try.func17, Try.ntmps17
  go_wp2_with fail
  refine Calls.mono (natIB m.frm m.to false H1.out _) ?_
  rintro e w1 ⟨rfl, b1⟩
  have B1 := Lib.hid (bthen (Joins.below_alloc1 w _) b1)
  clear b1 
  go_wp2
  go_ret
  exact ⟨rfl, B1.out⟩

set_option maxHeartbeats 2000000 in
theorem moOkI_3b (m : Mo) (w : World) (k1 : (m.kind == 1) = false) (k2 : (m.kind == 2) = false) (k3 : (m.kind == 3) = true) (h1 : twins m.frm m.to = true) : Calls Try.prog 17 #[.agg #[.int .i64 m.kind, .int .i64 m.frm.base.k, .int .i64 m.frm.base.a, .int .i64 m.frm.base.b, .int .i64 m.frm.base.c, .int .i64 m.frm.base.d, .int .i64 m.frm.len, .int .i64 m.to.base.k, .int .i64 m.to.base.a, .int .i64 m.to.base.b, .int .i64 m.to.base.c, .int .i64 m.to.base.d, .int .i64 m.to.len, .int .i64 m.proto, .int .i64 m.lo, .int .i64 m.hi, .int .i64 m.n]] w fun e w' => e = .returned (.bool (m.bare && m.n == 0)) ∧ Below w.heap.size w w' := by
  have q0 := Lib.hid (K.new w (.cells #[.int .i64 m.kind, .int .i64 m.frm.base.k, .int .i64 m.frm.base.a, .int .i64 m.frm.base.b, .int .i64 m.frm.base.c, .int .i64 m.frm.base.d, .int .i64 m.frm.len, .int .i64 m.to.base.k, .int .i64 m.to.base.a, .int .i64 m.to.base.b, .int .i64 m.to.base.c, .int .i64 m.to.base.d, .int .i64 m.to.len, .int .i64 m.proto, .int .i64 m.lo, .int .i64 m.hi, .int .i64 m.n] 33))
  have H1 := Lib.hid h1
  clear h1
  go_enter Try.func17, Try.ntmps17
  go_wp2_with fail
  refine Calls.mono (natIB m.frm m.to true H1.out _) ?_
  rintro e w1 ⟨rfl, b1⟩
  have B1 := Lib.hid (bthen (Joins.below_alloc1 w _) b1)
  have q1 := Lib.hid (K.below b1 q0.out)
  clear b1 
  have c0 := K.cell q1.out 0 _ rfl
  have c1 := K.cell q1.out 1 _ rfl
  have c2 := K.cell q1.out 2 _ rfl
  have c3 := K.cell q1.out 3 _ rfl
  have c4 := K.cell q1.out 4 _ rfl
  have c5 := K.cell q1.out 5 _ rfl
  have c6 := K.cell q1.out 6 _ rfl
  have c7 := K.cell q1.out 7 _ rfl
  have c8 := K.cell q1.out 8 _ rfl
  have c9 := K.cell q1.out 9 _ rfl
  have c10 := K.cell q1.out 10 _ rfl
  have c11 := K.cell q1.out 11 _ rfl
  have c12 := K.cell q1.out 12 _ rfl
  have c13 := K.cell q1.out 13 _ rfl
  have c14 := K.cell q1.out 14 _ rfl
  have c15 := K.cell q1.out 15 _ rfl
  have c16 := K.cell q1.out 16 _ rfl
  have hq := eq_mo2 m
  go_wp2
  all_goals (go_ret; exact ⟨rfl, B1.out⟩)

set_option maxHeartbeats 2000000 in
theorem moOkI_4 (m : Mo) (w : World) (k1 : (m.kind == 1) = false) (k2 : (m.kind == 2) = false) (k3 : (m.kind == 3) = false) (k4 : (m.kind == 4) = true) : Calls Try.prog 17 #[.agg #[.int .i64 m.kind, .int .i64 m.frm.base.k, .int .i64 m.frm.base.a, .int .i64 m.frm.base.b, .int .i64 m.frm.base.c, .int .i64 m.frm.base.d, .int .i64 m.frm.len, .int .i64 m.to.base.k, .int .i64 m.to.base.a, .int .i64 m.to.base.b, .int .i64 m.to.base.c, .int .i64 m.to.base.d, .int .i64 m.to.len, .int .i64 m.proto, .int .i64 m.lo, .int .i64 m.hi, .int .i64 m.n]] w fun e w' => e = .returned (.bool (m.anys && m.bare && m.n == 0)) ∧ Below w.heap.size w w' := by
  have q0 := Lib.hid (K.new w (.cells #[.int .i64 m.kind, .int .i64 m.frm.base.k, .int .i64 m.frm.base.a, .int .i64 m.frm.base.b, .int .i64 m.frm.base.c, .int .i64 m.frm.base.d, .int .i64 m.frm.len, .int .i64 m.to.base.k, .int .i64 m.to.base.a, .int .i64 m.to.base.b, .int .i64 m.to.base.c, .int .i64 m.to.base.d, .int .i64 m.to.len, .int .i64 m.proto, .int .i64 m.lo, .int .i64 m.hi, .int .i64 m.n] 33))
  go_enter Try.func17, Try.ntmps17
  have c0 := K.cell q0.out 0 _ rfl
  have c1 := K.cell q0.out 1 _ rfl
  have c2 := K.cell q0.out 2 _ rfl
  have c3 := K.cell q0.out 3 _ rfl
  have c4 := K.cell q0.out 4 _ rfl
  have c5 := K.cell q0.out 5 _ rfl
  have c6 := K.cell q0.out 6 _ rfl
  have c7 := K.cell q0.out 7 _ rfl
  have c8 := K.cell q0.out 8 _ rfl
  have c9 := K.cell q0.out 9 _ rfl
  have c10 := K.cell q0.out 10 _ rfl
  have c11 := K.cell q0.out 11 _ rfl
  have c12 := K.cell q0.out 12 _ rfl
  have c13 := K.cell q0.out 13 _ rfl
  have c14 := K.cell q0.out 14 _ rfl
  have c15 := K.cell q0.out 15 _ rfl
  have c16 := K.cell q0.out 16 _ rfl
  have hq := eq_mo4 m
  go_wp2
  all_goals (go_ret; exact ⟨rfl, (Joins.below_alloc1 w _)⟩)

set_option maxHeartbeats 2000000 in
theorem moOkI_6 (m : Mo) (w : World) (k1 : (m.kind == 1) = false) (k2 : (m.kind == 2) = false) (k3 : (m.kind == 3) = false) (k4 : (m.kind == 4) = false) (k6 : (m.kind == 6) = true) : Calls Try.prog 17 #[.agg #[.int .i64 m.kind, .int .i64 m.frm.base.k, .int .i64 m.frm.base.a, .int .i64 m.frm.base.b, .int .i64 m.frm.base.c, .int .i64 m.frm.base.d, .int .i64 m.frm.len, .int .i64 m.to.base.k, .int .i64 m.to.base.a, .int .i64 m.to.base.b, .int .i64 m.to.base.c, .int .i64 m.to.base.d, .int .i64 m.to.len, .int .i64 m.proto, .int .i64 m.lo, .int .i64 m.hi, .int .i64 m.n]] w fun e w' => e = .returned (.bool (m.anys && m.bare && m.n == 0)) ∧ Below w.heap.size w w' := by
  have q0 := Lib.hid (K.new w (.cells #[.int .i64 m.kind, .int .i64 m.frm.base.k, .int .i64 m.frm.base.a, .int .i64 m.frm.base.b, .int .i64 m.frm.base.c, .int .i64 m.frm.base.d, .int .i64 m.frm.len, .int .i64 m.to.base.k, .int .i64 m.to.base.a, .int .i64 m.to.base.b, .int .i64 m.to.base.c, .int .i64 m.to.base.d, .int .i64 m.to.len, .int .i64 m.proto, .int .i64 m.lo, .int .i64 m.hi, .int .i64 m.n] 33))
  go_enter Try.func17, Try.ntmps17
  have c0 := K.cell q0.out 0 _ rfl
  have c1 := K.cell q0.out 1 _ rfl
  have c2 := K.cell q0.out 2 _ rfl
  have c3 := K.cell q0.out 3 _ rfl
  have c4 := K.cell q0.out 4 _ rfl
  have c5 := K.cell q0.out 5 _ rfl
  have c6 := K.cell q0.out 6 _ rfl
  have c7 := K.cell q0.out 7 _ rfl
  have c8 := K.cell q0.out 8 _ rfl
  have c9 := K.cell q0.out 9 _ rfl
  have c10 := K.cell q0.out 10 _ rfl
  have c11 := K.cell q0.out 11 _ rfl
  have c12 := K.cell q0.out 12 _ rfl
  have c13 := K.cell q0.out 13 _ rfl
  have c14 := K.cell q0.out 14 _ rfl
  have c15 := K.cell q0.out 15 _ rfl
  have c16 := K.cell q0.out 16 _ rfl
  have hq := eq_mo4 m
  go_wp2
  all_goals (go_ret; exact ⟨rfl, (Joins.below_alloc1 w _)⟩)

set_option maxHeartbeats 2000000 in
theorem moOkI_5a (m : Mo) (w : World) (k1 : (m.kind == 1) = false) (k2 : (m.kind == 2) = false) (k3 : (m.kind == 3) = false) (k4 : (m.kind == 4) = false) (k6 : (m.kind == 6) = false) (k5 : (m.kind == 5) = true) (h1 : btw 0 m.n 63 = false) : Calls Try.prog 17 #[.agg #[.int .i64 m.kind, .int .i64 m.frm.base.k, .int .i64 m.frm.base.a, .int .i64 m.frm.base.b, .int .i64 m.frm.base.c, .int .i64 m.frm.base.d, .int .i64 m.frm.len, .int .i64 m.to.base.k, .int .i64 m.to.base.a, .int .i64 m.to.base.b, .int .i64 m.to.base.c, .int .i64 m.to.base.d, .int .i64 m.to.len, .int .i64 m.proto, .int .i64 m.lo, .int .i64 m.hi, .int .i64 m.n]] w fun e w' => e = .returned (.bool false) ∧ Below w.heap.size w w' := by
  have q0 := Lib.hid (K.new w (.cells #[.int .i64 m.kind, .int .i64 m.frm.base.k, .int .i64 m.frm.base.a, .int .i64 m.frm.base.b, .int .i64 m.frm.base.c, .int .i64 m.frm.base.d, .int .i64 m.frm.len, .int .i64 m.to.base.k, .int .i64 m.to.base.a, .int .i64 m.to.base.b, .int .i64 m.to.base.c, .int .i64 m.to.base.d, .int .i64 m.to.len, .int .i64 m.proto, .int .i64 m.lo, .int .i64 m.hi, .int .i64 m.n] 33))
  have H1 := Lib.hid h1
  clear h1
  go_enter Try.func17, Try.ntmps17
  go_wp2_with fail
  refine Calls.mono (ruleW 0 m.n 63 false H1.out _) ?_
  rintro e w1 ⟨rfl, b1⟩
  have B1 := Lib.hid (bthen (Joins.below_alloc1 w _) b1)
  clear b1 
  go_wp2
  go_ret
  exact ⟨rfl, B1.out⟩

set_option maxHeartbeats 2000000 in
theorem moOkI_5b (m : Mo) (w : World) (k1 : (m.kind == 1) = false) (k2 : (m.kind == 2) = false) (k3 : (m.kind == 3) = false) (k4 : (m.kind == 4) = false) (k6 : (m.kind == 6) = false) (k5 : (m.kind == 5) = true) (h1 : btw 0 m.n 63 = true) : Calls Try.prog 17 #[.agg #[.int .i64 m.kind, .int .i64 m.frm.base.k, .int .i64 m.frm.base.a, .int .i64 m.frm.base.b, .int .i64 m.frm.base.c, .int .i64 m.frm.base.d, .int .i64 m.frm.len, .int .i64 m.to.base.k, .int .i64 m.to.base.a, .int .i64 m.to.base.b, .int .i64 m.to.base.c, .int .i64 m.to.base.d, .int .i64 m.to.len, .int .i64 m.proto, .int .i64 m.lo, .int .i64 m.hi, .int .i64 m.n]] w fun e w' => e = .returned (.bool (m.anys && m.bare)) ∧ Below w.heap.size w w' := by
  have q0 := Lib.hid (K.new w (.cells #[.int .i64 m.kind, .int .i64 m.frm.base.k, .int .i64 m.frm.base.a, .int .i64 m.frm.base.b, .int .i64 m.frm.base.c, .int .i64 m.frm.base.d, .int .i64 m.frm.len, .int .i64 m.to.base.k, .int .i64 m.to.base.a, .int .i64 m.to.base.b, .int .i64 m.to.base.c, .int .i64 m.to.base.d, .int .i64 m.to.len, .int .i64 m.proto, .int .i64 m.lo, .int .i64 m.hi, .int .i64 m.n] 33))
  have H1 := Lib.hid h1
  clear h1
  go_enter Try.func17, Try.ntmps17
  go_wp2_with fail
  refine Calls.mono (ruleW 0 m.n 63 true H1.out _) ?_
  rintro e w1 ⟨rfl, b1⟩
  have B1 := Lib.hid (bthen (Joins.below_alloc1 w _) b1)
  have q1 := Lib.hid (K.below b1 q0.out)
  clear b1 
  have c0 := K.cell q1.out 0 _ rfl
  have c1 := K.cell q1.out 1 _ rfl
  have c2 := K.cell q1.out 2 _ rfl
  have c3 := K.cell q1.out 3 _ rfl
  have c4 := K.cell q1.out 4 _ rfl
  have c5 := K.cell q1.out 5 _ rfl
  have c6 := K.cell q1.out 6 _ rfl
  have c7 := K.cell q1.out 7 _ rfl
  have c8 := K.cell q1.out 8 _ rfl
  have c9 := K.cell q1.out 9 _ rfl
  have c10 := K.cell q1.out 10 _ rfl
  have c11 := K.cell q1.out 11 _ rfl
  have c12 := K.cell q1.out 12 _ rfl
  have c13 := K.cell q1.out 13 _ rfl
  have c14 := K.cell q1.out 14 _ rfl
  have c15 := K.cell q1.out 15 _ rfl
  have c16 := K.cell q1.out 16 _ rfl
  have hq := eq_mo5 m
  go_wp2
  all_goals (go_ret; exact ⟨rfl, B1.out⟩)

set_option maxHeartbeats 2000000 in
theorem moOkI_7a (m : Mo) (w : World) (k1 : (m.kind == 1) = false) (k2 : (m.kind == 2) = false) (k3 : (m.kind == 3) = false) (k4 : (m.kind == 4) = false) (k6 : (m.kind == 6) = false) (k5 : (m.kind == 5) = false) (k7 : (m.kind == 7) = true) (h1 : btw 1 m.n 4 = false) : Calls Try.prog 17 #[.agg #[.int .i64 m.kind, .int .i64 m.frm.base.k, .int .i64 m.frm.base.a, .int .i64 m.frm.base.b, .int .i64 m.frm.base.c, .int .i64 m.frm.base.d, .int .i64 m.frm.len, .int .i64 m.to.base.k, .int .i64 m.to.base.a, .int .i64 m.to.base.b, .int .i64 m.to.base.c, .int .i64 m.to.base.d, .int .i64 m.to.len, .int .i64 m.proto, .int .i64 m.lo, .int .i64 m.hi, .int .i64 m.n]] w fun e w' => e = .returned (.bool false) ∧ Below w.heap.size w w' := by
  have q0 := Lib.hid (K.new w (.cells #[.int .i64 m.kind, .int .i64 m.frm.base.k, .int .i64 m.frm.base.a, .int .i64 m.frm.base.b, .int .i64 m.frm.base.c, .int .i64 m.frm.base.d, .int .i64 m.frm.len, .int .i64 m.to.base.k, .int .i64 m.to.base.a, .int .i64 m.to.base.b, .int .i64 m.to.base.c, .int .i64 m.to.base.d, .int .i64 m.to.len, .int .i64 m.proto, .int .i64 m.lo, .int .i64 m.hi, .int .i64 m.n] 33))
  have H1 := Lib.hid h1
  clear h1
  go_enter Try.func17, Try.ntmps17
  go_wp2_with fail
  refine Calls.mono (ruleW 1 m.n 4 false H1.out _) ?_
  rintro e w1 ⟨rfl, b1⟩
  have B1 := Lib.hid (bthen (Joins.below_alloc1 w _) b1)
  clear b1 
  go_wp2
  go_ret
  exact ⟨rfl, B1.out⟩

set_option maxHeartbeats 2000000 in
theorem moOkI_7b (m : Mo) (w : World) (k1 : (m.kind == 1) = false) (k2 : (m.kind == 2) = false) (k3 : (m.kind == 3) = false) (k4 : (m.kind == 4) = false) (k6 : (m.kind == 6) = false) (k5 : (m.kind == 5) = false) (k7 : (m.kind == 7) = true) (h1 : btw 1 m.n 4 = true) : Calls Try.prog 17 #[.agg #[.int .i64 m.kind, .int .i64 m.frm.base.k, .int .i64 m.frm.base.a, .int .i64 m.frm.base.b, .int .i64 m.frm.base.c, .int .i64 m.frm.base.d, .int .i64 m.frm.len, .int .i64 m.to.base.k, .int .i64 m.to.base.a, .int .i64 m.to.base.b, .int .i64 m.to.base.c, .int .i64 m.to.base.d, .int .i64 m.to.len, .int .i64 m.proto, .int .i64 m.lo, .int .i64 m.hi, .int .i64 m.n]] w fun e w' => e = .returned (.bool (m.anys && m.bare)) ∧ Below w.heap.size w w' := by
  have q0 := Lib.hid (K.new w (.cells #[.int .i64 m.kind, .int .i64 m.frm.base.k, .int .i64 m.frm.base.a, .int .i64 m.frm.base.b, .int .i64 m.frm.base.c, .int .i64 m.frm.base.d, .int .i64 m.frm.len, .int .i64 m.to.base.k, .int .i64 m.to.base.a, .int .i64 m.to.base.b, .int .i64 m.to.base.c, .int .i64 m.to.base.d, .int .i64 m.to.len, .int .i64 m.proto, .int .i64 m.lo, .int .i64 m.hi, .int .i64 m.n] 33))
  have H1 := Lib.hid h1
  clear h1
  go_enter Try.func17, Try.ntmps17
  go_wp2_with fail
  refine Calls.mono (ruleW 1 m.n 4 true H1.out _) ?_
  rintro e w1 ⟨rfl, b1⟩
  have B1 := Lib.hid (bthen (Joins.below_alloc1 w _) b1)
  have q1 := Lib.hid (K.below b1 q0.out)
  clear b1 
  have c0 := K.cell q1.out 0 _ rfl
  have c1 := K.cell q1.out 1 _ rfl
  have c2 := K.cell q1.out 2 _ rfl
  have c3 := K.cell q1.out 3 _ rfl
  have c4 := K.cell q1.out 4 _ rfl
  have c5 := K.cell q1.out 5 _ rfl
  have c6 := K.cell q1.out 6 _ rfl
  have c7 := K.cell q1.out 7 _ rfl
  have c8 := K.cell q1.out 8 _ rfl
  have c9 := K.cell q1.out 9 _ rfl
  have c10 := K.cell q1.out 10 _ rfl
  have c11 := K.cell q1.out 11 _ rfl
  have c12 := K.cell q1.out 12 _ rfl
  have c13 := K.cell q1.out 13 _ rfl
  have c14 := K.cell q1.out 14 _ rfl
  have c15 := K.cell q1.out 15 _ rfl
  have c16 := K.cell q1.out 16 _ rfl
  have hq := eq_mo5 m
  go_wp2
  all_goals (go_ret; exact ⟨rfl, B1.out⟩)

set_option maxHeartbeats 2000000 in
theorem moOkI_0 (m : Mo) (w : World) (k1 : (m.kind == 1) = false) (k2 : (m.kind == 2) = false) (k3 : (m.kind == 3) = false) (k4 : (m.kind == 4) = false) (k5 : (m.kind == 5) = false) (k6 : (m.kind == 6) = false) (k7 : (m.kind == 7) = false) : Calls Try.prog 17 #[.agg #[.int .i64 m.kind, .int .i64 m.frm.base.k, .int .i64 m.frm.base.a, .int .i64 m.frm.base.b, .int .i64 m.frm.base.c, .int .i64 m.frm.base.d, .int .i64 m.frm.len, .int .i64 m.to.base.k, .int .i64 m.to.base.a, .int .i64 m.to.base.b, .int .i64 m.to.base.c, .int .i64 m.to.base.d, .int .i64 m.to.len, .int .i64 m.proto, .int .i64 m.lo, .int .i64 m.hi, .int .i64 m.n]] w fun e w' => e = .returned (.bool false) ∧ Below w.heap.size w w' := by
  have q0 := Lib.hid (K.new w (.cells #[.int .i64 m.kind, .int .i64 m.frm.base.k, .int .i64 m.frm.base.a, .int .i64 m.frm.base.b, .int .i64 m.frm.base.c, .int .i64 m.frm.base.d, .int .i64 m.frm.len, .int .i64 m.to.base.k, .int .i64 m.to.base.a, .int .i64 m.to.base.b, .int .i64 m.to.base.c, .int .i64 m.to.base.d, .int .i64 m.to.len, .int .i64 m.proto, .int .i64 m.lo, .int .i64 m.hi, .int .i64 m.n] 33))
  go_enter Try.func17, Try.ntmps17
  go_wp2
  go_ret
  exact ⟨rfl, (Joins.below_alloc1 w _)⟩
end Go.Proofs.Ytdndanbalmoklaa
