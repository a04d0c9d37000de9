/-
  ModuleOk in the model: modules with a number.
-/
import Derived.Test.YtdndanbalmoklaaMoOkS0
namespace Go.Proofs.Ytdndanbalmoklaa
set_option maxRecDepth 100000
open Go.RowKit

set_option maxHeartbeats 2000000 in
theorem moS_5p (frm to : Pf) (proto lo hi n : Int) (w : World) (hp : ¬ proto = 0) : Calls Try.prog 15 #[.agg #[.int .i64 5, .int .i64 frm.base.k, .int .i64 frm.base.a, .int .i64 frm.base.b, .int .i64 frm.base.c, .int .i64 frm.base.d, .int .i64 frm.len, .int .i64 to.base.k, .int .i64 to.base.a, .int .i64 to.base.b, .int .i64 to.base.c, .int .i64 to.base.d, .int .i64 to.len, .int .i64 proto, .int .i64 lo, .int .i64 hi, .int .i64 n]] w fun e w' => e = .returned (.bool false) ∧ Below w.heap.size w w' := by
  have q0 := Lib.hid (K.new w (.cells #[.int .i64 5, .int .i64 frm.base.k, .int .i64 frm.base.a, .int .i64 frm.base.b, .int .i64 frm.base.c, .int .i64 frm.base.d, .int .i64 frm.len, .int .i64 to.base.k, .int .i64 to.base.a, .int .i64 to.base.b, .int .i64 to.base.c, .int .i64 to.base.d, .int .i64 to.len, .int .i64 proto, .int .i64 lo, .int .i64 hi, .int .i64 n] 33))
  go_enter Try.func15, Try.ntmps15
  go_wp2
  go_ret
  exact ⟨rfl, (Joins.below_alloc1 w _)⟩

set_option maxHeartbeats 2000000 in
theorem moS_5l (frm to : Pf) (lo hi n : Int) (w : World) (hp : ¬ lo = 0) : Calls Try.prog 15 #[.agg #[.int .i64 5, .int .i64 frm.base.k, .int .i64 frm.base.a, .int .i64 frm.base.b, .int .i64 frm.base.c, .int .i64 frm.base.d, .int .i64 frm.len, .int .i64 to.base.k, .int .i64 to.base.a, .int .i64 to.base.b, .int .i64 to.base.c, .int .i64 to.base.d, .int .i64 to.len, .int .i64 0, .int .i64 lo, .int .i64 hi, .int .i64 n]] w fun e w' => e = .returned (.bool false) ∧ Below w.heap.size w w' := by
  have q0 := Lib.hid (K.new w (.cells #[.int .i64 5, .int .i64 frm.base.k, .int .i64 frm.base.a, .int .i64 frm.base.b, .int .i64 frm.base.c, .int .i64 frm.base.d, .int .i64 frm.len, .int .i64 to.base.k, .int .i64 to.base.a, .int .i64 to.base.b, .int .i64 to.base.c, .int .i64 to.base.d, .int .i64 to.len, .int .i64 0, .int .i64 lo, .int .i64 hi, .int .i64 n] 33))
  go_enter Try.func15, Try.ntmps15
  go_wp2
  go_ret
  exact ⟨rfl, (Joins.below_alloc1 w _)⟩

set_option maxHeartbeats 2000000 in
theorem moS_5h (frm to : Pf) (hi n : Int) (w : World) (hp : ¬ hi = 0) : Calls Try.prog 15 #[.agg #[.int .i64 5, .int .i64 frm.base.k, .int .i64 frm.base.a, .int .i64 frm.base.b, .int .i64 frm.base.c, .int .i64 frm.base.d, .int .i64 frm.len, .int .i64 to.base.k, .int .i64 to.base.a, .int .i64 to.base.b, .int .i64 to.base.c, .int .i64 to.base.d, .int .i64 to.len, .int .i64 0, .int .i64 0, .int .i64 hi, .int .i64 n]] w fun e w' => e = .returned (.bool false) ∧ Below w.heap.size w w' := by
  have q0 := Lib.hid (K.new w (.cells #[.int .i64 5, .int .i64 frm.base.k, .int .i64 frm.base.a, .int .i64 frm.base.b, .int .i64 frm.base.c, .int .i64 frm.base.d, .int .i64 frm.len, .int .i64 to.base.k, .int .i64 to.base.a, .int .i64 to.base.b, .int .i64 to.base.c, .int .i64 to.base.d, .int .i64 to.len, .int .i64 0, .int .i64 0, .int .i64 hi, .int .i64 n] 33))
  go_enter Try.func15, Try.ntmps15
  go_wp2
  go_ret
  exact ⟨rfl, (Joins.below_alloc1 w _)⟩

set_option maxHeartbeats 2000000 in
theorem moS_5a (frm to : Pf) (n : Int) (w : World) (h1 : decide (frm = Pf.zero) = false) : Calls Try.prog 15 #[.agg #[.int .i64 5, .int .i64 frm.base.k, .int .i64 frm.base.a, .int .i64 frm.base.b, .int .i64 frm.base.c, .int .i64 frm.base.d, .int .i64 frm.len, .int .i64 to.base.k, .int .i64 to.base.a, .int .i64 to.base.b, .int .i64 to.base.c, .int .i64 to.base.d, .int .i64 to.len, .int .i64 0, .int .i64 0, .int .i64 0, .int .i64 n]] w fun e w' => e = .returned (.bool false) ∧ Below w.heap.size w w' := by
  have q0 := Lib.hid (K.new w (.cells #[.int .i64 5, .int .i64 frm.base.k, .int .i64 frm.base.a, .int .i64 frm.base.b, .int .i64 frm.base.c, .int .i64 frm.base.d, .int .i64 frm.len, .int .i64 to.base.k, .int .i64 to.base.a, .int .i64 to.base.b, .int .i64 to.base.c, .int .i64 to.base.d, .int .i64 to.len, .int .i64 0, .int .i64 0, .int .i64 0, .int .i64 n] 33))
  have H1 := Lib.hid h1
  clear h1
  go_enter Try.func15, Try.ntmps15
  go_wp2_with fail
  refine Calls.mono (anySB frm false H1.out _) ?_
  rintro e w1 ⟨rfl, b1⟩
  have B1 := Lib.hid (bthen (Joins.below_alloc1 w _) b1)
  have q1 := Lib.hid (K.below b1 q0.out)
  clear b1 
  have c0 := K.cell q1.out 0 _ rfl
  go_wp2
  go_ret
  exact ⟨rfl, B1.out⟩

set_option maxHeartbeats 2000000 in
theorem moS_5b (frm to : Pf) (n : Int) (w : World) (h1 : decide (frm = Pf.zero) = true) (h2 : decide (to = Pf.zero) = false) : Calls Try.prog 15 #[.agg #[.int .i64 5, .int .i64 frm.base.k, .int .i64 frm.base.a, .int .i64 frm.base.b, .int .i64 frm.base.c, .int .i64 frm.base.d, .int .i64 frm.len, .int .i64 to.base.k, .int .i64 to.base.a, .int .i64 to.base.b, .int .i64 to.base.c, .int .i64 to.base.d, .int .i64 to.len, .int .i64 0, .int .i64 0, .int .i64 0, .int .i64 n]] w fun e w' => e = .returned (.bool false) ∧ Below w.heap.size w w' := by
  have q0 := Lib.hid (K.new w (.cells #[.int .i64 5, .int .i64 frm.base.k, .int .i64 frm.base.a, .int .i64 frm.base.b, .int .i64 frm.base.c, .int .i64 frm.base.d, .int .i64 frm.len, .int .i64 to.base.k, .int .i64 to.base.a, .int .i64 to.base.b, .int .i64 to.base.c, .int .i64 to.base.d, .int .i64 to.len, .int .i64 0, .int .i64 0, .int .i64 0, .int .i64 n] 33))
  have H1 := Lib.hid h1
  have H2 := Lib.hid h2
  clear h1 h2
  go_enter Try.func15, Try.ntmps15
  go_wp2_with fail
  refine Calls.mono (anySB frm true H1.out _) ?_
  rintro e w1 ⟨rfl, b1⟩
  have B1 := Lib.hid (bthen (Joins.below_alloc1 w _) b1)
  have q1 := Lib.hid (K.below b1 q0.out)
  clear b1 
  have c7 := K.cell q1.out 7 _ rfl
  have c8 := K.cell q1.out 8 _ rfl
  have c9 := K.cell q1.out 9 _ rfl
  have c10 := K.cell q1.out 10 _ rfl
  have c11 := K.cell q1.out 11 _ rfl
  have c12 := K.cell q1.out 12 _ rfl
  go_wp2_with fail
  refine Calls.mono (anySB to false H2.out _) ?_
  rintro e w2 ⟨rfl, b2⟩
  have B2 := Lib.hid (bthen B1.out b2)
  have q2 := Lib.hid (K.below b2 q1.out)
  clear b2 c7 c8 c9 c10 c11 c12
  have c0 := K.cell q2.out 0 _ rfl
  go_wp2
  go_ret
  exact ⟨rfl, B2.out⟩

set_option maxHeartbeats 2000000 in
theorem moS_7p (frm to : Pf) (proto lo hi n : Int) (w : World) (hp : ¬ proto = 0) : Calls Try.prog 15 #[.agg #[.int .i64 7, .int .i64 frm.base.k, .int .i64 frm.base.a, .int .i64 frm.base.b, .int .i64 frm.base.c, .int .i64 frm.base.d, .int .i64 frm.len, .int .i64 to.base.k, .int .i64 to.base.a, .int .i64 to.base.b, .int .i64 to.base.c, .int .i64 to.base.d, .int .i64 to.len, .int .i64 proto, .int .i64 lo, .int .i64 hi, .int .i64 n]] w fun e w' => e = .returned (.bool false) ∧ Below w.heap.size w w' := by
  have q0 := Lib.hid (K.new w (.cells #[.int .i64 7, .int .i64 frm.base.k, .int .i64 frm.base.a, .int .i64 frm.base.b, .int .i64 frm.base.c, .int .i64 frm.base.d, .int .i64 frm.len, .int .i64 to.base.k, .int .i64 to.base.a, .int .i64 to.base.b, .int .i64 to.base.c, .int .i64 to.base.d, .int .i64 to.len, .int .i64 proto, .int .i64 lo, .int .i64 hi, .int .i64 n] 33))
  go_enter Try.func15, Try.ntmps15
  go_wp2
  go_ret
  exact ⟨rfl, (Joins.below_alloc1 w _)⟩

set_option maxHeartbeats 2000000 in
theorem moS_7l (frm to : Pf) (lo hi n : Int) (w : World) (hp : ¬ lo = 0) : Calls Try.prog 15 #[.agg #[.int .i64 7, .int .i64 frm.base.k, .int .i64 frm.base.a, .int .i64 frm.base.b, .int .i64 frm.base.c, .int .i64 frm.base.d, .int .i64 frm.len, .int .i64 to.base.k, .int .i64 to.base.a, .int .i64 to.base.b, .int .i64 to.base.c, .int .i64 to.base.d, .int .i64 to.len, .int .i64 0, .int .i64 lo, .int .i64 hi, .int .i64 n]] w fun e w' => e = .returned (.bool false) ∧ Below w.heap.size w w' := by
  have q0 := Lib.hid (K.new w (.cells #[.int .i64 7, .int .i64 frm.base.k, .int .i64 frm.base.a, .int .i64 frm.base.b, .int .i64 frm.base.c, .int .i64 frm.base.d, .int .i64 frm.len, .int .i64 to.base.k, .int .i64 to.base.a, .int .i64 to.base.b, .int .i64 to.base.c, .int .i64 to.base.d, .int .i64 to.len, .int .i64 0, .int .i64 lo, .int .i64 hi, .int .i64 n] 33))
  go_enter Try.func15, Try.ntmps15
  go_wp2
  go_ret
  exact ⟨rfl, (Joins.below_alloc1 w _)⟩

set_option maxHeartbeats 2000000 in
theorem moS_7h (frm to : Pf) (hi n : Int) (w : World) (hp : ¬ hi = 0) : Calls Try.prog 15 #[.agg #[.int .i64 7, .int .i64 frm.base.k, .int .i64 frm.base.a, .int .i64 frm.base.b, .int .i64 frm.base.c, .int .i64 frm.base.d, .int .i64 frm.len, .int .i64 to.base.k, .int .i64 to.base.a, .int .i64 to.base.b, .int .i64 to.base.c, .int .i64 to.base.d, .int .i64 to.len, .int .i64 0, .int .i64 0, .int .i64 hi, .int .i64 n]] w fun e w' => e = .returned (.bool false) ∧ Below w.heap.size w w' := by
  have q0 := Lib.hid (K.new w (.cells #[.int .i64 7, .int .i64 frm.base.k, .int .i64 frm.base.a, .int .i64 frm.base.b, .int .i64 frm.base.c, .int .i64 frm.base.d, .int .i64 frm.len, .int .i64 to.base.k, .int .i64 to.base.a, .int .i64 to.base.b, .int .i64 to.base.c, .int .i64 to.base.d, .int .i64 to.len, .int .i64 0, .int .i64 0, .int .i64 hi, .int .i64 n] 33))
  go_enter Try.func15, Try.ntmps15
  go_wp2
  go_ret
  exact ⟨rfl, (Joins.below_alloc1 w _)⟩

set_option maxHeartbeats 2000000 in
theorem moS_7a (frm to : Pf) (n : Int) (w : World) (h1 : decide (frm = Pf.zero) = false) : Calls Try.prog 15 #[.agg #[.int .i64 7, .int .i64 frm.base.k, .int .i64 frm.base.a, .int .i64 frm.base.b, .int .i64 frm.base.c, .int .i64 frm.base.d, .int .i64 frm.len, .int .i64 to.base.k, .int .i64 to.base.a, .int .i64 to.base.b, .int .i64 to.base.c, .int .i64 to.base.d, .int .i64 to.len, .int .i64 0, .int .i64 0, .int .i64 0, .int .i64 n]] w fun e w' => e = .returned (.bool false) ∧ Below w.heap.size w w' := by
  have q0 := Lib.hid (K.new w (.cells #[.int .i64 7, .int .i64 frm.base.k, .int .i64 frm.base.a, .int .i64 frm.base.b, .int .i64 frm.base.c, .int .i64 frm.base.d, .int .i64 frm.len, .int .i64 to.base.k, .int .i64 to.base.a, .int .i64 to.base.b, .int .i64 to.base.c, .int .i64 to.base.d, .int .i64 to.len, .int .i64 0, .int .i64 0, .int .i64 0, .int .i64 n] 33))
  have H1 := Lib.hid h1
  clear h1
  go_enter Try.func15, Try.ntmps15
  go_wp2_with fail
  refine Calls.mono (anySB frm false H1.out _) ?_
  rintro e w1 ⟨rfl, b1⟩
  have B1 := Lib.hid (bthen (Joins.below_alloc1 w _) b1)
  have q1 := Lib.hid (K.below b1 q0.out)
  clear b1 
  have c0 := K.cell q1.out 0 _ rfl
  go_wp2
  go_ret
  exact ⟨rfl, B1.out⟩

set_option maxHeartbeats 2000000 in
theorem moS_7b (frm to : Pf) (n : Int) (w : World) (h1 : decide (frm = Pf.zero) = true) (h2 : decide (to = Pf.zero) = false) : Calls Try.prog 15 #[.agg #[.int .i64 7, .int .i64 frm.base.k, .int .i64 frm.base.a, .int .i64 frm.base.b, .int .i64 frm.base.c, .int .i64 frm.base.d, .int .i64 frm.len, .int .i64 to.base.k, .int .i64 to.base.a, .int .i64 to.base.b, .int .i64 to.base.c, .int .i64 to.base.d, .int .i64 to.len, .int .i64 0, .int .i64 0, .int .i64 0, .int .i64 n]] w fun e w' => e = .returned (.bool false) ∧ Below w.heap.size w w' := by
  have q0 := Lib.hid (K.new w (.cells #[.int .i64 7, .int .i64 frm.base.k, .int .i64 frm.base.a, .int .i64 frm.base.b, .int .i64 frm.base.c, .int .i64 frm.base.d, .int .i64 frm.len, .int .i64 to.base.k, .int .i64 to.base.a, .int .i64 to.base.b, .int .i64 to.base.c, .int .i64 to.base.d, .int .i64 to.len, .int .i64 0, .int .i64 0, .int .i64 0, .int .i64 n] 33))
  have H1 := Lib.hid h1
  have H2 := Lib.hid h2
  clear h1 h2
  go_enter Try.func15, Try.ntmps15
  go_wp2_with fail
  refine Calls.mono (anySB frm true H1.out _) ?_
  rintro e w1 ⟨rfl, b1⟩
  have B1 := Lib.hid (bthen (Joins.below_alloc1 w _) b1)
  have q1 := Lib.hid (K.below b1 q0.out)
  clear b1 
  have c7 := K.cell q1.out 7 _ rfl
  have c8 := K.cell q1.out 8 _ rfl
  have c9 := K.cell q1.out 9 _ rfl
  have c10 := K.cell q1.out 10 _ rfl
  have c11 := K.cell q1.out 11 _ rfl
  have c12 := K.cell q1.out 12 _ rfl
  go_wp2_with fail
  refine Calls.mono (anySB to false H2.out _) ?_
  rintro e w2 ⟨rfl, b2⟩
  have B2 := Lib.hid (bthen B1.out b2)
  have q2 := Lib.hid (K.below b2 q1.out)
  clear b2 c7 c8 c9 c10 c11 c12
  have c0 := K.cell q2.out 0 _ rfl
  go_wp2
  go_ret
  exact ⟨rfl, B2.out⟩

set_option maxHeartbeats 2000000 in
theorem moS_5c (frm to : Pf) (n : Int) (b : Bool) (w : World) (h1 : decide (frm = Pf.zero) = true) (h2 : decide (to = Pf.zero) = true) (h3 : upTo n 63 = b) : Calls Try.prog 15 #[.agg #[.int .i64 5, .int .i64 frm.base.k, .int .i64 frm.base.a, .int .i64 frm.base.b, .int .i64 frm.base.c, .int .i64 frm.base.d, .int .i64 frm.len, .int .i64 to.base.k, .int .i64 to.base.a, .int .i64 to.base.b, .int .i64 to.base.c, .int .i64 to.base.d, .int .i64 to.len, .int .i64 0, .int .i64 0, .int .i64 0, .int .i64 n]] w fun e w' => e = .returned (.bool b) ∧ Below w.heap.size w w' := by
  have q0 := Lib.hid (K.new w (.cells #[.int .i64 5, .int .i64 frm.base.k, .int .i64 frm.base.a, .int .i64 frm.base.b, .int .i64 frm.base.c, .int .i64 frm.base.d, .int .i64 frm.len, .int .i64 to.base.k, .int .i64 to.base.a, .int .i64 to.base.b, .int .i64 to.base.c, .int .i64 to.base.d, .int .i64 to.len, .int .i64 0, .int .i64 0, .int .i64 0, .int .i64 n] 33))
  have H1 := Lib.hid h1
  have H2 := Lib.hid h2
  have H3 := Lib.hid h3
  clear h1 h2 h3
  go_enter Try.func15, Try.ntmps15
  go_wp2_with fail
  refine Calls.mono (anySB frm true H1.out _) ?_
  rintro e w1 ⟨rfl, b1⟩
  have B1 := Lib.hid (bthen (Joins.below_alloc1 w _) b1)
  have q1 := Lib.hid (K.below b1 q0.out)
  clear b1 
  have c7 := K.cell q1.out 7 _ rfl
  have c8 := K.cell q1.out 8 _ rfl
  have c9 := K.cell q1.out 9 _ rfl
  have c10 := K.cell q1.out 10 _ rfl
  have c11 := K.cell q1.out 11 _ rfl
  have c12 := K.cell q1.out 12 _ rfl
  go_wp2_with fail
  refine Calls.mono (anySB to true H2.out _) ?_
  rintro e w2 ⟨rfl, b2⟩
  have B2 := Lib.hid (bthen B1.out b2)
  have q2 := Lib.hid (K.below b2 q1.out)
  clear b2 c7 c8 c9 c10 c11 c12
  have c0 := K.cell q2.out 0 _ rfl
  have c16 := K.cell q2.out 16 _ rfl
  go_wp2_with fail
  refine Calls.mono (inMoB n 63 b H3.out _) ?_
  rintro e w3 ⟨rfl, b3⟩
  have B3 := Lib.hid (bthen B2.out b3)
  clear b3 c0 c16
  go_wp2
  go_ret
  exact ⟨rfl, B3.out⟩

set_option maxHeartbeats 2000000 in
theorem moS_7c (frm to : Pf) (n : Int) (w : World) (h1 : decide (frm = Pf.zero) = true) (h2 : decide (to = Pf.zero) = true) : Calls Try.prog 15 #[.agg #[.int .i64 7, .int .i64 frm.base.k, .int .i64 frm.base.a, .int .i64 frm.base.b, .int .i64 frm.base.c, .int .i64 frm.base.d, .int .i64 frm.len, .int .i64 to.base.k, .int .i64 to.base.a, .int .i64 to.base.b, .int .i64 to.base.c, .int .i64 to.base.d, .int .i64 to.len, .int .i64 0, .int .i64 0, .int .i64 0, .int .i64 n]] w fun e w' => e = .returned (.bool (btw 1 n 4)) ∧ Below w.heap.size w w' := by
  have q0 := Lib.hid (K.new w (.cells #[.int .i64 7, .int .i64 frm.base.k, .int .i64 frm.base.a, .int .i64 frm.base.b, .int .i64 frm.base.c, .int .i64 frm.base.d, .int .i64 frm.len, .int .i64 to.base.k, .int .i64 to.base.a, .int .i64 to.base.b, .int .i64 to.base.c, .int .i64 to.base.d, .int .i64 to.len, .int .i64 0, .int .i64 0, .int .i64 0, .int .i64 n] 33))
  have H1 := Lib.hid h1
  have H2 := Lib.hid h2
  clear h1 h2
  go_enter Try.func15, Try.ntmps15
  go_wp2_with fail
  refine Calls.mono (anySB frm true H1.out _) ?_
  rintro e w1 ⟨rfl, b1⟩
  have B1 := Lib.hid (bthen (Joins.below_alloc1 w _) b1)
  have q1 := Lib.hid (K.below b1 q0.out)
  clear b1 
  have c7 := K.cell q1.out 7 _ rfl
  have c8 := K.cell q1.out 8 _ rfl
  have c9 := K.cell q1.out 9 _ rfl
  have c10 := K.cell q1.out 10 _ rfl
  have c11 := K.cell q1.out 11 _ rfl
  have c12 := K.cell q1.out 12 _ rfl
  go_wp2_with fail
  refine Calls.mono (anySB to true H2.out _) ?_
  rintro e w2 ⟨rfl, b2⟩
  have B2 := Lib.hid (bthen B1.out b2)
  have q2 := Lib.hid (K.below b2 q1.out)
  clear b2 c7 c8 c9 c10 c11 c12
  have c0 := K.cell q2.out 0 _ rfl
  have c16 := K.cell q2.out 16 _ rfl
  go_wp2
  all_goals (go_ret; exact ⟨ret_bool (by first | (simp [btw, *]; done) | (simp [btw, *]; omega)), B2.out⟩)

set_option maxHeartbeats 2000000 in
theorem moS_0a (frm to : Pf) (kind proto lo hi n : Int) (w : World) (hk : kind < 1) : Calls Try.prog 15 #[.agg #[.int .i64 kind, .int .i64 frm.base.k, .int .i64 frm.base.a, .int .i64 frm.base.b, .int .i64 frm.base.c, .int .i64 frm.base.d, .int .i64 frm.len, .int .i64 to.base.k, .int .i64 to.base.a, .int .i64 to.base.b, .int .i64 to.base.c, .int .i64 to.base.d, .int .i64 to.len, .int .i64 proto, .int .i64 lo, .int .i64 hi, .int .i64 n]] w fun e w' => e = .returned (.bool false) ∧ Below w.heap.size w w' := by
  have q0 := Lib.hid (K.new w (.cells #[.int .i64 kind, .int .i64 frm.base.k, .int .i64 frm.base.a, .int .i64 frm.base.b, .int .i64 frm.base.c, .int .i64 frm.base.d, .int .i64 frm.len, .int .i64 to.base.k, .int .i64 to.base.a, .int .i64 to.base.b, .int .i64 to.base.c, .int .i64 to.base.d, .int .i64 to.len, .int .i64 proto, .int .i64 lo, .int .i64 hi, .int .i64 n] 33))
  go_enter Try.func15, Try.ntmps15
  go_wp2
  go_ret
  exact ⟨rfl, (Joins.below_alloc1 w _)⟩

set_option maxHeartbeats 2000000 in
theorem moS_0b (frm to : Pf) (kind proto lo hi n : Int) (w : World) (hk : 7 < kind) : Calls Try.prog 15 #[.agg #[.int .i64 kind, .int .i64 frm.base.k, .int .i64 frm.base.a, .int .i64 frm.base.b, .int .i64 frm.base.c, .int .i64 frm.base.d, .int .i64 frm.len, .int .i64 to.base.k, .int .i64 to.base.a, .int .i64 to.base.b, .int .i64 to.base.c, .int .i64 to.base.d, .int .i64 to.len, .int .i64 proto, .int .i64 lo, .int .i64 hi, .int .i64 n]] w fun e w' => e = .returned (.bool false) ∧ Below w.heap.size w w' := by
  have q0 := Lib.hid (K.new w (.cells #[.int .i64 kind, .int .i64 frm.base.k, .int .i64 frm.base.a, .int .i64 frm.base.b, .int .i64 frm.base.c, .int .i64 frm.base.d, .int .i64 frm.len, .int .i64 to.base.k, .int .i64 to.base.a, .int .i64 to.base.b, .int .i64 to.base.c, .int .i64 to.base.d, .int .i64 to.len, .int .i64 proto, .int .i64 lo, .int .i64 hi, .int .i64 n] 33))
  go_enter Try.func15, Try.ntmps15
  go_wp2
  go_ret
  exact ⟨rfl, (Joins.below_alloc1 w _)⟩
end Go.Proofs.Ytdndanbalmoklaa
