/-
  ModuleOk in the program: modules that filter.
-/
import Derived.Test.YtdndanbalmoklaaMoOkI0
namespace Go.Proofs.Ytdndanbalmoklaa
set_option maxRecDepth 100000
open Go.RowKit

set_option maxHeartbeats 2000000 in
theorem moOkI_1a (m : Mo) (w : World) (hk : (m.kind == 1) = true) (h1 : m.frm.ok = false) : Calls Try.prog 17 #[.agg #[.int .i64 m.kind, .int .i64 m.frm.base.k, .int .i64 m.frm.base.a, .int .i64 m.frm.base.b, .int .i64 m.frm.base.c, .int .i64 m.frm.base.d, .int .i64 m.frm.len, .int .i64 m.to.base.k, .int .i64 m.to.base.a, .int .i64 m.to.base.b, .int .i64 m.to.base.c, .int .i64 m.to.base.d, .int .i64 m.to.len, .int .i64 m.proto, .int .i64 m.lo, .int .i64 m.hi, .int .i64 m.n]] w fun e w' => e = .returned (.bool false) ∧ Below w.heap.size w w' := by
  have q0 := Lib.hid (K.new w (.cells #[.int .i64 m.kind, .int .i64 m.frm.base.k, .int .i64 m.frm.base.a, .int .i64 m.frm.base.b, .int .i64 m.frm.base.c, .int .i64 m.frm.base.d, .int .i64 m.frm.len, .int .i64 m.to.base.k, .int .i64 m.to.base.a, .int .i64 m.to.base.b, .int .i64 m.to.base.c, .int .i64 m.to.base.d, .int .i64 m.to.len, .int .i64 m.proto, .int .i64 m.lo, .int .i64 m.hi, .int .i64 m.n] 33))
  have H1 := Lib.hid h1
  clear h1
  go_enter Try.func17, Try.ntmps17
  go_wp2_with fail
  refine Calls.mono (pfxIB m.frm false H1.out _) ?_
  rintro e w1 ⟨rfl, b1⟩
  have B1 := Lib.hid (bthen (Joins.below_alloc1 w _) b1)
  clear b1 
  go_wp2
  go_ret
  exact ⟨rfl, B1.out⟩

set_option maxHeartbeats 2000000 in
theorem moOkI_1b (m : Mo) (w : World) (hk : (m.kind == 1) = true) (h1 : m.frm.ok = true) (h2 : m.to.ok = false) : Calls Try.prog 17 #[.agg #[.int .i64 m.kind, .int .i64 m.frm.base.k, .int .i64 m.frm.base.a, .int .i64 m.frm.base.b, .int .i64 m.frm.base.c, .int .i64 m.frm.base.d, .int .i64 m.frm.len, .int .i64 m.to.base.k, .int .i64 m.to.base.a, .int .i64 m.to.base.b, .int .i64 m.to.base.c, .int .i64 m.to.base.d, .int .i64 m.to.len, .int .i64 m.proto, .int .i64 m.lo, .int .i64 m.hi, .int .i64 m.n]] w fun e w' => e = .returned (.bool false) ∧ Below w.heap.size w w' := by
  have q0 := Lib.hid (K.new w (.cells #[.int .i64 m.kind, .int .i64 m.frm.base.k, .int .i64 m.frm.base.a, .int .i64 m.frm.base.b, .int .i64 m.frm.base.c, .int .i64 m.frm.base.d, .int .i64 m.frm.len, .int .i64 m.to.base.k, .int .i64 m.to.base.a, .int .i64 m.to.base.b, .int .i64 m.to.base.c, .int .i64 m.to.base.d, .int .i64 m.to.len, .int .i64 m.proto, .int .i64 m.lo, .int .i64 m.hi, .int .i64 m.n] 33))
  have H1 := Lib.hid h1
  have H2 := Lib.hid h2
  clear h1 h2
  go_enter Try.func17, Try.ntmps17
  go_wp2_with fail
  refine Calls.mono (pfxIB m.frm true H1.out _) ?_
  rintro e w1 ⟨rfl, b1⟩
  have B1 := Lib.hid (bthen (Joins.below_alloc1 w _) b1)
  have q1 := Lib.hid (K.below b1 q0.out)
  clear b1 
  have c7 := K.cell q1.out 7 _ rfl
  have c8 := K.cell q1.out 8 _ rfl
  have c9 := K.cell q1.out 9 _ rfl
  have c10 := K.cell q1.out 10 _ rfl
  have c11 := K.cell q1.out 11 _ rfl
  have c12 := K.cell q1.out 12 _ rfl
  go_wp2_with fail
  refine Calls.mono (pfxIB m.to false H2.out _) ?_
  rintro e w2 ⟨rfl, b2⟩
  have B2 := Lib.hid (bthen B1.out b2)
  clear b2 c7 c8 c9 c10 c11 c12
  go_wp2
  go_ret
  exact ⟨rfl, B2.out⟩

set_option maxHeartbeats 2000000 in
theorem moOkI_1c (m : Mo) (w : World) (hk : (m.kind == 1) = true) (h1 : m.frm.ok = true) (h2 : m.to.ok = true) (hm : (m.proto == -1) = false) (h3 : upTo m.proto 255 = false) : Calls Try.prog 17 #[.agg #[.int .i64 m.kind, .int .i64 m.frm.base.k, .int .i64 m.frm.base.a, .int .i64 m.frm.base.b, .int .i64 m.frm.base.c, .int .i64 m.frm.base.d, .int .i64 m.frm.len, .int .i64 m.to.base.k, .int .i64 m.to.base.a, .int .i64 m.to.base.b, .int .i64 m.to.base.c, .int .i64 m.to.base.d, .int .i64 m.to.len, .int .i64 m.proto, .int .i64 m.lo, .int .i64 m.hi, .int .i64 m.n]] w fun e w' => e = .returned (.bool false) ∧ Below w.heap.size w w' := by
  have q0 := Lib.hid (K.new w (.cells #[.int .i64 m.kind, .int .i64 m.frm.base.k, .int .i64 m.frm.base.a, .int .i64 m.frm.base.b, .int .i64 m.frm.base.c, .int .i64 m.frm.base.d, .int .i64 m.frm.len, .int .i64 m.to.base.k, .int .i64 m.to.base.a, .int .i64 m.to.base.b, .int .i64 m.to.base.c, .int .i64 m.to.base.d, .int .i64 m.to.len, .int .i64 m.proto, .int .i64 m.lo, .int .i64 m.hi, .int .i64 m.n] 33))
  have H1 := Lib.hid h1
  have H2 := Lib.hid h2
  have H3 := Lib.hid h3
  clear h1 h2 h3
  go_enter Try.func17, Try.ntmps17
  go_wp2_with fail
  refine Calls.mono (pfxIB m.frm true H1.out _) ?_
  rintro e w1 ⟨rfl, b1⟩
  have B1 := Lib.hid (bthen (Joins.below_alloc1 w _) b1)
  have q1 := Lib.hid (K.below b1 q0.out)
  clear b1 
  have c7 := K.cell q1.out 7 _ rfl
  have c8 := K.cell q1.out 8 _ rfl
  have c9 := K.cell q1.out 9 _ rfl
  have c10 := K.cell q1.out 10 _ rfl
  have c11 := K.cell q1.out 11 _ rfl
  have c12 := K.cell q1.out 12 _ rfl
  go_wp2_with fail
  refine Calls.mono (pfxIB m.to true H2.out _) ?_
  rintro e w2 ⟨rfl, b2⟩
  have B2 := Lib.hid (bthen B1.out b2)
  have q2 := Lib.hid (K.below b2 q1.out)
  clear b2 c7 c8 c9 c10 c11 c12
  have c13 := K.cell q2.out 13 _ rfl
  go_wp2_with fail
  refine Calls.mono (protoR m.proto false _ H3.out) ?_
  rintro e w3 ⟨rfl, b3⟩
  have B3 := Lib.hid (bthen B2.out b3)
  clear b3 c13
  go_wp2
  go_ret
  exact ⟨rfl, B3.out⟩

set_option maxHeartbeats 2000000 in
theorem moOkI_1dany (m : Mo) (w : World) (hk : (m.kind == 1) = true) (h1 : m.frm.ok = true) (h2 : m.to.ok = true) (hm : (m.proto == -1) = true) (h4 : portsB m.lo m.hi = false) : Calls Try.prog 17 #[.agg #[.int .i64 m.kind, .int .i64 m.frm.base.k, .int .i64 m.frm.base.a, .int .i64 m.frm.base.b, .int .i64 m.frm.base.c, .int .i64 m.frm.base.d, .int .i64 m.frm.len, .int .i64 m.to.base.k, .int .i64 m.to.base.a, .int .i64 m.to.base.b, .int .i64 m.to.base.c, .int .i64 m.to.base.d, .int .i64 m.to.len, .int .i64 m.proto, .int .i64 m.lo, .int .i64 m.hi, .int .i64 m.n]] w fun e w' => e = .returned (.bool false) ∧ Below w.heap.size w w' := by
  have q0 := Lib.hid (K.new w (.cells #[.int .i64 m.kind, .int .i64 m.frm.base.k, .int .i64 m.frm.base.a, .int .i64 m.frm.base.b, .int .i64 m.frm.base.c, .int .i64 m.frm.base.d, .int .i64 m.frm.len, .int .i64 m.to.base.k, .int .i64 m.to.base.a, .int .i64 m.to.base.b, .int .i64 m.to.base.c, .int .i64 m.to.base.d, .int .i64 m.to.len, .int .i64 m.proto, .int .i64 m.lo, .int .i64 m.hi, .int .i64 m.n] 33))
  have H1 := Lib.hid h1
  have H2 := Lib.hid h2
  have H4 := Lib.hid h4
  clear h1 h2 h4
  go_enter Try.func17, Try.ntmps17
  go_wp2_with fail
  refine Calls.mono (pfxIB m.frm true H1.out _) ?_
  rintro e w1 ⟨rfl, b1⟩
  have B1 := Lib.hid (bthen (Joins.below_alloc1 w _) b1)
  have q1 := Lib.hid (K.below b1 q0.out)
  clear b1 
  have c7 := K.cell q1.out 7 _ rfl
  have c8 := K.cell q1.out 8 _ rfl
  have c9 := K.cell q1.out 9 _ rfl
  have c10 := K.cell q1.out 10 _ rfl
  have c11 := K.cell q1.out 11 _ rfl
  have c12 := K.cell q1.out 12 _ rfl
  go_wp2_with fail
  refine Calls.mono (pfxIB m.to true H2.out _) ?_
  rintro e w2 ⟨rfl, b2⟩
  have B2 := Lib.hid (bthen B1.out b2)
  have q2 := Lib.hid (K.below b2 q1.out)
  clear b2 c7 c8 c9 c10 c11 c12
  have c13 := K.cell q2.out 13 _ rfl
  have c14 := K.cell q2.out 14 _ rfl
  have c15 := K.cell q2.out 15 _ rfl
  go_wp2_with fail
  refine Calls.mono (portsIB m.lo m.hi false H4.out _) ?_
  rintro e w3 ⟨rfl, b3⟩
  have B3 := Lib.hid (bthen B2.out b3)
  clear b3 c13 c14 c15
  go_wp2
  go_ret
  exact ⟨rfl, B3.out⟩

set_option maxHeartbeats 2000000 in
theorem moOkI_1eany (m : Mo) (w : World) (hk : (m.kind == 1) = true) (h1 : m.frm.ok = true) (h2 : m.to.ok = true) (hm : (m.proto == -1) = true) (h4 : portsB m.lo m.hi = true) : Calls Try.prog 17 #[.agg #[.int .i64 m.kind, .int .i64 m.frm.base.k, .int .i64 m.frm.base.a, .int .i64 m.frm.base.b, .int .i64 m.frm.base.c, .int .i64 m.frm.base.d, .int .i64 m.frm.len, .int .i64 m.to.base.k, .int .i64 m.to.base.a, .int .i64 m.to.base.b, .int .i64 m.to.base.c, .int .i64 m.to.base.d, .int .i64 m.to.len, .int .i64 m.proto, .int .i64 m.lo, .int .i64 m.hi, .int .i64 m.n]] w fun e w' => e = .returned (.bool (m.n == 0)) ∧ Below w.heap.size w w' := by
  have q0 := Lib.hid (K.new w (.cells #[.int .i64 m.kind, .int .i64 m.frm.base.k, .int .i64 m.frm.base.a, .int .i64 m.frm.base.b, .int .i64 m.frm.base.c, .int .i64 m.frm.base.d, .int .i64 m.frm.len, .int .i64 m.to.base.k, .int .i64 m.to.base.a, .int .i64 m.to.base.b, .int .i64 m.to.base.c, .int .i64 m.to.base.d, .int .i64 m.to.len, .int .i64 m.proto, .int .i64 m.lo, .int .i64 m.hi, .int .i64 m.n] 33))
  have H1 := Lib.hid h1
  have H2 := Lib.hid h2
  have H4 := Lib.hid h4
  clear h1 h2 h4
  go_enter Try.func17, Try.ntmps17
  go_wp2_with fail
  refine Calls.mono (pfxIB m.frm true H1.out _) ?_
  rintro e w1 ⟨rfl, b1⟩
  have B1 := Lib.hid (bthen (Joins.below_alloc1 w _) b1)
  have q1 := Lib.hid (K.below b1 q0.out)
  clear b1 
  have c7 := K.cell q1.out 7 _ rfl
  have c8 := K.cell q1.out 8 _ rfl
  have c9 := K.cell q1.out 9 _ rfl
  have c10 := K.cell q1.out 10 _ rfl
  have c11 := K.cell q1.out 11 _ rfl
  have c12 := K.cell q1.out 12 _ rfl
  go_wp2_with fail
  refine Calls.mono (pfxIB m.to true H2.out _) ?_
  rintro e w2 ⟨rfl, b2⟩
  have B2 := Lib.hid (bthen B1.out b2)
  have q2 := Lib.hid (K.below b2 q1.out)
  clear b2 c7 c8 c9 c10 c11 c12
  have c13 := K.cell q2.out 13 _ rfl
  have c14 := K.cell q2.out 14 _ rfl
  have c15 := K.cell q2.out 15 _ rfl
  go_wp2_with fail
  refine Calls.mono (portsIB m.lo m.hi true H4.out _) ?_
  rintro e w3 ⟨rfl, b3⟩
  have B3 := Lib.hid (bthen B2.out b3)
  have q3 := Lib.hid (K.below b3 q2.out)
  clear b3 c13 c14 c15
  have c16 := K.cell q3.out 16 _ rfl
  go_wp2
  all_goals (go_ret; exact ⟨ret_bool (by first | rfl | simp [*]), B3.out⟩)

set_option maxHeartbeats 2000000 in
theorem moOkI_1dnum (m : Mo) (w : World) (hk : (m.kind == 1) = true) (h1 : m.frm.ok = true) (h2 : m.to.ok = true) (hm : (m.proto == -1) = false) (h3 : upTo m.proto 255 = true) (h4 : portsB m.lo m.hi = false) : Calls Try.prog 17 #[.agg #[.int .i64 m.kind, .int .i64 m.frm.base.k, .int .i64 m.frm.base.a, .int .i64 m.frm.base.b, .int .i64 m.frm.base.c, .int .i64 m.frm.base.d, .int .i64 m.frm.len, .int .i64 m.to.base.k, .int .i64 m.to.base.a, .int .i64 m.to.base.b, .int .i64 m.to.base.c, .int .i64 m.to.base.d, .int .i64 m.to.len, .int .i64 m.proto, .int .i64 m.lo, .int .i64 m.hi, .int .i64 m.n]] w fun e w' => e = .returned (.bool false) ∧ Below w.heap.size w w' := by
  have q0 := Lib.hid (K.new w (.cells #[.int .i64 m.kind, .int .i64 m.frm.base.k, .int .i64 m.frm.base.a, .int .i64 m.frm.base.b, .int .i64 m.frm.base.c, .int .i64 m.frm.base.d, .int .i64 m.frm.len, .int .i64 m.to.base.k, .int .i64 m.to.base.a, .int .i64 m.to.base.b, .int .i64 m.to.base.c, .int .i64 m.to.base.d, .int .i64 m.to.len, .int .i64 m.proto, .int .i64 m.lo, .int .i64 m.hi, .int .i64 m.n] 33))
  have H1 := Lib.hid h1
  have H2 := Lib.hid h2
  have H3 := Lib.hid h3
  have H4 := Lib.hid h4
  clear h1 h2 h3 h4
  go_enter Try.func17, Try.ntmps17
  go_wp2_with fail
  refine Calls.mono (pfxIB m.frm true H1.out _) ?_
  rintro e w1 ⟨rfl, b1⟩
  have B1 := Lib.hid (bthen (Joins.below_alloc1 w _) b1)
  have q1 := Lib.hid (K.below b1 q0.out)
  clear b1 
  have c7 := K.cell q1.out 7 _ rfl
  have c8 := K.cell q1.out 8 _ rfl
  have c9 := K.cell q1.out 9 _ rfl
  have c10 := K.cell q1.out 10 _ rfl
  have c11 := K.cell q1.out 11 _ rfl
  have c12 := K.cell q1.out 12 _ rfl
  go_wp2_with fail
  refine Calls.mono (pfxIB m.to true H2.out _) ?_
  rintro e w2 ⟨rfl, b2⟩
  have B2 := Lib.hid (bthen B1.out b2)
  have q2 := Lib.hid (K.below b2 q1.out)
  clear b2 c7 c8 c9 c10 c11 c12
  have c13 := K.cell q2.out 13 _ rfl
  go_wp2_with fail
  refine Calls.mono (protoR m.proto true _ H3.out) ?_
  rintro e w3 ⟨rfl, b3⟩
  have B3 := Lib.hid (bthen B2.out b3)
  have q3 := Lib.hid (K.below b3 q2.out)
  clear b3 c13
  have c14 := K.cell q3.out 14 _ rfl
  have c15 := K.cell q3.out 15 _ rfl
  go_wp2_with fail
  refine Calls.mono (portsIB m.lo m.hi false H4.out _) ?_
  rintro e w4 ⟨rfl, b4⟩
  have B4 := Lib.hid (bthen B3.out b4)
  clear b4 c14 c15
  go_wp2
  go_ret
  exact ⟨rfl, B4.out⟩

set_option maxHeartbeats 2000000 in
theorem moOkI_1enum (m : Mo) (w : World) (hk : (m.kind == 1) = true) (h1 : m.frm.ok = true) (h2 : m.to.ok = true) (hm : (m.proto == -1) = false) (h3 : upTo m.proto 255 = true) (h4 : portsB m.lo m.hi = true) : Calls Try.prog 17 #[.agg #[.int .i64 m.kind, .int .i64 m.frm.base.k, .int .i64 m.frm.base.a, .int .i64 m.frm.base.b, .int .i64 m.frm.base.c, .int .i64 m.frm.base.d, .int .i64 m.frm.len, .int .i64 m.to.base.k, .int .i64 m.to.base.a, .int .i64 m.to.base.b, .int .i64 m.to.base.c, .int .i64 m.to.base.d, .int .i64 m.to.len, .int .i64 m.proto, .int .i64 m.lo, .int .i64 m.hi, .int .i64 m.n]] w fun e w' => e = .returned (.bool (m.n == 0)) ∧ Below w.heap.size w w' := by
  have q0 := Lib.hid (K.new w (.cells #[.int .i64 m.kind, .int .i64 m.frm.base.k, .int .i64 m.frm.base.a, .int .i64 m.frm.base.b, .int .i64 m.frm.base.c, .int .i64 m.frm.base.d, .int .i64 m.frm.len, .int .i64 m.to.base.k, .int .i64 m.to.base.a, .int .i64 m.to.base.b, .int .i64 m.to.base.c, .int .i64 m.to.base.d, .int .i64 m.to.len, .int .i64 m.proto, .int .i64 m.lo, .int .i64 m.hi, .int .i64 m.n] 33))
  have H1 := Lib.hid h1
  have H2 := Lib.hid h2
  have H3 := Lib.hid h3
  have H4 := Lib.hid h4
  clear h1 h2 h3 h4
  go_enter Try.func17, Try.ntmps17
  go_wp2_with fail
  refine Calls.mono (pfxIB m.frm true H1.out _) ?_
  rintro e w1 ⟨rfl, b1⟩
  have B1 := Lib.hid (bthen (Joins.below_alloc1 w _) b1)
  have q1 := Lib.hid (K.below b1 q0.out)
  clear b1 
  have c7 := K.cell q1.out 7 _ rfl
  have c8 := K.cell q1.out 8 _ rfl
  have c9 := K.cell q1.out 9 _ rfl
  have c10 := K.cell q1.out 10 _ rfl
  have c11 := K.cell q1.out 11 _ rfl
  have c12 := K.cell q1.out 12 _ rfl
  go_wp2_with fail
  refine Calls.mono (pfxIB m.to true H2.out _) ?_
  rintro e w2 ⟨rfl, b2⟩
  have B2 := Lib.hid (bthen B1.out b2)
  have q2 := Lib.hid (K.below b2 q1.out)
  clear b2 c7 c8 c9 c10 c11 c12
  have c13 := K.cell q2.out 13 _ rfl
  go_wp2_with fail
  refine Calls.mono (protoR m.proto true _ H3.out) ?_
  rintro e w3 ⟨rfl, b3⟩
  have B3 := Lib.hid (bthen B2.out b3)
  have q3 := Lib.hid (K.below b3 q2.out)
  clear b3 c13
  have c14 := K.cell q3.out 14 _ rfl
  have c15 := K.cell q3.out 15 _ rfl
  go_wp2_with fail
  refine Calls.mono (portsIB m.lo m.hi true H4.out _) ?_
  rintro e w4 ⟨rfl, b4⟩
  have B4 := Lib.hid (bthen B3.out b4)
  have q4 := Lib.hid (K.below b4 q3.out)
  clear b4 c14 c15
  have c16 := K.cell q4.out 16 _ rfl
  go_wp2
  all_goals (go_ret; exact ⟨ret_bool (by first | rfl | simp [*]), B4.out⟩)
end Go.Proofs.Ytdndanbalmoklaa
