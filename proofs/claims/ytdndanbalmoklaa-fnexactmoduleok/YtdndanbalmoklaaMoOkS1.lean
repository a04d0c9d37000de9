/-
  ModuleOk in the model: modules that filter.
-/
import Derived.Test.YtdndanbalmoklaaMoOkS0
namespace Go.Proofs.Ytdndanbalmoklaa
set_option maxRecDepth 100000
open Go.RowKit

set_option maxHeartbeats 2000000 in
theorem moS_1n (frm to : Pf) (proto lo hi n : Int) (w : World) (hn : ¬ n = 0) : Calls Try.prog 15 #[.agg #[.int .i64 1, .int .i64 frm.base.k, .int .i64 frm.base.a, .int .i64 frm.base.b, .int .i64 frm.base.c, .int .i64 frm.base.d, .int .i64 frm.len, .int .i64 to.base.k, .int .i64 to.base.a, .int .i64 to.base.b, .int .i64 to.base.c, .int .i64 to.base.d, .int .i64 to.len, .int .i64 proto, .int .i64 lo, .int .i64 hi, .int .i64 n]] w fun e w' => e = .returned (.bool false) ∧ Below w.heap.size w w' := by
  have q0 := Lib.hid (K.new w (.cells #[.int .i64 1, .int .i64 frm.base.k, .int .i64 frm.base.a, .int .i64 frm.base.b, .int .i64 frm.base.c, .int .i64 frm.base.d, .int .i64 frm.len, .int .i64 to.base.k, .int .i64 to.base.a, .int .i64 to.base.b, .int .i64 to.base.c, .int .i64 to.base.d, .int .i64 to.len, .int .i64 proto, .int .i64 lo, .int .i64 hi, .int .i64 n] 33))
  go_enter Try.func15, Try.ntmps15
  go_wp2
  go_ret
  exact ⟨rfl, (Joins.below_alloc1 w _)⟩

set_option maxHeartbeats 2000000 in
theorem moS_1a (frm to : Pf) (proto lo hi : Int) (w : World) (h1 : frm.ok = false) : Calls Try.prog 15 #[.agg #[.int .i64 1, .int .i64 frm.base.k, .int .i64 frm.base.a, .int .i64 frm.base.b, .int .i64 frm.base.c, .int .i64 frm.base.d, .int .i64 frm.len, .int .i64 to.base.k, .int .i64 to.base.a, .int .i64 to.base.b, .int .i64 to.base.c, .int .i64 to.base.d, .int .i64 to.len, .int .i64 proto, .int .i64 lo, .int .i64 hi, .int .i64 0]] w fun e w' => e = .returned (.bool false) ∧ Below w.heap.size w w' := by
  have q0 := Lib.hid (K.new w (.cells #[.int .i64 1, .int .i64 frm.base.k, .int .i64 frm.base.a, .int .i64 frm.base.b, .int .i64 frm.base.c, .int .i64 frm.base.d, .int .i64 frm.len, .int .i64 to.base.k, .int .i64 to.base.a, .int .i64 to.base.b, .int .i64 to.base.c, .int .i64 to.base.d, .int .i64 to.len, .int .i64 proto, .int .i64 lo, .int .i64 hi, .int .i64 0] 33))
  have H1 := Lib.hid h1
  clear h1
  go_enter Try.func15, Try.ntmps15
  go_wp2_with fail
  refine Calls.mono (pfxSB frm false H1.out _) ?_
  rintro e w1 ⟨rfl, b1⟩
  have B1 := Lib.hid (bthen (Joins.below_alloc1 w _) b1)
  clear b1 
  go_wp2
  go_ret
  exact ⟨rfl, B1.out⟩

set_option maxHeartbeats 2000000 in
theorem moS_1b (frm to : Pf) (proto lo hi : Int) (w : World) (h1 : frm.ok = true) (h2 : to.ok = false) : Calls Try.prog 15 #[.agg #[.int .i64 1, .int .i64 frm.base.k, .int .i64 frm.base.a, .int .i64 frm.base.b, .int .i64 frm.base.c, .int .i64 frm.base.d, .int .i64 frm.len, .int .i64 to.base.k, .int .i64 to.base.a, .int .i64 to.base.b, .int .i64 to.base.c, .int .i64 to.base.d, .int .i64 to.len, .int .i64 proto, .int .i64 lo, .int .i64 hi, .int .i64 0]] w fun e w' => e = .returned (.bool false) ∧ Below w.heap.size w w' := by
  have q0 := Lib.hid (K.new w (.cells #[.int .i64 1, .int .i64 frm.base.k, .int .i64 frm.base.a, .int .i64 frm.base.b, .int .i64 frm.base.c, .int .i64 frm.base.d, .int .i64 frm.len, .int .i64 to.base.k, .int .i64 to.base.a, .int .i64 to.base.b, .int .i64 to.base.c, .int .i64 to.base.d, .int .i64 to.len, .int .i64 proto, .int .i64 lo, .int .i64 hi, .int .i64 0] 33))
  have H1 := Lib.hid h1
  have H2 := Lib.hid h2
  clear h1 h2
  go_enter Try.func15, Try.ntmps15
  go_wp2_with fail
  refine Calls.mono (pfxSB frm true H1.out _) ?_
  rintro e w1 ⟨rfl, b1⟩
  have B1 := Lib.hid (bthen (Joins.below_alloc1 w _) b1)
  have q1 := Lib.hid (K.below b1 q0.out)
  clear b1 
  have c7 := K.cell q1.out 7 _ rfl
  have c8 := K.cell q1.out 8 _ rfl
  have c9 := K.cell q1.out 9 _ rfl
  have c10 := K.cell q1.out 10 _ rfl
  have c11 := K.cell q1.out 11 _ rfl
  have c12 := K.cell q1.out 12 _ rfl
  go_wp2_with fail
  refine Calls.mono (pfxSB to false H2.out _) ?_
  rintro e w2 ⟨rfl, b2⟩
  have B2 := Lib.hid (bthen B1.out b2)
  clear b2 c7 c8 c9 c10 c11 c12
  go_wp2
  go_ret
  exact ⟨rfl, B2.out⟩

set_option maxHeartbeats 2000000 in
theorem moS_1c (frm to : Pf) (proto lo hi : Int) (w : World) (h1 : frm.ok = true) (h2 : to.ok = true) (hp : proto < -1) : Calls Try.prog 15 #[.agg #[.int .i64 1, .int .i64 frm.base.k, .int .i64 frm.base.a, .int .i64 frm.base.b, .int .i64 frm.base.c, .int .i64 frm.base.d, .int .i64 frm.len, .int .i64 to.base.k, .int .i64 to.base.a, .int .i64 to.base.b, .int .i64 to.base.c, .int .i64 to.base.d, .int .i64 to.len, .int .i64 proto, .int .i64 lo, .int .i64 hi, .int .i64 0]] w fun e w' => e = .returned (.bool false) ∧ Below w.heap.size w w' := by
  have q0 := Lib.hid (K.new w (.cells #[.int .i64 1, .int .i64 frm.base.k, .int .i64 frm.base.a, .int .i64 frm.base.b, .int .i64 frm.base.c, .int .i64 frm.base.d, .int .i64 frm.len, .int .i64 to.base.k, .int .i64 to.base.a, .int .i64 to.base.b, .int .i64 to.base.c, .int .i64 to.base.d, .int .i64 to.len, .int .i64 proto, .int .i64 lo, .int .i64 hi, .int .i64 0] 33))
  have H1 := Lib.hid h1
  have H2 := Lib.hid h2
  clear h1 h2
  go_enter Try.func15, Try.ntmps15
  go_wp2_with fail
  refine Calls.mono (pfxSB frm true H1.out _) ?_
  rintro e w1 ⟨rfl, b1⟩
  have B1 := Lib.hid (bthen (Joins.below_alloc1 w _) b1)
  have q1 := Lib.hid (K.below b1 q0.out)
  clear b1 
  have c7 := K.cell q1.out 7 _ rfl
  have c8 := K.cell q1.out 8 _ rfl
  have c9 := K.cell q1.out 9 _ rfl
  have c10 := K.cell q1.out 10 _ rfl
  have c11 := K.cell q1.out 11 _ rfl
  have c12 := K.cell q1.out 12 _ rfl
  go_wp2_with fail
  refine Calls.mono (pfxSB to true H2.out _) ?_
  rintro e w2 ⟨rfl, b2⟩
  have B2 := Lib.hid (bthen B1.out b2)
  have q2 := Lib.hid (K.below b2 q1.out)
  clear b2 c7 c8 c9 c10 c11 c12
  have c13 := K.cell q2.out 13 _ rfl
  go_wp2
  go_ret
  exact ⟨rfl, B2.out⟩

set_option maxHeartbeats 2000000 in
theorem moS_1d (frm to : Pf) (proto lo hi : Int) (w : World) (h1 : frm.ok = true) (h2 : to.ok = true) (hp : -1 ≤ proto) (hq : 255 < proto) : Calls Try.prog 15 #[.agg #[.int .i64 1, .int .i64 frm.base.k, .int .i64 frm.base.a, .int .i64 frm.base.b, .int .i64 frm.base.c, .int .i64 frm.base.d, .int .i64 frm.len, .int .i64 to.base.k, .int .i64 to.base.a, .int .i64 to.base.b, .int .i64 to.base.c, .int .i64 to.base.d, .int .i64 to.len, .int .i64 proto, .int .i64 lo, .int .i64 hi, .int .i64 0]] w fun e w' => e = .returned (.bool false) ∧ Below w.heap.size w w' := by
  have q0 := Lib.hid (K.new w (.cells #[.int .i64 1, .int .i64 frm.base.k, .int .i64 frm.base.a, .int .i64 frm.base.b, .int .i64 frm.base.c, .int .i64 frm.base.d, .int .i64 frm.len, .int .i64 to.base.k, .int .i64 to.base.a, .int .i64 to.base.b, .int .i64 to.base.c, .int .i64 to.base.d, .int .i64 to.len, .int .i64 proto, .int .i64 lo, .int .i64 hi, .int .i64 0] 33))
  have H1 := Lib.hid h1
  have H2 := Lib.hid h2
  clear h1 h2
  go_enter Try.func15, Try.ntmps15
  go_wp2_with fail
  refine Calls.mono (pfxSB frm true H1.out _) ?_
  rintro e w1 ⟨rfl, b1⟩
  have B1 := Lib.hid (bthen (Joins.below_alloc1 w _) b1)
  have q1 := Lib.hid (K.below b1 q0.out)
  clear b1 
  have c7 := K.cell q1.out 7 _ rfl
  have c8 := K.cell q1.out 8 _ rfl
  have c9 := K.cell q1.out 9 _ rfl
  have c10 := K.cell q1.out 10 _ rfl
  have c11 := K.cell q1.out 11 _ rfl
  have c12 := K.cell q1.out 12 _ rfl
  go_wp2_with fail
  refine Calls.mono (pfxSB to true H2.out _) ?_
  rintro e w2 ⟨rfl, b2⟩
  have B2 := Lib.hid (bthen B1.out b2)
  have q2 := Lib.hid (K.below b2 q1.out)
  clear b2 c7 c8 c9 c10 c11 c12
  have c13 := K.cell q2.out 13 _ rfl
  go_wp2
  go_ret
  exact ⟨rfl, B2.out⟩

set_option maxHeartbeats 2000000 in
theorem moS_1e (frm to : Pf) (proto lo hi : Int) (b : Bool) (w : World) (h1 : frm.ok = true) (h2 : to.ok = true) (hp : -1 ≤ proto) (hq : proto ≤ 255) (h3 : portsB lo hi = b) : Calls Try.prog 15 #[.agg #[.int .i64 1, .int .i64 frm.base.k, .int .i64 frm.base.a, .int .i64 frm.base.b, .int .i64 frm.base.c, .int .i64 frm.base.d, .int .i64 frm.len, .int .i64 to.base.k, .int .i64 to.base.a, .int .i64 to.base.b, .int .i64 to.base.c, .int .i64 to.base.d, .int .i64 to.len, .int .i64 proto, .int .i64 lo, .int .i64 hi, .int .i64 0]] w fun e w' => e = .returned (.bool b) ∧ Below w.heap.size w w' := by
  have q0 := Lib.hid (K.new w (.cells #[.int .i64 1, .int .i64 frm.base.k, .int .i64 frm.base.a, .int .i64 frm.base.b, .int .i64 frm.base.c, .int .i64 frm.base.d, .int .i64 frm.len, .int .i64 to.base.k, .int .i64 to.base.a, .int .i64 to.base.b, .int .i64 to.base.c, .int .i64 to.base.d, .int .i64 to.len, .int .i64 proto, .int .i64 lo, .int .i64 hi, .int .i64 0] 33))
  have H1 := Lib.hid h1
  have H2 := Lib.hid h2
  have H3 := Lib.hid h3
  clear h1 h2 h3
  go_enter Try.func15, Try.ntmps15
  go_wp2_with fail
  refine Calls.mono (pfxSB frm true H1.out _) ?_
  rintro e w1 ⟨rfl, b1⟩
  have B1 := Lib.hid (bthen (Joins.below_alloc1 w _) b1)
  have q1 := Lib.hid (K.below b1 q0.out)
  clear b1 
  have c7 := K.cell q1.out 7 _ rfl
  have c8 := K.cell q1.out 8 _ rfl
  have c9 := K.cell q1.out 9 _ rfl
  have c10 := K.cell q1.out 10 _ rfl
  have c11 := K.cell q1.out 11 _ rfl
  have c12 := K.cell q1.out 12 _ rfl
  go_wp2_with fail
  refine Calls.mono (pfxSB to true H2.out _) ?_
  rintro e w2 ⟨rfl, b2⟩
  have B2 := Lib.hid (bthen B1.out b2)
  have q2 := Lib.hid (K.below b2 q1.out)
  clear b2 c7 c8 c9 c10 c11 c12
  have c13 := K.cell q2.out 13 _ rfl
  have c14 := K.cell q2.out 14 _ rfl
  have c15 := K.cell q2.out 15 _ rfl
  go_wp2_with fail
  refine Calls.mono (rangeSB lo hi b H3.out _) ?_
  rintro e w3 ⟨rfl, b3⟩
  have B3 := Lib.hid (bthen B2.out b3)
  clear b3 c13 c14 c15
  go_wp2
  go_ret
  exact ⟨rfl, B3.out⟩
end Go.Proofs.Ytdndanbalmoklaa
