/-
  ModuleOk in the model: modules that translate addresses, that count hops.
-/
import Derived.Test.YtdndanbalmoklaaMoOkS0
namespace Go.Proofs.Ytdndanbalmoklaa
set_option maxRecDepth 100000
open Go.RowKit

set_option maxHeartbeats 2000000 in
theorem moS_2p (frm to : Pf) (proto lo hi n : Int) (w : World) (hp : ¬ proto = 0) : Calls Try.prog 15 #[.agg #[.int .i64 2, .int .i64 frm.base.k, .int .i64 frm.base.a, .int .i64 frm.base.b, .int .i64 frm.base.c, .int .i64 frm.base.d, .int .i64 frm.len, .int .i64 to.base.k, .int .i64 to.base.a, .int .i64 to.base.b, .int .i64 to.base.c, .int .i64 to.base.d, .int .i64 to.len, .int .i64 proto, .int .i64 lo, .int .i64 hi, .int .i64 n]] w fun e w' => e = .returned (.bool false) ∧ Below w.heap.size w w' := by
  have q0 := Lib.hid (K.new w (.cells #[.int .i64 2, .int .i64 frm.base.k, .int .i64 frm.base.a, .int .i64 frm.base.b, .int .i64 frm.base.c, .int .i64 frm.base.d, .int .i64 frm.len, .int .i64 to.base.k, .int .i64 to.base.a, .int .i64 to.base.b, .int .i64 to.base.c, .int .i64 to.base.d, .int .i64 to.len, .int .i64 proto, .int .i64 lo, .int .i64 hi, .int .i64 n] 33))
  go_enter Try.func15, Try.ntmps15
  go_wp2
  go_ret
  exact ⟨rfl, (Joins.below_alloc1 w _)⟩

set_option maxHeartbeats 2000000 in
theorem moS_2l (frm to : Pf) (lo hi n : Int) (w : World) (hp : ¬ lo = 0) : Calls Try.prog 15 #[.agg #[.int .i64 2, .int .i64 frm.base.k, .int .i64 frm.base.a, .int .i64 frm.base.b, .int .i64 frm.base.c, .int .i64 frm.base.d, .int .i64 frm.len, .int .i64 to.base.k, .int .i64 to.base.a, .int .i64 to.base.b, .int .i64 to.base.c, .int .i64 to.base.d, .int .i64 to.len, .int .i64 0, .int .i64 lo, .int .i64 hi, .int .i64 n]] w fun e w' => e = .returned (.bool false) ∧ Below w.heap.size w w' := by
  have q0 := Lib.hid (K.new w (.cells #[.int .i64 2, .int .i64 frm.base.k, .int .i64 frm.base.a, .int .i64 frm.base.b, .int .i64 frm.base.c, .int .i64 frm.base.d, .int .i64 frm.len, .int .i64 to.base.k, .int .i64 to.base.a, .int .i64 to.base.b, .int .i64 to.base.c, .int .i64 to.base.d, .int .i64 to.len, .int .i64 0, .int .i64 lo, .int .i64 hi, .int .i64 n] 33))
  go_enter Try.func15, Try.ntmps15
  go_wp2
  go_ret
  exact ⟨rfl, (Joins.below_alloc1 w _)⟩

set_option maxHeartbeats 2000000 in
theorem moS_2h (frm to : Pf) (hi n : Int) (w : World) (hp : ¬ hi = 0) : Calls Try.prog 15 #[.agg #[.int .i64 2, .int .i64 frm.base.k, .int .i64 frm.base.a, .int .i64 frm.base.b, .int .i64 frm.base.c, .int .i64 frm.base.d, .int .i64 frm.len, .int .i64 to.base.k, .int .i64 to.base.a, .int .i64 to.base.b, .int .i64 to.base.c, .int .i64 to.base.d, .int .i64 to.len, .int .i64 0, .int .i64 0, .int .i64 hi, .int .i64 n]] w fun e w' => e = .returned (.bool false) ∧ Below w.heap.size w w' := by
  have q0 := Lib.hid (K.new w (.cells #[.int .i64 2, .int .i64 frm.base.k, .int .i64 frm.base.a, .int .i64 frm.base.b, .int .i64 frm.base.c, .int .i64 frm.base.d, .int .i64 frm.len, .int .i64 to.base.k, .int .i64 to.base.a, .int .i64 to.base.b, .int .i64 to.base.c, .int .i64 to.base.d, .int .i64 to.len, .int .i64 0, .int .i64 0, .int .i64 hi, .int .i64 n] 33))
  go_enter Try.func15, Try.ntmps15
  go_wp2
  go_ret
  exact ⟨rfl, (Joins.below_alloc1 w _)⟩

set_option maxHeartbeats 2000000 in
theorem moS_2n (frm to : Pf) (n : Int) (w : World) (hp : ¬ n = 0) : Calls Try.prog 15 #[.agg #[.int .i64 2, .int .i64 frm.base.k, .int .i64 frm.base.a, .int .i64 frm.base.b, .int .i64 frm.base.c, .int .i64 frm.base.d, .int .i64 frm.len, .int .i64 to.base.k, .int .i64 to.base.a, .int .i64 to.base.b, .int .i64 to.base.c, .int .i64 to.base.d, .int .i64 to.len, .int .i64 0, .int .i64 0, .int .i64 0, .int .i64 n]] w fun e w' => e = .returned (.bool false) ∧ Below w.heap.size w w' := by
  have q0 := Lib.hid (K.new w (.cells #[.int .i64 2, .int .i64 frm.base.k, .int .i64 frm.base.a, .int .i64 frm.base.b, .int .i64 frm.base.c, .int .i64 frm.base.d, .int .i64 frm.len, .int .i64 to.base.k, .int .i64 to.base.a, .int .i64 to.base.b, .int .i64 to.base.c, .int .i64 to.base.d, .int .i64 to.len, .int .i64 0, .int .i64 0, .int .i64 0, .int .i64 n] 33))
  go_enter Try.func15, Try.ntmps15
  go_wp2
  go_ret
  exact ⟨rfl, (Joins.below_alloc1 w _)⟩

set_option maxHeartbeats 2000000 in
theorem moS_2t (frm to : Pf) (b : Bool) (w : World) (h1 : twins frm to = b) : Calls Try.prog 15 #[.agg #[.int .i64 2, .int .i64 frm.base.k, .int .i64 frm.base.a, .int .i64 frm.base.b, .int .i64 frm.base.c, .int .i64 frm.base.d, .int .i64 frm.len, .int .i64 to.base.k, .int .i64 to.base.a, .int .i64 to.base.b, .int .i64 to.base.c, .int .i64 to.base.d, .int .i64 to.len, .int .i64 0, .int .i64 0, .int .i64 0, .int .i64 0]] w fun e w' => e = .returned (.bool b) ∧ Below w.heap.size w w' := by
  have q0 := Lib.hid (K.new w (.cells #[.int .i64 2, .int .i64 frm.base.k, .int .i64 frm.base.a, .int .i64 frm.base.b, .int .i64 frm.base.c, .int .i64 frm.base.d, .int .i64 frm.len, .int .i64 to.base.k, .int .i64 to.base.a, .int .i64 to.base.b, .int .i64 to.base.c, .int .i64 to.base.d, .int .i64 to.len, .int .i64 0, .int .i64 0, .int .i64 0, .int .i64 0] 33))
  have H1 := Lib.hid h1
  clear h1
  go_enter Try.func15, Try.ntmps15
  go_wp2_with fail
  refine Calls.mono (twinsSB frm to b H1.out _) ?_
  rintro e w1 ⟨rfl, b1⟩
  have B1 := Lib.hid (bthen (Joins.below_alloc1 w _) b1)
  clear b1 
  go_wp2
  go_ret
  exact ⟨rfl, B1.out⟩

set_option maxHeartbeats 2000000 in
theorem moS_3p (frm to : Pf) (proto lo hi n : Int) (w : World) (hp : ¬ proto = 0) : Calls Try.prog 15 #[.agg #[.int .i64 3, .int .i64 frm.base.k, .int .i64 frm.base.a, .int .i64 frm.base.b, .int .i64 frm.base.c, .int .i64 frm.base.d, .int .i64 frm.len, .int .i64 to.base.k, .int .i64 to.base.a, .int .i64 to.base.b, .int .i64 to.base.c, .int .i64 to.base.d, .int .i64 to.len, .int .i64 proto, .int .i64 lo, .int .i64 hi, .int .i64 n]] w fun e w' => e = .returned (.bool false) ∧ Below w.heap.size w w' := by
  have q0 := Lib.hid (K.new w (.cells #[.int .i64 3, .int .i64 frm.base.k, .int .i64 frm.base.a, .int .i64 frm.base.b, .int .i64 frm.base.c, .int .i64 frm.base.d, .int .i64 frm.len, .int .i64 to.base.k, .int .i64 to.base.a, .int .i64 to.base.b, .int .i64 to.base.c, .int .i64 to.base.d, .int .i64 to.len, .int .i64 proto, .int .i64 lo, .int .i64 hi, .int .i64 n] 33))
  go_enter Try.func15, Try.ntmps15
  go_wp2
  go_ret
  exact ⟨rfl, (Joins.below_alloc1 w _)⟩

set_option maxHeartbeats 2000000 in
theorem moS_3l (frm to : Pf) (lo hi n : Int) (w : World) (hp : ¬ lo = 0) : Calls Try.prog 15 #[.agg #[.int .i64 3, .int .i64 frm.base.k, .int .i64 frm.base.a, .int .i64 frm.base.b, .int .i64 frm.base.c, .int .i64 frm.base.d, .int .i64 frm.len, .int .i64 to.base.k, .int .i64 to.base.a, .int .i64 to.base.b, .int .i64 to.base.c, .int .i64 to.base.d, .int .i64 to.len, .int .i64 0, .int .i64 lo, .int .i64 hi, .int .i64 n]] w fun e w' => e = .returned (.bool false) ∧ Below w.heap.size w w' := by
  have q0 := Lib.hid (K.new w (.cells #[.int .i64 3, .int .i64 frm.base.k, .int .i64 frm.base.a, .int .i64 frm.base.b, .int .i64 frm.base.c, .int .i64 frm.base.d, .int .i64 frm.len, .int .i64 to.base.k, .int .i64 to.base.a, .int .i64 to.base.b, .int .i64 to.base.c, .int .i64 to.base.d, .int .i64 to.len, .int .i64 0, .int .i64 lo, .int .i64 hi, .int .i64 n] 33))
  go_enter Try.func15, Try.ntmps15
  go_wp2
  go_ret
  exact ⟨rfl, (Joins.below_alloc1 w _)⟩

set_option maxHeartbeats 2000000 in
theorem moS_3h (frm to : Pf) (hi n : Int) (w : World) (hp : ¬ hi = 0) : Calls Try.prog 15 #[.agg #[.int .i64 3, .int .i64 frm.base.k, .int .i64 frm.base.a, .int .i64 frm.base.b, .int .i64 frm.base.c, .int .i64 frm.base.d, .int .i64 frm.len, .int .i64 to.base.k, .int .i64 to.base.a, .int .i64 to.base.b, .int .i64 to.base.c, .int .i64 to.base.d, .int .i64 to.len, .int .i64 0, .int .i64 0, .int .i64 hi, .int .i64 n]] w fun e w' => e = .returned (.bool false) ∧ Below w.heap.size w w' := by
  have q0 := Lib.hid (K.new w (.cells #[.int .i64 3, .int .i64 frm.base.k, .int .i64 frm.base.a, .int .i64 frm.base.b, .int .i64 frm.base.c, .int .i64 frm.base.d, .int .i64 frm.len, .int .i64 to.base.k, .int .i64 to.base.a, .int .i64 to.base.b, .int .i64 to.base.c, .int .i64 to.base.d, .int .i64 to.len, .int .i64 0, .int .i64 0, .int .i64 hi, .int .i64 n] 33))
  go_enter Try.func15, Try.ntmps15
  go_wp2
  go_ret
  exact ⟨rfl, (Joins.below_alloc1 w _)⟩

set_option maxHeartbeats 2000000 in
theorem moS_3n (frm to : Pf) (n : Int) (w : World) (hp : ¬ n = 0) : Calls Try.prog 15 #[.agg #[.int .i64 3, .int .i64 frm.base.k, .int .i64 frm.base.a, .int .i64 frm.base.b, .int .i64 frm.base.c, .int .i64 frm.base.d, .int .i64 frm.len, .int .i64 to.base.k, .int .i64 to.base.a, .int .i64 to.base.b, .int .i64 to.base.c, .int .i64 to.base.d, .int .i64 to.len, .int .i64 0, .int .i64 0, .int .i64 0, .int .i64 n]] w fun e w' => e = .returned (.bool false) ∧ Below w.heap.size w w' := by
  have q0 := Lib.hid (K.new w (.cells #[.int .i64 3, .int .i64 frm.base.k, .int .i64 frm.base.a, .int .i64 frm.base.b, .int .i64 frm.base.c, .int .i64 frm.base.d, .int .i64 frm.len, .int .i64 to.base.k, .int .i64 to.base.a, .int .i64 to.base.b, .int .i64 to.base.c, .int .i64 to.base.d, .int .i64 to.len, .int .i64 0, .int .i64 0, .int .i64 0, .int .i64 n] 33))
  go_enter Try.func15, Try.ntmps15
  go_wp2
  go_ret
  exact ⟨rfl, (Joins.below_alloc1 w _)⟩

set_option maxHeartbeats 2000000 in
theorem moS_3t (frm to : Pf) (b : Bool) (w : World) (h1 : twins frm to = b) : Calls Try.prog 15 #[.agg #[.int .i64 3, .int .i64 frm.base.k, .int .i64 frm.base.a, .int .i64 frm.base.b, .int .i64 frm.base.c, .int .i64 frm.base.d, .int .i64 frm.len, .int .i64 to.base.k, .int .i64 to.base.a, .int .i64 to.base.b, .int .i64 to.base.c, .int .i64 to.base.d, .int .i64 to.len, .int .i64 0, .int .i64 0, .int .i64 0, .int .i64 0]] w fun e w' => e = .returned (.bool b) ∧ Below w.heap.size w w' := by
  have q0 := Lib.hid (K.new w (.cells #[.int .i64 3, .int .i64 frm.base.k, .int .i64 frm.base.a, .int .i64 frm.base.b, .int .i64 frm.base.c, .int .i64 frm.base.d, .int .i64 frm.len, .int .i64 to.base.k, .int .i64 to.base.a, .int .i64 to.base.b, .int .i64 to.base.c, .int .i64 to.base.d, .int .i64 to.len, .int .i64 0, .int .i64 0, .int .i64 0, .int .i64 0] 33))
  have H1 := Lib.hid h1
  clear h1
  go_enter Try.func15, Try.ntmps15
  go_wp2_with fail
  refine Calls.mono (twinsSB frm to b H1.out _) ?_
  rintro e w1 ⟨rfl, b1⟩
  have B1 := Lib.hid (bthen (Joins.below_alloc1 w _) b1)
  clear b1 
  go_wp2
  go_ret
  exact ⟨rfl, B1.out⟩

set_option maxHeartbeats 2000000 in
theorem moS_4p (frm to : Pf) (proto lo hi n : Int) (w : World) (hp : ¬ proto = 0) : Calls Try.prog 15 #[.agg #[.int .i64 4, .int .i64 frm.base.k, .int .i64 frm.base.a, .int .i64 frm.base.b, .int .i64 frm.base.c, .int .i64 frm.base.d, .int .i64 frm.len, .int .i64 to.base.k, .int .i64 to.base.a, .int .i64 to.base.b, .int .i64 to.base.c, .int .i64 to.base.d, .int .i64 to.len, .int .i64 proto, .int .i64 lo, .int .i64 hi, .int .i64 n]] w fun e w' => e = .returned (.bool false) ∧ Below w.heap.size w w' := by
  have q0 := Lib.hid (K.new w (.cells #[.int .i64 4, .int .i64 frm.base.k, .int .i64 frm.base.a, .int .i64 frm.base.b, .int .i64 frm.base.c, .int .i64 frm.base.d, .int .i64 frm.len, .int .i64 to.base.k, .int .i64 to.base.a, .int .i64 to.base.b, .int .i64 to.base.c, .int .i64 to.base.d, .int .i64 to.len, .int .i64 proto, .int .i64 lo, .int .i64 hi, .int .i64 n] 33))
  go_enter Try.func15, Try.ntmps15
  go_wp2
  go_ret
  exact ⟨rfl, (Joins.below_alloc1 w _)⟩

set_option maxHeartbeats 2000000 in
theorem moS_4l (frm to : Pf) (lo hi n : Int) (w : World) (hp : ¬ lo = 0) : Calls Try.prog 15 #[.agg #[.int .i64 4, .int .i64 frm.base.k, .int .i64 frm.base.a, .int .i64 frm.base.b, .int .i64 frm.base.c, .int .i64 frm.base.d, .int .i64 frm.len, .int .i64 to.base.k, .int .i64 to.base.a, .int .i64 to.base.b, .int .i64 to.base.c, .int .i64 to.base.d, .int .i64 to.len, .int .i64 0, .int .i64 lo, .int .i64 hi, .int .i64 n]] w fun e w' => e = .returned (.bool false) ∧ Below w.heap.size w w' := by
  have q0 := Lib.hid (K.new w (.cells #[.int .i64 4, .int .i64 frm.base.k, .int .i64 frm.base.a, .int .i64 frm.base.b, .int .i64 frm.base.c, .int .i64 frm.base.d, .int .i64 frm.len, .int .i64 to.base.k, .int .i64 to.base.a, .int .i64 to.base.b, .int .i64 to.base.c, .int .i64 to.base.d, .int .i64 to.len, .int .i64 0, .int .i64 lo, .int .i64 hi, .int .i64 n] 33))
  go_enter Try.func15, Try.ntmps15
  go_wp2
  go_ret
  exact ⟨rfl, (Joins.below_alloc1 w _)⟩

set_option maxHeartbeats 2000000 in
theorem moS_4h (frm to : Pf) (hi n : Int) (w : World) (hp : ¬ hi = 0) : Calls Try.prog 15 #[.agg #[.int .i64 4, .int .i64 frm.base.k, .int .i64 frm.base.a, .int .i64 frm.base.b, .int .i64 frm.base.c, .int .i64 frm.base.d, .int .i64 frm.len, .int .i64 to.base.k, .int .i64 to.base.a, .int .i64 to.base.b, .int .i64 to.base.c, .int .i64 to.base.d, .int .i64 to.len, .int .i64 0, .int .i64 0, .int .i64 hi, .int .i64 n]] w fun e w' => e = .returned (.bool false) ∧ Below w.heap.size w w' := by
  have q0 := Lib.hid (K.new w (.cells #[.int .i64 4, .int .i64 frm.base.k, .int .i64 frm.base.a, .int .i64 frm.base.b, .int .i64 frm.base.c, .int .i64 frm.base.d, .int .i64 frm.len, .int .i64 to.base.k, .int .i64 to.base.a, .int .i64 to.base.b, .int .i64 to.base.c, .int .i64 to.base.d, .int .i64 to.len, .int .i64 0, .int .i64 0, .int .i64 hi, .int .i64 n] 33))
  go_enter Try.func15, Try.ntmps15
  go_wp2
  go_ret
  exact ⟨rfl, (Joins.below_alloc1 w _)⟩

set_option maxHeartbeats 2000000 in
theorem moS_4n (frm to : Pf) (n : Int) (w : World) (hp : ¬ n = 0) : Calls Try.prog 15 #[.agg #[.int .i64 4, .int .i64 frm.base.k, .int .i64 frm.base.a, .int .i64 frm.base.b, .int .i64 frm.base.c, .int .i64 frm.base.d, .int .i64 frm.len, .int .i64 to.base.k, .int .i64 to.base.a, .int .i64 to.base.b, .int .i64 to.base.c, .int .i64 to.base.d, .int .i64 to.len, .int .i64 0, .int .i64 0, .int .i64 0, .int .i64 n]] w fun e w' => e = .returned (.bool false) ∧ Below w.heap.size w w' := by
  have q0 := Lib.hid (K.new w (.cells #[.int .i64 4, .int .i64 frm.base.k, .int .i64 frm.base.a, .int .i64 frm.base.b, .int .i64 frm.base.c, .int .i64 frm.base.d, .int .i64 frm.len, .int .i64 to.base.k, .int .i64 to.base.a, .int .i64 to.base.b, .int .i64 to.base.c, .int .i64 to.base.d, .int .i64 to.len, .int .i64 0, .int .i64 0, .int .i64 0, .int .i64 n] 33))
  go_enter Try.func15, Try.ntmps15
  go_wp2
  go_ret
  exact ⟨rfl, (Joins.below_alloc1 w _)⟩

set_option maxHeartbeats 2000000 in
theorem moS_4a (frm to : Pf) (w : World) (h1 : decide (frm = Pf.zero) = false) : Calls Try.prog 15 #[.agg #[.int .i64 4, .int .i64 frm.base.k, .int .i64 frm.base.a, .int .i64 frm.base.b, .int .i64 frm.base.c, .int .i64 frm.base.d, .int .i64 frm.len, .int .i64 to.base.k, .int .i64 to.base.a, .int .i64 to.base.b, .int .i64 to.base.c, .int .i64 to.base.d, .int .i64 to.len, .int .i64 0, .int .i64 0, .int .i64 0, .int .i64 0]] w fun e w' => e = .returned (.bool false) ∧ Below w.heap.size w w' := by
  have q0 := Lib.hid (K.new w (.cells #[.int .i64 4, .int .i64 frm.base.k, .int .i64 frm.base.a, .int .i64 frm.base.b, .int .i64 frm.base.c, .int .i64 frm.base.d, .int .i64 frm.len, .int .i64 to.base.k, .int .i64 to.base.a, .int .i64 to.base.b, .int .i64 to.base.c, .int .i64 to.base.d, .int .i64 to.len, .int .i64 0, .int .i64 0, .int .i64 0, .int .i64 0] 33))
  have H1 := Lib.hid h1
  clear h1
  go_enter Try.func15, Try.ntmps15
  go_wp2_with fail
  refine Calls.mono (anySB frm false H1.out _) ?_
  rintro e w1 ⟨rfl, b1⟩
  have B1 := Lib.hid (bthen (Joins.below_alloc1 w _) b1)
  have q1 := Lib.hid (K.below b1 q0.out)
  clear b1 
  have c0 := K.cell q1.out 0 _ rfl
  go_wp2
  go_ret
  exact ⟨rfl, B1.out⟩

set_option maxHeartbeats 2000000 in
theorem moS_4b (frm to : Pf) (w : World) (h1 : decide (frm = Pf.zero) = true) (h2 : decide (to = Pf.zero) = false) : Calls Try.prog 15 #[.agg #[.int .i64 4, .int .i64 frm.base.k, .int .i64 frm.base.a, .int .i64 frm.base.b, .int .i64 frm.base.c, .int .i64 frm.base.d, .int .i64 frm.len, .int .i64 to.base.k, .int .i64 to.base.a, .int .i64 to.base.b, .int .i64 to.base.c, .int .i64 to.base.d, .int .i64 to.len, .int .i64 0, .int .i64 0, .int .i64 0, .int .i64 0]] w fun e w' => e = .returned (.bool false) ∧ Below w.heap.size w w' := by
  have q0 := Lib.hid (K.new w (.cells #[.int .i64 4, .int .i64 frm.base.k, .int .i64 frm.base.a, .int .i64 frm.base.b, .int .i64 frm.base.c, .int .i64 frm.base.d, .int .i64 frm.len, .int .i64 to.base.k, .int .i64 to.base.a, .int .i64 to.base.b, .int .i64 to.base.c, .int .i64 to.base.d, .int .i64 to.len, .int .i64 0, .int .i64 0, .int .i64 0, .int .i64 0] 33))
  have H1 := Lib.hid h1
  have H2 := Lib.hid h2
  clear h1 h2
  go_enter Try.func15, Try.ntmps15
  go_wp2_with fail
  refine Calls.mono (anySB frm true H1.out _) ?_
  rintro e w1 ⟨rfl, b1⟩
  have B1 := Lib.hid (bthen (Joins.below_alloc1 w _) b1)
  have q1 := Lib.hid (K.below b1 q0.out)
  clear b1 
  have c7 := K.cell q1.out 7 _ rfl
  have c8 := K.cell q1.out 8 _ rfl
  have c9 := K.cell q1.out 9 _ rfl
  have c10 := K.cell q1.out 10 _ rfl
  have c11 := K.cell q1.out 11 _ rfl
  have c12 := K.cell q1.out 12 _ rfl
  go_wp2_with fail
  refine Calls.mono (anySB to false H2.out _) ?_
  rintro e w2 ⟨rfl, b2⟩
  have B2 := Lib.hid (bthen B1.out b2)
  have q2 := Lib.hid (K.below b2 q1.out)
  clear b2 c7 c8 c9 c10 c11 c12
  have c0 := K.cell q2.out 0 _ rfl
  go_wp2
  go_ret
  exact ⟨rfl, B2.out⟩

set_option maxHeartbeats 2000000 in
theorem moS_4c (frm to : Pf) (w : World) (h1 : decide (frm = Pf.zero) = true) (h2 : decide (to = Pf.zero) = true) : Calls Try.prog 15 #[.agg #[.int .i64 4, .int .i64 frm.base.k, .int .i64 frm.base.a, .int .i64 frm.base.b, .int .i64 frm.base.c, .int .i64 frm.base.d, .int .i64 frm.len, .int .i64 to.base.k, .int .i64 to.base.a, .int .i64 to.base.b, .int .i64 to.base.c, .int .i64 to.base.d, .int .i64 to.len, .int .i64 0, .int .i64 0, .int .i64 0, .int .i64 0]] w fun e w' => e = .returned (.bool true) ∧ Below w.heap.size w w' := by
  have q0 := Lib.hid (K.new w (.cells #[.int .i64 4, .int .i64 frm.base.k, .int .i64 frm.base.a, .int .i64 frm.base.b, .int .i64 frm.base.c, .int .i64 frm.base.d, .int .i64 frm.len, .int .i64 to.base.k, .int .i64 to.base.a, .int .i64 to.base.b, .int .i64 to.base.c, .int .i64 to.base.d, .int .i64 to.len, .int .i64 0, .int .i64 0, .int .i64 0, .int .i64 0] 33))
  have H1 := Lib.hid h1
  have H2 := Lib.hid h2
  clear h1 h2
  go_enter Try.func15, Try.ntmps15
  go_wp2_with fail
  refine Calls.mono (anySB frm true H1.out _) ?_
  rintro e w1 ⟨rfl, b1⟩
  have B1 := Lib.hid (bthen (Joins.below_alloc1 w _) b1)
  have q1 := Lib.hid (K.below b1 q0.out)
  clear b1 
  have c7 := K.cell q1.out 7 _ rfl
  have c8 := K.cell q1.out 8 _ rfl
  have c9 := K.cell q1.out 9 _ rfl
  have c10 := K.cell q1.out 10 _ rfl
  have c11 := K.cell q1.out 11 _ rfl
  have c12 := K.cell q1.out 12 _ rfl
  go_wp2_with fail
  refine Calls.mono (anySB to true H2.out _) ?_
  rintro e w2 ⟨rfl, b2⟩
  have B2 := Lib.hid (bthen B1.out b2)
  have q2 := Lib.hid (K.below b2 q1.out)
  clear b2 c7 c8 c9 c10 c11 c12
  have c0 := K.cell q2.out 0 _ rfl
  go_wp2
  go_ret
  exact ⟨rfl, B2.out⟩

set_option maxHeartbeats 2000000 in
theorem moS_6p (frm to : Pf) (proto lo hi n : Int) (w : World) (hp : ¬ proto = 0) : Calls Try.prog 15 #[.agg #[.int .i64 6, .int .i64 frm.base.k, .int .i64 frm.base.a, .int .i64 frm.base.b, .int .i64 frm.base.c, .int .i64 frm.base.d, .int .i64 frm.len, .int .i64 to.base.k, .int .i64 to.base.a, .int .i64 to.base.b, .int .i64 to.base.c, .int .i64 to.base.d, .int .i64 to.len, .int .i64 proto, .int .i64 lo, .int .i64 hi, .int .i64 n]] w fun e w' => e = .returned (.bool false) ∧ Below w.heap.size w w' := by
  have q0 := Lib.hid (K.new w (.cells #[.int .i64 6, .int .i64 frm.base.k, .int .i64 frm.base.a, .int .i64 frm.base.b, .int .i64 frm.base.c, .int .i64 frm.base.d, .int .i64 frm.len, .int .i64 to.base.k, .int .i64 to.base.a, .int .i64 to.base.b, .int .i64 to.base.c, .int .i64 to.base.d, .int .i64 to.len, .int .i64 proto, .int .i64 lo, .int .i64 hi, .int .i64 n] 33))
  go_enter Try.func15, Try.ntmps15
  go_wp2
  go_ret
  exact ⟨rfl, (Joins.below_alloc1 w _)⟩

set_option maxHeartbeats 2000000 in
theorem moS_6l (frm to : Pf) (lo hi n : Int) (w : World) (hp : ¬ lo = 0) : Calls Try.prog 15 #[.agg #[.int .i64 6, .int .i64 frm.base.k, .int .i64 frm.base.a, .int .i64 frm.base.b, .int .i64 frm.base.c, .int .i64 frm.base.d, .int .i64 frm.len, .int .i64 to.base.k, .int .i64 to.base.a, .int .i64 to.base.b, .int .i64 to.base.c, .int .i64 to.base.d, .int .i64 to.len, .int .i64 0, .int .i64 lo, .int .i64 hi, .int .i64 n]] w fun e w' => e = .returned (.bool false) ∧ Below w.heap.size w w' := by
  have q0 := Lib.hid (K.new w (.cells #[.int .i64 6, .int .i64 frm.base.k, .int .i64 frm.base.a, .int .i64 frm.base.b, .int .i64 frm.base.c, .int .i64 frm.base.d, .int .i64 frm.len, .int .i64 to.base.k, .int .i64 to.base.a, .int .i64 to.base.b, .int .i64 to.base.c, .int .i64 to.base.d, .int .i64 to.len, .int .i64 0, .int .i64 lo, .int .i64 hi, .int .i64 n] 33))
  go_enter Try.func15, Try.ntmps15
  go_wp2
  go_ret
  exact ⟨rfl, (Joins.below_alloc1 w _)⟩

set_option maxHeartbeats 2000000 in
theorem moS_6h (frm to : Pf) (hi n : Int) (w : World) (hp : ¬ hi = 0) : Calls Try.prog 15 #[.agg #[.int .i64 6, .int .i64 frm.base.k, .int .i64 frm.base.a, .int .i64 frm.base.b, .int .i64 frm.base.c, .int .i64 frm.base.d, .int .i64 frm.len, .int .i64 to.base.k, .int .i64 to.base.a, .int .i64 to.base.b, .int .i64 to.base.c, .int .i64 to.base.d, .int .i64 to.len, .int .i64 0, .int .i64 0, .int .i64 hi, .int .i64 n]] w fun e w' => e = .returned (.bool false) ∧ Below w.heap.size w w' := by
  have q0 := Lib.hid (K.new w (.cells #[.int .i64 6, .int .i64 frm.base.k, .int .i64 frm.base.a, .int .i64 frm.base.b, .int .i64 frm.base.c, .int .i64 frm.base.d, .int .i64 frm.len, .int .i64 to.base.k, .int .i64 to.base.a, .int .i64 to.base.b, .int .i64 to.base.c, .int .i64 to.base.d, .int .i64 to.len, .int .i64 0, .int .i64 0, .int .i64 hi, .int .i64 n] 33))
  go_enter Try.func15, Try.ntmps15
  go_wp2
  go_ret
  exact ⟨rfl, (Joins.below_alloc1 w _)⟩

set_option maxHeartbeats 2000000 in
theorem moS_6n (frm to : Pf) (n : Int) (w : World) (hp : ¬ n = 0) : Calls Try.prog 15 #[.agg #[.int .i64 6, .int .i64 frm.base.k, .int .i64 frm.base.a, .int .i64 frm.base.b, .int .i64 frm.base.c, .int .i64 frm.base.d, .int .i64 frm.len, .int .i64 to.base.k, .int .i64 to.base.a, .int .i64 to.base.b, .int .i64 to.base.c, .int .i64 to.base.d, .int .i64 to.len, .int .i64 0, .int .i64 0, .int .i64 0, .int .i64 n]] w fun e w' => e = .returned (.bool false) ∧ Below w.heap.size w w' := by
  have q0 := Lib.hid (K.new w (.cells #[.int .i64 6, .int .i64 frm.base.k, .int .i64 frm.base.a, .int .i64 frm.base.b, .int .i64 frm.base.c, .int .i64 frm.base.d, .int .i64 frm.len, .int .i64 to.base.k, .int .i64 to.base.a, .int .i64 to.base.b, .int .i64 to.base.c, .int .i64 to.base.d, .int .i64 to.len, .int .i64 0, .int .i64 0, .int .i64 0, .int .i64 n] 33))
  go_enter Try.func15, Try.ntmps15
  go_wp2
  go_ret
  exact ⟨rfl, (Joins.below_alloc1 w _)⟩

set_option maxHeartbeats 2000000 in
theorem moS_6a (frm to : Pf) (w : World) (h1 : decide (frm = Pf.zero) = false) : Calls Try.prog 15 #[.agg #[.int .i64 6, .int .i64 frm.base.k, .int .i64 frm.base.a, .int .i64 frm.base.b, .int .i64 frm.base.c, .int .i64 frm.base.d, .int .i64 frm.len, .int .i64 to.base.k, .int .i64 to.base.a, .int .i64 to.base.b, .int .i64 to.base.c, .int .i64 to.base.d, .int .i64 to.len, .int .i64 0, .int .i64 0, .int .i64 0, .int .i64 0]] w fun e w' => e = .returned (.bool false) ∧ Below w.heap.size w w' := by
  have q0 := Lib.hid (K.new w (.cells #[.int .i64 6, .int .i64 frm.base.k, .int .i64 frm.base.a, .int .i64 frm.base.b, .int .i64 frm.base.c, .int .i64 frm.base.d, .int .i64 frm.len, .int .i64 to.base.k, .int .i64 to.base.a, .int .i64 to.base.b, .int .i64 to.base.c, .int .i64 to.base.d, .int .i64 to.len, .int .i64 0, .int .i64 0, .int .i64 0, .int .i64 0] 33))
  have H1 := Lib.hid h1
  clear h1
  go_enter Try.func15, Try.ntmps15
  go_wp2_with fail
  refine Calls.mono (anySB frm false H1.out _) ?_
  rintro e w1 ⟨rfl, b1⟩
  have B1 := Lib.hid (bthen (Joins.below_alloc1 w _) b1)
  have q1 := Lib.hid (K.below b1 q0.out)
  clear b1 
  have c0 := K.cell q1.out 0 _ rfl
  go_wp2
  go_ret
  exact ⟨rfl, B1.out⟩

set_option maxHeartbeats 2000000 in
theorem moS_6b (frm to : Pf) (w : World) (h1 : decide (frm = Pf.zero) = true) (h2 : decide (to = Pf.zero) = false) : Calls Try.prog 15 #[.agg #[.int .i64 6, .int .i64 frm.base.k, .int .i64 frm.base.a, .int .i64 frm.base.b, .int .i64 frm.base.c, .int .i64 frm.base.d, .int .i64 frm.len, .int .i64 to.base.k, .int .i64 to.base.a, .int .i64 to.base.b, .int .i64 to.base.c, .int .i64 to.base.d, .int .i64 to.len, .int .i64 0, .int .i64 0, .int .i64 0, .int .i64 0]] w fun e w' => e = .returned (.bool false) ∧ Below w.heap.size w w' := by
  have q0 := Lib.hid (K.new w (.cells #[.int .i64 6, .int .i64 frm.base.k, .int .i64 frm.base.a, .int .i64 frm.base.b, .int .i64 frm.base.c, .int .i64 frm.base.d, .int .i64 frm.len, .int .i64 to.base.k, .int .i64 to.base.a, .int .i64 to.base.b, .int .i64 to.base.c, .int .i64 to.base.d, .int .i64 to.len, .int .i64 0, .int .i64 0, .int .i64 0, .int .i64 0] 33))
  have H1 := Lib.hid h1
  have H2 := Lib.hid h2
  clear h1 h2
  go_enter Try.func15, Try.ntmps15
  go_wp2_with fail
  refine Calls.mono (anySB frm true H1.out _) ?_
  rintro e w1 ⟨rfl, b1⟩
  have B1 := Lib.hid (bthen (Joins.below_alloc1 w _) b1)
  have q1 := Lib.hid (K.below b1 q0.out)
  clear b1 
  have c7 := K.cell q1.out 7 _ rfl
  have c8 := K.cell q1.out 8 _ rfl
  have c9 := K.cell q1.out 9 _ rfl
  have c10 := K.cell q1.out 10 _ rfl
  have c11 := K.cell q1.out 11 _ rfl
  have c12 := K.cell q1.out 12 _ rfl
  go_wp2_with fail
  refine Calls.mono (anySB to false H2.out _) ?_
  rintro e w2 ⟨rfl, b2⟩
  have B2 := Lib.hid (bthen B1.out b2)
  have q2 := Lib.hid (K.below b2 q1.out)
  clear b2 c7 c8 c9 c10 c11 c12
  have c0 := K.cell q2.out 0 _ rfl
  go_wp2
  go_ret
  exact ⟨rfl, B2.out⟩

set_option maxHeartbeats 2000000 in
theorem moS_6c (frm to : Pf) (w : World) (h1 : decide (frm = Pf.zero) = true) (h2 : decide (to = Pf.zero) = true) : Calls Try.prog 15 #[.agg #[.int .i64 6, .int .i64 frm.base.k, .int .i64 frm.base.a, .int .i64 frm.base.b, .int .i64 frm.base.c, .int .i64 frm.base.d, .int .i64 frm.len, .int .i64 to.base.k, .int .i64 to.base.a, .int .i64 to.base.b, .int .i64 to.base.c, .int .i64 to.base.d, .int .i64 to.len, .int .i64 0, .int .i64 0, .int .i64 0, .int .i64 0]] w fun e w' => e = .returned (.bool true) ∧ Below w.heap.size w w' := by
  have q0 := Lib.hid (K.new w (.cells #[.int .i64 6, .int .i64 frm.base.k, .int .i64 frm.base.a, .int .i64 frm.base.b, .int .i64 frm.base.c, .int .i64 frm.base.d, .int .i64 frm.len, .int .i64 to.base.k, .int .i64 to.base.a, .int .i64 to.base.b, .int .i64 to.base.c, .int .i64 to.base.d, .int .i64 to.len, .int .i64 0, .int .i64 0, .int .i64 0, .int .i64 0] 33))
  have H1 := Lib.hid h1
  have H2 := Lib.hid h2
  clear h1 h2
  go_enter Try.func15, Try.ntmps15
  go_wp2_with fail
  refine Calls.mono (anySB frm true H1.out _) ?_
  rintro e w1 ⟨rfl, b1⟩
  have B1 := Lib.hid (bthen (Joins.below_alloc1 w _) b1)
  have q1 := Lib.hid (K.below b1 q0.out)
  clear b1 
  have c7 := K.cell q1.out 7 _ rfl
  have c8 := K.cell q1.out 8 _ rfl
  have c9 := K.cell q1.out 9 _ rfl
  have c10 := K.cell q1.out 10 _ rfl
  have c11 := K.cell q1.out 11 _ rfl
  have c12 := K.cell q1.out 12 _ rfl
  go_wp2_with fail
  refine Calls.mono (anySB to true H2.out _) ?_
  rintro e w2 ⟨rfl, b2⟩
  have B2 := Lib.hid (bthen B1.out b2)
  have q2 := Lib.hid (K.below b2 q1.out)
  clear b2 c7 c8 c9 c10 c11 c12
  have c0 := K.cell q2.out 0 _ rfl
  go_wp2
  go_ret
  exact ⟨rfl, B2.out⟩
end Go.Proofs.Ytdndanbalmoklaa
