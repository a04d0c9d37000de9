/-
  FourOk in the program. FourOk in the program. FourOk in the program. FourOk in the program. FourOk in the program, at every packet.
-/
import Derived.Test.YtegpaocoepcemaaFourOk
import Derived.Lib.QuietBelow
import Derived.Deep.QuietTactic
import Derived.BigQuiet
namespace Go.Proofs.Ytegpaocoepcemaa
set_option maxRecDepth 100000
open Go.RowKit

set_option maxRecDepth 100000 in
set_option maxHeartbeats 2000000 in
theorem implFourOk_0 (x : Fh) (A D : Option Addr) (n c m d : Nat) (w : World) (h0 : (upTo x.dscp 63) = false) : Calls Try.prog 100 #[.agg #[.int .i64 x.dscp, .int .i64 x.ecn, .int .i64 x.id, .int .i64 x.flags, .int .i64 x.frag, .int .i64 x.ttl, .int .i64 x.proto, .int .i64 x.src.k, .int .i64 x.src.a, .int .i64 x.src.b, .int .i64 x.src.c, .int .i64 x.src.d, .int .i64 x.dst.k, .int .i64 x.dst.a, .int .i64 x.dst.b, .int .i64 x.dst.c, .int .i64 x.dst.d, .slice A n c, .slice D m d]] w fun e w' => e = .returned (.bool (x.ok n m)) ∧ Below w.heap.size w w' := by
  have C0 := Lib.hid (fun v : World => withinU x.dscp 63 _ v h0)
  have H := Lib.hid (show x.ok n m = false by simp only [Fh.ok, Fh.small, h0, Bool.false_and])
  clear h0
  go_enter Try.func100, Try.ntmps100
  go_wp2_with fail
  have q := K.new w (.cells #[.int .i64 x.dscp, .int .i64 x.ecn, .int .i64 x.id, .int .i64 x.flags, .int .i64 x.frag, .int .i64 x.ttl, .int .i64 x.proto, .int .i64 x.src.k, .int .i64 x.src.a, .int .i64 x.src.b, .int .i64 x.src.c, .int .i64 x.src.d, .int .i64 x.dst.k, .int .i64 x.dst.a, .int .i64 x.dst.b, .int .i64 x.dst.c, .int .i64 x.dst.d, .slice A n c, .slice D m d] 52)
  obtain ⟨c0, c1, c2, c3, c4, c5, c6, c7, c8, c9, c10, c11, c12, c13, c14, c15, c16, c17, c18⟩ := K.cells19 q
  clear q
  have k0 := cell_regrown c0
  clear c0 c1 c2 c3 c4 c5 c6 c7 c8 c9 c10 c11 c12 c13 c14 c15 c16 c17 c18
  refine wp_region_quiet_below (by kernel_rfl) (by kernel_rfl) ?_
  repeat (go_big_quiet_step (first | (go_at_call 41; with_reducible exact Calls.regrown_of (C0.out _))))
  refine wpQuiet_nil ?_
  intro w3 hw3
  obtain ⟨⟨dq, osq⟩, hw3⟩ := hw3
  have B := below_regrown (w.alloc (.cells #[.int .i64 x.dscp, .int .i64 x.ecn, .int .i64 x.id, .int .i64 x.flags, .int .i64 x.frag, .int .i64 x.ttl, .int .i64 x.proto, .int .i64 x.src.k, .int .i64 x.src.a, .int .i64 x.src.b, .int .i64 x.src.c, .int .i64 x.src.d, .int .i64 x.dst.k, .int .i64 x.dst.a, .int .i64 x.dst.b, .int .i64 x.dst.c, .int .i64 x.dst.d, .slice A n c, .slice D m d] 52)) dq osq
  rw [← hw3] at B
  clear hw3 k0
  go_wp2
  go_ret
  exact ⟨ret_bool H.out.symm, bthen (Joins.below_alloc1 w _) B⟩

set_option maxRecDepth 100000 in
set_option maxHeartbeats 2000000 in
theorem implFourOk_1 (x : Fh) (A D : Option Addr) (n c m d : Nat) (w : World) (h0 : (upTo x.dscp 63) = true) (h1 : (upTo x.ecn 3) = false) : Calls Try.prog 100 #[.agg #[.int .i64 x.dscp, .int .i64 x.ecn, .int .i64 x.id, .int .i64 x.flags, .int .i64 x.frag, .int .i64 x.ttl, .int .i64 x.proto, .int .i64 x.src.k, .int .i64 x.src.a, .int .i64 x.src.b, .int .i64 x.src.c, .int .i64 x.src.d, .int .i64 x.dst.k, .int .i64 x.dst.a, .int .i64 x.dst.b, .int .i64 x.dst.c, .int .i64 x.dst.d, .slice A n c, .slice D m d]] w fun e w' => e = .returned (.bool (x.ok n m)) ∧ Below w.heap.size w w' := by
  have C0 := Lib.hid (fun v : World => withinU x.dscp 63 _ v h0)
  have C1 := Lib.hid (fun v : World => withinU x.ecn 3 _ v h1)
  have H := Lib.hid (show x.ok n m = false by simp only [Fh.ok, Fh.small, h1, Bool.and_false, Bool.false_and])
  clear h0 h1
  go_enter Try.func100, Try.ntmps100
  go_wp2_with fail
  have q := K.new w (.cells #[.int .i64 x.dscp, .int .i64 x.ecn, .int .i64 x.id, .int .i64 x.flags, .int .i64 x.frag, .int .i64 x.ttl, .int .i64 x.proto, .int .i64 x.src.k, .int .i64 x.src.a, .int .i64 x.src.b, .int .i64 x.src.c, .int .i64 x.src.d, .int .i64 x.dst.k, .int .i64 x.dst.a, .int .i64 x.dst.b, .int .i64 x.dst.c, .int .i64 x.dst.d, .slice A n c, .slice D m d] 52)
  obtain ⟨c0, c1, c2, c3, c4, c5, c6, c7, c8, c9, c10, c11, c12, c13, c14, c15, c16, c17, c18⟩ := K.cells19 q
  clear q
  have k0 := cell_regrown c0
  have k1 := cell_regrown c1
  clear c0 c1 c2 c3 c4 c5 c6 c7 c8 c9 c10 c11 c12 c13 c14 c15 c16 c17 c18
  refine wp_region_quiet_below (by kernel_rfl) (by kernel_rfl) ?_
  repeat (go_big_quiet_step (first | (go_at_call 41; with_reducible exact Calls.regrown_of (C0.out _)) | (go_at_call 41; with_reducible exact Calls.regrown_of (C1.out _))))
  refine wpQuiet_nil ?_
  intro w3 hw3
  obtain ⟨⟨dq, osq⟩, hw3⟩ := hw3
  have B := below_regrown (w.alloc (.cells #[.int .i64 x.dscp, .int .i64 x.ecn, .int .i64 x.id, .int .i64 x.flags, .int .i64 x.frag, .int .i64 x.ttl, .int .i64 x.proto, .int .i64 x.src.k, .int .i64 x.src.a, .int .i64 x.src.b, .int .i64 x.src.c, .int .i64 x.src.d, .int .i64 x.dst.k, .int .i64 x.dst.a, .int .i64 x.dst.b, .int .i64 x.dst.c, .int .i64 x.dst.d, .slice A n c, .slice D m d] 52)) dq osq
  rw [← hw3] at B
  clear hw3 k0 k1
  go_wp2
  go_ret
  exact ⟨ret_bool H.out.symm, bthen (Joins.below_alloc1 w _) B⟩

set_option maxRecDepth 100000 in
set_option maxHeartbeats 2000000 in
theorem implFourOk_2 (x : Fh) (A D : Option Addr) (n c m d : Nat) (w : World) (h0 : (upTo x.dscp 63) = true) (h1 : (upTo x.ecn 3) = true) (h2 : (upTo x.id 65535) = false) : Calls Try.prog 100 #[.agg #[.int .i64 x.dscp, .int .i64 x.ecn, .int .i64 x.id, .int .i64 x.flags, .int .i64 x.frag, .int .i64 x.ttl, .int .i64 x.proto, .int .i64 x.src.k, .int .i64 x.src.a, .int .i64 x.src.b, .int .i64 x.src.c, .int .i64 x.src.d, .int .i64 x.dst.k, .int .i64 x.dst.a, .int .i64 x.dst.b, .int .i64 x.dst.c, .int .i64 x.dst.d, .slice A n c, .slice D m d]] w fun e w' => e = .returned (.bool (x.ok n m)) ∧ Below w.heap.size w w' := by
  have C0 := Lib.hid (fun v : World => withinU x.dscp 63 _ v h0)
  have C1 := Lib.hid (fun v : World => withinU x.ecn 3 _ v h1)
  have C2 := Lib.hid (fun v : World => withinU x.id 65535 _ v h2)
  have H := Lib.hid (show x.ok n m = false by simp only [Fh.ok, Fh.small, h2, Bool.and_false, Bool.false_and])
  clear h0 h1 h2
  go_enter Try.func100, Try.ntmps100
  go_wp2_with fail
  have q := K.new w (.cells #[.int .i64 x.dscp, .int .i64 x.ecn, .int .i64 x.id, .int .i64 x.flags, .int .i64 x.frag, .int .i64 x.ttl, .int .i64 x.proto, .int .i64 x.src.k, .int .i64 x.src.a, .int .i64 x.src.b, .int .i64 x.src.c, .int .i64 x.src.d, .int .i64 x.dst.k, .int .i64 x.dst.a, .int .i64 x.dst.b, .int .i64 x.dst.c, .int .i64 x.dst.d, .slice A n c, .slice D m d] 52)
  obtain ⟨c0, c1, c2, c3, c4, c5, c6, c7, c8, c9, c10, c11, c12, c13, c14, c15, c16, c17, c18⟩ := K.cells19 q
  clear q
  have k0 := cell_regrown c0
  have k1 := cell_regrown c1
  have k2 := cell_regrown c2
  clear c0 c1 c2 c3 c4 c5 c6 c7 c8 c9 c10 c11 c12 c13 c14 c15 c16 c17 c18
  refine wp_region_quiet_below (by kernel_rfl) (by kernel_rfl) ?_
  repeat (go_big_quiet_step (first | (go_at_call 41; with_reducible exact Calls.regrown_of (C0.out _)) | (go_at_call 41; with_reducible exact Calls.regrown_of (C1.out _)) | (go_at_call 41; with_reducible exact Calls.regrown_of (C2.out _))))
  refine wpQuiet_nil ?_
  intro w3 hw3
  obtain ⟨⟨dq, osq⟩, hw3⟩ := hw3
  have B := below_regrown (w.alloc (.cells #[.int .i64 x.dscp, .int .i64 x.ecn, .int .i64 x.id, .int .i64 x.flags, .int .i64 x.frag, .int .i64 x.ttl, .int .i64 x.proto, .int .i64 x.src.k, .int .i64 x.src.a, .int .i64 x.src.b, .int .i64 x.src.c, .int .i64 x.src.d, .int .i64 x.dst.k, .int .i64 x.dst.a, .int .i64 x.dst.b, .int .i64 x.dst.c, .int .i64 x.dst.d, .slice A n c, .slice D m d] 52)) dq osq
  rw [← hw3] at B
  clear hw3 k0 k1 k2
  go_wp2
  go_ret
  exact ⟨ret_bool H.out.symm, bthen (Joins.below_alloc1 w _) B⟩

set_option maxRecDepth 100000 in
set_option maxHeartbeats 2000000 in
theorem implFourOk_3 (x : Fh) (A D : Option Addr) (n c m d : Nat) (w : World) (h0 : (upTo x.dscp 63) = true) (h1 : (upTo x.ecn 3) = true) (h2 : (upTo x.id 65535) = true) (h3 : (upTo x.flags 7) = false) : Calls Try.prog 100 #[.agg #[.int .i64 x.dscp, .int .i64 x.ecn, .int .i64 x.id, .int .i64 x.flags, .int .i64 x.frag, .int .i64 x.ttl, .int .i64 x.proto, .int .i64 x.src.k, .int .i64 x.src.a, .int .i64 x.src.b, .int .i64 x.src.c, .int .i64 x.src.d, .int .i64 x.dst.k, .int .i64 x.dst.a, .int .i64 x.dst.b, .int .i64 x.dst.c, .int .i64 x.dst.d, .slice A n c, .slice D m d]] w fun e w' => e = .returned (.bool (x.ok n m)) ∧ Below w.heap.size w w' := by
  have C0 := Lib.hid (fun v : World => withinU x.dscp 63 _ v h0)
  have C1 := Lib.hid (fun v : World => withinU x.ecn 3 _ v h1)
  have C2 := Lib.hid (fun v : World => withinU x.id 65535 _ v h2)
  have C3 := Lib.hid (fun v : World => withinU x.flags 7 _ v h3)
  have H := Lib.hid (show x.ok n m = false by simp only [Fh.ok, Fh.small, h3, Bool.and_false, Bool.false_and])
  clear h0 h1 h2 h3
  go_enter Try.func100, Try.ntmps100
  go_wp2_with fail
  have q := K.new w (.cells #[.int .i64 x.dscp, .int .i64 x.ecn, .int .i64 x.id, .int .i64 x.flags, .int .i64 x.frag, .int .i64 x.ttl, .int .i64 x.proto, .int .i64 x.src.k, .int .i64 x.src.a, .int .i64 x.src.b, .int .i64 x.src.c, .int .i64 x.src.d, .int .i64 x.dst.k, .int .i64 x.dst.a, .int .i64 x.dst.b, .int .i64 x.dst.c, .int .i64 x.dst.d, .slice A n c, .slice D m d] 52)
  obtain ⟨c0, c1, c2, c3, c4, c5, c6, c7, c8, c9, c10, c11, c12, c13, c14, c15, c16, c17, c18⟩ := K.cells19 q
  clear q
  have k0 := cell_regrown c0
  have k1 := cell_regrown c1
  have k2 := cell_regrown c2
  have k3 := cell_regrown c3
  clear c0 c1 c2 c3 c4 c5 c6 c7 c8 c9 c10 c11 c12 c13 c14 c15 c16 c17 c18
  refine wp_region_quiet_below (by kernel_rfl) (by kernel_rfl) ?_
  repeat (go_big_quiet_step (first | (go_at_call 41; with_reducible exact Calls.regrown_of (C0.out _)) | (go_at_call 41; with_reducible exact Calls.regrown_of (C1.out _)) | (go_at_call 41; with_reducible exact Calls.regrown_of (C2.out _)) | (go_at_call 41; with_reducible exact Calls.regrown_of (C3.out _))))
  refine wpQuiet_nil ?_
  intro w3 hw3
  obtain ⟨⟨dq, osq⟩, hw3⟩ := hw3
  have B := below_regrown (w.alloc (.cells #[.int .i64 x.dscp, .int .i64 x.ecn, .int .i64 x.id, .int .i64 x.flags, .int .i64 x.frag, .int .i64 x.ttl, .int .i64 x.proto, .int .i64 x.src.k, .int .i64 x.src.a, .int .i64 x.src.b, .int .i64 x.src.c, .int .i64 x.src.d, .int .i64 x.dst.k, .int .i64 x.dst.a, .int .i64 x.dst.b, .int .i64 x.dst.c, .int .i64 x.dst.d, .slice A n c, .slice D m d] 52)) dq osq
  rw [← hw3] at B
  clear hw3 k0 k1 k2 k3
  go_wp2
  go_ret
  exact ⟨ret_bool H.out.symm, bthen (Joins.below_alloc1 w _) B⟩

set_option maxRecDepth 100000 in
set_option maxHeartbeats 2000000 in
theorem implFourOk_4 (x : Fh) (A D : Option Addr) (n c m d : Nat) (w : World) (h0 : (upTo x.dscp 63) = true) (h1 : (upTo x.ecn 3) = true) (h2 : (upTo x.id 65535) = true) (h3 : (upTo x.flags 7) = true) (h4 : (upTo x.frag 8191) = false) : Calls Try.prog 100 #[.agg #[.int .i64 x.dscp, .int .i64 x.ecn, .int .i64 x.id, .int .i64 x.flags, .int .i64 x.frag, .int .i64 x.ttl, .int .i64 x.proto, .int .i64 x.src.k, .int .i64 x.src.a, .int .i64 x.src.b, .int .i64 x.src.c, .int .i64 x.src.d, .int .i64 x.dst.k, .int .i64 x.dst.a, .int .i64 x.dst.b, .int .i64 x.dst.c, .int .i64 x.dst.d, .slice A n c, .slice D m d]] w fun e w' => e = .returned (.bool (x.ok n m)) ∧ Below w.heap.size w w' := by
  have C0 := Lib.hid (fun v : World => withinU x.dscp 63 _ v h0)
  have C1 := Lib.hid (fun v : World => withinU x.ecn 3 _ v h1)
  have C2 := Lib.hid (fun v : World => withinU x.id 65535 _ v h2)
  have C3 := Lib.hid (fun v : World => withinU x.flags 7 _ v h3)
  have C4 := Lib.hid (fun v : World => withinU x.frag 8191 _ v h4)
  have H := Lib.hid (show x.ok n m = false by simp only [Fh.ok, Fh.small, h4, Bool.and_false, Bool.false_and])
  clear h0 h1 h2 h3 h4
  go_enter Try.func100, Try.ntmps100
  go_wp2_with fail
  have q := K.new w (.cells #[.int .i64 x.dscp, .int .i64 x.ecn, .int .i64 x.id, .int .i64 x.flags, .int .i64 x.frag, .int .i64 x.ttl, .int .i64 x.proto, .int .i64 x.src.k, .int .i64 x.src.a, .int .i64 x.src.b, .int .i64 x.src.c, .int .i64 x.src.d, .int .i64 x.dst.k, .int .i64 x.dst.a, .int .i64 x.dst.b, .int .i64 x.dst.c, .int .i64 x.dst.d, .slice A n c, .slice D m d] 52)
  obtain ⟨c0, c1, c2, c3, c4, c5, c6, c7, c8, c9, c10, c11, c12, c13, c14, c15, c16, c17, c18⟩ := K.cells19 q
  clear q
  have k0 := cell_regrown c0
  have k1 := cell_regrown c1
  have k2 := cell_regrown c2
  have k3 := cell_regrown c3
  have k4 := cell_regrown c4
  clear c0 c1 c2 c3 c4 c5 c6 c7 c8 c9 c10 c11 c12 c13 c14 c15 c16 c17 c18
  refine wp_region_quiet_below (by kernel_rfl) (by kernel_rfl) ?_
  repeat (go_big_quiet_step (first | (go_at_call 41; with_reducible exact Calls.regrown_of (C0.out _)) | (go_at_call 41; with_reducible exact Calls.regrown_of (C1.out _)) | (go_at_call 41; with_reducible exact Calls.regrown_of (C2.out _)) | (go_at_call 41; with_reducible exact Calls.regrown_of (C3.out _)) | (go_at_call 41; with_reducible exact Calls.regrown_of (C4.out _))))
  refine wpQuiet_nil ?_
  intro w3 hw3
  obtain ⟨⟨dq, osq⟩, hw3⟩ := hw3
  have B := below_regrown (w.alloc (.cells #[.int .i64 x.dscp, .int .i64 x.ecn, .int .i64 x.id, .int .i64 x.flags, .int .i64 x.frag, .int .i64 x.ttl, .int .i64 x.proto, .int .i64 x.src.k, .int .i64 x.src.a, .int .i64 x.src.b, .int .i64 x.src.c, .int .i64 x.src.d, .int .i64 x.dst.k, .int .i64 x.dst.a, .int .i64 x.dst.b, .int .i64 x.dst.c, .int .i64 x.dst.d, .slice A n c, .slice D m d] 52)) dq osq
  rw [← hw3] at B
  clear hw3 k0 k1 k2 k3 k4
  go_wp2
  go_ret
  exact ⟨ret_bool H.out.symm, bthen (Joins.below_alloc1 w _) B⟩
end Go.Proofs.Ytegpaocoepcemaa

namespace Go.Proofs.Ytegpaocoepcemaa
set_option maxRecDepth 100000
open Go.RowKit

set_option maxRecDepth 100000 in
set_option maxHeartbeats 2000000 in
theorem implFourOk_5 (x : Fh) (A D : Option Addr) (n c m d : Nat) (w : World) (h0 : (upTo x.dscp 63) = true) (h1 : (upTo x.ecn 3) = true) (h2 : (upTo x.id 65535) = true) (h3 : (upTo x.flags 7) = true) (h4 : (upTo x.frag 8191) = true) (h5 : (upTo x.ttl 255) = false) : Calls Try.prog 100 #[.agg #[.int .i64 x.dscp, .int .i64 x.ecn, .int .i64 x.id, .int .i64 x.flags, .int .i64 x.frag, .int .i64 x.ttl, .int .i64 x.proto, .int .i64 x.src.k, .int .i64 x.src.a, .int .i64 x.src.b, .int .i64 x.src.c, .int .i64 x.src.d, .int .i64 x.dst.k, .int .i64 x.dst.a, .int .i64 x.dst.b, .int .i64 x.dst.c, .int .i64 x.dst.d, .slice A n c, .slice D m d]] w fun e w' => e = .returned (.bool (x.ok n m)) ∧ Below w.heap.size w w' := by
  have C0 := Lib.hid (fun v : World => withinU x.dscp 63 _ v h0)
  have C1 := Lib.hid (fun v : World => withinU x.ecn 3 _ v h1)
  have C2 := Lib.hid (fun v : World => withinU x.id 65535 _ v h2)
  have C3 := Lib.hid (fun v : World => withinU x.flags 7 _ v h3)
  have C4 := Lib.hid (fun v : World => withinU x.frag 8191 _ v h4)
  have C5 := Lib.hid (fun v : World => withinU x.ttl 255 _ v h5)
  have H := Lib.hid (show x.ok n m = false by simp only [Fh.ok, Fh.small, h5, Bool.and_false, Bool.false_and])
  clear h0 h1 h2 h3 h4 h5
  go_enter Try.func100, Try.ntmps100
  go_wp2_with fail
  have q := K.new w (.cells #[.int .i64 x.dscp, .int .i64 x.ecn, .int .i64 x.id, .int .i64 x.flags, .int .i64 x.frag, .int .i64 x.ttl, .int .i64 x.proto, .int .i64 x.src.k, .int .i64 x.src.a, .int .i64 x.src.b, .int .i64 x.src.c, .int .i64 x.src.d, .int .i64 x.dst.k, .int .i64 x.dst.a, .int .i64 x.dst.b, .int .i64 x.dst.c, .int .i64 x.dst.d, .slice A n c, .slice D m d] 52)
  obtain ⟨c0, c1, c2, c3, c4, c5, c6, c7, c8, c9, c10, c11, c12, c13, c14, c15, c16, c17, c18⟩ := K.cells19 q
  clear q
  have k0 := cell_regrown c0
  have k1 := cell_regrown c1
  have k2 := cell_regrown c2
  have k3 := cell_regrown c3
  have k4 := cell_regrown c4
  have k5 := cell_regrown c5
  clear c0 c1 c2 c3 c4 c5 c6 c7 c8 c9 c10 c11 c12 c13 c14 c15 c16 c17 c18
  refine wp_region_quiet_below (by kernel_rfl) (by kernel_rfl) ?_
  repeat (go_big_quiet_step (first | (go_at_call 41; with_reducible exact Calls.regrown_of (C0.out _)) | (go_at_call 41; with_reducible exact Calls.regrown_of (C1.out _)) | (go_at_call 41; with_reducible exact Calls.regrown_of (C2.out _)) | (go_at_call 41; with_reducible exact Calls.regrown_of (C3.out _)) | (go_at_call 41; with_reducible exact Calls.regrown_of (C4.out _)) | (go_at_call 41; with_reducible exact Calls.regrown_of (C5.out _))))
  refine wpQuiet_nil ?_
  intro w3 hw3
  obtain ⟨⟨dq, osq⟩, hw3⟩ := hw3
  have B := below_regrown (w.alloc (.cells #[.int .i64 x.dscp, .int .i64 x.ecn, .int .i64 x.id, .int .i64 x.flags, .int .i64 x.frag, .int .i64 x.ttl, .int .i64 x.proto, .int .i64 x.src.k, .int .i64 x.src.a, .int .i64 x.src.b, .int .i64 x.src.c, .int .i64 x.src.d, .int .i64 x.dst.k, .int .i64 x.dst.a, .int .i64 x.dst.b, .int .i64 x.dst.c, .int .i64 x.dst.d, .slice A n c, .slice D m d] 52)) dq osq
  rw [← hw3] at B
  clear hw3 k0 k1 k2 k3 k4 k5
  go_wp2
  go_ret
  exact ⟨ret_bool H.out.symm, bthen (Joins.below_alloc1 w _) B⟩

set_option maxRecDepth 100000 in
set_option maxHeartbeats 2000000 in
theorem implFourOk_6 (x : Fh) (A D : Option Addr) (n c m d : Nat) (w : World) (h0 : (upTo x.dscp 63) = true) (h1 : (upTo x.ecn 3) = true) (h2 : (upTo x.id 65535) = true) (h3 : (upTo x.flags 7) = true) (h4 : (upTo x.frag 8191) = true) (h5 : (upTo x.ttl 255) = true) (h6 : (upTo x.proto 255) = false) : Calls Try.prog 100 #[.agg #[.int .i64 x.dscp, .int .i64 x.ecn, .int .i64 x.id, .int .i64 x.flags, .int .i64 x.frag, .int .i64 x.ttl, .int .i64 x.proto, .int .i64 x.src.k, .int .i64 x.src.a, .int .i64 x.src.b, .int .i64 x.src.c, .int .i64 x.src.d, .int .i64 x.dst.k, .int .i64 x.dst.a, .int .i64 x.dst.b, .int .i64 x.dst.c, .int .i64 x.dst.d, .slice A n c, .slice D m d]] w fun e w' => e = .returned (.bool (x.ok n m)) ∧ Below w.heap.size w w' := by
  have C0 := Lib.hid (fun v : World => withinU x.dscp 63 _ v h0)
  have C1 := Lib.hid (fun v : World => withinU x.ecn 3 _ v h1)
  have C2 := Lib.hid (fun v : World => withinU x.id 65535 _ v h2)
  have C3 := Lib.hid (fun v : World => withinU x.flags 7 _ v h3)
  have C4 := Lib.hid (fun v : World => withinU x.frag 8191 _ v h4)
  have C5 := Lib.hid (fun v : World => withinU x.ttl 255 _ v h5)
  have C6 := Lib.hid (fun v : World => withinU x.proto 255 _ v h6)
  have H := Lib.hid (show x.ok n m = false by simp only [Fh.ok, Fh.small, h6, Bool.and_false, Bool.false_and])
  clear h0 h1 h2 h3 h4 h5 h6
  go_enter Try.func100, Try.ntmps100
  go_wp2_with fail
  have q := K.new w (.cells #[.int .i64 x.dscp, .int .i64 x.ecn, .int .i64 x.id, .int .i64 x.flags, .int .i64 x.frag, .int .i64 x.ttl, .int .i64 x.proto, .int .i64 x.src.k, .int .i64 x.src.a, .int .i64 x.src.b, .int .i64 x.src.c, .int .i64 x.src.d, .int .i64 x.dst.k, .int .i64 x.dst.a, .int .i64 x.dst.b, .int .i64 x.dst.c, .int .i64 x.dst.d, .slice A n c, .slice D m d] 52)
  obtain ⟨c0, c1, c2, c3, c4, c5, c6, c7, c8, c9, c10, c11, c12, c13, c14, c15, c16, c17, c18⟩ := K.cells19 q
  clear q
  have k0 := cell_regrown c0
  have k1 := cell_regrown c1
  have k2 := cell_regrown c2
  have k3 := cell_regrown c3
  have k4 := cell_regrown c4
  have k5 := cell_regrown c5
  have k6 := cell_regrown c6
  clear c0 c1 c2 c3 c4 c5 c6 c7 c8 c9 c10 c11 c12 c13 c14 c15 c16 c17 c18
  refine wp_region_quiet_below (by kernel_rfl) (by kernel_rfl) ?_
  repeat (go_big_quiet_step (first | (go_at_call 41; with_reducible exact Calls.regrown_of (C0.out _)) | (go_at_call 41; with_reducible exact Calls.regrown_of (C1.out _)) | (go_at_call 41; with_reducible exact Calls.regrown_of (C2.out _)) | (go_at_call 41; with_reducible exact Calls.regrown_of (C3.out _)) | (go_at_call 41; with_reducible exact Calls.regrown_of (C4.out _)) | (go_at_call 41; with_reducible exact Calls.regrown_of (C5.out _)) | (go_at_call 41; with_reducible exact Calls.regrown_of (C6.out _))))
  refine wpQuiet_nil ?_
  intro w3 hw3
  obtain ⟨⟨dq, osq⟩, hw3⟩ := hw3
  have B := below_regrown (w.alloc (.cells #[.int .i64 x.dscp, .int .i64 x.ecn, .int .i64 x.id, .int .i64 x.flags, .int .i64 x.frag, .int .i64 x.ttl, .int .i64 x.proto, .int .i64 x.src.k, .int .i64 x.src.a, .int .i64 x.src.b, .int .i64 x.src.c, .int .i64 x.src.d, .int .i64 x.dst.k, .int .i64 x.dst.a, .int .i64 x.dst.b, .int .i64 x.dst.c, .int .i64 x.dst.d, .slice A n c, .slice D m d] 52)) dq osq
  rw [← hw3] at B
  clear hw3 k0 k1 k2 k3 k4 k5 k6
  go_wp2
  go_ret
  exact ⟨ret_bool H.out.symm, bthen (Joins.below_alloc1 w _) B⟩

set_option maxRecDepth 100000 in
set_option maxHeartbeats 2000000 in
theorem implFourOk_7 (x : Fh) (A D : Option Addr) (n c m d : Nat) (w : World) (h0 : (upTo x.dscp 63) = true) (h1 : (upTo x.ecn 3) = true) (h2 : (upTo x.id 65535) = true) (h3 : (upTo x.flags 7) = true) (h4 : (upTo x.frag 8191) = true) (h5 : (upTo x.ttl 255) = true) (h6 : (upTo x.proto 255) = true) (h7 : (adOk4 x.src) = false) : Calls Try.prog 100 #[.agg #[.int .i64 x.dscp, .int .i64 x.ecn, .int .i64 x.id, .int .i64 x.flags, .int .i64 x.frag, .int .i64 x.ttl, .int .i64 x.proto, .int .i64 x.src.k, .int .i64 x.src.a, .int .i64 x.src.b, .int .i64 x.src.c, .int .i64 x.src.d, .int .i64 x.dst.k, .int .i64 x.dst.a, .int .i64 x.dst.b, .int .i64 x.dst.c, .int .i64 x.dst.d, .slice A n c, .slice D m d]] w fun e w' => e = .returned (.bool (x.ok n m)) ∧ Below w.heap.size w w' := by
  have C0 := Lib.hid (fun v : World => withinU x.dscp 63 _ v h0)
  have C1 := Lib.hid (fun v : World => withinU x.ecn 3 _ v h1)
  have C2 := Lib.hid (fun v : World => withinU x.id 65535 _ v h2)
  have C3 := Lib.hid (fun v : World => withinU x.flags 7 _ v h3)
  have C4 := Lib.hid (fun v : World => withinU x.frag 8191 _ v h4)
  have C5 := Lib.hid (fun v : World => withinU x.ttl 255 _ v h5)
  have C6 := Lib.hid (fun v : World => withinU x.proto 255 _ v h6)
  have C7 := Lib.hid (fun v : World => adOk4B x.src _ v h7)
  have H := Lib.hid (show x.ok n m = false by simp only [Fh.ok, Fh.small, h7, Bool.and_false, Bool.false_and])
  clear h0 h1 h2 h3 h4 h5 h6 h7
  go_enter Try.func100, Try.ntmps100
  go_wp2_with fail
  have q := K.new w (.cells #[.int .i64 x.dscp, .int .i64 x.ecn, .int .i64 x.id, .int .i64 x.flags, .int .i64 x.frag, .int .i64 x.ttl, .int .i64 x.proto, .int .i64 x.src.k, .int .i64 x.src.a, .int .i64 x.src.b, .int .i64 x.src.c, .int .i64 x.src.d, .int .i64 x.dst.k, .int .i64 x.dst.a, .int .i64 x.dst.b, .int .i64 x.dst.c, .int .i64 x.dst.d, .slice A n c, .slice D m d] 52)
  obtain ⟨c0, c1, c2, c3, c4, c5, c6, c7, c8, c9, c10, c11, c12, c13, c14, c15, c16, c17, c18⟩ := K.cells19 q
  clear q
  have k0 := cell_regrown c0
  have k1 := cell_regrown c1
  have k2 := cell_regrown c2
  have k3 := cell_regrown c3
  have k4 := cell_regrown c4
  have k5 := cell_regrown c5
  have k6 := cell_regrown c6
  have k7 := cell_regrown c7
  have k8 := cell_regrown c8
  have k9 := cell_regrown c9
  have k10 := cell_regrown c10
  have k11 := cell_regrown c11
  clear c0 c1 c2 c3 c4 c5 c6 c7 c8 c9 c10 c11 c12 c13 c14 c15 c16 c17 c18
  refine wp_region_quiet_below (by kernel_rfl) (by kernel_rfl) ?_
  repeat (go_big_quiet_step (first | (go_at_call 41; with_reducible exact Calls.regrown_of (C0.out _)) | (go_at_call 41; with_reducible exact Calls.regrown_of (C1.out _)) | (go_at_call 41; with_reducible exact Calls.regrown_of (C2.out _)) | (go_at_call 41; with_reducible exact Calls.regrown_of (C3.out _)) | (go_at_call 41; with_reducible exact Calls.regrown_of (C4.out _)) | (go_at_call 41; with_reducible exact Calls.regrown_of (C5.out _)) | (go_at_call 41; with_reducible exact Calls.regrown_of (C6.out _)) | (go_at_call 113; with_reducible exact Calls.regrown_of (C7.out _))))
  refine wpQuiet_nil ?_
  intro w3 hw3
  obtain ⟨⟨dq, osq⟩, hw3⟩ := hw3
  have B := below_regrown (w.alloc (.cells #[.int .i64 x.dscp, .int .i64 x.ecn, .int .i64 x.id, .int .i64 x.flags, .int .i64 x.frag, .int .i64 x.ttl, .int .i64 x.proto, .int .i64 x.src.k, .int .i64 x.src.a, .int .i64 x.src.b, .int .i64 x.src.c, .int .i64 x.src.d, .int .i64 x.dst.k, .int .i64 x.dst.a, .int .i64 x.dst.b, .int .i64 x.dst.c, .int .i64 x.dst.d, .slice A n c, .slice D m d] 52)) dq osq
  rw [← hw3] at B
  clear hw3 k0 k1 k2 k3 k4 k5 k6 k7 k8 k9 k10 k11
  go_wp2
  go_ret
  exact ⟨ret_bool H.out.symm, bthen (Joins.below_alloc1 w _) B⟩
end Go.Proofs.Ytegpaocoepcemaa

namespace Go.Proofs.Ytegpaocoepcemaa
set_option maxRecDepth 100000
open Go.RowKit

set_option maxRecDepth 100000 in
set_option maxHeartbeats 2000000 in
theorem implFourOk_8 (x : Fh) (A D : Option Addr) (n c m d : Nat) (w : World) (h0 : (upTo x.dscp 63) = true) (h1 : (upTo x.ecn 3) = true) (h2 : (upTo x.id 65535) = true) (h3 : (upTo x.flags 7) = true) (h4 : (upTo x.frag 8191) = true) (h5 : (upTo x.ttl 255) = true) (h6 : (upTo x.proto 255) = true) (h7 : (adOk4 x.src) = true) (h8 : (adOk4 x.dst) = false) : Calls Try.prog 100 #[.agg #[.int .i64 x.dscp, .int .i64 x.ecn, .int .i64 x.id, .int .i64 x.flags, .int .i64 x.frag, .int .i64 x.ttl, .int .i64 x.proto, .int .i64 x.src.k, .int .i64 x.src.a, .int .i64 x.src.b, .int .i64 x.src.c, .int .i64 x.src.d, .int .i64 x.dst.k, .int .i64 x.dst.a, .int .i64 x.dst.b, .int .i64 x.dst.c, .int .i64 x.dst.d, .slice A n c, .slice D m d]] w fun e w' => e = .returned (.bool (x.ok n m)) ∧ Below w.heap.size w w' := by
  have C0 := Lib.hid (fun v : World => withinU x.dscp 63 _ v h0)
  have C1 := Lib.hid (fun v : World => withinU x.ecn 3 _ v h1)
  have C2 := Lib.hid (fun v : World => withinU x.id 65535 _ v h2)
  have C3 := Lib.hid (fun v : World => withinU x.flags 7 _ v h3)
  have C4 := Lib.hid (fun v : World => withinU x.frag 8191 _ v h4)
  have C5 := Lib.hid (fun v : World => withinU x.ttl 255 _ v h5)
  have C6 := Lib.hid (fun v : World => withinU x.proto 255 _ v h6)
  have C7 := Lib.hid (fun v : World => adOk4B x.src _ v h7)
  have C8 := Lib.hid (fun v : World => adOk4B x.dst _ v h8)
  have H := Lib.hid (show x.ok n m = false by simp only [Fh.ok, Fh.small, h8, Bool.and_false, Bool.false_and])
  clear h0 h1 h2 h3 h4 h5 h6 h7 h8
  go_enter Try.func100, Try.ntmps100
  go_wp2_with fail
  have q := K.new w (.cells #[.int .i64 x.dscp, .int .i64 x.ecn, .int .i64 x.id, .int .i64 x.flags, .int .i64 x.frag, .int .i64 x.ttl, .int .i64 x.proto, .int .i64 x.src.k, .int .i64 x.src.a, .int .i64 x.src.b, .int .i64 x.src.c, .int .i64 x.src.d, .int .i64 x.dst.k, .int .i64 x.dst.a, .int .i64 x.dst.b, .int .i64 x.dst.c, .int .i64 x.dst.d, .slice A n c, .slice D m d] 52)
  obtain ⟨c0, c1, c2, c3, c4, c5, c6, c7, c8, c9, c10, c11, c12, c13, c14, c15, c16, c17, c18⟩ := K.cells19 q
  clear q
  have k0 := cell_regrown c0
  have k1 := cell_regrown c1
  have k2 := cell_regrown c2
  have k3 := cell_regrown c3
  have k4 := cell_regrown c4
  have k5 := cell_regrown c5
  have k6 := cell_regrown c6
  have k7 := cell_regrown c7
  have k8 := cell_regrown c8
  have k9 := cell_regrown c9
  have k10 := cell_regrown c10
  have k11 := cell_regrown c11
  have k12 := cell_regrown c12
  have k13 := cell_regrown c13
  have k14 := cell_regrown c14
  have k15 := cell_regrown c15
  have k16 := cell_regrown c16
  clear c0 c1 c2 c3 c4 c5 c6 c7 c8 c9 c10 c11 c12 c13 c14 c15 c16 c17 c18
  refine wp_region_quiet_below (by kernel_rfl) (by kernel_rfl) ?_
  repeat (go_big_quiet_step (first | (go_at_call 41; with_reducible exact Calls.regrown_of (C0.out _)) | (go_at_call 41; with_reducible exact Calls.regrown_of (C1.out _)) | (go_at_call 41; with_reducible exact Calls.regrown_of (C2.out _)) | (go_at_call 41; with_reducible exact Calls.regrown_of (C3.out _)) | (go_at_call 41; with_reducible exact Calls.regrown_of (C4.out _)) | (go_at_call 41; with_reducible exact Calls.regrown_of (C5.out _)) | (go_at_call 41; with_reducible exact Calls.regrown_of (C6.out _)) | (go_at_call 113; with_reducible exact Calls.regrown_of (C7.out _)) | (go_at_call 113; with_reducible exact Calls.regrown_of (C8.out _))))
  refine wpQuiet_nil ?_
  intro w3 hw3
  obtain ⟨⟨dq, osq⟩, hw3⟩ := hw3
  have B := below_regrown (w.alloc (.cells #[.int .i64 x.dscp, .int .i64 x.ecn, .int .i64 x.id, .int .i64 x.flags, .int .i64 x.frag, .int .i64 x.ttl, .int .i64 x.proto, .int .i64 x.src.k, .int .i64 x.src.a, .int .i64 x.src.b, .int .i64 x.src.c, .int .i64 x.src.d, .int .i64 x.dst.k, .int .i64 x.dst.a, .int .i64 x.dst.b, .int .i64 x.dst.c, .int .i64 x.dst.d, .slice A n c, .slice D m d] 52)) dq osq
  rw [← hw3] at B
  clear hw3 k0 k1 k2 k3 k4 k5 k6 k7 k8 k9 k10 k11 k12 k13 k14 k15 k16
  go_wp2
  go_ret
  exact ⟨ret_bool H.out.symm, bthen (Joins.below_alloc1 w _) B⟩

set_option maxRecDepth 100000 in
set_option maxHeartbeats 2000000 in
theorem implFourOk_9 (x : Fh) (A D : Option Addr) (n c m d : Nat) (w : World) (h0 : (upTo x.dscp 63) = true) (h1 : (upTo x.ecn 3) = true) (h2 : (upTo x.id 65535) = true) (h3 : (upTo x.flags 7) = true) (h4 : (upTo x.frag 8191) = true) (h5 : (upTo x.ttl 255) = true) (h6 : (upTo x.proto 255) = true) (h7 : (adOk4 x.src) = true) (h8 : (adOk4 x.dst) = true) (h9 : (optOk n) = false) : Calls Try.prog 100 #[.agg #[.int .i64 x.dscp, .int .i64 x.ecn, .int .i64 x.id, .int .i64 x.flags, .int .i64 x.frag, .int .i64 x.ttl, .int .i64 x.proto, .int .i64 x.src.k, .int .i64 x.src.a, .int .i64 x.src.b, .int .i64 x.src.c, .int .i64 x.src.d, .int .i64 x.dst.k, .int .i64 x.dst.a, .int .i64 x.dst.b, .int .i64 x.dst.c, .int .i64 x.dst.d, .slice A n c, .slice D m d]] w fun e w' => e = .returned (.bool (x.ok n m)) ∧ Below w.heap.size w w' := by
  have C0 := Lib.hid (fun v : World => withinU x.dscp 63 _ v h0)
  have C1 := Lib.hid (fun v : World => withinU x.ecn 3 _ v h1)
  have C2 := Lib.hid (fun v : World => withinU x.id 65535 _ v h2)
  have C3 := Lib.hid (fun v : World => withinU x.flags 7 _ v h3)
  have C4 := Lib.hid (fun v : World => withinU x.frag 8191 _ v h4)
  have C5 := Lib.hid (fun v : World => withinU x.ttl 255 _ v h5)
  have C6 := Lib.hid (fun v : World => withinU x.proto 255 _ v h6)
  have C7 := Lib.hid (fun v : World => adOk4B x.src _ v h7)
  have C8 := Lib.hid (fun v : World => adOk4B x.dst _ v h8)
  have C9 := Lib.hid (fun v : World => optB A n c _ v h9)
  have H := Lib.hid (show x.ok n m = false by simp only [Fh.ok, Fh.small, h9, Bool.and_false, Bool.false_and])
  clear h0 h1 h2 h3 h4 h5 h6 h7 h8 h9
  go_enter Try.func100, Try.ntmps100
  go_wp2_with fail
  have q := K.new w (.cells #[.int .i64 x.dscp, .int .i64 x.ecn, .int .i64 x.id, .int .i64 x.flags, .int .i64 x.frag, .int .i64 x.ttl, .int .i64 x.proto, .int .i64 x.src.k, .int .i64 x.src.a, .int .i64 x.src.b, .int .i64 x.src.c, .int .i64 x.src.d, .int .i64 x.dst.k, .int .i64 x.dst.a, .int .i64 x.dst.b, .int .i64 x.dst.c, .int .i64 x.dst.d, .slice A n c, .slice D m d] 52)
  obtain ⟨c0, c1, c2, c3, c4, c5, c6, c7, c8, c9, c10, c11, c12, c13, c14, c15, c16, c17, c18⟩ := K.cells19 q
  clear q
  have k0 := cell_regrown c0
  have k1 := cell_regrown c1
  have k2 := cell_regrown c2
  have k3 := cell_regrown c3
  have k4 := cell_regrown c4
  have k5 := cell_regrown c5
  have k6 := cell_regrown c6
  have k7 := cell_regrown c7
  have k8 := cell_regrown c8
  have k9 := cell_regrown c9
  have k10 := cell_regrown c10
  have k11 := cell_regrown c11
  have k12 := cell_regrown c12
  have k13 := cell_regrown c13
  have k14 := cell_regrown c14
  have k15 := cell_regrown c15
  have k16 := cell_regrown c16
  have k17 := cell_regrown c17
  clear c0 c1 c2 c3 c4 c5 c6 c7 c8 c9 c10 c11 c12 c13 c14 c15 c16 c17 c18
  refine wp_region_quiet_below (by kernel_rfl) (by kernel_rfl) ?_
  repeat (go_big_quiet_step (first | (go_at_call 41; with_reducible exact Calls.regrown_of (C0.out _)) | (go_at_call 41; with_reducible exact Calls.regrown_of (C1.out _)) | (go_at_call 41; with_reducible exact Calls.regrown_of (C2.out _)) | (go_at_call 41; with_reducible exact Calls.regrown_of (C3.out _)) | (go_at_call 41; with_reducible exact Calls.regrown_of (C4.out _)) | (go_at_call 41; with_reducible exact Calls.regrown_of (C5.out _)) | (go_at_call 41; with_reducible exact Calls.regrown_of (C6.out _)) | (go_at_call 113; with_reducible exact Calls.regrown_of (C7.out _)) | (go_at_call 113; with_reducible exact Calls.regrown_of (C8.out _)) | (go_at_call 114; with_reducible exact Calls.regrown_of (C9.out _))))
  refine wpQuiet_nil ?_
  intro w3 hw3
  obtain ⟨⟨dq, osq⟩, hw3⟩ := hw3
  have B := below_regrown (w.alloc (.cells #[.int .i64 x.dscp, .int .i64 x.ecn, .int .i64 x.id, .int .i64 x.flags, .int .i64 x.frag, .int .i64 x.ttl, .int .i64 x.proto, .int .i64 x.src.k, .int .i64 x.src.a, .int .i64 x.src.b, .int .i64 x.src.c, .int .i64 x.src.d, .int .i64 x.dst.k, .int .i64 x.dst.a, .int .i64 x.dst.b, .int .i64 x.dst.c, .int .i64 x.dst.d, .slice A n c, .slice D m d] 52)) dq osq
  rw [← hw3] at B
  clear hw3 k0 k1 k2 k3 k4 k5 k6 k7 k8 k9 k10 k11 k12 k13 k14 k15 k16 k17
  go_wp2
  go_ret
  exact ⟨ret_bool H.out.symm, bthen (Joins.below_alloc1 w _) B⟩
end Go.Proofs.Ytegpaocoepcemaa

namespace Go.Proofs.Ytegpaocoepcemaa
set_option maxRecDepth 100000
open Go.RowKit

theorem quiet_row {w v : World} {g : Nat} {o : Obj} (hv : ∃ p : Regrown, v = Go.Sort.grow (redrawn w p.d) p.os) (h : w.heap[g]? = some o) : v.heap[g]? = some o := by
  obtain ⟨p, rfl⟩ := hv
  exact K.below (below_regrown w p.d p.os) h
theorem quiet_loadF {C : World → Prop} {o : Oper} {a : Act} {Q : Act → Prop} (x : Operand) (ho : o.op = .load 52 x) (g : Nat) (hx : a.eval x = .pointer (some ⟨g, 0, none⟩)) {t : TypeId} {v0 v1 v2 v3 v4 v5 v6 v7 v8 v9 v10 v11 v12 v13 v14 v15 v16 v17 v18 : Value}
    (hg : ∀ w, C w → w.heap[g]? = some (.cells #[v0, v1, v2, v3, v4, v5, v6, v7, v8, v9, v10, v11, v12, v13, v14, v15, v16, v17, v18] t (0, 0))) (h : Q (a.put o.dst (.agg #[v0, v1, v2, v3, v4, v5, v6, v7, v8, v9, v10, v11, v12, v13, v14, v15, v16, v17, v18]))) : o.quiet Try.prog a C Q := by
  refine ⟨_, fun w hw => ?_, h⟩
  unfold Oper.quietAt execOp
  simp only [ho, hx, Instr.loadAt, Instr.sureAddr, Sem.run_bind, Sem.run_pure, Result.andThen_ok, run_loadVar_row w g t 52 _ (0, 0) _ (hg w hw) Try.underlying52 rfl info_four]
  exact ⟨rfl, rfl⟩

set_option maxRecDepth 100000 in
set_option maxHeartbeats 2000000 in
theorem implFourOk_10 (x : Fh) (A D : Option Addr) (n c m d : Nat) (w : World) (h0 : (upTo x.dscp 63) = true) (h1 : (upTo x.ecn 3) = true) (h2 : (upTo x.id 65535) = true) (h3 : (upTo x.flags 7) = true) (h4 : (upTo x.frag 8191) = true) (h5 : (upTo x.ttl 255) = true) (h6 : (upTo x.proto 255) = true) (h7 : (adOk4 x.src) = true) (h8 : (adOk4 x.dst) = true) (h9 : (optOk n) = true) : Calls Try.prog 100 #[.agg #[.int .i64 x.dscp, .int .i64 x.ecn, .int .i64 x.id, .int .i64 x.flags, .int .i64 x.frag, .int .i64 x.ttl, .int .i64 x.proto, .int .i64 x.src.k, .int .i64 x.src.a, .int .i64 x.src.b, .int .i64 x.src.c, .int .i64 x.src.d, .int .i64 x.dst.k, .int .i64 x.dst.a, .int .i64 x.dst.b, .int .i64 x.dst.c, .int .i64 x.dst.d, .slice A n c, .slice D m d]] w fun e w' => e = .returned (.bool (x.ok n m)) ∧ Below w.heap.size w w' := by
  have C0 := Lib.hid (fun v : World => withinU x.dscp 63 _ v h0)
  have C1 := Lib.hid (fun v : World => withinU x.ecn 3 _ v h1)
  have C2 := Lib.hid (fun v : World => withinU x.id 65535 _ v h2)
  have C3 := Lib.hid (fun v : World => withinU x.flags 7 _ v h3)
  have C4 := Lib.hid (fun v : World => withinU x.frag 8191 _ v h4)
  have C5 := Lib.hid (fun v : World => withinU x.ttl 255 _ v h5)
  have C6 := Lib.hid (fun v : World => withinU x.proto 255 _ v h6)
  have C7 := Lib.hid (fun v : World => adOk4B x.src _ v h7)
  have C8 := Lib.hid (fun v : World => adOk4B x.dst _ v h8)
  have C9 := Lib.hid (fun v : World => optB A n c _ v h9)
  have hn : n ≤ 40 := by simp [optOk] at h9; exact h9.1
  have CH := Lib.hid (fun v : World => fourHeadC x A D n c m d v (by omega))
  have H := Lib.hid (show x.ok n m = decide ((m : Int) ≤ 1500 - (20 + (n : Int))) by simp only [Fh.ok, Fh.small, h0, h1, h2, h3, h4, h5, h6, h7, h8, h9]; rw [Bool.eq_iff_iff]; simp; omega)
  clear h0 h1 h2 h3 h4 h5 h6 h7 h8 h9
  go_enter Try.func100, Try.ntmps100
  go_wp2_with fail
  have q := K.new w (.cells #[.int .i64 x.dscp, .int .i64 x.ecn, .int .i64 x.id, .int .i64 x.flags, .int .i64 x.frag, .int .i64 x.ttl, .int .i64 x.proto, .int .i64 x.src.k, .int .i64 x.src.a, .int .i64 x.src.b, .int .i64 x.src.c, .int .i64 x.src.d, .int .i64 x.dst.k, .int .i64 x.dst.a, .int .i64 x.dst.b, .int .i64 x.dst.c, .int .i64 x.dst.d, .slice A n c, .slice D m d] 52)
  obtain ⟨c0, c1, c2, c3, c4, c5, c6, c7, c8, c9, c10, c11, c12, c13, c14, c15, c16, c17, c18⟩ := K.cells19 q
  clear q
  have QQ := Lib.hid (fun (v : World) (hv : ∃ p : Regrown, v = Go.Sort.grow (redrawn (w.alloc (.cells #[.int .i64 x.dscp, .int .i64 x.ecn, .int .i64 x.id, .int .i64 x.flags, .int .i64 x.frag, .int .i64 x.ttl, .int .i64 x.proto, .int .i64 x.src.k, .int .i64 x.src.a, .int .i64 x.src.b, .int .i64 x.src.c, .int .i64 x.src.d, .int .i64 x.dst.k, .int .i64 x.dst.a, .int .i64 x.dst.b, .int .i64 x.dst.c, .int .i64 x.dst.d, .slice A n c, .slice D m d] 52)) p.d) p.os) => quiet_row hv (K.new w (.cells #[.int .i64 x.dscp, .int .i64 x.ecn, .int .i64 x.id, .int .i64 x.flags, .int .i64 x.frag, .int .i64 x.ttl, .int .i64 x.proto, .int .i64 x.src.k, .int .i64 x.src.a, .int .i64 x.src.b, .int .i64 x.src.c, .int .i64 x.src.d, .int .i64 x.dst.k, .int .i64 x.dst.a, .int .i64 x.dst.b, .int .i64 x.dst.c, .int .i64 x.dst.d, .slice A n c, .slice D m d] 52)))
  have k0 := cell_regrown c0
  have k1 := cell_regrown c1
  have k2 := cell_regrown c2
  have k3 := cell_regrown c3
  have k4 := cell_regrown c4
  have k5 := cell_regrown c5
  have k6 := cell_regrown c6
  have k7 := cell_regrown c7
  have k8 := cell_regrown c8
  have k9 := cell_regrown c9
  have k10 := cell_regrown c10
  have k11 := cell_regrown c11
  have k12 := cell_regrown c12
  have k13 := cell_regrown c13
  have k14 := cell_regrown c14
  have k15 := cell_regrown c15
  have k16 := cell_regrown c16
  have k17 := cell_regrown c17
  have k18 := cell_regrown c18
  clear c0 c1 c2 c3 c4 c5 c6 c7 c8 c9 c10 c11 c12 c13 c14 c15 c16 c17 c18
  refine wp_region_quiet_below (by kernel_rfl) (by kernel_rfl) ?_
  repeat (first | (go_big_quiet_want; refine quiet_loadF _ rfl w.heap.size rfl QQ.out ?_; go_simp; go_big_quiet_on) | go_big_quiet_step (first | (go_at_call 41; with_reducible exact Calls.regrown_of (C0.out _)) | (go_at_call 41; with_reducible exact Calls.regrown_of (C1.out _)) | (go_at_call 41; with_reducible exact Calls.regrown_of (C2.out _)) | (go_at_call 41; with_reducible exact Calls.regrown_of (C3.out _)) | (go_at_call 41; with_reducible exact Calls.regrown_of (C4.out _)) | (go_at_call 41; with_reducible exact Calls.regrown_of (C5.out _)) | (go_at_call 41; with_reducible exact Calls.regrown_of (C6.out _)) | (go_at_call 113; with_reducible exact Calls.regrown_of (C7.out _)) | (go_at_call 113; with_reducible exact Calls.regrown_of (C8.out _)) | (go_at_call 114; with_reducible exact Calls.regrown_of (C9.out _)) | (go_at_call 102; with_reducible exact Calls.regrown_of (CH.out _))))
  refine wpQuiet_nil ?_
  intro w3 hw3
  obtain ⟨⟨dq, osq⟩, hw3⟩ := hw3
  have B := below_regrown (w.alloc (.cells #[.int .i64 x.dscp, .int .i64 x.ecn, .int .i64 x.id, .int .i64 x.flags, .int .i64 x.frag, .int .i64 x.ttl, .int .i64 x.proto, .int .i64 x.src.k, .int .i64 x.src.a, .int .i64 x.src.b, .int .i64 x.src.c, .int .i64 x.src.d, .int .i64 x.dst.k, .int .i64 x.dst.a, .int .i64 x.dst.b, .int .i64 x.dst.c, .int .i64 x.dst.d, .slice A n c, .slice D m d] 52)) dq osq
  rw [← hw3] at B
  clear hw3 k0 k1 k2 k3 k4 k5 k6 k7 k8 k9 k10 k11 k12 k13 k14 k15 k16 k17 k18
  go_wp2
  go_ret
  exact ⟨ret_bool H.out.symm, bthen (Joins.below_alloc1 w _) B⟩
end Go.Proofs.Ytegpaocoepcemaa

namespace Go.Proofs.Ytegpaocoepcemaa
set_option maxRecDepth 100000
open Go.RowKit

theorem implFourOk (x : Fh) (A D : Option Addr) (n c m d : Nat) (w : World) : Calls Try.prog 100 #[.agg #[.int .i64 x.dscp, .int .i64 x.ecn, .int .i64 x.id, .int .i64 x.flags, .int .i64 x.frag, .int .i64 x.ttl, .int .i64 x.proto, .int .i64 x.src.k, .int .i64 x.src.a, .int .i64 x.src.b, .int .i64 x.src.c, .int .i64 x.src.d, .int .i64 x.dst.k, .int .i64 x.dst.a, .int .i64 x.dst.b, .int .i64 x.dst.c, .int .i64 x.dst.d, .slice A n c, .slice D m d]] w fun e w' => e = .returned (.bool (x.ok n m)) ∧ Below w.heap.size w w' := by
  cases h0 : upTo x.dscp 63
  · exact implFourOk_0 x A D n c m d w h0
  cases h1 : upTo x.ecn 3
  · exact implFourOk_1 x A D n c m d w h0 h1
  cases h2 : upTo x.id 65535
  · exact implFourOk_2 x A D n c m d w h0 h1 h2
  cases h3 : upTo x.flags 7
  · exact implFourOk_3 x A D n c m d w h0 h1 h2 h3
  cases h4 : upTo x.frag 8191
  · exact implFourOk_4 x A D n c m d w h0 h1 h2 h3 h4
  cases h5 : upTo x.ttl 255
  · exact implFourOk_5 x A D n c m d w h0 h1 h2 h3 h4 h5
  cases h6 : upTo x.proto 255
  · exact implFourOk_6 x A D n c m d w h0 h1 h2 h3 h4 h5 h6
  cases h7 : adOk4 x.src
  · exact implFourOk_7 x A D n c m d w h0 h1 h2 h3 h4 h5 h6 h7
  cases h8 : adOk4 x.dst
  · exact implFourOk_8 x A D n c m d w h0 h1 h2 h3 h4 h5 h6 h7 h8
  cases h9 : optOk n
  · exact implFourOk_9 x A D n c m d w h0 h1 h2 h3 h4 h5 h6 h7 h8 h9
  exact implFourOk_10 x A D n c m d w h0 h1 h2 h3 h4 h5 h6 h7 h8 h9
end Go.Proofs.Ytegpaocoepcemaa
