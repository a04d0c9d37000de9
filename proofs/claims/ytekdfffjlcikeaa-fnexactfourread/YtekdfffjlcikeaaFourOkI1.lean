/-
  FourOk in the program.
-/
import Derived.Test.YtekdfffjlcikeaaFourOk
import Derived.Lib.QuietBelow
import Derived.Deep.QuietTactic
import Derived.BigQuiet
namespace Go.Proofs.Ytekdfffjlcikeaa
open Go.RowKit

set_option maxRecDepth 100000 in
set_option maxHeartbeats 2000000 in
theorem implFourOk_0 (x : Fh) (A D : Option Addr) (n c m d : Nat) (w : World) (h0 : (upTo x.dscp 63) = false) : Calls Try.prog 16 #[.agg #[.int .i64 x.dscp, .int .i64 x.ecn, .int .i64 x.id, .int .i64 x.flags, .int .i64 x.frag, .int .i64 x.ttl, .int .i64 x.proto, .int .i64 x.src.k, .int .i64 x.src.a, .int .i64 x.src.b, .int .i64 x.src.c, .int .i64 x.src.d, .int .i64 x.dst.k, .int .i64 x.dst.a, .int .i64 x.dst.b, .int .i64 x.dst.c, .int .i64 x.dst.d, .slice A n c, .slice D m d]] w fun e w' => e = .returned (.bool (x.ok n m)) ∧ Below w.heap.size w w' := by
  have C0 := Lib.hid (fun v : World => withinU x.dscp 63 _ v h0)
  have H := Lib.hid (show x.ok n m = false by simp only [Fh.ok, Fh.small, h0, Bool.false_and])
  clear h0
  go_enter Try.func16, Try.ntmps16
  go_wp2_with fail
  have q := K.new w (.cells #[.int .i64 x.dscp, .int .i64 x.ecn, .int .i64 x.id, .int .i64 x.flags, .int .i64 x.frag, .int .i64 x.ttl, .int .i64 x.proto, .int .i64 x.src.k, .int .i64 x.src.a, .int .i64 x.src.b, .int .i64 x.src.c, .int .i64 x.src.d, .int .i64 x.dst.k, .int .i64 x.dst.a, .int .i64 x.dst.b, .int .i64 x.dst.c, .int .i64 x.dst.d, .slice A n c, .slice D m d] 31)
  obtain ⟨c0, c1, c2, c3, c4, c5, c6, c7, c8, c9, c10, c11, c12, c13, c14, c15, c16, c17, c18⟩ := K.cells19 q
  clear q
  have k0 := cell_regrown c0
  clear c0 c1 c2 c3 c4 c5 c6 c7 c8 c9 c10 c11 c12 c13 c14 c15 c16 c17 c18
  refine wp_region_quiet_below (by kernel_rfl) (by kernel_rfl) ?_
  repeat (go_big_quiet_step (first | (go_at_call 39; with_reducible exact Calls.regrown_of (C0.out _))))
  refine wpQuiet_nil ?_
  intro w3 hw3
  obtain ⟨⟨dq, osq⟩, hw3⟩ := hw3
  have B := below_regrown (w.alloc (.cells #[.int .i64 x.dscp, .int .i64 x.ecn, .int .i64 x.id, .int .i64 x.flags, .int .i64 x.frag, .int .i64 x.ttl, .int .i64 x.proto, .int .i64 x.src.k, .int .i64 x.src.a, .int .i64 x.src.b, .int .i64 x.src.c, .int .i64 x.src.d, .int .i64 x.dst.k, .int .i64 x.dst.a, .int .i64 x.dst.b, .int .i64 x.dst.c, .int .i64 x.dst.d, .slice A n c, .slice D m d] 31)) dq osq
  rw [← hw3] at B
  clear hw3 k0
  go_wp2
  go_ret
  exact ⟨ret_bool H.out.symm, bthen (Joins.below_alloc1 w _) B⟩

set_option maxRecDepth 100000 in
set_option maxHeartbeats 2000000 in
theorem implFourOk_1 (x : Fh) (A D : Option Addr) (n c m d : Nat) (w : World) (h0 : (upTo x.dscp 63) = true) (h1 : (upTo x.ecn 3) = false) : Calls Try.prog 16 #[.agg #[.int .i64 x.dscp, .int .i64 x.ecn, .int .i64 x.id, .int .i64 x.flags, .int .i64 x.frag, .int .i64 x.ttl, .int .i64 x.proto, .int .i64 x.src.k, .int .i64 x.src.a, .int .i64 x.src.b, .int .i64 x.src.c, .int .i64 x.src.d, .int .i64 x.dst.k, .int .i64 x.dst.a, .int .i64 x.dst.b, .int .i64 x.dst.c, .int .i64 x.dst.d, .slice A n c, .slice D m d]] w fun e w' => e = .returned (.bool (x.ok n m)) ∧ Below w.heap.size w w' := by
  have C0 := Lib.hid (fun v : World => withinU x.dscp 63 _ v h0)
  have C1 := Lib.hid (fun v : World => withinU x.ecn 3 _ v h1)
  have H := Lib.hid (show x.ok n m = false by simp only [Fh.ok, Fh.small, h1, Bool.and_false, Bool.false_and])
  clear h0 h1
  go_enter Try.func16, Try.ntmps16
  go_wp2_with fail
  have q := K.new w (.cells #[.int .i64 x.dscp, .int .i64 x.ecn, .int .i64 x.id, .int .i64 x.flags, .int .i64 x.frag, .int .i64 x.ttl, .int .i64 x.proto, .int .i64 x.src.k, .int .i64 x.src.a, .int .i64 x.src.b, .int .i64 x.src.c, .int .i64 x.src.d, .int .i64 x.dst.k, .int .i64 x.dst.a, .int .i64 x.dst.b, .int .i64 x.dst.c, .int .i64 x.dst.d, .slice A n c, .slice D m d] 31)
  obtain ⟨c0, c1, c2, c3, c4, c5, c6, c7, c8, c9, c10, c11, c12, c13, c14, c15, c16, c17, c18⟩ := K.cells19 q
  clear q
  have k0 := cell_regrown c0
  have k1 := cell_regrown c1
  clear c0 c1 c2 c3 c4 c5 c6 c7 c8 c9 c10 c11 c12 c13 c14 c15 c16 c17 c18
  refine wp_region_quiet_below (by kernel_rfl) (by kernel_rfl) ?_
  repeat (go_big_quiet_step (first | (go_at_call 39; with_reducible exact Calls.regrown_of (C0.out _)) | (go_at_call 39; with_reducible exact Calls.regrown_of (C1.out _))))
  refine wpQuiet_nil ?_
  intro w3 hw3
  obtain ⟨⟨dq, osq⟩, hw3⟩ := hw3
  have B := below_regrown (w.alloc (.cells #[.int .i64 x.dscp, .int .i64 x.ecn, .int .i64 x.id, .int .i64 x.flags, .int .i64 x.frag, .int .i64 x.ttl, .int .i64 x.proto, .int .i64 x.src.k, .int .i64 x.src.a, .int .i64 x.src.b, .int .i64 x.src.c, .int .i64 x.src.d, .int .i64 x.dst.k, .int .i64 x.dst.a, .int .i64 x.dst.b, .int .i64 x.dst.c, .int .i64 x.dst.d, .slice A n c, .slice D m d] 31)) dq osq
  rw [← hw3] at B
  clear hw3 k0 k1
  go_wp2
  go_ret
  exact ⟨ret_bool H.out.symm, bthen (Joins.below_alloc1 w _) B⟩

set_option maxRecDepth 100000 in
set_option maxHeartbeats 2000000 in
theorem implFourOk_2 (x : Fh) (A D : Option Addr) (n c m d : Nat) (w : World) (h0 : (upTo x.dscp 63) = true) (h1 : (upTo x.ecn 3) = true) (h2 : (upTo x.id 65535) = false) : Calls Try.prog 16 #[.agg #[.int .i64 x.dscp, .int .i64 x.ecn, .int .i64 x.id, .int .i64 x.flags, .int .i64 x.frag, .int .i64 x.ttl, .int .i64 x.proto, .int .i64 x.src.k, .int .i64 x.src.a, .int .i64 x.src.b, .int .i64 x.src.c, .int .i64 x.src.d, .int .i64 x.dst.k, .int .i64 x.dst.a, .int .i64 x.dst.b, .int .i64 x.dst.c, .int .i64 x.dst.d, .slice A n c, .slice D m d]] w fun e w' => e = .returned (.bool (x.ok n m)) ∧ Below w.heap.size w w' := by
  have C0 := Lib.hid (fun v : World => withinU x.dscp 63 _ v h0)
  have C1 := Lib.hid (fun v : World => withinU x.ecn 3 _ v h1)
  have C2 := Lib.hid (fun v : World => withinU x.id 65535 _ v h2)
  have H := Lib.hid (show x.ok n m = false by simp only [Fh.ok, Fh.small, h2, Bool.and_false, Bool.false_and])
  clear h0 h1 h2
  go_enter Try.func16, Try.ntmps16
  go_wp2_with fail
  have q := K.new w (.cells #[.int .i64 x.dscp, .int .i64 x.ecn, .int .i64 x.id, .int .i64 x.flags, .int .i64 x.frag, .int .i64 x.ttl, .int .i64 x.proto, .int .i64 x.src.k, .int .i64 x.src.a, .int .i64 x.src.b, .int .i64 x.src.c, .int .i64 x.src.d, .int .i64 x.dst.k, .int .i64 x.dst.a, .int .i64 x.dst.b, .int .i64 x.dst.c, .int .i64 x.dst.d, .slice A n c, .slice D m d] 31)
  obtain ⟨c0, c1, c2, c3, c4, c5, c6, c7, c8, c9, c10, c11, c12, c13, c14, c15, c16, c17, c18⟩ := K.cells19 q
  clear q
  have k0 := cell_regrown c0
  have k1 := cell_regrown c1
  have k2 := cell_regrown c2
  clear c0 c1 c2 c3 c4 c5 c6 c7 c8 c9 c10 c11 c12 c13 c14 c15 c16 c17 c18
  refine wp_region_quiet_below (by kernel_rfl) (by kernel_rfl) ?_
  repeat (go_big_quiet_step (first | (go_at_call 39; with_reducible exact Calls.regrown_of (C0.out _)) | (go_at_call 39; with_reducible exact Calls.regrown_of (C1.out _)) | (go_at_call 39; with_reducible exact Calls.regrown_of (C2.out _))))
  refine wpQuiet_nil ?_
  intro w3 hw3
  obtain ⟨⟨dq, osq⟩, hw3⟩ := hw3
  have B := below_regrown (w.alloc (.cells #[.int .i64 x.dscp, .int .i64 x.ecn, .int .i64 x.id, .int .i64 x.flags, .int .i64 x.frag, .int .i64 x.ttl, .int .i64 x.proto, .int .i64 x.src.k, .int .i64 x.src.a, .int .i64 x.src.b, .int .i64 x.src.c, .int .i64 x.src.d, .int .i64 x.dst.k, .int .i64 x.dst.a, .int .i64 x.dst.b, .int .i64 x.dst.c, .int .i64 x.dst.d, .slice A n c, .slice D m d] 31)) dq osq
  rw [← hw3] at B
  clear hw3 k0 k1 k2
  go_wp2
  go_ret
  exact ⟨ret_bool H.out.symm, bthen (Joins.below_alloc1 w _) B⟩

set_option maxRecDepth 100000 in
set_option maxHeartbeats 2000000 in
theorem implFourOk_3 (x : Fh) (A D : Option Addr) (n c m d : Nat) (w : World) (h0 : (upTo x.dscp 63) = true) (h1 : (upTo x.ecn 3) = true) (h2 : (upTo x.id 65535) = true) (h3 : (upTo x.flags 7) = false) : Calls Try.prog 16 #[.agg #[.int .i64 x.dscp, .int .i64 x.ecn, .int .i64 x.id, .int .i64 x.flags, .int .i64 x.frag, .int .i64 x.ttl, .int .i64 x.proto, .int .i64 x.src.k, .int .i64 x.src.a, .int .i64 x.src.b, .int .i64 x.src.c, .int .i64 x.src.d, .int .i64 x.dst.k, .int .i64 x.dst.a, .int .i64 x.dst.b, .int .i64 x.dst.c, .int .i64 x.dst.d, .slice A n c, .slice D m d]] w fun e w' => e = .returned (.bool (x.ok n m)) ∧ Below w.heap.size w w' := by
  have C0 := Lib.hid (fun v : World => withinU x.dscp 63 _ v h0)
  have C1 := Lib.hid (fun v : World => withinU x.ecn 3 _ v h1)
  have C2 := Lib.hid (fun v : World => withinU x.id 65535 _ v h2)
  have C3 := Lib.hid (fun v : World => withinU x.flags 7 _ v h3)
  have H := Lib.hid (show x.ok n m = false by simp only [Fh.ok, Fh.small, h3, Bool.and_false, Bool.false_and])
  clear h0 h1 h2 h3
  go_enter Try.func16, Try.ntmps16
  go_wp2_with fail
  have q := K.new w (.cells #[.int .i64 x.dscp, .int .i64 x.ecn, .int .i64 x.id, .int .i64 x.flags, .int .i64 x.frag, .int .i64 x.ttl, .int .i64 x.proto, .int .i64 x.src.k, .int .i64 x.src.a, .int .i64 x.src.b, .int .i64 x.src.c, .int .i64 x.src.d, .int .i64 x.dst.k, .int .i64 x.dst.a, .int .i64 x.dst.b, .int .i64 x.dst.c, .int .i64 x.dst.d, .slice A n c, .slice D m d] 31)
  obtain ⟨c0, c1, c2, c3, c4, c5, c6, c7, c8, c9, c10, c11, c12, c13, c14, c15, c16, c17, c18⟩ := K.cells19 q
  clear q
  have k0 := cell_regrown c0
  have k1 := cell_regrown c1
  have k2 := cell_regrown c2
  have k3 := cell_regrown c3
  clear c0 c1 c2 c3 c4 c5 c6 c7 c8 c9 c10 c11 c12 c13 c14 c15 c16 c17 c18
  refine wp_region_quiet_below (by kernel_rfl) (by kernel_rfl) ?_
  repeat (go_big_quiet_step (first | (go_at_call 39; with_reducible exact Calls.regrown_of (C0.out _)) | (go_at_call 39; with_reducible exact Calls.regrown_of (C1.out _)) | (go_at_call 39; with_reducible exact Calls.regrown_of (C2.out _)) | (go_at_call 39; with_reducible exact Calls.regrown_of (C3.out _))))
  refine wpQuiet_nil ?_
  intro w3 hw3
  obtain ⟨⟨dq, osq⟩, hw3⟩ := hw3
  have B := below_regrown (w.alloc (.cells #[.int .i64 x.dscp, .int .i64 x.ecn, .int .i64 x.id, .int .i64 x.flags, .int .i64 x.frag, .int .i64 x.ttl, .int .i64 x.proto, .int .i64 x.src.k, .int .i64 x.src.a, .int .i64 x.src.b, .int .i64 x.src.c, .int .i64 x.src.d, .int .i64 x.dst.k, .int .i64 x.dst.a, .int .i64 x.dst.b, .int .i64 x.dst.c, .int .i64 x.dst.d, .slice A n c, .slice D m d] 31)) dq osq
  rw [← hw3] at B
  clear hw3 k0 k1 k2 k3
  go_wp2
  go_ret
  exact ⟨ret_bool H.out.symm, bthen (Joins.below_alloc1 w _) B⟩

set_option maxRecDepth 100000 in
set_option maxHeartbeats 2000000 in
theorem implFourOk_4 (x : Fh) (A D : Option Addr) (n c m d : Nat) (w : World) (h0 : (upTo x.dscp 63) = true) (h1 : (upTo x.ecn 3) = true) (h2 : (upTo x.id 65535) = true) (h3 : (upTo x.flags 7) = true) (h4 : (upTo x.frag 8191) = false) : Calls Try.prog 16 #[.agg #[.int .i64 x.dscp, .int .i64 x.ecn, .int .i64 x.id, .int .i64 x.flags, .int .i64 x.frag, .int .i64 x.ttl, .int .i64 x.proto, .int .i64 x.src.k, .int .i64 x.src.a, .int .i64 x.src.b, .int .i64 x.src.c, .int .i64 x.src.d, .int .i64 x.dst.k, .int .i64 x.dst.a, .int .i64 x.dst.b, .int .i64 x.dst.c, .int .i64 x.dst.d, .slice A n c, .slice D m d]] w fun e w' => e = .returned (.bool (x.ok n m)) ∧ Below w.heap.size w w' := by
  have C0 := Lib.hid (fun v : World => withinU x.dscp 63 _ v h0)
  have C1 := Lib.hid (fun v : World => withinU x.ecn 3 _ v h1)
  have C2 := Lib.hid (fun v : World => withinU x.id 65535 _ v h2)
  have C3 := Lib.hid (fun v : World => withinU x.flags 7 _ v h3)
  have C4 := Lib.hid (fun v : World => withinU x.frag 8191 _ v h4)
  have H := Lib.hid (show x.ok n m = false by simp only [Fh.ok, Fh.small, h4, Bool.and_false, Bool.false_and])
  clear h0 h1 h2 h3 h4
  go_enter Try.func16, Try.ntmps16
  go_wp2_with fail
  have q := K.new w (.cells #[.int .i64 x.dscp, .int .i64 x.ecn, .int .i64 x.id, .int .i64 x.flags, .int .i64 x.frag, .int .i64 x.ttl, .int .i64 x.proto, .int .i64 x.src.k, .int .i64 x.src.a, .int .i64 x.src.b, .int .i64 x.src.c, .int .i64 x.src.d, .int .i64 x.dst.k, .int .i64 x.dst.a, .int .i64 x.dst.b, .int .i64 x.dst.c, .int .i64 x.dst.d, .slice A n c, .slice D m d] 31)
  obtain ⟨c0, c1, c2, c3, c4, c5, c6, c7, c8, c9, c10, c11, c12, c13, c14, c15, c16, c17, c18⟩ := K.cells19 q
  clear q
  have k0 := cell_regrown c0
  have k1 := cell_regrown c1
  have k2 := cell_regrown c2
  have k3 := cell_regrown c3
  have k4 := cell_regrown c4
  clear c0 c1 c2 c3 c4 c5 c6 c7 c8 c9 c10 c11 c12 c13 c14 c15 c16 c17 c18
  refine wp_region_quiet_below (by kernel_rfl) (by kernel_rfl) ?_
  repeat (go_big_quiet_step (first | (go_at_call 39; with_reducible exact Calls.regrown_of (C0.out _)) | (go_at_call 39; with_reducible exact Calls.regrown_of (C1.out _)) | (go_at_call 39; with_reducible exact Calls.regrown_of (C2.out _)) | (go_at_call 39; with_reducible exact Calls.regrown_of (C3.out _)) | (go_at_call 39; with_reducible exact Calls.regrown_of (C4.out _))))
  refine wpQuiet_nil ?_
  intro w3 hw3
  obtain ⟨⟨dq, osq⟩, hw3⟩ := hw3
  have B := below_regrown (w.alloc (.cells #[.int .i64 x.dscp, .int .i64 x.ecn, .int .i64 x.id, .int .i64 x.flags, .int .i64 x.frag, .int .i64 x.ttl, .int .i64 x.proto, .int .i64 x.src.k, .int .i64 x.src.a, .int .i64 x.src.b, .int .i64 x.src.c, .int .i64 x.src.d, .int .i64 x.dst.k, .int .i64 x.dst.a, .int .i64 x.dst.b, .int .i64 x.dst.c, .int .i64 x.dst.d, .slice A n c, .slice D m d] 31)) dq osq
  rw [← hw3] at B
  clear hw3 k0 k1 k2 k3 k4
  go_wp2
  go_ret
  exact ⟨ret_bool H.out.symm, bthen (Joins.below_alloc1 w _) B⟩
end Go.Proofs.Ytekdfffjlcikeaa
