/-
  SixOk in the program.
-/
import Derived.Test.YtegpaocoepcemaaSixOkX
import Derived.Test.YtegpaocoepcemaaCells16
import Derived.Lib.QuietBelow
import Derived.Deep.QuietTactic
import Derived.BigQuiet
namespace Go.Proofs.Ytegpaocoepcemaa
set_option maxRecDepth 100000
open Go.RowKit

set_option maxHeartbeats 2000000 in
theorem implSixOk_0 (x : Sh) (A D : Option Addr) (n c m d : Nat) (ys : List Ey) (w : World) (h0 : (upTo x.cls 255) = false) : Calls Try.prog 19 #[.agg #[.int .i64 x.cls, .int .i64 x.label, .int .i64 x.hops, .int .i64 x.proto, .int .i64 x.src.k, .int .i64 x.src.a, .int .i64 x.src.b, .int .i64 x.src.c, .int .i64 x.src.d, .int .i64 x.dst.k, .int .i64 x.dst.a, .int .i64 x.dst.b, .int .i64 x.dst.c, .int .i64 x.dst.d, .slice A n c, .slice D m d]] w fun e w' => e = .returned (.bool (x.ok (ys.map Ey.says) m)) ∧ Below w.heap.size w w' := by
  obtain ⟨W, hW⟩ : ∃ W, W = w.alloc (.cells #[.int .i64 x.cls, .int .i64 x.label, .int .i64 x.hops, .int .i64 x.proto, .int .i64 x.src.k, .int .i64 x.src.a, .int .i64 x.src.b, .int .i64 x.src.c, .int .i64 x.src.d, .int .i64 x.dst.k, .int .i64 x.dst.a, .int .i64 x.dst.b, .int .i64 x.dst.c, .int .i64 x.dst.d, .slice A n c, .slice D m d] 36) := ⟨_, rfl⟩
  have BW : Below w.heap.size w W := hW ▸ Joins.below_alloc1 w _
  have C0 := Lib.hid (fun v : World => withinU x.cls 255 _ v h0)
  have H := Lib.hid (show x.ok (ys.map Ey.says) m = false by simp [Sh.ok, Sh.small, h0])
  clear h0
  go_enter Try.func19, Try.ntmps19
  go_wp2_with fail
  have q := K.new w (.cells #[.int .i64 x.cls, .int .i64 x.label, .int .i64 x.hops, .int .i64 x.proto, .int .i64 x.src.k, .int .i64 x.src.a, .int .i64 x.src.b, .int .i64 x.src.c, .int .i64 x.src.d, .int .i64 x.dst.k, .int .i64 x.dst.a, .int .i64 x.dst.b, .int .i64 x.dst.c, .int .i64 x.dst.d, .slice A n c, .slice D m d] 36)
  rw [← hW] at q
  obtain ⟨c0, c1, c2, c3, c4, c5, c6, c7, c8, c9, c10, c11, c12, c13, c14, c15⟩ := K.cells16 q
  clear q
  have k0 := cell_regrown c0
  clear c0 c1 c2 c3 c4 c5 c6 c7 c8 c9 c10 c11 c12 c13 c14 c15
  refine wp_region_quiet_below (by kernel_rfl) (by kernel_rfl) ?_
  rw [← hW]
  clear hW
  repeat (go_big_quiet_step (first | (go_at_call 41; with_reducible exact Calls.regrown_of (C0.out _))))
  refine wpQuiet_nil ?_
  intro w3 hw3
  obtain ⟨⟨dq, osq⟩, hw3⟩ := hw3
  have B := below_regrown W dq osq
  rw [← hw3] at B
  clear hw3 k0
  go_wp2
  go_ret
  exact ⟨ret_bool H.out.symm, bthen BW B⟩

set_option maxHeartbeats 2000000 in
theorem implSixOk_1 (x : Sh) (A D : Option Addr) (n c m d : Nat) (ys : List Ey) (w : World) (h0 : (upTo x.cls 255) = true) (h1 : (upTo x.label 1048575) = false) : Calls Try.prog 19 #[.agg #[.int .i64 x.cls, .int .i64 x.label, .int .i64 x.hops, .int .i64 x.proto, .int .i64 x.src.k, .int .i64 x.src.a, .int .i64 x.src.b, .int .i64 x.src.c, .int .i64 x.src.d, .int .i64 x.dst.k, .int .i64 x.dst.a, .int .i64 x.dst.b, .int .i64 x.dst.c, .int .i64 x.dst.d, .slice A n c, .slice D m d]] w fun e w' => e = .returned (.bool (x.ok (ys.map Ey.says) m)) ∧ Below w.heap.size w w' := by
  obtain ⟨W, hW⟩ : ∃ W, W = w.alloc (.cells #[.int .i64 x.cls, .int .i64 x.label, .int .i64 x.hops, .int .i64 x.proto, .int .i64 x.src.k, .int .i64 x.src.a, .int .i64 x.src.b, .int .i64 x.src.c, .int .i64 x.src.d, .int .i64 x.dst.k, .int .i64 x.dst.a, .int .i64 x.dst.b, .int .i64 x.dst.c, .int .i64 x.dst.d, .slice A n c, .slice D m d] 36) := ⟨_, rfl⟩
  have BW : Below w.heap.size w W := hW ▸ Joins.below_alloc1 w _
  have C0 := Lib.hid (fun v : World => withinU x.cls 255 _ v h0)
  have C1 := Lib.hid (fun v : World => withinU x.label 1048575 _ v h1)
  have H := Lib.hid (show x.ok (ys.map Ey.says) m = false by simp [Sh.ok, Sh.small, h1])
  clear h0 h1
  go_enter Try.func19, Try.ntmps19
  go_wp2_with fail
  have q := K.new w (.cells #[.int .i64 x.cls, .int .i64 x.label, .int .i64 x.hops, .int .i64 x.proto, .int .i64 x.src.k, .int .i64 x.src.a, .int .i64 x.src.b, .int .i64 x.src.c, .int .i64 x.src.d, .int .i64 x.dst.k, .int .i64 x.dst.a, .int .i64 x.dst.b, .int .i64 x.dst.c, .int .i64 x.dst.d, .slice A n c, .slice D m d] 36)
  rw [← hW] at q
  obtain ⟨c0, c1, c2, c3, c4, c5, c6, c7, c8, c9, c10, c11, c12, c13, c14, c15⟩ := K.cells16 q
  clear q
  have k0 := cell_regrown c0
  have k1 := cell_regrown c1
  clear c0 c1 c2 c3 c4 c5 c6 c7 c8 c9 c10 c11 c12 c13 c14 c15
  refine wp_region_quiet_below (by kernel_rfl) (by kernel_rfl) ?_
  rw [← hW]
  clear hW
  repeat (go_big_quiet_step (first | (go_at_call 41; with_reducible exact Calls.regrown_of (C0.out _)) | (go_at_call 41; with_reducible exact Calls.regrown_of (C1.out _))))
  refine wpQuiet_nil ?_
  intro w3 hw3
  obtain ⟨⟨dq, osq⟩, hw3⟩ := hw3
  have B := below_regrown W dq osq
  rw [← hw3] at B
  clear hw3 k0 k1
  go_wp2
  go_ret
  exact ⟨ret_bool H.out.symm, bthen BW B⟩

set_option maxHeartbeats 2000000 in
theorem implSixOk_2 (x : Sh) (A D : Option Addr) (n c m d : Nat) (ys : List Ey) (w : World) (h0 : (upTo x.cls 255) = true) (h1 : (upTo x.label 1048575) = true) (h2 : (upTo x.hops 255) = false) : Calls Try.prog 19 #[.agg #[.int .i64 x.cls, .int .i64 x.label, .int .i64 x.hops, .int .i64 x.proto, .int .i64 x.src.k, .int .i64 x.src.a, .int .i64 x.src.b, .int .i64 x.src.c, .int .i64 x.src.d, .int .i64 x.dst.k, .int .i64 x.dst.a, .int .i64 x.dst.b, .int .i64 x.dst.c, .int .i64 x.dst.d, .slice A n c, .slice D m d]] w fun e w' => e = .returned (.bool (x.ok (ys.map Ey.says) m)) ∧ Below w.heap.size w w' := by
  obtain ⟨W, hW⟩ : ∃ W, W = w.alloc (.cells #[.int .i64 x.cls, .int .i64 x.label, .int .i64 x.hops, .int .i64 x.proto, .int .i64 x.src.k, .int .i64 x.src.a, .int .i64 x.src.b, .int .i64 x.src.c, .int .i64 x.src.d, .int .i64 x.dst.k, .int .i64 x.dst.a, .int .i64 x.dst.b, .int .i64 x.dst.c, .int .i64 x.dst.d, .slice A n c, .slice D m d] 36) := ⟨_, rfl⟩
  have BW : Below w.heap.size w W := hW ▸ Joins.below_alloc1 w _
  have C0 := Lib.hid (fun v : World => withinU x.cls 255 _ v h0)
  have C1 := Lib.hid (fun v : World => withinU x.label 1048575 _ v h1)
  have C2 := Lib.hid (fun v : World => withinU x.hops 255 _ v h2)
  have H := Lib.hid (show x.ok (ys.map Ey.says) m = false by simp [Sh.ok, Sh.small, h2])
  clear h0 h1 h2
  go_enter Try.func19, Try.ntmps19
  go_wp2_with fail
  have q := K.new w (.cells #[.int .i64 x.cls, .int .i64 x.label, .int .i64 x.hops, .int .i64 x.proto, .int .i64 x.src.k, .int .i64 x.src.a, .int .i64 x.src.b, .int .i64 x.src.c, .int .i64 x.src.d, .int .i64 x.dst.k, .int .i64 x.dst.a, .int .i64 x.dst.b, .int .i64 x.dst.c, .int .i64 x.dst.d, .slice A n c, .slice D m d] 36)
  rw [← hW] at q
  obtain ⟨c0, c1, c2, c3, c4, c5, c6, c7, c8, c9, c10, c11, c12, c13, c14, c15⟩ := K.cells16 q
  clear q
  have k0 := cell_regrown c0
  have k1 := cell_regrown c1
  have k2 := cell_regrown c2
  clear c0 c1 c2 c3 c4 c5 c6 c7 c8 c9 c10 c11 c12 c13 c14 c15
  refine wp_region_quiet_below (by kernel_rfl) (by kernel_rfl) ?_
  rw [← hW]
  clear hW
  repeat (go_big_quiet_step (first | (go_at_call 41; with_reducible exact Calls.regrown_of (C0.out _)) | (go_at_call 41; with_reducible exact Calls.regrown_of (C1.out _)) | (go_at_call 41; with_reducible exact Calls.regrown_of (C2.out _))))
  refine wpQuiet_nil ?_
  intro w3 hw3
  obtain ⟨⟨dq, osq⟩, hw3⟩ := hw3
  have B := below_regrown W dq osq
  rw [← hw3] at B
  clear hw3 k0 k1 k2
  go_wp2
  go_ret
  exact ⟨ret_bool H.out.symm, bthen BW B⟩

set_option maxHeartbeats 2000000 in
theorem implSixOk_3 (x : Sh) (A D : Option Addr) (n c m d : Nat) (ys : List Ey) (w : World) (h0 : (upTo x.cls 255) = true) (h1 : (upTo x.label 1048575) = true) (h2 : (upTo x.hops 255) = true) (h3 : (upTo x.proto 255) = false) : Calls Try.prog 19 #[.agg #[.int .i64 x.cls, .int .i64 x.label, .int .i64 x.hops, .int .i64 x.proto, .int .i64 x.src.k, .int .i64 x.src.a, .int .i64 x.src.b, .int .i64 x.src.c, .int .i64 x.src.d, .int .i64 x.dst.k, .int .i64 x.dst.a, .int .i64 x.dst.b, .int .i64 x.dst.c, .int .i64 x.dst.d, .slice A n c, .slice D m d]] w fun e w' => e = .returned (.bool (x.ok (ys.map Ey.says) m)) ∧ Below w.heap.size w w' := by
  obtain ⟨W, hW⟩ : ∃ W, W = w.alloc (.cells #[.int .i64 x.cls, .int .i64 x.label, .int .i64 x.hops, .int .i64 x.proto, .int .i64 x.src.k, .int .i64 x.src.a, .int .i64 x.src.b, .int .i64 x.src.c, .int .i64 x.src.d, .int .i64 x.dst.k, .int .i64 x.dst.a, .int .i64 x.dst.b, .int .i64 x.dst.c, .int .i64 x.dst.d, .slice A n c, .slice D m d] 36) := ⟨_, rfl⟩
  have BW : Below w.heap.size w W := hW ▸ Joins.below_alloc1 w _
  have C0 := Lib.hid (fun v : World => withinU x.cls 255 _ v h0)
  have C1 := Lib.hid (fun v : World => withinU x.label 1048575 _ v h1)
  have C2 := Lib.hid (fun v : World => withinU x.hops 255 _ v h2)
  have C3 := Lib.hid (fun v : World => withinU x.proto 255 _ v h3)
  have H := Lib.hid (show x.ok (ys.map Ey.says) m = false by simp [Sh.ok, Sh.small, h3])
  clear h0 h1 h2 h3
  go_enter Try.func19, Try.ntmps19
  go_wp2_with fail
  have q := K.new w (.cells #[.int .i64 x.cls, .int .i64 x.label, .int .i64 x.hops, .int .i64 x.proto, .int .i64 x.src.k, .int .i64 x.src.a, .int .i64 x.src.b, .int .i64 x.src.c, .int .i64 x.src.d, .int .i64 x.dst.k, .int .i64 x.dst.a, .int .i64 x.dst.b, .int .i64 x.dst.c, .int .i64 x.dst.d, .slice A n c, .slice D m d] 36)
  rw [← hW] at q
  obtain ⟨c0, c1, c2, c3, c4, c5, c6, c7, c8, c9, c10, c11, c12, c13, c14, c15⟩ := K.cells16 q
  clear q
  have k0 := cell_regrown c0
  have k1 := cell_regrown c1
  have k2 := cell_regrown c2
  have k3 := cell_regrown c3
  clear c0 c1 c2 c3 c4 c5 c6 c7 c8 c9 c10 c11 c12 c13 c14 c15
  refine wp_region_quiet_below (by kernel_rfl) (by kernel_rfl) ?_
  rw [← hW]
  clear hW
  repeat (go_big_quiet_step (first | (go_at_call 41; with_reducible exact Calls.regrown_of (C0.out _)) | (go_at_call 41; with_reducible exact Calls.regrown_of (C1.out _)) | (go_at_call 41; with_reducible exact Calls.regrown_of (C2.out _)) | (go_at_call 41; with_reducible exact Calls.regrown_of (C3.out _))))
  refine wpQuiet_nil ?_
  intro w3 hw3
  obtain ⟨⟨dq, osq⟩, hw3⟩ := hw3
  have B := below_regrown W dq osq
  rw [← hw3] at B
  clear hw3 k0 k1 k2 k3
  go_wp2
  go_ret
  exact ⟨ret_bool H.out.symm, bthen BW B⟩
end Go.Proofs.Ytegpaocoepcemaa
