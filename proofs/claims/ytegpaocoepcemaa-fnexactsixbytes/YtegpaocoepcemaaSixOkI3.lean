/-
  SixOk in the program.
-/
import Derived.Test.YtegpaocoepcemaaSixOkX
import Derived.Test.YtegpaocoepcemaaCells16
import Derived.Lib.QuietBelow
import Derived.Deep.QuietTactic
import Derived.BigQuiet
namespace Go.Proofs.Ytegpaocoepcemaa
set_option maxRecDepth 100000
open Go.RowKit

theorem extsOkIB3 (A : Option Addr) (n c : Nat) (ys : List Ey) (b : Bool) (w : World) (hx : XR w w.heap.size A ys) (hl : ys.length = n) (hn : n ≤ 1048576) (hb : bodies ys ≤ 1048576) (h : extsOk (ys.map Ey.says) = b) :
    Calls Try.prog 53 #[.slice A n c] w fun e w' => e = .returned (.bool b) ∧ Below w.heap.size w w' := h ▸ extsOkI A n c ys w hx hl hn hb

set_option maxHeartbeats 2000000 in
theorem implSixOk_7 (x : Sh) (A D : Option Addr) (n c m d : Nat) (ys : List Ey) (w : World) (hx : XR w w.heap.size A ys) (hl : ys.length = n) (hn : n ≤ 1048576) (hb : bodies ys ≤ 1048576) (h0 : (upTo x.cls 255) = true) (h1 : (upTo x.label 1048575) = true) (h2 : (upTo x.hops 255) = true) (h3 : (upTo x.proto 255) = true) (h4 : (inner x.proto) = false) (h5 : (adOk6 x.src) = true) (h6 : (adOk6 x.dst) = true) (h7 : (extsOk (ys.map Ey.says)) = false) : Calls Try.prog 19 #[.agg #[.int .i64 x.cls, .int .i64 x.label, .int .i64 x.hops, .int .i64 x.proto, .int .i64 x.src.k, .int .i64 x.src.a, .int .i64 x.src.b, .int .i64 x.src.c, .int .i64 x.src.d, .int .i64 x.dst.k, .int .i64 x.dst.a, .int .i64 x.dst.b, .int .i64 x.dst.c, .int .i64 x.dst.d, .slice A n c, .slice D m d]] w fun e w' => e = .returned (.bool (x.ok (ys.map Ey.says) m)) ∧ Below w.heap.size w w' := by
  obtain ⟨W, hW⟩ : ∃ W, W = w.alloc (.cells #[.int .i64 x.cls, .int .i64 x.label, .int .i64 x.hops, .int .i64 x.proto, .int .i64 x.src.k, .int .i64 x.src.a, .int .i64 x.src.b, .int .i64 x.src.c, .int .i64 x.src.d, .int .i64 x.dst.k, .int .i64 x.dst.a, .int .i64 x.dst.b, .int .i64 x.dst.c, .int .i64 x.dst.d, .slice A n c, .slice D m d] 36) := ⟨_, rfl⟩
  have BW : Below w.heap.size w W := hW ▸ Joins.below_alloc1 w _
  have HX := Lib.hid (fun dr os => (((hx.below BW).more BW.size).below (below_regrown W dr os)).more (below_regrown W dr os).size)
  have C0 := Lib.hid (fun v : World => withinU x.cls 255 _ v h0)
  have C1 := Lib.hid (fun v : World => withinU x.label 1048575 _ v h1)
  have C2 := Lib.hid (fun v : World => withinU x.hops 255 _ v h2)
  have C3 := Lib.hid (fun v : World => withinU x.proto 255 _ v h3)
  have C4 := Lib.hid (fun v : World => innerIB x.proto _ v h4)
  have C5 := Lib.hid (fun v : World => adOk6B x.src _ v h5)
  have C6 := Lib.hid (fun v : World => adOk6B x.dst _ v h6)
  have C7 := Lib.hid (fun (dr : Nat) (os : Array Obj) => (fun dr os => extsOkIB3 A n c ys _ (Go.Sort.grow (redrawn W dr) os) (HX.out dr os) hl hn hb h7) dr os)
  have H := Lib.hid (show x.ok (ys.map Ey.says) m = false by simp [Sh.ok, Sh.small, h7])
  clear hx hl hb h0 h1 h2 h3 h4 h5 h6 h7
  go_enter Try.func19, Try.ntmps19
  go_wp2_with fail
  have q := K.new w (.cells #[.int .i64 x.cls, .int .i64 x.label, .int .i64 x.hops, .int .i64 x.proto, .int .i64 x.src.k, .int .i64 x.src.a, .int .i64 x.src.b, .int .i64 x.src.c, .int .i64 x.src.d, .int .i64 x.dst.k, .int .i64 x.dst.a, .int .i64 x.dst.b, .int .i64 x.dst.c, .int .i64 x.dst.d, .slice A n c, .slice D m d] 36)
  rw [← hW] at q
  obtain ⟨c0, c1, c2, c3, c4, c5, c6, c7, c8, c9, c10, c11, c12, c13, c14, c15⟩ := K.cells16 q
  clear q
  have k0 := cell_regrown c0
  have k1 := cell_regrown c1
  have k2 := cell_regrown c2
  have k3 := cell_regrown c3
  have k4 := cell_regrown c4
  have k5 := cell_regrown c5
  have k6 := cell_regrown c6
  have k7 := cell_regrown c7
  have k8 := cell_regrown c8
  have k9 := cell_regrown c9
  have k10 := cell_regrown c10
  have k11 := cell_regrown c11
  have k12 := cell_regrown c12
  have k13 := cell_regrown c13
  have k14 := cell_regrown c14
  clear c0 c1 c2 c3 c4 c5 c6 c7 c8 c9 c10 c11 c12 c13 c14 c15
  refine wp_region_quiet_below (by kernel_rfl) (by kernel_rfl) ?_
  rw [← hW]
  clear hW
  repeat (go_big_quiet_step (first | (go_at_call 41; with_reducible exact Calls.regrown_of (C0.out _)) | (go_at_call 41; with_reducible exact Calls.regrown_of (C1.out _)) | (go_at_call 41; with_reducible exact Calls.regrown_of (C2.out _)) | (go_at_call 41; with_reducible exact Calls.regrown_of (C3.out _)) | (go_at_call 51; with_reducible exact Calls.regrown_of (C4.out _)) | (go_at_call 52; with_reducible exact Calls.regrown_of (C5.out _)) | (go_at_call 52; with_reducible exact Calls.regrown_of (C6.out _)) | (go_at_call 53; with_reducible exact Calls.regrown_of (C7.out _ _))))
  refine wpQuiet_nil ?_
  intro w3 hw3
  obtain ⟨⟨dq, osq⟩, hw3⟩ := hw3
  have B := below_regrown W dq osq
  rw [← hw3] at B
  clear hw3 k0 k1 k2 k3 k4 k5 k6 k7 k8 k9 k10 k11 k12 k13 k14
  go_wp2
  go_ret
  exact ⟨ret_bool H.out.symm, bthen BW B⟩
end Go.Proofs.Ytegpaocoepcemaa
